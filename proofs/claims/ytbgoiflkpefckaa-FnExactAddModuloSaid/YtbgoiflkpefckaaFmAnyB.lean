/- The laws of the functions over points at all arguments (own work). -/
import Derived.Test.YtbgoiflkpefckaaFmLawB
import Derived.Test.YtbgoiflkpefckaaFmLawC
import Derived.Test.YtbgoiflkpefckaaFmLawD
import Derived.Test.YtbgoiflkpefckaaFmX
import Derived.Test.YtbgoiflkpefckaaFmY
namespace Go.Proofs.Ytbgoiflkpefckaa
open Go.RowKit Go.Joins

theorem lawIsPointModulo_any (a b z1 : Int) (R : Option Addr) (n c : Nat) (xs : List Int) (w : World) (_ha : -9223372036854775808 ≤ a ∧ a ≤ 9223372036854775807) (_hb : -9223372036854775808 ≤ b ∧ b ≤ 9223372036854775807) (_h1 : -9223372036854775808 ≤ z1 ∧ z1 ≤ 9223372036854775807) (_hn : n ≤ 9223372036854775807) (hr : Rd w w.heap.size R n xs) :
    Calls Try.prog 6 #[.agg #[.int .i64 a, .int .i64 b], .int .i64 z1, .slice R n c] w fun e w' => e = .returned (.bool true) ∧ Below w.heap.size w w' := by
  by_cases hn : n ≤ 1048576
  · by_cases g : Gd a b z1 199
    · obtain ⟨p, rfl, G, hp⟩ := g
      by_cases ho : OnL a b p xs
      · refine lawIsPointModulo_core a b p R n c xs w hn hr true true (fun W A d h => isPS_yes G hp A _ d xs W h true ⟨fun _ => ho, fun _ => rfl⟩) (fun W A d h => ?_)
        obtain ⟨s, e, hs⟩ := ho
        exact isPI_c G hp A _ d xs W h _ _ _ true fun W' h' => (pof_any G A _ d xs W' h').1 s e hs
      · exact lawIsPointModulo_core a b p R n c xs w hn hr false true (fun W A d h => isPS_yes G hp A _ d xs W h false ⟨fun e => (by cases e), fun e => absurd e ho⟩) (fun W A d h => isPI_c G hp A _ d xs W h _ _ _ false fun W' h' => (pof_any G A _ d xs W' h').2 ho)
    · exact lawIsPointModulo_core a b z1 R n c xs w hn hr false false (fun W A d _ => isPS_no a b z1 A _ d W g) (fun W A d _ => isPI_no a b z1 A _ d W g)
  · exact lawIsPointModulo_long0 a b z1 R n c w hn
theorem lawOrderModulo_any (a b z1 : Int) (R : Option Addr) (n c : Nat) (xs : List Int) (w : World) (_ha : -9223372036854775808 ≤ a ∧ a ≤ 9223372036854775807) (_hb : -9223372036854775808 ≤ b ∧ b ≤ 9223372036854775807) (_h1 : -9223372036854775808 ≤ z1 ∧ z1 ≤ 9223372036854775807) (_hn : n ≤ 9223372036854775807) (hr : Rd w w.heap.size R n xs) :
    Calls Try.prog 10 #[.agg #[.int .i64 a, .int .i64 b], .int .i64 z1, .slice R n c] w fun e w' => e = .returned (.bool true) ∧ Below w.heap.size w w' := by
  by_cases hn : n ≤ 1048576
  · by_cases g : Gd a b z1 199
    · obtain ⟨p, rfl, G, hp⟩ := g
      by_cases ho : OnL a b p xs
      · obtain ⟨s, rfl, hs⟩ := ho
        obtain ⟨n0, h0, h1⟩ := G.order hs
        have h2 : n0 ≤ 1000000 := by have := Nat.mul_le_mul hp hp; omega
        exact lawOrderModulo_core a b p R n c (fl s) w hn hr n0 true (fun W A d h => ordS_yes G hp A _ d s hs W h n0 h0 h2) (fun W A d h => ordI_yes G hp A _ d s hs W h n0 h0 h2)
      · exact lawOrderModulo_core a b p R n c xs w hn hr 0 false (fun W A d h => ordS_off G hp A _ d xs W h ho) (fun W A d h => ordI_off G hp A _ d xs W h ho)
    · exact lawOrderModulo_core a b z1 R n c xs w hn hr 0 false (fun W A d _ => ordS_no a b z1 A _ d W g) (fun W A d _ => ordI_no a b z1 A _ d W g)
  · exact lawOrderModulo_long0 a b z1 R n c w hn
theorem fl_short (s : FP) : (fl s).length ≤ 1048576 := by have := fl_le s; omega
theorem lawOppositeModulo_any (a b z1 : Int) (R : Option Addr) (n c : Nat) (xs : List Int) (w : World) (_ha : -9223372036854775808 ≤ a ∧ a ≤ 9223372036854775807) (_hb : -9223372036854775808 ≤ b ∧ b ≤ 9223372036854775807) (_h1 : -9223372036854775808 ≤ z1 ∧ z1 ≤ 9223372036854775807) (_hn : n ≤ 9223372036854775807) (hr : Rd w w.heap.size R n xs) :
    Calls Try.prog 7 #[.agg #[.int .i64 a, .int .i64 b], .int .i64 z1, .slice R n c] w fun e w' => e = .returned (.bool true) ∧ Below w.heap.size w w' := by
  by_cases hn : n ≤ 1048576
  · by_cases g : Gd a b z1 199
    · obtain ⟨p, rfl, G, hp⟩ := g
      by_cases ho : OnL a b p xs
      · obtain ⟨s, rfl, hs⟩ := ho
        exact lawOppositeModulo_core a b p R n c (fl s) w hn hr _ (fl_short _) true (fun W A d h => oppS_yes G hp A _ d s hs W h) (fun W A d h => oppI_yes G hp A _ d s hs W h)
      · exact lawOppositeModulo_core a b p R n c xs w hn hr [] (by simp) false (fun W A d h => oppS_off G hp A _ d xs W h ho) (fun W A d h => oppI_off G hp A _ d xs W h ho)
    · exact lawOppositeModulo_core a b z1 R n c xs w hn hr [] (by simp) false (fun W A d _ => oppS_no a b z1 A _ d W g) (fun W A d _ => oppI_no a b z1 A _ d W g)
  · exact lawOppositeModulo_long0 a b z1 R n c w hn
theorem lawTimesModulo_any (a b z1 z2 : Int) (R : Option Addr) (n c : Nat) (xs : List Int) (w : World) (_ha : -9223372036854775808 ≤ a ∧ a ≤ 9223372036854775807) (_hb : -9223372036854775808 ≤ b ∧ b ≤ 9223372036854775807) (_h1 : -9223372036854775808 ≤ z1 ∧ z1 ≤ 9223372036854775807) (_h2 : -9223372036854775808 ≤ z2 ∧ z2 ≤ 9223372036854775807) (_hn : n ≤ 9223372036854775807) (hr : Rd w w.heap.size R n xs) :
    Calls Try.prog 9 #[.agg #[.int .i64 a, .int .i64 b], .int .i64 z1, .int .i64 z2, .slice R n c] w fun e w' => e = .returned (.bool true) ∧ Below w.heap.size w w' := by
  by_cases hn : n ≤ 1048576
  · by_cases g : Gd a b z1 199
    · obtain ⟨p, rfl, G, hp⟩ := g
      by_cases ho : OnL a b p xs
      · obtain ⟨s, rfl, hs⟩ := ho
        by_cases k1 : z2 < -1000000000
        · exact lawTimesModulo_core a b p z2 R n c (fl s) w hn hr [] (by simp) false (fun W A d h => timS_far G hp A _ d s hs W h z2 (.inl k1)) (fun W A d h => timI_lo G hp A _ d s hs W h z2 k1)
        · by_cases k2 : 1000000000 < z2
          · exact lawTimesModulo_core a b p z2 R n c (fl s) w hn hr [] (by simp) false (fun W A d h => timS_far G hp A _ d s hs W h z2 (.inr k2)) (fun W A d h => timI_hi G hp A _ d s hs W h z2 k1 k2)
          · by_cases k3 : 0 ≤ z2
            · obtain ⟨N, rfl⟩ : ∃ N : Nat, z2 = N := ⟨z2.toNat, by omega⟩
              exact lawTimesModulo_core a b p N R n c (fl s) w hn hr _ (fl_short _) true (fun W A d h => timS_pos G hp A _ d s hs W h N (by omega)) (fun W A d h => timI_pos G hp A _ d s hs W h N (by omega))
            · obtain ⟨N, hN⟩ : ∃ N : Nat, (N : Int) = -z2 := ⟨(-z2).toNat, by omega⟩
              exact lawTimesModulo_core a b p z2 R n c (fl s) w hn hr _ (fl_short _) true (fun W A d h => timS_neg G hp A _ d s hs W h N (by omega) z2 (by omega) hN) (fun W A d h => timI_neg G hp A _ d s hs W h N (by omega) z2 (by omega) hN)
      · exact lawTimesModulo_core a b p z2 R n c xs w hn hr [] (by simp) false (fun W A d h => timS_off G hp A _ d xs W h ho z2) (fun W A d h => timI_off G hp A _ d xs W h ho z2)
    · exact lawTimesModulo_core a b z1 z2 R n c xs w hn hr [] (by simp) false (fun W A d _ => timS_no a b z1 A _ d W g z2) (fun W A d _ => timI_no a b z1 A _ d W g z2)
  · exact lawTimesModulo_long0 a b z1 z2 R n c w hn
theorem lawAddModulo_any (a b z1 : Int) (R : Option Addr) (n c : Nat) (xs : List Int) (S : Option Addr) (m d : Nat) (ys : List Int) (w : World) (_ha : -9223372036854775808 ≤ a ∧ a ≤ 9223372036854775807) (_hb : -9223372036854775808 ≤ b ∧ b ≤ 9223372036854775807) (_h1 : -9223372036854775808 ≤ z1 ∧ z1 ≤ 9223372036854775807) (_hn : n ≤ 9223372036854775807) (hr : Rd w w.heap.size R n xs) (_hm : m ≤ 9223372036854775807) (ht : Rd w w.heap.size S m ys) :
    Calls Try.prog 8 #[.agg #[.int .i64 a, .int .i64 b], .int .i64 z1, .slice R n c, .slice S m d] w fun e w' => e = .returned (.bool true) ∧ Below w.heap.size w w' := by
  by_cases hn : n ≤ 1048576
  · by_cases hm : m ≤ 1048576
    · by_cases g : Gd a b z1 199
      · obtain ⟨p, rfl, G, hp⟩ := g
        by_cases ho : OnL a b p xs
        · obtain ⟨s, rfl, hs⟩ := ho
          by_cases hu : OnL a b p ys
          · obtain ⟨u, rfl, hu⟩ := hu
            exact lawAddModulo_core a b p R n c (fl s) S m d (fl u) w hn hr hm ht _ (fl_short _) true (fun W A e B f h k => addM_yes G hp A _ e s hs W h B _ f u hu k) (fun W A e B f h k => addI_yes G hp A _ e s hs W h B _ f u hu k)
          · exact lawAddModulo_core a b p R n c (fl s) S m d ys w hn hr hm ht [] (by simp) false (fun W A e B f h k => addM_off2 G hp A _ e s hs W h B _ f ys k hu) (fun W A e B f h k => addI_off2 G hp A _ e s hs W h B _ f ys k hu)
        · refine lawAddModulo_core a b p R n c xs S m d ys w hn hr hm ht [] (by simp) false (fun W A e B f h _ => addM_off1 G hp A _ e xs W h ho B _ f) (fun W A e B f h k => ?_)
          by_cases hu : OnL a b p ys
          · obtain ⟨u, rfl, hu⟩ := hu
            exact addI_off1 G hp A _ e xs W h ho B _ f (fl u) k u true fun W' h' => pmI_yes G hp B _ f W' u hu h'
          · exact addI_off1 G hp A _ e xs W h ho B _ f ys k none false fun W' h' => pmI_off G hp B _ f ys W' hu h'
      · exact lawAddModulo_core a b z1 R n c xs S m d ys w hn hr hm ht [] (by simp) false (fun W A e B f _ _ => addM_no a b z1 A _ e W g B _ f) (fun W A e B f _ _ => addI_no a b z1 A _ e W g B _ f)
    · exact lawAddModulo_long1 a b z1 R n c S m d w hn hm
  · exact lawAddModulo_long0 a b z1 R n c S m d w hn
end Go.Proofs.Ytbgoiflkpefckaa
