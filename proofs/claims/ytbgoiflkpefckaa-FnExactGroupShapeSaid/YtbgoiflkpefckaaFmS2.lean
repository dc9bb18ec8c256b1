/- The model's points modulo a prime: fmOn, fmAsked, fmOpposite (written by wip/gen/fms2.py). -/
import Derived.Test.YtbgoiflkpefckaaFmS1
import Derived.Deep.RegionHeld3
import Derived.Deep.DeepCutAuto
import Derived.BigQuiet
import Derived.BigGuard
import Derived.StillTailTactics
namespace Go.Proofs.Ytbgoiflkpefckaa
open Go.RowKit Go.Joins

theorem two_of {xs : List Int} {n : Nat} (hl : xs.length = n) (h2 : n = 2) : ∃ x y, xs = [x, y] := by
  match xs, hl with
  | [], hl => simp at hl; omega
  | [x], hl => simp at hl; omega
  | [x, y], _ => exact ⟨x, y, rfl⟩
  | x :: y :: z :: l, hl => simp at hl; omega
theorem OnL.len {a b : Int} {p : Nat} {xs : List Int} (h : OnL a b p xs) : xs.length = 0 ∨ xs.length = 2 := by
  obtain ⟨s, rfl, _⟩ := h
  rcases s with _ | ⟨x, y⟩
  · left; rfl
  · right; rfl
theorem Rd.two {w : World} {B n : Nat} {A : Option Addr} {x y : Int} (h : Rd w B A n [x, y]) : n = 2 ∧ ∃ b o, A = some ⟨b, o, none⟩ ∧ b < B ∧ w.cell? ⟨b, o, none⟩ = some (.int .i64 x) ∧ w.cell? ⟨b, o + 1, none⟩ = some (.int .i64 y) := by
  obtain ⟨hl, h⟩ := h
  obtain rfl : 2 = n := hl
  obtain ⟨b, o, rfl, hb, hc⟩ := h (by omega)
  exact ⟨rfl, b, o, rfl, hb, hc 0 (by omega), hc 1 (by omega)⟩
theorem fmOn_any {a b : Int} {p : Nat} (G : FG a b p) (A : Option Addr) (n c : Nat) (xs : List Int) (w : World) (h : Rd w w.heap.size A n xs) (B : Bool) (hB : B = true ↔ OnL a b p xs) :
    Calls Try.prog 54 #[.agg #[.int .i64 a, .int .i64 b], .int .i64 (p : Int), .slice A n c] w (GivesB w B) := by
  have h5 := G.five
  have h9 := G.le
  have no : ¬ OnL a b p xs → B = false := fun h => by
    cases B
    · rfl
    · exact absurd (hB.1 rfl) h
  have hl := h.1
  by_cases h0 : n = 0
  · subst h0
    rw [hB.2 ⟨none, List.eq_nil_of_length_eq_zero hl, trivial⟩]
    exact fmOn_0 a b p A c w
  · by_cases h2 : n = 2
    · obtain ⟨x, y, rfl⟩ := two_of hl h2
      obtain ⟨rfl, rb, ro, rfl, hb, r0, r1⟩ := h.two
      by_cases hin : (0 ≤ x ∧ x ≤ (p : Int) - 1) ∧ (0 ≤ y ∧ y ≤ (p : Int) - 1)
      · obtain ⟨X, rfl⟩ : ∃ X : Nat, x = X := ⟨x.toNat, by omega⟩
        obtain ⟨Y, rfl⟩ : ∃ Y : Nat, y = Y := ⟨y.toNat, by omega⟩
        refine fmOn_two G rb ro c X Y w hb r0 r1 (by omega) (by omega) (by simp [allIn]; omega) B ?_
        by_cases he : Y * Y % p = fval a b p X
        · rw [decide_eq_true he]; exact hB.2 ⟨some (X, Y), rfl, by omega, by omega, he⟩
        · rw [decide_eq_false he]
          refine no fun ⟨s, e, hs⟩ => he ?_
          rcases s with _ | ⟨u, v⟩
          · cases e
          · simp only [fl, List.cons.injEq, and_true] at e
            obtain ⟨rfl, rfl⟩ : X = u ∧ Y = v := ⟨by omega, by omega⟩
            exact hs.2.2
      · rw [no fun ⟨s, e, hs⟩ => hin (by
          rcases s with _ | ⟨u, v⟩
          · cases e
          · simp only [fl, List.cons.injEq, and_true] at e
            have h1 := hs.1
            have h2 := hs.2.1
            omega)]
        exact fmOn_out a b p rb ro c x y w hb r0 r1 h9 (by simp only [allIn, List.all_cons, List.all_nil, Bool.and_true]; symm; rw [Bool.and_eq_false_iff]; by_cases hx : 0 ≤ x ∧ x ≤ (p : Int) - 1; right; rw [Bool.and_eq_false_iff]; by_cases hy : 0 ≤ y; right; simp; omega; left; simp; omega; left; rw [Bool.and_eq_false_iff]; by_cases hy : 0 ≤ x; right; simp; omega; left; simp; omega)
    · rw [no fun h => by have := h.len; omega]
      exact fmOn_len a b p n A c w h0 h2

set_option maxHeartbeats 1000000 in
set_option maxRecDepth 100000 in
theorem asked_no (a b p : Int) (R : Option Addr) (n c : Nat) (w : World) (g : ¬ Gd a b p 199) : Calls Try.prog 56 #[.agg #[.int .i64 a, .int .i64 b], .int .i64 p, .slice R n c] w (GivesB w false) := by
  have c1 := fun W => smallS_any a b p W false ⟨fun e => (by cases e), fun e => absurd e g⟩
  replace c1 := Lib.hid c1
  clear g
  have h := Below.refl w.heap.size w
  have hA := below_alloc1 w (.cells #[.int .i64 a, .int .i64 b] 26)
  have hx0 := Box.new w 26 #[.int .i64 a, .int .i64 b]
  replace h := Below.step h hA
  clear hA
  obtain ⟨k00, k01⟩ := hx0.two
  have l0 := hx0.lt
  go_enter Try.func56, Try.ntmps56
  go_wp2_with fail
  refine (c1.out _).mono ?_
  rintro e w1 ⟨rfl, hb⟩
  replace h := Below.step h hb
  replace hx0 := hx0.kept hb
  clear hb k00 k01 l0
  obtain ⟨k00, k01⟩ := hx0.two
  have l0 := hx0.lt
  go_wp2_with fail
  go_ret
  exact ⟨rfl, h⟩


set_option maxHeartbeats 1000000 in
set_option maxRecDepth 100000 in
theorem asked_yes {a b : Int} {p : Nat} (G : FG a b p) (hs : p ≤ 199) (R : Option Addr) (n c : Nat) (xs : List Int) (w : World) (hr : Rd w w.heap.size R n xs) (B : Bool) (hB : B = true ↔ OnL a b p xs) : Calls Try.prog 56 #[.agg #[.int .i64 a, .int .i64 b], .int .i64 (p : Int), .slice R n c] w (GivesB w B) := by
  have c1 := fun W => smallS_any a b (p : Int) W true ⟨fun _ => ⟨p, rfl, G, hs⟩, fun _ => rfl⟩
  have c2 := fun W hR => fmOn_any G R n c xs W hR B hB
  have hrd : ∀ W, Below w.heap.size w W → Rd W W.heap.size R n xs := fun W hW => (hr.below hW).more hW.size
  replace c1 := Lib.hid c1
  replace c2 := Lib.hid c2
  replace hrd := Lib.hid hrd
  clear G hr hB
  have h := Below.refl w.heap.size w
  have hA := below_alloc1 w (.cells #[.int .i64 a, .int .i64 b] 26)
  have hx0 := Box.new w 26 #[.int .i64 a, .int .i64 b]
  replace h := Below.step h hA
  clear hA
  obtain ⟨k00, k01⟩ := hx0.two
  have l0 := hx0.lt
  go_enter Try.func56, Try.ntmps56
  go_wp2_with fail
  refine (c1.out _).mono ?_
  rintro e w1 ⟨rfl, hb⟩
  replace h := Below.step h hb
  replace hx0 := hx0.kept hb
  clear hb k00 k01 l0
  obtain ⟨k00, k01⟩ := hx0.two
  have l0 := hx0.lt
  go_wp2_with fail
  refine (c2.out _ (hrd.out _ h)).mono ?_
  rintro e w2 ⟨rfl, hb⟩
  replace h := Below.step h hb
  replace hx0 := hx0.kept hb
  clear hb k00 k01 l0
  obtain ⟨k00, k01⟩ := hx0.two
  have l0 := hx0.lt
  go_wp2_with fail
  go_ret
  exact ⟨rfl, h⟩


set_option maxHeartbeats 1000000 in
set_option maxRecDepth 100000 in
theorem oppS_0 (p : Nat) (R : Option Addr) (c : Nat) (w : World) : Calls Try.prog 57 #[.int .i64 (p : Int), .slice R 0 c] w (GivesOwn w []) := by
  have h := Below.refl w.heap.size w
  go_enter Try.func57, Try.ntmps57
  go_wp2_with fail
  go_ret
  exact ⟨none, 0, rfl, own_nil _ _, h⟩


theorem own_pair (w : World) (base : Nat) (x y : Int) (h : base ≤ w.heap.size) : Own (w.alloc (.cells #[.int .i64 x, .int .i64 y] 3)) base (.slice (some ⟨w.heap.size, 0, none⟩) [x, y].length 2) [x, y] :=
  World.ownsRow_lit w #[.int .i64 x, .int .i64 y] 2 h (by unfold maxLen; omega) rfl

set_option maxHeartbeats 1000000 in
set_option maxRecDepth 100000 in
theorem oppS_2 (p rb ro c x y : Nat) (w : World) (h5 : 5 ≤ p) (h9 : p ≤ 997) (hb : rb < w.heap.size) (r0 : w.cell? ⟨rb, ro, none⟩ = some (.int .i64 (x : Int))) (r1 : w.cell? ⟨rb, ro + 1, none⟩ = some (.int .i64 (y : Int))) (hy : y < p) : Calls Try.prog 57 #[.int .i64 (p : Int), .slice (some ⟨rb, ro, none⟩) 2 c] w (GivesOwn w [(x : Int), (rs p (-(y : Int)) : Int)]) := by
  have c1 := fun W => smod_any (-(y : Int)) p W ⟨by omega, by omega⟩ (by omega) h9
  replace c1 := Lib.hid c1
  have ew : IntKind.i64.wrap (-(y : Int)) = -(y : Int) := IntWalk.i64_in _ (by omega)
  obtain ⟨N, hN⟩ : ∃ N, N = rs p (-(y : Int)) := ⟨_, rfl⟩
  rw [← hN] at c1 ⊢
  clear hN
  have h := Below.refl w.heap.size w
  have hrr : ∀ W, Below w.heap.size w W → W.cell? ⟨rb, ro, none⟩ = some (.int .i64 (x : Int)) ∧ W.cell? ⟨rb, ro + 1, none⟩ = some (.int .i64 (y : Int)) := fun W hW => ⟨(hW.cell (p := ⟨rb, ro, none⟩) hb).trans r0, (hW.cell (p := ⟨rb, ro + 1, none⟩) hb).trans r1⟩
  replace hrr := Lib.hid hrr
  clear r0 r1
  obtain ⟨r0, r1⟩ := hrr.out _ h
  go_enter Try.func57, Try.ntmps57
  go_wp2_with fail
  go_still_tail 9, (by kernel_rfl)
  still_call (sleft (c1.out _))
  repeat still_step
  refine wpStill_nil ?_
  have hb : Below w.heap.size w w.drew := ⟨rfl, rfl, rfl, Nat.le_refl _, fun _ _ => rfl⟩
  change wpList _ _ _ _ _ w.drew
  generalize w.drew = w1 at *
  replace h := Below.step h hb
  clear hb r0 r1
  obtain ⟨r0, r1⟩ := hrr.out _ h
  go_wp2_with fail
  go_ret
  exact ⟨_, 2, rfl, own_pair w1 w.heap.size (x : Int) (N : Int) h.size, Below.step h (below_alloc1 _ _)⟩


theorem oppS_any {a b : Int} {p : Nat} (G : FG a b p) (s : FP) (hs : FOn a b p s) (A : Option Addr) (n c : Nat) (w : World) (h : Rd w w.heap.size A n (fl s)) :
    Calls Try.prog 57 #[.int .i64 (p : Int), .slice A n c] w (GivesOwn w (fl (fneg p s))) := by
  rcases s with _ | ⟨x, y⟩
  · obtain rfl : 0 = n := h.1
    exact oppS_0 p A c w
  · obtain ⟨rfl, rb, ro, rfl, hb, r0, r1⟩ := h.two
    exact oppS_2 p rb ro c x y w G.five G.le hb r0 r1 hs.2.1
end Go.Proofs.Ytbgoiflkpefckaa
