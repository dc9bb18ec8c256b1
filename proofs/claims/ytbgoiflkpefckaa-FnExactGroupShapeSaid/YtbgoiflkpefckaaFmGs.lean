/- GroupShape of the model (written by wip/gen/fmgs.py). -/
import Derived.Test.YtbgoiflkpefckaaFmCo
import Derived.Test.YtbgoiflkpefckaaFmKey
import Derived.Test.YtbgoiflkpefckaaCiGcd
import Derived.Deep.RegionHeld3
import Derived.Deep.DeepCutAuto
namespace Go.Proofs.Ytbgoiflkpefckaa
open Go.RowKit Go.Joins

theorem l1MostN (m n : Nat) (w : World) : Calls Try.prog 79 #[.int .i64 (m : Int), .int .i64 (n : Int)] w fun e w' => e = .returned (.int .i64 ((max m n : Nat) : Int)) ∧ w = w' := by
  by_cases h : n < m
  · rw [show max m n = m from by omega]; exact l1Most_left m n w (by omega)
  · rw [show max m n = n from by omega]; exact l1Most_right m n w (by omega)

set_option maxHeartbeats 2000000 in
set_option maxRecDepth 100000 in
theorem shape_any {a b : Int} {p : Nat} (G : FG a b p) (hp : p ≤ 199) (w : World) : Calls Try.prog 67 #[.agg #[.int .i64 a, .int .i64 b], .int .i64 (p : Int)] w (GivesII w ((((plist a b p p).length / omax a p (plist a b p p) : Nat)) : Int) (omax a p (plist a b p p))) := by
  have c2 := fun W => fmPoints_any G W
  have h9 := G.le
  have hpl := plist_len a b p p
  have hpp := Nat.mul_le_mul hp hp
  have hon : ∀ k, k < (plist a b p p).length → FOn a b p ((plist a b p p)[k]?.getD none) := fun k h => plist_at h
  have hOX := omax_le (a := a) (p := p) (B := 39602) (by omega)
  have hom : ∀ k, omax a p ((plist a b p p).take k) ≤ 39602 := fun k => hOX _ fun s hs => by have h1 := (G.ordF_is (plist_on p (Nat.le_refl _) s (List.mem_of_mem_take hs))).2; omega
  obtain ⟨N, hN⟩ : ∃ N, N = (plist a b p p).length := ⟨_, rfl⟩
  have hN6 : N ≤ 1000000 := by omega
  have hq : ((plist a b p p).length : Int).tdiv (omax a p (plist a b p p)) = ((((plist a b p p).length / omax a p (plist a b p p) : Nat)) : Int) := (Int.ofNat_tdiv _ _).symm
  have hone := omax_one a p (plist a b p p)
  have hod : ∀ u, FOn a b p u → FOrd a p u (ordF a p u) ∧ ordF a p u ≤ 39602 := fun u hu => ⟨(G.ordF_is hu).1, by have := (G.ordF_is hu).2; omega⟩
  have ct := fun (m : Nat) (u : FP) (hu : FOn a b p u) (hm : m ≤ 39602) (A : Option Addr) (c : Nat) W hR => timesS_any G m u hu (by omega) A (fl u).length c W hR
  have cr := fun (u : FP) (hu : FOn a b p u) (A : Option Addr) (c : Nat) W hR => orderS_any G u hu (ordF a p u) (G.ordF_is hu).1 (by have := (G.ordF_is hu).2; omega) A (fl u).length c W hR
  generalize plist a b p p = L at *
  replace c2 := Lib.hid c2
  replace hon := Lib.hid hon
  replace hom := Lib.hid hom
  replace hq := Lib.hid hq
  replace hone := Lib.hid hone
  replace hod := Lib.hid hod
  replace ct := Lib.hid ct
  replace cr := Lib.hid cr
  have hNm : N = (L.map fl).length := by rw [List.length_map]; exact hN
  replace hN := Lib.hid hN
  replace hNm := Lib.hid hNm
  clear hpl hpp hOX G
  have h := Below.refl w.heap.size w
  have hA := below_alloc1 w (.cells #[.int .i64 a, .int .i64 b] 26)
  have hx0 := Box.new w 26 #[.int .i64 a, .int .i64 b]
  replace h := Below.step h hA
  clear hA
  obtain ⟨k00, k01⟩ := hx0.two
  have l0 := hx0.lt
  go_enter Try.func67, Try.ntmps67
  go_wp2_with fail
  refine (c2.out _).mono ?_
  rintro e w1 ⟨A1, d1, vs1, rfl, hs1, hb⟩
  replace h := Below.step h hb
  replace hx0 := hx0.kept hb
  clear hb k00 k01 l0
  obtain ⟨k00, k01⟩ := hx0.two
  have l0 := hx0.lt
  have hrp := hs1.rd
  rw [← hNm.out] at hrp ⊢
  have hrdp : ∀ W, Below w1.heap.size w1 W → RdSS W w1.heap.size A1 N (L.map fl) := fun W hW => hrp.below hW
  replace hrdp := Lib.hid hrdp
  clear hrp hs1
  go_wp2_with fail
  clear k00 k01 l0
  go_loopw [7, 15] (fun o x wr => ∃ k : Nat, k ≤ N ∧ o = .int .i64 (omax a p (L.take k)) ∧ x = .int .i64 k ∧ Below w1.heap.size w1 wr ∧ Box wr w.heap.size 26 #[.int .i64 a, .int .i64 b]) (fun _ x _ => N - (intOf x).toNat)
  case atStart => exact ⟨0, by omega, rfl, rfl, Below.refl _ _, hx0⟩
  case round =>
    clear hx0
    obtain ⟨k, hk, rfl, rfl, hbl, hx0⟩ := hrel
    by_cases hlt : k < N
    · obtain ⟨b', o', rfl, hbb, hc⟩ := (hrdp.out _ hbl).2 (by omega)
      obtain ⟨A', c', r0, hrA⟩ := hc k hlt
      rw [fl_get (by rw [← hN.out]; exact hlt)] at r0 hrA
      have hou := hon.out k (by rw [← hN.out]; exact hlt)
      have hsn := take_snoc (L := L) (k := k) (by rw [← hN.out]; exact hlt)
      have hmx : omax a p (L.take (k + 1)) = max (omax a p (L.take k)) (ordF a p (L[k]?.getD none)) := by rw [hsn, omax_snoc]
      have hm1 := omax_one a p (L.take k)
      have hm9 := hom.out k
      clear hsn
      generalize L[k]?.getD none = u at *
      have hrB : ∀ W, Below wr.heap.size wr W → Rd W W.heap.size A' (fl u).length (fl u) := fun W hW => (hrA.below (hW.mono hbl.size)).more (Nat.le_trans hbl.size hW.size)
      generalize omax a p (L.take k) = m at *
      have c3 := ct.out m u hou hm9 A' c'
      have c4 := cr.out u hou A' c'
      obtain ⟨hor, ho9⟩ := hod.out u hou
      generalize ordF a p u = n0 at *
      replace c3 := Lib.hid c3
      replace c4 := Lib.hid c4
      replace hrB := Lib.hid hrB
      clear hou hc hrA
      by_cases hy : fmul a p m u = none
      · have e1 : ((fl (fmul a p m u)).length : Int) = 0 := by rw [hy]; rfl
        have hle : n0 ≤ m := hor.le hm1 hy
        have hct : omax a p (L.take (k + 1)) = m := by rw [hmx]; omega
        have eB : ¬ ((0 : Int) < ((fl (fmul a p m u)).length : Int)) := by omega
        replace hct := Lib.hid hct
        clear hy e1 hor hmx
        generalize fmul a p m u = y at *
        obtain ⟨k00, k01⟩ := hx0.two
        have l0 := hx0.lt
        go_wp2_with fail
        refine (c3.out _ (hrB.out _ (Below.refl _ _))).mono ?_
        rintro e w9 ⟨A2, d2, rfl, ho2, hb⟩
        replace hbl := Below.step hbl hb
        replace hx0 := hx0.kept hb
        have hrC := hrB.out _ hb
        clear ho2 k00 k01 l0 r0 hb
        obtain ⟨k00, k01⟩ := hx0.two
        have l0 := hx0.lt
        go_wp2_with fail
        go_roundw
        case rel => exact ⟨k + 1, by omega, by rw [hct.out], by go_num, hbl, hx0⟩
        case measure => simp [intOf]; omega
      · have e1 : ((fl (fmul a p m u)).length : Int) = 2 := by rw [fl_len hy]; rfl
        have eB : ((0 : Int) < ((fl (fmul a p m u)).length : Int)) := by omega
        have hct : omax a p (L.take (k + 1)) = max m n0 := hmx
        replace hct := Lib.hid hct
        clear hy e1 hor hmx
        generalize fmul a p m u = y at *
        obtain ⟨k00, k01⟩ := hx0.two
        have l0 := hx0.lt
        go_wp2_with fail
        refine (c3.out _ (hrB.out _ (Below.refl _ _))).mono ?_
        rintro e w9 ⟨A2, d2, rfl, ho2, hb⟩
        replace hbl := Below.step hbl hb
        replace hx0 := hx0.kept hb
        have hrC := hrB.out _ hb
        clear ho2 k00 k01 l0 r0 hb
        obtain ⟨k00, k01⟩ := hx0.two
        have l0 := hx0.lt
        go_wp2_with fail
        refine (c4.out _ hrC).mono ?_
        rintro e w10 ⟨rfl, hb⟩
        replace hbl := Below.step hbl hb
        replace hx0 := hx0.kept hb
        clear hb k00 k01 l0 hrC
        go_wp2_with fail
        refine (l1MostN m n0 _).mono ?_
        rintro e w11 ⟨rfl, rfl⟩
        go_wp2_with fail
        go_roundw
        case rel => exact ⟨k + 1, by omega, by rw [hct.out], by go_num, hbl, hx0⟩
        case measure => simp [intOf]; omega
    · have hkn : k = N := by omega
      have hT : L.take k = L := by rw [List.take_of_length_le (by rw [← hN.out]; omega)]
      rw [hT] at *
      rw [← hN.out] at hq
      have hone' := hone.out
      have hm9 := hom.out k
      rw [hT] at hm9
      clear hT
      generalize omax a p L = m at *
      have m0 : ((m : Int) == 0) = false := beq_eq_false_iff_ne.2 (by omega)
      have m1 : (m : Int) ≠ 0 := by omega
      have m2 : m ≠ 0 := by omega
      have hq2 := hq.out
      have hq3 : N / m ≤ N := Nat.div_le_self _ _
      obtain ⟨Q, hQ⟩ : ∃ Q, Q = N / m := ⟨_, rfl⟩
      have e9 : L.length / m = Q := by rw [hQ, hN.out]
      rw [← hQ] at hq2 hq3
      replace e9 := Lib.hid e9
      clear hQ hq
      go_wp2_with fail
      go_ret2
      exact ⟨by rw [e9.out]; first | done | rfl, h.trans (hbl.mono h.size)⟩


set_option maxHeartbeats 1000000 in
set_option maxRecDepth 100000 in
theorem gsS_no (a b q : Int) (w : World) (g : ¬ Gd a b q 199) : Calls Try.prog 37 #[.agg #[.int .i64 a, .int .i64 b], .int .i64 q] w (GivesIIB w 0 0 false) := by
  have c1 := fun W => smallS_any a b q W false ⟨fun e => (by cases e), fun e => absurd e g⟩
  clear g
  replace c1 := Lib.hid c1
  have h := Below.refl w.heap.size w
  have hA := below_alloc1 w (.cells #[.int .i64 a, .int .i64 b] 26)
  have hx0 := Box.new w 26 #[.int .i64 a, .int .i64 b]
  replace h := Below.step h hA
  clear hA
  obtain ⟨k00, k01⟩ := hx0.two
  have l0 := hx0.lt
  go_enter Try.func37, Try.ntmps37
  go_wp2_with fail
  refine (c1.out _).mono ?_
  rintro e w1 ⟨rfl, hb⟩
  replace h := Below.step h hb
  replace hx0 := hx0.kept hb
  clear hb k00 k01 l0
  obtain ⟨k00, k01⟩ := hx0.two
  have l0 := hx0.lt
  go_wp2_with fail
  go_ret3
  exact ⟨rfl, h⟩


set_option maxHeartbeats 1000000 in
set_option maxRecDepth 100000 in
theorem gsS_yes {a b : Int} {p : Nat} (G : FG a b p) (hp : p ≤ 199) (w : World) : Calls Try.prog 37 #[.agg #[.int .i64 a, .int .i64 b], .int .i64 (p : Int)] w (GivesIIB w ((((plist a b p p).length / omax a p (plist a b p p) : Nat)) : Int) (omax a p (plist a b p p)) true) := by
  have c1 := fun W => smallS_any a b (p : Int) W true ⟨fun _ => ⟨p, rfl, G, hp⟩, fun _ => rfl⟩
  have c2 := fun W => shape_any G hp W
  replace c1 := Lib.hid c1
  replace c2 := Lib.hid c2
  clear G
  have h := Below.refl w.heap.size w
  have hA := below_alloc1 w (.cells #[.int .i64 a, .int .i64 b] 26)
  have hx0 := Box.new w 26 #[.int .i64 a, .int .i64 b]
  replace h := Below.step h hA
  clear hA
  obtain ⟨k00, k01⟩ := hx0.two
  have l0 := hx0.lt
  go_enter Try.func37, Try.ntmps37
  go_wp2_with fail
  refine (c1.out _).mono ?_
  rintro e w1 ⟨rfl, hb⟩
  replace h := Below.step h hb
  replace hx0 := hx0.kept hb
  clear hb k00 k01 l0
  obtain ⟨k00, k01⟩ := hx0.two
  have l0 := hx0.lt
  go_wp2_with fail
  refine (c2.out _).mono ?_
  rintro e w2 ⟨rfl, hb⟩
  replace h := Below.step h hb
  replace hx0 := hx0.kept hb
  clear hb k00 k01 l0
  obtain ⟨k00, k01⟩ := hx0.two
  have l0 := hx0.lt
  go_wp2_with fail
  go_ret3
  exact ⟨rfl, h⟩

end Go.Proofs.Ytbgoiflkpefckaa
