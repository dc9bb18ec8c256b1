/- CountOrders of both sides (written by wip/gen/fmco.py). -/
import Derived.Test.YtbgoiflkpefckaaFmI9
import Derived.Deep.RegionHeld3
import Derived.Deep.DeepCutAuto
namespace Go.Proofs.Ytbgoiflkpefckaa
open Go.RowKit Go.Joins

/-- How many of the points n times are infinity. -/
def ctz (a : Int) (p n : Nat) : List FP → Nat
  | [] => 0
  | s :: L => (if fmul a p n s = none then 1 else 0) + ctz a p n L
theorem ctz_snoc (a : Int) (p n : Nat) (s : FP) : ∀ L, ctz a p n (L ++ [s]) = ctz a p n L + (if fmul a p n s = none then 1 else 0)
  | [] => by simp [ctz]
  | t :: L => by rw [List.cons_append, ctz, ctz, ctz_snoc a p n s L, Nat.add_assoc]
theorem ctz_le (a : Int) (p n : Nat) : ∀ L, ctz a p n L ≤ L.length
  | [] => Nat.le_refl 0
  | s :: L => by
    have := ctz_le a p n L
    rw [ctz, List.length_cons]
    split <;> omega
theorem fl_get {L : List FP} {k : Nat} (h : k < L.length) : (L.map fl)[k]?.getD [] = fl (L[k]?.getD none) := by
  rw [List.getElem?_map, List.getElem?_eq_getElem h]; rfl

set_option maxHeartbeats 1000000 in
set_option maxRecDepth 100000 in
theorem coS_no (a b q z : Int) (w : World) (g : ¬ Gd a b q 199) : Calls Try.prog 39 #[.agg #[.int .i64 a, .int .i64 b], .int .i64 q, .int .i64 z] w (GivesIB w 0 false) := by
  have c1 := fun W => smallS_any a b q W false ⟨fun e => (by cases e), fun e => absurd e g⟩
  clear g
  replace c1 := Lib.hid c1
  have h := Below.refl w.heap.size w
  have hA := below_alloc1 w (.cells #[.int .i64 a, .int .i64 b] 26)
  have hx0 := Box.new w 26 #[.int .i64 a, .int .i64 b]
  replace h := Below.step h hA
  clear hA
  obtain ⟨k00, k01⟩ := hx0.two
  have l0 := hx0.lt
  go_enter Try.func39, Try.ntmps39
  go_wp2_with fail
  refine (c1.out _).mono ?_
  rintro e w1 ⟨rfl, hb⟩
  replace h := Below.step h hb
  replace hx0 := hx0.kept hb
  clear hb k00 k01 l0
  obtain ⟨k00, k01⟩ := hx0.two
  have l0 := hx0.lt
  go_wp2_with fail
  go_ret2
  exact ⟨rfl, h⟩


set_option maxHeartbeats 1000000 in
set_option maxRecDepth 100000 in
theorem coS_off {a b : Int} {p : Nat} (G : FG a b p) (hp : p ≤ 199) (z : Int) (w : World) (hz : z < 1 ∨ 1000 < z) : Calls Try.prog 39 #[.agg #[.int .i64 a, .int .i64 b], .int .i64 (p : Int), .int .i64 z] w (GivesIB w 0 false) := by
  have c1 := fun W => smallS_any a b (p : Int) W true ⟨fun _ => ⟨p, rfl, G, hp⟩, fun _ => rfl⟩
  replace c1 := Lib.hid c1
  replace hz := Lib.hid hz
  clear G
  have h := Below.refl w.heap.size w
  have hA := below_alloc1 w (.cells #[.int .i64 a, .int .i64 b] 26)
  have hx0 := Box.new w 26 #[.int .i64 a, .int .i64 b]
  replace h := Below.step h hA
  clear hA
  obtain ⟨k00, k01⟩ := hx0.two
  have l0 := hx0.lt
  go_enter Try.func39, Try.ntmps39
  go_wp2_with fail
  refine (c1.out _).mono ?_
  rintro e w1 ⟨rfl, hb⟩
  replace h := Below.step h hb
  replace hx0 := hx0.kept hb
  clear hb k00 k01 l0
  obtain ⟨k00, k01⟩ := hx0.two
  have l0 := hx0.lt
  go_wp2_with fail
  refine (l1In_no z 1 1000 _ hz.out).mono ?_
  rintro e w2 ⟨rfl, rfl⟩
  go_wp2_with fail
  go_ret2
  exact ⟨rfl, h⟩


set_option maxHeartbeats 1000000 in
set_option maxRecDepth 100000 in
theorem coI_no (a b q z : Int) (w : World) (g : ¬ Gd a b q 199) : Calls Try.prog 40 #[.agg #[.int .i64 a, .int .i64 b], .int .i64 q, .int .i64 z] w (GivesIB w 0 false) := by
  have c1 := fun W => curveMod_no a b q 199 W g
  rw [show ((199 : Nat) : Int) = 199 from rfl] at c1
  replace c1 := Lib.hid c1
  clear g
  have h := Below.refl w.heap.size w
  have hA := below_alloc1 w (.cells #[.int .i64 a, .int .i64 b] 26)
  have hx0 := Box.new w 26 #[.int .i64 a, .int .i64 b]
  replace h := Below.step h hA
  clear hA
  obtain ⟨k00, k01⟩ := hx0.two
  have l0 := hx0.lt
  go_enter Try.func40, Try.ntmps40
  go_wp2_with fail
  refine (c1.out _).mono ?_
  rintro e w1 ⟨rfl, hb⟩
  replace h := Below.step h hb
  replace hx0 := hx0.kept hb
  clear hb k00 k01 l0
  obtain ⟨k00, k01⟩ := hx0.two
  have l0 := hx0.lt
  go_wp2_with fail
  go_ret2
  exact ⟨rfl, Below.step h (below_alloc1 _ _)⟩


set_option maxHeartbeats 1000000 in
set_option maxRecDepth 100000 in
theorem coI_lo {a b : Int} {p : Nat} (G : FG a b p) (hp : p ≤ 199) (z : Int) (w : World) (hz : z < 1) : Calls Try.prog 40 #[.agg #[.int .i64 a, .int .i64 b], .int .i64 (p : Int), .int .i64 z] w (GivesIB w 0 false) := by
  have c1 := fun W => curveMod_yes a b p 199 W G hp
  rw [show ((199 : Nat) : Int) = 199 from rfl] at c1
  replace c1 := Lib.hid c1
  clear G
  have h := Below.refl w.heap.size w
  have hA := below_alloc1 w (.cells #[.int .i64 a, .int .i64 b] 26)
  have hx0 := Box.new w 26 #[.int .i64 a, .int .i64 b]
  replace h := Below.step h hA
  clear hA
  obtain ⟨k00, k01⟩ := hx0.two
  have l0 := hx0.lt
  go_enter Try.func40, Try.ntmps40
  go_wp2_with fail
  refine (c1.out _).mono ?_
  rintro e w1 ⟨rfl, hb⟩
  replace h := Below.step h hb
  replace hx0 := hx0.kept hb
  clear hb k00 k01 l0
  obtain ⟨k00, k01⟩ := hx0.two
  have l0 := hx0.lt
  go_wp2_with fail
  go_ret2
  exact ⟨rfl, Below.step h (below_alloc1 _ _)⟩


set_option maxHeartbeats 1000000 in
set_option maxRecDepth 100000 in
theorem coI_hi {a b : Int} {p : Nat} (G : FG a b p) (hp : p ≤ 199) (z : Int) (w : World) (hz0 : ¬ z < 1) (hz : 1000 < z) : Calls Try.prog 40 #[.agg #[.int .i64 a, .int .i64 b], .int .i64 (p : Int), .int .i64 z] w (GivesIB w 0 false) := by
  have c1 := fun W => curveMod_yes a b p 199 W G hp
  rw [show ((199 : Nat) : Int) = 199 from rfl] at c1
  replace c1 := Lib.hid c1
  clear G
  have h := Below.refl w.heap.size w
  have hA := below_alloc1 w (.cells #[.int .i64 a, .int .i64 b] 26)
  have hx0 := Box.new w 26 #[.int .i64 a, .int .i64 b]
  replace h := Below.step h hA
  clear hA
  obtain ⟨k00, k01⟩ := hx0.two
  have l0 := hx0.lt
  go_enter Try.func40, Try.ntmps40
  go_wp2_with fail
  refine (c1.out _).mono ?_
  rintro e w1 ⟨rfl, hb⟩
  replace h := Below.step h hb
  replace hx0 := hx0.kept hb
  clear hb k00 k01 l0
  obtain ⟨k00, k01⟩ := hx0.two
  have l0 := hx0.lt
  go_wp2_with fail
  go_ret2
  exact ⟨rfl, Below.step h (below_alloc1 _ _)⟩


set_option maxHeartbeats 2000000 in
set_option maxRecDepth 100000 in
theorem coS_yes {a b : Int} {p : Nat} (G : FG a b p) (hp : p ≤ 199) (w : World) (n : Nat) (hn1 : 1 ≤ n) (hn2 : n ≤ 1000) : Calls Try.prog 39 #[.agg #[.int .i64 a, .int .i64 b], .int .i64 (p : Int), .int .i64 (n : Int)] w (GivesIB w (ctz a p n (plist a b p p)) true) := by
  have c1 := fun W => smallS_any a b (p : Int) W true ⟨fun _ => ⟨p, rfl, G, hp⟩, fun _ => rfl⟩
  have c2 := fun W => fmPoints_any G W
  have hpl := (plist_len a b p p).1
  have hpp := Nat.mul_le_mul hp hp
  have hon : ∀ k, k < (plist a b p p).length → FOn a b p ((plist a b p p)[k]?.getD none) := fun k h => plist_at h
  obtain ⟨N, hN⟩ : ∃ N, N = (plist a b p p).length := ⟨_, rfl⟩
  have hN6 : N ≤ 1000000 := by omega
  generalize plist a b p p = L at *
  replace c1 := Lib.hid c1
  replace c2 := Lib.hid c2
  replace hon := Lib.hid hon
  have hNm : N = (L.map fl).length := by rw [List.length_map]; exact hN
  replace hN := Lib.hid hN
  replace hNm := Lib.hid hNm
  clear hpl hpp
  have h := Below.refl w.heap.size w
  have hA := below_alloc1 w (.cells #[.int .i64 a, .int .i64 b] 26)
  have hx0 := Box.new w 26 #[.int .i64 a, .int .i64 b]
  replace h := Below.step h hA
  clear hA
  obtain ⟨k00, k01⟩ := hx0.two
  have l0 := hx0.lt
  go_enter Try.func39, Try.ntmps39
  go_wp2_with fail
  refine (c1.out _).mono ?_
  rintro e w1 ⟨rfl, hb⟩
  replace h := Below.step h hb
  replace hx0 := hx0.kept hb
  clear hb k00 k01 l0
  obtain ⟨k00, k01⟩ := hx0.two
  have l0 := hx0.lt
  go_wp2_with fail
  refine (l1In_yes (n : Int) 1 1000 _ (by omega) (by omega)).mono ?_
  rintro e w2 ⟨rfl, rfl⟩
  go_wp2_with fail
  refine (c2.out _).mono ?_
  rintro e w3 ⟨A1, d1, vs1, rfl, hs1, hb⟩
  replace h := Below.step h hb
  replace hx0 := hx0.kept hb
  clear hb k00 k01 l0
  obtain ⟨k00, k01⟩ := hx0.two
  have l0 := hx0.lt
  have hrp := hs1.rd
  rw [← hNm.out] at hrp ⊢
  have hrdp : ∀ W, Below w3.heap.size w3 W → RdSS W w3.heap.size A1 N (L.map fl) := fun W hW => hrp.below hW
  replace hrdp := Lib.hid hrdp
  clear hrp hs1
  go_wp2_with fail
  clear k00 k01 l0
  go_loopw [8, 24] (fun o x wr => ∃ k : Nat, k ≤ N ∧ o = .int .i64 (ctz a p n (L.take k)) ∧ x = .int .i64 k ∧ Below w3.heap.size w3 wr ∧ Box wr w.heap.size 26 #[.int .i64 a, .int .i64 b]) (fun _ x _ => N - (intOf x).toNat)
  case atStart => exact ⟨0, by omega, rfl, rfl, Below.refl _ _, hx0⟩
  case round =>
    clear hx0
    obtain ⟨k, hk, rfl, rfl, hbl, hx0⟩ := hrel
    by_cases hlt : k < N
    · obtain ⟨b', o', rfl, hbb, hc⟩ := (hrdp.out _ hbl).2 (by omega)
      obtain ⟨A', c', r0, hrA⟩ := hc k hlt
      rw [fl_get (by rw [← hN.out]; exact hlt)] at r0 hrA
      have hou := hon.out k (by rw [← hN.out]; exact hlt)
      have hsn := take_snoc (L := L) (k := k) (by rw [← hN.out]; exact hlt)
      have hct : ctz a p n (L.take (k + 1)) = ctz a p n (L.take k) + (if fmul a p n (L[k]?.getD none) = none then 1 else 0) := by rw [hsn, ctz_snoc]
      have hm : ctz a p n (L.take k) ≤ k := by have := ctz_le a p n (L.take k); rw [List.length_take] at this; omega
      generalize ctz a p n (L.take k) = m at *
      clear hsn
      generalize L[k]?.getD none = u at *
      have hrB : ∀ W, Below wr.heap.size wr W → Rd W W.heap.size A' (fl u).length (fl u) := fun W hW => (hrA.below (hW.mono hbl.size)).more (Nat.le_trans hbl.size hW.size)
      have hsz3 := hbl.size
      have c3 := fun W hR => timesS_any G n u hou (by omega) A' (fl u).length c' W hR
      generalize fmul a p n u = y at *
      replace c3 := Lib.hid c3
      replace hrB := Lib.hid hrB
      clear hou hc hrA
      have hlw : w.heap.size ≤ wr.heap.size := by have := hx0.lt; omega
      by_cases hy : y = none
      · have e1 : ((fl y).length : Int) = 0 := by rw [hy]; rfl
        have eB : (((fl y).length : Int) == 0) = true := by rw [e1]; rfl
        rw [if_pos hy] at hct
        replace hct := Lib.hid hct
        clear hy e1
        obtain ⟨k00, k01⟩ := hx0.two
        have l0 := hx0.lt
        go_wp2_with fail
        refine (c3.out _ (hrB.out _ (Below.refl _ _))).mono ?_
        rintro e w9 ⟨A2, d2, rfl, ho2, hb⟩
        replace hbl := Below.step hbl hb
        replace hx0 := hx0.kept hb
        clear hb ho2 k00 k01 l0 r0
        go_wp2_with fail
        go_roundw
        case rel => exact ⟨k + 1, by omega, by rw [hct.out]; go_num, by go_num, hbl, hx0⟩
        case measure => simp [intOf]; omega
      · have e1 : ((fl y).length : Int) = 2 := by rw [fl_len hy]; rfl
        have eB : (((fl y).length : Int) == 0) = false := by rw [e1]; rfl
        rw [if_neg hy] at hct
        replace hct := Lib.hid hct
        clear hy e1
        obtain ⟨k00, k01⟩ := hx0.two
        have l0 := hx0.lt
        go_wp2_with fail
        refine (c3.out _ (hrB.out _ (Below.refl _ _))).mono ?_
        rintro e w9 ⟨A2, d2, rfl, ho2, hb⟩
        replace hbl := Below.step hbl hb
        replace hx0 := hx0.kept hb
        clear hb ho2 k00 k01 l0 r0
        go_wp2_with fail
        go_roundw
        case rel => exact ⟨k + 1, by omega, by rw [hct.out]; go_num, by go_num, hbl, hx0⟩
        case measure => simp [intOf]; omega
    · have hkn : k = N := by omega
      have hT : L.take k = L := by rw [List.take_of_length_le (by rw [← hN.out]; omega)]
      rw [hT] at *
      clear hT
      go_wp2_with fail
      go_ret2
      exact ⟨rfl, h.trans (hbl.mono h.size)⟩


set_option maxHeartbeats 2000000 in
set_option maxRecDepth 100000 in
theorem coI_yes {a b : Int} {p : Nat} (G : FG a b p) (hp : p ≤ 199) (w : World) (n : Nat) (hn1 : 1 ≤ n) (hn2 : n ≤ 1000) : Calls Try.prog 40 #[.agg #[.int .i64 a, .int .i64 b], .int .i64 (p : Int), .int .i64 (n : Int)] w (GivesIB w (ctz a p n (plist a b p p)) true) := by
  have c1 := fun W => curveMod_yes a b p 199 W G hp
  rw [show ((199 : Nat) : Int) = 199 from rfl] at c1
  replace c1 := Lib.hid c1
  have c2 := fun W => points_any G W
  have hpl := (plist_len a b p p).1
  have hpp := Nat.mul_le_mul hp hp
  have hon : ∀ k, k < (plist a b p p).length → FOn a b p ((plist a b p p)[k]?.getD none) := fun k h => plist_at h
  obtain ⟨N, hN⟩ : ∃ N, N = (plist a b p p).length := ⟨_, rfl⟩
  have hN6 : N ≤ 1000000 := by omega
  generalize plist a b p p = L at *
  have hk1 : ¬ (n : Int) < 1 := by omega
  have hk2 : ¬ 1000 < (n : Int) := by omega
  replace c2 := Lib.hid c2
  replace hon := Lib.hid hon
  clear hpl hpp
  have h := Below.refl w.heap.size w
  have hA := below_alloc1 w (.cells #[.int .i64 a, .int .i64 b] 26)
  have hx0 := Box.new w 26 #[.int .i64 a, .int .i64 b]
  replace h := Below.step h hA
  clear hA
  obtain ⟨k00, k01⟩ := hx0.two
  have l0 := hx0.lt
  go_enter Try.func40, Try.ntmps40
  go_wp2_with fail
  refine (c1.out _).mono ?_
  rintro e w1 ⟨rfl, hb⟩
  replace h := Below.step h hb
  replace hx0 := hx0.kept hb
  clear hb k00 k01 l0
  obtain ⟨k00, k01⟩ := hx0.two
  have l0 := hx0.lt
  go_wp2_with fail
  have hA := below_alloc1 w1 (.cells #[.int .i64 (rs p a : Int), .int .i64 (rs p b : Int), .int .i64 (p : Int)] 62)
  have hxf := Box.new w1 62 #[.int .i64 (rs p a : Int), .int .i64 (rs p b : Int), .int .i64 (p : Int)]
  replace h := Below.step h hA
  replace hx0 := hx0.kept hA
  clear hA k00 k01 l0
  generalize w1.alloc (.cells #[.int .i64 (rs p a : Int), .int .i64 (rs p b : Int), .int .i64 (p : Int)] 62) = w2 at *
  generalize w1.heap.size = gf at hxf ⊢
  obtain ⟨k00, k01⟩ := hx0.two
  have l0 := hx0.lt
  obtain ⟨kf0, kf1, kf2⟩ := hxf.three
  have lf := hxf.lt
  refine (c2.out _).mono ?_
  rintro e w3 ⟨Ap, cp, rfl, hop, hb⟩
  replace h := Below.step h hb
  replace hx0 := hx0.kept hb
  replace hxf := hxf.kept hb
  clear hb k00 k01 l0 kf0 kf1 kf2 lf
  obtain ⟨k00, k01⟩ := hx0.two
  have l0 := hx0.lt
  obtain ⟨kf0, kf1, kf2⟩ := hxf.three
  have lf := hxf.lt
  have hrp := hop.rd
  rw [← hN] at hrp ⊢
  replace hN := Lib.hid hN
  have hrdp : ∀ W, Below w3.heap.size w3 W → RdF W w3.heap.size Ap N L := fun W hW => hrp.below hW
  replace hrdp := Lib.hid hrdp
  have hw3 : w.heap.size ≤ w3.heap.size := h.size
  clear hrp hop hx0
  clear k00 k01 l0 kf0 kf1 kf2 lf
  obtain ⟨kf0, kf1, kf2⟩ := hxf.three
  have lf := hxf.lt
  go_wp2_with fail
  clear kf0 kf1 kf2 lf
  go_loopw [10, 32] (fun o x wr => ∃ k : Nat, k ≤ N ∧ o = .int .i64 (ctz a p n (L.take k)) ∧ x = .int .i64 k ∧ Below w3.heap.size w3 wr ∧ Box wr gf 62 #[.int .i64 (rs p a : Int), .int .i64 (rs p b : Int), .int .i64 (p : Int)]) (fun _ x _ => N - (intOf x).toNat)
  case atStart => exact ⟨0, by omega, rfl, rfl, Below.refl _ _, hxf⟩
  case round =>
    clear hxf
    obtain ⟨k, hk, rfl, rfl, hbl, hxf⟩ := hrel
    by_cases hlt : k < N
    · obtain ⟨b', o', rfl, hbb, r0, r1, r2⟩ := (hrdp.out _ hbl).elem hlt
      have hou := hon.out k (by rw [← hN.out]; exact hlt)
      have hsn := take_snoc (L := L) (k := k) (by rw [← hN.out]; exact hlt)
      have hct : ctz a p n (L.take (k + 1)) = ctz a p n (L.take k) + (if fmul a p n (L[k]?.getD none) = none then 1 else 0) := by rw [hsn, ctz_snoc]
      have hm : ctz a p n (L.take k) ≤ k := by have := ctz_le a p n (L.take k); rw [List.length_take] at this; omega
      generalize ctz a p n (L.take k) = m at *
      clear hsn
      generalize L[k]?.getD none = u at *
      have c3 := fun W => times_any G n u W (by omega) hou
      generalize fmul a p n u = y at *
      have hz := @fp_zero y
      replace c3 := Lib.hid c3
      clear hou
      by_cases hy : y = none
      · rw [if_pos hy] at hct
        rw [decide_eq_true hy] at hz
        replace hct := Lib.hid hct
        clear hy
        obtain ⟨kf0, kf1, kf2⟩ := hxf.three
        have lf := hxf.lt
        go_wp2_with fail
        have hA := below_alloc1 wr (.cells #[.int .i64 (fpx u), .int .i64 (fpy u), .int .i64 (fpz u)] 70)
        replace hbl := Below.step hbl hA
        replace hxf := hxf.kept hA
        clear hA r0 r1 r2 kf0 kf1 kf2 lf
        generalize wr.alloc (.cells #[.int .i64 (fpx u), .int .i64 (fpy u), .int .i64 (fpz u)] 70) = w4 at *
        refine (c3.out _).mono ?_
        rintro e w9 ⟨rfl, hb⟩
        replace hbl := Below.step hbl hb
        replace hxf := hxf.kept hb
        clear hb
        go_wp2_with fail
        go_roundw
        case rel => exact ⟨k + 1, by omega, by rw [hct.out]; go_num, by go_num, hbl, hxf⟩
        case measure => simp [intOf]; omega
      · rw [if_neg hy] at hct
        rw [decide_eq_false hy] at hz
        replace hct := Lib.hid hct
        clear hy
        obtain ⟨kf0, kf1, kf2⟩ := hxf.three
        have lf := hxf.lt
        go_wp2_with fail
        have hA := below_alloc1 wr (.cells #[.int .i64 (fpx u), .int .i64 (fpy u), .int .i64 (fpz u)] 70)
        replace hbl := Below.step hbl hA
        replace hxf := hxf.kept hA
        clear hA r0 r1 r2 kf0 kf1 kf2 lf
        generalize wr.alloc (.cells #[.int .i64 (fpx u), .int .i64 (fpy u), .int .i64 (fpz u)] 70) = w4 at *
        refine (c3.out _).mono ?_
        rintro e w9 ⟨rfl, hb⟩
        replace hbl := Below.step hbl hb
        replace hxf := hxf.kept hb
        clear hb
        go_wp2_with fail
        go_roundw
        case rel => exact ⟨k + 1, by omega, by rw [hct.out]; go_num, by go_num, hbl, hxf⟩
        case measure => simp [intOf]; omega
    · have hkn : k = N := by omega
      have hT : L.take k = L := by rw [List.take_of_length_le (by rw [← hN.out]; omega)]
      rw [hT] at *
      clear hT
      go_wp2_with fail
      go_ret2
      exact ⟨rfl, h.trans (hbl.mono hw3)⟩

end Go.Proofs.Ytbgoiflkpefckaa
