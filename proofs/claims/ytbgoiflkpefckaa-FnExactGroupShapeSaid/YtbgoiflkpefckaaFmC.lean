/- Values and counts of both sides (written by wip/gen/fmc.py). -/
import Derived.Test.YtbgoiflkpefckaaFmG
import Derived.Test.YtbgoiflkpefckaaPwToInts
import Derived.Deep.RegionHeld3
import Derived.Deep.DeepCutAuto
namespace Go.Proofs.Ytbgoiflkpefckaa
open Go.RowKit Go.Joins

/-- The sum of the numbers of roots. -/
def csum (a b : Int) (p : Nat) : Nat → Nat
  | 0 => 0
  | k + 1 => csum a b p k + nroot p (fval a b p k)
theorem cnt_le (P : Nat → Bool) : ∀ n, cnt P n ≤ n
  | 0 => Nat.le_refl 0
  | n + 1 => by rw [cnt]; have := cnt_le P n; split <;> omega
theorem csum_le (a b : Int) (p : Nat) : ∀ k, csum a b p k ≤ k * p
  | 0 => by simp [csum]
  | k + 1 => by
    rw [csum, Nat.add_mul, Nat.one_mul]
    exact Nat.add_le_add (csum_le a b p k) (cnt_le _ p)
theorem sym_count {a b : Int} {p : Nat} (G : FG a b p) (x : Nat) : sym (fval a b p x ^ ((p - 1) / 2) % p) p = (nroot p (fval a b p x) : Int) - 1 := by
  have h5 := G.five
  have hv : fval a b p x < p := rs_lt (by omega) _
  rw [G.pr.count G.le (by omega) hv]
  unfold sym
  split <;> omega

set_option maxHeartbeats 1000000 in
set_option maxRecDepth 100000 in
theorem fmValue_any {a b : Int} {p : Nat} (G : FG a b p) (x : Nat) (w : World) (hx : x < p) : Calls Try.prog 72 #[.agg #[.int .i64 a, .int .i64 b], .int .i64 (p : Int), .int .i64 (x : Int)] w (GivesI w (fval a b p x)) := by
  obtain ⟨⟨a1, a2⟩, ⟨b1, b2⟩, -⟩ := G.g
  have h9 := G.le
  have h5 := G.five
  obtain ⟨m1, m2⟩ := nmul' (show x ≤ 996 by omega) (show x ≤ 996 by omega) (M := 992016) rfl
  obtain ⟨X, hX⟩ : ∃ X : Nat, x * x = X := ⟨_, rfl⟩
  have eX : (x : Int) * x = X := by rw [← hX, Int.natCast_mul]
  rw [eX] at m1 m2
  obtain ⟨n1, n2⟩ := nmul' (show X ≤ 992016 by omega) (show x ≤ 996 by omega) (M := 988047936) rfl
  have k3 := fr_mul_bd (a := a) (b := (x : Int)) (M := 1000) (N := 996) a1 a2 (by omega) (by omega)
  have c1 := fun W => smod_any ((x : Int) * x * x + a * x + b) p W (by rw [eX]; exact ⟨by omega, by omega⟩) (by omega) h9
  rw [← eX] at n1 n2 m1 m2
  have e3 : (rs p ((x : Int) * x * x + a * x + b)) = fval a b p x := rfl
  rw [e3] at c1
  replace c1 := Lib.hid c1
  clear hX eX e3 G
  have h := Below.refl w.heap.size w
  have hA := below_alloc1 w (.cells #[.int .i64 a, .int .i64 b] 26)
  have hx0 := Box.new w 26 #[.int .i64 a, .int .i64 b]
  replace h := Below.step h hA
  clear hA
  obtain ⟨k00, k01⟩ := hx0.two
  have l0 := hx0.lt
  go_enter Try.func72, Try.ntmps72
  go_wp2_with fail
  refine (c1.out _).mono ?_
  rintro e w1 ⟨rfl, rfl⟩
  go_wp2_with fail
  go_ret
  exact ⟨rfl, h⟩


set_option maxHeartbeats 1000000 in
set_option maxRecDepth 100000 in
theorem fmCount_any {a b : Int} {p : Nat} (G : FG a b p) (w : World) : Calls Try.prog 47 #[.agg #[.int .i64 a, .int .i64 b], .int .i64 (p : Int)] w (GivesI w (1 + csum a b p p)) := by
  have h9 := G.le
  have h5 := G.five
  have h := Below.refl w.heap.size w
  have hA := below_alloc1 w (.cells #[.int .i64 a, .int .i64 b] 26)
  have hx0 := Box.new w 26 #[.int .i64 a, .int .i64 b]
  replace h := Below.step h hA
  clear hA
  obtain ⟨k00, k01⟩ := hx0.two
  have l0 := hx0.lt
  go_enter Try.func47, Try.ntmps47
  go_wp2_with fail
  clear k00 k01 l0
  go_loopw [5, 6] (fun n x wr => ∃ k : Nat, k ≤ p ∧ n = .int .i64 ((p : Int) + 1 + csum a b p k - k) ∧ x = .int .i64 k ∧ Below w.heap.size w wr ∧ Box wr w.heap.size 26 #[.int .i64 a, .int .i64 b]) (fun _ x _ => 1000 - (intOf x).toNat)
  case atStart => exact ⟨0, by omega, by simp [csum], rfl, h, hx0⟩
  case round =>
    clear h hx0
    obtain ⟨k, hk, rfl, rfl, h, hx0⟩ := hrel
    have hcs := csum_le a b p k
    have hpk := Nat.mul_le_mul hk (show p ≤ 997 by omega)
    have hp2 := Nat.mul_le_mul h9 (Nat.le_refl 997)
    by_cases hlt : k < p
    · have c1 := fun W => fmValue_any G k W hlt
      have hvp : fval a b p k < p := rs_lt (by omega) _
      have c2 := fun W => mdSymbol_any (fval a b p k : Int) p W ⟨by omega, by omega⟩ (by omega) h9 (fval a b p k) _ (nat_mod hvp) rfl
      rw [sym_count G k] at c2
      have hcn := cnt_le (fun y => y * y % p == fval a b p k) p
      have hs : (p : Int) + 1 + csum a b p (k + 1) - ((k + 1 : Nat) : Int) = (p : Int) + 1 + csum a b p k - k + ((nroot p (fval a b p k) : Int) - 1) := by rw [csum]; omega
      rw [show cnt (fun y => y * y % p == fval a b p k) p = nroot p (fval a b p k) from rfl] at hcn
      generalize csum a b p k = S at *
      generalize fval a b p k = V at *
      generalize nroot p V = R at *
      replace hs := Lib.hid hs
      replace c1 := Lib.hid c1
      replace c2 := Lib.hid c2
      have hS : S ≤ 1000000 := by have := Nat.mul_le_mul hk h9; have := Nat.mul_le_mul (Nat.le_refl k) h9; omega
      clear G hpk hp2 hcs hvp
      obtain ⟨k00, k01⟩ := hx0.two
      have l0 := hx0.lt
      go_wp2_with fail
      refine (c1.out _).mono ?_
      rintro e w1 ⟨rfl, hb⟩
      replace h := Below.step h hb
      replace hx0 := hx0.kept hb
      clear hb k00 k01 l0
      obtain ⟨k00, k01⟩ := hx0.two
      have l0 := hx0.lt
      go_wp2_with fail
      refine (c2.out _).mono ?_
      rintro e w2 ⟨rfl, rfl⟩
      go_wp2_with fail
      clear k00 k01 l0
      go_roundw
      case rel => exact ⟨k + 1, by omega, by rw [hs.out], by go_num, h, hx0⟩
      case measure => simp [intOf]; omega
    · obtain rfl : k = p := by omega
      clear hlt G
      obtain ⟨k00, k01⟩ := hx0.two
      have l0 := hx0.lt
      go_wp2_with fail
      go_ret
      exact ⟨congrArg (fun z => Ending.returned (.int .i64 z)) (by omega), h⟩


set_option maxHeartbeats 1000000 in
set_option maxRecDepth 100000 in
theorem countS_yes {a b : Int} {p : Nat} (G : FG a b p) (w : World) : Calls Try.prog 16 #[.agg #[.int .i64 a, .int .i64 b], .int .i64 (p : Int)] w (GivesIB w (1 + csum a b p p) true) := by
  have c1 := fun W => goodS_any a b (p : Int) W true ⟨fun _ => ⟨p, rfl, G, G.le⟩, fun _ => rfl⟩
  have c2 := fun W => fmCount_any G W
  replace c1 := Lib.hid c1
  replace c2 := Lib.hid c2
  clear G
  have h := Below.refl w.heap.size w
  have hA := below_alloc1 w (.cells #[.int .i64 a, .int .i64 b] 26)
  have hx0 := Box.new w 26 #[.int .i64 a, .int .i64 b]
  replace h := Below.step h hA
  clear hA
  obtain ⟨k00, k01⟩ := hx0.two
  have l0 := hx0.lt
  go_enter Try.func16, Try.ntmps16
  go_wp2_with fail
  refine (c1.out _).mono ?_
  rintro e w1 ⟨rfl, hb⟩
  replace h := Below.step h hb
  replace hx0 := hx0.kept hb
  clear hb k00 k01 l0
  obtain ⟨k00, k01⟩ := hx0.two
  have l0 := hx0.lt
  go_wp2_with fail
  refine (c2.out _).mono ?_
  rintro e w2 ⟨rfl, hb⟩
  replace h := Below.step h hb
  replace hx0 := hx0.kept hb
  clear hb k00 k01 l0
  obtain ⟨k00, k01⟩ := hx0.two
  have l0 := hx0.lt
  go_wp2_with fail
  go_ret2
  exact ⟨rfl, h⟩


set_option maxHeartbeats 1000000 in
set_option maxRecDepth 100000 in
theorem countS_no (a b p : Int) (w : World) (g : ¬ Gd a b p 997) : Calls Try.prog 16 #[.agg #[.int .i64 a, .int .i64 b], .int .i64 p] w (GivesIB w 0 false) := by
  have c1 := fun W => goodS_any a b p W false ⟨fun e => (by cases e), fun e => absurd e g⟩
  replace c1 := Lib.hid c1
  clear g
  have h := Below.refl w.heap.size w
  have hA := below_alloc1 w (.cells #[.int .i64 a, .int .i64 b] 26)
  have hx0 := Box.new w 26 #[.int .i64 a, .int .i64 b]
  replace h := Below.step h hA
  clear hA
  obtain ⟨k00, k01⟩ := hx0.two
  have l0 := hx0.lt
  go_enter Try.func16, Try.ntmps16
  go_wp2_with fail
  refine (c1.out _).mono ?_
  rintro e w1 ⟨rfl, hb⟩
  replace h := Below.step h hb
  replace hx0 := hx0.kept hb
  clear hb k00 k01 l0
  obtain ⟨k00, k01⟩ := hx0.two
  have l0 := hx0.lt
  go_wp2_with fail
  go_ret2
  exact ⟨rfl, h⟩


set_option maxHeartbeats 1000000 in
set_option maxRecDepth 100000 in
theorem countI_no (a b p : Int) (w : World) (g : ¬ Gd a b p 997) : Calls Try.prog 17 #[.agg #[.int .i64 a, .int .i64 b], .int .i64 p] w (GivesIB w 0 false) := by
  have c1 := fun W => curveMod_no a b p 997 W g
  rw [show ((997 : Nat) : Int) = 997 from rfl] at c1
  replace c1 := Lib.hid c1
  clear g
  have h := Below.refl w.heap.size w
  have hA := below_alloc1 w (.cells #[.int .i64 a, .int .i64 b] 26)
  have hx0 := Box.new w 26 #[.int .i64 a, .int .i64 b]
  replace h := Below.step h hA
  clear hA
  obtain ⟨k00, k01⟩ := hx0.two
  have l0 := hx0.lt
  go_enter Try.func17, Try.ntmps17
  go_wp2_with fail
  refine (c1.out _).mono ?_
  rintro e w1 ⟨rfl, hb⟩
  replace h := Below.step h hb
  replace hx0 := hx0.kept hb
  clear hb k00 k01 l0
  obtain ⟨k00, k01⟩ := hx0.two
  have l0 := hx0.lt
  go_wp2_with fail
  go_ret2
  exact ⟨rfl, Below.step h (below_alloc1 _ _)⟩


theorem Box.off {w : World} {g g' i : Nat} {t : TypeId} {cs : Array Value} (h : Box w g t cs) (hne : g ≠ g') (u : Value) : Box (w.setCell ⟨g', i, none⟩ u) g t cs := (heap_setCell_other w ⟨g', i, none⟩ g u hne).trans h
theorem Own.row {w : World} {base n c : Nat} {A : Option Addr} {xs : List Int} (h : Own w base (.slice A n c) xs) (hl : xs.length = n) : w.ownsRow base 3 1 (.slice A n c) n (xs.map (Value.int .i64)) := by
  unfold Own at h; rw [hl] at h; exact h
/-- The squares of the first n numbers, counted. -/
def sqRow (p n : Nat) : List Int := (List.range p).map (fun v => ((cnt (fun y => y * y % p == v) n : Nat) : Int))
theorem sqRow_len (p n : Nat) : (sqRow p n).length = p := by simp [sqRow]
theorem sqRow_at {p n v : Nat} (h : v < p) : (sqRow p n)[v]?.getD 0 = (cnt (fun y => y * y % p == v) n : Nat) := by simp [sqRow, List.getElem?_range h]
theorem sqRow_zero (p : Nat) : sqRow p 0 = List.replicate p 0 := by
  apply List.ext_getElem
  · simp [sqRow]
  · intro i h1 h2; simp [sqRow, cnt]
theorem sqRow_step {p n : Nat} : (sqRow p n).set (n * n % p) (((cnt (fun y => y * y % p == n * n % p) n : Nat) : Int) + 1) = sqRow p (n + 1) := by
  apply List.ext_getElem
  · simp [sqRow]
  · intro i h1 h2
    rw [List.getElem_set]
    by_cases e : n * n % p = i
    · rw [if_pos e]
      simp [sqRow, cnt, e]
    · rw [if_neg e]
      simp [sqRow, cnt, e]

set_option maxHeartbeats 1000000 in
set_option maxRecDepth 100000 in
theorem countI_yes {a b : Int} {p : Nat} (G : FG a b p) (w : World) : Calls Try.prog 17 #[.agg #[.int .i64 a, .int .i64 b], .int .i64 (p : Int)] w (GivesIB w (1 + csum a b p p) true) := by
  have h9 := G.le
  have h5 := G.five
  have p0 : ((p : Int) == 0) = false := beq_eq_false_iff_ne.2 (by omega)
  have p1 : (p : Int) ≠ 0 := by omega
  have p2 : p ≠ 0 := by omega
  have c1 := fun W => curveMod_yes a b p 997 W G G.le
  rw [show ((997 : Nat) : Int) = 997 from rfl] at c1
  replace c1 := Lib.hid c1
  obtain ⟨i0, hi, hz0, hz1, hz2⟩ := info_parts Try.info3
  have h := Below.refl w.heap.size w
  have hA := below_alloc1 w (.cells #[.int .i64 a, .int .i64 b] 26)
  have hx0 := Box.new w 26 #[.int .i64 a, .int .i64 b]
  replace h := Below.step h hA
  clear hA
  obtain ⟨k00, k01⟩ := hx0.two
  have l0 := hx0.lt
  go_enter Try.func17, Try.ntmps17
  go_wp2_with fail
  refine (c1.out _).mono ?_
  rintro e w1 ⟨rfl, hb⟩
  replace h := Below.step h hb
  replace hx0 := hx0.kept hb
  clear hb k00 k01 l0
  obtain ⟨k00, k01⟩ := hx0.two
  have l0 := hx0.lt
  have hA := below_alloc1 w1 (.cells #[.int .i64 (rs p a : Int), .int .i64 (rs p b : Int), .int .i64 (p : Int)] 62)
  have hxf := Box.new w1 62 #[.int .i64 (rs p a : Int), .int .i64 (rs p b : Int), .int .i64 (p : Int)]
  replace h := Below.step h hA
  have hsz : w.heap.size ≤ w1.heap.size := by have := hx0.lt; omega
  clear hA hx0 k00 k01 l0
  have lf := hxf.lt
  have hgs : w.heap.size ≤ (w1.alloc (.cells #[.int .i64 (rs p a : Int), .int .i64 (rs p b : Int), .int .i64 (p : Int)] 62)).heap.size := by omega
  go_wp2_with (first | (at_make; generalize hW2 : w1.alloc (.cells #[.int .i64 (rs p a : Int), .int .i64 (rs p b : Int), .int .i64 (p : Int)] 62) = w2 at *; refine wpList_make_full _ rfl _ _ 36 rfl w2.heap.size 3 i0 (.int .i64 0) 1 Try.underlying36 hi hz0 hz1 .i64 .i64 _ _ p rfl rfl rfl rfl (by rw [hz2]; omega) (by unfold maxLen; omega) (Nat.le_refl _) ?_; intro w3 hown3 hg3) | fail)
  have hb3 : Below w2.heap.size w2 w3 := (Below.refl _ _).grown hg3 (Nat.le_refl _) (fun _ h => by cases h)
  replace h := h.trans (hb3.mono hgs)
  replace hxf := hxf.kept hb3
  have hown : Own w3 w2.heap.size (.slice (some ⟨w2.heap.size, 0, none⟩) p p) (sqRow p 0) := by
    unfold Own
    rw [sqRow_len, sqRow_zero, List.map_replicate]
    have e := filled_zero (List.replicate p 0)
    rw [List.length_replicate] at e
    rw [← e] at hown3
    unfold filled at hown3
    simpa using hown3
  clear hown3 hg3 hb3 hz0 hz1 hz2 hi hW2
  generalize w2.heap.size = g at *
  generalize w1.heap.size = gf at *
  go_loopw [23] (fun y wr => ∃ k : Nat, k ≤ p ∧ y = .int .i64 k ∧ Own wr g (.slice (some ⟨g, 0, none⟩) p p) (sqRow p k) ∧ Below w.heap.size w wr ∧ Box wr gf 62 #[.int .i64 (rs p a : Int), .int .i64 (rs p b : Int), .int .i64 (p : Int)]) (fun y _ => 1000 - (intOf y).toNat)
  case atStart => exact ⟨0, by omega, rfl, hown, h, hxf⟩
  case round =>
    clear h hxf hown
    obtain ⟨k, hk, rfl, hown, h, hxf⟩ := hrel
    by_cases hlt : k < p
    · have hI : k * k % p < p := Nat.mod_lt _ (by omega)
      have hlen := sqRow_len p k
      have hold : wr.cell? ⟨g, k * k % p, none⟩ = some (.int .i64 (cnt (fun y => y * y % p == k * k % p) k : Nat)) := by
        rw [World.ownsRow.cellAt (hown.row hlen) (k * k % p) (by omega), List.getElem?_map, List.getElem?_eq_getElem (by rw [hlen]; exact hI)]
        have := @sqRow_at p k (k * k % p) hI
        rw [List.getElem?_eq_getElem (by rw [hlen]; exact hI)] at this
        simpa using this
      have hfr : wr.frozen? ⟨g, k * k % p, none⟩ = false := World.ownsRow.frozenAt (hown.row hlen) (k * k % p)
      have hc := cnt_le (fun y => y * y % p == k * k % p) k
      have hst := (World.ownsRow.stored (hown.row hlen) (k * k % p) (.int .i64 ((cnt (fun y => y * y % p == k * k % p) k : Nat) + 1)))
      have e3 : (((sqRow p k).map (Value.int .i64)).set (k * k % p) (.int .i64 (((cnt (fun y => y * y % p == k * k % p) k : Nat) : Int) + 1))) = (sqRow p (k + 1)).map (Value.int .i64) := by rw [← sqRow_step, List.map_set]
      rw [e3] at hst
      have hown2 := hst.1
      clear hst e3 hown hlen
      have q2 := cast_mm k k p
      obtain ⟨s3, s4⟩ := small_mul (o := k) (x := k) (by omega) (by omega)
      generalize cnt (fun y => y * y % p == k * k % p) k = S at *
      generalize k * k % p = I at *
      have hxf2 := hxf.off (g' := g) (i := I) (by omega) (.int .i64 ((S : Nat) + 1))
      have h2 := h.setCell (p := ⟨g, I, none⟩) hgs (.int .i64 ((S : Nat) + 1))
      have hlg : g < wr.heap.size := World.block_lt_of_cell? wr _ hold
      clear c1 G
      go_wp2_with fail
      go_roundw
      case rel => exact ⟨k + 1, by omega, by go_num, by unfold Own; rw [sqRow_len]; exact hown2, h2, hxf2⟩
      case measure => simp [intOf]; omega
    · obtain rfl : k = p := by omega
      clear hlt hk
      go_wp2_with fail
      go_loopw [10, 38] (fun n x wr => ∃ j : Nat, j ≤ k ∧ n = .int .i64 (1 + csum a b k j : Nat) ∧ x = .int .i64 j ∧ Own wr g (.slice (some ⟨g, 0, none⟩) k k) (sqRow k k) ∧ Below w.heap.size w wr ∧ Box wr gf 62 #[.int .i64 (rs k a : Int), .int .i64 (rs k b : Int), .int .i64 (k : Int)]) (fun _ x _ => 1000 - (intOf x).toNat)
      case atStart => exact ⟨0, by omega, rfl, rfl, hown, h, hxf⟩
      case round =>
        clear h hxf hown
        obtain ⟨j, hj, rfl, rfl, hown, h, hxf⟩ := hrel
        have hcs := csum_le a b k j
        have hpk := Nat.mul_le_mul hj h9
        by_cases hlt : j < k
        · have hV : fval a b k j < k := rs_lt (by omega) _
          have c2 := fun W => at_any a b k j W h5 h9 hlt
          have hn := cnt_le (fun y => y * y % k == fval a b k j) k
          have e1 : 1 + csum a b k (j + 1) = 1 + csum a b k j + nroot k (fval a b k j) := by rw [csum]; omega
          have hlen := sqRow_len k k
          have hlg : g < wr.heap.size := by
            have := World.ownsRow.cellAt (hown.row hlen) 0 (by omega)
            rw [List.getElem?_map, List.getElem?_eq_getElem (by rw [hlen]; omega)] at this
            exact World.block_lt_of_cell? wr ⟨g, 0, none⟩ this
          have rd : ∀ W, Own W g (.slice (some ⟨g, 0, none⟩) k k) (sqRow k k) → W.cell? ⟨g, fval a b k j, none⟩ = some (.int .i64 (nroot k (fval a b k j) : Nat)) := fun W ho => by
            rw [World.ownsRow.cellAt (ho.row hlen) (fval a b k j) (by omega), List.getElem?_map, List.getElem?_eq_getElem (by rw [hlen]; exact hV)]
            have := @sqRow_at k k (fval a b k j) hV
            rw [List.getElem?_eq_getElem (by rw [hlen]; exact hV)] at this
            simpa [nroot] using this
          have hS : csum a b k j ≤ 1000000 := by have := Nat.mul_le_mul (Nat.le_refl j) h9; have := Nat.mul_le_mul hj (Nat.le_refl 997); omega
          rw [show cnt (fun y => y * y % k == fval a b k j) k = nroot k (fval a b k j) from rfl] at hn
          generalize csum a b k j = S at *
          generalize fval a b k j = V at *
          generalize nroot k V = R at *
          replace rd := Lib.hid rd
          replace c2 := Lib.hid c2
          replace e1 := Lib.hid e1
          clear c1 G hpk hcs hlen
          obtain ⟨kf0, kf1, kf2⟩ := hxf.three
          have lf := hxf.lt
          go_wp2_with fail
          refine (c2.out _).mono ?_
          rintro e w2 ⟨rfl, hb⟩
          replace h := Below.step h hb
          replace hxf := hxf.kept hb
          replace hown := hown.kept hb
          clear hb kf0 kf1 kf2 lf
          obtain ⟨kf0, kf1, kf2⟩ := hxf.three
          have lf := hxf.lt
          have hcell := rd.out _ hown
          go_wp2_with fail
          go_roundw
          case rel => exact ⟨j + 1, by omega, by rw [e1.out]; go_num, by go_num, hown, h, hxf⟩
          case measure => simp [intOf]; omega
        · obtain rfl : j = k := by omega
          clear hlt
          go_wp2_with fail
          go_ret2
          exact ⟨rfl, h⟩

end Go.Proofs.Ytbgoiflkpefckaa
