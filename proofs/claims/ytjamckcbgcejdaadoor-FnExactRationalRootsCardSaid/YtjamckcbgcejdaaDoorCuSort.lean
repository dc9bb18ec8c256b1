/- slices.SortFunc over a row of fractions, with the program's closure (own work). -/
import Derived.Test.YtjamckcbgcejdaaDoorFRow
import Derived.Test.YtjamckcbgcejdaaDoorRtList
import Derived.Test.YtjamckcbgcejdaaDoorCiAt
import Derived.Test.YtjamckcbgcejdaaDoorCtShelf
import Derived.Shelf.SlSortCmp.WholeK
import Derived.Lib.OwnBridge
namespace Go.Proofs.YtjamckcbgcejdaaDoor
open Go.RowKit Go.Joins Go.Sort

/-- Fractions that the closure can compare. -/
abbrev RP : Type := {x : Int × Int // (-1000 ≤ x.1 ∧ x.1 ≤ 1000) ∧ (1 ≤ x.2 ∧ x.2 ≤ 1000)}
instance : Inhabited RP := ⟨⟨(0, 1), by decide⟩⟩
def encRP (x : RP) : List Value := [.int .i64 x.1.1, .int .i64 x.1.2]
def cfRP (x y : RP) : Int := sgn (x.1.1 * y.1.2 - y.1.1 * x.1.2)
theorem sgn_neg {z : Int} : sgn z < 0 ↔ z < 0 := by
  unfold sgn
  split
  · omega
  · split <;> omega
theorem ltRP (x y : RP) : ltOf cfRP x y = decide (FLt x.1 y.1) := by
  refine decide_eq_decide.2 (sgn_neg.trans ?_)
  show x.1.1 * y.1.2 - y.1.1 * x.1.2 < 0 ↔ x.1.1 * y.1.2 < y.1.1 * x.1.2
  omega
theorem swoRP : SWO (ltOf cfRP) where
  irrefl x := by rw [ltRP]; exact decide_eq_false (FLt.irrefl _)
  trans x y z h1 h2 := by
    rw [ltRP] at *
    exact decide_eq_true ((of_decide_eq_true h1).trans (of_decide_eq_true h2) x.2.2.1 y.2.2.1 z.2.2.1)
  ntrans x y z h1 h2 := by
    rw [ltRP] at *
    have k1 := of_decide_eq_false h1
    have k2 := of_decide_eq_false h2
    refine decide_eq_false fun h => ?_
    unfold FLt at *
    have hx := x.2.2.1; have hy := y.2.2.1; have hz := z.2.2.1
    have m1 := Int.mul_le_mul_of_nonneg_right (Int.not_lt.1 k1) (show 0 ≤ z.1.2 by omega)
    have m2 := Int.mul_le_mul_of_nonneg_right (Int.not_lt.1 k2) (show 0 ≤ x.1.2 by omega)
    have m3 := Int.mul_lt_mul_of_pos_right h (show 0 < y.1.2 by omega)
    have e1 : y.1.1 * x.1.2 * z.1.2 = y.1.1 * z.1.2 * x.1.2 := by grind
    have e2 : x.1.1 * y.1.2 * z.1.2 = x.1.1 * z.1.2 * y.1.2 := by grind
    have e3 : z.1.1 * y.1.2 * x.1.2 = z.1.1 * x.1.2 * y.1.2 := by grind
    omega

set_option maxHeartbeats 1000000 in
theorem closure_core (p q u v R : Int) (W : World) (hR : sgn (p * v - u * q) = R) (m1 : -1000000 ≤ p * v) (m2 : p * v ≤ 1000000) (m3 : -1000000 ≤ u * q) (m4 : u * q ≤ 1000000) : Calls Tryd.prog 37 #[.agg #[.int .i64 p, .int .i64 q], .agg #[.int .i64 u, .int .i64 v]] W fun e w' => e = .returned (.int .i64 R) ∧ ∃ q os', w' = grow (W.drewN q) os' := by
  have hcon := fun W => compare_any (p * v) (u * q) W
  rw [hR] at hcon
  replace hcon := Lib.hid hcon
  clear hR
  go_enter Tryd.func37, Tryd.ntmps37
  go_wp2_with fail
  refine (hcon.out _).mono ?_
  rintro e w' ⟨rfl, rfl⟩
  go_wp2_with fail
  go_ret
  exact ⟨rfl, 0, _, by rw [alloc_eq_grow, alloc_eq_grow, grow_grow]; rfl⟩

theorem closure_any (x y : RP) (W : World) : Calls Tryd.prog 37 #[.agg #[.int .i64 x.1.1, .int .i64 x.1.2], .agg #[.int .i64 y.1.1, .int .i64 y.1.2]] W fun e w' => e = .returned (.int .i64 (cfRP x y)) ∧ ∃ q os', w' = grow (W.drewN q) os' := by
  have hx := x.2
  have hy := y.2
  have m1 := fr_mul_bd (b := y.1.2) (N := 1000) hx.1.1 hx.1.2 (by omega) hy.2.2
  have m2 := fr_mul_bd (b := x.1.2) (N := 1000) hy.1.1 hy.1.2 (by omega) hx.2.2
  rw [show ((1000 : Int) * 1000) = 1000000 from by decide] at m1 m2
  exact closure_core _ _ _ _ _ W rfl m1.1 m1.2 m2.1 m2.2

theorem cmpLaysRP (blk off size : Nat) (w : World) : CmpLays Tryd.prog 37 #[] encRP 2 cfRP blk off size w :=
  fun _ _ _ _ x y => closure_any x y _

/-- The numbers of a row, flat. -/
theorem flat_val (d : Array RP) (t : Nat) (h : t < d.size * 2) : (flatK encRP 2 d)[t]! = .int .i64 ((flat (d.toList.map (·.1)))[t]?.getD 0) := by
  rw [get_flatK _ _ _ _ h]
  have hk : t / 2 < d.size := by omega
  have hk' : t / 2 < (d.toList.map (·.1)).length := by simpa using hk
  obtain ⟨e1, e2⟩ := flat_at (d.toList.map (·.1)) (t / 2) hk'
  have eg : ((d.toList.map (·.1))[t / 2]?.getD (0, 0)) = (d[t / 2]!).1 := by simp [hk]
  rw [eg] at e1 e2
  rcases Nat.mod_two_eq_zero_or_one t with h0 | h0
  · rw [h0]
    have : t = 2 * (t / 2) := by omega
    conv => rhs; rw [this]
    rw [e1]
    rfl
  · rw [h0]
    have : t = 2 * (t / 2) + 1 := by omega
    conv => rhs; rw [this]
    rw [e2]
    rfl

theorem holds_ownF {w : World} {base g cap : Nat} {d : Array RP} (h : OwnF w base (.slice (some ⟨g, 0, none⟩) d.size cap) (d.toList.map (·.1))) : HoldsK encRP 2 w g 0 d := by
  intro j hj
  have hj' : j < d.size * 2 := by simpa using hj
  have h1 : w.ownsRow base 30 2 (.slice (some ⟨g, 0, none⟩) d.size cap) d.size ((flat (d.toList.map (·.1))).map (Value.int .i64)) := by
    have := h
    unfold OwnF at this
    rwa [List.length_map, Array.length_toList] at this
  refine ⟨?_, ?_⟩
  · rw [Nat.zero_add, World.ownsRow.cellAt h1 j (by omega), List.getElem?_map, List.getElem?_eq_getElem (by rw [flat_len, List.length_map, Array.length_toList]; omega)]
    show some (Value.int .i64 _) = some (id ((flatK encRP 2 d)[j]!))
    rw [flat_val d j hj']
    simp only [id]
    rw [List.getElem?_eq_getElem (by rw [flat_len, List.length_map, Array.length_toList]; omega)]
    rfl
  · exact World.ownsRow.frozenAt h1 _

theorem own_putRowK {w : World} {base g cap q : Nat} {L : List (Int × Int)} (h : OwnF w base (.slice (some ⟨g, 0, none⟩) L.length cap) L) (d : Array RP) (hl : d.size = L.length) :
    OwnF (putRowK encRP 2 (Sort.ahead w q) g 0 d) base (.slice (some ⟨g, 0, none⟩) L.length cap) (d.toList.map (·.1)) := by
  have hlen : (d.toList.map (·.1)).length = L.length := by rw [List.length_map, Array.length_toList, hl]
  unfold OwnF
  rw [hlen]
  rcases h.2 with ⟨e0, _⟩ | ⟨g', cap', cur, e0, hb, hg, hn, hm, hs, ht⟩
  · cases e0
  · injection e0 with e1 _ e3
    injection e1 with e1
    injection e1 with e1
    subst e1; subst e3
    refine ⟨by rw [List.length_map, flat_len, hlen], .inr ⟨g, cap, putCells id 0 (flatK encRP 2 d) cur, rfl, hb, ?_, hn, hm, by simpa [putCells] using hs, ?_⟩⟩
    · simp [putRowK, putRow, mapBlock, Sort.ahead, Array.getElem?_modify, hg, onCells]
    · apply List.ext_getElem?
      intro j
      rw [List.getElem?_take, List.getElem?_map, Array.getElem?_toList]
      by_cases hj : j < L.length * 2
      · have hjc : j < cur.size := by omega
        have hjd : j < d.size * 2 := by omega
        have hjf : j < (flat (d.toList.map (·.1))).length := by rw [flat_len, hlen]; exact hj
        have hv := flat_val d j hjd
        rw [List.getElem?_eq_getElem hjf] at hv
        simp only [if_pos hj, putCells, Array.getElem?_mapIdx, Array.getElem?_eq_getElem hjc, Option.map_some]
        rw [if_pos (by simp; omega), List.getElem?_eq_getElem hjf]
        simp only [Nat.sub_zero, id]
        rw [hv]
        rfl
      · rw [if_neg hj, List.getElem?_eq_none (by rw [flat_len, hlen]; omega)]
        rfl
theorem below_grow0 {B : Nat} (w : World) (os : Array Obj) (hB : B ≤ w.heap.size) : Below B w (grow w os) :=
  ⟨rfl, rfl, rfl, by show w.heap.size ≤ (w.heap ++ os).size; rw [Array.size_append]; omega, fun j hj => by show (w.heap ++ os)[j]? = w.heap[j]?; rw [Array.getElem?_append_left (by omega)]⟩
theorem below_putRowK {B : Nat} {w0 w : World} {g q : Nat} {d : Array RP} (h : Below B w0 w) (hg : B ≤ g) : Below B w0 (putRowK encRP 2 (Sort.ahead w q) g 0 d) :=
  Lib.below_putRow (enc := id) h hg

theorem sortedP {d : Array RP} (h : SortedIn (ltOf cfRP) 0 d.size d) : (d.toList.map (·.1)).Pairwise fun x y => ¬ FLt y x := by
  rw [List.pairwise_iff_getElem]
  intro i j hi hj hij
  have hj' : j < d.size := by simpa using hj
  have := h i j (Nat.zero_le _) hij hj'
  rw [ltRP, getElem!_pos d j hj', getElem!_pos d i (by omega)] at this
  simpa using of_decide_eq_false this

set_option maxHeartbeats 1000000 in
theorem sort_some (w : World) (base : Nat) (A : Option Addr) (c : Nat) (L : List (Int × Int)) (hL : ∀ x ∈ L, (-1000 ≤ x.1 ∧ x.1 ≤ 1000) ∧ (1 ≤ x.2 ∧ x.2 ≤ 1000)) (h : OwnF w base (.slice A L.length c) L) (hlen : L.length ≤ 1000) (hne : L ≠ []) :
    Calls Tryd.prog 36 #[.slice A L.length c, .func (.func 37) #[] #[]] w fun e w' =>
      e = .returned (.tuple #[]) ∧ ∃ M, M.Perm L ∧ (M.Pairwise fun x y => ¬ FLt y x) ∧ OwnF w' base (.slice A L.length c) M ∧ Below base w w' := by
  have h0 := h
  rcases h.2 with ⟨e0, e1⟩ | ⟨g, cap, cur, e0, hb, hg, hn, hm, hs, ht⟩
  · exact absurd (List.eq_nil_of_length_eq_zero e1) hne
  · obtain ⟨rfl, rfl⟩ : A = some ⟨g, 0, none⟩ ∧ c = cap := by
      injection e0 with e1 _ e3
      exact ⟨e1, e3⟩
    obtain ⟨d, hd⟩ : ∃ d : Array RP, d.toList.map (·.1) = L := ⟨(L.pmap (fun x hx => (⟨x, hx⟩ : RP)) hL).toArray, by
      rw [List.map_pmap]; simp⟩
    have hsz : d.size = L.length := by rw [← hd]; simp
    have hH : HoldsK encRP 2 w g 0 d := holds_ownF (base := base) (cap := c) (by rw [hd, hsz]; exact h0)
    have hlt : g < w.heap.size := (Array.getElem?_eq_some_iff.1 hg).1
    have hcon := AnyQ.slices_SortFunc Tryd.sortFr 2 Tryd.isAgg30 Tryd.sizeOf30 encRP (fun _ => rfl) (fun x v hv => by simp [encRP] at hv; rcases hv with rfl | rfl <;> rfl) cfRP swoRP 37 #[] g 0 c d w (enters_of Tryd.func37 (by kernel_rfl) rfl) (cmpLaysRP g 0 d.size w) hH hlt (by omega)
    rw [hsz] at hcon
    refine Calls.mono hcon ?_
    rintro e w' ⟨rfl, d', n, os, hp, hso, rfl⟩
    have hds : d'.size = L.length := by rw [hp.1, hsz]
    refine ⟨rfl, d'.toList.map (·.1), ?_, sortedP (by rw [hds]; exact hso), ?_, ?_⟩
    · rw [← hd]
      have := hp.2.2
      rw [← hsz, Array.extract_size] at this
      rw [hsz, ← hds, Array.extract_size] at this
      exact this.map _
    · exact (own_putRowK (q := n) h0 d' hds).kept (below_grow0 _ _ (Nat.le_refl _))
    · exact (below_putRowK (Below.refl _ _) hb).trans (below_grow0 _ _ (by have := (below_putRowK (q := n) (d := d') (Below.refl base w) hb).size; omega))
end Go.Proofs.YtjamckcbgcejdaaDoor
