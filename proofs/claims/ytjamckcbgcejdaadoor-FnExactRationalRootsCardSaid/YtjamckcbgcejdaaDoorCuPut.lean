/- frLess, frInt, cuPut of the model (written by wip/gen/cuput.py). -/
import Derived.Test.YtjamckcbgcejdaaDoorFRow
import Derived.Test.YtjamckcbgcejdaaDoorRtList
import Derived.Deep.RegionHeld3
import Derived.Deep.DeepCutAuto
import Derived.IntWalk
import Derived.Deep.QuietTactic
import Derived.BigQuiet
import Derived.Laws.StructEq
namespace Go.Proofs.YtjamckcbgcejdaaDoor
open Go.RowKit Go.Joins

set_option maxHeartbeats 1000000 in
theorem frLess_any (p q u v : Int) (w : World) (h1 : -1000 ≤ p ∧ p ≤ 1000) (h2 : -1000 ≤ q ∧ q ≤ 1000) (h3 : -1000 ≤ u ∧ u ≤ 1000) (h4 : -1000 ≤ v ∧ v ≤ 1000) (ok : Bool) (hok : decide (p * v < u * q) = ok) :
    Calls Tryd.prog 58 #[.agg #[.int .i64 p, .int .i64 q], .agg #[.int .i64 u, .int .i64 v]] w (GivesB w ok) := by
  have m1 := fr_mul_bd h1.1 h1.2 h4.1 h4.2
  have m2 := fr_mul_bd h3.1 h3.2 h2.1 h2.2
  rw [show ((1000 : Int) * 1000) = 1000000 from by decide] at m1 m2
  obtain ⟨m1, m3⟩ := m1
  obtain ⟨m2, m4⟩ := m2
  clear h1 h2 h3 h4
  have h := below_alloc2 w (.cells #[.int .i64 p, .int .i64 q] 30) (.cells #[.int .i64 u, .int .i64 v] 30)
  go_enter Tryd.func58, Tryd.ntmps58
  go_wp2_with fail
  go_ret
  exact ⟨by rw [← hok]; rfl, h⟩

set_option maxHeartbeats 1000000 in
theorem frInt_any (z : Int) (w : World) : Calls Tryd.prog 48 #[.int .i64 z] w (GivesF w z 1) := by
  have h := below_alloc1 w (.cells #[.int .i64 z, .int .i64 1] 30)
  obtain ⟨s0, s1⟩ := (Box.new w 30 #[.int .i64 z, .int .i64 1]).two
  go_enter Tryd.func48, Tryd.ntmps48
  go_wp2_with fail
  refine bodyPost_ret (v := .agg #[.int .i64 z, .int .i64 1]) (by simp [results, Tryd.results48, go_sem, s0, s1]) (by rfl) ⟨by rfl, ?_⟩
  exact h

def Bd (x : Int × Int) : Prop := (-1000 ≤ x.1 ∧ x.1 ≤ 1000) ∧ (-1000 ≤ x.2 ∧ x.2 ≤ 1000)

set_option maxHeartbeats 8000000 in
set_option maxRecDepth 100000 in
theorem cuPut_found (L : List (Int × Int)) (p q : Int) (k b o' c : Nat) (w : World) (hl0 : 0 < L.length) (hl2 : L.length ≤ 3) (hbw : b < w.heap.size) (hcap : L.length ≤ c)
    (hc : ∀ j, j < 2 * L.length → w.cell? ⟨b, o' + j, none⟩ = some (.int .i64 ((flat L)[j]?.getD 0)))
    (hB : ∀ x ∈ L, Bd x) (hx : Bd (p, q)) (h1 : ∀ j, j < k → FLt (L[j]?.getD (0, 0)) (p, q)) (h2 : k < L.length) (h3 : L[k]?.getD (0, 0) = (p, q)) :
    Calls Tryd.prog 51 #[.slice (some ⟨b, o', none⟩) L.length c, .agg #[.int .i64 p, .int .i64 q]] w (fun e w' => e = .returned (.slice (some ⟨b, o', none⟩) L.length c) ∧ Below w.heap.size w w') := by
  replace h1 := Lib.hid h1
  replace hB := Lib.hid hB
  replace hc := Lib.hid hc
  have h := below_alloc1 w (.cells #[.int .i64 p, .int .i64 q] 30)
  have hx0 := Box.new w 30 #[.int .i64 p, .int .i64 q]
  go_enter Tryd.func51, Tryd.ntmps51
  go_wp2_with fail
  go_loopw [5] (fun i wr => ∃ j : Nat, j ≤ k ∧ i = .int .i64 j ∧ Below (w.alloc (.cells #[.int .i64 p, .int .i64 q] 30)).heap.size (w.alloc (.cells #[.int .i64 p, .int .i64 q] 30)) wr) (fun i _ => 4 - (intOf i).toNat)
  case atStart => exact ⟨0, Nat.zero_le _, rfl, Below.refl _ _⟩
  case round =>
    obtain ⟨j, hj, rfl, hb⟩ := hrel
    have hxr := hx0.kept hb
    replace h1 := h1.out
    replace hB := hB.out
    replace hc := hc.out
    by_cases hlt : j < k
    · have hl := h1 j hlt
      have g0 : (0 : Int) ≤ j := by omega
      have g1 : (j : Int) < L.length := by omega
      have g2 : j < L.length := by omega
      obtain ⟨x1, x2⟩ := flat_at L j g2
      obtain ⟨⟨u, v⟩, huv⟩ : ∃ y, y = L[j]?.getD (0, 0) := ⟨_, rfl⟩
      have hbd : Bd (u, v) := by rw [huv]; simp only [List.getElem?_eq_getElem g2, Option.getD_some]; exact hB _ (List.getElem_mem g2)
      rw [← huv] at x1 x2
      have c1 := (Below.step h hb).cell (p := ⟨b, o' + 2 * j, none⟩) hbw |>.trans (hc (2 * j) (by omega))
      have c2 := (Below.step h hb).cell (p := ⟨b, o' + (2 * j + 1), none⟩) hbw |>.trans (hc (2 * j + 1) (by omega))
      rw [x1, Nat.mul_comm] at c1
      rw [x2, Nat.mul_comm, ← Nat.add_assoc] at c2
      have hbr : b < wr.heap.size := Nat.lt_of_lt_of_le hbw (Below.step h hb).size
      rw [← huv] at hl
      have g9 : k < L.length := h2
      replace hl := Lib.hid hl
      clear huv h1 hB hc
      have key := fun W => frLess_any u v p q W hbd.1 hbd.2 hx.1 hx.2 true (decide_eq_true hl.out)
      replace key := Lib.hid key
      clear hl hbd x1 x2
      go_wp2_with fail
      go_upto_region 2 with fail
      have KM : ∀ (W : World), Below wr.heap.size wr W → (W.cell? ⟨b, o' + j * 2, none⟩ = some (.int .i64 u) ∧ W.cell? ⟨b, o' + j * 2 + 1, none⟩ = some (.int .i64 v) ∧ W.cell? ⟨w.heap.size, 0, none⟩ = some (.int .i64 p) ∧ W.cell? ⟨w.heap.size, 1, none⟩ = some (.int .i64 q) ∧ Below wr.heap.size wr W) := fun W hW => ⟨(hW.cell (p := ⟨b, _, none⟩) hbr).trans c1, (hW.cell (p := ⟨b, _, none⟩) hbr).trans c2, (hxr.kept hW).two.1, (hxr.kept hW).two.2, hW⟩
      have KC : ∀ (W W' : World), Below W.heap.size W W' → (W.cell? ⟨b, o' + j * 2, none⟩ = some (.int .i64 u) ∧ W.cell? ⟨b, o' + j * 2 + 1, none⟩ = some (.int .i64 v) ∧ W.cell? ⟨w.heap.size, 0, none⟩ = some (.int .i64 p) ∧ W.cell? ⟨w.heap.size, 1, none⟩ = some (.int .i64 q) ∧ Below wr.heap.size wr W) → (W'.cell? ⟨b, o' + j * 2, none⟩ = some (.int .i64 u) ∧ W'.cell? ⟨b, o' + j * 2 + 1, none⟩ = some (.int .i64 v) ∧ W'.cell? ⟨w.heap.size, 0, none⟩ = some (.int .i64 p) ∧ W'.cell? ⟨w.heap.size, 1, none⟩ = some (.int .i64 q) ∧ Below wr.heap.size wr W') := fun W W' hb ⟨_, _, _, _, hW⟩ => KM _ (Below.step hW hb)
      have KB : ∀ (W : World), (W.cell? ⟨b, o' + j * 2, none⟩ = some (.int .i64 u) ∧ W.cell? ⟨b, o' + j * 2 + 1, none⟩ = some (.int .i64 v) ∧ W.cell? ⟨w.heap.size, 0, none⟩ = some (.int .i64 p) ∧ W.cell? ⟨w.heap.size, 1, none⟩ = some (.int .i64 q) ∧ Below wr.heap.size wr W) → Below wr.heap.size wr W := fun W ⟨_, _, _, _, hW⟩ => hW
      have KM0 := KM wr.drew ⟨rfl, rfl, rfl, Nat.le_refl _, fun _ _ => rfl⟩
      have KM00 := KM _ (Below.refl _ _)
      replace KC := Lib.hid KC
      replace KB := Lib.hid KB
      clear KM
      go_cut [17] from 6 to 19 (fun s wx => s = .bool true ∧ Below wr.heap.size wr wx)
      case first =>
        go_region_held3 (fun w' => w'.cell? ⟨b, o' + j * 2, none⟩ = some (.int .i64 u) ∧ w'.cell? ⟨b, o' + j * 2 + 1, none⟩ = some (.int .i64 v) ∧ w'.cell? ⟨w.heap.size, 0, none⟩ = some (.int .i64 p) ∧ w'.cell? ⟨w.heap.size, 1, none⟩ = some (.int .i64 q) ∧ Below wr.heap.size wr w') ((first | (with_reducible assumption) | ((with_reducible refine KC.out _ _ ?_ ?_); (with_reducible assumption); (with_reducible assumption))))
          (first
            | (go_at_call 58; (with_reducible refine (key.out _).mono ?_); rintro e wC ⟨rfl, hbC⟩; have hSC : wC.cell? ⟨b, o' + j * 2, none⟩ = some (.int .i64 u) ∧ wC.cell? ⟨b, o' + j * 2 + 1, none⟩ = some (.int .i64 v) ∧ wC.cell? ⟨w.heap.size, 0, none⟩ = some (.int .i64 p) ∧ wC.cell? ⟨w.heap.size, 1, none⟩ = some (.int .i64 q) ∧ Below wr.heap.size wr wC := KC.out _ _ hbC (by assumption)))
        all_goals (go_wp2_with fail; go_meet)
        all_goals refine ⟨rfl, KB.out _ ?_⟩
        all_goals (with_reducible assumption)
      case rest =>
      obtain ⟨rfl, hbx⟩ := hcut
      clear KC KB KM0 KM00 c1 c2
      go_wp2_with fail
      go_roundw
      case rel => exact ⟨j + 1, by omega, by go_num, Below.step hb hbx⟩
      case measure => simp [intOf]; omega
    · obtain rfl : j = k := by omega
      clear h1 hlt
      have g0 : (0 : Int) ≤ j := by omega
      have g1 : (j : Int) < L.length := by omega
      have g2 : j < L.length := by omega
      obtain ⟨x1, x2⟩ := flat_at L j g2
      obtain ⟨⟨u, v⟩, huv⟩ : ∃ y, y = L[j]?.getD (0, 0) := ⟨_, rfl⟩
      have hbd : Bd (u, v) := by rw [huv]; simp only [List.getElem?_eq_getElem g2, Option.getD_some]; exact hB _ (List.getElem_mem g2)
      rw [← huv] at x1 x2
      have c1 := (Below.step h hb).cell (p := ⟨b, o' + 2 * j, none⟩) hbw |>.trans (hc (2 * j) (by omega))
      have c2 := (Below.step h hb).cell (p := ⟨b, o' + (2 * j + 1), none⟩) hbw |>.trans (hc (2 * j + 1) (by omega))
      rw [x1, Nat.mul_comm] at c1
      rw [x2, Nat.mul_comm, ← Nat.add_assoc] at c2
      have hbr : b < wr.heap.size := Nat.lt_of_lt_of_le hbw (Below.step h hb).size
      rw [← huv] at h3
      obtain rfl : p = u := (congrArg Prod.fst h3).symm
      obtain rfl : q = v := (congrArg Prod.snd h3).symm
      have hl : ¬ p * q < p * q := Int.lt_irrefl _
      replace hl := Lib.hid hl
      clear huv hB hc h3
      have key := fun W => frLess_any p q p q W hbd.1 hbd.2 hx.1 hx.2 false (decide_eq_false hl.out)
      replace key := Lib.hid key
      clear hl hbd x1 x2
      go_wp2_with fail
      go_upto_region 2 with fail
      have KM : ∀ (W : World), Below wr.heap.size wr W → (W.cell? ⟨b, o' + j * 2, none⟩ = some (.int .i64 p) ∧ W.cell? ⟨b, o' + j * 2 + 1, none⟩ = some (.int .i64 q) ∧ W.cell? ⟨w.heap.size, 0, none⟩ = some (.int .i64 p) ∧ W.cell? ⟨w.heap.size, 1, none⟩ = some (.int .i64 q) ∧ Below wr.heap.size wr W) := fun W hW => ⟨(hW.cell (p := ⟨b, _, none⟩) hbr).trans c1, (hW.cell (p := ⟨b, _, none⟩) hbr).trans c2, (hxr.kept hW).two.1, (hxr.kept hW).two.2, hW⟩
      have KC : ∀ (W W' : World), Below W.heap.size W W' → (W.cell? ⟨b, o' + j * 2, none⟩ = some (.int .i64 p) ∧ W.cell? ⟨b, o' + j * 2 + 1, none⟩ = some (.int .i64 q) ∧ W.cell? ⟨w.heap.size, 0, none⟩ = some (.int .i64 p) ∧ W.cell? ⟨w.heap.size, 1, none⟩ = some (.int .i64 q) ∧ Below wr.heap.size wr W) → (W'.cell? ⟨b, o' + j * 2, none⟩ = some (.int .i64 p) ∧ W'.cell? ⟨b, o' + j * 2 + 1, none⟩ = some (.int .i64 q) ∧ W'.cell? ⟨w.heap.size, 0, none⟩ = some (.int .i64 p) ∧ W'.cell? ⟨w.heap.size, 1, none⟩ = some (.int .i64 q) ∧ Below wr.heap.size wr W') := fun W W' hb ⟨_, _, _, _, hW⟩ => KM _ (Below.step hW hb)
      have KB : ∀ (W : World), (W.cell? ⟨b, o' + j * 2, none⟩ = some (.int .i64 p) ∧ W.cell? ⟨b, o' + j * 2 + 1, none⟩ = some (.int .i64 q) ∧ W.cell? ⟨w.heap.size, 0, none⟩ = some (.int .i64 p) ∧ W.cell? ⟨w.heap.size, 1, none⟩ = some (.int .i64 q) ∧ Below wr.heap.size wr W) → Below wr.heap.size wr W := fun W ⟨_, _, _, _, hW⟩ => hW
      have KM0 := KM wr.drew ⟨rfl, rfl, rfl, Nat.le_refl _, fun _ _ => rfl⟩
      have KM00 := KM _ (Below.refl _ _)
      replace KC := Lib.hid KC
      replace KB := Lib.hid KB
      clear KM
      go_cut [17] from 6 to 19 (fun s wx => s = .bool false ∧ Below wr.heap.size wr wx)
      case first =>
        go_region_held3 (fun w' => w'.cell? ⟨b, o' + j * 2, none⟩ = some (.int .i64 p) ∧ w'.cell? ⟨b, o' + j * 2 + 1, none⟩ = some (.int .i64 q) ∧ w'.cell? ⟨w.heap.size, 0, none⟩ = some (.int .i64 p) ∧ w'.cell? ⟨w.heap.size, 1, none⟩ = some (.int .i64 q) ∧ Below wr.heap.size wr w') ((first | (with_reducible assumption) | ((with_reducible refine KC.out _ _ ?_ ?_); (with_reducible assumption); (with_reducible assumption))))
          (first
            | (go_at_call 58; (with_reducible refine (key.out _).mono ?_); rintro e wC ⟨rfl, hbC⟩; have hSC : wC.cell? ⟨b, o' + j * 2, none⟩ = some (.int .i64 p) ∧ wC.cell? ⟨b, o' + j * 2 + 1, none⟩ = some (.int .i64 q) ∧ wC.cell? ⟨w.heap.size, 0, none⟩ = some (.int .i64 p) ∧ wC.cell? ⟨w.heap.size, 1, none⟩ = some (.int .i64 q) ∧ Below wr.heap.size wr wC := KC.out _ _ hbC (by assumption)))
        all_goals (go_wp2_with fail; go_meet)
        all_goals refine ⟨rfl, KB.out _ ?_⟩
        all_goals (with_reducible assumption)
      case rest =>
      obtain ⟨rfl, hbx⟩ := hcut
      clear KC KB KM0 KM00 
      replace c1 := (hbx.cell (p := ⟨b, _, none⟩) hbr).trans c1
      replace c2 := (hbx.cell (p := ⟨b, _, none⟩) hbr).trans c2
      replace hxr := hxr.kept hbx
      obtain ⟨k0, k1⟩ := hxr.two
      go_wp2_with fail
      go_quiet (fail)
      go_wp2_with fail
      go_ret
      have _ := hcap
      exact ⟨rfl, Below.drewN' (Below.step (Below.step h hb) hbx) _⟩

set_option maxHeartbeats 8000000 in
set_option maxRecDepth 100000 in
theorem cuPut_mid (L : List (Int × Int)) (p q : Int) (k b o' c : Nat) (w : World) (hl0 : 0 < L.length) (hl2 : L.length ≤ 3) (hbw : b < w.heap.size) (hcap : L.length ≤ c)
    (hc : ∀ j, j < 2 * L.length → w.cell? ⟨b, o' + j, none⟩ = some (.int .i64 ((flat L)[j]?.getD 0)))
    (hB : ∀ x ∈ L, Bd x) (hx : Bd (p, q)) (h1 : ∀ j, j < k → FLt (L[j]?.getD (0, 0)) (p, q)) (h2 : k < L.length) (h3 : ¬ FLt (L[k]?.getD (0, 0)) (p, q)) (h4 : L[k]?.getD (0, 0) ≠ (p, q)) :
    Calls Tryd.prog 51 #[.slice (some ⟨b, o', none⟩) L.length c, .agg #[.int .i64 p, .int .i64 q]] w (GivesFRow w (L.take k ++ (p, q) :: L.drop k)) := by
  replace h1 := Lib.hid h1
  replace hB := Lib.hid hB
  replace hc := Lib.hid hc
  have h := below_alloc1 w (.cells #[.int .i64 p, .int .i64 q] 30)
  have hx0 := Box.new w 30 #[.int .i64 p, .int .i64 q]
  go_enter Tryd.func51, Tryd.ntmps51
  go_wp2_with fail
  go_loopw [5] (fun i wr => ∃ j : Nat, j ≤ k ∧ i = .int .i64 j ∧ Below (w.alloc (.cells #[.int .i64 p, .int .i64 q] 30)).heap.size (w.alloc (.cells #[.int .i64 p, .int .i64 q] 30)) wr) (fun i _ => 4 - (intOf i).toNat)
  case atStart => exact ⟨0, Nat.zero_le _, rfl, Below.refl _ _⟩
  case round =>
    obtain ⟨j, hj, rfl, hb⟩ := hrel
    have hxr := hx0.kept hb
    replace h1 := h1.out
    replace hB := hB.out
    replace hc := hc.out
    by_cases hlt : j < k
    · have hl := h1 j hlt
      have g0 : (0 : Int) ≤ j := by omega
      have g1 : (j : Int) < L.length := by omega
      have g2 : j < L.length := by omega
      obtain ⟨x1, x2⟩ := flat_at L j g2
      obtain ⟨⟨u, v⟩, huv⟩ : ∃ y, y = L[j]?.getD (0, 0) := ⟨_, rfl⟩
      have hbd : Bd (u, v) := by rw [huv]; simp only [List.getElem?_eq_getElem g2, Option.getD_some]; exact hB _ (List.getElem_mem g2)
      rw [← huv] at x1 x2
      have c1 := (Below.step h hb).cell (p := ⟨b, o' + 2 * j, none⟩) hbw |>.trans (hc (2 * j) (by omega))
      have c2 := (Below.step h hb).cell (p := ⟨b, o' + (2 * j + 1), none⟩) hbw |>.trans (hc (2 * j + 1) (by omega))
      rw [x1, Nat.mul_comm] at c1
      rw [x2, Nat.mul_comm, ← Nat.add_assoc] at c2
      have hbr : b < wr.heap.size := Nat.lt_of_lt_of_le hbw (Below.step h hb).size
      rw [← huv] at hl
      replace hl := Lib.hid hl
      clear huv h1 hB hc
      have key := fun W => frLess_any u v p q W hbd.1 hbd.2 hx.1 hx.2 true (decide_eq_true hl.out)
      replace key := Lib.hid key
      clear hl hbd x1 x2
      go_wp2_with fail
      go_upto_region 2 with fail
      have KM : ∀ (W : World), Below wr.heap.size wr W → (W.cell? ⟨b, o' + j * 2, none⟩ = some (.int .i64 u) ∧ W.cell? ⟨b, o' + j * 2 + 1, none⟩ = some (.int .i64 v) ∧ W.cell? ⟨w.heap.size, 0, none⟩ = some (.int .i64 p) ∧ W.cell? ⟨w.heap.size, 1, none⟩ = some (.int .i64 q) ∧ Below wr.heap.size wr W) := fun W hW => ⟨(hW.cell (p := ⟨b, _, none⟩) hbr).trans c1, (hW.cell (p := ⟨b, _, none⟩) hbr).trans c2, (hxr.kept hW).two.1, (hxr.kept hW).two.2, hW⟩
      have KC : ∀ (W W' : World), Below W.heap.size W W' → (W.cell? ⟨b, o' + j * 2, none⟩ = some (.int .i64 u) ∧ W.cell? ⟨b, o' + j * 2 + 1, none⟩ = some (.int .i64 v) ∧ W.cell? ⟨w.heap.size, 0, none⟩ = some (.int .i64 p) ∧ W.cell? ⟨w.heap.size, 1, none⟩ = some (.int .i64 q) ∧ Below wr.heap.size wr W) → (W'.cell? ⟨b, o' + j * 2, none⟩ = some (.int .i64 u) ∧ W'.cell? ⟨b, o' + j * 2 + 1, none⟩ = some (.int .i64 v) ∧ W'.cell? ⟨w.heap.size, 0, none⟩ = some (.int .i64 p) ∧ W'.cell? ⟨w.heap.size, 1, none⟩ = some (.int .i64 q) ∧ Below wr.heap.size wr W') := fun W W' hb ⟨_, _, _, _, hW⟩ => KM _ (Below.step hW hb)
      have KB : ∀ (W : World), (W.cell? ⟨b, o' + j * 2, none⟩ = some (.int .i64 u) ∧ W.cell? ⟨b, o' + j * 2 + 1, none⟩ = some (.int .i64 v) ∧ W.cell? ⟨w.heap.size, 0, none⟩ = some (.int .i64 p) ∧ W.cell? ⟨w.heap.size, 1, none⟩ = some (.int .i64 q) ∧ Below wr.heap.size wr W) → Below wr.heap.size wr W := fun W ⟨_, _, _, _, hW⟩ => hW
      have KM0 := KM wr.drew ⟨rfl, rfl, rfl, Nat.le_refl _, fun _ _ => rfl⟩
      have KM00 := KM _ (Below.refl _ _)
      replace KC := Lib.hid KC
      replace KB := Lib.hid KB
      clear KM
      go_cut [17] from 6 to 19 (fun s wx => s = .bool true ∧ Below wr.heap.size wr wx)
      case first =>
        go_region_held3 (fun w' => w'.cell? ⟨b, o' + j * 2, none⟩ = some (.int .i64 u) ∧ w'.cell? ⟨b, o' + j * 2 + 1, none⟩ = some (.int .i64 v) ∧ w'.cell? ⟨w.heap.size, 0, none⟩ = some (.int .i64 p) ∧ w'.cell? ⟨w.heap.size, 1, none⟩ = some (.int .i64 q) ∧ Below wr.heap.size wr w') ((first | (with_reducible assumption) | ((with_reducible refine KC.out _ _ ?_ ?_); (with_reducible assumption); (with_reducible assumption))))
          (first
            | (go_at_call 58; (with_reducible refine (key.out _).mono ?_); rintro e wC ⟨rfl, hbC⟩; have hSC : wC.cell? ⟨b, o' + j * 2, none⟩ = some (.int .i64 u) ∧ wC.cell? ⟨b, o' + j * 2 + 1, none⟩ = some (.int .i64 v) ∧ wC.cell? ⟨w.heap.size, 0, none⟩ = some (.int .i64 p) ∧ wC.cell? ⟨w.heap.size, 1, none⟩ = some (.int .i64 q) ∧ Below wr.heap.size wr wC := KC.out _ _ hbC (by assumption)))
        all_goals (go_wp2_with fail; go_meet)
        all_goals refine ⟨rfl, KB.out _ ?_⟩
        all_goals (with_reducible assumption)
      case rest =>
      obtain ⟨rfl, hbx⟩ := hcut
      clear KC KB KM0 KM00 c1 c2
      go_wp2_with fail
      go_roundw
      case rel => exact ⟨j + 1, by omega, by go_num, Below.step hb hbx⟩
      case measure => simp [intOf]; omega
    · obtain rfl : j = k := by omega
      clear h1 hlt
      have g0 : (0 : Int) ≤ j := by omega
      have g1 : (j : Int) < L.length := by omega
      have g2 : j < L.length := by omega
      obtain ⟨x1, x2⟩ := flat_at L j g2
      obtain ⟨⟨u, v⟩, huv⟩ : ∃ y, y = L[j]?.getD (0, 0) := ⟨_, rfl⟩
      have hbd : Bd (u, v) := by rw [huv]; simp only [List.getElem?_eq_getElem g2, Option.getD_some]; exact hB _ (List.getElem_mem g2)
      rw [← huv] at x1 x2
      have c1 := (Below.step h hb).cell (p := ⟨b, o' + 2 * j, none⟩) hbw |>.trans (hc (2 * j) (by omega))
      have c2 := (Below.step h hb).cell (p := ⟨b, o' + (2 * j + 1), none⟩) hbw |>.trans (hc (2 * j + 1) (by omega))
      rw [x1, Nat.mul_comm] at c1
      rw [x2, Nat.mul_comm, ← Nat.add_assoc] at c2
      have hbr : b < wr.heap.size := Nat.lt_of_lt_of_le hbw (Below.step h hb).size
      rw [← huv] at h3 h4
      have hl : ¬ u * q < p * v := h3
      replace hl := Lib.hid hl
      have hne2 : Hid (u = p → v ≠ q) := fun eu ev => h4 (by rw [eu, ev])
      clear h3 h4
      have key := fun W => frLess_any u v p q W hbd.1 hbd.2 hx.1 hx.2 false (decide_eq_false hl.out)
      replace key := Lib.hid key
      clear hl hbd x1 x2
      have hRd : RdF wr b.succ (some ⟨b, o', none⟩) L.length L := ⟨rfl, fun _ => ⟨b, o', rfl, Nat.lt_succ_self b, fun i hi => ((Below.step h hb).cell (p := ⟨b, o' + i, none⟩) hbw).trans (hc i hi)⟩⟩
      replace hRd := Lib.hid hRd
      clear huv hB hc
      go_wp2_with fail
      go_upto_region 2 with fail
      have KM : ∀ (W : World), Below wr.heap.size wr W → (W.cell? ⟨b, o' + j * 2, none⟩ = some (.int .i64 u) ∧ W.cell? ⟨b, o' + j * 2 + 1, none⟩ = some (.int .i64 v) ∧ W.cell? ⟨w.heap.size, 0, none⟩ = some (.int .i64 p) ∧ W.cell? ⟨w.heap.size, 1, none⟩ = some (.int .i64 q) ∧ Below wr.heap.size wr W) := fun W hW => ⟨(hW.cell (p := ⟨b, _, none⟩) hbr).trans c1, (hW.cell (p := ⟨b, _, none⟩) hbr).trans c2, (hxr.kept hW).two.1, (hxr.kept hW).two.2, hW⟩
      have KC : ∀ (W W' : World), Below W.heap.size W W' → (W.cell? ⟨b, o' + j * 2, none⟩ = some (.int .i64 u) ∧ W.cell? ⟨b, o' + j * 2 + 1, none⟩ = some (.int .i64 v) ∧ W.cell? ⟨w.heap.size, 0, none⟩ = some (.int .i64 p) ∧ W.cell? ⟨w.heap.size, 1, none⟩ = some (.int .i64 q) ∧ Below wr.heap.size wr W) → (W'.cell? ⟨b, o' + j * 2, none⟩ = some (.int .i64 u) ∧ W'.cell? ⟨b, o' + j * 2 + 1, none⟩ = some (.int .i64 v) ∧ W'.cell? ⟨w.heap.size, 0, none⟩ = some (.int .i64 p) ∧ W'.cell? ⟨w.heap.size, 1, none⟩ = some (.int .i64 q) ∧ Below wr.heap.size wr W') := fun W W' hb ⟨_, _, _, _, hW⟩ => KM _ (Below.step hW hb)
      have KB : ∀ (W : World), (W.cell? ⟨b, o' + j * 2, none⟩ = some (.int .i64 u) ∧ W.cell? ⟨b, o' + j * 2 + 1, none⟩ = some (.int .i64 v) ∧ W.cell? ⟨w.heap.size, 0, none⟩ = some (.int .i64 p) ∧ W.cell? ⟨w.heap.size, 1, none⟩ = some (.int .i64 q) ∧ Below wr.heap.size wr W) → Below wr.heap.size wr W := fun W ⟨_, _, _, _, hW⟩ => hW
      have KM0 := KM wr.drew ⟨rfl, rfl, rfl, Nat.le_refl _, fun _ _ => rfl⟩
      have KM00 := KM _ (Below.refl _ _)
      replace KC := Lib.hid KC
      replace KB := Lib.hid KB
      clear KM
      go_cut [17] from 6 to 19 (fun s wx => s = .bool false ∧ Below wr.heap.size wr wx)
      case first =>
        go_region_held3 (fun w' => w'.cell? ⟨b, o' + j * 2, none⟩ = some (.int .i64 u) ∧ w'.cell? ⟨b, o' + j * 2 + 1, none⟩ = some (.int .i64 v) ∧ w'.cell? ⟨w.heap.size, 0, none⟩ = some (.int .i64 p) ∧ w'.cell? ⟨w.heap.size, 1, none⟩ = some (.int .i64 q) ∧ Below wr.heap.size wr w') ((first | (with_reducible assumption) | ((with_reducible refine KC.out _ _ ?_ ?_); (with_reducible assumption); (with_reducible assumption))))
          (first
            | (go_at_call 58; (with_reducible refine (key.out _).mono ?_); rintro e wC ⟨rfl, hbC⟩; have hSC : wC.cell? ⟨b, o' + j * 2, none⟩ = some (.int .i64 u) ∧ wC.cell? ⟨b, o' + j * 2 + 1, none⟩ = some (.int .i64 v) ∧ wC.cell? ⟨w.heap.size, 0, none⟩ = some (.int .i64 p) ∧ wC.cell? ⟨w.heap.size, 1, none⟩ = some (.int .i64 q) ∧ Below wr.heap.size wr wC := KC.out _ _ hbC (by assumption)))
        all_goals (go_wp2_with fail; go_meet)
        all_goals refine ⟨rfl, KB.out _ ?_⟩
        all_goals (with_reducible assumption)
      case rest =>
      obtain ⟨rfl, hbx⟩ := hcut
      clear KC KB KM0 KM00 
      replace c1 := (hbx.cell (p := ⟨b, _, none⟩) hbr).trans c1
      replace c2 := (hbx.cell (p := ⟨b, _, none⟩) hbr).trans c2
      replace hxr := hxr.kept hbx
      obtain ⟨k0, k1⟩ := hxr.two
      go_upto_region 4 with fail
      go_cut [31] (fun s wx => s = .bool false ∧ ∃ n, wx = wc.drewN n)
      case first =>
        by_cases eu : u = p
        · have e2 : (v == q) = false := beq_eq_false_iff_ne.2 (hne2.out eu)
          subst eu
          clear hne2
          go_quiet (fail)
          go_wp2_with fail
          go_meet
          exact ⟨rfl, _, rfl⟩
        · have e2 : (u == p) = false := beq_eq_false_iff_ne.2 eu
          clear hne2 eu
          go_quiet (fail)
          go_wp2_with fail
          go_meet
          exact ⟨rfl, _, rfl⟩
      case rest =>
      rename_i wc2
      obtain ⟨rfl, nq, rfl⟩ := hcut
      clear hne2 c1 c2 k0 k1
      have hRd2 := hRd.out.below ((Below.drewN' hbx nq).mono (by omega))
      replace h := Below.drewN' (Below.step (Below.step h hb) hbx) nq
      replace hxr : Box (wc.drewN nq) w.heap.size 30 #[.int .i64 p, .int .i64 q] := hxr
      obtain ⟨w6, hw6⟩ : ∃ w6, w6 = wc.drewN nq := ⟨_, rfl⟩
      rw [← hw6] at h hxr hRd2 ⊢
      clear hw6 hb hRd
      go_upto_region 6 with fail
      have g3 : (j : Int) ≤ c := by omega
      have g4 : (j : Int) ≤ L.length := by omega
      have g5 : ¬ c = j := by omega
      have KM : ∀ (W : World), Below w6.heap.size w6 W → (W.cell? ⟨w.heap.size, 0, none⟩ = some (.int .i64 p) ∧ W.cell? ⟨w.heap.size, 1, none⟩ = some (.int .i64 q) ∧ Below w6.heap.size w6 W) := fun W hW => ⟨(hxr.kept hW).two.1, (hxr.kept hW).two.2, hW⟩
      have KA : ∀ (W : World) (o : Obj), (W.cell? ⟨w.heap.size, 0, none⟩ = some (.int .i64 p) ∧ W.cell? ⟨w.heap.size, 1, none⟩ = some (.int .i64 q) ∧ Below w6.heap.size w6 W) → ((W.alloc o).cell? ⟨w.heap.size, 0, none⟩ = some (.int .i64 p) ∧ (W.alloc o).cell? ⟨w.heap.size, 1, none⟩ = some (.int .i64 q) ∧ Below w6.heap.size w6 (W.alloc o)) := fun W o ⟨_, _, hW⟩ => KM _ (Below.step hW (below_alloc1 _ _))
      have KD : ∀ (W : World), (W.cell? ⟨w.heap.size, 0, none⟩ = some (.int .i64 p) ∧ W.cell? ⟨w.heap.size, 1, none⟩ = some (.int .i64 q) ∧ Below w6.heap.size w6 W) → (W.drew.cell? ⟨w.heap.size, 0, none⟩ = some (.int .i64 p) ∧ W.drew.cell? ⟨w.heap.size, 1, none⟩ = some (.int .i64 q) ∧ Below w6.heap.size w6 W.drew) := fun W ⟨_, _, hW⟩ => KM _ (Below.drewN' hW 1)
      have KB : ∀ (W : World), (W.cell? ⟨w.heap.size, 0, none⟩ = some (.int .i64 p) ∧ W.cell? ⟨w.heap.size, 1, none⟩ = some (.int .i64 q) ∧ Below w6.heap.size w6 W) → Below w6.heap.size w6 W := fun W ⟨_, _, hW⟩ => hW
      have hb6 : b.succ ≤ w6.heap.size := Nat.lt_of_lt_of_le hbw h.size
      have KT : ∀ (W : World), (W.cell? ⟨w.heap.size, 0, none⟩ = some (.int .i64 p) ∧ W.cell? ⟨w.heap.size, 1, none⟩ = some (.int .i64 q) ∧ Below w6.heap.size w6 W) → RdF W b.succ (some ⟨b, o', none⟩) j (L.take j) := fun W ⟨_, _, hW⟩ => (hRd2.below (hW.mono hb6)).take (by omega)
      have KU : ∀ (W : World), (W.cell? ⟨w.heap.size, 0, none⟩ = some (.int .i64 p) ∧ W.cell? ⟨w.heap.size, 1, none⟩ = some (.int .i64 q) ∧ Below w6.heap.size w6 W) → RdF W b.succ (some ⟨b, o' + j * 2, none⟩) (L.length - j) (L.drop j) := fun W ⟨_, _, hW⟩ => (hRd2.below (hW.mono hb6)).drop (by omega)
      have KM0 := KM w6.drew ⟨rfl, rfl, rfl, Nat.le_refl _, fun _ _ => rfl⟩
      have KM00 := KM _ (Below.refl _ _)
      replace KM := Lib.hid KM
      replace KA := Lib.hid KA
      replace KD := Lib.hid KD
      replace KB := Lib.hid KB
      replace KT := Lib.hid KT
      replace KU := Lib.hid KU
      go_region_held3 (fun w' => w'.cell? ⟨w.heap.size, 0, none⟩ = some (.int .i64 p) ∧ w'.cell? ⟨w.heap.size, 1, none⟩ = some (.int .i64 q) ∧ Below w6.heap.size w6 w') ((first | (with_reducible assumption) | ((with_reducible refine KA.out _ _ ?_); (with_reducible assumption)) | ((with_reducible refine KA.out _ _ ?_); (with_reducible refine KA.out _ _ ?_); (with_reducible assumption)) | ((with_reducible refine KD.out _ ?_); (first | (with_reducible assumption) | ((with_reducible refine KA.out _ _ ?_); (with_reducible assumption)) | ((with_reducible refine KA.out _ _ ?_); (with_reducible refine KA.out _ _ ?_); (with_reducible assumption))))))
        (first
          | (refine step_append_W w6 _ rfl (.tmp 33) (.tmp 36) 33 rfl Tryd.underlying33 _ [] rfl _ _ _ _ (L.take j) rfl (KB.out _ (by first | assumption | exact KD.out _ (by first | assumption | exact KA.out _ _ (by assumption)))) (by first | exact ownF_empty w6 (Nat.le_refl _) | exact (ownF_empty w6 (Nat.le_refl _)).alloc _ | exact ownF_empty2 w6 _ (Nat.le_refl _)) (KT.out _ (by first | assumption | exact KD.out _ (by first | assumption | exact KA.out _ _ (by assumption)))) (by simp; omega) ?_; intro n1 A1 c7 w7 hn1 ho1 hq1 hg1; have hS1 : w7.cell? ⟨w.heap.size, 0, none⟩ = some (.int .i64 p) ∧ w7.cell? ⟨w.heap.size, 1, none⟩ = some (.int .i64 q) ∧ Below w6.heap.size w6 w7 := KM.out _ hq1; (first | (have hb39 : Box w7 (w6.heap.size + 1) 30 #[.int .i64 p, .int .i64 q] := (Box.drew (Box.new2 w6 (.cells #[] 30) 30 #[.int .i64 p, .int .i64 q])).grown hg1 (by show some (w6.heap.size + 1) ≠ (Value.slice (some ⟨w6.heap.size, 0, none⟩) 0 0).ownBlock; simp [Value.ownBlock])) | (have hb39 : Box w7 w6.heap.size 30 #[.int .i64 p, .int .i64 q] := (Box.drew ((Box.new w6 30 #[.int .i64 p, .int .i64 q]).kept (below_alloc1 _ (.cells #[] 30)))).grown hg1 (by show some w6.heap.size ≠ (Value.slice (some ⟨w6.heap.size + 1, 0, none⟩) 0 0).ownBlock; simp [Value.ownBlock])) | skip))
          | (refine step_append_W w6 _ rfl (.tmp 37) (.tmp 39) 33 rfl Tryd.underlying33 _ ([] ++ L.take j) rfl _ _ _ _ [(p, q)] rfl (KB.out _ (by first | assumption | exact KA.out _ _ (by assumption))) (by first | exact ho1 | exact ho1.alloc _) (by first | exact rdF_box hb39 | exact rdF_new w7 (p, q)) (by simp; omega) ?_; intro n2 A2 c8 w8 hn2 ho2 hq2 hg2; have hS2 : w8.cell? ⟨w.heap.size, 0, none⟩ = some (.int .i64 p) ∧ w8.cell? ⟨w.heap.size, 1, none⟩ = some (.int .i64 q) ∧ Below w6.heap.size w6 w8 := KM.out _ hq2)
          | (refine step_append_W w6 _ rfl (.tmp 40) (.tmp 43) 33 rfl Tryd.underlying33 _ (([] ++ L.take j) ++ [(p, q)]) rfl _ _ _ _ (L.drop j) rfl (KB.out _ (by assumption)) (by exact ho2) (KU.out _ (by assumption)) (by simp; omega) ?_; intro n3 A3 c9 w9 hn3 ho3 hq3 hg3; have hS3 : w9.cell? ⟨w.heap.size, 0, none⟩ = some (.int .i64 p) ∧ w9.cell? ⟨w.heap.size, 1, none⟩ = some (.int .i64 q) ∧ Below w6.heap.size w6 w9 := KM.out _ hq3))
      all_goals (
        have hfin : Hid (Below w.heap.size w w9) := h.trans (hq3.mono h.size)
        have hof : Hid (OwnF w9 w.heap.size (.slice A3 n3 c9) (([] ++ L.take j) ++ [(p, q)] ++ L.drop j)) := ho3.le h.size
        clear ho1 ho2 ho3
        go_wp2_with fail
        go_ret
        have e9 : ([] ++ L.take j) ++ [(p, q)] ++ L.drop j = L.take j ++ (p, q) :: L.drop j := by simp
        have ho9 := hof.out
        have hn9 := hn3.out
        rw [e9] at ho9 hn9
        subst hn9
        exact ⟨A3, c9, rfl, ho9, hfin.out⟩)

end Go.Proofs.YtjamckcbgcejdaaDoor
