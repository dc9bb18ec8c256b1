/- cuPut of the model, at the end of a row and onto an empty one (written by wip/gen/cuput2.py). -/
import Derived.Test.YtjamckcbgcejdaaDoorCuPut
namespace Go.Proofs.YtjamckcbgcejdaaDoor
open Go.RowKit Go.Joins

set_option maxHeartbeats 8000000 in
set_option maxRecDepth 100000 in
theorem cuPut_end (L : List (Int × Int)) (p q : Int) (b o' c : Nat) (w : World) (hl0 : 0 < L.length) (hl2 : L.length ≤ 3) (hbw : b < w.heap.size) (hcap : L.length ≤ c)
    (hc : ∀ j, j < 2 * L.length → w.cell? ⟨b, o' + j, none⟩ = some (.int .i64 ((flat L)[j]?.getD 0)))
    (hB : ∀ x ∈ L, Bd x) (hx : Bd (p, q)) (h1 : ∀ j, j < L.length → FLt (L[j]?.getD (0, 0)) (p, q)) :
    Calls Tryd.prog 51 #[.slice (some ⟨b, o', none⟩) L.length c, .agg #[.int .i64 p, .int .i64 q]] w (GivesFRow w (L ++ [(p, q)])) := by
  obtain ⟨k, hkl⟩ : ∃ k, k = L.length := ⟨_, rfl⟩
  replace hkl := Lib.hid hkl
  replace h1 := Lib.hid h1
  replace hB := Lib.hid hB
  replace hc := Lib.hid hc
  have h := below_alloc1 w (.cells #[.int .i64 p, .int .i64 q] 30)
  have hx0 := Box.new w 30 #[.int .i64 p, .int .i64 q]
  go_enter Tryd.func51, Tryd.ntmps51
  go_wp2_with fail
  go_loopw [5] (fun i wr => ∃ j : Nat, j ≤ k ∧ i = .int .i64 j ∧ Below (w.alloc (.cells #[.int .i64 p, .int .i64 q] 30)).heap.size (w.alloc (.cells #[.int .i64 p, .int .i64 q] 30)) wr) (fun i _ => 4 - (intOf i).toNat)
  case atStart => exact ⟨0, Nat.zero_le _, rfl, Below.refl _ _⟩
  case round =>
    obtain ⟨j, hj, rfl, hb⟩ := hrel
    have hxr := hx0.kept hb
    replace h1 := h1.out
    replace hB := hB.out
    replace hc := hc.out
    have hkl2 := hkl.out
    by_cases hlt : j < k
    · have hl := h1 j (by omega)
      have g0 : (0 : Int) ≤ j := by omega
      have g1 : (j : Int) < L.length := by omega
      have g2 : j < L.length := by omega
      obtain ⟨x1, x2⟩ := flat_at L j g2
      obtain ⟨⟨u, v⟩, huv⟩ : ∃ y, y = L[j]?.getD (0, 0) := ⟨_, rfl⟩
      have hbd : Bd (u, v) := by rw [huv]; simp only [List.getElem?_eq_getElem g2, Option.getD_some]; exact hB _ (List.getElem_mem g2)
      rw [← huv] at x1 x2
      have c1 := (Below.step h hb).cell (p := ⟨b, o' + 2 * j, none⟩) hbw |>.trans (hc (2 * j) (by omega))
      have c2 := (Below.step h hb).cell (p := ⟨b, o' + (2 * j + 1), none⟩) hbw |>.trans (hc (2 * j + 1) (by omega))
      rw [x1, Nat.mul_comm] at c1
      rw [x2, Nat.mul_comm, ← Nat.add_assoc] at c2
      have hbr : b < wr.heap.size := Nat.lt_of_lt_of_le hbw (Below.step h hb).size
      rw [← huv] at hl
      replace hl := Lib.hid hl
      clear huv h1 hB hc hkl2
      have key := fun W => frLess_any u v p q W hbd.1 hbd.2 hx.1 hx.2 true (decide_eq_true hl.out)
      replace key := Lib.hid key
      clear hl hbd x1 x2
      go_wp2_with fail
      go_upto_region 2 with fail
      have KM : ∀ (W : World), Below wr.heap.size wr W → (W.cell? ⟨b, o' + j * 2, none⟩ = some (.int .i64 u) ∧ W.cell? ⟨b, o' + j * 2 + 1, none⟩ = some (.int .i64 v) ∧ W.cell? ⟨w.heap.size, 0, none⟩ = some (.int .i64 p) ∧ W.cell? ⟨w.heap.size, 1, none⟩ = some (.int .i64 q) ∧ Below wr.heap.size wr W) := fun W hW => ⟨(hW.cell (p := ⟨b, _, none⟩) hbr).trans c1, (hW.cell (p := ⟨b, _, none⟩) hbr).trans c2, (hxr.kept hW).two.1, (hxr.kept hW).two.2, hW⟩
      have KC : ∀ (W W' : World), Below W.heap.size W W' → (W.cell? ⟨b, o' + j * 2, none⟩ = some (.int .i64 u) ∧ W.cell? ⟨b, o' + j * 2 + 1, none⟩ = some (.int .i64 v) ∧ W.cell? ⟨w.heap.size, 0, none⟩ = some (.int .i64 p) ∧ W.cell? ⟨w.heap.size, 1, none⟩ = some (.int .i64 q) ∧ Below wr.heap.size wr W) → (W'.cell? ⟨b, o' + j * 2, none⟩ = some (.int .i64 u) ∧ W'.cell? ⟨b, o' + j * 2 + 1, none⟩ = some (.int .i64 v) ∧ W'.cell? ⟨w.heap.size, 0, none⟩ = some (.int .i64 p) ∧ W'.cell? ⟨w.heap.size, 1, none⟩ = some (.int .i64 q) ∧ Below wr.heap.size wr W') := fun W W' hb ⟨_, _, _, _, hW⟩ => KM _ (Below.step hW hb)
      have KB : ∀ (W : World), (W.cell? ⟨b, o' + j * 2, none⟩ = some (.int .i64 u) ∧ W.cell? ⟨b, o' + j * 2 + 1, none⟩ = some (.int .i64 v) ∧ W.cell? ⟨w.heap.size, 0, none⟩ = some (.int .i64 p) ∧ W.cell? ⟨w.heap.size, 1, none⟩ = some (.int .i64 q) ∧ Below wr.heap.size wr W) → Below wr.heap.size wr W := fun W ⟨_, _, _, _, hW⟩ => hW
      have KM0 := KM wr.drew ⟨rfl, rfl, rfl, Nat.le_refl _, fun _ _ => rfl⟩
      have KM00 := KM _ (Below.refl _ _)
      replace KC := Lib.hid KC
      replace KB := Lib.hid KB
      clear KM
      go_cut [17] from 6 to 19 (fun s wx => s = .bool true ∧ Below wr.heap.size wr wx)
      case first =>
        go_region_held3 (fun w' => w'.cell? ⟨b, o' + j * 2, none⟩ = some (.int .i64 u) ∧ w'.cell? ⟨b, o' + j * 2 + 1, none⟩ = some (.int .i64 v) ∧ w'.cell? ⟨w.heap.size, 0, none⟩ = some (.int .i64 p) ∧ w'.cell? ⟨w.heap.size, 1, none⟩ = some (.int .i64 q) ∧ Below wr.heap.size wr w') ((first | (with_reducible assumption) | ((with_reducible refine KC.out _ _ ?_ ?_); (with_reducible assumption); (with_reducible assumption))))
          (first
            | (go_at_call 58; (with_reducible refine (key.out _).mono ?_); rintro e wC ⟨rfl, hbC⟩; have hSC : wC.cell? ⟨b, o' + j * 2, none⟩ = some (.int .i64 u) ∧ wC.cell? ⟨b, o' + j * 2 + 1, none⟩ = some (.int .i64 v) ∧ wC.cell? ⟨w.heap.size, 0, none⟩ = some (.int .i64 p) ∧ wC.cell? ⟨w.heap.size, 1, none⟩ = some (.int .i64 q) ∧ Below wr.heap.size wr wC := KC.out _ _ hbC (by assumption)))
        all_goals (go_wp2_with fail; go_meet)
        all_goals refine ⟨rfl, KB.out _ ?_⟩
        all_goals (with_reducible assumption)
      case rest =>
      obtain ⟨rfl, hbx⟩ := hcut
      clear KC KB KM0 KM00 c1 c2
      go_wp2_with fail
      go_roundw
      case rel => exact ⟨j + 1, by omega, by go_num, Below.step hb hbx⟩
      case measure => simp [intOf]; have := hkl.out; omega
    · have hRd : RdF wr b.succ (some ⟨b, o', none⟩) L.length L := ⟨rfl, fun _ => ⟨b, o', rfl, Nat.lt_succ_self b, fun i hi => ((Below.step h hb).cell (p := ⟨b, o' + i, none⟩) hbw).trans (hc i hi)⟩⟩
      replace hRd := Lib.hid hRd
      have hjL : j = L.length := by omega
      clear h1 hB hc hlt hkl hkl2
      subst hjL
      have g1 : ¬ (L.length : Int) < L.length := Int.lt_irrefl _
      have g2 : decide ((L.length : Int) < L.length) = false := decide_eq_false g1
      obtain ⟨k0, k1⟩ := hxr.two
      go_wp2_with fail
      go_quiet (fail)
      replace h := Below.drewN' (Below.step h hb) nq
      replace hxr : Box (wr.drewN nq) w.heap.size 30 #[.int .i64 p, .int .i64 q] := hxr
      have hRd1 := hRd.out.below (Below.drewN' (Below.refl _ wr) nq)
      obtain ⟨w5, hw5⟩ : ∃ w5, w5 = wr.drewN nq := ⟨_, rfl⟩
      rw [← hw5] at h hxr hRd1 ⊢
      clear hw5 hb k0 k1
      obtain ⟨k0, k1⟩ := hxr.two
      go_wp2_with fail
      go_quiet (fail)
      replace h := Below.drewN' h nq
      replace hxr : Box (w5.drewN nq) w.heap.size 30 #[.int .i64 p, .int .i64 q] := hxr
      replace hRd1 := hRd1.below (Below.drewN' (Below.refl _ w5) nq)
      obtain ⟨w6, hw6⟩ : ∃ w6, w6 = w5.drewN nq := ⟨_, rfl⟩
      rw [← hw6] at h hxr hRd1 ⊢
      clear hw6 k0 k1
      go_upto_region 6 with fail
      have hRd2 := hRd1
      have g3 : (L.length : Int) ≤ c := by omega
      have g4 : (L.length : Int) ≤ L.length := Int.le_refl _
      by_cases g5 : c = L.length
      · have KM : ∀ (W : World), Below w6.heap.size w6 W → (W.cell? ⟨w.heap.size, 0, none⟩ = some (.int .i64 p) ∧ W.cell? ⟨w.heap.size, 1, none⟩ = some (.int .i64 q) ∧ Below w6.heap.size w6 W) := fun W hW => ⟨(hxr.kept hW).two.1, (hxr.kept hW).two.2, hW⟩
        have KA : ∀ (W : World) (o : Obj), (W.cell? ⟨w.heap.size, 0, none⟩ = some (.int .i64 p) ∧ W.cell? ⟨w.heap.size, 1, none⟩ = some (.int .i64 q) ∧ Below w6.heap.size w6 W) → ((W.alloc o).cell? ⟨w.heap.size, 0, none⟩ = some (.int .i64 p) ∧ (W.alloc o).cell? ⟨w.heap.size, 1, none⟩ = some (.int .i64 q) ∧ Below w6.heap.size w6 (W.alloc o)) := fun W o ⟨_, _, hW⟩ => KM _ (Below.step hW (below_alloc1 _ _))
        have KD : ∀ (W : World), (W.cell? ⟨w.heap.size, 0, none⟩ = some (.int .i64 p) ∧ W.cell? ⟨w.heap.size, 1, none⟩ = some (.int .i64 q) ∧ Below w6.heap.size w6 W) → (W.drew.cell? ⟨w.heap.size, 0, none⟩ = some (.int .i64 p) ∧ W.drew.cell? ⟨w.heap.size, 1, none⟩ = some (.int .i64 q) ∧ Below w6.heap.size w6 W.drew) := fun W ⟨_, _, hW⟩ => KM _ (Below.drewN' hW 1)
        have KB : ∀ (W : World), (W.cell? ⟨w.heap.size, 0, none⟩ = some (.int .i64 p) ∧ W.cell? ⟨w.heap.size, 1, none⟩ = some (.int .i64 q) ∧ Below w6.heap.size w6 W) → Below w6.heap.size w6 W := fun W ⟨_, _, hW⟩ => hW
        have hb6 : b.succ ≤ w6.heap.size := Nat.lt_of_lt_of_le hbw h.size
        have KT : ∀ (W : World), (W.cell? ⟨w.heap.size, 0, none⟩ = some (.int .i64 p) ∧ W.cell? ⟨w.heap.size, 1, none⟩ = some (.int .i64 q) ∧ Below w6.heap.size w6 W) → RdF W b.succ (some ⟨b, o', none⟩) L.length L := fun W ⟨_, _, hW⟩ => hRd2.below (hW.mono hb6)
        have KU : ∀ (W : World) (A : Option Addr), (W.cell? ⟨w.heap.size, 0, none⟩ = some (.int .i64 p) ∧ W.cell? ⟨w.heap.size, 1, none⟩ = some (.int .i64 q) ∧ Below w6.heap.size w6 W) → RdF W 0 A 0 [] := fun W A _ => ⟨rfl, fun h => absurd h (Nat.lt_irrefl 0)⟩
        have KM0 := KM w6.drew ⟨rfl, rfl, rfl, Nat.le_refl _, fun _ _ => rfl⟩
        have KM00 := KM _ (Below.refl _ _)
        replace KM := Lib.hid KM
        replace KA := Lib.hid KA
        replace KD := Lib.hid KD
        replace KB := Lib.hid KB
        replace KT := Lib.hid KT
        replace KU := Lib.hid KU
        go_region_held3 (fun w' => w'.cell? ⟨w.heap.size, 0, none⟩ = some (.int .i64 p) ∧ w'.cell? ⟨w.heap.size, 1, none⟩ = some (.int .i64 q) ∧ Below w6.heap.size w6 w') ((first | (with_reducible assumption) | ((with_reducible refine KA.out _ _ ?_); (with_reducible assumption)) | ((with_reducible refine KA.out _ _ ?_); (with_reducible refine KA.out _ _ ?_); (with_reducible assumption)) | ((with_reducible refine KD.out _ ?_); (first | (with_reducible assumption) | ((with_reducible refine KA.out _ _ ?_); (with_reducible assumption)) | ((with_reducible refine KA.out _ _ ?_); (with_reducible refine KA.out _ _ ?_); (with_reducible assumption))))))
          (first
            | (refine step_append_W w6 _ rfl (.tmp 33) (.tmp 36) 33 rfl Tryd.underlying33 _ [] rfl _ _ _ _ (L) rfl (KB.out _ (by first | assumption | exact KD.out _ (by first | assumption | exact KA.out _ _ (by assumption)))) (by first | exact ownF_empty w6 (Nat.le_refl _) | exact (ownF_empty w6 (Nat.le_refl _)).alloc _ | exact ownF_empty2 w6 _ (Nat.le_refl _)) (KT.out _ (by first | assumption | exact KD.out _ (by first | assumption | exact KA.out _ _ (by assumption)))) (by simp; omega) ?_; intro n1 A1 c7 w7 hn1 ho1 hq1 hg1; have hS1 : w7.cell? ⟨w.heap.size, 0, none⟩ = some (.int .i64 p) ∧ w7.cell? ⟨w.heap.size, 1, none⟩ = some (.int .i64 q) ∧ Below w6.heap.size w6 w7 := KM.out _ hq1; (first | (have hb39 : Box w7 (w6.heap.size + 1) 30 #[.int .i64 p, .int .i64 q] := (Box.drew (Box.new2 w6 (.cells #[] 30) 30 #[.int .i64 p, .int .i64 q])).grown hg1 (by show some (w6.heap.size + 1) ≠ (Value.slice (some ⟨w6.heap.size, 0, none⟩) 0 0).ownBlock; simp [Value.ownBlock])) | (have hb39 : Box w7 w6.heap.size 30 #[.int .i64 p, .int .i64 q] := (Box.drew ((Box.new w6 30 #[.int .i64 p, .int .i64 q]).kept (below_alloc1 _ (.cells #[] 30)))).grown hg1 (by show some w6.heap.size ≠ (Value.slice (some ⟨w6.heap.size + 1, 0, none⟩) 0 0).ownBlock; simp [Value.ownBlock])) | skip))
            | (refine step_append_W w6 _ rfl (.tmp 37) (.tmp 39) 33 rfl Tryd.underlying33 _ ([] ++ L) rfl _ _ _ _ [(p, q)] rfl (KB.out _ (by first | assumption | exact KA.out _ _ (by assumption))) (by first | exact ho1 | exact ho1.alloc _) (by first | exact rdF_box hb39 | exact rdF_new w7 (p, q)) (by simp; omega) ?_; intro n2 A2 c8 w8 hn2 ho2 hq2 hg2; have hS2 : w8.cell? ⟨w.heap.size, 0, none⟩ = some (.int .i64 p) ∧ w8.cell? ⟨w.heap.size, 1, none⟩ = some (.int .i64 q) ∧ Below w6.heap.size w6 w8 := KM.out _ hq2)
            | (refine step_append_W w6 _ rfl (.tmp 40) (.tmp 43) 33 rfl Tryd.underlying33 _ (([] ++ L) ++ [(p, q)]) rfl _ _ _ _ (([] : List (Int × Int))) rfl (KB.out _ (by assumption)) (by exact ho2) (KU.out _ _ (by assumption)) (by simp; omega) ?_; intro n3 A3 c9 w9 hn3 ho3 hq3 hg3; have hS3 : w9.cell? ⟨w.heap.size, 0, none⟩ = some (.int .i64 p) ∧ w9.cell? ⟨w.heap.size, 1, none⟩ = some (.int .i64 q) ∧ Below w6.heap.size w6 w9 := KM.out _ hq3))
        all_goals (
          have hfin : Hid (Below w.heap.size w w9) := h.trans (hq3.mono h.size)
          have hof : Hid (OwnF w9 w.heap.size (.slice A3 n3 c9) (([] ++ L) ++ [(p, q)] ++ ([] : List (Int × Int)))) := ho3.le h.size
          clear ho1 ho2 ho3
          go_wp2_with fail
          go_ret
          have e9 : ([] ++ L) ++ [(p, q)] ++ ([] : List (Int × Int)) = L ++ [(p, q)] := by simp
          have ho9 := hof.out
          have hn9 := hn3.out
          rw [e9] at ho9 hn9
          subst hn9
          exact ⟨A3, c9, rfl, ho9, hfin.out⟩)
      · have KM : ∀ (W : World), Below w6.heap.size w6 W → (W.cell? ⟨w.heap.size, 0, none⟩ = some (.int .i64 p) ∧ W.cell? ⟨w.heap.size, 1, none⟩ = some (.int .i64 q) ∧ Below w6.heap.size w6 W) := fun W hW => ⟨(hxr.kept hW).two.1, (hxr.kept hW).two.2, hW⟩
        have KA : ∀ (W : World) (o : Obj), (W.cell? ⟨w.heap.size, 0, none⟩ = some (.int .i64 p) ∧ W.cell? ⟨w.heap.size, 1, none⟩ = some (.int .i64 q) ∧ Below w6.heap.size w6 W) → ((W.alloc o).cell? ⟨w.heap.size, 0, none⟩ = some (.int .i64 p) ∧ (W.alloc o).cell? ⟨w.heap.size, 1, none⟩ = some (.int .i64 q) ∧ Below w6.heap.size w6 (W.alloc o)) := fun W o ⟨_, _, hW⟩ => KM _ (Below.step hW (below_alloc1 _ _))
        have KD : ∀ (W : World), (W.cell? ⟨w.heap.size, 0, none⟩ = some (.int .i64 p) ∧ W.cell? ⟨w.heap.size, 1, none⟩ = some (.int .i64 q) ∧ Below w6.heap.size w6 W) → (W.drew.cell? ⟨w.heap.size, 0, none⟩ = some (.int .i64 p) ∧ W.drew.cell? ⟨w.heap.size, 1, none⟩ = some (.int .i64 q) ∧ Below w6.heap.size w6 W.drew) := fun W ⟨_, _, hW⟩ => KM _ (Below.drewN' hW 1)
        have KB : ∀ (W : World), (W.cell? ⟨w.heap.size, 0, none⟩ = some (.int .i64 p) ∧ W.cell? ⟨w.heap.size, 1, none⟩ = some (.int .i64 q) ∧ Below w6.heap.size w6 W) → Below w6.heap.size w6 W := fun W ⟨_, _, hW⟩ => hW
        have hb6 : b.succ ≤ w6.heap.size := Nat.lt_of_lt_of_le hbw h.size
        have KT : ∀ (W : World), (W.cell? ⟨w.heap.size, 0, none⟩ = some (.int .i64 p) ∧ W.cell? ⟨w.heap.size, 1, none⟩ = some (.int .i64 q) ∧ Below w6.heap.size w6 W) → RdF W b.succ (some ⟨b, o', none⟩) L.length L := fun W ⟨_, _, hW⟩ => hRd2.below (hW.mono hb6)
        have KU : ∀ (W : World) (A : Option Addr), (W.cell? ⟨w.heap.size, 0, none⟩ = some (.int .i64 p) ∧ W.cell? ⟨w.heap.size, 1, none⟩ = some (.int .i64 q) ∧ Below w6.heap.size w6 W) → RdF W 0 A 0 [] := fun W A _ => ⟨rfl, fun h => absurd h (Nat.lt_irrefl 0)⟩
        have KM0 := KM w6.drew ⟨rfl, rfl, rfl, Nat.le_refl _, fun _ _ => rfl⟩
        have KM00 := KM _ (Below.refl _ _)
        replace KM := Lib.hid KM
        replace KA := Lib.hid KA
        replace KD := Lib.hid KD
        replace KB := Lib.hid KB
        replace KT := Lib.hid KT
        replace KU := Lib.hid KU
        go_region_held3 (fun w' => w'.cell? ⟨w.heap.size, 0, none⟩ = some (.int .i64 p) ∧ w'.cell? ⟨w.heap.size, 1, none⟩ = some (.int .i64 q) ∧ Below w6.heap.size w6 w') ((first | (with_reducible assumption) | ((with_reducible refine KA.out _ _ ?_); (with_reducible assumption)) | ((with_reducible refine KA.out _ _ ?_); (with_reducible refine KA.out _ _ ?_); (with_reducible assumption)) | ((with_reducible refine KD.out _ ?_); (first | (with_reducible assumption) | ((with_reducible refine KA.out _ _ ?_); (with_reducible assumption)) | ((with_reducible refine KA.out _ _ ?_); (with_reducible refine KA.out _ _ ?_); (with_reducible assumption))))))
          (first
            | (refine step_append_W w6 _ rfl (.tmp 33) (.tmp 36) 33 rfl Tryd.underlying33 _ [] rfl _ _ _ _ (L) rfl (KB.out _ (by first | assumption | exact KD.out _ (by first | assumption | exact KA.out _ _ (by assumption)))) (by first | exact ownF_empty w6 (Nat.le_refl _) | exact (ownF_empty w6 (Nat.le_refl _)).alloc _ | exact ownF_empty2 w6 _ (Nat.le_refl _)) (KT.out _ (by first | assumption | exact KD.out _ (by first | assumption | exact KA.out _ _ (by assumption)))) (by simp; omega) ?_; intro n1 A1 c7 w7 hn1 ho1 hq1 hg1; have hS1 : w7.cell? ⟨w.heap.size, 0, none⟩ = some (.int .i64 p) ∧ w7.cell? ⟨w.heap.size, 1, none⟩ = some (.int .i64 q) ∧ Below w6.heap.size w6 w7 := KM.out _ hq1; (first | (have hb39 : Box w7 (w6.heap.size + 1) 30 #[.int .i64 p, .int .i64 q] := (Box.drew (Box.new2 w6 (.cells #[] 30) 30 #[.int .i64 p, .int .i64 q])).grown hg1 (by show some (w6.heap.size + 1) ≠ (Value.slice (some ⟨w6.heap.size, 0, none⟩) 0 0).ownBlock; simp [Value.ownBlock])) | (have hb39 : Box w7 w6.heap.size 30 #[.int .i64 p, .int .i64 q] := (Box.drew ((Box.new w6 30 #[.int .i64 p, .int .i64 q]).kept (below_alloc1 _ (.cells #[] 30)))).grown hg1 (by show some w6.heap.size ≠ (Value.slice (some ⟨w6.heap.size + 1, 0, none⟩) 0 0).ownBlock; simp [Value.ownBlock])) | skip))
            | (refine step_append_W w6 _ rfl (.tmp 37) (.tmp 39) 33 rfl Tryd.underlying33 _ ([] ++ L) rfl _ _ _ _ [(p, q)] rfl (KB.out _ (by first | assumption | exact KA.out _ _ (by assumption))) (by first | exact ho1 | exact ho1.alloc _) (by first | exact rdF_box hb39 | exact rdF_new w7 (p, q)) (by simp; omega) ?_; intro n2 A2 c8 w8 hn2 ho2 hq2 hg2; have hS2 : w8.cell? ⟨w.heap.size, 0, none⟩ = some (.int .i64 p) ∧ w8.cell? ⟨w.heap.size, 1, none⟩ = some (.int .i64 q) ∧ Below w6.heap.size w6 w8 := KM.out _ hq2)
            | (refine step_append_W w6 _ rfl (.tmp 40) (.tmp 43) 33 rfl Tryd.underlying33 _ (([] ++ L) ++ [(p, q)]) rfl _ _ _ _ (([] : List (Int × Int))) rfl (KB.out _ (by assumption)) (by exact ho2) (KU.out _ _ (by assumption)) (by simp; omega) ?_; intro n3 A3 c9 w9 hn3 ho3 hq3 hg3; have hS3 : w9.cell? ⟨w.heap.size, 0, none⟩ = some (.int .i64 p) ∧ w9.cell? ⟨w.heap.size, 1, none⟩ = some (.int .i64 q) ∧ Below w6.heap.size w6 w9 := KM.out _ hq3))
        all_goals (
          have hfin : Hid (Below w.heap.size w w9) := h.trans (hq3.mono h.size)
          have hof : Hid (OwnF w9 w.heap.size (.slice A3 n3 c9) (([] ++ L) ++ [(p, q)] ++ ([] : List (Int × Int)))) := ho3.le h.size
          clear ho1 ho2 ho3
          go_wp2_with fail
          go_ret
          have e9 : ([] ++ L) ++ [(p, q)] ++ ([] : List (Int × Int)) = L ++ [(p, q)] := by simp
          have ho9 := hof.out
          have hn9 := hn3.out
          rw [e9] at ho9 hn9
          subst hn9
          exact ⟨A3, c9, rfl, ho9, hfin.out⟩)

set_option maxHeartbeats 8000000 in
set_option maxRecDepth 100000 in
theorem cuPut_nil (p q : Int) (w : World) : Calls Tryd.prog 51 #[.slice none 0 0, .agg #[.int .i64 p, .int .i64 q]] w (GivesFRow w [(p, q)]) := by
  have h := below_alloc1 w (.cells #[.int .i64 p, .int .i64 q] 30)
  have hx0 := Box.new w 30 #[.int .i64 p, .int .i64 q]
  go_enter Tryd.func51, Tryd.ntmps51
  go_wp2_with fail
  go_loopw [5] (fun i wr => i = .int .i64 0 ∧ Below (w.alloc (.cells #[.int .i64 p, .int .i64 q] 30)).heap.size (w.alloc (.cells #[.int .i64 p, .int .i64 q] 30)) wr) (fun i _ => 4 - (intOf i).toNat)
  case atStart => exact ⟨rfl, Below.refl _ _⟩
  case round =>
    obtain ⟨rfl, hb⟩ := hrel
    have hxr := hx0.kept hb
    obtain ⟨k0, k1⟩ := hxr.two
    go_wp2_with fail
    go_quiet (fail)
    replace h := Below.drewN' (Below.step h hb) nq
    replace hxr : Box (wr.drewN nq) w.heap.size 30 #[.int .i64 p, .int .i64 q] := hxr
    obtain ⟨w5, hw5⟩ : ∃ w5, w5 = wr.drewN nq := ⟨_, rfl⟩
    rw [← hw5] at h hxr ⊢
    clear hw5 hb k0 k1
    obtain ⟨k0, k1⟩ := hxr.two
    go_wp2_with fail
    go_quiet (fail)
    replace h := Below.drewN' h nq
    replace hxr : Box (w5.drewN nq) w.heap.size 30 #[.int .i64 p, .int .i64 q] := hxr
    obtain ⟨w6, hw6⟩ : ∃ w6, w6 = w5.drewN nq := ⟨_, rfl⟩
    rw [← hw6] at h hxr ⊢
    clear hw6 k0 k1
    go_upto_region 6 with fail
    have KM : ∀ (W : World), Below w6.heap.size w6 W → (W.cell? ⟨w.heap.size, 0, none⟩ = some (.int .i64 p) ∧ W.cell? ⟨w.heap.size, 1, none⟩ = some (.int .i64 q) ∧ Below w6.heap.size w6 W) := fun W hW => ⟨(hxr.kept hW).two.1, (hxr.kept hW).two.2, hW⟩
    have KA : ∀ (W : World) (o : Obj), (W.cell? ⟨w.heap.size, 0, none⟩ = some (.int .i64 p) ∧ W.cell? ⟨w.heap.size, 1, none⟩ = some (.int .i64 q) ∧ Below w6.heap.size w6 W) → ((W.alloc o).cell? ⟨w.heap.size, 0, none⟩ = some (.int .i64 p) ∧ (W.alloc o).cell? ⟨w.heap.size, 1, none⟩ = some (.int .i64 q) ∧ Below w6.heap.size w6 (W.alloc o)) := fun W o ⟨_, _, hW⟩ => KM _ (Below.step hW (below_alloc1 _ _))
    have KD : ∀ (W : World), (W.cell? ⟨w.heap.size, 0, none⟩ = some (.int .i64 p) ∧ W.cell? ⟨w.heap.size, 1, none⟩ = some (.int .i64 q) ∧ Below w6.heap.size w6 W) → (W.drew.cell? ⟨w.heap.size, 0, none⟩ = some (.int .i64 p) ∧ W.drew.cell? ⟨w.heap.size, 1, none⟩ = some (.int .i64 q) ∧ Below w6.heap.size w6 W.drew) := fun W ⟨_, _, hW⟩ => KM _ (Below.drewN' hW 1)
    have KB : ∀ (W : World), (W.cell? ⟨w.heap.size, 0, none⟩ = some (.int .i64 p) ∧ W.cell? ⟨w.heap.size, 1, none⟩ = some (.int .i64 q) ∧ Below w6.heap.size w6 W) → Below w6.heap.size w6 W := fun W ⟨_, _, hW⟩ => hW
    have KT : ∀ (W : World), (W.cell? ⟨w.heap.size, 0, none⟩ = some (.int .i64 p) ∧ W.cell? ⟨w.heap.size, 1, none⟩ = some (.int .i64 q) ∧ Below w6.heap.size w6 W) → RdF W 0 none 0 [] := fun W _ => ⟨rfl, fun h => absurd h (Nat.lt_irrefl 0)⟩
    have KU : ∀ (W : World), (W.cell? ⟨w.heap.size, 0, none⟩ = some (.int .i64 p) ∧ W.cell? ⟨w.heap.size, 1, none⟩ = some (.int .i64 q) ∧ Below w6.heap.size w6 W) → RdF W 0 none 0 [] := fun W _ => ⟨rfl, fun h => absurd h (Nat.lt_irrefl 0)⟩
    have KM0 := KM w6.drew ⟨rfl, rfl, rfl, Nat.le_refl _, fun _ _ => rfl⟩
    have KM00 := KM _ (Below.refl _ _)
    replace KM := Lib.hid KM
    replace KA := Lib.hid KA
    replace KD := Lib.hid KD
    replace KB := Lib.hid KB
    replace KT := Lib.hid KT
    replace KU := Lib.hid KU
    go_region_held3 (fun w' => w'.cell? ⟨w.heap.size, 0, none⟩ = some (.int .i64 p) ∧ w'.cell? ⟨w.heap.size, 1, none⟩ = some (.int .i64 q) ∧ Below w6.heap.size w6 w') ((first | (with_reducible assumption) | ((with_reducible refine KA.out _ _ ?_); (with_reducible assumption)) | ((with_reducible refine KA.out _ _ ?_); (with_reducible refine KA.out _ _ ?_); (with_reducible assumption)) | ((with_reducible refine KD.out _ ?_); (first | (with_reducible assumption) | ((with_reducible refine KA.out _ _ ?_); (with_reducible assumption)) | ((with_reducible refine KA.out _ _ ?_); (with_reducible refine KA.out _ _ ?_); (with_reducible assumption))))))
      (first
        | (refine step_append_W w6 _ rfl (.tmp 33) (.tmp 36) 33 rfl Tryd.underlying33 _ [] rfl _ _ _ _ (([] : List (Int × Int))) rfl (KB.out _ (by first | assumption | exact KD.out _ (by first | assumption | exact KA.out _ _ (by assumption)))) (by first | exact ownF_empty w6 (Nat.le_refl _) | exact (ownF_empty w6 (Nat.le_refl _)).alloc _ | exact ownF_empty2 w6 _ (Nat.le_refl _)) (KT.out _ (by first | assumption | exact KD.out _ (by first | assumption | exact KA.out _ _ (by assumption)))) (by simp) ?_; intro n1 A1 c7 w7 hn1 ho1 hq1 hg1; have hS1 : w7.cell? ⟨w.heap.size, 0, none⟩ = some (.int .i64 p) ∧ w7.cell? ⟨w.heap.size, 1, none⟩ = some (.int .i64 q) ∧ Below w6.heap.size w6 w7 := KM.out _ hq1; (first | (have hb39 : Box w7 (w6.heap.size + 1) 30 #[.int .i64 p, .int .i64 q] := (Box.drew (Box.new2 w6 (.cells #[] 30) 30 #[.int .i64 p, .int .i64 q])).grown hg1 (by show some (w6.heap.size + 1) ≠ (Value.slice (some ⟨w6.heap.size, 0, none⟩) 0 0).ownBlock; simp [Value.ownBlock])) | (have hb39 : Box w7 w6.heap.size 30 #[.int .i64 p, .int .i64 q] := (Box.drew ((Box.new w6 30 #[.int .i64 p, .int .i64 q]).kept (below_alloc1 _ (.cells #[] 30)))).grown hg1 (by show some w6.heap.size ≠ (Value.slice (some ⟨w6.heap.size + 1, 0, none⟩) 0 0).ownBlock; simp [Value.ownBlock])) | skip))
        | (refine step_append_W w6 _ rfl (.tmp 37) (.tmp 39) 33 rfl Tryd.underlying33 _ ([] ++ ([] : List (Int × Int))) rfl _ _ _ _ [(p, q)] rfl (KB.out _ (by first | assumption | exact KA.out _ _ (by assumption))) (by first | exact ho1 | exact ho1.alloc _) (by first | exact rdF_box hb39 | exact rdF_new w7 (p, q)) (by simp) ?_; intro n2 A2 c8 w8 hn2 ho2 hq2 hg2; have hS2 : w8.cell? ⟨w.heap.size, 0, none⟩ = some (.int .i64 p) ∧ w8.cell? ⟨w.heap.size, 1, none⟩ = some (.int .i64 q) ∧ Below w6.heap.size w6 w8 := KM.out _ hq2)
        | (refine step_append_W w6 _ rfl (.tmp 40) (.tmp 43) 33 rfl Tryd.underlying33 _ (([] ++ ([] : List (Int × Int))) ++ [(p, q)]) rfl _ _ _ _ (([] : List (Int × Int))) rfl (KB.out _ (by assumption)) (by exact ho2) (KU.out _ (by assumption)) (by simp) ?_; intro n3 A3 c9 w9 hn3 ho3 hq3 hg3; have hS3 : w9.cell? ⟨w.heap.size, 0, none⟩ = some (.int .i64 p) ∧ w9.cell? ⟨w.heap.size, 1, none⟩ = some (.int .i64 q) ∧ Below w6.heap.size w6 w9 := KM.out _ hq3))
    all_goals (
      have hfin : Hid (Below w.heap.size w w9) := h.trans (hq3.mono h.size)
      have hof : Hid (OwnF w9 w.heap.size (.slice A3 n3 c9) (([] ++ ([] : List (Int × Int))) ++ [(p, q)] ++ ([] : List (Int × Int)))) := ho3.le h.size
      clear ho1 ho2 ho3
      go_wp2_with fail
      go_ret
      have e9 : ([] ++ ([] : List (Int × Int))) ++ [(p, q)] ++ ([] : List (Int × Int)) = [(p, q)] := by simp
      have ho9 := hof.out
      have hn9 := hn3.out
      rw [e9] at ho9 hn9
      subst hn9
      exact ⟨A3, c9, rfl, ho9, hfin.out⟩)
end Go.Proofs.YtjamckcbgcejdaaDoor
