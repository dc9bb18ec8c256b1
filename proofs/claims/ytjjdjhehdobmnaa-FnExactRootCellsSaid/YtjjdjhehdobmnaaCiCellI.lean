import Derived.Test.YtjjdjhehdobmnaaCiCellS
namespace Go.Proofs.Ytjjdjhehdobmnaa
open Go.RowKit Go.Joins

set_option maxHeartbeats 4000000 in
set_option maxRecDepth 100000 in
theorem cellsI_yes (a b c d : Int) (w : World) (g : CuG a b c d) : Calls Try.prog 21 #[.agg #[.int .i64 a, .int .i64 b, .int .i64 c, .int .i64 d]] w (GivesRowOk w (CLs a b c d 2003) true) := by
  have ks := fun (n : Int) (S : Int) (gv : Nat) (h1 : -10000 ≤ n ∧ n ≤ 10000) (hS : sgn (cuVal a b c d n 1) = S) (W : World) (hx : Box W gv 25 #[.int .i64 a, .int .i64 b, .int .i64 c, .int .i64 d]) => signI_gives a b c d n 1 gv W hx g.2.1 g.2.2.1 g.2.2.2.1 g.2.2.2.2 h1 (by omega) S hS
  replace ks := Lib.hid ks
  have h := below_alloc1 w (.cells #[.int .i64 a, .int .i64 b, .int .i64 c, .int .i64 d] 25)
  have hx0 := Box.new w 25 #[.int .i64 a, .int .i64 b, .int .i64 c, .int .i64 d]
  obtain ⟨k0, k1, k2, k3⟩ := hx0.four
  go_enter Try.func21, Try.ntmps21
  go_wp2_with fail
  refine (isCubicI_yes a b c d _ g).mono ?_
  rintro e w1 ⟨rfl, hb⟩
  replace h := Below.step h hb
  replace hx0 := hx0.kept hb
  clear hb k0 k1 k2 k3 g
  obtain ⟨k0, k1, k2, k3⟩ := hx0.four
  have hfd := field_values
  go_wp2_with fail
  refine (valuesOf_any a b c d _).mono ?_
  rintro e w2 ⟨gv, rfl, hv, hgv, hb⟩
  replace h := Below.step h hb
  replace hv := hv
  have hgw : w.heap.size ≤ gv := Nat.le_trans (by have := hx0.lt; omega) hgv
  clear hb k0 k1 k2 k3 hx0
  have hA := below_alloc1 w2 (.cells #[.func (.func 45) #[] #[.pointer (some ⟨gv, 0, none⟩)]] 47)
  have hvb := Box.new w2 47 #[.func (.func 45) #[] #[.pointer (some ⟨gv, 0, none⟩)]]
  have hN := below_alloc1 w2 (.cells #[.nilFunc] 47)
  have hvn := Box.new w2 47 #[.nilFunc]
  have l0 := hvn.lt
  have l1 := hvn.free 0
  have l2 := hvn.one
  obtain ⟨gb, hgb⟩ : ∃ gb, gb = w2.heap.size := ⟨_, rfl⟩
  have hgbw : w.heap.size ≤ gb := by rw [hgb]; exact h.size
  replace h := Below.step h hA
  replace hv := hv.kept hA
  go_wp2_with fail
  rw [← hgb] at hvb ⊢
  clear hN hvn l0 l1 l2 hA hgb
  obtain ⟨w3, hw3⟩ : ∃ w3, w3 = w2.alloc (.cells #[.func (.func 45) #[] #[.pointer (some ⟨gv, 0, none⟩)]] 47) := ⟨_, rfl⟩
  rw [← hw3] at h hv hvb ⊢
  clear hw3 hgv
  clear hfd
  go_loopw [5, 6] (fun v x wr => ∃ (j : Nat) (K : Int) (A : Option Addr) (cc : Nat), j ≤ 2003 ∧ Hid (K = (j : Int) - 1001) ∧ x = .int .i64 K ∧ v = .slice A (CLs a b c d j).length cc ∧ Own wr w.heap.size (.slice A (CLs a b c d j).length cc) (CLs a b c d j) ∧ Box wr gv 25 #[.int .i64 a, .int .i64 b, .int .i64 c, .int .i64 d] ∧ Box wr gb 47 #[.func (.func 45) #[] #[.pointer (some ⟨gv, 0, none⟩)]] ∧ Below w.heap.size w wr) (fun _ x _ => (1002 - intOf x).toNat)
  case atStart => exact ⟨0, -1001, none, 0, by omega, (by show (-1001 : Int) = ((0 : Nat) : Int) - 1001; decide), rfl, rfl, own_nil _ _, hv, hvb, h⟩
  case round =>
    obtain ⟨j, K, A, cc, hj, hK, rfl, rfl, hown, hxv, hxb, hb⟩ := hrel
    have hK1 : -1001 ≤ K := by have := hK.out; omega
    clear h hv hvb
    have hlen := CLs_len a b c d j
    by_cases hlt : j < 2003
    · have hK2 : K ≤ 1001 := by have := hK.out; omega
      clear hj hlt
      obtain ⟨V1, hV1⟩ : ∃ V, cuVal a b c d K 1 = V := ⟨_, rfl⟩
      obtain ⟨V2, hV2⟩ : ∃ V, cuVal a b c d (K + 1) 1 = V := ⟨_, rfl⟩
      obtain ⟨S1, hS1⟩ : ∃ S, sgn V1 = S := ⟨_, rfl⟩
      obtain ⟨S2, hS2⟩ : ∃ S, sgn V2 = S := ⟨_, rfl⟩
      have hcb : CB a b c d ((j : Int) - 1001) ↔ CS S1 S2 := by rw [← hK.out]; unfold CB; rw [hV1, hV2, hS1, hS2]
      have r1 := sgn_cases V1
      have r2 := sgn_cases V2
      rw [hS1] at r1
      rw [hS2] at r2
      have c1 := fun W hx => ks.out K S1 gv (by omega) (by rw [hV1]; exact hS1) W hx
      have c2 := fun W hx => ks.out (K + 1) S2 gv (by omega) (by rw [hV2]; exact hS2) W hx
      replace c1 := Lib.hid c1
      replace c2 := Lib.hid c2
      have ew : IntKind.i64.wrap (K + 1) = K + 1 := IntWalk.i64_in _ (by omega)
      clear hV1 hV2 hS1 hS2
      have ho1 := Lib.hid hown
      clear hown
      go_wp2_with fail
      go_upto_region 8 with fail
      have KM : ∀ (W : World), Below wr.heap.size wr W → (W.cell? ⟨gb, 0, none⟩ = some (.func (.func 45) #[] #[.pointer (some ⟨gv, 0, none⟩)]) ∧ Below wr.heap.size wr W) := fun W hW => ⟨(hxb.kept hW).one, hW⟩
      have KC : ∀ (W W' : World), Below W.heap.size W W' → (W.cell? ⟨gb, 0, none⟩ = some (.func (.func 45) #[] #[.pointer (some ⟨gv, 0, none⟩)]) ∧ Below wr.heap.size wr W) → (W'.cell? ⟨gb, 0, none⟩ = some (.func (.func 45) #[] #[.pointer (some ⟨gv, 0, none⟩)]) ∧ Below wr.heap.size wr W') := fun W W' hb ⟨_, hW⟩ => KM _ (Below.step hW hb)
      have KB : ∀ (W : World), (W.cell? ⟨gb, 0, none⟩ = some (.func (.func 45) #[] #[.pointer (some ⟨gv, 0, none⟩)]) ∧ Below wr.heap.size wr W) → Below wr.heap.size wr W := fun W ⟨_, hW⟩ => hW
      have KX : ∀ (W : World), (W.cell? ⟨gb, 0, none⟩ = some (.func (.func 45) #[] #[.pointer (some ⟨gv, 0, none⟩)]) ∧ Below wr.heap.size wr W) → Box W gv 25 #[.int .i64 a, .int .i64 b, .int .i64 c, .int .i64 d] := fun W ⟨_, hW⟩ => hxv.kept hW
      have KM0 := KM wr.drew ⟨rfl, rfl, rfl, Nat.le_refl _, fun _ _ => rfl⟩
      have KM00 := KM _ (Below.refl _ _)
      replace KC := Lib.hid KC
      replace KB := Lib.hid KB
      replace KX := Lib.hid KX
      clear KM
      go_cut [7, 8] from 14 to 36 (fun s1 s2 wx => s1 = .int .i64 S1 ∧ s2 = .int .i64 S2 ∧ Below wr.heap.size wr wx)
      case first =>
        go_region_held3 (fun w' => w'.cell? ⟨gb, 0, none⟩ = some (.func (.func 45) #[] #[.pointer (some ⟨gv, 0, none⟩)]) ∧ Below wr.heap.size wr w') ((first | assumption | (apply KC.out; assumption; assumption)))
          (first
            | (go_at_call 39; (with_reducible refine (c1.out _ ?_).mono ?_); (refine KX.out _ ?_; assumption); rintro e wC ⟨rfl, hbC⟩; have hSwC : wC.cell? ⟨gb, 0, none⟩ = some (.func (.func 45) #[] #[.pointer (some ⟨gv, 0, none⟩)]) ∧ Below wr.heap.size wr wC := KC.out _ _ hbC (by assumption))
            | (go_at_call 39; (with_reducible refine (c2.out _ ?_).mono ?_); (refine KX.out _ ?_; assumption); rintro e wD ⟨rfl, hbC⟩; have hSwD : wD.cell? ⟨gb, 0, none⟩ = some (.func (.func 45) #[] #[.pointer (some ⟨gv, 0, none⟩)]) ∧ Below wr.heap.size wr wD := KC.out _ _ hbC (by assumption)))
        all_goals (go_wp2_with fail; go_meet)
        all_goals (refine ⟨rfl, rfl, KB.out _ ?_⟩)
        all_goals assumption
      case rest =>
        obtain ⟨rfl, rfl, hbx⟩ := hcut
        have hown := ho1.out.kept hbx
        clear ho1 KC KB KM0 KM00 KX c1 c2
        replace hxv := hxv.kept hbx
        replace hxb := hxb.kept hbx
        replace hb := Below.step hb hbx
        clear hbx
        by_cases hcs : CS S1 S2
        · have hl := CLs_yes (hcb.2 hcs)
          rw [← hK.out] at hl
          obtain ⟨L, hL⟩ : ∃ L, L = CLs a b c d j := ⟨_, rfl⟩
          rw [← hL] at hown hlen hl ⊢
          replace hl := Lib.hid hl
          clear hL hcb
          have hsz : w.heap.size ≤ (wc.alloc (.cells #[.int .i64 K] 3)).heap.size := by have := hb.size; simp; omega
          have hrd := rd_new wc K
          have hoa := hown.alloc (.cells #[.int .i64 K] 3)
          have hba : Below w.heap.size w (wc.alloc (.cells #[.int .i64 K] 3)) := hb.alloc hb.size _
          replace hxv := hxv.kept (below_alloc1 wc (.cells #[.int .i64 K] 3))
          replace hxb := hxb.kept (below_alloc1 wc (.cells #[.int .i64 K] 3))
          have hlen2 : L.length + 1 ≤ 17592186044416 := by have := hK.out; omega
          clear hown hb
          by_cases hz : S1 = 0
          · subst hz
            clear r1 r2 hcs
            go_wp2_with (first
              | (at_builtin; refine wpList_append_rd _ rfl _ _ 32 rfl Try.underlying32 Try.info3 w.heap.size _ L rfl hoa _ _ _ _ [K] rfl hrd hlen2 hsz ?_; intro A' c' w4 hown1 hg1)
              | fail)
            have hb1 := below_own hba hoa (Nat.le_refl _) hg1
            replace hxv := hxv.own_aside hoa hg1 (by decide)
            replace hxb := hxb.own_aside hoa hg1 (by decide)
            have hll : L.length + 1 = (CLs a b c d (j + 1)).length := by rw [← hl.out, List.length_append]; rfl
            rw [hl.out] at hown1
            rw [hll]
            clear hll
            go_roundw
            case rel => exact ⟨j + 1, K + 1, A', c', by have := hK.out; omega, (by have := hK.out; show K + 1 = ((j + 1 : Nat) : Int) - 1001; omega), by go_num, rfl, hown1, hxv, hxb, hb1⟩
            case measure => simp [intOf]; omega
          · have e1 : (S1 == 0) = false := beq_eq_false_iff_ne.2 hz
            have e2 : (S1 == -S2) = true := by rcases r1 with rfl | rfl | rfl <;> rcases r2 with rfl | rfl | rfl <;> first | rfl | (exfalso; revert hcs; decide) | (exfalso; revert e1; decide)
            have e3 : -1 ≤ S2 ∧ S2 ≤ 1 := by omega
            obtain ⟨e3, e4⟩ := e3
            clear r1 r2 hcs hz
            go_wp2_with (first
              | (at_builtin; refine wpList_append_rd _ rfl _ _ 32 rfl Try.underlying32 Try.info3 w.heap.size _ L rfl hoa _ _ _ _ [K] rfl hrd hlen2 hsz ?_; intro A' c' w4 hown1 hg1)
              | fail)
            have hb1 := below_own hba hoa (Nat.le_refl _) hg1
            replace hxv := hxv.own_aside hoa hg1 (by decide)
            replace hxb := hxb.own_aside hoa hg1 (by decide)
            have hll : L.length + 1 = (CLs a b c d (j + 1)).length := by rw [← hl.out, List.length_append]; rfl
            rw [hl.out] at hown1
            rw [hll]
            clear hll
            go_roundw
            case rel => exact ⟨j + 1, K + 1, A', c', by have := hK.out; omega, (by have := hK.out; show K + 1 = ((j + 1 : Nat) : Int) - 1001; omega), by go_num, rfl, hown1, hxv, hxb, hb1⟩
            case measure => simp [intOf]; omega
        · have hl := CLs_no (fun h => hcs (hcb.1 h))
          have hz : S1 ≠ 0 := fun h => hcs (.inl h)
          have e1 : (S1 == 0) = false := beq_eq_false_iff_ne.2 hz
          have e2 : (S1 == -S2) = false := by rcases r1 with rfl | rfl | rfl <;> rcases r2 with rfl | rfl | rfl <;> first | rfl | (exfalso; revert hcs; decide)
          have e3 : -1 ≤ S2 ∧ S2 ≤ 1 := by omega
          obtain ⟨e3, e4⟩ := e3
          replace hl := Lib.hid hl
          clear hcb r1 r2 hcs hz
          go_wp2_with fail
          rw [hl.out] at hown ⊢
          go_roundw
          case rel => exact ⟨j + 1, K + 1, A, cc, by have := hK.out; omega, (by have := hK.out; show K + 1 = ((j + 1 : Nat) : Int) - 1001; omega), by go_num, rfl, hown, hxv, hxb, hb⟩
          case measure => simp [intOf]; omega
    · obtain rfl : j = 2003 := by omega
      obtain rfl : K = 1002 := by have := hK.out; omega
      clear ks hlt hj hlen hK
      go_wp2_with fail
      go_ret2
      exact ⟨A, cc, rfl, hown, hb⟩

set_option maxHeartbeats 1000000 in
theorem cellsI_bad (a b c d : Int) (w : World) (g : ¬ CuG a b c d) : Calls Try.prog 21 #[.agg #[.int .i64 a, .int .i64 b, .int .i64 c, .int .i64 d]] w (GivesRowOk w [] false) := by
  have h := below_alloc1 w (.cells #[.int .i64 a, .int .i64 b, .int .i64 c, .int .i64 d] 25)
  have hx0 := Box.new w 25 #[.int .i64 a, .int .i64 b, .int .i64 c, .int .i64 d]
  obtain ⟨k0, k1, k2, k3⟩ := hx0.four
  go_enter Try.func21, Try.ntmps21
  go_wp2_with fail
  refine (isCubicI_no a b c d _ g).mono ?_
  rintro e w1 ⟨rfl, hb⟩
  replace h := Below.step h hb
  go_wp2_with fail
  go_ret2
  exact ⟨none, 0, rfl, own_nil _ _, h⟩
end Go.Proofs.Ytjjdjhehdobmnaa
