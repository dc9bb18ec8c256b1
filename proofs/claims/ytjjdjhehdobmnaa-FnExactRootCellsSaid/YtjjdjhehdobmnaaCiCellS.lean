/- RootCells, the model's and the program's (written by wip/gen/cicell.py). -/
import Derived.Test.YtjjdjhehdobmnaaCiRow
import Derived.Deep.RegionHeld3
import Derived.Deep.DeepCutAuto
namespace Go.Proofs.Ytjjdjhehdobmnaa
open Go.RowKit Go.Joins

theorem signI_gives (a b c d n m : Int) (g : Nat) (w : World) (hx : Box w g 25 #[.int .i64 a, .int .i64 b, .int .i64 c, .int .i64 d]) (ha : -1000 ≤ a ∧ a ≤ 1000) (hb : -1000 ≤ b ∧ b ≤ 1000) (hc : -1000 ≤ c ∧ c ≤ 1000) (hd : -1000 ≤ d ∧ d ≤ 1000) (hn : -10000 ≤ n ∧ n ≤ 10000) (hm : -1000 ≤ m ∧ m ≤ 1000) (S : Int) (hS : sgn (cuVal a b c d n m) = S) :
    Calls Try.prog 39 #[.agg #[.func (.func 45) #[] #[.pointer (some ⟨g, 0, none⟩)]], .int .i64 n, .int .i64 m] w (GivesI w S) :=
  (signI_any a b c d n m g w hx ha hb hc hd hn hm S hS).mono fun e w' h => ⟨h.1, by rw [← h.2]; exact below_alloc1 _ _⟩

set_option maxHeartbeats 4000000 in
set_option maxRecDepth 100000 in
theorem cellsS_yes (a b c d : Int) (w : World) (g : CuG a b c d) : Calls Try.prog 20 #[.agg #[.int .i64 a, .int .i64 b, .int .i64 c, .int .i64 d]] w (GivesRowOk w (CLs a b c d 2003) true) := by
  have kv := fun (n : Int) (V : Int) (h1 : -10000 ≤ n ∧ n ≤ 10000) (hV : cuVal a b c d n 1 = V) (W : World) => cuValue_any a b c d n 1 W g.2.1 g.2.2.1 g.2.2.2.1 g.2.2.2.2 h1 (by omega) V hV
  replace kv := Lib.hid kv
  have h := below_alloc1 w (.cells #[.int .i64 a, .int .i64 b, .int .i64 c, .int .i64 d] 25)
  have hx0 := Box.new w 25 #[.int .i64 a, .int .i64 b, .int .i64 c, .int .i64 d]
  obtain ⟨k0, k1, k2, k3⟩ := hx0.four
  go_enter Try.func20, Try.ntmps20
  go_wp2_with fail
  refine (cuGood_yes a b c d _ g).mono ?_
  rintro e w1 ⟨rfl, hb⟩
  replace h := Below.step h hb
  replace hx0 := hx0.kept hb
  clear hb k0 k1 k2 k3 g
  obtain ⟨k0, k1, k2, k3⟩ := hx0.four
  obtain ⟨gf, hgf⟩ : ∃ gf, gf = w.heap.size := ⟨_, rfl⟩
  rw [← hgf] at hx0 k0 k1 k2 k3
  go_wp2_with fail
  rw [← hgf]
  have hgw : w.heap.size ≤ gf := Nat.le_of_eq hgf.symm
  clear hgf
  clear k0 k1 k2 k3
  go_loopw [4, 5] (fun v x wr => ∃ (j : Nat) (K : Int) (A : Option Addr) (cc : Nat), j ≤ 2003 ∧ Hid (K = (j : Int) - 1001) ∧ x = .int .i64 K ∧ v = .slice A (CLs a b c d j).length cc ∧ Own wr w.heap.size (.slice A (CLs a b c d j).length cc) (CLs a b c d j) ∧ Box wr gf 25 #[.int .i64 a, .int .i64 b, .int .i64 c, .int .i64 d] ∧ Below w.heap.size w wr) (fun _ x _ => (1002 - intOf x).toNat)
  case atStart => exact ⟨0, -1001, none, 0, by omega, (by show (-1001 : Int) = ((0 : Nat) : Int) - 1001; decide), rfl, rfl, own_nil _ _, hx0, h⟩
  case round =>
    obtain ⟨j, K, A, cc, hj, hK, rfl, rfl, hown, hxf, hb⟩ := hrel
    have hK1 : -1001 ≤ K := by have := hK.out; omega
    clear h hx0
    have hlen := CLs_len a b c d j
    by_cases hlt : j < 2003
    · have hK2 : K ≤ 1001 := by have := hK.out; omega
      clear hj hlt
      obtain ⟨V1, hV1⟩ : ∃ V, cuVal a b c d K 1 = V := ⟨_, rfl⟩
      obtain ⟨V2, hV2⟩ : ∃ V, cuVal a b c d (K + 1) 1 = V := ⟨_, rfl⟩
      obtain ⟨S1, hS1⟩ : ∃ S, sgn V1 = S := ⟨_, rfl⟩
      obtain ⟨S2, hS2⟩ : ∃ S, sgn V2 = S := ⟨_, rfl⟩
      have hcb : CB a b c d ((j : Int) - 1001) ↔ CS S1 S2 := by rw [← hK.out]; unfold CB; rw [hV1, hV2, hS1, hS2]
      have r1 := sgn_cases V1
      have r2 := sgn_cases V2
      rw [hS1] at r1
      rw [hS2] at r2
      have c1 := fun W => kv.out K V1 (by omega) hV1 W
      have c2 := fun W => kv.out (K + 1) V2 (by omega) hV2 W
      have c3 := fun W => l1Sign_any V1 W
      have c4 := fun W => l1Sign_any V2 W
      rw [hS1] at c3
      rw [hS2] at c4
      replace c1 := Lib.hid c1
      replace c2 := Lib.hid c2
      replace c3 := Lib.hid c3
      replace c4 := Lib.hid c4
      have ew : IntKind.i64.wrap (K + 1) = K + 1 := IntWalk.i64_in _ (by omega)
      clear hV1 hV2 hS1 hS2
      have ho1 := Lib.hid hown
      clear hown
      go_wp2_with fail
      go_upto_region 7 with fail
      have KM : ∀ (W : World), Below wr.heap.size wr W → (W.cell? ⟨gf, 0, none⟩ = some (.int .i64 a) ∧ W.cell? ⟨gf, 1, none⟩ = some (.int .i64 b) ∧ W.cell? ⟨gf, 2, none⟩ = some (.int .i64 c) ∧ W.cell? ⟨gf, 3, none⟩ = some (.int .i64 d) ∧ Below wr.heap.size wr W) := fun W hW => ⟨(hxf.kept hW).four.1, (hxf.kept hW).four.2.1, (hxf.kept hW).four.2.2.1, (hxf.kept hW).four.2.2.2, hW⟩
      have KC : ∀ (W W' : World), Below W.heap.size W W' → (W.cell? ⟨gf, 0, none⟩ = some (.int .i64 a) ∧ W.cell? ⟨gf, 1, none⟩ = some (.int .i64 b) ∧ W.cell? ⟨gf, 2, none⟩ = some (.int .i64 c) ∧ W.cell? ⟨gf, 3, none⟩ = some (.int .i64 d) ∧ Below wr.heap.size wr W) → (W'.cell? ⟨gf, 0, none⟩ = some (.int .i64 a) ∧ W'.cell? ⟨gf, 1, none⟩ = some (.int .i64 b) ∧ W'.cell? ⟨gf, 2, none⟩ = some (.int .i64 c) ∧ W'.cell? ⟨gf, 3, none⟩ = some (.int .i64 d) ∧ Below wr.heap.size wr W') := fun W W' hb ⟨_, _, _, _, hW⟩ => KM _ (Below.step hW hb)
      have KB : ∀ (W : World), (W.cell? ⟨gf, 0, none⟩ = some (.int .i64 a) ∧ W.cell? ⟨gf, 1, none⟩ = some (.int .i64 b) ∧ W.cell? ⟨gf, 2, none⟩ = some (.int .i64 c) ∧ W.cell? ⟨gf, 3, none⟩ = some (.int .i64 d) ∧ Below wr.heap.size wr W) → Below wr.heap.size wr W := fun W ⟨_, _, _, _, hW⟩ => hW
      have KM0 := KM wr.drew ⟨rfl, rfl, rfl, Nat.le_refl _, fun _ _ => rfl⟩
      have KM00 := KM _ (Below.refl _ _)
      replace KC := Lib.hid KC
      replace KB := Lib.hid KB
      clear KM
      go_cut [6, 7] from 11 to 35 (fun s1 s2 wx => s1 = .int .i64 S1 ∧ s2 = .int .i64 S2 ∧ Below wr.heap.size wr wx)
      case first =>
        go_region_held3 (fun w' => w'.cell? ⟨gf, 0, none⟩ = some (.int .i64 a) ∧ w'.cell? ⟨gf, 1, none⟩ = some (.int .i64 b) ∧ w'.cell? ⟨gf, 2, none⟩ = some (.int .i64 c) ∧ w'.cell? ⟨gf, 3, none⟩ = some (.int .i64 d) ∧ Below wr.heap.size wr w') ((first | assumption | (apply KC.out; assumption; assumption)))
          (first
            | (go_at_call 34; (with_reducible refine (c1.out _).mono ?_); rintro e wC ⟨rfl, hbC⟩; have hSwC : wC.cell? ⟨gf, 0, none⟩ = some (.int .i64 a) ∧ wC.cell? ⟨gf, 1, none⟩ = some (.int .i64 b) ∧ wC.cell? ⟨gf, 2, none⟩ = some (.int .i64 c) ∧ wC.cell? ⟨gf, 3, none⟩ = some (.int .i64 d) ∧ Below wr.heap.size wr wC := KC.out _ _ hbC (by assumption))
            | (go_at_call 34; (with_reducible refine (c2.out _).mono ?_); rintro e wD ⟨rfl, hbC⟩; have hSwD : wD.cell? ⟨gf, 0, none⟩ = some (.int .i64 a) ∧ wD.cell? ⟨gf, 1, none⟩ = some (.int .i64 b) ∧ wD.cell? ⟨gf, 2, none⟩ = some (.int .i64 c) ∧ wD.cell? ⟨gf, 3, none⟩ = some (.int .i64 d) ∧ Below wr.heap.size wr wD := KC.out _ _ hbC (by assumption))
            | (go_at_call 38; (with_reducible refine (c3.out _).mono ?_); rintro e wE ⟨rfl, rfl⟩; skip)
            | (go_at_call 38; (with_reducible refine (c4.out _).mono ?_); rintro e wF ⟨rfl, rfl⟩; skip))
        all_goals (go_wp2_with fail; go_meet)
        all_goals (refine ⟨rfl, rfl, KB.out _ ?_⟩)
        all_goals assumption
      case rest =>
        obtain ⟨rfl, rfl, hbx⟩ := hcut
        have hown := ho1.out.kept hbx
        clear ho1 KC KB KM0 KM00 c1 c2 c3 c4
        replace hxf := hxf.kept hbx
        replace hb := Below.step hb hbx
        clear hbx
        by_cases hcs : CS S1 S2
        · have hl := CLs_yes (hcb.2 hcs)
          rw [← hK.out] at hl
          obtain ⟨L, hL⟩ : ∃ L, L = CLs a b c d j := ⟨_, rfl⟩
          rw [← hL] at hown hlen hl ⊢
          replace hl := Lib.hid hl
          clear hL hcb
          have hsz : w.heap.size ≤ (wc.alloc (.cells #[.int .i64 K] 3)).heap.size := by have := hb.size; simp; omega
          have hrd := rd_new wc K
          have hoa := hown.alloc (.cells #[.int .i64 K] 3)
          have hba : Below w.heap.size w (wc.alloc (.cells #[.int .i64 K] 3)) := hb.alloc hb.size _
          replace hxf := hxf.kept (below_alloc1 wc (.cells #[.int .i64 K] 3))
          have hlen2 : L.length + 1 ≤ 17592186044416 := by have := hK.out; omega
          clear hown hb
          by_cases hz : S1 = 0
          · subst hz
            clear r1 r2 hcs
            go_wp2_with (first
              | (at_builtin; refine wpList_append_rd _ rfl _ _ 32 rfl Try.underlying32 Try.info3 w.heap.size _ L rfl hoa _ _ _ _ [K] rfl hrd hlen2 hsz ?_; intro A' c' w4 hown1 hg1)
              | fail)
            have hb1 := below_own hba hoa (Nat.le_refl _) hg1
            replace hxf := hxf.own_aside hoa hg1 (by decide)
            have hll : L.length + 1 = (CLs a b c d (j + 1)).length := by rw [← hl.out, List.length_append]; rfl
            rw [hl.out] at hown1
            rw [hll]
            clear hll
            go_roundw
            case rel => exact ⟨j + 1, K + 1, A', c', by have := hK.out; omega, (by have := hK.out; show K + 1 = ((j + 1 : Nat) : Int) - 1001; omega), by go_num, rfl, hown1, hxf, hb1⟩
            case measure => simp [intOf]; omega
          · have e1 : (S1 == 0) = false := beq_eq_false_iff_ne.2 hz
            have e2 : S1 * S2 < 0 := by unfold CS at hcs; omega
            have e3 : -1 ≤ S1 * S2 ∧ S1 * S2 ≤ 1 := by rcases r1 with rfl | rfl | rfl <;> rcases r2 with rfl | rfl | rfl <;> decide
            obtain ⟨e3, e4⟩ := e3
            clear r1 r2 hcs hz
            go_wp2_with (first
              | (at_builtin; refine wpList_append_rd _ rfl _ _ 32 rfl Try.underlying32 Try.info3 w.heap.size _ L rfl hoa _ _ _ _ [K] rfl hrd hlen2 hsz ?_; intro A' c' w4 hown1 hg1)
              | fail)
            have hb1 := below_own hba hoa (Nat.le_refl _) hg1
            replace hxf := hxf.own_aside hoa hg1 (by decide)
            have hll : L.length + 1 = (CLs a b c d (j + 1)).length := by rw [← hl.out, List.length_append]; rfl
            rw [hl.out] at hown1
            rw [hll]
            clear hll
            go_roundw
            case rel => exact ⟨j + 1, K + 1, A', c', by have := hK.out; omega, (by have := hK.out; show K + 1 = ((j + 1 : Nat) : Int) - 1001; omega), by go_num, rfl, hown1, hxf, hb1⟩
            case measure => simp [intOf]; omega
        · have hl := CLs_no (fun h => hcs (hcb.1 h))
          have hz : S1 ≠ 0 := fun h => hcs (.inl h)
          have e1 : (S1 == 0) = false := beq_eq_false_iff_ne.2 hz
          have e2 : ¬ S1 * S2 < 0 := fun h => hcs (.inr h)
          have e3 : -1 ≤ S1 * S2 ∧ S1 * S2 ≤ 1 := by rcases r1 with rfl | rfl | rfl <;> rcases r2 with rfl | rfl | rfl <;> decide
          obtain ⟨e3, e4⟩ := e3
          replace hl := Lib.hid hl
          clear hcb r1 r2 hcs hz
          go_wp2_with fail
          rw [hl.out] at hown ⊢
          go_roundw
          case rel => exact ⟨j + 1, K + 1, A, cc, by have := hK.out; omega, (by have := hK.out; show K + 1 = ((j + 1 : Nat) : Int) - 1001; omega), by go_num, rfl, hown, hxf, hb⟩
          case measure => simp [intOf]; omega
    · obtain rfl : j = 2003 := by omega
      obtain rfl : K = 1002 := by have := hK.out; omega
      clear kv hlt hj hlen hK
      go_wp2_with fail
      go_ret2
      exact ⟨A, cc, rfl, hown, hb⟩

set_option maxHeartbeats 1000000 in
theorem cellsS_bad (a b c d : Int) (w : World) (g : ¬ CuG a b c d) : Calls Try.prog 20 #[.agg #[.int .i64 a, .int .i64 b, .int .i64 c, .int .i64 d]] w (GivesRowOk w [] false) := by
  have h := below_alloc1 w (.cells #[.int .i64 a, .int .i64 b, .int .i64 c, .int .i64 d] 25)
  have hx0 := Box.new w 25 #[.int .i64 a, .int .i64 b, .int .i64 c, .int .i64 d]
  obtain ⟨k0, k1, k2, k3⟩ := hx0.four
  go_enter Try.func20, Try.ntmps20
  go_wp2_with fail
  refine (cuGood_no a b c d _ g).mono ?_
  rintro e w1 ⟨rfl, hb⟩
  replace h := Below.step h hb
  go_wp2_with fail
  go_ret2
  exact ⟨none, 0, rfl, own_nil _ _, h⟩
end Go.Proofs.Ytjjdjhehdobmnaa
