/- FnExactIsWhole answers true for every whole, valid or not. No condition. -/
import Derived.Test.YtlkdelhmjjnnnaaBase
import Derived.Test.YtlkdelhmjjnnnaaLawIsWhole
namespace Go.Proofs.Ytlkdelhmjjnnnaa
open Go.ChangeShapes Go.WideShapes Go.ChangeAt Go.RowKit Go.Joins

theorem Try.cellsW : Try.prog.cellsOf 24 = 2 := by kernel_rfl
theorem Try.cellsI : Try.prog.cellsOf 3 = 1 := by kernel_rfl

/-- A whole that has been read. -/
theorem open_whole {H : Type} {enc : TypeId × Value → H} {W : World} {base : Nat} {v : Value} {d : DataW H} {p : List MemPlace} (hv : Value.okWide Try.prog W .any base 24 v) (h : DataW.Trod enc Try.prog W 0 (fun _ => true) true 24 v d p) :
    ∃ (neg : Bool) (A : Option Addr) (n c : Nat) (xs : List Int), v = .agg #[.bool neg, .slice A n c] ∧ n ≤ 9223372036854775807 ∧ Rd W W.heap.size A n xs ∧ ∀ k : Nat, -9223372036854775808 ≤ xs[k]?.getD 0 ∧ xs[k]?.getD 0 ≤ 9223372036854775807 := by
  obtain ⟨c0, c1, y0, y1, m, rfl, rfl, rfl, hy0, hy1⟩ := open_agg2 Try.underlying24 (by kernel_rfl) Try.cellsW hv h
  obtain ⟨neg, e0, -⟩ := DataW.trod_bool Try.underlying4 hy0
  obtain ⟨A, n, c, e1⟩ := slice_form Try.underlying22 hy1
  simp only [List.cons.injEq, and_true] at e0 e1
  subst e0 e1
  obtain ⟨hn, xs, hr, hb⟩ := open_Rd Try.underlying22 Try.underlying3 Try.cellsI hy1
  exact ⟨neg, A, n, c, xs, rfl, hn, hr, hb⟩

set_option maxRecDepth 100000 in
theorem isWhole_lifted (os : Os) (started : os.Started) (H : Type) (enc : TypeId × Value → H) :
    ReturnsInHanded {} Try.checked os 3 .any (Rows.fnExactIsWholeSpec.pre6 enc Try.prog Try.f3 Rows.fnExactIsWholeRow.domain false) (Rows.fnExactIsWholeSpec.post enc Try.prog Try.f3 false true false false) := by
  refine returnsInHanded_of_change (C := Try.checked) Try.own started (by kernel_rfl) Try.func3
    (ChangeSpec.witness6 (enc := enc) (C := Try.checked) false ⟨#[], #[.agg #[.bool false, .slice none 0 0]], []⟩ 8 (by kernel_rfl) (by kernel_rfl) (by kernel_rfl) (by kernel_rfl)) ?_
  intro W base args ds gs before hval0 hW hcnd _
  have hval : ∀ (j : Nat) t v, Try.f3.params[j]? = some t → args[j]? = some v → Value.okWide Try.prog W .any base t v := hval0
  have hW' := hW
  obtain ⟨p, q, hA0, hV, rfl, hfz, hnd⟩ := hW
  have hA : DataW.TrodAll enc Try.prog W 0 (fun _ => true) true Try.f3.params.toList args.toList ds p := hA0
  rw [Try.params3] at hA hval
  obtain ⟨v0, d0, rfl, rfl, h0⟩ := trodAll_one hA
  obtain ⟨rfl, rfl⟩ := trodVars_none hV
  obtain ⟨neg, A, n, c, xs, rfl, hn, hr, -⟩ := open_whole (hval 0 24 v0 rfl rfl) h0
  clear hA0 hval0
  refine (lawIsWhole_any neg A n c xs W hn hr).mono fun e W' ⟨he, hb⟩ => ?_
  subst he
  exact ⟨_, rfl, post_true Try.laidOut Try.underlying4 (fun t ht => by simp [Try.params3] at ht; subst ht; exact ⟨by kernel_rfl, of_decide_eq_true (by kernel_rfl)⟩) (by kernel_rfl) rfl hW' rfl hb⟩

theorem isWhole_holds : Rows.FnExactIsWholeSaid :=
  OpenClaim.holds_of_wide 3 Try.f3 rfl rfl rfl rfl rfl rfl rfl ⟨rfl, rfl, rfl, rfl, rfl⟩ rfl rfl rfl rfl rfl (by kernel_rfl) Try.func3 (by kernel_rfl)
    (of_decide_eq_true (by kernel_rfl)) (by unfold Func.isWrapper; first | (rw [if_pos (by decide +kernel)]; kernel_rfl) | (rw [if_neg (by decide +kernel)]; exact ⟨rfl, rfl⟩))
    (fun os started H enc _ => isWhole_lifted os started H enc)
end Go.Proofs.Ytlkdelhmjjnnnaa
