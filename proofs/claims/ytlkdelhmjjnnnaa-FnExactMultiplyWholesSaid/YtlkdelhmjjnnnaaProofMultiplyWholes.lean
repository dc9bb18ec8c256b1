/- FnExactMultiplyWholes answers true for all arguments, valid or not. No condition. -/
import Derived.Test.YtlkdelhmjjnnnaaOpen
import Derived.Test.YtlkdelhmjjnnnaaMulW
namespace Go.Proofs.Ytlkdelhmjjnnnaa
open Go.ChangeShapes Go.WideShapes Go.ChangeAt Go.RowKit Go.Joins

set_option maxRecDepth 100000 in
theorem multiplyWholes_lifted (os : Os) (started : os.Started) (H : Type) (enc : TypeId × Value → H) :
    ReturnsInHanded {} Try.checked os 7 .any (Rows.fnExactMultiplyWholesSpec.pre6 enc Try.prog Try.f7 Rows.fnExactMultiplyWholesRow.domain false) (Rows.fnExactMultiplyWholesSpec.post enc Try.prog Try.f7 false true false false) := by
  refine returnsInHanded_of_change (C := Try.checked) Try.own started (by kernel_rfl) Try.func7
    (ChangeSpec.witness6 (enc := enc) (C := Try.checked) false ⟨#[], #[.agg #[.bool false, .slice none 0 0], .agg #[.bool false, .slice none 0 0]], []⟩ 8 (by kernel_rfl) (by kernel_rfl) (by kernel_rfl) (by kernel_rfl)) ?_
  intro W base args ds gs before hval0 hW hcnd _
  have hval : ∀ (j : Nat) t v, Try.f7.params[j]? = some t → args[j]? = some v → Value.okWide Try.prog W .any base t v := hval0
  have hW' := hW
  obtain ⟨p, q, hA0, hV, rfl, hfz, hnd⟩ := hW
  have hA : DataW.TrodAll enc Try.prog W 0 (fun _ => true) true Try.f7.params.toList args.toList ds p := hA0
  rw [Try.params7] at hA hval
  obtain ⟨v0, v1, d0, d1, p0, p1, rfl, rfl, rfl, h0, h1⟩ := trodAll_two hA
  obtain ⟨rfl, rfl⟩ := trodVars_none hV
  obtain ⟨neg0, A0, n0, c0, xs0, rfl, hm0, hr0, -⟩ := open_whole (hval 0 24 v0 rfl rfl) h0
  obtain ⟨neg1, A1, n1, c1, xs1, rfl, hm1, hr1, -⟩ := open_whole (hval 1 24 v1 rfl rfl) h1
  clear hA0 hval0
  refine (lawMultiplyWholes_any neg0 A0 n0 c0 xs0 neg1 A1 n1 c1 xs1 W hm0 hr0 hm1 hr1).mono fun e W' ⟨he, hb⟩ => ?_
  subst he
  exact ⟨_, rfl, post_true Try.laidOut Try.underlying4 (fun t ht => by simp [Try.params7] at ht; rcases ht with rfl <;> exact ⟨by kernel_rfl, of_decide_eq_true (by kernel_rfl)⟩) (by kernel_rfl) rfl hW' rfl hb⟩

theorem multiplyWholes_holds : Rows.FnExactMultiplyWholesSaid :=
  OpenClaim.holds_of_wide 7 Try.f7 rfl rfl rfl rfl rfl rfl rfl ⟨rfl, rfl, rfl, rfl, rfl⟩ rfl rfl rfl rfl rfl (by kernel_rfl) Try.func7 (by kernel_rfl)
    (of_decide_eq_true (by kernel_rfl)) (by unfold Func.isWrapper; first | (rw [if_pos (by decide +kernel)]; kernel_rfl) | (rw [if_neg (by decide +kernel)]; exact ⟨rfl, rfl⟩))
    (fun os started H enc _ => multiplyWholes_lifted os started H enc)
end Go.Proofs.Ytlkdelhmjjnnnaa
