/- The card of FnExactDifferenceOf: the law answers true for all arguments, valid or not; the table of limits is tied to the program's text. No other condition. -/
import Derived.Test.YtjkbpcigpfahjaaDoorFrOpen
import Derived.Test.YtjkbpcigpfahjaaDoorFrSums
namespace Go.Proofs.YtjkbpcigpfahjaaDoor
open Go.ChangeShapes Go.WideShapes Go.ChangeAt Go.RowKit Go.Joins

set_option maxRecDepth 100000 in
theorem fnExactDifferenceOf_lifted (os : Os) (started : os.Started) (H : Type) (enc : TypeId × Value → H) :
    ReturnsInHanded {} Tryd.checked os 5 .any (fun w args => (Rows.fnExactDifferenceOfSpec.pre enc Tryd.prog Tryd.f5 [] false w args ∧ laidMetH Tryd.prog limLaid w) ∧ sizedMet enc Tryd.prog Tryd.f5 (OpenSpec.ofChange Rows.fnExactDifferenceOfSpec) false w args)
      (Rows.fnExactDifferenceOfSpec.post enc Tryd.prog Tryd.f5 false true false false) := by
  refine returnsInHanded_of_change_and (C := Tryd.checked) (X := fun w _ => laidMetH Tryd.prog limLaid w) (fun _ _ _ hh h => h.of_heap hh) Tryd.own started (by kernel_rfl) Tryd.func5
    (ChangeSpec.witness_shaped (enc := enc) (C := Tryd.checked) (os := os) (X := fun w _ => laidMetH Tryd.prog limLaid w) false (World.doorLaid Tryd.prog 400 os) #[.agg #[.int .i64 0, .int .i64 0], .agg #[.int .i64 0, .int .i64 0]] 8 rfl (World.shaped_of_RefB (by kernel_rfl) (by kernel_rfl)) (by kernel_rfl) (by kernel_rfl) (by kernel_rfl) (limDoor os _)) ?_
  intro W base args ds gs before hval0 hW _ _ hL0 _
  have hL := lim_of_laid hL0
  have hval : ∀ (j : Nat) t v, Tryd.f5.params[j]? = some t → args[j]? = some v → Value.okWide Tryd.prog W .any base t v := hval0
  have hW' := hW
  obtain ⟨p, q, hA0, hV, rfl, hfz, hnd⟩ := hW
  have hA : DataW.TrodAll enc Tryd.prog W 0 (fun _ => true) true Tryd.f5.params.toList args.toList ds p := hA0
  rw [Tryd.params5] at hA hval
  obtain ⟨v0, v1, d0, d1, p0, p1, rfl, rfl, rfl, h0, h1⟩ := trodAll_two hA
  obtain ⟨g', t', cs, fuel, dv, pv, rfl, -⟩ := trodVars_one hV
  obtain ⟨x0, y0, rfl, hx0, hy0⟩ := open_fr (hval 0 28 v0 rfl rfl) h0
  obtain ⟨x1, y1, rfl, hx1, hy1⟩ := open_fr (hval 1 28 v1 rfl rfl) h1
  clear hA0 hval0 hL0
  refine (lawDifferenceOf_any x0 y0 x1 y1 W hL hx0 hy0 hx1 hy1).mono fun e W' ⟨he, hb⟩ => ?_
  subst he
  exact ⟨_, rfl, post_true1 Tryd.laidOut Tryd.underlying4 (fun t ht => by simp [Tryd.params5] at ht; rcases ht with rfl <;> exact ⟨by kernel_rfl, of_decide_eq_true (by kernel_rfl)⟩) (by kernel_rfl) rfl Tryd.gLim Tryd.gLimType ⟨by kernel_rfl, of_decide_eq_true (by kernel_rfl)⟩ hW' rfl hb⟩

theorem fnExactDifferenceOf_row : Rows.FnExactDifferenceOfSaid :=
  OpenClaim.holds_of_wide 5 Tryd.f5 rfl rfl rfl rfl rfl rfl rfl ⟨rfl, rfl, rfl, rfl, rfl⟩ rfl rfl rfl rfl rfl (by kernel_rfl) Tryd.func5 (by kernel_rfl)
    (of_decide_eq_true (by kernel_rfl)) (by unfold Func.isWrapper; first | (rw [if_pos (by decide +kernel)]; kernel_rfl) | (rw [if_neg (by decide +kernel)]; exact ⟨rfl, rfl⟩))
    (fun os started H enc _ => fnExactDifferenceOf_lifted os started H enc)

theorem fnExactDifferenceOf_card : Rows.FnExactDifferenceOfCardSaid :=
  Claim7.holds_tied_plain_at .later [] [.data] true Rows.fnExactDifferenceOfCard.stood.harness false
    fnExactDifferenceOf_row (fun _ h => by cases h) (by kernel_rfl) (fun _ h => by cases h) fnExactDifferenceOf_row_tie rfl ⟨rfl, rfl⟩ (by kernel_rfl) rfl
    (fun f fn hf hfn => by
      obtain rfl : f = 5 := Option.some.inj ((show Tryd.prog.funcNamed "loop.example/g01004/laws.FnExactDifferenceOf" = some 5 by kernel_rfl).symm.trans hf) |>.symm
      obtain rfl : fn = Tryd.f5 := (Option.some.inj (Tryd.func5.symm.trans hfn)).symm
      exact ⟨by kernel_rfl, fun j t ht => by
        rw [Tryd.params5] at ht
        have hm : t ∈ [28] := by have := Array.mem_of_getElem? ht; simpa using this
        have hall : ([28].all fun u => !Tryd.prog.wantsStandIn u) = true := by kernel_rfl
        exact (show Tryd.prog.wantsStandIn t = false by simpa using List.all_eq_true.1 hall t hm)⟩)
    (by kernel_rfl)
end Go.Proofs.YtjkbpcigpfahjaaDoor
