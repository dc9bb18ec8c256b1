/- What the proofs of the statements over fractions share: the table of limits out of the condition, the arguments opened, what is asked behind the call. -/
import Derived.Test.YtokhadhfjbecmaaDoorTxText
import Derived.Test.YtokhadhfjbecmaaDoorRows
import Derived.Test.YtokhadhfjbecmaaDoorTie
import Derived.Test.YtokhadhfjbecmaaDoorCards
import Derived.ProofKit
import Derived.Carry
import Derived.OpenShut
import Derived.SizedLaws
import Derived.ChangeVars
import Derived.LaidMore
import Derived.Lib.LaidTab
import Derived.Stop.LaidErr
import Derived.SevenTiedAt
import Derived.Stop.Joined
namespace Go.Proofs.YtokhadhfjbecmaaDoor
open Go.ChangeShapes Go.WideShapes Go.ChangeAt Go.RowKit Go.Joins

theorem Tryd.own : ownKnob Tryd.prog.godebug = none := by kernel_rfl
theorem Tryd.laidOut : laidOutB Tryd.prog = true := by kernel_rfl
theorem Tryd.cellsInt : Tryd.prog.cellsOf 3 = 1 := by kernel_rfl
theorem Tryd.cellsLim : Tryd.prog.cellsOf 84 = 3 := by kernel_rfl
theorem Tryd.cellsU64 : Tryd.prog.cellsOf 90 = 1 := by kernel_rfl
theorem Tryd.cellsPow : Tryd.prog.cellsOf 99 = 20 := by kernel_rfl
theorem Tryd.gPowType : (Tryd.prog.globals[2]?).map (·.type) = some 99 := by kernel_rfl
theorem Tryd.gLim : Tryd.prog.globalNamed "loop.example/g01004/impl.limits" = some 0 := by kernel_rfl
theorem Tryd.gLimType : (Tryd.prog.globals[0]?).map (·.type) = some 84 := by kernel_rfl

abbrev limLaid : List (String × DataW Unit) := [("math/bits.deBruijn32tab", Rows.laid_math_bits_deBruijn32tab), ("math/bits.deBruijn64tab", Rows.laid_math_bits_deBruijn64tab), ("internal/strconv.uint64pow10", Rows.laid_internal_strconv_uint64pow10), ("loop.example/g01004/impl.limits", Rows.laid_loop_example_g01004_impl_limits)]

/-- The door's own heap meets the condition. -/
theorem limDoor (os : Os) (args : Array Value) : laidMetH Tryd.prog limLaid ((World.doorLaid Tryd.prog 400 os).forCall (fun _ _ => 0) ⟨#[], args, []⟩).memory :=
  laidMetH_of_parts3 (fuel := 8) (laidMet_of_run' 8 (by kernel_rfl) (by kernel_rfl)) (by kernel_rfl) (by kernel_rfl)

theorem limTab {W : World} (h : laidMetH Tryd.prog limLaid W) : Lib.TabIs Tryd.prog W "loop.example/g01004/impl.limits" .i64 [1000000000, 1000000000000000000, 1000] := by
  rw [MakeChecks.laidMetH_plain _ _ _ (by kernel_rfl)] at h
  exact Lib.tabIs_of_head (rest := []) Tryd.gLim Tryd.gLimType Tryd.underlying84 Tryd.underlying3 Tryd.cellsInt Tryd.cellsLim h.tail.tail.tail
theorem powTab {W : World} (h : laidMetH Tryd.prog limLaid W) : Pow W := by
  rw [MakeChecks.laidMetH_plain _ _ _ (by kernel_rfl)] at h
  exact Lib.tabIs_of_head Tryd.gPow Tryd.gPowType Tryd.underlying99 Tryd.underlying90 Tryd.cellsU64 Tryd.cellsPow h.tail.tail

/-- The table of limits, as the walks want it. -/
theorem lim_of_laid {W : World} (h : laidMetH Tryd.prog limLaid W) : Env W :=
  ⟨⟨(limTab h).cell Tryd.gLim 0 (by decide), (limTab h).cell Tryd.gLim 1 (by decide), (limTab h).cell Tryd.gLim 2 (by decide)⟩, powTab h⟩

theorem var?_below {P : Program} {B g : Nat} {W W' : World} {n : String} {cs : Array Value} (h : Below B W W') (hg : P.globalNamed n = some g) (hgB : g < B) (hv : W.var? P n = some cs) : W'.var? P n = some cs := by
  unfold World.var? at hv ⊢
  simp only [hg, Option.bind_some] at hv ⊢
  rw [h.block g hgB]
  exact hv

section
variable {H : Type} {enc : TypeId × Value → H}

theorem trodAll_below {P : Program} (hl : laidOutB P = true) {W W' : World} (hb : Below W.heap.size W W') : ∀ (ts : List TypeId) (vs : List Value) (ds : List (DataW H)) (p : List MemPlace), (∀ t ∈ ts, P.readableRec t = true ∧ t < P.types.size) →
    DataW.TrodAll enc P W 0 (fun _ => true) true ts vs ds p → (∀ x ∈ p, x.block < W.heap.size) → DataW.TrodAll enc P W' 0 (fun b => decide (b < W.heap.size)) true ts vs ds p := by
  intro ts
  induction ts with
  | nil =>
    intro vs ds p _ h _
    obtain ⟨rfl, rfl, rfl⟩ := trodAll_nil h
    exact rfl
  | cons t ts ih =>
    intro vs ds p ht h hp
    obtain ⟨v, vs', d, ds', q, r, rfl, rfl, rfl, h1, h2⟩ := trodAll_cons h
    obtain ⟨a1, a2⟩ := ht t (by simp)
    exact ⟨q, r, Below.trod hl a1 a2 h1 hb (fun x hx => hp x (by simp [hx])), ih vs' ds' r (fun t' h' => ht t' (by simp [h'])) h2 (fun x hx => hp x (by simp [hx])), rfl⟩

/-- What is asked behind the call of a law with one listed variable: it has answered true, and nothing that was there has turned. -/
theorem post_true1 {P : Program} {f : Func} {s : ChangeSpec} {W W' : World} {args : Array Value} {ds gs : List (DataW H)} {before : List MemPlace} {tb tv : TypeId} {n : String} {g : Nat} (hl : laidOutB P = true) (hbt : P.underlying tb = some .bool)
    (hts : ∀ t ∈ f.params.toList, P.readableRec t = true ∧ t < P.types.size) (hrt : f.resultTypes = #[tb]) (hvars : s.vars = [n]) (hg : P.globalNamed n = some g) (hgt : (P.globals[g]?).map (·.type) = some tv) (hrv : P.readableRec tv = true ∧ tv < P.types.size)
    (hW : DataW.Whole enc P f.params.toList s.vars false W args.toList ds gs before) (hfn : s.fn H (ds ++ gs) = { results := [.lit (.bool true)], args := ds, vars := gs }) (hb : Below W.heap.size W W') :
    s.post enc P f false true false false W args (.bool true) W' := by
  have hW' := hW
  obtain ⟨p, q, hA, hV, rfl, _, _⟩ := hW
  rw [hvars] at hV
  have hlt : ∀ x ∈ p ++ q, x.block < W.heap.size := fun x hx => hW'.lt x hx
  obtain ⟨g', t', cs, fuel, d, r, rfl, hg', ht', hv, hd, hq⟩ := trodVars_one hV
  obtain rfl := Option.some.inj (hg.symm.trans hg')
  obtain rfl := Option.some.inj (hgt.symm.trans ht')
  subst hq
  have hglt : g < W.heap.size := by
    unfold World.var? at hv
    simp only [hg, Option.bind_some] at hv
    rcases hh : W.heap[g]? with _ | o
    · rw [hh] at hv; cases hv
    · exact (Array.getElem?_eq_some_iff.1 hh).1
  obtain ⟨fuel', hd'⟩ := Below.trod (v := .agg cs) hl hrv.1 hrv.2 ⟨fuel, hd⟩ hb (fun x hx => hlt x (by simp [hx]))
  refine ⟨ds, [d], _, [], p, MemPlace.row ⟨g, 0, none⟩ cs.size ++ r, hW', ?_, ?_, ?_, hb.frame _, fun h => by cases h⟩
  · rw [hfn, hrt]
    exact trodAll_mk1 (shut_bool hbt _)
  · rw [hfn]
    exact trodAll_below hl hb _ _ _ _ hts hA (fun x hx => hlt x (by simp [hx]))
  · rw [hfn, hvars]
    exact trodVars_mk1 hg hgt (var?_below hb hg hglt hv) hd'

end
end Go.Proofs.YtokhadhfjbecmaaDoor
