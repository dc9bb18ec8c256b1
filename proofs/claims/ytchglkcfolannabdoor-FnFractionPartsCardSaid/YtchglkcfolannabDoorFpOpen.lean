/- What the proofs of the statements over fractions share: the table of limits out of the condition, the arguments opened, what is asked behind the call. -/
import Derived.Test.YtchglkcfolannabDoorFpPar
import Derived.Test.YtchglkcfolannabDoorRows
import Derived.Test.YtchglkcfolannabDoorTie
import Derived.Test.YtchglkcfolannabDoorCards
import Derived.ProofKit
import Derived.Carry
import Derived.OpenShut
import Derived.SizedLaws
import Derived.ChangeVars
import Derived.LaidMore
import Derived.Lib.LaidTab
import Derived.Stop.LaidErr
import Derived.SevenTiedAt
import Derived.Stop.Joined
import Derived.Handed
import Derived.ChangeMaps5
namespace Go.Proofs.YtchglkcfolannabDoor
open Go.ChangeShapes Go.WideShapes Go.ChangeAt Go.RowKit Go.Joins

theorem Tryd.own : ownKnob Tryd.prog.godebug = none := by kernel_rfl
theorem Tryd.laidOut : laidOutB Tryd.prog = true := by kernel_rfl
theorem Tryd.cellsU8 : Tryd.prog.cellsOf 5 = 1 := by kernel_rfl
theorem Tryd.cellsInt : Tryd.prog.cellsOf 3 = 1 := by kernel_rfl
theorem Tryd.cellsLim : Tryd.prog.cellsOf 60 = 3 := by kernel_rfl
theorem Tryd.cellsU64 : Tryd.prog.cellsOf 48 = 1 := by kernel_rfl
theorem Tryd.cellsPow : Tryd.prog.cellsOf 85 = 20 := by kernel_rfl
theorem Tryd.gPowType : (Tryd.prog.globals[2]?).map (·.type) = some 85 := by kernel_rfl
theorem Tryd.gLim : Tryd.prog.globalNamed "loop.example/g01004/impl.limits" = some 0 := by kernel_rfl
theorem Tryd.gLimType : (Tryd.prog.globals[0]?).map (·.type) = some 60 := by kernel_rfl

abbrev limLaid : List (String × DataW Unit) := [("math/bits.deBruijn32tab", Rows.laid_math_bits_deBruijn32tab), ("math/bits.deBruijn64tab", Rows.laid_math_bits_deBruijn64tab), ("internal/strconv.uint64pow10", Rows.laid_internal_strconv_uint64pow10), ("loop.example/g01004/impl.limits", Rows.laid_loop_example_g01004_impl_limits)]

/-- The door's own heap meets the condition. -/
theorem limDoor (os : Os) (args : Array Value) : laidMetH Tryd.prog limLaid ((World.doorLaid Tryd.prog 400 os).forCall (fun _ _ => 0) ⟨#[], args, []⟩).memory :=
  laidMetH_of_parts3 (fuel := 8) (laidMet_of_run' 8 (by kernel_rfl) (by kernel_rfl)) (by kernel_rfl) (by kernel_rfl)

theorem limTab {W : World} (h : laidMetH Tryd.prog limLaid W) : Lib.TabIs Tryd.prog W "loop.example/g01004/impl.limits" .i64 [1000000000, 1000000000000000000, 1000] := by
  rw [MakeChecks.laidMetH_plain _ _ _ (by kernel_rfl)] at h
  exact Lib.tabIs_of_head (rest := []) Tryd.gLim Tryd.gLimType Tryd.underlying60 Tryd.underlying3 Tryd.cellsInt Tryd.cellsLim h.tail.tail.tail
theorem powTab {W : World} (h : laidMetH Tryd.prog limLaid W) : Pow W := by
  rw [MakeChecks.laidMetH_plain _ _ _ (by kernel_rfl)] at h
  exact Lib.tabIs_of_head Tryd.gPow Tryd.gPowType Tryd.underlying85 Tryd.underlying48 Tryd.cellsU64 Tryd.cellsPow h.tail.tail

/-- The table of limits, as the walks want it. -/
theorem lim_of_laid {W : World} (h : laidMetH Tryd.prog limLaid W) : Env W :=
  ⟨⟨(limTab h).cell Tryd.gLim 0 (by decide), (limTab h).cell Tryd.gLim 1 (by decide), (limTab h).cell Tryd.gLim 2 (by decide)⟩, powTab h⟩

theorem var?_below {P : Program} {B g : Nat} {W W' : World} {n : String} {cs : Array Value} (h : Below B W W') (hg : P.globalNamed n = some g) (hgB : g < B) (hv : W.var? P n = some cs) : W'.var? P n = some cs := by
  unfold World.var? at hv ⊢
  simp only [hg, Option.bind_some] at hv ⊢
  rw [h.block g hgB]
  exact hv

section
variable {H : Type} {enc : TypeId × Value → H}

theorem trodAll_below {P : Program} (hl : laidOutB P = true) {W W' : World} (hb : Below W.heap.size W W') : ∀ (ts : List TypeId) (vs : List Value) (ds : List (DataW H)) (p : List MemPlace), (∀ t ∈ ts, P.readableRec t = true ∧ t < P.types.size) →
    DataW.TrodAll enc P W 0 (fun _ => true) true ts vs ds p → (∀ x ∈ p, x.block < W.heap.size) → DataW.TrodAll enc P W' 0 (fun b => decide (b < W.heap.size)) true ts vs ds p := by
  intro ts
  induction ts with
  | nil =>
    intro vs ds p _ h _
    obtain ⟨rfl, rfl, rfl⟩ := trodAll_nil h
    exact rfl
  | cons t ts ih =>
    intro vs ds p ht h hp
    obtain ⟨v, vs', d, ds', q, r, rfl, rfl, rfl, h1, h2⟩ := trodAll_cons h
    obtain ⟨a1, a2⟩ := ht t (by simp)
    exact ⟨q, r, Below.trod hl a1 a2 h1 hb (fun x hx => hp x (by simp [hx])), ih vs' ds' r (fun t' h' => ht t' (by simp [h'])) h2 (fun x hx => hp x (by simp [hx])), rfl⟩

/-- What is asked behind the call of a law with one listed variable: it has answered true, and nothing that was there has turned. -/
theorem post_true1 {P : Program} {f : Func} {s : ChangeSpec} {W W' : World} {args : Array Value} {ds gs : List (DataW H)} {before : List MemPlace} {tb tv : TypeId} {n : String} {g : Nat} (hl : laidOutB P = true) (hbt : P.underlying tb = some .bool)
    (hts : ∀ t ∈ f.params.toList, P.readableRec t = true ∧ t < P.types.size) (hrt : f.resultTypes = #[tb]) (hvars : s.vars = [n]) (hg : P.globalNamed n = some g) (hgt : (P.globals[g]?).map (·.type) = some tv) (hrv : P.readableRec tv = true ∧ tv < P.types.size)
    (hW : DataW.Whole enc P f.params.toList s.vars false W args.toList ds gs before) (hfn : s.fn H (ds ++ gs) = { results := [.lit (.bool true)], args := ds, vars := gs }) (hb : Below W.heap.size W W') :
    s.post enc P f false true false false W args (.bool true) W' := by
  have hW' := hW
  obtain ⟨p, q, hA, hV, rfl, _, _⟩ := hW
  rw [hvars] at hV
  have hlt : ∀ x ∈ p ++ q, x.block < W.heap.size := fun x hx => hW'.lt x hx
  obtain ⟨g', t', cs, fuel, d, r, rfl, hg', ht', hv, hd, hq⟩ := trodVars_one hV
  obtain rfl := Option.some.inj (hg.symm.trans hg')
  obtain rfl := Option.some.inj (hgt.symm.trans ht')
  subst hq
  have hglt : g < W.heap.size := by
    unfold World.var? at hv
    simp only [hg, Option.bind_some] at hv
    rcases hh : W.heap[g]? with _ | o
    · rw [hh] at hv; cases hv
    · exact (Array.getElem?_eq_some_iff.1 hh).1
  obtain ⟨fuel', hd'⟩ := Below.trod (v := .agg cs) hl hrv.1 hrv.2 ⟨fuel, hd⟩ hb (fun x hx => hlt x (by simp [hx]))
  refine ⟨ds, [d], _, [], p, MemPlace.row ⟨g, 0, none⟩ cs.size ++ r, hW', ?_, ?_, ?_, hb.frame _, fun h => by cases h⟩
  · rw [hfn, hrt]
    exact trodAll_mk1 (shut_bool hbt _)
  · rw [hfn]
    exact trodAll_below hl hb _ _ _ _ hts hA (fun x hx => hlt x (by simp [hx]))
  · rw [hfn, hvars]
    exact trodVars_mk1 hg hgt (var?_below hb hg hglt hv) hd'

/-- Bytes that have been read. -/
theorem open_bytes {W : World} {base : Nat} {v : Value} {d : DataW H} {p : List MemPlace} (hv : Value.okWide Tryd.prog W .any base 22 v) (h : DataW.Trod enc Tryd.prog W 0 (fun _ => true) true 22 v d p) :
    ∃ (A : Option Addr) (n c : Nat), v = .slice A n c ∧ n ≤ 9223372036854775807 ∧ RdB W W.heap.size A n := by
  obtain ⟨A0, len, cap, rfl⟩ := okWide_slice Tryd.underlying22 hv
  obtain ⟨fuel, hf⟩ := h
  refine ⟨A0, len, cap, rfl, ?_⟩
  rcases open_ints Tryd.underlying22 Tryd.underlying5 Tryd.cellsU8 hf with ⟨hcs, hx⟩ | ⟨a, len', cap', zs, hcs, _, hl, hm, hz, hx, hcell, hwz⟩
  · simp only [Value.cells, List.cons.injEq, Value.slice.injEq, and_true] at hcs
    obtain ⟨rfl, rfl, rfl⟩ := hcs
    exact ⟨by omega, fun h => by omega⟩
  · simp only [Value.cells, List.cons.injEq, Value.slice.injEq, and_true] at hcs
    obtain ⟨rfl, rfl, rfl⟩ := hcs
    simp only [if_true] at hz
    refine ⟨by unfold maxLen at hm; omega, fun hn => ?_⟩
    obtain ⟨b, off, spot⟩ := a
    have hspot : spot = none := by simpa [Addr.add] using World.cell?_spot (hcell 0 (by omega))
    subst hspot
    have hlt := World.block_lt_of_cell? W _ (hcell 0 (by omega))
    refine ⟨b, off, rfl, by simpa [Addr.add] using hlt, fun k hk => ?_⟩
    have h1 := hcell k (by omega)
    rw [Addr.add_lit] at h1
    have hmem : zs.getD k 0 ∈ zs := by
      rw [List.getD, List.getElem?_eq_getElem (by omega)]
      exact List.getElem_mem _
    have hb := bounds_u8 (hwz _ hmem)
    refine ⟨(zs.getD k 0).toNat, ?_, by omega⟩
    rw [h1, show ((zs.getD k 0).toNat : Int) = zs.getD k 0 from by omega]
end
/-- A law's frame, the world's shape among what the walk is given. -/
theorem handed_shaped {H : Type} {enc : TypeId × Value → H} {a : Assume} {C : Checked} {os : Os} {f : FuncId} {fn : Func} {s : ChangeSpec} {conds : List PathCond} {apart fresh handsOn again : Bool} {X : World → Array Value → Prop}
    (hX : ∀ (w w' : World) (args : Array Value), w.heap = w'.heap → X w args → X w' args)
    (own : ownKnob C.prog.godebug = none) (started : os.Started) (noInit : C.prog.inits.idxOf? f = none) (hfn : C.prog.funcs[f]? = some fn)
    (witness : ∃ (w : World) (tape : Tape) (i : Input), w.os = os ∧ (w.forCall tape i).Shaped C.prog ∧ i.vars = [] ∧ Input.okWide C.prog (w.forCall tape i) .any w.heap.size f i ∧
      ((s.pre enc C.prog fn conds apart (w.forCall tape i).memory i.args ∧ X (w.forCall tape i).memory i.args) ∧ sizedMet enc C.prog fn (OpenSpec.ofChange s) apart (w.forCall tape i).memory i.args) ∧ a.holds C.prog (lone (Frame.enter C.prog f i.args .normal) [] (w.forCall tape i)))
    (contract : ∀ (W : World) (base : Nat) (args : Array Value) (ds gs : List (DataW H)) (before : List MemPlace),
      (∀ (j : Nat) t v, fn.params[j]? = some t → args[j]? = some v → Value.okWide C.prog W .any base t v) →
      DataW.Whole enc C.prog fn.params.toList s.vars apart W args.toList ds gs before → X W args → W.ShapedOpen C.prog →
      Calls C.prog f args W fun e W' => ∃ v, e = .returned v ∧ s.post enc C.prog fn apart fresh handsOn again W args v W') :
    ReturnsInHanded a C os f .any (fun w args => (s.pre enc C.prog fn conds apart w args ∧ X w args) ∧ sizedMet enc C.prog fn (OpenSpec.ofChange s) apart w args) (s.post enc C.prog fn apart fresh handsOn again) := by
  refine returnsInHanded_of_calls own started noInit witness fun w tape i _ hsh _ hok hpre _ => ?_
  obtain ⟨_, _, _, fn', hfn', _, _, _, _, hval⟩ := hok
  obtain rfl : fn' = fn := Option.some.inj (hfn'.symm.trans hfn)
  obtain ⟨⟨⟨ds, gs, before, hw, -⟩, hx⟩, -⟩ := hpre
  refine (contract (w.forCall tape i) w.heap.size i.args ds gs before hval (DataW.Whole.of_heap (w' := w.forCall tape i) (by rfl) hw) (hX _ _ _ (by rfl) hx) hsh).mono fun e W' ⟨v, he, hp⟩ => ?_
  subst he
  exact ChangeSpec.post_blind hp

theorem envC_of_laid {W : World} (h : laidMetH Tryd.prog limLaid W) (hsh : W.ShapedOpen Tryd.prog) : EnvC W := ⟨lim_of_laid h, Tryd.laysM145.s1_3 W hsh⟩
end Go.Proofs.YtchglkcfolannabDoor
