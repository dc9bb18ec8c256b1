/- Points as keys of the program's map; the greatest order (written by wip/gen/fmgs.py). -/
import Derived.Test.YtbgoiflkpefckaaFmI5
import Derived.Test.YtbgoiflkpefckaaBase
import Derived.WideKeyPair
import Derived.DeepKeys4
import Derived.Maps.OwnSet
import Derived.Maps.OwnOps
namespace Go.Proofs.Ytbgoiflkpefckaa
open Go.RowKit Go.Joins

open Go.Maps
theorem arrF : WideMaps.ArrKey Try.prog 70 3 3 := ⟨by kernel_rfl, by kernel_rfl, by kernel_rfl, by kernel_rfl⟩
theorem rowF : (70 : TypeId) < Try.prog.types.size := of_decide_eq_true (by kernel_rfl)
theorem lawF : Keyed Try.prog 70 := Keyed.of_law (deep_law_laid Try.laidOut (m := 2) (by omega) rowF (by kernel_rfl) arrF.wide)
theorem sizeF : ∃ m, Try.prog.types.size = m + 1 := ⟨Try.prog.types.size - 1, by have h : (70 : Nat) < Try.prog.types.size := rowF; omega⟩
theorem keyOf_three {P : Program} {k e : TypeId} {q : IntKind} (A : WideMaps.ArrKey P k e 3) (he : P.underlying e = some (.int q)) (hsz : ∃ m, P.types.size = m + 1) {a b c : Int} (wa : (Lit.int q a).wf = true) (wb : (Lit.int q b).wf = true) (wc : (Lit.int q c).wf = true) :
    keyOf P k (.agg #[.int q a, .int q b, .int q c]) = some (.string (keyBytes [.int q a, .int q b, .int q c])) := by
  have hkt := A.keyType hsz
  obtain ⟨m, hm⟩ := hsz
  unfold keyOf
  simp only [A.hu]
  rw [if_pos (by simp [hkt, Value.formed, A.hu, A.size]), hm]
  unfold Program.keyLits
  simp only [A.hu, Value.cells]
  rw [if_pos (by rw [A.size]; rfl), show List.range 3 = [0, 1, 2] from rfl, List.mapM_cons, List.mapM_cons, List.mapM_cons, List.mapM_nil]
  simp [A.one, Program.keyLits, he, wa, wb, wc]
/-- What a point reads as in the program's map. -/
def klit (s : FP) : Lit := .string (keyBytes [.int .i64 (fpx s), .int .i64 (fpy s), .int .i64 (fpz s)])
theorem key_pt {a b : Int} {p : Nat} {s : FP} (hp : p ≤ 997) (hs : FOn a b p s) : keyOf Try.prog 70 (.agg #[.int .i64 (fpx s), .int .i64 (fpy s), .int .i64 (fpz s)]) = some (klit s) := by
  have h : (0 ≤ fpx s ∧ fpx s < 1000) ∧ (0 ≤ fpy s ∧ fpy s < 1000) ∧ (0 ≤ fpz s ∧ fpz s < 1000) := by
    rcases s with _ | ⟨x, y⟩
    · simp [fpx, fpy, fpz]
    · have h1 : x < p := hs.1
      have h2 : y < p := hs.2.1
      simp only [fpx, fpy, fpz]
      omega
  exact keyOf_three arrF Try.underlying3 sizeF (WalkArith.wf_i64 (by omega)) (WalkArith.wf_i64 (by omega)) (WalkArith.wf_i64 (by omega))
theorem klit_inj {a b : Int} {p : Nat} {s t : FP} (hp : p ≤ 997) (hs : FOn a b p s) (ht : FOn a b p t) (e : klit s = klit t) : s = t := by
  have h := lawF.inj (key_pt hp hs) ((key_pt hp ht).trans (by rw [e]))
  simp only [Value.agg.injEq] at h
  rcases s with _ | ⟨x, y⟩ <;> rcases t with _ | ⟨u, v⟩ <;> simp [fpx, fpy, fpz] at h ⊢
  omega
theorem klit_key (s : FP) : WideAt.IsKeyLit (klit s) := trivial
/-- The chosen order. -/
noncomputable def ordF (a : Int) (p : Nat) (s : FP) : Nat := open Classical in if h : ∃ n, FOrd a p s n then Classical.choose h else 1
theorem FG.ordF_is {a b : Int} {p : Nat} (G : FG a b p) {s : FP} (hs : FOn a b p s) : FOrd a p s (ordF a p s) ∧ ordF a p s ≤ p * p + 1 := by
  obtain ⟨n, h, hn⟩ := G.order hs
  have hx : ∃ n, FOrd a p s n := ⟨n, h⟩
  have h2 : FOrd a p s (ordF a p s) := by
    unfold ordF; rw [dif_pos hx]; exact Classical.choose_spec hx
  exact ⟨h2, by rw [h2.uniq h]; exact hn⟩
/-- The greatest of the orders. -/
noncomputable def omax (a : Int) (p : Nat) : List FP → Nat
  | [] => 1
  | s :: L => max (ordF a p s) (omax a p L)
theorem omax_snoc (a : Int) (p : Nat) (s : FP) : ∀ L, omax a p (L ++ [s]) = max (omax a p L) (ordF a p s)
  | [] => by simp only [List.nil_append, omax]; omega
  | t :: L => by rw [List.cons_append, omax, omax, omax_snoc a p s L]; omega
theorem omax_one (a : Int) (p : Nat) : ∀ L, 1 ≤ omax a p L
  | [] => Nat.le_refl 1
  | s :: L => by rw [omax]; have := omax_one a p L; omega
theorem omax_le {a : Int} {p B : Nat} (hB : 1 ≤ B) : ∀ L, (∀ s, s ∈ L → ordF a p s ≤ B) → omax a p L ≤ B
  | [], _ => hB
  | s :: L, h => by
    have h1 := h s (by simp)
    have h2 := omax_le hB L (fun t ht => h t (by simp [ht]))
    rw [omax]; omega
/-- No point that the map has seen has a greater order. -/
def Sn (a b : Int) (p : Nat) (D : DataW Unit) (M : Nat) : Prop := ∀ t, FOn a b p t → D.atKey (klit t) (.lit (.bool false)) = .lit (.bool true) → ordF a p t ≤ M
theorem Sn.none (a b : Int) (p M : Nat) : Sn a b p (.map []) M := by
  intro t _ h
  have h2 : (DataW.map [] : DataW Unit).atKey (klit t) (.lit (.bool false)) = .lit (.bool false) := rfl
  rw [h2] at h
  cases h
theorem Sn.mono {a b : Int} {p M M' : Nat} {D : DataW Unit} (h : Sn a b p D M) (hM : M ≤ M') : Sn a b p D M' := fun t ht e => Nat.le_trans (h t ht e) hM
theorem Sn.put {a b : Int} {p M : Nat} {D : DataW Unit} {s : FP} (h : Sn a b p D M) (hp : p ≤ 997) (hs : FOn a b p s) (hle : ordF a p s ≤ M) : Sn a b p (D.put (klit s) (.lit (.bool true))) M := by
  intro t ht e
  by_cases hts : t = s
  · subst hts; exact hle
  · rw [atKey_put_other (fun e2 => hts (klit_inj hp ht hs e2))] at e
    exact h t ht e
theorem zeroBf (w : World) : (zeroValue 4).run Try.prog w = .ok (.bool false) w := by kernel_rfl
theorem elemBf (c : Bool) : plainElem (H := Unit) Try.prog 4 (.bool c) = some (.lit (.bool c), []) := plainElem_bool Try.underlying4 c
/-- A look-up in a map of bools that the call made. -/
theorem wpList_lookup_own_bool {P : Program} (w : World) {ops : Array Oper} {rest : List Oper} {o : Oper} {a : Act} {Q : Exit → Act → World → Prop}
    (hg : o.guard = none) (m x : Operand) (t : TypeId) (hop : o.op = Op.lookup t m x false)
    (k e : TypeId) (K : Keyed P k) (ht : P.underlying t = some (.map k e)) (he : P.underlying e = some .bool) (hz : (zeroValue e).run P w = .ok (.bool false) w) (b n : Nat) (D : DataW Unit)
    (hm : a.eval m = .map (some b)) (hown : w.ownsMap P k (plainElem P e) b n D) (key : Value) (kl : Lit) (hx : a.eval x = key) (hkey : keyOf P k key = some kl) (c : Bool) (hc : D.atKey kl (.lit (.bool false)) = .lit (.bool c))
    (hK : wpList P ops Q rest (a.put o.dst (.bool c)) w) :
    wpList P ops Q (o :: rest) a w := by
  refine wpList_plain hg fun K' hK' => ?_
  obtain ⟨v, ps, hrun, hv⟩ := hown.lookup K ht hz (plainElem_bool he false) hkey
  rw [hc] at hv
  have hvc : v = .bool c := by
    unfold plainElem at hv
    rw [he] at hv
    cases v <;> simp at hv
    rw [hv.1]
  unfold Oper.wp
  simp [execOp, hop, hm, hx, hrun, hvc, Result.andThen]
  exact hK' _ _ hK
/-- A map of bools that has been read: what stands at each key. -/
theorem atKey_bool {P : Program} {k e : TypeId} {w : World} {b n : Nat} {D : DataW Unit} {t : TypeId} (hown : w.ownsMap P k (plainElem P e) b n D) (K : Keyed P k) (ht : P.underlying t = some (.map k e)) (he : P.underlying e = some .bool) (hz : (zeroValue e).run P w = .ok (.bool false) w)
    {key : Value} {kl : Lit} (hkey : keyOf P k key = some kl) : ∃ c : Bool, D.atKey kl (.lit (.bool false)) = .lit (.bool c) := by
  obtain ⟨v, ps, hrun, hv⟩ := hown.lookup K ht hz (plainElem_bool he false) hkey
  unfold plainElem at hv
  rw [he] at hv
  cases v <;> simp at hv
  rename_i c
  exact ⟨c, hv.1.symm⟩
end Go.Proofs.Ytbgoiflkpefckaa
