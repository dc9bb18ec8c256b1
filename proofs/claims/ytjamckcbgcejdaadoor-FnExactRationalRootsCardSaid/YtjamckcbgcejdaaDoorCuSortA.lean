/- slices.SortFunc over a row of fractions, an empty one too (own work). -/
import Derived.Test.YtjamckcbgcejdaaDoorCuSort
import Derived.Shelf.SlSortCmp.NoneTotal
namespace Go.Proofs.YtjamckcbgcejdaaDoor
open Go.RowKit Go.Joins Go.Sort

theorem sort_any (w : World) (base : Nat) (A : Option Addr) (c : Nat) (L : List (Int × Int)) (hL : ∀ x ∈ L, (-1000 ≤ x.1 ∧ x.1 ≤ 1000) ∧ (1 ≤ x.2 ∧ x.2 ≤ 1000)) (h : OwnF w base (.slice A L.length c) L) (hlen : L.length ≤ 1000) :
    Calls Tryd.prog 36 #[.slice A L.length c, .func (.func 37) #[] #[]] w fun e w' =>
      e = .returned (.tuple #[]) ∧ ∃ M, M.Perm L ∧ (M.Pairwise fun x y => ¬ FLt y x) ∧ OwnF w' base (.slice A L.length c) M ∧ Below base w w' := by
  by_cases hne : L = []
  · subst hne
    refine Calls.mono (AnyF.slices_SortFunc_none Tryd.sortFr A c (.func (.func 37) #[] #[]) w) ?_
    rintro e w' ⟨rfl, rfl⟩
    exact ⟨rfl, [], List.Perm.refl _, List.Pairwise.nil, h, Below.refl _ _⟩
  · exact sort_some w base A c L hL h hlen hne

/-- The roots, put in order. -/
theorem sort_rl (a b cc d : Int) (w : World) (base : Nat) (A : Option Addr) (c : Nat) (L M : List (Int × Int)) (g : CuG a b cc d) (hM : RL a b cc d M) (hmem : ∀ x, x ∈ L ↔ RootF a b cc d x) (hn : L.Nodup) (h : OwnF w base (.slice A L.length c) L) :
    Calls Tryd.prog 36 #[.slice A L.length c, .func (.func 37) #[] #[]] w fun e w' =>
      e = .returned (.tuple #[]) ∧ M.length = L.length ∧ OwnF w' base (.slice A M.length c) M ∧ Below base w w' := by
  have h3 := nodup_three g.1 L hn fun x hx => (hmem x).1 hx
  refine Calls.mono (sort_any w base A c L (fun x hx => ?_) h (by omega)) ?_
  · have hr := (hmem x).1 hx
    have hb := hr.bd g.1 g.2.1 g.2.2.1 g.2.2.2.1 g.2.2.2.2
    exact ⟨⟨hb.2.1, hb.2.2⟩, hr.1, hb.1⟩
  · rintro e w' ⟨rfl, M', hp, hs, ho, hb⟩
    have hM' : M' = M := perm_rl hM (fun x => (hp.mem_iff).trans (hmem x)) (hp.nodup_iff.2 hn) hs
    subst hM'
    exact ⟨rfl, hp.length_eq, by rw [hp.length_eq]; exact ho, hb⟩
end Go.Proofs.YtjamckcbgcejdaaDoor
