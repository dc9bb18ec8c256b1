/- cuPut of the model: one contract (own work). -/
import Derived.Test.YtjamckcbgcejdaaDoorCuPutE
import Derived.Test.YtjamckcbgcejdaaDoorRtTry
namespace Go.Proofs.YtjamckcbgcejdaaDoor
open Go.RowKit Go.Joins

theorem RootF.Bd {a b c d : Int} {x : Int × Int} (g : CuG a b c d) (h : RootF a b c d x) : Bd x := by
  have := h.bd g.1 g.2.1 g.2.2.1 g.2.2.2.1 g.2.2.2.2
  have := h.1
  exact ⟨by omega, by omega⟩
theorem cuPut_any (a b c d : Int) (g : CuG a b c d) (L : List (Int × Int)) (A : Option Addr) (cc base : Nat) (w : World) (p q : Int) (hL : RS a b c d L) (hx : RootF a b c d (p, q)) (hown : OwnF w base (.slice A L.length cc) L) (hn : L = [] → A = none ∧ cc = 0) (hbase : base ≤ w.heap.size) :
    Calls Tryd.prog 51 #[.slice A L.length cc, .agg #[.int .i64 p, .int .i64 q]] w fun e w' => ∃ M A' c', e = .returned (.slice A' M.length c') ∧ OwnF w' base (.slice A' M.length c') M ∧ (M = [] → A' = none ∧ c' = 0) ∧ RS a b c d M ∧ (∀ y, y ∈ M ↔ y = (p, q) ∨ y ∈ L) ∧ Below w.heap.size w w' := by
  by_cases h0 : L = []
  · subst h0
    obtain ⟨rfl, rfl⟩ := hn rfl
    refine (cuPut_nil p q w).mono ?_
    rintro e w' ⟨A', c', he, ho, hb⟩
    exact ⟨_, A', c', he, ho.le hbase, fun h => by simp at h, ⟨by simp [FSorted], fun y hy => by rw [List.mem_singleton] at hy; subst hy; exact hx⟩, fun y => by simp, hb⟩
  · have hl0 : 0 < L.length := by cases L with | nil => exact absurd rfl h0 | cons _ _ => simp
    have hl3 := hL.len g.1
    obtain ⟨A', c', he, hr, hcap⟩ := hown.form
    simp only [Value.slice.injEq, true_and] at he
    obtain ⟨rfl, rfl⟩ := he
    obtain ⟨bb, o, rfl, hbw, hc⟩ := hr.2 hl0
    have hB : ∀ x ∈ L, Bd x := fun x hm => (hL.root x hm).Bd g
    obtain ⟨k, h1, h2, h3⟩ := place_exists (p, q) L
    by_cases hk : k < L.length
    · by_cases h4 : L[k]?.getD (0, 0) = (p, q)
      · refine (cuPut_found L p q k bb o cc w hl0 hl3 hbw hcap hc hB (hx.Bd g) h2 hk h4).mono ?_
        rintro e w' ⟨he, hb⟩
        refine ⟨L, some ⟨bb, o, none⟩, cc, he, hown.kept hb, fun h => absurd h h0, hL, fun y => ⟨.inr, fun hy => ?_⟩, hb⟩
        rcases hy with rfl | hy
        · rw [← h4, List.getElem?_eq_getElem hk]; exact List.getElem_mem hk
        · exact hy
      · refine (cuPut_mid L p q k bb o cc w hl0 hl3 hbw hcap hc hB (hx.Bd g) h2 hk (h3 hk) h4).mono ?_
        rintro e w' ⟨A', c', he, ho, hb⟩
        exact ⟨_, A', c', he, ho.le hbase, fun h => by simp at h, hL.put hx h1 h2 h3 (fun _ => h4), fun y => put_mem, hb⟩
    · obtain rfl : k = L.length := by omega
      refine (cuPut_end L p q bb o cc w hl0 hl3 hbw hcap hc hB (hx.Bd g) h2).mono ?_
      rintro e w' ⟨A', c', he, ho, hb⟩
      have hp := hL.put hx h1 h2 h3 (fun h => absurd h hk)
      rw [List.take_length, List.drop_length] at hp
      exact ⟨_, A', c', he, ho.le hbase, fun h => by simp at h, hp, fun y => by simp [or_comm], hb⟩
end Go.Proofs.YtjamckcbgcejdaaDoor
