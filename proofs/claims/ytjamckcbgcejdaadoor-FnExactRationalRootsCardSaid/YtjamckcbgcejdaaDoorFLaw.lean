/- The law's own helpers on rows of fractions: equal, marked, held (own work). -/
import Derived.Test.YtjamckcbgcejdaaDoorFRow
import Derived.Test.YtjamckcbgcejdaaDoorFrLaw0
import Derived.Test.YtjamckcbgcejdaaDoorCuLaw0
import Derived.StillTailTactics
namespace Go.Proofs.YtjamckcbgcejdaaDoor
open Go.RowKit Go.Joins

/-- The slice reads as so many fractions, whose numbers are zs. -/
def RdZ (w : World) (B : Nat) (A : Option Addr) (n : Nat) (zs : List Int) : Prop := 0 < n → ∃ b o, A = some ⟨b, o, none⟩ ∧ b < B ∧ ∀ j, j < 2 * n → w.cell? ⟨b, o + j, none⟩ = some (.int .i64 (zs[j]?.getD 0))
theorem RdZ.kept {w w' : World} {A : Option Addr} {n : Nat} {zs : List Int} (h : RdZ w w.heap.size A n zs) (hb : Below w.heap.size w w') : RdZ w' w'.heap.size A n zs := by
  intro hn
  obtain ⟨b, o, rfl, hB, hc⟩ := h hn
  exact ⟨b, o, rfl, Nat.lt_of_lt_of_le hB hb.size, fun k hk => (hb.cell (p := ⟨b, o + k, none⟩) hB).trans (hc k hk)⟩
theorem RdF.aside {w w' : World} {B lo : Nat} {A : Option Addr} {n : Nat} {L M : List (Int × Int)} {v : Value} (h : RdF w B A n L) (ho : OwnF w lo v M) (hB : B ≤ lo) (hg : w.grownBy w' v.ownBlock) : RdF w' B A n L := by
  refine ⟨h.1, fun hn => ?_⟩
  obtain ⟨b, o, rfl, hb, hc⟩ := h.2 hn
  refine ⟨b, o, rfl, hb, fun k hk => hg.cell (hc k hk) fun e => ?_⟩
  have := (World.ownsRow.lt ho b e.symm).1
  omega

set_option maxHeartbeats 1000000 in
set_option maxRecDepth 100000 in
theorem eqFS_yes (A B : Option Addr) (n c d : Nat) (L : List (Int × Int)) (w : World) (hn : n ≤ 1000000) (h : RdF w w.heap.size A n L) (h' : RdF w w.heap.size B n L) :
    Calls Tryd.prog 14 #[.slice A n c, .slice B n d] w fun e w' => e = .returned (.bool true) ∧ Below w.heap.size w w' := by
  have e0 : ((n : Int) != (n : Int)) = false := by simp
  have hl := Lib.hid h.1
  go_enter Tryd.func14, Tryd.ntmps14
  go_wp2_with fail
  go_loopw [5] (fun i wr => ∃ k : Nat, k ≤ n ∧ i = .int .i64 k ∧ Below w.heap.size w wr) (fun i _ => n - (intOf i).toNat)
  case atStart => exact ⟨0, Nat.zero_le _, rfl, Below.refl _ _⟩
  case round =>
    obtain ⟨k, hk, rfl, hb⟩ := hrel
    by_cases hlt : k < n
    · obtain ⟨b, o, rfl, hbs, hc⟩ := h.2 (by omega)
      obtain ⟨b', o', rfl, hbs', hc'⟩ := h'.2 (by omega)
      obtain ⟨p, hp⟩ : ∃ p, p = (flat L)[k * 2]?.getD 0 := ⟨_, rfl⟩
      obtain ⟨q, hq⟩ : ∃ q, q = (flat L)[k * 2 + 1]?.getD 0 := ⟨_, rfl⟩
      have r0 : wr.cell? ⟨b, o + k * 2, none⟩ = some (.int .i64 p) := by rw [hp]; exact (hb.cell (p := ⟨b, o + k * 2, none⟩) hbs).trans (hc (k * 2) (by omega))
      have r1 : wr.cell? ⟨b, o + k * 2 + 1, none⟩ = some (.int .i64 q) := by rw [hq]; exact (hb.cell (p := ⟨b, o + (k * 2 + 1), none⟩) hbs).trans (hc (k * 2 + 1) (by omega))
      have r2 : wr.cell? ⟨b', o' + k * 2, none⟩ = some (.int .i64 p) := by rw [hp]; exact (hb.cell (p := ⟨b', o' + k * 2, none⟩) hbs').trans (hc' (k * 2) (by omega))
      have r3 : wr.cell? ⟨b', o' + k * 2 + 1, none⟩ = some (.int .i64 q) := by rw [hq]; exact (hb.cell (p := ⟨b', o' + (k * 2 + 1), none⟩) hbs').trans (hc' (k * 2 + 1) (by omega))
      clear hc hc' h h' hp hq
      have hkn : (k : Int) < n := by omega
      go_wp2_with fail
      go_still_tail 8, (by kernel_rfl)
      have hbd : Below w.heap.size w wr.drew := below_of_draws hb 1
      clear r0 r1 r2 r3 hb
      change wpList _ _ _ _ _ wr.drew
      generalize wr.drew = w2 at *
      go_wp2_with fail
      refine (eqFraction_yes p q _).mono ?_
      rintro e w3 ⟨rfl, hb3⟩
      go_wp2_with fail
      go_roundw
      case rel => exact ⟨k + 1, by omega, by go_num, Below.step hbd hb3⟩
      case measure => simp [intOf]; omega
    · have hjn : Hid (k = n) := by show k = n; omega
      go_wp2_with fail
      go_ret
      exact ⟨rfl, hb⟩

theorem marked_at1 (xs : List Int) (k : Int) (i : Nat) (h : i + 1 < xs.length) : (marked xs k i)[i + 1]? = some (.int .i64 (xs[i + 1]?.getD 0)) := by
  unfold marked
  rw [List.getElem?_append_right (by simp [marks_length])]
  simp [marks_length, h, List.getElem?_drop]

set_option maxHeartbeats 1000000 in
theorem markFS_any (A : Option Addr) (c base : Nat) (L : List (Int × Int)) (k : Int) (w : World) (hk0 : 0 ≤ k) (hkn : k + 2 * L.length ≤ 4611686018427387904) (h : OwnF w base (.slice A L.length c) L) :
    Calls Tryd.prog 15 #[.slice A L.length c, .int .i64 k] w fun e w' => e = .returned (.int .i64 (k + 2 * L.length)) ∧ w'.ownsRow base 30 2 (.slice A L.length c) L.length ((marks k (L.length * 2)).map (Value.int .i64)) ∧ w.grownBy w' (Value.slice A L.length c).ownBlock := by
  have h' : w.ownsRow base 30 2 (.slice A L.length c) L.length (marked (flat L) k 0) := by rw [marked_zero]; exact h
  have hfl := flat_len L
  obtain ⟨n, hn⟩ : ∃ n, n = L.length := ⟨_, rfl⟩
  obtain ⟨zs, hz⟩ : ∃ zs, zs = flat L := ⟨_, rfl⟩
  rw [← hn, ← hz] at hfl h'
  rw [← hn] at hkn ⊢
  have hfl' := Lib.hid hfl
  clear hn hz h hfl
  go_enter Tryd.func15, Tryd.ntmps15
  go_wp2_with fail
  go_loopw [1, 5] (fun q i wr => ∃ j : Nat, j ≤ n ∧ i = .int .i64 j ∧ q = .int .i64 (k + 2 * j) ∧ wr.ownsRow base 30 2 (.slice A n c) n (marked zs k (j * 2)) ∧ w.grownBy wr (Value.slice A n c).ownBlock) (fun _ i _ => n - (intOf i).toNat)
  case atStart => exact ⟨0, Nat.zero_le _, rfl, by simp, by rw [Nat.zero_mul]; exact h', World.grownBy.refl _ _⟩
  case round =>
    obtain ⟨j, hj, rfl, rfl, hown, hg⟩ := hrel
    clear h'
    by_cases hlt : j < n
    · obtain ⟨g, cap, hv⟩ := ownsRow_form hown (by omega)
      simp only [Value.slice.injEq] at hv
      obtain ⟨rfl, _, rfl⟩ := hv
      have hold : wr.cell? ⟨g, j * 2, none⟩ = some (.int .i64 (zs[j * 2]?.getD 0)) := by rw [hown.cellAt (j * 2) (by omega), marked_at zs k (j * 2) (by rw [hfl'.out]; omega)]
      have hfr : wr.frozen? ⟨g, j * 2, none⟩ = false := hown.frozenAt _
      have hst := hown.stored (j * 2) (.int .i64 (k + 2 * j))
      have he1 : (k + 2 * (j : Int)) = k + ((j * 2 : Nat) : Int) := by omega
      have he2 : (k + 2 * (j : Int) + 1) = k + ((j * 2 + 1 : Nat) : Int) := by omega
      have e3 : marked zs k (j * 2 + 1) = (marked zs k (j * 2)).set (j * 2) (.int .i64 (k + 2 * j)) := by rw [he1]; exact (marked_set zs k (j * 2) (by rw [hfl'.out]; omega)).symm
      rw [← e3] at hst
      obtain ⟨ho1, hg1⟩ := hst
      have hold1 : (wr.setCell ⟨g, j * 2, none⟩ (.int .i64 (k + 2 * j))).cell? ⟨g, j * 2 + 1, none⟩ = some (.int .i64 (zs[j * 2 + 1]?.getD 0)) := by rw [ho1.cellAt (j * 2 + 1) (by omega), marked_at zs k (j * 2 + 1) (by rw [hfl'.out]; omega)]
      have hfr1 : (wr.setCell ⟨g, j * 2, none⟩ (.int .i64 (k + 2 * j))).frozen? ⟨g, j * 2 + 1, none⟩ = false := ho1.frozenAt _
      have hst2 := ho1.stored (j * 2 + 1) (.int .i64 (k + 2 * j + 1))
      have e4 : marked zs k ((j + 1) * 2) = (marked zs k (j * 2 + 1)).set (j * 2 + 1) (.int .i64 (k + 2 * j + 1)) := by rw [he2, show (j + 1) * 2 = j * 2 + 1 + 1 by omega]; exact (marked_set zs k (j * 2 + 1) (by rw [hfl'.out]; omega)).symm
      rw [← e4] at hst2
      have hg2 := grown_more (grown_more hg hg1) hst2.2
      have hst3 := Lib.hid hst2.1
      have hg3 := Lib.hid hg2
      clear e3 e4 he1 he2 ho1 hg1 hst2 hg2 hg
      go_wp2_with fail
      go_roundw
      case rel => exact ⟨j + 1, by omega, by go_num, by go_num, hst3.out, hg3.out⟩
      case measure => simp [intOf]; omega
    · have hjn : Hid (j = n) := by show j = n; omega
      go_wp2_with fail
      go_ret
      refine ⟨by rw [hjn.out]; rfl, ?_, hg⟩
      have e : marked zs k (n * 2) = (marks k (n * 2)).map (Value.int .i64) := by rw [← hfl'.out, marked_all]
      rw [← e]
      rw [hjn.out] at hown
      exact hown

theorem rdZ_of {w : World} {base : Nat} {A : Option Addr} {n c : Nat} {zs : List Int} (h : w.ownsRow base 30 2 (.slice A n c) n (zs.map (Value.int .i64))) : RdZ w w.heap.size A n zs := by
  intro hn
  obtain ⟨g, cap, hv⟩ := ownsRow_form h hn
  simp only [Value.slice.injEq] at hv
  obtain ⟨rfl, _, rfl⟩ := hv
  refine ⟨g, 0, rfl, (World.ownsRow.lt h g rfl).2, fun j hj => ?_⟩
  have hl := h.1
  rw [List.length_map] at hl
  rw [Nat.zero_add, h.cellAt j (by omega), List.getElem?_map, List.getElem?_eq_getElem (by omega)]
  simp

set_option maxHeartbeats 1000000 in
theorem heldFS_any (A : Option Addr) (n c B : Nat) (k : Int) (w : World) (hk0 : 0 ≤ k) (hkn : k + 2 * n ≤ 4611686018427387904) (h : RdZ w B A n (marks k (n * 2))) :
    Calls Tryd.prog 16 #[.slice A n c, .int .i64 k] w fun e w' => e = .returned (.int .i64 (k + 2 * n)) ∧ w = w' := by
  go_enter Tryd.func16, Tryd.ntmps16
  go_wp2_with fail
  go_loop [1, 5] (fun q i => ∃ j : Nat, j ≤ n ∧ i = .int .i64 j ∧ q = .int .i64 (k + 2 * j)) (fun _ i => n - (intOf i).toNat)
  case atStart => exact ⟨0, Nat.zero_le _, rfl, by simp⟩
  case round =>
    obtain ⟨j, hj, rfl, rfl⟩ := hrel
    by_cases hlt : j < n
    · obtain ⟨b, o, rfl, hbs, hc⟩ := h (by omega)
      have r0 : w.cell? ⟨b, o + j * 2, none⟩ = some (.int .i64 (k + 2 * j)) := by
        have := hc (j * 2) (by omega)
        rw [marks_at k (n * 2) (j * 2) (by omega)] at this
        rw [this, show k + ((j * 2 : Nat) : Int) = k + 2 * j by omega]
      have r1 : w.cell? ⟨b, o + j * 2 + 1, none⟩ = some (.int .i64 (k + 2 * j + 1)) := by
        have := hc (j * 2 + 1) (by omega)
        rw [marks_at k (n * 2) (j * 2 + 1) (by omega)] at this
        rw [Nat.add_assoc, this, show k + ((j * 2 + 1 : Nat) : Int) = k + 2 * j + 1 by omega]
      clear hc h
      have he : (k + 2 * (j : Int) != k + 2 * j) = false := by simp
      have he1 : (k + 2 * (j : Int) + 1 != k + 2 * j + 1) = false := by simp
      go_wp2_with fail
      go_round
      case rel => exact ⟨j + 1, by omega, by go_num, by go_num⟩
      case measure => simp [intOf]; omega
    · have hjn : Hid (j = n) := by show j = n; omega
      go_wp2_with fail
      go_ret
      exact ⟨by rw [hjn.out]; rfl, rfl⟩
end Go.Proofs.YtjamckcbgcejdaaDoor
