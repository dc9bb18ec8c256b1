/- The law's own helpers on rows of points: equal, marked, held (own work). -/
import Derived.Test.YtabcnkobojkdhaaPRow
import Derived.Test.YtabcnkobojkdhaaPtLaw0
import Derived.Test.YtabcnkobojkdhaaMark
import Derived.StillTailTactics
namespace Go.Proofs.Ytabcnkobojkdhaa
open Go.RowKit Go.Joins

/-- The slice reads as so many points, whose numbers are zs. -/
def RdZ3 (w : World) (B : Nat) (A : Option Addr) (n : Nat) (zs : List Int) : Prop := 0 < n → ∃ b o, A = some ⟨b, o, none⟩ ∧ b < B ∧ ∀ j, j < 3 * n → w.cell? ⟨b, o + j, none⟩ = some (.int .i64 (zs[j]?.getD 0))
theorem RdZ3.kept {w w' : World} {A : Option Addr} {n : Nat} {zs : List Int} (h : RdZ3 w w.heap.size A n zs) (hb : Below w.heap.size w w') : RdZ3 w' w'.heap.size A n zs := by
  intro hn
  obtain ⟨b, o, rfl, hB, hc⟩ := h hn
  exact ⟨b, o, rfl, Nat.lt_of_lt_of_le hB hb.size, fun k hk => (hb.cell (p := ⟨b, o + k, none⟩) hB).trans (hc k hk)⟩
theorem RdP.aside {w w' : World} {B lo : Nat} {A : Option Addr} {n : Nat} {L M : List P3} {v : Value} (h : RdP w B A n L) (ho : OwnP w lo v M) (hB : B ≤ lo) (hg : w.grownBy w' v.ownBlock) : RdP w' B A n L := by
  refine ⟨h.1, fun hn => ?_⟩
  obtain ⟨b, o, rfl, hb, hc⟩ := h.2 hn
  refine ⟨b, o, rfl, hb, fun k hk => hg.cell (hc k hk) fun e => ?_⟩
  have := (World.ownsRow.lt ho b e.symm).1
  omega

set_option maxHeartbeats 1000000 in
set_option maxRecDepth 100000 in
theorem eqPS_yes (A B : Option Addr) (n c d : Nat) (L : List P3) (w : World) (hn : n ≤ 1000000) (h : RdP w w.heap.size A n L) (h' : RdP w w.heap.size B n L) :
    Calls Try.prog 17 #[.slice A n c, .slice B n d] w fun e w' => e = .returned (.bool true) ∧ Below w.heap.size w w' := by
  have e0 : ((n : Int) != (n : Int)) = false := by simp
  have hl := Lib.hid h.1
  go_enter Try.func17, Try.ntmps17
  go_wp2_with fail
  go_loopw [5] (fun i wr => ∃ k : Nat, k ≤ n ∧ i = .int .i64 k ∧ Below w.heap.size w wr) (fun i _ => n - (intOf i).toNat)
  case atStart => exact ⟨0, Nat.zero_le _, rfl, Below.refl _ _⟩
  case round =>
    obtain ⟨k, hk, rfl, hb⟩ := hrel
    by_cases hlt : k < n
    · obtain ⟨b, o, rfl, hbs, hc⟩ := h.2 (by omega)
      obtain ⟨b', o', rfl, hbs', hc'⟩ := h'.2 (by omega)
      obtain ⟨p, hp⟩ : ∃ p, p = (pflat L)[k * 3]?.getD 0 := ⟨_, rfl⟩
      obtain ⟨q, hq⟩ : ∃ q, q = (pflat L)[k * 3 + 1]?.getD 0 := ⟨_, rfl⟩
      obtain ⟨s, hs⟩ : ∃ s, s = (pflat L)[k * 3 + 2]?.getD 0 := ⟨_, rfl⟩
      have r0 : wr.cell? ⟨b, o + k * 3, none⟩ = some (.int .i64 p) := by rw [hp]; exact (hb.cell (p := ⟨b, o + k * 3, none⟩) hbs).trans (hc (k * 3) (by omega))
      have r1 : wr.cell? ⟨b, o + k * 3 + 1, none⟩ = some (.int .i64 q) := by rw [hq]; exact (hb.cell (p := ⟨b, o + (k * 3 + 1), none⟩) hbs).trans (hc (k * 3 + 1) (by omega))
      have q0 : wr.cell? ⟨b, o + k * 3 + 2, none⟩ = some (.int .i64 s) := by rw [hs]; exact (hb.cell (p := ⟨b, o + (k * 3 + 2), none⟩) hbs).trans (hc (k * 3 + 2) (by omega))
      have q1 : wr.cell? ⟨b', o' + k * 3 + 2, none⟩ = some (.int .i64 s) := by rw [hs]; exact (hb.cell (p := ⟨b', o' + (k * 3 + 2), none⟩) hbs').trans (hc' (k * 3 + 2) (by omega))
      have r2 : wr.cell? ⟨b', o' + k * 3, none⟩ = some (.int .i64 p) := by rw [hp]; exact (hb.cell (p := ⟨b', o' + k * 3, none⟩) hbs').trans (hc' (k * 3) (by omega))
      have r3 : wr.cell? ⟨b', o' + k * 3 + 1, none⟩ = some (.int .i64 q) := by rw [hq]; exact (hb.cell (p := ⟨b', o' + (k * 3 + 1), none⟩) hbs').trans (hc' (k * 3 + 1) (by omega))
      clear hc hc' h h' hp hq hs
      have hkn : (k : Int) < n := by omega
      go_wp2_with fail
      go_still_tail 8, (by kernel_rfl)
      have hbd : Below w.heap.size w wr.drew := below_of_draws hb 1
      clear r0 r1 r2 r3 q0 q1 hb
      change wpList _ _ _ _ _ wr.drew
      generalize wr.drew = w2 at *
      go_wp2_with fail
      refine (eqPoint_yes p q s _).mono ?_
      rintro e w3 ⟨rfl, hb3⟩
      go_wp2_with fail
      go_roundw
      case rel => exact ⟨k + 1, by omega, by go_num, Below.step hbd hb3⟩
      case measure => simp [intOf]; omega
    · have hjn : Hid (k = n) := by show k = n; omega
      go_wp2_with fail
      go_ret
      exact ⟨rfl, hb⟩

theorem marked_at1 (xs : List Int) (k : Int) (i : Nat) (h : i + 1 < xs.length) : (marked xs k i)[i + 1]? = some (.int .i64 (xs[i + 1]?.getD 0)) := by
  unfold marked
  rw [List.getElem?_append_right (by simp [marks_length])]
  simp [marks_length, h, List.getElem?_drop]

set_option maxHeartbeats 1000000 in
theorem markPS_any (A : Option Addr) (c base : Nat) (L : List P3) (k : Int) (w : World) (hk0 : 0 ≤ k) (hkn : k + 3 * L.length ≤ 4611686018427387904) (h : OwnP w base (.slice A L.length c) L) :
    Calls Try.prog 18 #[.slice A L.length c, .int .i64 k] w fun e w' => e = .returned (.int .i64 (k + 3 * L.length)) ∧ w'.ownsRow base 29 3 (.slice A L.length c) L.length ((marks k (L.length * 3)).map (Value.int .i64)) ∧ w.grownBy w' (Value.slice A L.length c).ownBlock := by
  have h' : w.ownsRow base 29 3 (.slice A L.length c) L.length (marked (pflat L) k 0) := by rw [marked_zero]; exact h
  have hfl := pflat_len L
  obtain ⟨n, hn⟩ : ∃ n, n = L.length := ⟨_, rfl⟩
  obtain ⟨zs, hz⟩ : ∃ zs, zs = pflat L := ⟨_, rfl⟩
  rw [← hn, ← hz] at hfl h'
  rw [← hn] at hkn ⊢
  have hfl' := Lib.hid hfl
  clear hn hz h hfl
  go_enter Try.func18, Try.ntmps18
  go_wp2_with fail
  go_loopw [1, 5] (fun q i wr => ∃ j : Nat, j ≤ n ∧ i = .int .i64 j ∧ q = .int .i64 (k + 3 * j) ∧ wr.ownsRow base 29 3 (.slice A n c) n (marked zs k (j * 3)) ∧ w.grownBy wr (Value.slice A n c).ownBlock) (fun _ i _ => n - (intOf i).toNat)
  case atStart => exact ⟨0, Nat.zero_le _, rfl, by simp, by rw [Nat.zero_mul]; exact h', World.grownBy.refl _ _⟩
  case round =>
    obtain ⟨j, hj, rfl, rfl, hown, hg⟩ := hrel
    clear h'
    by_cases hlt : j < n
    · obtain ⟨g, cap, hv⟩ := ownsRow_form hown (by omega)
      simp only [Value.slice.injEq] at hv
      obtain ⟨rfl, _, rfl⟩ := hv
      have hold : wr.cell? ⟨g, j * 3, none⟩ = some (.int .i64 (zs[j * 3]?.getD 0)) := by rw [hown.cellAt (j * 3) (by omega), marked_at zs k (j * 3) (by rw [hfl'.out]; omega)]
      have hfr : wr.frozen? ⟨g, j * 3, none⟩ = false := hown.frozenAt _
      have hst := hown.stored (j * 3) (.int .i64 (k + 3 * j))
      have he1 : (k + 3 * (j : Int)) = k + ((j * 3 : Nat) : Int) := by omega
      have he2 : (k + 3 * (j : Int) + 1) = k + ((j * 3 + 1 : Nat) : Int) := by omega
      have e3 : marked zs k (j * 3 + 1) = (marked zs k (j * 3)).set (j * 3) (.int .i64 (k + 3 * j)) := by rw [he1]; exact (marked_set zs k (j * 3) (by rw [hfl'.out]; omega)).symm
      rw [← e3] at hst
      obtain ⟨ho1, hg1⟩ := hst
      have hold1 : (wr.setCell ⟨g, j * 3, none⟩ (.int .i64 (k + 3 * j))).cell? ⟨g, j * 3 + 1, none⟩ = some (.int .i64 (zs[j * 3 + 1]?.getD 0)) := by rw [ho1.cellAt (j * 3 + 1) (by omega), marked_at zs k (j * 3 + 1) (by rw [hfl'.out]; omega)]
      have hfr1 : (wr.setCell ⟨g, j * 3, none⟩ (.int .i64 (k + 3 * j))).frozen? ⟨g, j * 3 + 1, none⟩ = false := ho1.frozenAt _
      have hst2 := ho1.stored (j * 3 + 1) (.int .i64 (k + 3 * j + 1))
      have e4 : marked zs k (j * 3 + 2) = (marked zs k (j * 3 + 1)).set (j * 3 + 1) (.int .i64 (k + 3 * j + 1)) := by rw [he2]; exact (marked_set zs k (j * 3 + 1) (by rw [hfl'.out]; omega)).symm
      rw [← e4] at hst2
      obtain ⟨ho2, hg2⟩ := hst2
      have he3 : (k + 3 * (j : Int) + 1 + 1) = k + ((j * 3 + 2 : Nat) : Int) := by omega
      have hold2 : ((wr.setCell ⟨g, j * 3, none⟩ (.int .i64 (k + 3 * j))).setCell ⟨g, j * 3 + 1, none⟩ (.int .i64 (k + 3 * j + 1))).cell? ⟨g, j * 3 + 2, none⟩ = some (.int .i64 (zs[j * 3 + 2]?.getD 0)) := by rw [ho2.cellAt (j * 3 + 2) (by omega), marked_at zs k (j * 3 + 2) (by rw [hfl'.out]; omega)]
      have hfr2 : ((wr.setCell ⟨g, j * 3, none⟩ (.int .i64 (k + 3 * j))).setCell ⟨g, j * 3 + 1, none⟩ (.int .i64 (k + 3 * j + 1))).frozen? ⟨g, j * 3 + 2, none⟩ = false := ho2.frozenAt _
      have hst4 := ho2.stored (j * 3 + 2) (.int .i64 (k + 3 * j + 1 + 1))
      have e5 : marked zs k ((j + 1) * 3) = (marked zs k (j * 3 + 2)).set (j * 3 + 2) (.int .i64 (k + 3 * j + 1 + 1)) := by rw [he3, show (j + 1) * 3 = j * 3 + 2 + 1 by omega]; exact (marked_set zs k (j * 3 + 2) (by rw [hfl'.out]; omega)).symm
      rw [← e5] at hst4
      have hg4 := grown_more (grown_more (grown_more hg hg1) hg2) hst4.2
      have hst3 := Lib.hid hst4.1
      have hg3 := Lib.hid hg4
      clear e3 e4 e5 he1 he2 he3 ho1 ho2 hg1 hst4 hg2 hg4 hg
      go_wp2_with fail
      go_roundw
      case rel => exact ⟨j + 1, by omega, by go_num, by go_num, hst3.out, hg3.out⟩
      case measure => simp [intOf]; omega
    · have hjn : Hid (j = n) := by show j = n; omega
      go_wp2_with fail
      go_ret
      refine ⟨by rw [hjn.out]; rfl, ?_, hg⟩
      have e : marked zs k (n * 3) = (marks k (n * 3)).map (Value.int .i64) := by rw [← hfl'.out, marked_all]
      rw [← e]
      rw [hjn.out] at hown
      exact hown

theorem rdZ3_of {w : World} {base : Nat} {A : Option Addr} {n c : Nat} {zs : List Int} (h : w.ownsRow base 29 3 (.slice A n c) n (zs.map (Value.int .i64))) : RdZ3 w w.heap.size A n zs := by
  intro hn
  obtain ⟨g, cap, hv⟩ := ownsRow_form h hn
  simp only [Value.slice.injEq] at hv
  obtain ⟨rfl, _, rfl⟩ := hv
  refine ⟨g, 0, rfl, (World.ownsRow.lt h g rfl).2, fun j hj => ?_⟩
  have hl := h.1
  rw [List.length_map] at hl
  rw [Nat.zero_add, h.cellAt j (by omega), List.getElem?_map, List.getElem?_eq_getElem (by omega)]
  simp

set_option maxHeartbeats 1000000 in
theorem heldPS_any (A : Option Addr) (n c B : Nat) (k : Int) (w : World) (hk0 : 0 ≤ k) (hkn : k + 3 * n ≤ 4611686018427387904) (h : RdZ3 w B A n (marks k (n * 3))) :
    Calls Try.prog 19 #[.slice A n c, .int .i64 k] w fun e w' => e = .returned (.int .i64 (k + 3 * n)) ∧ w = w' := by
  go_enter Try.func19, Try.ntmps19
  go_wp2_with fail
  go_loop [1, 5] (fun q i => ∃ j : Nat, j ≤ n ∧ i = .int .i64 j ∧ q = .int .i64 (k + 3 * j)) (fun _ i => n - (intOf i).toNat)
  case atStart => exact ⟨0, Nat.zero_le _, rfl, by simp⟩
  case round =>
    obtain ⟨j, hj, rfl, rfl⟩ := hrel
    by_cases hlt : j < n
    · obtain ⟨b, o, rfl, hbs, hc⟩ := h (by omega)
      have r0 : w.cell? ⟨b, o + j * 3, none⟩ = some (.int .i64 (k + 3 * j)) := by
        have := hc (j * 3) (by omega)
        rw [marks_at k (n * 3) (j * 3) (by omega)] at this
        rw [this, show k + ((j * 3 : Nat) : Int) = k + 3 * j by omega]
      have r1 : w.cell? ⟨b, o + j * 3 + 1, none⟩ = some (.int .i64 (k + 3 * j + 1)) := by
        have := hc (j * 3 + 1) (by omega)
        rw [marks_at k (n * 3) (j * 3 + 1) (by omega)] at this
        rw [Nat.add_assoc, this, show k + ((j * 3 + 1 : Nat) : Int) = k + 3 * j + 1 by omega]
      have r2 : w.cell? ⟨b, o + j * 3 + 2, none⟩ = some (.int .i64 (k + 3 * j + 1 + 1)) := by
        have := hc (j * 3 + 2) (by omega)
        rw [marks_at k (n * 3) (j * 3 + 2) (by omega)] at this
        rw [Nat.add_assoc, this, show k + ((j * 3 + 2 : Nat) : Int) = k + 3 * j + 1 + 1 by omega]
      clear hc h
      have he2 : (k + 3 * (j : Int) + 1 + 1 != k + 3 * j + 1 + 1) = false := by simp
      have he : (k + 3 * (j : Int) != k + 3 * j) = false := by simp
      have he1 : (k + 3 * (j : Int) + 1 != k + 3 * j + 1) = false := by simp
      go_wp2_with fail
      go_round
      case rel => exact ⟨j + 1, by omega, by go_num, by go_num⟩
      case measure => simp [intOf]; omega
    · have hjn : Hid (j = n) := by show j = n; omega
      go_wp2_with fail
      go_ret
      exact ⟨by rw [hjn.out]; rfl, rfl⟩
end Go.Proofs.Ytabcnkobojkdhaa
