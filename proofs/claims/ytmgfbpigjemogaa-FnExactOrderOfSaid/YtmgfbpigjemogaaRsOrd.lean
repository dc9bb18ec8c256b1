/- Orders: the model's mdOrder, the program's map of logarithms; OrderOf and its law. -/
import Derived.Test.YtmgfbpigjemogaaRsRoot
import Derived.Maps.OwnSet
import Derived.Maps.RangeWalk
import Derived.Maps.Ext
import Derived.Deep.LoopGhost
namespace Go.Proofs.Ytmgfbpigjemogaa
open Go.RowKit Go.Joins Go.Maps

theorem pow_castm (g p k : Nat) : ((g ^ k % p : Nat) : Int) * g % p = ((g ^ (k + 1) % p : Nat) : Int) := by rw [cast_mm, pow_step]

set_option maxHeartbeats 1000000 in
theorem mdOrder_any (a : Int) (p : Nat) (w : World) (ha : IsA a) (hp : Pr p) (hp2 : p ≤ 997) : ∀ g N : Nat, (g : Int) = a % p → g < p → Ord g p N → N ≤ 997 →
    Calls Try.prog 36 #[.int .i64 a, .int .i64 (p : Int)] w fun e w' => e = .returned (.int .i64 (N : Int)) ∧ w = w' := by
  intro g N hg hgp hN hN2
  have c := fun W => mdMod_any a p W ha hp.1 hp2 g hg
  replace c := Lib.hid c
  have hp1 := hp.1
  have hN1 := hN.1
  replace hN := Lib.hid hN
  clear hg hp
  go_enter Try.func36, Try.ntmps36
  go_wp2_with fail
  refine (c.out _).mono ?_
  rintro e w' ⟨rfl, rfl⟩
  go_wp2_with fail
  go_loop [5, 6] (fun n x => ∃ k y : Nat, 1 ≤ k ∧ k ≤ N ∧ y < p ∧ Hid (y = g ^ k % p) ∧ n = .int .i64 k ∧ x = .int .i64 y) (fun n _ => N - (intOf n).toNat)
  case atStart => exact ⟨1, g, by omega, hN1, hgp, by show g = g ^ 1 % p; rw [Nat.pow_one, Nat.mod_eq_of_lt hgp], rfl, rfl⟩
  case round =>
    obtain ⟨k, y, hk1, hk, hy, hyk, rfl, rfl⟩ := hrel
    obtain ⟨s1, s2⟩ := small_mul (o := y) (x := g) (by omega) (by omega)
    by_cases hlt : k < N
    · have hne : ((y : Int) != 1) = true := by
        have := hN.out.2.2 k hk1 hlt
        have h2 := hyk.out
        rw [bne_iff_ne]; omega
      have hz : y * g % p < p := Nat.mod_lt _ (by omega)
      have q1 := Lib.hid (cast_mm y g p)
      have hz2 : Hid (y * g % p = g ^ (k + 1) % p) := by show y * g % p = g ^ (k + 1) % p; rw [hyk.out, pow_step]
      clear hyk hN
      go_wp2_with fail
      refine (c.out _).mono ?_
      rintro e w' ⟨rfl, rfl⟩
      go_wp2_with fail
      go_round
      case rel => exact ⟨k + 1, y * g % p, by omega, by omega, hz, hz2, by go_num, by rw [q1.out]⟩
      case measure => simp [intOf]; omega
    · have hkN : Hid (k = N) := by show k = N; omega
      have hne : ((y : Int) != 1) = false := by
        have := hN.out.2.1
        have h2 := hyk.out
        rw [hkN.out] at h2
        rw [bne_eq_false_iff_eq]; omega
      clear hlt hyk hN
      go_wp2_with fail
      go_ret
      exact ⟨by rw [hkN.out]; rfl, rfl⟩

/-- The map of the first k powers. -/
def LM (g p : Nat) : Nat → DataW Unit
  | 0 => .map []
  | k + 1 => (LM g p k).put (.int .i64 ((g ^ k % p : Nat) : Int)) (.lit (.int .i64 (k : Int)))
theorem LM_tidy (g p : Nat) : ∀ k, Tidy (LM g p k)
  | 0 => tidy_empty
  | k + 1 => (LM_tidy g p k).put (show WideAt.IsKeyLit (.int .i64 _) from trivial) _
theorem key_ne {a b : Nat} (h : a ≠ b) : (Lit.int .i64 (a : Int)) ≠ .int .i64 (b : Int) := fun e => h (by
  injection e with _ e
  omega)
theorem LM_no (g p v : Nat) : ∀ k, (∀ j, j < k → g ^ j % p ≠ v) → Maps.has (LM g p k) (.int .i64 (v : Int)) = false
  | 0, _ => rfl
  | k + 1, h => by
    rw [LM, has_put_other (key_ne (fun e => h k (by omega) e.symm))]
    exact LM_no g p v k (fun j hj => h j (by omega))
theorem LM_yes (g p v : Nat) : ∀ k j, j < k → g ^ j % p = v → Maps.has (LM g p k) (.int .i64 (v : Int)) = true
  | 0, j, hj, _ => by omega
  | k + 1, j, hj, e => by
    rw [LM]
    by_cases h : g ^ k % p = v
    · rw [h]; exact has_put_same (LM_tidy g p k).isMap (show WideAt.IsKeyLit (.int .i64 _) from trivial) _
    · have hjk : j ≠ k := by rintro rfl; exact h e
      rw [has_put_other (key_ne (fun e2 => h e2.symm))]
      exact LM_yes g p v k j (by omega) e
theorem LM_only {g p v k : Nat} (h : Maps.has (LM g p k) (.int .i64 (v : Int)) = true) : ∃ j, j < k ∧ g ^ j % p = v := by
  apply Classical.byContradiction; intro hx
  rw [LM_no g p v k (fun j hj e => hx ⟨j, hj, e⟩)] at h
  cases h
theorem LM_size {g p N : Nat} (hp : Pr p) (hg : g % p ≠ 0) (hN : Ord g p N) : ∀ k, k ≤ N → Maps.size (LM g p k) = k
  | 0, _ => rfl
  | k + 1, h => by
    rw [LM, size_put (LM_tidy g p k), LM_no g p _ k (fun j hj => hN.apart hp hg hj (by omega)), LM_size hp hg hN k (by omega)]
    rfl
theorem LM_at {g p N : Nat} (hp : Pr p) (hg : g % p ≠ 0) (hN : Ord g p N) (z : DataW Unit) (j : Nat) : ∀ k, k ≤ N → j < k → (LM g p k).atKey (.int .i64 ((g ^ j % p : Nat) : Int)) z = .lit (.int .i64 (j : Int))
  | 0, _, hj => by omega
  | k + 1, hk, hj => by
    rw [LM]
    by_cases e : j = k
    · subst e; exact atKey_put_same (LM_tidy g p j).isMap (show WideAt.IsKeyLit (.int .i64 _) from trivial) _ _
    · rw [atKey_put_other (key_ne (hN.apart hp hg (show j < k by omega) (by omega)))]
      exact LM_at hp hg hN z j k (by omega) (by omega)

theorem run_makeMap_hint {P : Program} (t k e : TypeId) (h : P.underlying t = some (.map k e)) (q : IntKind) (n : Int) (w : World) : (Instr.makeMap t (some (.int q n))).run P w = .ok (.map (some w.heap.size)) (w.alloc (.map #[] 0)) := by
  simp [Instr.makeMap, run_underlying h, asInt, asIntOf]
theorem lawI : Keyed Try.prog 3 := int_keyed Try.underlying3
theorem zeroI (w : World) : (zeroValue 3).run Try.prog w = .ok (.int .i64 0) w := by kernel_rfl
theorem zeroB (w : World) : (zeroValue 4).run Try.prog w = .ok (.bool false) w := by kernel_rfl
theorem wf64 {n : Int} (h1 : -9223372036854775808 ≤ n) (h2 : n ≤ 9223372036854775807) : (Lit.int .i64 n).wf = true := WalkArith.wf_i64 ⟨h1, h2⟩

/-- What the program's map of logarithms is. -/
def GivesLog (w : World) (g p N : Nat) (e : Ending) (w' : World) : Prop :=
  e = .returned (.map (some w.heap.size)) ∧ w'.ownsMap Try.prog 3 (plainElem Try.prog 3) w.heap.size N (LM g p N) ∧ Below w.heap.size w w'

theorem keyI {n : Int} (h1 : -9223372036854775808 ≤ n) (h2 : n ≤ 9223372036854775807) : keyOf Try.prog 3 (.int .i64 n) = some (.int .i64 n) := keyOf_int_mk Try.underlying3 (wf64 h1 h2)
theorem elemI {n : Int} (h1 : -9223372036854775808 ≤ n) (h2 : n ≤ 9223372036854775807) : plainElem (H := Unit) Try.prog 3 (.int .i64 n) = some (.lit (.int .i64 n), []) := plainElem_int Try.underlying3 (wf64 h1 h2)

set_option maxHeartbeats 2000000 in
theorem logarithmsTo_any (g p N : Nat) (w : World) (hp : Pr p) (hp2 : p ≤ 997) (hgp : g < p) (hg0 : g ≠ 0) (hN : Ord g p N) (hN2 : N ≤ 997) :
    Calls Try.prog 37 #[.int .i64 (g : Int), .int .i64 (p : Int)] w (GivesLog w g p N) := by
  have hg : g % p ≠ 0 := by rw [Nat.mod_eq_of_lt hgp]; exact hg0
  have hmm := run_makeMap_hint (P := Try.prog) 30 3 3 Try.underlying30 .i64 (p : Int)
  have hsz := LM_size hp hg hN
  replace hsz := Lib.hid hsz
  have hp1 := hp.1
  have hN1 := hN.1
  have h1p : Hid (g ^ 0 % p = 1) := by show g ^ 0 % p = 1; rw [Nat.pow_zero, hp.one]
  replace hN := Lib.hid hN
  have hm0 : World.ownsMap (H := Unit) (w.alloc (.map #[] 0)) Try.prog 3 (plainElem Try.prog 3) w.heap.size 0 (.map []) := World.ownsMap_made _ _ _ _
  have k1 := keyI (n := 1) (by omega) (by omega)
  have v0 := elemI (n := 0) (by omega) (by omega)
  have hmax : (0 : Nat) < maxLen := by unfold maxLen; omega
  clear hp hg
  go_enter Try.func37, Try.ntmps37
  go_wp2_with (first
    | (at_mapUpdate; refine wpList_mapUpdate_own _ rfl _ _ _ 30 rfl 3 3 lawI Try.underlying30 _ w.heap.size 0 (.map []) rfl hm0 hmax _ _ _ rfl rfl k1 _ [] v0 ?_; intro w1 hown1 hgrow1)
    | fail)
  have hb1 : Below w.heap.size w w1 := ((Below.refl _ _).alloc (Nat.le_refl _) _).grown hgrow1 (by simp) (fun j hj => by cases hj; exact Nat.le_refl _)
  have hown : w1.ownsMap Try.prog 3 (plainElem Try.prog 3) w.heap.size 1 (LM g p 1) := by
    show w1.ownsMap Try.prog 3 (plainElem Try.prog 3) w.heap.size 1 ((LM g p 0).put (.int .i64 ((g ^ 0 % p : Nat) : Int)) (.lit (.int .i64 ((0 : Nat) : Int))))
    rw [h1p.out]
    exact hown1
  clear hown1 hgrow1 h1p hm0 k1 v0 hmax
  go_wp2_with fail
  go_loopg [6] (N - 1) (fun r x wr => ∃ k y : Nat, 1 ≤ k ∧ k ≤ N ∧ y < p ∧ r = N - k ∧ Hid (y = g ^ k % p) ∧ x = .int .i64 y ∧ wr.ownsMap Try.prog 3 (plainElem Try.prog 3) w.heap.size k (LM g p k) ∧ Below w.heap.size w wr)
  case atStart => exact ⟨1, g, by omega, hN1, hgp, rfl, by show g = g ^ 1 % p; rw [Nat.pow_one, Nat.mod_eq_of_lt hgp], rfl, hown, hb1⟩
  case round =>
    obtain ⟨k, y, hk1, hk, hy, hgk, hyk, rfl, hm, hb⟩ := hrel
    clear hown hb1
    obtain ⟨s1, s2⟩ := small_mul (o := y) (x := g) (by omega) (by omega)
    by_cases hlt : k < N
    · have hne : ((y : Int) != 1) = true := by
        have := hN.out.2.2 k hk1 hlt
        have h2 := hyk.out
        rw [bne_iff_ne]; omega
      have hz : y * g % p < p := Nat.mod_lt _ (by omega)
      have q1 := Lib.hid (cast_mm y g p)
      have hz2 : Hid (y * g % p = g ^ (k + 1) % p) := by show y * g % p = g ^ (k + 1) % p; rw [hyk.out, pow_step]
      have hD : Hid ((LM g p k).put (.int .i64 (y : Int)) (.lit (.int .i64 (k : Int))) = LM g p (k + 1)) := by show _ = _; rw [hyk.out]; rfl
      have hs : Hid (Maps.size (LM g p k) = k) := hsz.out k hk
      have ky := keyI (n := (y : Int)) (by omega) (by omega)
      have vk := elemI (n := (k : Int)) (by omega) (by omega)
      have hmax : k < maxLen := by unfold maxLen; omega
      clear hyk hN hsz
      obtain ⟨D, hDk⟩ : ∃ D, D = LM g p k := ⟨_, rfl⟩
      rw [← hDk] at hm hD hs
      clear hDk
      go_wp2_with (first
        | (at_len; refine wpList_len_own _ rfl _ 30 rfl 3 3 Try.underlying30 _ w.heap.size k D rfl hm ?_; rw [hs.out])
        | (at_mapUpdate; refine wpList_mapUpdate_own _ rfl _ _ _ 30 rfl 3 3 lawI Try.underlying30 _ w.heap.size k D rfl hm hmax _ _ _ rfl rfl ky _ [] vk ?_; intro w1 hown1 hgrow1)
        | fail)
      go_roundg (N - (k + 1))
      case measure => omega
      case rel =>
        rw [hD.out] at hown1
        exact ⟨k + 1, y * g % p, by omega, by omega, hz, rfl, hz2, by rw [q1.out], hown1, hb.grown hgrow1 hb.size (fun j hj => by cases hj; exact Nat.le_refl _)⟩
    · have hkN : Hid (k = N) := by show k = N; omega
      have hne : ((y : Int) != 1) = false := by
        have := hN.out.2.1
        have h2 := hyk.out
        rw [hkN.out] at h2
        rw [bne_eq_false_iff_eq]; omega
      rw [hkN.out] at hm
      clear hlt hyk hN hsz hgk
      go_wp2_with fail
      go_ret
      exact ⟨rfl, hm, hb⟩

set_option maxHeartbeats 400000 in
theorem specOrderOf_yes (a : Int) (p : Nat) (w : World) (ha : IsA a) (hp : Pr p) (hp2 : p ≤ 997) : ∀ g N : Nat, (g : Int) = a % p → g < p → g ≠ 0 → Ord g p N → N ≤ 997 →
    Calls Try.prog 21 #[.int .i64 a, .int .i64 (p : Int)] w fun e w' => e = .returned (.tuple #[.int .i64 (N : Int), .bool true]) ∧ w = w' := by
  intro g N hg hgp h0 hN hN2
  have c := fun W => mdAsked_yes a p W (IsP.nat.2 ⟨hp, hp2⟩) ha
  have c2 := fun W => mdMod_any a p W ha hp.1 hp2 g hg
  have c3 := fun W => mdOrder_any a p W ha hp hp2 g N hg hgp hN hN2
  replace c := Lib.hid c
  replace c2 := Lib.hid c2
  replace c3 := Lib.hid c3
  have e0 : ((g : Int) == 0) = false := by rw [beq_eq_false_iff_ne]; omega
  clear hg hp hN h0
  go_enter Try.func21, Try.ntmps21
  go_wp2_with fail
  refine (c.out _).mono ?_
  rintro e w' ⟨rfl, rfl⟩
  go_wp2_with fail
  refine (c2.out _).mono ?_
  rintro e w' ⟨rfl, rfl⟩
  go_wp2_with fail
  refine (c3.out _).mono ?_
  rintro e w' ⟨rfl, rfl⟩
  go_wp2_with fail
  go_ret2
  exact ⟨rfl, rfl⟩

set_option maxHeartbeats 400000 in
theorem specOrderOf_zero (a : Int) (p : Nat) (w : World) (ha : IsA a) (hp : Pr p) (hp2 : p ≤ 997) (h0 : a % p = 0) :
    Calls Try.prog 21 #[.int .i64 a, .int .i64 (p : Int)] w fun e w' => e = .returned (.tuple #[.int .i64 0, .bool false]) ∧ w = w' := by
  have c := fun W => mdAsked_yes a p W (IsP.nat.2 ⟨hp, hp2⟩) ha
  have c2 := fun W => mdMod_any a p W ha hp.1 hp2 0 (by rw [h0]; rfl)
  replace c := Lib.hid c
  replace c2 := Lib.hid c2
  clear hp h0
  go_enter Try.func21, Try.ntmps21
  go_wp2_with fail
  refine (c.out _).mono ?_
  rintro e w' ⟨rfl, rfl⟩
  go_wp2_with fail
  refine (c2.out _).mono ?_
  rintro e w' ⟨rfl, rfl⟩
  go_wp2_with fail
  go_ret2
  exact ⟨rfl, rfl⟩

set_option maxHeartbeats 400000 in
theorem specOrderOf_bad (a p : Int) (w : World) (h : ¬ (IsP p ∧ IsA a)) :
    Calls Try.prog 21 #[.int .i64 a, .int .i64 p] w fun e w' => e = .returned (.tuple #[.int .i64 0, .bool false]) ∧ w = w' := by
  have c := fun W => mdAsked_no a p W h
  replace c := Lib.hid c
  clear h
  go_enter Try.func21, Try.ntmps21
  go_wp2_with fail
  refine (c.out _).mono ?_
  rintro e w' ⟨rfl, rfl⟩
  go_wp2_with fail
  go_ret2
  exact ⟨rfl, rfl⟩

set_option maxHeartbeats 400000 in
theorem orderOf_yes (a : Int) (p : Nat) (w : World) (ha : IsA a) (hp : Pr p) (hp2 : p ≤ 997) : ∀ g N : Nat, (g : Int) = a % p → g < p → g ≠ 0 → Ord g p N → N ≤ 997 →
    Calls Try.prog 22 #[.int .i64 a, .int .i64 (p : Int)] w (GivesIntOk w N true) := by
  intro g N hg hgp h0 hN hN2
  have hgn : g % p ≠ 0 := by rw [Nat.mod_eq_of_lt hgp]; exact h0
  have c := fun W => residueOf_yes a p W hp hp2 ha g hg
  have c3 := fun W => logarithmsTo_any g p N W hp hp2 hgp h0 hN hN2
  have hs := LM_size hp hgn hN N (Nat.le_refl _)
  replace c := Lib.hid c
  replace c3 := Lib.hid c3
  replace hs := Lib.hid hs
  have e0 : ((g : Int) == 0) = false := by rw [beq_eq_false_iff_ne]; omega
  clear hg hp hN h0 hgn
  go_enter Try.func22, Try.ntmps22
  go_wp2_with fail
  refine (c.out _).mono ?_
  rintro e w' ⟨rfl, rfl⟩
  go_wp2_with fail
  refine (c3.out _).mono ?_
  rintro e w1 ⟨rfl, hm, hb⟩
  obtain ⟨D, hDk⟩ : ∃ D, D = LM g p N := ⟨_, rfl⟩
  rw [← hDk] at hm hs
  clear hDk
  go_wp2_with (first
    | (at_len; refine wpList_len_own _ rfl _ 30 rfl 3 3 Try.underlying30 _ w.heap.size N D rfl hm ?_; rw [hs.out])
    | fail)
  go_ret2
  exact ⟨rfl, hb⟩

set_option maxHeartbeats 400000 in
theorem orderOf_zero (a : Int) (p : Nat) (w : World) (ha : IsA a) (hp : Pr p) (hp2 : p ≤ 997) (h0 : a % p = 0) :
    Calls Try.prog 22 #[.int .i64 a, .int .i64 (p : Int)] w fun e w' => e = .returned (.tuple #[.int .i64 0, .bool false]) ∧ w = w' := by
  have c := fun W => residueOf_yes a p W hp hp2 ha 0 (by rw [h0]; rfl)
  replace c := Lib.hid c
  clear hp h0
  go_enter Try.func22, Try.ntmps22
  go_wp2_with fail
  refine (c.out _).mono ?_
  rintro e w' ⟨rfl, rfl⟩
  go_wp2_with fail
  go_ret2
  exact ⟨rfl, rfl⟩

set_option maxHeartbeats 400000 in
theorem orderOf_bad (a p : Int) (w : World) (h : ¬ (IsP p ∧ IsA a)) :
    Calls Try.prog 22 #[.int .i64 a, .int .i64 p] w fun e w' => e = .returned (.tuple #[.int .i64 0, .bool false]) ∧ w = w' := by
  have c := fun W => residueOf_no a p W h
  replace c := Lib.hid c
  clear h
  go_enter Try.func22, Try.ntmps22
  go_wp2_with fail
  refine (c.out _).mono ?_
  rintro e w' ⟨rfl, rfl⟩
  go_wp2_with fail
  go_ret2
  exact ⟨rfl, rfl⟩

theorem lawOrderOf_any (z0 z1 : Int) (w : World) (_h0 : -9223372036854775808 ≤ z0 ∧ z0 ≤ 9223372036854775807) (_h1 : -9223372036854775808 ≤ z1 ∧ z1 ≤ 9223372036854775807) :
    Calls Try.prog 8 #[.int .i64 z0, .int .i64 z1] w fun e w' => e = .returned (.bool true) ∧ Below w.heap.size w w' := by
  by_cases h : IsP z1 ∧ IsA z0
  · obtain ⟨⟨p, rfl, hp, hp2⟩, ha⟩ := h
    obtain ⟨g, hg, hgp⟩ := res_nat z0 hp.1
    by_cases h0 : g = 0
    · have hz : z0 % (p : Int) = 0 := by rw [← hg, h0]; rfl
      exact lawOrderOf_core z0 p w 0 false (fun W => givesIntOk_of (specOrderOf_zero z0 p W ha hp hp2 hz)) (fun W => givesIntOk_of (orderOf_zero z0 p W ha hp hp2 hz))
    · obtain ⟨N, hN, hN2⟩ := hp.order (g := g) (by rw [Nat.mod_eq_of_lt hgp]; exact h0)
      exact lawOrderOf_core z0 p w _ true (fun W => givesIntOk_of (specOrderOf_yes z0 p W ha hp hp2 g N hg hgp h0 hN (by omega))) (fun W => orderOf_yes z0 p W ha hp hp2 g N hg hgp h0 hN (by omega))
  · exact lawOrderOf_core z0 z1 w 0 false (fun W => givesIntOk_of (specOrderOf_bad z0 z1 W h)) (fun W => givesIntOk_of (orderOf_bad z0 z1 W h))
end Go.Proofs.Ytmgfbpigjemogaa
