/- PrimitiveRoot: the model's search, the program's sieve of what is no primitive root; the law. -/
import Derived.Test.YtebopfcabhgidaaRsLog
namespace Go.Proofs.Ytebopfcabhgidaa
open Go.RowKit Go.Joins Go.Maps

theorem pow_lt {g p : Nat} (hp : 2 ≤ p) (k : Nat) : g ^ k % p < p := Nat.mod_lt _ (by omega)

set_option maxHeartbeats 1000000 in
theorem specPrim_yes (p : Nat) (w : World) (hp : Pr p) (hp2 : p ≤ 997) : ∀ R : Nat, 1 ≤ R → R < p → Ord R p (p - 1) → (∀ k, 1 ≤ k → k < R → ¬ Ord k p (p - 1)) →
    Calls Try.prog 34 #[.int .i64 (p : Int)] w fun e w' => e = .returned (.tuple #[.int .i64 (R : Int), .bool true]) ∧ w = w' := by
  intro R hR1 hRp hRo hRn
  have c := fun W => mdPrime_all p W true ⟨fun _ => IsP.nat.2 ⟨hp, hp2⟩, fun _ => rfl⟩
  have c2 := fun (g N : Nat) (hg : g < p) (hN : Ord g p N) (hN2 : N ≤ 997) W => mdOrder_any g p W (nat_IsA (by omega)) hp hp2 g N (nat_mod hg) hg hN hN2
  have hord := fun (g : Nat) (h1 : 1 ≤ g) (h2 : g < p) => hp.order (g := g) (by rw [Nat.mod_eq_of_lt h2]; omega)
  replace c := Lib.hid c
  replace c2 := Lib.hid c2
  replace hord := Lib.hid hord
  replace hRo := Lib.hid hRo
  replace hRn := Lib.hid hRn
  have hp1 := hp.1
  clear hp
  go_enter Try.func34, Try.ntmps34
  go_wp2_with fail
  refine (c.out _).mono ?_
  rintro e w' ⟨rfl, rfl⟩
  go_wp2_with fail
  go_loop [4] (fun v => ∃ g : Nat, 1 ≤ g ∧ g ≤ R ∧ v = .int .i64 g) (fun v => 1000 - (intOf v).toNat)
  case atStart => exact ⟨1, by omega, hR1, rfl⟩
  case round =>
    obtain ⟨g, hg1, hg, rfl⟩ := hrel
    by_cases hlt : g = R
    · have hgR : Hid (g = R) := hlt
      have c3 := fun W => c2.out g (p - 1) (by omega) (by rw [hlt]; exact hRo.out) (by omega) W
      rw [show ((p - 1 : Nat) : Int) = (p : Int) - 1 from by omega] at c3
      replace c3 := Lib.hid c3
      have e1 : ((p : Int) - 1 != (p : Int) - 1) = false := by simp
      clear hlt hRo hRn c2 hord
      go_wp2_with fail
      refine (c3.out _).mono ?_
      rintro e w' ⟨rfl, rfl⟩
      go_wp2_with fail
      go_ret2
      exact ⟨by rw [hgR.out]; rfl, rfl⟩
    · obtain ⟨N, hN, hN2⟩ := hord.out g hg1 (by omega)
      have hne : N ≠ p - 1 := fun e => hRn.out g hg1 (by omega) (by rw [← e]; exact hN)
      have c3 := fun W => c2.out g N (by omega) hN (by omega) W
      replace c3 := Lib.hid c3
      have e1 : ((N : Int) != (p : Int) - 1) = true := by rw [bne_iff_ne]; omega
      clear hRo hRn c2 hord hN hne
      go_wp2_with fail
      refine (c3.out _).mono ?_
      rintro e w' ⟨rfl, rfl⟩
      go_wp2_with fail
      go_round
      case rel => exact ⟨g + 1, by omega, by omega, by go_num⟩
      case measure => simp [intOf]; omega

set_option maxHeartbeats 400000 in
theorem specPrim_no (p : Int) (w : World) (h : ¬ IsP p) :
    Calls Try.prog 34 #[.int .i64 p] w fun e w' => e = .returned (.tuple #[.int .i64 0, .bool false]) ∧ w = w' := by
  have c := fun W => mdPrime_all p W false ⟨fun e => (by cases e), fun e => absurd e h⟩
  replace c := Lib.hid c
  clear h
  go_enter Try.func34, Try.ntmps34
  go_wp2_with fail
  refine (c.out _).mono ?_
  rintro e w' ⟨rfl, rfl⟩
  go_wp2_with fail
  go_ret2
  exact ⟨rfl, rfl⟩

set_option maxHeartbeats 400000 in
theorem prim_no (p : Int) (w : World) (h : ¬ IsP p) :
    Calls Try.prog 35 #[.int .i64 p] w fun e w' => e = .returned (.tuple #[.int .i64 0, .bool false]) ∧ w = w' := by
  have c := fun W => isPrime_all p W false ⟨fun e => (by cases e), fun e => absurd e h⟩
  replace c := Lib.hid c
  clear h
  go_enter Try.func35, Try.ntmps35
  go_wp2_with fail
  refine (c.out _).mono ?_
  rintro e w' ⟨rfl, rfl⟩
  go_wp2_with fail
  go_ret2
  exact ⟨rfl, rfl⟩

/-- A look-up in a map of bools that the call made. -/
theorem wpList_lookup_own_bool {P : Program} (w : World) {ops : Array Oper} {rest : List Oper} {o : Oper} {a : Act} {Q : Exit → Act → World → Prop}
    (hg : o.guard = none) (m x : Operand) (t : TypeId) (hop : o.op = Op.lookup t m x false)
    (k e : TypeId) (K : Keyed P k) (ht : P.underlying t = some (.map k e)) (he : P.underlying e = some .bool) (hz : (zeroValue e).run P w = .ok (.bool false) w) (b n : Nat) (D : DataW Unit)
    (hm : a.eval m = .map (some b)) (hown : w.ownsMap P k (plainElem P e) b n D) (key : Value) (kl : Lit) (hx : a.eval x = key) (hkey : keyOf P k key = some kl) (c : Bool) (hc : D.atKey kl (.lit (.bool false)) = .lit (.bool c))
    (hK : wpList P ops Q rest (a.put o.dst (.bool c)) w) :
    wpList P ops Q (o :: rest) a w := by
  refine wpList_plain hg fun K' hK' => ?_
  obtain ⟨v, ps, hrun, hv⟩ := hown.lookup K ht hz (plainElem_bool he false) hkey
  rw [hc] at hv
  have hvc : v = .bool c := by
    unfold plainElem at hv
    rw [he] at hv
    cases v <;> simp at hv
    rw [hv.1]
  unfold Oper.wp
  simp [execOp, hop, hm, hx, hrun, hvc, Result.andThen]
  exact hK' _ _ hK

/-- A map of bools that has been read: what stands at each key. -/
theorem atKey_bool {P : Program} {k e : TypeId} {w : World} {b n : Nat} {D : DataW Unit} {t : TypeId} (hown : w.ownsMap P k (plainElem P e) b n D) (K : Keyed P k) (ht : P.underlying t = some (.map k e)) (he : P.underlying e = some .bool) (hz : (zeroValue e).run P w = .ok (.bool false) w)
    {key : Value} {kl : Lit} (hkey : keyOf P k key = some kl) : ∃ c : Bool, D.atKey kl (.lit (.bool false)) = .lit (.bool c) := by
  obtain ⟨v, ps, hrun, hv⟩ := hown.lookup K ht hz (plainElem_bool he false) hkey
  unfold plainElem at hv
  rw [he] at hv
  cases v <;> simp at hv
  rename_i c
  exact ⟨c, hv.1.symm⟩

/-- What the program's map of open residues must hold: all primitive roots. -/
def Open (p : Nat) (D : DataW Unit) : Prop := ∀ h, 1 ≤ h → h < p → Ord h p (p - 1) → D.atKey (.int .i64 (h : Int)) (.lit (.bool false)) = .lit (.bool true)

theorem LM_noI (g p : Nat) (v : Int) : ∀ k, (∀ j, j < k → ((g ^ j % p : Nat) : Int) ≠ v) → Maps.has (LM g p k) (.int .i64 v) = false
  | 0, _ => rfl
  | k + 1, h => by
    rw [LM, has_put_other (fun e => by injection e with _ e; exact h k (by omega) e.symm)]
    exact LM_noI g p v k (fun j hj => h j (by omega))
theorem Open.del {p g N : Nat} {D : DataW Unit} (hO : Open p D) (hp : Pr p) (hN : Ord g p N) (hN2 : N ≤ p - 1) (hne : N ≠ p - 1) {x : Int} (hx : Maps.has (LM g p N) (.int .i64 x) = true) : Open p (D.del (.int .i64 x)) := by
  intro h h1 h2 h3
  have hxh : (h : Int) ≠ x := by
    intro e
    have hj : ∃ j, j < N ∧ ((g ^ j % p : Nat) : Int) = x := by
      apply Classical.byContradiction; intro hx2
      rw [LM_noI g p x N (fun j hj e => hx2 ⟨j, hj, e⟩)] at hx
      cases hx
    obtain ⟨j, _, hj⟩ := hj
    have e2 : g ^ j % p = h := by omega
    have := hN.power (j := j) hp (m := p - 1) (by rw [e2]; exact h3)
    omega
  rw [atKey_del_other (fun e => by injection e with _ e; exact hxh e)]
  exact hO h h1 h2 h3

theorem elemB (c : Bool) : plainElem (H := Unit) Try.prog 4 (.bool c) = some (.lit (.bool c), []) := plainElem_bool Try.underlying4 c

set_option maxHeartbeats 4000000 in
set_option maxRecDepth 100000 in
theorem prim_yes (p : Nat) (w : World) (hp : Pr p) (hp2 : p ≤ 997) : ∀ R : Nat, 1 ≤ R → R < p → Ord R p (p - 1) → (∀ k, 1 ≤ k → k < R → ¬ Ord k p (p - 1)) →
    Calls Try.prog 35 #[.int .i64 (p : Int)] w (GivesIntOk w R true) := by
  intro R hR1 hRp hRo hRn
  have c := fun W => isPrime_all p W true ⟨fun _ => IsP.nat.2 ⟨hp, hp2⟩, fun _ => rfl⟩
  have c2 := fun (g N : Nat) (hg : g < p) (hg0 : g ≠ 0) (hN : Ord g p N) (hN2 : N ≤ 997) W => logarithmsTo_any g p N W hp hp2 hg hg0 hN hN2
  have hord := fun (g : Nat) (h1 : 1 ≤ g) (h2 : g < p) => hp.order (g := g) (by rw [Nat.mod_eq_of_lt h2]; omega)
  have hls := fun (g N : Nat) (hg : g % p ≠ 0) (hN : Ord g p N) => LM_size hp hg hN N (Nat.le_refl _)
  have hdel := fun (g N : Nat) (D : DataW Unit) (hO : Open p D) (hN : Ord g p N) (hN2 : N ≤ p - 1) (hne : N ≠ p - 1) (x : Int) (hx : Maps.has (LM g p N) (.int .i64 x) = true) => Open.del hO hp hN hN2 hne hx
  replace c := Lib.hid c
  replace c2 := Lib.hid c2
  replace hord := Lib.hid hord
  replace hls := Lib.hid hls
  replace hdel := Lib.hid hdel
  replace hRo := Lib.hid hRo
  replace hRn := Lib.hid hRn
  have hp1 := hp.1
  have hmm := @run_makeMap Try.prog
  clear hp
  go_enter Try.func35, Try.ntmps35
  go_wp2_with fail
  refine (c.out _).mono ?_
  rintro e w' ⟨rfl, rfl⟩
  have hm0 : World.ownsMap (H := Unit) (w.alloc (.map #[] 0)) Try.prog 3 (plainElem Try.prog 4) w.heap.size 0 (.map []) := World.ownsMap_made _ _ _ _
  have hb0 : Below w.heap.size w (w.alloc (.map #[] 0)) := (Below.refl _ _).alloc (Nat.le_refl _) _
  go_wp2_with fail
  go_loopw [5] (fun v wr => ∃ (k : Nat) (D : DataW Unit), 1 ≤ k ∧ k ≤ p ∧ v = .int .i64 k ∧ wr.ownsMap Try.prog 3 (plainElem Try.prog 4) w.heap.size k D ∧ Hid (∀ h, 1 ≤ h → h < k → D.atKey (.int .i64 (h : Int)) (.lit (.bool false)) = .lit (.bool true)) ∧ Below w.heap.size w wr) (fun v _ => 1000 - (intOf v).toNat)
  case atStart => exact ⟨1, .map [], by omega, by omega, rfl, hm0.mono (by omega), fun h h1 h2 => by omega, hb0⟩
  case round =>
    obtain ⟨k, D, hk1, hk, rfl, hm, hD, hb⟩ := hrel
    clear hm0 hb0
    by_cases hlt : k < p
    · have ky := keyI (n := (k : Int)) (by omega) (by omega)
      have vt := elemB true
      have hmax : k < maxLen := by unfold maxLen; omega
      have hD2 : Hid (∀ h, 1 ≤ h → h < k + 1 → (D.put (.int .i64 (k : Int)) (.lit (.bool true))).atKey (.int .i64 (h : Int)) (.lit (.bool false)) = .lit (.bool true)) := by
        intro h h1 h2
        by_cases e : h = k
        · subst e; exact atKey_put_same hm.isMap (show WideAt.IsKeyLit (.int .i64 _) from trivial) _ _
        · rw [atKey_put_other (key_ne e)]; exact hD.out h h1 (by omega)
      clear hRo hRn hls hdel hord c2 hD
      go_wp2_with (first
        | (at_mapUpdate; refine wpList_mapUpdate_own _ rfl _ _ _ 43 rfl 3 4 lawI Try.underlying43 _ w.heap.size k D rfl hm hmax _ _ _ rfl rfl ky _ [] vt ?_; intro w1 hown1 hgrow1)
        | fail)
      go_roundw
      case rel => exact ⟨k + 1, _, by omega, by omega, by go_num, hown1, hD2, hb.grown hgrow1 hb.size (fun j hj => by cases hj; exact Nat.le_refl _)⟩
      case measure => simp [intOf]; omega
    · have hO : Hid (Open p D) := fun h h1 h2 _ => hD.out h h1 (by omega)
      have hmp : wr.ownsMap Try.prog 3 (plainElem Try.prog 4) w.heap.size 997 D := hm.mono (by omega)
      have d1 : ¬ (k : Int) < p := by omega
      clear hD hm hlt
      go_wp2_with fail
      go_loopw [6] (fun v wz => ∃ (g : Nat) (D : DataW Unit), 1 ≤ g ∧ g ≤ R ∧ v = .int .i64 g ∧ wz.ownsMap Try.prog 3 (plainElem Try.prog 4) w.heap.size 997 D ∧ Hid (Open p D) ∧ Below w.heap.size w wz) (fun v _ => 1000 - (intOf v).toNat)
      case atStart => exact ⟨1, D, by omega, hR1, rfl, hmp, hO, hb⟩
      case round =>
        clear hmp hO hb D
        obtain ⟨g, D, hg1, hg, rfl, hm, hO, hb⟩ := hrel
        have kg := keyI (n := (g : Int)) (by omega) (by omega)
        have e0 : ¬ (p : Int) ≤ g := by omega
        have d2 : (g : Int) < p := by omega
        obtain ⟨N, hN, hN2⟩ := hord.out g hg1 (by omega)
        have c3 := fun W => c2.out g N (by omega) (by omega) hN (by omega) W
        replace c3 := Lib.hid c3
        have hsz : Hid (Maps.size (LM g p N) = N) := hls.out g N (by rw [Nat.mod_eq_of_lt (by omega)]; omega) hN
        by_cases hlt : g = R
        · have hgR : Hid (g = R) := hlt
          have hNp : N = p - 1 := hN.unique (by rw [hlt]; exact hRo.out)
          have hat : D.atKey (.int .i64 (g : Int)) (.lit (.bool false)) = .lit (.bool true) := hO.out g hg1 (by omega) (by rw [← hNp]; exact hN)
          have hc : Calls Try.prog 55 #[.int .i64 (g : Int), .int .i64 (p : Int)] wr (GivesLog wr g p N) := c3.out wr
          have e1 : ((N : Int) == (p : Int) - 1) = true := by rw [beq_iff_eq]; omega
          clear hlt hRo hRn hls hdel hord c2 c3 hN hNp hO
          replace hc := Lib.hid hc
          go_wp2_with (first
            | (at_lookup; refine wpList_lookup_own_bool _ rfl _ _ 43 rfl 3 4 lawI Try.underlying43 Try.underlying4 (zeroB _) w.heap.size 997 D rfl hm _ _ rfl kg true hat ?_)
            | fail)
          refine (hc.out).mono ?_
          rintro e w1 ⟨rfl, hlm, hb1⟩
          obtain ⟨DL, hDk⟩ : ∃ D, D = LM g p N := ⟨_, rfl⟩
          rw [← hDk] at hlm hsz
          clear hDk
          replace hb := Below.step hb hb1
          clear hb1 hm hat
          go_wp2_with (first
            | (at_len; refine wpList_len_own _ rfl _ 41 rfl 3 3 Try.underlying41 _ wr.heap.size N DL rfl hlm ?_; rw [hsz.out])
            | fail)
          go_ret2
          exact ⟨by rw [hgR.out]; rfl, hb⟩
        · have hne : N ≠ p - 1 := fun e => hRn.out g hg1 (by omega) (by rw [← e]; exact hN)
          obtain ⟨cb, hat⟩ := atKey_bool hm lawI Try.underlying43 Try.underlying4 (zeroB _) kg
          have hdl : Hid (∀ (D : DataW Unit), Open p D → ∀ x : Int, Maps.has (LM g p N) (.int .i64 x) = true → Open p (D.del (.int .i64 x))) := fun D hO x hx => hdel.out g N D hO hN hN2 hne x hx
          have e1 : ((N : Int) == (p : Int) - 1) = false := by rw [beq_eq_false_iff_ne]; omega
          clear hRo hRn hls hdel hord c2 hN hne
          cases cb with
          | false =>
            clear c3 hdl hsz
            go_wp2_with (first
              | (at_lookup; refine wpList_lookup_own_bool _ rfl _ _ 43 rfl 3 4 lawI Try.underlying43 Try.underlying4 (zeroB _) w.heap.size 997 D rfl hm _ _ rfl kg false hat ?_)
              | fail)
            go_roundw
            case rel => exact ⟨g + 1, D, by omega, by omega, by go_num, hm, hO, hb⟩
            case measure => simp [intOf]; omega
          | true =>
            have hc : Calls Try.prog 55 #[.int .i64 (g : Int), .int .i64 (p : Int)] wr (GivesLog wr g p N) := c3.out wr
            replace hc := Lib.hid hc
            clear c3
            have hlw : w.heap.size < wr.heap.size := hm.lt
            go_wp2_with (first
              | (at_lookup; refine wpList_lookup_own_bool _ rfl _ _ 43 rfl 3 4 lawI Try.underlying43 Try.underlying4 (zeroB _) w.heap.size 997 D rfl hm _ _ rfl kg true hat ?_)
              | fail)
            refine (hc.out).mono ?_
            rintro e w1 ⟨rfl, hlm, hb1⟩
            obtain ⟨DL, hDk⟩ : ∃ D, D = LM g p N := ⟨_, rfl⟩
            rw [← hDk] at hlm hsz hdl
            clear hDk hat hc
            have hm1 : w1.ownsMap Try.prog 3 (plainElem Try.prog 4) w.heap.size 997 D := hm.kept (row := none) ⟨hb1.os, hb1.tape, hb1.output, hb1.size, fun i hi _ => hb1.block i hi⟩ (by simp)
            replace hb := Below.step hb hb1
            have hl1 := hlm.lt
            clear hm hb1
            go_wp2_with (first
              | (at_len; refine wpList_len_own _ rfl _ 41 rfl 3 3 Try.underlying41 _ wr.heap.size N DL rfl hlm ?_; rw [hsz.out])
              | (at_range; refine wpList_range_own _ rfl _ 41 rfl 3 3 lawI Try.underlying41 _ wr.heap.size N DL rfl hlm ?_; intro w2 hrg2 hg2 hs2)
              | fail)
            go_frame
            have hm2 := hm1.kept hg2 (by simp)
            have hb2 : Below w.heap.size w w2 := hb.grown hg2 hb.size (fun j hj => by cases hj)
            have hl2 : w1.heap.size < w2.heap.size := by omega
            clear hm1 hb hlm hg2
            obtain ⟨B2, hB2⟩ : ∃ B, B = wr.heap.size := ⟨_, rfl⟩
            obtain ⟨B3, hB3⟩ : ∃ B, B = w1.heap.size := ⟨_, rfl⟩
            rw [← hB2] at hrg2 hl1 hlw ⊢
            rw [← hB3] at hrg2 hl1 hl2 ⊢
            clear hB2 hB3 hs2
            go_loopw [8] (fun _ wv => ∃ (left : Lit → Bool) (cnt : Nat) (D : DataW Unit), wv.ranges Try.prog 3 (plainElem Try.prog 3) B2 B3 N DL left cnt ∧ wv.ownsMap Try.prog 3 (plainElem Try.prog 4) w.heap.size 997 D ∧ Hid (Open p D) ∧ Below w.heap.size w wv) (fun _ wv => wv.rangeLeft B2 B3)
            case atStart => exact ⟨_, _, D, hrg2, hm2, hO, hb2⟩
            case round =>
              clear hrg2 hm2 hO hb2 D
              obtain ⟨left, cnt, D, hrg, hm, hO, hb⟩ := hrel
              go_wp2_with (first
                | (at_next; refine wpList_next_ranges_ii _ rfl _ rfl 3 3 .i64 .i64 lawI Try.underlying3 Try.underlying3 B2 B3 N _ _ _ rfl hrg ?_ ?_)
                | fail)
              · intro _ _
                go_wp2_with fail
                go_roundw
                case rel => exact ⟨g + 1, D, by omega, by omega, by go_num, hm, hO, hb⟩
                case measure => simp [intOf]; omega
              · intro x c w4 cnt1 hwx hwc hlx hatx hrg1 hlt1 hg1' hs1 hen
                have hx : Maps.has DL (.int .i64 x) = true := has_true_of_atKey hatx
                have hO2 : Hid (Open p (D.del (.int .i64 x))) := hdl.out D hO.out x hx
                have hm1 := hm.kept hg1' (fun e => by have := Option.some.inj e; omega)
                have hb1 : Below w.heap.size w w4 := hb.grown hg1' hb.size (fun j hj => by cases hj; omega)
                have kx : keyOf Try.prog 3 (.int .i64 x) = some (.int .i64 x) := keyOf_int_mk Try.underlying3 hwx
                clear hO hdl hx
                go_wp2_with (first
                  | (at_delete; refine wpList_delete_own _ rfl _ _ 43 3 rfl 4 lawI Try.underlying43 _ w.heap.size 997 D rfl hm1 _ _ rfl kx ?_; intro w5 hm5 hturn; go_frame)
                  | fail)
                have hg5 := hturn.grown
                have hrg5 := hrg1.kept hg5 (fun e => by have := Option.some.inj e; omega) (fun e => by have := Option.some.inj e; omega)
                go_roundw
                case rel => exact ⟨_, cnt1, _, hrg5, hm5, hO2, hb1.grown hg5 hb1.size (fun j hj => by cases hj; omega)⟩
                case measure => rw [hrg5.left_eq, hrg.left_eq]; exact hlt1

theorem lawPrimitiveRoot_any (z0 : Int) (w : World) (_h0 : -9223372036854775808 ≤ z0 ∧ z0 ≤ 9223372036854775807) :
    Calls Try.prog 11 #[.int .i64 z0] w fun e w' => e = .returned (.bool true) ∧ Below w.heap.size w w' := by
  by_cases h : IsP z0
  · obtain ⟨p, rfl, hp, hp2⟩ := h
    obtain ⟨R, h1, h2, h3, h4⟩ := hp.least_root hp2
    exact lawPrimitiveRoot_core p w _ true (fun W => givesIntOk_of (specPrim_yes p W hp hp2 R h1 h2 h3 h4)) (fun W => prim_yes p W hp hp2 R h1 h2 h3 h4)
  · exact lawPrimitiveRoot_core z0 w 0 false (fun W => givesIntOk_of (specPrim_no z0 W h)) (fun W => givesIntOk_of (prim_no z0 W h))
end Go.Proofs.Ytebopfcabhgidaa
