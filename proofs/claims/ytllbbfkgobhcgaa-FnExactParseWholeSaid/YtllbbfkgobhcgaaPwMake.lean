/- The model's makers of wholes. -/
import Derived.Test.YtllbbfkgobhcgaaPwAppend
import Derived.Test.YtllbbfkgobhcgaaPwDigits
import Derived.Test.YtllbbfkgobhcgaaPwGood
namespace Go.Proofs.Ytllbbfkgobhcgaa
open Go.RowKit Go.Joins

theorem Rd.take {w : World} {B : Nat} {A : Option Addr} {n k : Nat} {xs : List Int} (h : Rd w B A n xs) (hk : k ≤ n) : Rd w B A k (xs.take k) := by
  refine ⟨by rw [List.length_take, h.1]; omega, fun hp => ?_⟩
  obtain ⟨b, o, rfl, hb, hc⟩ := h.2 (by omega)
  exact ⟨b, o, rfl, hb, fun j hj => by rw [hc j (by omega), List.getElem?_take, if_pos hj]⟩

/-- A call that hands back the whole of the number z. -/
def GivesNum (w : World) (z : Int) (e : Ending) (w' : World) : Prop := GivesWhole w (decide (z < 0)) (digs z.natAbs) e w'

/-- The number of a sign and limbs. -/
def num (neg : Bool) (xs : List Int) : Int := if neg then -val xs else val xs
theorem num_digs {neg : Bool} {xs : List Int} (h : Rng 0 9999 xs) : digs (num neg xs).natAbs = digs (val xs).toNat := by
  have := val_nonneg h
  unfold num
  cases neg
  · congr 1; simp; omega
  · congr 1; simp; omega
theorem num_neg {neg : Bool} {xs : List Int} (h : Rng 0 9999 xs) : decide (num neg xs < 0) = (neg && decide (0 < (digs (val xs).toNat).length)) := by
  have hv := val_nonneg h
  have hl : 0 < (digs (val xs).toNat).length ↔ 0 < val xs := by
    rcases e : digs (val xs).toNat with _ | ⟨a, l⟩
    · have := digs_eq_nil e
      simp; omega
    · have : (val xs).toNat ≠ 0 := by intro h0; rw [h0, digs_zero] at e; cases e
      simp; omega
  unfold num
  cases neg
  · simp; omega
  · simp [hl]

theorem trimTo_zero (xs : List Int) : trimTo xs 0 = 0 := rfl
theorem trimTo_drop {xs : List Int} {k : Nat} (h : xs[k]?.getD 0 = 0) : trimTo xs (k + 1) = trimTo xs k := by simp [trimTo, h]
theorem trimTo_stop {xs : List Int} {k : Nat} (h : xs[k]?.getD 0 ≠ 0) : trimTo xs (k + 1) = k + 1 := by simp [trimTo, h]

set_option maxHeartbeats 800000 in
theorem bgMake_any (neg : Bool) (A : Option Addr) (n c : Nat) (xs : List Int) (w : World) (hn : n ≤ 4398046511104) (hcap : n ≤ c) (h : Rd w w.heap.size A n xs) (hr : Rng 0 9999 xs) :
    Calls Try.prog 11 #[.bool neg, .slice A n c] w (GivesNum w (num neg xs)) := by
  have h1 := below_alloc1 w (.cells #[.bool false, .slice none 0 0] 24)
  have hx := Box.new w 24 #[.bool false, .slice none 0 0]
  have hr1 := h.alloc (.cells #[.bool false, .slice none 0 0] 24)
  have hl : Hid (xs.length = n) := h.1
  cases neg
  · have fin : ∀ k, k ≤ n → Hid (trimTo xs n = k) → GivesOwn (w.alloc (.cells #[.bool false, .slice none 0 0] 24)) (xs.take k) = GivesOwn (w.alloc (.cells #[.bool false, .slice none 0 0] 24)) (digs (num false xs).natAbs) := fun k hk hfin => by
      rw [num_digs hr, ← trim_digs hr, hl.out, hfin.out]
    have fin2 : ∀ k, k ≤ n → Hid (trimTo xs n = k) → (false && decide (0 < k)) = decide (num false xs < 0) := fun k hk hfin => by
      rw [num_neg hr, ← trim_digs hr, hl.out, hfin.out, List.length_take, hl.out, Nat.min_eq_left hk]
    replace fin := Lib.hid fin
    replace fin2 := Lib.hid fin2
    go_enter Try.func11, Try.ntmps11
    go_wp2_with fail
    go_loop [5] (fun i => ∃ k : Nat, k ≤ n ∧ i = .int .i64 k ∧ Hid (trimTo xs n = trimTo xs k)) (fun i => (intOf i).toNat)
    case atStart => exact ⟨n, Nat.le_refl _, rfl, rfl⟩
    case round =>
      obtain ⟨k, hk, rfl, ht⟩ := hrel
      rcases k with _ | j
      · have hfin : Hid (trimTo xs n = 0) := ht.out.trans (trimTo_zero xs)
        have f1 := Lib.hid (fin.out _ hk hfin)
        have f2 := Lib.hid (fin2.out _ hk hfin)
        replace f1 := f1.out
        go_wp2_with fail
        refine (l1Own_any _ 0 c w.heap.size (xs.take 0) _ (by omega) (hr1.take (by omega))).mono ?_
        rw [f1]
        rintro e w2 ⟨A', c', rfl, hown, hb⟩
        obtain ⟨k0, k1⟩ := (hx.kept hb).two
        have k2 := (hx.kept hb).free 0
        have k3 := (hx.kept hb).free 1
        have h2 := Below.step h1 hb
        have hsz := (hx.kept hb).lt
        clear f1 hb h1 hx
        go_wp2_with fail
        refine bodyPost_ret (v := .agg #[.bool false, .slice A' (digs (num false xs).natAbs).length c']) (by simp [results, Try.results11, go_sem, k0, k1]) rfl ⟨A', c', by rw [← f2.out]; rfl, ?_, ?_⟩
        · exact ((hown.set_below (by simp) _).set_below (by simp) _).le (by simp)
        · exact (h2.setCell (by simp) _).setCell (by simp) _
      · obtain ⟨b, o, rfl, hbs, hc⟩ := h.2 (by omega)
        have hread : (w.alloc (.cells #[.bool false, .slice none 0 0] 24)).cell? ⟨b, o + j, none⟩ = some (.int .i64 (xs[j]?.getD 0)) := (h1.cell (p := ⟨b, o + j, none⟩) hbs).trans (hc j (by omega))
        clear hc
        by_cases h0 : xs[j]?.getD 0 = 0
        · have hst : Hid (trimTo xs n = trimTo xs j) := ht.out.trans (trimTo_drop h0)
          have e0 : (xs[j]?.getD 0 == 0) = true := by simpa using h0
          clear h0 ht
          go_wp2_with fail
          go_round
          case rel => exact ⟨j, by omega, by go_num, hst⟩
          case measure => simp [intOf]
        · have hfin : Hid (trimTo xs n = j + 1) := ht.out.trans (trimTo_stop h0)
          have e0 : (xs[j]?.getD 0 == 0) = false := by simpa using h0
          have f1 := Lib.hid (fin.out _ hk hfin)
          have f2 := Lib.hid (fin2.out _ hk hfin)
          replace f1 := f1.out
          clear h0
          go_wp2_with fail
          refine (l1Own_any _ (j + 1) c w.heap.size (xs.take (j + 1)) _ (by omega) (hr1.take (by omega))).mono ?_
          rw [f1]
          rintro e w2 ⟨A', c', rfl, hown, hb⟩
          obtain ⟨k0, k1⟩ := (hx.kept hb).two
          have k2 := (hx.kept hb).free 0
          have k3 := (hx.kept hb).free 1
          have h2 := Below.step h1 hb
          have hsz := (hx.kept hb).lt
          clear f1 hb h1 hx
          go_wp2_with fail
          refine bodyPost_ret (v := .agg #[.bool false, .slice A' (digs (num false xs).natAbs).length c']) (by simp [results, Try.results11, go_sem, k0, k1]) rfl ⟨A', c', by rw [← f2.out]; rfl, ?_, ?_⟩
          · exact ((hown.set_below (by simp) _).set_below (by simp) _).le (by simp)
          · exact (h2.setCell (by simp) _).setCell (by simp) _
  · have fin : ∀ k, k ≤ n → Hid (trimTo xs n = k) → GivesOwn (w.alloc (.cells #[.bool false, .slice none 0 0] 24)) (xs.take k) = GivesOwn (w.alloc (.cells #[.bool false, .slice none 0 0] 24)) (digs (num true xs).natAbs) := fun k hk hfin => by
      rw [num_digs hr, ← trim_digs hr, hl.out, hfin.out]
    have fin2 : ∀ k, k ≤ n → Hid (trimTo xs n = k) → (true && decide (0 < k)) = decide (num true xs < 0) := fun k hk hfin => by
      rw [num_neg hr, ← trim_digs hr, hl.out, hfin.out, List.length_take, hl.out, Nat.min_eq_left hk]
    replace fin := Lib.hid fin
    replace fin2 := Lib.hid fin2
    go_enter Try.func11, Try.ntmps11
    go_wp2_with fail
    go_loop [5] (fun i => ∃ k : Nat, k ≤ n ∧ i = .int .i64 k ∧ Hid (trimTo xs n = trimTo xs k)) (fun i => (intOf i).toNat)
    case atStart => exact ⟨n, Nat.le_refl _, rfl, rfl⟩
    case round =>
      obtain ⟨k, hk, rfl, ht⟩ := hrel
      rcases k with _ | j
      · have hfin : Hid (trimTo xs n = 0) := ht.out.trans (trimTo_zero xs)
        have f1 := Lib.hid (fin.out _ hk hfin)
        have f2 := Lib.hid (fin2.out _ hk hfin)
        replace f1 := f1.out
        go_wp2_with fail
        refine (l1Own_any _ 0 c w.heap.size (xs.take 0) _ (by omega) (hr1.take (by omega))).mono ?_
        rw [f1]
        rintro e w2 ⟨A', c', rfl, hown, hb⟩
        obtain ⟨k0, k1⟩ := (hx.kept hb).two
        have k2 := (hx.kept hb).free 0
        have k3 := (hx.kept hb).free 1
        have h2 := Below.step h1 hb
        have hsz := (hx.kept hb).lt
        clear f1 hb h1 hx
        go_wp2_with fail
        refine bodyPost_ret (v := .agg #[.bool false, .slice A' (digs (num true xs).natAbs).length c']) (by simp [results, Try.results11, go_sem, k0, k1]) rfl ⟨A', c', by rw [← f2.out]; rfl, ?_, ?_⟩
        · exact ((hown.set_below (by simp) _).set_below (by simp) _).le (by simp)
        · exact (h2.setCell (by simp) _).setCell (by simp) _
      · obtain ⟨b, o, rfl, hbs, hc⟩ := h.2 (by omega)
        have hread : (w.alloc (.cells #[.bool false, .slice none 0 0] 24)).cell? ⟨b, o + j, none⟩ = some (.int .i64 (xs[j]?.getD 0)) := (h1.cell (p := ⟨b, o + j, none⟩) hbs).trans (hc j (by omega))
        clear hc
        by_cases h0 : xs[j]?.getD 0 = 0
        · have hst : Hid (trimTo xs n = trimTo xs j) := ht.out.trans (trimTo_drop h0)
          have e0 : (xs[j]?.getD 0 == 0) = true := by simpa using h0
          clear h0 ht
          go_wp2_with fail
          go_round
          case rel => exact ⟨j, by omega, by go_num, hst⟩
          case measure => simp [intOf]
        · have hfin : Hid (trimTo xs n = j + 1) := ht.out.trans (trimTo_stop h0)
          have e0 : (xs[j]?.getD 0 == 0) = false := by simpa using h0
          have f1 := Lib.hid (fin.out _ hk hfin)
          have f2 := Lib.hid (fin2.out _ hk hfin)
          replace f1 := f1.out
          clear h0
          go_wp2_with fail
          refine (l1Own_any _ (j + 1) c w.heap.size (xs.take (j + 1)) _ (by omega) (hr1.take (by omega))).mono ?_
          rw [f1]
          rintro e w2 ⟨A', c', rfl, hown, hb⟩
          obtain ⟨k0, k1⟩ := (hx.kept hb).two
          have k2 := (hx.kept hb).free 0
          have k3 := (hx.kept hb).free 1
          have h2 := Below.step h1 hb
          have hsz := (hx.kept hb).lt
          clear f1 hb h1 hx
          go_wp2_with fail
          refine bodyPost_ret (v := .agg #[.bool true, .slice A' (digs (num true xs).natAbs).length c']) (by simp [results, Try.results11, go_sem, k0, k1]) rfl ⟨A', c', by rw [← f2.out]; rfl, ?_, ?_⟩
          · exact ((hown.set_below (by simp) _).set_below (by simp) _).le (by simp)
          · exact (h2.setCell (by simp) _).setCell (by simp) _

theorem Own.take {w : World} {base n k c : Nat} {A : Option Addr} {xs : List Int} (h : Own w base (.slice A n c) xs) (hk : k ≤ xs.length) : Own w base (.slice A k c) (xs.take k) := by
  have hl : (xs.take k).length = k := by rw [List.length_take]; omega
  unfold Own
  rw [hl]
  refine ⟨by simp; omega, ?_⟩
  rcases h.2 with ⟨he, h0⟩ | ⟨g, cap, cur, he, hb, hg, hnc, hcm, hs, ht⟩
  · simp only [Value.slice.injEq] at he
    obtain ⟨rfl, _, rfl⟩ := he
    have : k = 0 := by omega
    subst this
    exact .inl ⟨rfl, rfl⟩
  · simp only [Value.slice.injEq] at he
    obtain ⟨rfl, _, rfl⟩ := he
    refine .inr ⟨g, c, cur, rfl, hb, hg, by omega, hcm, hs, ?_⟩
    rw [List.map_take, ← ht, List.take_take]
    congr 1
    omega
theorem Rd.one (w : World) (d : Int) (o : Nat) (ho : o = w.heap.size) : Rd (w.alloc (.cells #[.int .i64 d] 3)) (w.heap.size + 1) (some ⟨o, 0, none⟩) 1 [d] := by
  subst ho
  refine ⟨rfl, fun _ => ⟨w.heap.size, 0, rfl, by omega, fun k hk => ?_⟩⟩
  obtain rfl : k = 0 := by omega
  exact (Box.new w 3 #[.int .i64 d]).cell 0

/-- The limbs of a number that is taken apart: what is left is m. -/
theorem apart_step {out : List Int} {m : Nat} {t : Int} (h : valT out m = t) : valT (out ++ [(m : Int) % 10000]) ((m / 10000 : Nat) : Int) = t := by
  rw [valT_snoc, ← h]
  congr 1
  omega

theorem digs_len {k : Nat} : ∀ {n : Nat}, n < 10000 ^ k → (digs n).length ≤ k := by
  induction k with
  | zero => intro n h; obtain rfl : n = 0 := by simpa using h
            simp [digs_zero]
  | succ k ih =>
    intro n h
    by_cases h0 : n = 0
    · subst h0; simp [digs_zero]
    · rw [digs_step (by omega)]
      have : n / 10000 < 10000 ^ k := by rw [Nat.pow_succ] at h; omega
      have := ih this
      simp; omega

/-- What is handed back for the number z: nothing where it has too many limbs. -/
def resOk (z : Int) : Bool := decide ((digs z.natAbs).length ≤ 400)
def resNeg (z : Int) : Bool := if (digs z.natAbs).length ≤ 400 then decide (z < 0) else false
def resDigs (z : Int) : List Int := if (digs z.natAbs).length ≤ 400 then digs z.natAbs else []
theorem resDigs_len (z : Int) : (resDigs z).length ≤ 1048576 := by
  unfold resDigs
  split
  · omega
  · simp
theorem good_num (z : Int) (h : (digs z.natAbs).length ≤ 400) : Good (decide (z < 0)) (digs z.natAbs) := by
  refine ⟨h, digs_rng _, fun h0 => ?_, fun hp => digs_trimmed _ hp⟩
  have := digs_eq_nil (List.eq_nil_of_length_eq_zero h0)
  simp; omega
def GivesOkAt (w : World) (base : Nat) (neg : Bool) (xs : List Int) (ok : Bool) (e : Ending) (w' : World) : Prop :=
  ∃ A c, e = .returned (.tuple #[.agg #[.bool neg, .slice A xs.length c], .bool ok]) ∧ Own w' base (.slice A xs.length c) xs ∧ Below w.heap.size w w'
def GivesRes (w : World) (base : Nat) (z : Int) (e : Ending) (w' : World) : Prop := GivesOkAt w base (resNeg z) (resDigs z) (resOk z) e w'
theorem GivesRes.ok {w : World} {z : Int} {e : Ending} {w' : World} (h : GivesRes w w.heap.size z e w') : GivesWholeOk w (resNeg z) (resDigs z) (resOk z) e w' := h

set_option maxHeartbeats 800000 in
theorem trimLimbs_any (A : Option Addr) (c base : Nat) (xs : List Int) (w : World) (hn : xs.length ≤ 4398046511104) (h : Own w base (.slice A xs.length c) xs) (hr : Rng 0 9999 xs) :
    Calls Try.prog 22 #[.slice A xs.length c] w fun e w' => e = .returned (.slice A (digs (val xs).toNat).length c) ∧ w = w' := by
  have hcap := h.cap
  have hrd := h.rd
  obtain ⟨n, hl⟩ : ∃ n, n = xs.length := ⟨_, rfl⟩
  have hl' : Hid (n = xs.length) := hl
  have fin : ∀ k, k ≤ n → Hid (trimTo xs n = k) → (digs (val xs).toNat).length = k := fun k hk hfin => by
    have h1 := hfin.out
    rw [hl] at h1
    rw [← trim_digs hr, h1, List.length_take]
    omega
  replace fin := Lib.hid fin
  rw [← hl] at hn hcap hrd ⊢
  clear hl
  go_enter Try.func22, Try.ntmps22
  go_wp2_with fail
  go_loop [3] (fun i => ∃ k : Nat, k ≤ n ∧ i = .int .i64 k ∧ Hid (trimTo xs n = trimTo xs k)) (fun i => (intOf i).toNat)
  case atStart => exact ⟨n, Nat.le_refl _, rfl, rfl⟩
  case round =>
    obtain ⟨k, hk, rfl, ht⟩ := hrel
    rcases k with _ | j
    · have hfin : Hid (trimTo xs n = 0) := ht.out.trans (trimTo_zero xs)
      have f1 := Lib.hid (fin.out _ hk hfin)
      go_wp2_with fail
      go_ret
      exact ⟨by rw [f1.out]; rfl, rfl⟩
    · obtain ⟨b, o, rfl, hbs, hc⟩ := hrd.2 (by omega)
      have hread := hc j (by omega)
      clear hc
      by_cases h0 : xs[j]?.getD 0 = 0
      · have hst : Hid (trimTo xs n = trimTo xs j) := ht.out.trans (trimTo_drop h0)
        have e0 : (xs[j]?.getD 0 == 0) = true := by simpa using h0
        clear h0 ht
        go_wp2_with fail
        go_round
        case rel => exact ⟨j, by omega, by go_num, hst⟩
        case measure => simp [intOf]
      · have hfin : Hid (trimTo xs n = j + 1) := ht.out.trans (trimTo_stop h0)
        have e0 : (xs[j]?.getD 0 == 0) = false := by simpa using h0
        have f1 := Lib.hid (fin.out _ hk hfin)
        clear h0
        go_wp2_with fail
        go_ret
        exact ⟨by rw [f1.out]; rfl, rfl⟩
theorem trim_own {w : World} {A : Option Addr} {c base : Nat} {xs : List Int} (h : Own w base (.slice A xs.length c) xs) (hr : Rng 0 9999 xs) : Own w base (.slice A (digs (val xs).toNat).length c) (digs (val xs).toNat) := by
  have h1 := trim_digs hr
  have h2 := trimTo_le xs xs.length
  have h3 := h.take (k := trimTo xs xs.length) h2
  rw [h1] at h3
  have h4 : trimTo xs xs.length = (digs (val xs).toNat).length := by rw [← h1, List.length_take]; omega
  rw [h4] at h3
  exact h3

set_option maxHeartbeats 800000 in
theorem wholeWith_any (neg : Bool) (A : Option Addr) (c base : Nat) (xs : List Int) (w : World) (hn : xs.length ≤ 4398046511104) (h : Own w base (.slice A xs.length c) xs) (hr : Rng 0 9999 xs) :
    Calls Try.prog 15 #[.bool neg, .slice A xs.length c] w (GivesRes w base (num neg xs)) := by
  have h1 := below_alloc1 w (.cells #[.bool false, .slice none 0 0] 24)
  have hx := (Box.new w 24 #[.bool false, .slice none 0 0]).two
  obtain ⟨k0, k1⟩ := hx
  have ho := trim_own h hr
  have c1 := Lib.hid (trimLimbs_any A c base xs _ hn (h.alloc (.cells #[.bool false, .slice none 0 0] 24)) hr)
  have e1 := num_digs (neg := neg) hr
  have e2 := num_neg (neg := neg) hr
  by_cases hbig : 400 < (digs (val xs).toNat).length
  · have er : GivesRes w base (num neg xs) = GivesOkAt w base false [] false := by
      show GivesOkAt w base (resNeg _) (resDigs _) (resOk _) = _
      unfold resNeg resDigs resOk
      rw [e1, if_neg (by omega), if_neg (by omega), decide_eq_false (p := (digs (val xs).toNat).length ≤ 400) (by omega)]
    rw [er]
    clear h hr ho e1 e2 er
    go_enter Try.func15, Try.ntmps15
    go_wp2_with (go_at_call 22; refine (c1.out).mono ?_; rintro e w' ⟨rfl, rfl⟩)
    refine bodyPost_ret (v := .tuple #[.agg #[.bool false, .slice none 0 0], .bool false]) (by simp [results, Try.results15, go_sem]) rfl ⟨none, 0, rfl, World.ownsRow_nil _ _ _ _, h1⟩
  · have er : GivesRes w base (num neg xs) = GivesOkAt w base (neg && decide (0 < (digs (val xs).toNat).length)) (digs (val xs).toNat) true := by
      show GivesOkAt w base (resNeg _) (resDigs _) (resOk _) = _
      unfold resNeg resDigs resOk
      rw [e1, e2, if_pos (by omega), if_pos (by omega), decide_eq_true (p := (digs (val xs).toNat).length ≤ 400) (by omega)]
    rw [er]
    clear er e1 e2
    generalize digs (val xs).toNat = ds at *
    by_cases h0 : ds.length = 0
    · obtain rfl := List.eq_nil_of_length_eq_zero h0
      clear h hr ho h0 hbig
      go_enter Try.func15, Try.ntmps15
      go_wp2_with (go_at_call 22; refine (c1.out).mono ?_; rintro e w' ⟨rfl, rfl⟩)
      refine bodyPost_ret (v := .tuple #[.agg #[.bool false, .slice none 0 0], .bool true]) (by simp [results, Try.results15, go_sem]) rfl ⟨none, 0, by simp, World.ownsRow_nil _ _ _ _, h1⟩
    · have e0 : ((ds.length : Int) == 0) = false := beq_eq_false_iff_ne.2 (by omega)
      have e3 : (neg && decide (0 < ds.length)) = neg := by
        have : 0 < ds.length := by omega
        simp [this]
      rw [e3]
      have ho' : Hid (Own w base (.slice A ds.length c) ds) := ho
      clear h hr h0 e3 ho
      go_enter Try.func15, Try.ntmps15
      go_wp2_with (go_at_call 22; refine (c1.out).mono ?_; rintro e w' ⟨rfl, rfl⟩)
      refine bodyPost_ret (v := .tuple #[.agg #[.bool neg, .slice A ds.length c], .bool true]) (by simp [results, Try.results15, go_sem]) rfl ⟨A, c, rfl, ?_, ?_⟩
      · exact ho'.out.alloc _
      · exact below_alloc1 _ _
end Go.Proofs.Ytllbbfkgobhcgaa
