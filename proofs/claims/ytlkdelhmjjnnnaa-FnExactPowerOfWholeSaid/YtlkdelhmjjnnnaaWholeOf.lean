/- WholeOf: the model's and the program's. -/
import Derived.Test.YtlkdelhmjjnnnaaMake
import Derived.Test.YtlkdelhmjjnnnaaLawWholeOf
namespace Go.Proofs.Ytlkdelhmjjnnnaa
open Go.RowKit Go.Joins

set_option maxHeartbeats 400000 in
theorem l1Abs_any (z : Int) (w : World) (h0 : -4611686018427387904 ≤ z) (h1 : z ≤ 4611686018427387904) :
    Calls Try.prog 72 #[.int .i64 z] w fun e w' => e = .returned (.int .i64 (z.natAbs : Int)) ∧ w = w' := by
  have e : max z (-z) = (z.natAbs : Int) := by omega
  replace e := Lib.hid e
  go_enter Try.func72, Try.ntmps72
  go_wp2_with fail
  refine (l1Most_any _ _ _).mono ?_
  rw [e.out]
  rintro e w' ⟨rfl, rfl⟩
  go_wp2_with fail
  go_ret
  exact ⟨rfl, rfl⟩

theorem digs_neg (z : Int) (out : List Int) (hr : Rng 0 9999 out) (h : val out = (z.natAbs : Int)) : num (decide (z < 0)) out = z := by
  have := val_nonneg hr
  unfold num
  by_cases hz : z < 0
  · rw [if_pos (by simpa using hz)]; omega
  · rw [if_neg (by simpa using hz)]; omega

set_option maxHeartbeats 1000000 in
theorem bgOf_any (z : Int) (w : World) (h0 : -4611686018427387904 ≤ z) (h1 : z ≤ 4611686018427387904) :
    Calls Try.prog 46 #[.int .i64 z] w (GivesNum w z) := by
  have hb0 := below_alloc1 w (.cells #[.bool false, .slice none 0 0] 27)
  have hx0 := Box.new w 27 #[.bool false, .slice none 0 0]
  obtain ⟨m0, hm0⟩ : ∃ m, m = z.natAbs := ⟨_, rfl⟩
  have hm0' : Hid (m0 = z.natAbs) := hm0
  have c1 := Lib.hid (l1Abs_any z (w.alloc (.cells #[.bool false, .slice none 0 0] 27)) h0 h1)
  rw [← hm0] at c1
  have hmb : m0 ≤ 4611686018427387904 := by omega
  clear hm0
  go_enter Try.func46, Try.ntmps46
  go_wp2_with fail
  refine (c1.out).mono ?_
  rintro e w' ⟨rfl, rfl⟩
  go_wp2_with fail
  go_loopw [3, 4] (fun v q wr => ∃ (m : Nat) (A : Option Addr) (c L : Nat) (out : List Int), m ≤ m0 ∧ q = .int .i64 m ∧ v = .slice A L c ∧ Hid (L = out.length) ∧ Own wr (w.heap.size + 1) (.slice A L c) out ∧ out.length ≤ 64 ∧ Hid (valT out m = m0 ∧ Rng 0 9999 out ∧ (m ≠ 0 → m * 10000 ^ out.length ≤ m0)) ∧ Below w.heap.size w wr ∧ Box wr w.heap.size 27 #[.bool false, .slice none 0 0]) (fun _ q _ => (intOf q).toNat)
  case atStart => exact ⟨m0, none, 0, 0, [], Nat.le_refl _, rfl, rfl, rfl, World.ownsRow_nil _ _ _ _, by simp, ⟨by simp [valT], Rng.nil _ _, fun _ => by simp⟩, hb0, hx0⟩
  case round =>
    obtain ⟨m, A, c, L, out, hm, rfl, rfl, hL, hown, hlen, hval, hb, hx⟩ := hrel
    obtain rfl : L = out.length := hL.out
    clear hb0 hx0 c1
    by_cases hpos : 0 < m
    · have hd : Rd (wr.alloc (.cells #[.int .i64 ((m : Int) % 10000)] 3)) (wr.heap.size + 1) (some ⟨wr.heap.size, 0, none⟩) 1 [(m : Int) % 10000] := by
        exact Rd.one wr ((m : Int) % 10000) wr.heap.size rfl
      have hlen2 : out.length + 1 ≤ 64 := by
        have h3 := hval.out.2.2 (by omega)
        have h4 : 10000 ^ out.length ≤ m * 10000 ^ out.length := Nat.le_mul_of_pos_left _ hpos
        have h5 : ¬ 64 ≤ out.length := fun h6 => by
          have h7 : (10000 : Nat) ^ 64 ≤ 10000 ^ out.length := Nat.pow_le_pow_right (by omega) h6
          have h8 : (4611686018427387904 : Nat) < 10000 ^ 64 := by decide
          omega
        omega
      have hown1 := hown.alloc (.cells #[.int .i64 ((m : Int) % 10000)] 3)
      have hxlt := hx.lt
      go_wp2_with (at_builtin; refine wpList_append_rd _ rfl _ _ 22 rfl Try.underlying22 Try.info3 (w.heap.size + 1) _ out rfl hown1 _ _ _ _ [(m : Int) % 10000] rfl hd ?c1 ?c2 ?_)
      case c1 => omega
      case c2 => omega
      intro A' c' w2 hown2 hg
      have hrow : ∀ k, (Value.slice A out.length c).ownBlock = some k → w.heap.size + 1 ≤ k := fun k hk => (World.ownsRow.lt hown1 k hk).1
      have hb2 : Below w.heap.size w w2 := (Below.step hb (below_alloc1 wr (.cells #[.int .i64 ((m : Int) % 10000)] 3))).grown hg (by simp; omega) (fun k hk => by have := hrow k hk; omega)
      have hx2 : Box w2 w.heap.size 27 #[.bool false, .slice none 0 0] := (hx.kept (below_alloc1 wr (.cells #[.int .i64 ((m : Int) % 10000)] 3))).grown hg (fun e => by have := hrow w.heap.size e.symm; omega)
      have hval2 : Hid (valT (out ++ [(m : Int) % 10000]) ((m / 10000 : Nat) : Int) = m0 ∧ Rng 0 9999 (out ++ [(m : Int) % 10000]) ∧ (m / 10000 ≠ 0 → m / 10000 * 10000 ^ (out ++ [(m : Int) % 10000]).length ≤ m0)) := by
        obtain ⟨v1, v2, v3⟩ := hval.out
        refine ⟨apart_step v1, v2.snoc (by omega), fun _ => ?_⟩
        have h3 := v3 (by omega)
        rw [List.length_append, List.length_singleton, Nat.pow_succ]
        calc m / 10000 * (10000 ^ out.length * 10000) = m / 10000 * 10000 * 10000 ^ out.length := by rw [Nat.mul_comm (10000 ^ out.length), Nat.mul_assoc]
          _ ≤ m * 10000 ^ out.length := Nat.mul_le_mul_right _ (Nat.div_mul_le_self m 10000)
          _ ≤ m0 := h3
      have hlen3 : (out ++ [(m : Int) % 10000]).length ≤ 64 := by rw [List.length_append, List.length_singleton]; exact hlen2
      have hown3 : Hid (Own w2 (w.heap.size + 1) (.slice A' (out.length + 1) c') (out ++ [(m : Int) % 10000])) := hown2
      have hL3 : Hid (out.length + 1 = (out ++ [(m : Int) % 10000]).length) := by simp [Hid]
      clear hown2 hg hval hown hown1 hd hx hb hrow
      generalize out ++ [(m : Int) % 10000] = out2 at *
      go_wp2
      go_roundw
      case rel => exact ⟨m / 10000, A', c', out.length + 1, out2, by omega, by simp, rfl, hL3, hown3.out, hlen3, hval2, hb2, hx2⟩
      case measure => simp [intOf]; omega
    · have hm0 : m = 0 := by omega
      subst hm0
      obtain ⟨v1, v2, _⟩ := hval.out
      have ev : val out = (z.natAbs : Int) := by rw [← hm0'.out]; exact v1
      have en : num (decide (z < 0)) out = z := digs_neg z out v2 ev
      have cm := bgMake_any (decide (z < 0)) A out.length c out wr (by omega) hown.cap hown.rd v2
      rw [en] at cm
      replace cm := Lib.hid cm
      clear ev en v1 v2 hval hpos
      go_wp2_with fail
      refine (cm.out).mono ?_
      rintro e w2 ⟨A', c', rfl, hown2, hb2⟩
      have hx2 := hx.kept hb2
      have hsz := hx.lt
      have hsz2 := hx2.lt
      obtain ⟨k0, k1⟩ := hx2.two
      have k2 := hx2.free 0
      have k3 := hx2.free 1
      have hb3 := Below.step hb hb2
      clear hb hb2 hx hx2 hown
      go_wp2_with fail
      refine bodyPost_ret (v := .agg #[.bool (decide (z < 0)), .slice A' (digs z.natAbs).length c']) (by simp [results, Try.results46, go_sem, k0, k1]) rfl ⟨A', c', rfl, ?_, ?_⟩
      · exact ((hown2.set_below (by simpa using hsz) _).set_below (by simpa using hsz) _).le (by omega)
      · exact (hb3.setCell (by simp) _).setCell (by simp) _

theorem res_small {z : Int} (h0 : -1000000000000000 ≤ z) (h1 : z ≤ 1000000000000000) : (digs z.natAbs).length ≤ 400 := by
  have h2 : (1000000000000000 : Nat) < 10000 ^ 4 := by decide
  have := digs_len (k := 4) (n := z.natAbs) (by omega)
  omega

set_option maxHeartbeats 1000000 in
theorem wholeOfS_yes (z : Int) (w : World) (h0 : -1000000000000000 ≤ z) (h1 : z ≤ 1000000000000000) :
    Calls Try.prog 19 #[.int .i64 z] w (GivesWholeOk w (decide (z < 0)) (digs z.natAbs) true) := by
  have hb0 := below_alloc1 w (.cells #[.bool false, .slice none 0 0] 27)
  have hx0 := Box.new w 27 #[.bool false, .slice none 0 0]
  go_enter Try.func19, Try.ntmps19
  go_wp2_with fail
  refine (l1In_yes z _ _ _ h0 h1).mono ?_
  rintro e w' ⟨rfl, rfl⟩
  go_wp2_with fail
  refine (bgOf_any z _ (by omega) (by omega)).mono ?_
  rintro e w2 ⟨A', c', rfl, hown2, hb2⟩
  have hx2 := hx0.kept hb2
  have hsz2 := hx2.lt
  obtain ⟨k0, k1⟩ := hx2.two
  have k2 := hx2.free 0
  have k3 := hx2.free 1
  have hb3 := Below.step hb0 hb2
  clear hb0 hb2 hx0 hx2
  go_wp2_with fail
  refine bodyPost_ret (v := .tuple #[.agg #[.bool (decide (z < 0)), .slice A' (digs z.natAbs).length c'], .bool true]) (by simp [results, Try.results19, go_sem, k0, k1]) rfl ⟨A', c', rfl, ?_, ?_⟩
  · exact ((hown2.set_below (by simp) _).set_below (by simp) _).le (by simp)
  · exact (hb3.setCell (by simp) _).setCell (by simp) _

set_option maxHeartbeats 1000000 in
theorem wholeOfS_no (z : Int) (w : World) (h : z < -1000000000000000 ∨ 1000000000000000 < z) :
    Calls Try.prog 19 #[.int .i64 z] w (GivesWholeOk w false [] false) := by
  have hb0 := below_alloc1 w (.cells #[.bool false, .slice none 0 0] 27)
  go_enter Try.func19, Try.ntmps19
  go_wp2_with fail
  refine (l1In_no z _ _ _ h).mono ?_
  rintro e w' ⟨rfl, rfl⟩
  go_wp2_with fail
  refine bodyPost_ret (v := .tuple #[.agg #[.bool false, .slice none 0 0], .bool false]) (by simp [results, Try.results19, go_sem]) rfl ⟨none, 0, rfl, World.ownsRow_nil _ _ _ _, hb0⟩

set_option maxHeartbeats 1000000 in
theorem wholeOfI_no (z : Int) (w : World) (h : z < -1000000000000000 ∨ 1000000000000000 < z) :
    Calls Try.prog 20 #[.int .i64 z] w (GivesWholeOk w false [] false) := by
  have hb0 := below_alloc1 w (.cells #[.bool false, .slice none 0 0] 27)
  by_cases h1 : z < -1000000000000000
  · clear h
    go_enter Try.func20, Try.ntmps20
    go_wp2_with fail
    refine bodyPost_ret (v := .tuple #[.agg #[.bool false, .slice none 0 0], .bool false]) (by simp [results, Try.results20, go_sem]) rfl ⟨none, 0, rfl, World.ownsRow_nil _ _ _ _, hb0⟩
  · have h2 : 1000000000000000 < z := by omega
    clear h
    go_enter Try.func20, Try.ntmps20
    go_wp2_with fail
    refine bodyPost_ret (v := .tuple #[.agg #[.bool false, .slice none 0 0], .bool false]) (by simp [results, Try.results20, go_sem]) rfl ⟨none, 0, rfl, World.ownsRow_nil _ _ _ _, hb0⟩

set_option maxHeartbeats 1000000 in
theorem wholeOfI_yes (z : Int) (w : World) (h0 : -1000000000000000 ≤ z) (h1 : z ≤ 1000000000000000) :
    Calls Try.prog 20 #[.int .i64 z] w (GivesWholeOk w (decide (z < 0)) (digs z.natAbs) true) := by
  have hb0 := below_alloc1 w (.cells #[.bool false, .slice none 0 0] 27)
  have hx0 := Box.new w 27 #[.bool false, .slice none 0 0]
  obtain ⟨m0, hm0⟩ : ∃ m, m = z.natAbs := ⟨_, rfl⟩
  have hm0' : Hid (m0 = z.natAbs) := hm0
  have hmb : m0 ≤ 4611686018427387904 := by omega
  by_cases hz : z < 0
  · have hq : Hid (-z = (m0 : Int)) := by show -z = (m0 : Int); omega
    clear hm0
    have hd : decide (z < 0) = true := decide_eq_true hz
    rw [hd]
    go_enter Try.func20, Try.ntmps20
    go_wp2_with fail
    go_loopw [4, 5] (fun v q wr => ∃ (m : Nat) (A : Option Addr) (c L : Nat) (out : List Int), m ≤ m0 ∧ q = .int .i64 m ∧ v = .slice A L c ∧ Hid (L = out.length) ∧ Own wr (w.heap.size + 1) (.slice A L c) out ∧ out.length ≤ 64 ∧ Hid (valT out m = m0 ∧ Rng 0 9999 out ∧ (m ≠ 0 → m * 10000 ^ out.length ≤ m0)) ∧ Below w.heap.size w wr ∧ Box wr w.heap.size 27 #[.bool false, .slice none 0 0]) (fun _ q _ => (intOf q).toNat)
    case atStart => exact ⟨m0, none, 0, 0, [], Nat.le_refl _, congrArg (Value.int .i64) hq.out, rfl, rfl, World.ownsRow_nil _ _ _ _, by simp, ⟨by simp [valT], Rng.nil _ _, fun _ => by simp⟩, hb0, hx0⟩
    case round =>
      obtain ⟨m, A, c, L, out, hm, rfl, rfl, hL, hown, hlen, hval, hb, hx⟩ := hrel
      obtain rfl : L = out.length := hL.out
      clear hb0 hx0
      by_cases hpos : 0 < m
      · have hd : Rd (wr.alloc (.cells #[.int .i64 ((m : Int) % 10000)] 3)) (wr.heap.size + 1) (some ⟨wr.heap.size, 0, none⟩) 1 [(m : Int) % 10000] := by
          exact Rd.one wr ((m : Int) % 10000) wr.heap.size rfl
        have hlen2 : out.length + 1 ≤ 64 := by
          have h3 := hval.out.2.2 (by omega)
          have h4 : 10000 ^ out.length ≤ m * 10000 ^ out.length := Nat.le_mul_of_pos_left _ hpos
          have h5 : ¬ 64 ≤ out.length := fun h6 => by
            have h7 : (10000 : Nat) ^ 64 ≤ 10000 ^ out.length := Nat.pow_le_pow_right (by omega) h6
            have h8 : (4611686018427387904 : Nat) < 10000 ^ 64 := by decide
            omega
          omega
        have hown1 := hown.alloc (.cells #[.int .i64 ((m : Int) % 10000)] 3)
        have hxlt := hx.lt
        go_wp2_with (at_builtin; refine wpList_append_rd _ rfl _ _ 22 rfl Try.underlying22 Try.info3 (w.heap.size + 1) _ out rfl hown1 _ _ _ _ [(m : Int) % 10000] rfl hd ?c1 ?c2 ?_)
        case c1 => omega
        case c2 => omega
        intro A' c' w2 hown2 hg
        have hrow : ∀ k, (Value.slice A out.length c).ownBlock = some k → w.heap.size + 1 ≤ k := fun k hk => (World.ownsRow.lt hown1 k hk).1
        have hb2 : Below w.heap.size w w2 := (Below.step hb (below_alloc1 wr (.cells #[.int .i64 ((m : Int) % 10000)] 3))).grown hg (by simp; omega) (fun k hk => by have := hrow k hk; omega)
        have hx2 : Box w2 w.heap.size 27 #[.bool false, .slice none 0 0] := (hx.kept (below_alloc1 wr (.cells #[.int .i64 ((m : Int) % 10000)] 3))).grown hg (fun e => by have := hrow w.heap.size e.symm; omega)
        have hval2 : Hid (valT (out ++ [(m : Int) % 10000]) ((m / 10000 : Nat) : Int) = m0 ∧ Rng 0 9999 (out ++ [(m : Int) % 10000]) ∧ (m / 10000 ≠ 0 → m / 10000 * 10000 ^ (out ++ [(m : Int) % 10000]).length ≤ m0)) := by
          obtain ⟨v1, v2, v3⟩ := hval.out
          refine ⟨apart_step v1, v2.snoc (by omega), fun _ => ?_⟩
          have h3 := v3 (by omega)
          rw [List.length_append, List.length_singleton, Nat.pow_succ]
          calc m / 10000 * (10000 ^ out.length * 10000) = m / 10000 * 10000 * 10000 ^ out.length := by rw [Nat.mul_comm (10000 ^ out.length), Nat.mul_assoc]
            _ ≤ m * 10000 ^ out.length := Nat.mul_le_mul_right _ (Nat.div_mul_le_self m 10000)
            _ ≤ m0 := h3
        have hlen3 : (out ++ [(m : Int) % 10000]).length ≤ 64 := by rw [List.length_append, List.length_singleton]; exact hlen2
        have hown3 : Hid (Own w2 (w.heap.size + 1) (.slice A' (out.length + 1) c') (out ++ [(m : Int) % 10000])) := hown2
        have hL3 : Hid (out.length + 1 = (out ++ [(m : Int) % 10000]).length) := by simp [Hid]
        clear hown2 hg hval hown hown1 hd hx hb hrow
        generalize out ++ [(m : Int) % 10000] = out2 at *
        go_wp2
        go_roundw
        case rel => exact ⟨m / 10000, A', c', out.length + 1, out2, by omega, by simp, rfl, hL3, hown3.out, hlen3, hval2, hb2, hx2⟩
        case measure => simp [intOf]; omega
      · have hm0 : m = 0 := by omega
        subst hm0
        obtain ⟨v1, v2, _⟩ := hval.out
        have ev : val out = (z.natAbs : Int) := by rw [← hm0'.out]; exact v1
        have en : num (decide (z < 0)) out = z := digs_neg z out v2 ev
        have cm := wholeWith_any (decide (z < 0)) A c (w.heap.size + 1) out wr (by omega) hown v2
        have hsm := res_small h0 h1
        rw [en] at cm
        have er : GivesRes wr (w.heap.size + 1) z = GivesOkAt wr (w.heap.size + 1) (decide (z < 0)) (digs z.natAbs) true := by
          show GivesOkAt wr _ (resNeg z) (resDigs z) (resOk z) = _
          unfold resNeg resDigs resOk
          rw [if_pos hsm, if_pos hsm, decide_eq_true hsm]
        rw [er, hd] at cm
        replace cm := Lib.hid cm
        clear ev en v1 v2 hval hpos er hsm
        go_wp2_with fail
        refine (cm.out).mono ?_
        rintro e w2 ⟨A', c', rfl, hown2, hb2⟩
        have hx2 := hx.kept hb2
        have hsz2 := hx2.lt
        obtain ⟨k0, k1⟩ := hx2.two
        have k2 := hx2.free 0
        have k3 := hx2.free 1
        have hb3 := Below.step hb hb2
        clear hb hb2 hx hx2 hown
        go_wp2_with fail
        refine bodyPost_ret (v := .tuple #[.agg #[.bool true, .slice A' (digs z.natAbs).length c'], .bool true]) (by simp [results, Try.results20, go_sem, k0, k1]) rfl ⟨A', c', rfl, ?_, ?_⟩
        · exact ((hown2.set_below (by simp) _).set_below (by simp) _).le (by simp)
        · exact (hb3.setCell (by simp) _).setCell (by simp) _
  · have hq : Hid (z = (m0 : Int)) := by show z = (m0 : Int); omega
    clear hm0
    have hd : decide (z < 0) = false := decide_eq_false hz
    rw [hd]
    go_enter Try.func20, Try.ntmps20
    go_wp2_with fail
    go_loopw [4, 5] (fun v q wr => ∃ (m : Nat) (A : Option Addr) (c L : Nat) (out : List Int), m ≤ m0 ∧ q = .int .i64 m ∧ v = .slice A L c ∧ Hid (L = out.length) ∧ Own wr (w.heap.size + 1) (.slice A L c) out ∧ out.length ≤ 64 ∧ Hid (valT out m = m0 ∧ Rng 0 9999 out ∧ (m ≠ 0 → m * 10000 ^ out.length ≤ m0)) ∧ Below w.heap.size w wr ∧ Box wr w.heap.size 27 #[.bool false, .slice none 0 0]) (fun _ q _ => (intOf q).toNat)
    case atStart => exact ⟨m0, none, 0, 0, [], Nat.le_refl _, congrArg (Value.int .i64) hq.out, rfl, rfl, World.ownsRow_nil _ _ _ _, by simp, ⟨by simp [valT], Rng.nil _ _, fun _ => by simp⟩, hb0, hx0⟩
    case round =>
      obtain ⟨m, A, c, L, out, hm, rfl, rfl, hL, hown, hlen, hval, hb, hx⟩ := hrel
      obtain rfl : L = out.length := hL.out
      clear hb0 hx0
      by_cases hpos : 0 < m
      · have hd : Rd (wr.alloc (.cells #[.int .i64 ((m : Int) % 10000)] 3)) (wr.heap.size + 1) (some ⟨wr.heap.size, 0, none⟩) 1 [(m : Int) % 10000] := by
          exact Rd.one wr ((m : Int) % 10000) wr.heap.size rfl
        have hlen2 : out.length + 1 ≤ 64 := by
          have h3 := hval.out.2.2 (by omega)
          have h4 : 10000 ^ out.length ≤ m * 10000 ^ out.length := Nat.le_mul_of_pos_left _ hpos
          have h5 : ¬ 64 ≤ out.length := fun h6 => by
            have h7 : (10000 : Nat) ^ 64 ≤ 10000 ^ out.length := Nat.pow_le_pow_right (by omega) h6
            have h8 : (4611686018427387904 : Nat) < 10000 ^ 64 := by decide
            omega
          omega
        have hown1 := hown.alloc (.cells #[.int .i64 ((m : Int) % 10000)] 3)
        have hxlt := hx.lt
        go_wp2_with (at_builtin; refine wpList_append_rd _ rfl _ _ 22 rfl Try.underlying22 Try.info3 (w.heap.size + 1) _ out rfl hown1 _ _ _ _ [(m : Int) % 10000] rfl hd ?c1 ?c2 ?_)
        case c1 => omega
        case c2 => omega
        intro A' c' w2 hown2 hg
        have hrow : ∀ k, (Value.slice A out.length c).ownBlock = some k → w.heap.size + 1 ≤ k := fun k hk => (World.ownsRow.lt hown1 k hk).1
        have hb2 : Below w.heap.size w w2 := (Below.step hb (below_alloc1 wr (.cells #[.int .i64 ((m : Int) % 10000)] 3))).grown hg (by simp; omega) (fun k hk => by have := hrow k hk; omega)
        have hx2 : Box w2 w.heap.size 27 #[.bool false, .slice none 0 0] := (hx.kept (below_alloc1 wr (.cells #[.int .i64 ((m : Int) % 10000)] 3))).grown hg (fun e => by have := hrow w.heap.size e.symm; omega)
        have hval2 : Hid (valT (out ++ [(m : Int) % 10000]) ((m / 10000 : Nat) : Int) = m0 ∧ Rng 0 9999 (out ++ [(m : Int) % 10000]) ∧ (m / 10000 ≠ 0 → m / 10000 * 10000 ^ (out ++ [(m : Int) % 10000]).length ≤ m0)) := by
          obtain ⟨v1, v2, v3⟩ := hval.out
          refine ⟨apart_step v1, v2.snoc (by omega), fun _ => ?_⟩
          have h3 := v3 (by omega)
          rw [List.length_append, List.length_singleton, Nat.pow_succ]
          calc m / 10000 * (10000 ^ out.length * 10000) = m / 10000 * 10000 * 10000 ^ out.length := by rw [Nat.mul_comm (10000 ^ out.length), Nat.mul_assoc]
            _ ≤ m * 10000 ^ out.length := Nat.mul_le_mul_right _ (Nat.div_mul_le_self m 10000)
            _ ≤ m0 := h3
        have hlen3 : (out ++ [(m : Int) % 10000]).length ≤ 64 := by rw [List.length_append, List.length_singleton]; exact hlen2
        have hown3 : Hid (Own w2 (w.heap.size + 1) (.slice A' (out.length + 1) c') (out ++ [(m : Int) % 10000])) := hown2
        have hL3 : Hid (out.length + 1 = (out ++ [(m : Int) % 10000]).length) := by simp [Hid]
        clear hown2 hg hval hown hown1 hd hx hb hrow
        generalize out ++ [(m : Int) % 10000] = out2 at *
        go_wp2
        go_roundw
        case rel => exact ⟨m / 10000, A', c', out.length + 1, out2, by omega, by simp, rfl, hL3, hown3.out, hlen3, hval2, hb2, hx2⟩
        case measure => simp [intOf]; omega
      · have hm0 : m = 0 := by omega
        subst hm0
        obtain ⟨v1, v2, _⟩ := hval.out
        have ev : val out = (z.natAbs : Int) := by rw [← hm0'.out]; exact v1
        have en : num (decide (z < 0)) out = z := digs_neg z out v2 ev
        have cm := wholeWith_any (decide (z < 0)) A c (w.heap.size + 1) out wr (by omega) hown v2
        have hsm := res_small h0 h1
        rw [en] at cm
        have er : GivesRes wr (w.heap.size + 1) z = GivesOkAt wr (w.heap.size + 1) (decide (z < 0)) (digs z.natAbs) true := by
          show GivesOkAt wr _ (resNeg z) (resDigs z) (resOk z) = _
          unfold resNeg resDigs resOk
          rw [if_pos hsm, if_pos hsm, decide_eq_true hsm]
        rw [er, hd] at cm
        replace cm := Lib.hid cm
        clear ev en v1 v2 hval hpos er hsm
        go_wp2_with fail
        refine (cm.out).mono ?_
        rintro e w2 ⟨A', c', rfl, hown2, hb2⟩
        have hx2 := hx.kept hb2
        have hsz2 := hx2.lt
        obtain ⟨k0, k1⟩ := hx2.two
        have k2 := hx2.free 0
        have k3 := hx2.free 1
        have hb3 := Below.step hb hb2
        clear hb hb2 hx hx2 hown
        go_wp2_with fail
        refine bodyPost_ret (v := .tuple #[.agg #[.bool false, .slice A' (digs z.natAbs).length c'], .bool true]) (by simp [results, Try.results20, go_sem, k0, k1]) rfl ⟨A', c', rfl, ?_, ?_⟩
        · exact ((hown2.set_below (by simp) _).set_below (by simp) _).le (by simp)
        · exact (hb3.setCell (by simp) _).setCell (by simp) _

theorem lawWholeOf_any (z0 : Int) (w : World) (_h : -9223372036854775808 ≤ z0 ∧ z0 ≤ 9223372036854775807) :
    Calls Try.prog 4 #[.int .i64 z0] w fun e w' => e = .returned (.bool true) ∧ Below w.heap.size w w' := by
  by_cases h : -1000000000000000 ≤ z0 ∧ z0 ≤ 1000000000000000
  · have := res_small h.1 h.2
    exact lawWholeOf_core z0 w (decide (z0 < 0)) (digs z0.natAbs) (by omega) true (fun w => wholeOfS_yes z0 w h.1 h.2) (fun w => wholeOfI_yes z0 w h.1 h.2)
  · exact lawWholeOf_core z0 w false [] (by simp) false (fun w => wholeOfS_no z0 w (by omega)) (fun w => wholeOfI_no z0 w (by omega))
end Go.Proofs.Ytlkdelhmjjnnnaa
