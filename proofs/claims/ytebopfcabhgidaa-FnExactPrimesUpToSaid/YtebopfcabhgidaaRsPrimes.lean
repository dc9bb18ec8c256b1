/- Primes up to a number: the model's and the program's, and the law. -/
import Derived.Test.YtebopfcabhgidaaRsOne
import Derived.Test.YtebopfcabhgidaaEq
import Derived.Test.YtebopfcabhgidaaMark
import Derived.Test.YtebopfcabhgidaaRsAppend
namespace Go.Proofs.Ytebopfcabhgidaa
open Go.RowKit Go.Joins

/-- A call that hands back a new row and a bool. -/
def GivesRowOk (w : World) (xs : List Int) (ok : Bool) (e : Ending) (w' : World) : Prop :=
  ∃ A c, e = .returned (.tuple #[.slice A xs.length c, .bool ok]) ∧ Own w' w.heap.size (.slice A xs.length c) xs ∧ Below w.heap.size w w'
theorem own_nil (w : World) (base : Nat) : Own w base (.slice none 0 0) [] := World.ownsRow_nil w base 3 1
theorem rd_new (w : World) (x : Int) : Rd (w.alloc (.cells #[.int .i64 x] 3)) (w.heap.size + 1) (some ⟨w.heap.size, 0, none⟩) 1 [x] := by
  refine ⟨rfl, fun _ => ⟨w.heap.size, 0, rfl, by omega, fun k hk => ?_⟩⟩
  obtain rfl : k = 0 := by omega
  exact (Box.new w 3 #[.int .i64 x]).cell 0
theorem below_own {w0 w w' : World} {base : Nat} {v : Value} {xs : List Int} (hb : Below w0.heap.size w0 w) (ho : Own w base v xs) (hbase : w0.heap.size ≤ base) (hg : w.grownBy w' v.ownBlock) : Below w0.heap.size w0 w' :=
  hb.grown hg hb.size (fun k hk => by have := (World.ownsRow.lt ho k hk).1; omega)

open Classical in
/-- The primes up to k. -/
noncomputable def PL : Nat → List Int
  | 0 => []
  | k + 1 => if Pr (k + 1) then PL k ++ [((k + 1 : Nat) : Int)] else PL k
theorem PL_len : ∀ k, (PL k).length ≤ k
  | 0 => Nat.le_refl 0
  | k + 1 => by
    have := PL_len k
    rw [PL]
    split
    · rw [List.length_append]; show (PL k).length + 1 ≤ k + 1; omega
    · omega
theorem PL_one : PL 1 = [] := by
  rw [PL, if_neg (fun h => by have := h.1; omega)]
  rfl
theorem PL_yes {k : Nat} (h2 : 2 ≤ k) (h : Pr k) : PL (k - 1) ++ [(k : Int)] = PL k := by
  obtain ⟨j, rfl⟩ : ∃ j, k = j + 1 := ⟨k - 1, by omega⟩
  rw [PL, if_pos h]
  rfl
theorem PL_no {k : Nat} (h2 : 2 ≤ k) (h : ¬ Pr k) : PL (k - 1) = PL k := by
  obtain ⟨j, rfl⟩ : ∃ j, k = j + 1 := ⟨k - 1, by omega⟩
  rw [PL, if_neg h]
  rfl

set_option maxHeartbeats 2000000 in
theorem specPrimes_yes (n : Nat) (w : World) (h1 : 1 ≤ n) (h2 : n ≤ 997) :
    Calls Try.prog 17 #[.int .i64 (n : Int)] w (GivesRowOk w (PL n) true) := by
  have ha := fun (k : Nat) (h : k ≤ 997) (hp : Pr k) (W : World) => mdPrime_all k W true ⟨fun _ => IsP.nat.2 ⟨hp, h⟩, fun _ => rfl⟩
  have hna := fun (k : Nat) (hp : ¬ Pr k) (W : World) => mdPrime_all k W false ⟨fun e => (by cases e), fun e => absurd (IsP.nat.1 e).1 hp⟩
  replace ha := Lib.hid ha
  replace hna := Lib.hid hna
  go_enter Try.func17, Try.ntmps17
  go_wp2_with fail
  refine (l1In_yes _ _ _ _ (by omega) (by omega)).mono ?_
  rintro e w' ⟨rfl, rfl⟩
  go_wp2_with fail
  go_loopw [4, 5] (fun v x wr => ∃ (k : Nat) (A : Option Addr) (c : Nat), 2 ≤ k ∧ k ≤ n + 1 ∧ x = .int .i64 k ∧ v = .slice A (PL (k - 1)).length c ∧ Own wr w.heap.size (.slice A (PL (k - 1)).length c) (PL (k - 1)) ∧ Below w.heap.size w wr) (fun _ x _ => 1000 - (intOf x).toNat)
  case atStart => exact ⟨2, none, 0, by omega, by omega, rfl, by rw [PL_one]; rfl, by rw [PL_one]; exact own_nil _ _, Below.refl _ _⟩
  case round =>
    obtain ⟨k, A, c, hk2, hk, rfl, rfl, hown, hb⟩ := hrel
    have hlen := PL_len (k - 1)
    by_cases hlt : k ≤ n
    · by_cases hp : Pr k
      · have hl := PL_yes hk2 hp
        have cc := ha.out k (by omega) hp wr
        obtain ⟨L, hL⟩ : ∃ L, L = PL (k - 1) := ⟨_, rfl⟩
        rw [← hL] at hown hlen hl ⊢
        replace hl := Lib.hid hl
        replace cc := Lib.hid cc
        clear hL hp ha hna
        have hsz : w.heap.size ≤ (wr.alloc (.cells #[.int .i64 (k : Int)] 3)).heap.size := by have := hb.size; simp; omega
        have hrd := rd_new wr (k : Int)
        have hoa := hown.alloc (.cells #[.int .i64 (k : Int)] 3)
        have hba : Below w.heap.size w (wr.alloc (.cells #[.int .i64 (k : Int)] 3)) := hb.alloc hb.size _
        have hlen2 : L.length + 1 ≤ 17592186044416 := by omega
        clear hown hb
        go_wp2_with fail
        refine (cc.out).mono ?_
        rintro e w' ⟨rfl, rfl⟩
        go_wp2_with (first
          | (at_builtin; refine wpList_append_rd _ rfl _ _ 23 rfl Try.underlying23 Try.info3 w.heap.size _ L rfl hoa _ _ _ _ [(k : Int)] rfl hrd hlen2 hsz ?_; intro A' c' w1 hown1 hg1)
          | fail)
        have hb1 := below_own hba hoa (Nat.le_refl _) hg1
        have hll : L.length + 1 = (PL k).length := by rw [← hl.out, List.length_append]; rfl
        rw [hl.out] at hown1
        rw [hll]
        clear hll
        go_roundw
        case rel => exact ⟨k + 1, A', c', by omega, by omega, by go_num, by rw [Nat.add_sub_cancel], by rw [Nat.add_sub_cancel]; exact hown1, hb1⟩
        case measure => simp [intOf]; omega
      · have hl := PL_no hk2 hp
        have cc := hna.out k hp wr
        replace hl := Lib.hid hl
        replace cc := Lib.hid cc
        clear hp ha hna
        go_wp2_with fail
        refine (cc.out).mono ?_
        rintro e w' ⟨rfl, rfl⟩
        go_wp2_with fail
        rw [hl.out] at hown ⊢
        go_roundw
        case rel => exact ⟨k + 1, A, c, by omega, by omega, by go_num, by rw [Nat.add_sub_cancel], by rw [Nat.add_sub_cancel]; exact hown, hb⟩
        case measure => simp [intOf]; omega
    · have hkn : Hid (k - 1 = n) := by show k - 1 = n; omega
      rw [hkn.out] at hown ⊢
      clear ha hna hlt
      have d1 : ¬ (k : Int) ≤ n := by have := hkn.out; omega
      go_wp2_with fail
      go_ret2
      exact ⟨A, c, rfl, hown, hb⟩

set_option maxHeartbeats 400000 in
theorem specPrimes_no (n : Int) (w : World) (h : n < 1 ∨ 997 < n) :
    Calls Try.prog 17 #[.int .i64 n] w (GivesRowOk w [] false) := by
  replace h := Lib.hid h
  go_enter Try.func17, Try.ntmps17
  go_wp2_with fail
  refine (l1In_no _ _ _ _ h.out).mono ?_
  rintro e w' ⟨rfl, rfl⟩
  go_wp2_with fail
  go_ret2
  exact ⟨none, 0, rfl, own_nil _ _, Below.refl _ _⟩

set_option maxHeartbeats 2000000 in
theorem implPrimes_yes (n : Nat) (w : World) (h1 : 1 ≤ n) (h2 : n ≤ 997) :
    Calls Try.prog 18 #[.int .i64 (n : Int)] w (GivesRowOk w (PL n) true) := by
  have ha := fun (k : Nat) (h : k ≤ 997) (hp : Pr k) (W : World) => isPrime_all k W true ⟨fun _ => IsP.nat.2 ⟨hp, h⟩, fun _ => rfl⟩
  have hna := fun (k : Nat) (hp : ¬ Pr k) (W : World) => isPrime_all k W false ⟨fun e => (by cases e), fun e => absurd (IsP.nat.1 e).1 hp⟩
  replace ha := Lib.hid ha
  replace hna := Lib.hid hna
  go_enter Try.func18, Try.ntmps18
  go_wp2_with fail
  go_loopw [4, 5] (fun v x wr => ∃ (k : Nat) (A : Option Addr) (c : Nat), 2 ≤ k ∧ k ≤ n + 1 ∧ x = .int .i64 k ∧ v = .slice A (PL (k - 1)).length c ∧ Own wr w.heap.size (.slice A (PL (k - 1)).length c) (PL (k - 1)) ∧ Below w.heap.size w wr) (fun _ x _ => 1000 - (intOf x).toNat)
  case atStart => exact ⟨2, none, 0, by omega, by omega, rfl, by rw [PL_one]; rfl, by rw [PL_one]; exact own_nil _ _, Below.refl _ _⟩
  case round =>
    obtain ⟨k, A, c, hk2, hk, rfl, rfl, hown, hb⟩ := hrel
    have hlen := PL_len (k - 1)
    by_cases hlt : k ≤ n
    · by_cases hp : Pr k
      · have hl := PL_yes hk2 hp
        have cc := ha.out k (by omega) hp wr
        obtain ⟨L, hL⟩ : ∃ L, L = PL (k - 1) := ⟨_, rfl⟩
        rw [← hL] at hown hlen hl ⊢
        replace hl := Lib.hid hl
        replace cc := Lib.hid cc
        clear hL hp ha hna
        have hsz : w.heap.size ≤ (wr.alloc (.cells #[.int .i64 (k : Int)] 3)).heap.size := by have := hb.size; simp; omega
        have hrd := rd_new wr (k : Int)
        have hoa := hown.alloc (.cells #[.int .i64 (k : Int)] 3)
        have hba : Below w.heap.size w (wr.alloc (.cells #[.int .i64 (k : Int)] 3)) := hb.alloc hb.size _
        have hlen2 : L.length + 1 ≤ 17592186044416 := by omega
        clear hown hb
        go_wp2_with fail
        refine (cc.out).mono ?_
        rintro e w' ⟨rfl, rfl⟩
        go_wp2_with (first
          | (at_builtin; refine wpList_append_rd _ rfl _ _ 23 rfl Try.underlying23 Try.info3 w.heap.size _ L rfl hoa _ _ _ _ [(k : Int)] rfl hrd hlen2 hsz ?_; intro A' c' w1 hown1 hg1)
          | fail)
        have hb1 := below_own hba hoa (Nat.le_refl _) hg1
        have hll : L.length + 1 = (PL k).length := by rw [← hl.out, List.length_append]; rfl
        rw [hl.out] at hown1
        rw [hll]
        clear hll
        go_roundw
        case rel => exact ⟨k + 1, A', c', by omega, by omega, by go_num, by rw [Nat.add_sub_cancel], by rw [Nat.add_sub_cancel]; exact hown1, hb1⟩
        case measure => simp [intOf]; omega
      · have hl := PL_no hk2 hp
        have cc := hna.out k hp wr
        replace hl := Lib.hid hl
        replace cc := Lib.hid cc
        clear hp ha hna
        go_wp2_with fail
        refine (cc.out).mono ?_
        rintro e w' ⟨rfl, rfl⟩
        go_wp2_with fail
        rw [hl.out] at hown ⊢
        go_roundw
        case rel => exact ⟨k + 1, A, c, by omega, by omega, by go_num, by rw [Nat.add_sub_cancel], by rw [Nat.add_sub_cancel]; exact hown, hb⟩
        case measure => simp [intOf]; omega
    · have hkn : Hid (k - 1 = n) := by show k - 1 = n; omega
      rw [hkn.out] at hown ⊢
      clear ha hna hlt
      have d1 : ¬ (k : Int) ≤ n := by have := hkn.out; omega
      go_wp2_with fail
      go_ret2
      exact ⟨A, c, rfl, hown, hb⟩

set_option maxHeartbeats 400000 in
theorem implPrimes_no (n : Int) (w : World) (h : n < 1 ∨ 997 < n) :
    Calls Try.prog 18 #[.int .i64 n] w (GivesRowOk w [] false) := by
  by_cases h1 : n < 1
  · clear h
    go_enter Try.func18, Try.ntmps18
    go_wp2_with fail
    go_ret2
    exact ⟨none, 0, rfl, own_nil _ _, Below.refl _ _⟩
  · have h2 : 997 < n := by omega
    clear h
    go_enter Try.func18, Try.ntmps18
    go_wp2_with fail
    go_ret2
    exact ⟨none, 0, rfl, own_nil _ _, Below.refl _ _⟩

set_option maxHeartbeats 4000000 in
set_option maxRecDepth 100000 in
theorem lawPrimesUpTo_core (z0 : Int) (w : World) (rs : List Int) (hrs : rs.length ≤ 1048576) (ok : Bool)
    (hS : ∀ (w : World), Calls Try.prog 17 #[.int .i64 z0] w (GivesRowOk w rs ok))
    (hI : ∀ (w : World), Calls Try.prog 18 #[.int .i64 z0] w (GivesRowOk w rs ok)) :
    Calls Try.prog 4 #[.int .i64 z0] w fun e w' => e = .returned (.bool true) ∧ Below w.heap.size w w' := by
  have h := Below.refl w.heap.size w
  replace hS := Lib.hid hS
  replace hI := Lib.hid hI
  have e0 : (ok != ok) = false := by simp
  have e2 : (1 + (rs.length : Int) != 1 + rs.length) = false := by simp
  go_enter Try.func4, Try.ntmps4
  go_wp2_with fail
  refine (hS.out _).mono ?_
  rintro e w1 ⟨Aw, cw, rfl, how, hb⟩
  replace how := how.I
  replace h := Below.step h hb
  clear hb
  go_wp2_with fail
  have d_how_hog := how.le
  have lo_hog := h.size
  refine (hI.out _).mono ?_
  rintro e w2 ⟨Ag, cg, rfl, hog, hb⟩
  replace hog := hog.I
  replace h := Below.step h hb
  replace how := how.kept hb
  clear hb
  go_wp2_with fail
  refine (eqIntS_yes Ag Aw _ cg _ cw rs _ (by omega) hog.rd how.rd).mono ?_
  rintro e w3 ⟨rfl, hb⟩
  replace h := Below.step h hb
  replace how := how.kept hb
  replace hog := hog.kept hb
  clear hb
  go_wp2_with fail
  refine (markIntS_any Ag cg _ rs (1) _ (by omega) (by omega) hog.own).mono ?_
  rintro e w4 ⟨rfl, hm, hg⟩
  replace h := hog.below hg h lo_hog
  replace how := how.aside hog hg (.inl d_how_hog)
  have hmk := hm.rd_marks
  clear hm hg hog
  go_wp2_with fail
  refine (heldIntS_any Ag rs.length cg _ 1 _ (by omega) (by omega) hmk).mono ?_
  rintro e w5 ⟨rfl, rfl⟩
  go_wp2_with fail
  refine (hI.out _).mono ?_
  rintro e w6 ⟨Ah, ch, rfl, hoh, hb⟩
  replace hoh := hoh.I
  replace h := Below.step h hb
  replace how := how.kept hb
  replace hmk := hmk.kept hb
  clear hb
  go_wp2_with fail
  refine (eqIntS_yes Ah Aw _ ch _ cw rs _ (by omega) hoh.rd how.rd).mono ?_
  rintro e w7 ⟨rfl, hb⟩
  replace h := Below.step h hb
  replace hmk := hmk.kept hb
  clear hb hoh how
  go_wp2_with fail
  refine (heldIntS_any Ag rs.length cg _ 1 _ (by omega) (by omega) hmk).mono ?_
  rintro e w8 ⟨rfl, rfl⟩
  go_wp2
  go_ret
  exact ⟨rfl, h⟩

theorem lawPrimesUpTo_any (z0 : Int) (w : World) (_h0 : -9223372036854775808 ≤ z0 ∧ z0 ≤ 9223372036854775807) :
    Calls Try.prog 4 #[.int .i64 z0] w fun e w' => e = .returned (.bool true) ∧ Below w.heap.size w w' := by
  by_cases h : z0 < 1 ∨ 997 < z0
  · exact lawPrimesUpTo_core z0 w [] (by simp) false (fun W => specPrimes_no z0 W h) (fun W => implPrimes_no z0 W h)
  · obtain ⟨n, rfl⟩ : ∃ n : Nat, z0 = n := ⟨z0.toNat, by omega⟩
    exact lawPrimesUpTo_core n w (PL n) (by have := PL_len n; omega) true (fun W => specPrimes_yes n W (by omega) (by omega)) (fun W => implPrimes_yes n W (by omega) (by omega))
end Go.Proofs.Ytebopfcabhgidaa
