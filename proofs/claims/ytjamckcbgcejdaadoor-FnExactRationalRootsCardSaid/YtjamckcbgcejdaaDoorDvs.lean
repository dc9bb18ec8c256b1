/- The divisors of a small number, the model's and the program's (written by wip/gen/dvs.py). -/
import Derived.Test.YtjamckcbgcejdaaDoorRsAppend
import Derived.Test.YtjamckcbgcejdaaDoorRtList
import Derived.Test.YtjamckcbgcejdaaDoorCiMax
namespace Go.Proofs.YtjamckcbgcejdaaDoor
open Go.RowKit Go.Joins

theorem own_nil (w : World) (base : Nat) : Own w base (.slice none 0 0) [] := World.ownsRow_nil w base 3 1
theorem rd_new (w : World) (x : Int) : Rd (w.alloc (.cells #[.int .i64 x] 3)) (w.heap.size + 1) (some ⟨w.heap.size, 0, none⟩) 1 [x] := by
  refine ⟨rfl, fun _ => ⟨w.heap.size, 0, rfl, by omega, fun k hk => ?_⟩⟩
  obtain rfl : k = 0 := by omega
  exact (Box.new w 3 #[.int .i64 x]).cell 0
theorem below_own {w0 w w' : World} {base : Nat} {v : Value} {xs : List Int} (hb : Below w0.heap.size w0 w) (ho : Own w base v xs) (hbase : w0.heap.size ≤ base) (hg : w.grownBy w' v.ownBlock) : Below w0.heap.size w0 w' :=
  hb.grown hg hb.size (fun k hk => by have := (World.ownsRow.lt ho k hk).1; omega)
theorem DV_yes {n k : Nat} (h1 : 1 ≤ k) (h : n % k = 0) : DV n (k - 1) ++ [(k : Int)] = DV n k := by
  obtain ⟨j, rfl⟩ : ∃ j, k = j + 1 := ⟨k - 1, by omega⟩
  rw [DV, if_pos h]
  rfl
theorem DV_no {n k : Nat} (h1 : 1 ≤ k) (h : ¬ n % k = 0) : DV n (k - 1) = DV n k := by
  obtain ⟨j, rfl⟩ : ∃ j, k = j + 1 := ⟨k - 1, by omega⟩
  rw [DV, if_neg h]
  rfl
theorem tmod_zero_iff (z : Int) (k : Nat) : z.tmod (k : Int) = 0 ↔ z.natAbs % k = 0 := by
  constructor
  · intro h
    have := Int.dvd_of_tmod_eq_zero h
    exact Nat.mod_eq_zero_of_dvd (Int.natAbs_dvd_natAbs.2 this)
  · intro h
    exact Int.tmod_eq_zero_of_dvd (Int.natAbs_dvd_natAbs.1 (Nat.dvd_of_mod_eq_zero h))

set_option maxHeartbeats 2000000 in
theorem cuDivisors_any (n : Nat) (w : World) (h1 : 1 ≤ n) (h2 : n ≤ 1000) : Calls Tryd.prog 49 #[.int .i64 (n : Int)] w (GivesOwn w (DV n n)) := by
  have hmod : ∀ k : Nat, (n : Int).tmod (k : Int) = 0 ↔ n % k = 0 := fun k => by rw [tmod_zero_iff]; rw [Int.natAbs_natCast]
  replace hmod := Lib.hid hmod
  go_enter Tryd.func49, Tryd.ntmps49
  go_wp2_with fail
  go_loopw [3, 4] (fun v x wr => ∃ (k : Nat) (A : Option Addr) (c : Nat), 1 ≤ k ∧ k ≤ n + 1 ∧ x = .int .i64 k ∧ v = .slice A (DV n (k - 1)).length c ∧ Own wr w.heap.size (.slice A (DV n (k - 1)).length c) (DV n (k - 1)) ∧ Below w.heap.size w wr) (fun _ x _ => 1002 - (intOf x).toNat)
  case atStart => exact ⟨1, none, 0, by omega, by omega, rfl, rfl, own_nil _ _, Below.refl _ _⟩
  case round =>
    obtain ⟨k, A, c, hk1, hk, rfl, rfl, hown, hb⟩ := hrel
    have hlen := DV_len n (k - 1)
    by_cases hlt : k ≤ n
    · have k0 : ((k : Int) == 0) = false := beq_eq_false_iff_ne.2 (by omega)
      have k1 : (k : Int) ≠ 0 := by omega
      by_cases hp : n % k = 0
      · have hl := DV_yes hk1 hp
        have hq := (hmod.out k).2 hp
        obtain ⟨L, hL⟩ : ∃ L, L = DV n (k - 1) := ⟨_, rfl⟩
        rw [← hL] at hown hlen hl ⊢
        replace hl := Lib.hid hl
        clear hL hp hmod
        have hsz : w.heap.size ≤ (wr.alloc (.cells #[.int .i64 (k : Int)] 3)).heap.size := by have := hb.size; simp; omega
        have hrd := rd_new wr (k : Int)
        have hoa := hown.alloc (.cells #[.int .i64 (k : Int)] 3)
        have hba : Below w.heap.size w (wr.alloc (.cells #[.int .i64 (k : Int)] 3)) := hb.alloc hb.size _
        have hlen2 : L.length + 1 ≤ 17592186044416 := by omega
        clear hown hb
        go_wp2_with (first
          | (at_builtin; refine wpList_append_rd _ rfl _ _ 55 rfl Tryd.underlying55 Tryd.info3 w.heap.size _ L rfl hoa _ _ _ _ [(k : Int)] rfl hrd hlen2 hsz ?_; intro A' c' w1 hown1 hg1)
          | fail)
        have hb1 := below_own hba hoa (Nat.le_refl _) hg1
        have hll : L.length + 1 = (DV n k).length := by rw [← hl.out, List.length_append]; rfl
        rw [hl.out] at hown1
        rw [hll]
        clear hll
        go_roundw
        case rel => exact ⟨k + 1, A', c', by omega, by omega, by go_num, by rw [Nat.add_sub_cancel], by rw [Nat.add_sub_cancel]; exact hown1, hb1⟩
        case measure => simp [intOf]; omega
      · have hl := DV_no hk1 hp
        obtain ⟨R, hR⟩ : ∃ R, (n : Int).tmod (k : Int) = R := ⟨_, rfl⟩
        have hq : (R == 0) = false := beq_eq_false_iff_ne.2 fun e => hp ((hmod.out k).1 (hR.trans e))
        replace hl := Lib.hid hl
        clear hp hmod
        go_wp2_with fail
        rw [hl.out] at hown ⊢
        go_roundw
        case rel => exact ⟨k + 1, A, c, by omega, by omega, by go_num, by rw [Nat.add_sub_cancel], by rw [Nat.add_sub_cancel]; exact hown, hb⟩
        case measure => simp [intOf]; omega
    · have hkn : Hid (k - 1 = n) := by show k - 1 = n; omega
      rw [hkn.out] at hown ⊢
      clear hmod hlt
      have d1 : ¬ (k : Int) ≤ n := by have := hkn.out; omega
      go_wp2_with fail
      go_ret
      exact ⟨A, c, rfl, hown, hb⟩

set_option maxHeartbeats 2000000 in
theorem divisorsOf_any (z : Int) (n : Nat) (hz : z.natAbs = n) (w : World) (h1 : 1 ≤ n) (h2 : n ≤ 1000) : Calls Tryd.prog 33 #[.int .i64 z] w (GivesOwn w (DV n n)) := by
  have z1 : -1000 ≤ z := by omega
  have z2 : z ≤ 1000 := by omega
  have zn : ((z.natAbs : Nat) : Int) = n := by omega
  have hmod : ∀ k : Nat, z.tmod (k : Int) = 0 ↔ n % k = 0 := fun k => by rw [tmod_zero_iff]; rw [hz]
  replace hmod := Lib.hid hmod
  clear hz
  go_enter Tryd.func33, Tryd.ntmps33
  go_wp2_with fail
  go_loopw [3, 4] (fun v x wr => ∃ (k : Nat) (A : Option Addr) (c : Nat), 1 ≤ k ∧ k ≤ n + 1 ∧ x = .int .i64 k ∧ v = .slice A (DV n (k - 1)).length c ∧ Own wr w.heap.size (.slice A (DV n (k - 1)).length c) (DV n (k - 1)) ∧ Below w.heap.size w wr) (fun _ x _ => 1002 - (intOf x).toNat)
  case atStart => exact ⟨1, none, 0, by omega, by omega, rfl, rfl, own_nil _ _, Below.refl _ _⟩
  case round =>
    obtain ⟨k, A, c, hk1, hk, rfl, rfl, hown, hb⟩ := hrel
    have hlen := DV_len n (k - 1)
    by_cases hlt : k ≤ n
    · have k0 : ((k : Int) == 0) = false := beq_eq_false_iff_ne.2 (by omega)
      have k1 : (k : Int) ≠ 0 := by omega
      by_cases hp : n % k = 0
      · have hl := DV_yes hk1 hp
        have hq := (hmod.out k).2 hp
        obtain ⟨L, hL⟩ : ∃ L, L = DV n (k - 1) := ⟨_, rfl⟩
        rw [← hL] at hown hlen hl ⊢
        replace hl := Lib.hid hl
        clear hL hp hmod
        have hsz : w.heap.size ≤ (wr.alloc (.cells #[.int .i64 (k : Int)] 3)).heap.size := by have := hb.size; simp; omega
        have hrd := rd_new wr (k : Int)
        have hoa := hown.alloc (.cells #[.int .i64 (k : Int)] 3)
        have hba : Below w.heap.size w (wr.alloc (.cells #[.int .i64 (k : Int)] 3)) := hb.alloc hb.size _
        have hlen2 : L.length + 1 ≤ 17592186044416 := by omega
        clear hown hb
        go_wp2_with (first
          | (at_builtin; refine wpList_append_rd _ rfl _ _ 55 rfl Tryd.underlying55 Tryd.info3 w.heap.size _ L rfl hoa _ _ _ _ [(k : Int)] rfl hrd hlen2 hsz ?_; intro A' c' w1 hown1 hg1)
          | fail)
        have hb1 := below_own hba hoa (Nat.le_refl _) hg1
        have hll : L.length + 1 = (DV n k).length := by rw [← hl.out, List.length_append]; rfl
        rw [hl.out] at hown1
        rw [hll]
        clear hll
        go_roundw
        case rel => exact ⟨k + 1, A', c', by omega, by omega, by go_num, by rw [Nat.add_sub_cancel], by rw [Nat.add_sub_cancel]; exact hown1, hb1⟩
        case measure => simp [intOf]; omega
      · have hl := DV_no hk1 hp
        obtain ⟨R, hR⟩ : ∃ R, z.tmod (k : Int) = R := ⟨_, rfl⟩
        have hq : (R == 0) = false := beq_eq_false_iff_ne.2 fun e => hp ((hmod.out k).1 (hR.trans e))
        replace hl := Lib.hid hl
        clear hp hmod
        go_wp2_with fail
        rw [hl.out] at hown ⊢
        go_roundw
        case rel => exact ⟨k + 1, A, c, by omega, by omega, by go_num, by rw [Nat.add_sub_cancel], by rw [Nat.add_sub_cancel]; exact hown, hb⟩
        case measure => simp [intOf]; omega
    · have hkn : Hid (k - 1 = n) := by show k - 1 = n; omega
      rw [hkn.out] at hown ⊢
      clear hmod hlt
      have d1 : ¬ (k : Int) ≤ n := by have := hkn.out; omega
      go_wp2_with fail
      go_ret
      exact ⟨A, c, rfl, hown, hb⟩

set_option maxHeartbeats 1000000 in
theorem cmpOr_any (g : Nat) (x0 x1 x2 x3 : Int) (w : World) (hx : Box w g 3 #[.int .i64 x0, .int .i64 x1, .int .i64 x2, .int .i64 x3]) (h3 : x3 ≠ 0) (V : Int) (hV : lastOf x3 x2 x1 x0 = V) :
    Calls Tryd.prog 34 #[.slice (some ⟨g, 0, none⟩) 4 4] w fun e w' => e = .returned (.int .i64 V) ∧ w = w' := by
  obtain ⟨k0, k1, k2, k3⟩ := hx.four
  clear hx
  unfold lastOf at hV
  by_cases e0 : x0 = 0
  · subst e0
    rw [if_neg (by simp)] at hV
    by_cases e1 : x1 = 0
    · subst e1
      rw [if_neg (by simp)] at hV
      by_cases e2 : x2 = 0
      · subst e2
        rw [if_neg (by simp)] at hV
        subst hV
        have b3 : (x3 != 0) = true := by simp [h3]
        have b4 : (x3 == 0) = false := by simp [h3]
        go_enter Tryd.func34, Tryd.ntmps34
        go_wp2_with fail
        go_loop [8] (fun i => ∃ k : Nat, k ≤ 3 ∧ i = .int .i64 k) (fun i => 4 - (intOf i).toNat)
        case atStart => exact ⟨0, by omega, rfl⟩
        case round =>
          obtain ⟨k, hk, rfl⟩ := hrel
          obtain rfl | rfl | rfl | rfl : k = 0 ∨ k = 1 ∨ k = 2 ∨ k = 3 := by omega
          · go_wp2_with fail
            go_round
            case rel => exact ⟨1, by omega, rfl⟩
            case measure => simp [intOf]
          · go_wp2_with fail
            go_round
            case rel => exact ⟨2, by omega, rfl⟩
            case measure => simp [intOf]
          · go_wp2_with fail
            go_round
            case rel => exact ⟨3, by omega, rfl⟩
            case measure => simp [intOf]
          · go_wp2_with fail
            go_ret
            exact ⟨rfl, rfl⟩
      · rw [if_pos e2] at hV
        subst hV
        have b3 : (x2 != 0) = true := by simp [e2]
        have b4 : (x2 == 0) = false := by simp [e2]
        go_enter Tryd.func34, Tryd.ntmps34
        go_wp2_with fail
        go_loop [8] (fun i => ∃ k : Nat, k ≤ 2 ∧ i = .int .i64 k) (fun i => 4 - (intOf i).toNat)
        case atStart => exact ⟨0, by omega, rfl⟩
        case round =>
          obtain ⟨k, hk, rfl⟩ := hrel
          obtain rfl | rfl | rfl : k = 0 ∨ k = 1 ∨ k = 2 := by omega
          · go_wp2_with fail
            go_round
            case rel => exact ⟨1, by omega, rfl⟩
            case measure => simp [intOf]
          · go_wp2_with fail
            go_round
            case rel => exact ⟨2, by omega, rfl⟩
            case measure => simp [intOf]
          · go_wp2_with fail
            go_ret
            exact ⟨rfl, rfl⟩
    · rw [if_pos e1] at hV
      subst hV
      have b3 : (x1 != 0) = true := by simp [e1]
      have b4 : (x1 == 0) = false := by simp [e1]
      go_enter Tryd.func34, Tryd.ntmps34
      go_wp2_with fail
      go_loop [8] (fun i => ∃ k : Nat, k ≤ 1 ∧ i = .int .i64 k) (fun i => 4 - (intOf i).toNat)
      case atStart => exact ⟨0, by omega, rfl⟩
      case round =>
        obtain ⟨k, hk, rfl⟩ := hrel
        obtain rfl | rfl : k = 0 ∨ k = 1 := by omega
        · go_wp2_with fail
          go_round
          case rel => exact ⟨1, by omega, rfl⟩
          case measure => simp [intOf]
        · go_wp2_with fail
          go_ret
          exact ⟨rfl, rfl⟩
  · rw [if_pos e0] at hV
    subst hV
    have b3 : (x0 != 0) = true := by simp [e0]
    have b4 : (x0 == 0) = false := by simp [e0]
    go_enter Tryd.func34, Tryd.ntmps34
    go_wp2_with fail
    go_loop [8] (fun i => i = .int .i64 0) (fun i => 4 - (intOf i).toNat)
    case atStart => rfl
    case round =>
      subst hrel
      go_wp2_with fail
      go_ret
      exact ⟨rfl, rfl⟩
end Go.Proofs.YtjamckcbgcejdaaDoor
