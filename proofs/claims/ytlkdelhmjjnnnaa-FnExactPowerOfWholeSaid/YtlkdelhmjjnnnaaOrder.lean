/- The order of limbs and of wholes: the model's and the program's functions hand back the same. -/
import Derived.Test.YtlkdelhmjjnnnaaIsWhole
import Derived.Deep.QuietTactic
import Derived.BigQuiet
namespace Go.Proofs.Ytlkdelhmjjnnnaa
open Go.RowKit Go.Joins

def cmpI (x y : Int) : Int := if x < y then -1 else if y < x then 1 else 0
def cmpTo (xs ys : List Int) : Nat → Int
  | 0 => 0
  | k + 1 => if xs[k]?.getD 0 < ys[k]?.getD 0 then -1 else if ys[k]?.getD 0 < xs[k]?.getD 0 then 1 else cmpTo xs ys k

theorem cmpTo_lt {xs ys : List Int} {k : Nat} (h : xs[k]?.getD 0 < ys[k]?.getD 0) : cmpTo xs ys (k + 1) = -1 := by simp [cmpTo, h]
theorem cmpTo_gt {xs ys : List Int} {k : Nat} (h : ys[k]?.getD 0 < xs[k]?.getD 0) : cmpTo xs ys (k + 1) = 1 := by
  have : ¬ xs[k]?.getD 0 < ys[k]?.getD 0 := by omega
  simp [cmpTo, h, this]
theorem cmpTo_eq {xs ys : List Int} {k : Nat} (h : xs[k]?.getD 0 = ys[k]?.getD 0) : cmpTo xs ys (k + 1) = cmpTo xs ys k := by simp [cmpTo, h]

set_option maxHeartbeats 400000 in
theorem bgLimb_any (A : Option Addr) (n c B : Nat) (xs : List Int) (k : Nat) (w : World) (hn : n ≤ 9223372036854775807) (h : Rd w B A n xs) :
    Calls Try.prog 80 #[.slice A n c, .int .i64 (k : Int)] w fun e w' => e = .returned (.int .i64 (xs[k]?.getD 0)) ∧ w = w' := by
  by_cases hk : k < n
  · obtain ⟨b, o, rfl, hbs, hc⟩ := h.2 (by omega)
    have hread := hc k hk
    clear hc h
    go_enter Try.func80, Try.ntmps80
    go_wp2
    go_ret
    exact ⟨rfl, rfl⟩
  · have e : xs[k]?.getD 0 = 0 := by rw [List.getElem?_eq_none (by rw [h.1]; omega)]; rfl
    rw [e]
    clear h e
    go_enter Try.func80, Try.ntmps80
    go_wp2
    go_ret
    exact ⟨rfl, rfl⟩

set_option maxHeartbeats 400000 in
theorem l1Most_any (a b : Int) (w : World) :
    Calls Try.prog 66 #[.int .i64 a, .int .i64 b] w fun e w' => e = .returned (.int .i64 (max a b)) ∧ w = w' := by
  by_cases h : b < a
  · rw [Int.max_eq_left (by omega)]
    go_enter Try.func66, Try.ntmps66
    go_wp2
    go_ret
    exact ⟨rfl, rfl⟩
  · rw [Int.max_eq_right (by omega)]
    go_enter Try.func66, Try.ntmps66
    go_wp2
    go_ret
    exact ⟨rfl, rfl⟩

set_option maxHeartbeats 800000 in
theorem bgOrder_any (A B : Option Addr) (n c m d U : Nat) (xs ys : List Int) (w : World) (hn : n ≤ 4611686018427387904) (hm : m ≤ 4611686018427387904) (h : Rd w U A n xs) (h' : Rd w U B m ys) :
    Calls Try.prog 75 #[.slice A n c, .slice B m d] w fun e w' => e = .returned (.int .i64 (cmpTo xs ys (max n m))) ∧ w = w' := by
  obtain ⟨N, hN⟩ : ∃ N, N = max n m := ⟨_, rfl⟩
  have hN' : max (n : Int) (m : Int) = (N : Int) := by omega
  have hNb : N ≤ 4611686018427387904 := by omega
  rw [← hN]
  clear hN
  replace hN' := Lib.hid hN'
  go_enter Try.func75, Try.ntmps75
  go_wp2_with fail
  refine (l1Most_any _ _ _).mono ?_
  rw [hN'.out]
  rintro e w' ⟨rfl, rfl⟩
  go_wp2_with fail
  go_loop [5] (fun i => ∃ k : Nat, k ≤ N ∧ i = .int .i64 ((k : Int) - 1) ∧ Hid (cmpTo xs ys N = cmpTo xs ys k)) (fun i => (intOf i + 1).toNat)
  case atStart => exact ⟨N, Nat.le_refl _, rfl, rfl⟩
  case round =>
    obtain ⟨k, hk, rfl, hcm⟩ := hrel
    rcases k with _ | j
    · go_wp2
      go_ret
      exact ⟨by rw [hcm.out]; rfl, rfl⟩
    · rw [show (((j + 1 : Nat) : Int) - 1) = (j : Int) from by omega]
      have c1 := Lib.hid (bgLimb_any A n c U xs j w (by omega) h)
      have c2 := Lib.hid (bgLimb_any B m d U ys j w (by omega) h')
      by_cases hlt : xs[j]?.getD 0 < ys[j]?.getD 0
      · have hfin : Hid (cmpTo xs ys N = -1) := hcm.out.trans (cmpTo_lt hlt)
        go_wp2_with fail
        refine (c1.out).mono ?_
        rintro e w' ⟨rfl, rfl⟩
        go_wp2_with fail
        refine (c2.out).mono ?_
        rintro e w' ⟨rfl, rfl⟩
        go_wp2_with fail
        go_ret
        exact ⟨by rw [hfin.out]; rfl, rfl⟩
      by_cases hgt : ys[j]?.getD 0 < xs[j]?.getD 0
      · have hfin : Hid (cmpTo xs ys N = 1) := hcm.out.trans (cmpTo_gt hgt)
        have d1 : decide (xs[j]?.getD 0 < ys[j]?.getD 0) = false := by simp only [decide_eq_false_iff_not]; exact hlt
        go_wp2_with fail
        refine (c1.out).mono ?_
        rintro e w' ⟨rfl, rfl⟩
        go_wp2_with fail
        refine (c2.out).mono ?_
        rintro e w' ⟨rfl, rfl⟩
        go_wp2_with fail
        go_ret
        exact ⟨by rw [hfin.out]; rfl, rfl⟩
      · have hfin : Hid (cmpTo xs ys N = cmpTo xs ys j) := hcm.out.trans (cmpTo_eq (by omega))
        have d1 : decide (xs[j]?.getD 0 < ys[j]?.getD 0) = false := by simp only [decide_eq_false_iff_not]; exact hlt
        have d2 : decide (ys[j]?.getD 0 < xs[j]?.getD 0) = false := by simp only [decide_eq_false_iff_not]; exact hgt
        clear hlt hgt
        go_wp2_with fail
        refine (c1.out).mono ?_
        rintro e w' ⟨rfl, rfl⟩
        go_wp2_with fail
        refine (c2.out).mono ?_
        rintro e w' ⟨rfl, rfl⟩
        go_wp2_with fail
        go_round
        case rel => exact ⟨j, by omega, rfl, hfin⟩
        case measure => simp [intOf]

/-- A call that leaves the world alone, behind draws. -/
theorem quiet_more {P : Program} {g : FuncId} {args : Array Value} {w : World} {a n : Nat} {v : Value} (h : Calls P g args (w.drewN (a + n)) fun e w' => e = .returned v ∧ w.drewN (a + n) = w') :
    Calls P g args (w.drewN (a + n)) fun e w' => e = .returned v ∧ ∃ m, w' = w.drewN (a + m) := h.mono fun _ _ ⟨he, hm⟩ => ⟨he, n, hm.symm⟩

set_option maxHeartbeats 400000 in
theorem cmpInt_any (a b : Int) (w : World) :
    Calls Try.prog 79 #[.int .i64 a, .int .i64 b] w fun e w' => e = .returned (.int .i64 (cmpI a b)) ∧ w = w' := by
  have ea : (a != a) = false := by simp
  have eb : (b != b) = false := by simp
  by_cases h : a < b
  · have e : cmpI a b = -1 := by simp [cmpI, h]
    rw [e]
    clear e
    go_enter Try.func79, Try.ntmps79
    go_wp2
    go_ret
    exact ⟨rfl, rfl⟩
  have d : decide (a < b) = false := by simp only [decide_eq_false_iff_not]; exact h
  by_cases h2 : b < a
  · have e : cmpI a b = 1 := by simp [cmpI, h, h2]
    rw [e]
    clear e
    go_enter Try.func79, Try.ntmps79
    go_wp2
    go_ret
    exact ⟨rfl, rfl⟩
  · have e : cmpI a b = 0 := by simp [cmpI, h, h2]
    have d2 : decide (b < a) = false := by simp only [decide_eq_false_iff_not]; exact h2
    rw [e]
    clear e
    go_enter Try.func79, Try.ntmps79
    go_wp2
    go_ret
    exact ⟨rfl, rfl⟩

/-- What the program's order of limbs hands back. -/
def cmpL (xs ys : List Int) (n m : Nat) : Int := if n = m then cmpTo xs ys n else cmpI n m

set_option maxHeartbeats 800000 in
theorem compareLimbs_any (A B : Option Addr) (n c m d : Nat) (xs ys : List Int) (w : World) (hn : n ≤ 4611686018427387904) (hm : m ≤ 4611686018427387904) (h : Rd w w.heap.size A n xs) (h' : Rd w w.heap.size B m ys) :
    Calls Try.prog 61 #[.slice A n c, .slice B m d] w fun e w' => e = .returned (.int .i64 (cmpL xs ys n m)) ∧ Below w.heap.size w w' := by
  by_cases hnm : n = m
  · subst hnm
    have e0 : ((n : Int) != (n : Int)) = false := by simp
    rw [show cmpL xs ys n n = cmpTo xs ys n from if_pos rfl]
    go_enter Try.func61, Try.ntmps61
    go_wp2
    go_loopw [5] (fun i wr => ∃ k : Nat, k ≤ n ∧ i = .int .i64 ((k : Int) - 1) ∧ Hid (cmpTo xs ys n = cmpTo xs ys k) ∧ Below w.heap.size w wr) (fun i _ => (intOf i + 1).toNat)
    case atStart => exact ⟨n, Nat.le_refl _, rfl, rfl, Below.refl _ _⟩
    case round =>
      obtain ⟨k, hk, rfl, hcm, hb⟩ := hrel
      rcases k with _ | j
      · go_wp2
        go_ret
        exact ⟨by rw [hcm.out]; rfl, hb⟩
      · rw [show (((j + 1 : Nat) : Int) - 1) = (j : Int) from by omega]
        obtain ⟨b, o, rfl, hbs, hc⟩ := h.2 (by omega)
        obtain ⟨b', o', rfl, hbs', hc'⟩ := h'.2 (by omega)
        have hread : wr.cell? ⟨b, o + j, none⟩ = some (.int .i64 (xs[j]?.getD 0)) := (hb.cell (p := ⟨b, o + j, none⟩) hbs).trans (hc j (by omega))
        have hread' : wr.cell? ⟨b', o' + j, none⟩ = some (.int .i64 (ys[j]?.getD 0)) := (hb.cell (p := ⟨b', o' + j, none⟩) hbs').trans (hc' j (by omega))
        have hlt : j < n := by omega
        clear hc hc' h h'
        by_cases he : xs[j]?.getD 0 = ys[j]?.getD 0
        · have hfin : Hid (cmpTo xs ys n = cmpTo xs ys j) := hcm.out.trans (cmpTo_eq he)
          have he1 : (xs[j]?.getD 0 != ys[j]?.getD 0) = false := by simpa using he
          clear he hcm
          go_wp2
          go_quiet (fail)
          go_wp2
          go_roundw
          case rel => exact ⟨j, by omega, rfl, hfin, below_of_draws hb _⟩
          case measure => simp [intOf]
        · have hfin : Hid (cmpTo xs ys n = cmpI (xs[j]?.getD 0) (ys[j]?.getD 0)) := by
            refine hcm.out.trans ?_
            unfold cmpI
            by_cases h1 : xs[j]?.getD 0 < ys[j]?.getD 0
            · rw [if_pos h1, cmpTo_lt h1]
            · rw [if_neg h1, if_pos (by omega), cmpTo_gt (by omega)]
          have he1 : (xs[j]?.getD 0 != ys[j]?.getD 0) = true := by simpa using he
          clear he hcm
          go_wp2
          go_quiet (fail)
          go_wp2
          go_quiet ((go_at_call 79; exact quiet_more (cmpInt_any _ _ _)))
          go_wp2
          go_ret
          exact ⟨by rw [hfin.out]; rfl, below_of_draws (below_of_draws hb _) _⟩
  · have e0 : ((n : Int) != (m : Int)) = true := by rw [bne_iff_ne]; omega
    rw [show cmpL xs ys n m = cmpI n m from if_neg hnm]
    go_enter Try.func61, Try.ntmps61
    go_wp2_with (go_at_call 79; refine (cmpInt_any _ _ _).mono ?_; rintro e w' ⟨rfl, rfl⟩)
    go_ret
    exact ⟨rfl, Below.refl _ _⟩
end Go.Proofs.Ytlkdelhmjjnnnaa
