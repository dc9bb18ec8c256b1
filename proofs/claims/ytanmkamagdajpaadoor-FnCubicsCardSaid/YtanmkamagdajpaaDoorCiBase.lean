/- The program's IsCubic, its closure of values, the sign of a value, CubicAt (own work). -/
import Derived.Test.YtanmkamagdajpaaDoorCuSpec2
import Derived.Test.YtanmkamagdajpaaDoorCuSign
import Derived.Test.YtanmkamagdajpaaDoorCiMin
import Derived.Laws.EntriesVeiled
namespace Go.Proofs.YtanmkamagdajpaaDoor
open Go.RowKit Go.Joins

def CV (g : Nat) : Value := .agg #[.func (.func 43) #[] #[.pointer (some ⟨g, 0, none⟩)]]
def cuC (a b c d : Int) : Array Value := #[.int .i64 a, .int .i64 b, .int .i64 c, .int .i64 d]

theorem Box.one {w : World} {g : Nat} {t : TypeId} {v : Value} (h : Box w g t #[v]) : w.cell? ⟨g, 0, none⟩ = some v := h.cell 0
set_option maxHeartbeats 1000000 in
theorem isCubicI_zero (b c d : Int) (w : World) : Calls Tryd.prog 20 #[.agg #[.int .i64 0, .int .i64 b, .int .i64 c, .int .i64 d]] w (GivesB w false) := by
  have h := below_alloc1 w (.cells #[.int .i64 0, .int .i64 b, .int .i64 c, .int .i64 d] 24)
  have hx := Box.new w 24 #[.int .i64 0, .int .i64 b, .int .i64 c, .int .i64 d]
  obtain ⟨k0, k1, k2, k3⟩ := hx.four
  go_enter Tryd.func20, Tryd.ntmps20
  go_wp2_with fail
  go_ret
  exact ⟨rfl, h⟩

set_option maxHeartbeats 1000000 in
theorem isCubicI_box (a b c d m M : Int) (w : World) (ha : a ≠ 0) (hm : mn4 a b c d = m) (hM : mx4 a b c d = M) (ok : Bool) (hok : ok = decide (-1000 ≤ m ∧ M ≤ 1000)) : Calls Tryd.prog 20 #[.agg #[.int .i64 a, .int .i64 b, .int .i64 c, .int .i64 d]] w (GivesB w ok) := by
  have h := below_alloc1 w (.cells #[.int .i64 a, .int .i64 b, .int .i64 c, .int .i64 d] 24)
  have hx := Box.new w 24 #[.int .i64 a, .int .i64 b, .int .i64 c, .int .i64 d]
  obtain ⟨k0, k1, k2, k3⟩ := hx.four
  have e1 : (a != 0) = true := by simp [ha]
  have e2 : (a == 0) = false := by simp [ha]
  clear ha
  by_cases h1 : -1000 ≤ m
  · by_cases h2 : M ≤ 1000
    · obtain rfl : ok = true := hok.trans (decide_eq_true ⟨h1, h2⟩)
      clear hok
      go_enter Tryd.func20, Tryd.ntmps20
      go_wp2_with fail
      go_ret
      exact ⟨rfl, h⟩
    · obtain rfl : ok = false := hok.trans (decide_eq_false fun h => h2 h.2)
      have e3 : decide (M ≤ 1000) = false := decide_eq_false h2
      clear hok h2
      go_enter Tryd.func20, Tryd.ntmps20
      go_wp2_with fail
      go_ret
      exact ⟨rfl, h⟩
  · obtain rfl : ok = false := hok.trans (decide_eq_false fun h => h1 h.1)
    have e3 : decide (-1000 ≤ m) = false := decide_eq_false h1
    clear hok h1
    go_enter Tryd.func20, Tryd.ntmps20
    go_wp2_with fail
    go_ret
    exact ⟨rfl, h⟩
theorem isCubicI_any (a b c d : Int) (w : World) : Calls Tryd.prog 20 #[.agg #[.int .i64 a, .int .i64 b, .int .i64 c, .int .i64 d]] w (GivesB w (decide (CuG a b c d))) := by
  by_cases ha : a = 0
  · subst ha
    rw [show decide (CuG 0 b c d) = false from decide_eq_false fun h => h.1 rfl]
    exact isCubicI_zero b c d w
  · refine isCubicI_box a b c d _ _ w ha rfl rfl _ ?_
    rw [decide_eq_decide]
    unfold CuG mn4 mx4
    omega
theorem isCubicI_yes (a b c d : Int) (w : World) (g : CuG a b c d) : Calls Tryd.prog 20 #[.agg #[.int .i64 a, .int .i64 b, .int .i64 c, .int .i64 d]] w (GivesB w true) := by
  have := isCubicI_any a b c d w
  rwa [decide_eq_true g] at this
theorem isCubicI_no (a b c d : Int) (w : World) (g : ¬ CuG a b c d) : Calls Tryd.prog 20 #[.agg #[.int .i64 a, .int .i64 b, .int .i64 c, .int .i64 d]] w (GivesB w false) := by
  have := isCubicI_any a b c d w
  rwa [decide_eq_false g] at this

/-- The function in a struct of one. -/
theorem field_values (v : Value) (w : World) : (Instr.field 53 (.agg #[v]) 0).run Tryd.prog w = .ok v w := by kernel_rfl

/-- A call of valuesOf: the closure, over a block that holds the cubic. -/
def GivesV (w : World) (a b c d : Int) (e : Ending) (w' : World) : Prop :=
  ∃ g, e = .returned (.agg #[.func (.func 43) #[] #[.pointer (some ⟨g, 0, none⟩)]]) ∧ Box w' g 24 #[.int .i64 a, .int .i64 b, .int .i64 c, .int .i64 d] ∧ w.heap.size ≤ g ∧ Below w.heap.size w w'

set_option maxHeartbeats 1000000 in
theorem valuesOf_any (a b c d : Int) (w : World) : Calls Tryd.prog 23 #[.agg #[.int .i64 a, .int .i64 b, .int .i64 c, .int .i64 d]] w (GivesV w a b c d) := by
  have hmf : ∀ (fn : Fn) (first cap : Array Value) (w : World), (Instr.makeFunc fn first cap).run Tryd.prog w = .ok (.func fn first cap) w := fun _ _ _ _ => rfl
  have hA := below_alloc1 (w.alloc (.cells #[.int .i64 a, .int .i64 b, .int .i64 c, .int .i64 d] 24)) (.cells #[.nilFunc] 53)
  have hxr := Box.new (w.alloc (.cells #[.int .i64 a, .int .i64 b, .int .i64 c, .int .i64 d] 24)) 53 #[.nilFunc]
  rw [show (w.alloc (.cells #[.int .i64 a, .int .i64 b, .int .i64 c, .int .i64 d] 24)).heap.size = w.heap.size + 1 from by simp] at hxr
  have f0 := hxr.free 0
  have lr := hxr.lt
  have r0 := hxr.one
  have hxs := Box.new (w.alloc (.cells #[.int .i64 a, .int .i64 b, .int .i64 c, .int .i64 d] 24)) 53 #[.func (.func 43) #[] #[.pointer (some ⟨w.heap.size, 0, none⟩)]]
  rw [show (w.alloc (.cells #[.int .i64 a, .int .i64 b, .int .i64 c, .int .i64 d] 24)).heap.size = w.heap.size + 1 from by simp] at hxs
  have s0 := hxs.one
  have hx := (Box.new w 24 #[.int .i64 a, .int .i64 b, .int .i64 c, .int .i64 d]).kept (below_alloc1 (w.alloc (.cells #[.int .i64 a, .int .i64 b, .int .i64 c, .int .i64 d] 24)) (.cells #[.func (.func 43) #[] #[.pointer (some ⟨w.heap.size, 0, none⟩)]] 53))
  have h := below_alloc2 w (.cells #[.int .i64 a, .int .i64 b, .int .i64 c, .int .i64 d] 24) (.cells #[.func (.func 43) #[] #[.pointer (some ⟨w.heap.size, 0, none⟩)]] 53)
  clear hA hxs
  go_enter Tryd.func23, Tryd.ntmps23
  go_wp2_with fail
  refine bodyPost_ret (v := .agg #[.func (.func 43) #[] #[.pointer (some ⟨w.heap.size, 0, none⟩)]]) (by simp [results, Tryd.results23, go_sem, s0]) (by rfl) ⟨w.heap.size, by rfl, hx, Nat.le_refl _, h⟩

set_option maxHeartbeats 1000000 in
theorem value_any (a b c d n m : Int) (g : Nat) (w : World) (hx : Box w g 24 #[.int .i64 a, .int .i64 b, .int .i64 c, .int .i64 d]) (ha : -1000 ≤ a ∧ a ≤ 1000) (hb : -1000 ≤ b ∧ b ≤ 1000) (hc : -1000 ≤ c ∧ c ≤ 1000) (hd : -1000 ≤ d ∧ d ≤ 1000) (hn : -10000 ≤ n ∧ n ≤ 10000) (hm : -1000 ≤ m ∧ m ≤ 1000) (V : Int) (hV : cuVal a b c d n m = V) :
    Calls Tryd.prog 43 #[.int .i64 n, .int .i64 m, .pointer (some ⟨g, 0, none⟩)] w fun e w' => e = .returned (.int .i64 V) ∧ w = w' := by
  obtain ⟨k0, k1, k2, k3⟩ := hx.four
  obtain ⟨⟨a1, a2⟩, ⟨b1, b2⟩, ⟨c1, c2⟩, ⟨d1, d2⟩, ⟨e1, e2⟩, ⟨f1, f2⟩, ⟨g1, g2⟩, ⟨i1, i2⟩, ⟨j1, j2⟩⟩ := cuVal_bd ha hb hc hd hn hm
  replace hV := Lib.hid hV
  clear ha hb hc hd hn hm hx
  go_enter Tryd.func43, Tryd.ntmps43
  go_wp2_with fail
  go_ret
  exact ⟨congrArg (fun z => Ending.returned (.int .i64 z)) hV.out, rfl⟩

set_option maxHeartbeats 400000 in
theorem isNaN_int (x : Int) (w : World) : Calls Tryd.prog 53 #[.int .i64 x] w fun e w' => e = .returned (.bool false) ∧ w = w' := by
  have e0 : (x != x) = false := by simp
  go_enter Tryd.func53, Tryd.ntmps53
  go_wp2_with fail
  go_ret
  exact ⟨rfl, rfl⟩

set_option maxHeartbeats 400000 in
theorem compare_lt (x y : Int) (w : World) (h : x < y) : Calls Tryd.prog 50 #[.int .i64 x, .int .i64 y] w fun e w' => e = .returned (.int .i64 (-1)) ∧ w = w' := by
  have n1 := fun (x : Int) (W : World) => isNaN_int x W
  replace n1 := Lib.hid n1
  go_enter Tryd.func50, Tryd.ntmps50
  go_wp2_with fail
  refine (n1.out _ _).mono ?_
  rintro e w' ⟨rfl, rfl⟩
  go_wp2_with fail
  refine (n1.out _ _).mono ?_
  rintro e w' ⟨rfl, rfl⟩
  go_wp2_with fail
  go_ret
  exact ⟨rfl, rfl⟩

set_option maxHeartbeats 400000 in
theorem compare_eq (x y : Int) (w : World) (h : x = y) : Calls Tryd.prog 50 #[.int .i64 x, .int .i64 y] w fun e w' => e = .returned (.int .i64 (0)) ∧ w = w' := by
  subst h
  have n1 := fun (x : Int) (W : World) => isNaN_int x W
  replace n1 := Lib.hid n1
  go_enter Tryd.func50, Tryd.ntmps50
  go_wp2_with fail
  refine (n1.out _ _).mono ?_
  rintro e w' ⟨rfl, rfl⟩
  go_wp2_with fail
  refine (n1.out _ _).mono ?_
  rintro e w' ⟨rfl, rfl⟩
  go_wp2_with fail
  go_ret
  exact ⟨rfl, rfl⟩

set_option maxHeartbeats 400000 in
theorem compare_gt (x y : Int) (w : World) (h : y < x) : Calls Tryd.prog 50 #[.int .i64 x, .int .i64 y] w fun e w' => e = .returned (.int .i64 (1)) ∧ w = w' := by
  have h2 : ¬ x < y := by omega
  have n1 := fun (x : Int) (W : World) => isNaN_int x W
  replace n1 := Lib.hid n1
  go_enter Tryd.func50, Tryd.ntmps50
  go_wp2_with fail
  refine (n1.out _ _).mono ?_
  rintro e w' ⟨rfl, rfl⟩
  go_wp2_with fail
  refine (n1.out _ _).mono ?_
  rintro e w' ⟨rfl, rfl⟩
  go_wp2_with fail
  go_ret
  exact ⟨rfl, rfl⟩
end Go.Proofs.YtanmkamagdajpaaDoor
