/- The program's formOf; the methods of the forms (written by wip/gen/ecform.py). -/
import Derived.Test.YtbgoiflkpefckaaEcBox
import Derived.Test.YtbgoiflkpefckaaCuIn
namespace Go.Proofs.Ytbgoiflkpefckaa
open Go.RowKit Go.Joins

set_option maxHeartbeats 1000000 in
theorem formOf_0 (a b : Int) (w : World) (h0 : a = 0) : Calls Try.prog 46 #[.agg #[.int .i64 a, .int .i64 b]] w (fun e w' => e = .returned (.iface 92 (.agg #[.int .i64 b])) ∧ Below w.heap.size w w') := by
  subst h0
  have h := Below.refl w.heap.size w
  have hA := below_alloc1 w (.cells #[.int .i64 0, .int .i64 b] 26)
  have hx0 := Box.new w 26 #[.int .i64 0, .int .i64 b]
  replace h := Below.step h hA
  clear hA
  obtain ⟨k00, k01⟩ := hx0.two
  have l0 := hx0.lt
  go_enter Try.func46, Try.ntmps46
  go_wp2_with fail
  go_ret
  exact ⟨rfl, h⟩


set_option maxHeartbeats 1000000 in
theorem formOf_l (a b : Int) (w : World) (h0 : a ≠ 0) (h1 : b = 0) : Calls Try.prog 46 #[.agg #[.int .i64 a, .int .i64 b]] w (fun e w' => e = .returned (.iface 94 (.agg #[.int .i64 a])) ∧ Below w.heap.size w w') := by
  subst h1
  have e0 : (a == 0) = false := by simp [h0]
  clear h0
  have h := Below.refl w.heap.size w
  have hA := below_alloc1 w (.cells #[.int .i64 a, .int .i64 0] 26)
  have hx0 := Box.new w 26 #[.int .i64 a, .int .i64 0]
  replace h := Below.step h hA
  clear hA
  obtain ⟨k00, k01⟩ := hx0.two
  have l0 := hx0.lt
  go_enter Try.func46, Try.ntmps46
  go_wp2_with fail
  go_ret
  exact ⟨rfl, h⟩


set_option maxHeartbeats 1000000 in
theorem formOf_f (a b : Int) (w : World) (h0 : a ≠ 0) (h1 : b ≠ 0) : Calls Try.prog 46 #[.agg #[.int .i64 a, .int .i64 b]] w (fun e w' => e = .returned (.iface 96 (.agg #[.int .i64 a, .int .i64 b])) ∧ Below w.heap.size w w') := by
  have e0 : (a == 0) = false := by simp [h0]
  have e1 : (b == 0) = false := by simp [h1]
  clear h0
  clear h1
  have h := Below.refl w.heap.size w
  have hA := below_alloc1 w (.cells #[.int .i64 a, .int .i64 b] 26)
  have hx0 := Box.new w 26 #[.int .i64 a, .int .i64 b]
  replace h := Below.step h hA
  clear hA
  obtain ⟨k00, k01⟩ := hx0.two
  have l0 := hx0.lt
  go_enter Try.func46, Try.ntmps46
  go_wp2_with fail
  go_ret
  exact ⟨rfl, h⟩


set_option maxHeartbeats 1000000 in
theorem core_L (a : Int) (w : World) (ha : -1000 ≤ a ∧ a ≤ 1000) (D : Int) (hD : 4 * a * a * a = D) : Calls Try.prog 102 #[.agg #[.int .i64 a]] w (GivesI w D) := by
  obtain ⟨⟨p1, p2⟩, ⟨p3, p4⟩, ⟨p5, p6⟩, ⟨p7, p8⟩⟩ := ecD_bd ha (b := 0) (by omega)
  replace hD := Lib.hid hD
  have h := Below.refl w.heap.size w
  have hA := below_alloc1 w (.cells #[.int .i64 a] 94)
  have hx0 := Box.new w 94 #[.int .i64 a]
  replace h := Below.step h hA
  clear hA
  have k00 := hx0.one
  have l0 := hx0.lt
  go_enter Try.func102, Try.ntmps102
  go_wp2_with fail
  go_ret
  exact ⟨congrArg (fun z => Ending.returned (.int .i64 z)) hD.out, h⟩


set_option maxHeartbeats 1000000 in
set_option maxHeartbeats 1000000 in
theorem core_K (b : Int) (w : World) (hb : -10000 ≤ b ∧ b ≤ 10000) (D : Int) (hD : 27 * b * b = D) : Calls Try.prog 100 #[.agg #[.int .i64 b]] w (GivesI w D) := by
  obtain ⟨⟨p1, p2⟩, ⟨p3, p4⟩, ⟨p5, p6⟩, ⟨p7, p8⟩⟩ := ecD_bd (a := 0) (by omega) hb
  replace hD := Lib.hid hD
  have h := Below.refl w.heap.size w
  have hA := below_alloc1 w (.cells #[.int .i64 b] 92)
  have hx0 := Box.new w 92 #[.int .i64 b]
  replace h := Below.step h hA
  clear hA
  have k00 := hx0.one
  have l0 := hx0.lt
  go_enter Try.func100, Try.ntmps100
  go_wp2_with fail
  go_ret
  exact ⟨congrArg (fun z => Ending.returned (.int .i64 z)) hD.out, h⟩


set_option maxHeartbeats 1000000 in
set_option maxHeartbeats 1000000 in
theorem core_F (a b : Int) (w : World) (ha : -1000 ≤ a ∧ a ≤ 1000) (hb : -10000 ≤ b ∧ b ≤ 10000) (D : Int) (hD : 4 * a * a * a + 27 * b * b = D) : Calls Try.prog 104 #[.agg #[.int .i64 a, .int .i64 b]] w (GivesI w D) := by
  obtain ⟨⟨p1, p2⟩, ⟨p3, p4⟩, ⟨p5, p6⟩, ⟨p7, p8⟩⟩ := ecD_bd ha hb
  replace hD := Lib.hid hD
  have h := Below.refl w.heap.size w
  have hA := below_alloc1 w (.cells #[.int .i64 a, .int .i64 b] 96)
  have hx0 := Box.new w 96 #[.int .i64 a, .int .i64 b]
  replace h := Below.step h hA
  clear hA
  obtain ⟨k00, k01⟩ := hx0.two
  have l0 := hx0.lt
  go_enter Try.func104, Try.ntmps104
  go_wp2_with fail
  go_ret
  exact ⟨congrArg (fun z => Ending.returned (.int .i64 z)) hD.out, h⟩


set_option maxHeartbeats 1000000 in
/-- A form of the curve a, b: its dynamic type, its value, its methods. -/
structure Form (T : TypeId) (V : Value) (a b : Int) (fc fa : FuncId) : Prop where
  nc : ∀ w, (nilAhead 219 T V "loop.example/g01004/impl.core").run Try.prog w = .ok (some false) w
  mc : ∀ w, (method 219 T V "loop.example/g01004/impl.core").run Try.prog w = .ok (fc, V) w
  ec : ∀ (args : Array Value) w, (callFunc fc args).run Try.prog w = .ok (.enter fc args) w
  cc : ∀ w, Calls Try.prog fc #[V] w (GivesI w (ecD a b))

theorem form_L (a : Int) (ha : -1000 ≤ a ∧ a ≤ 1000) : Form 94 (.agg #[.int .i64 a]) a 0 102 101 where
  nc w := by kernel_rfl
  mc w := by kernel_rfl
  ec args w := by kernel_rfl
  cc w := core_L a w ha _ (by unfold ecD; omega)

theorem form_K (b : Int) (hb : -10000 ≤ b ∧ b ≤ 10000) : Form 92 (.agg #[.int .i64 b]) 0 b 100 99 where
  nc w := by kernel_rfl
  mc w := by kernel_rfl
  ec args w := by kernel_rfl
  cc w := core_K b w hb _ (by unfold ecD; omega)

theorem form_F (a b : Int) (ha : -1000 ≤ a ∧ a ≤ 1000) (hb : -10000 ≤ b ∧ b ≤ 10000) : Form 96 (.agg #[.int .i64 a, .int .i64 b]) a b 104 103 where
  nc w := by kernel_rfl
  mc w := by kernel_rfl
  ec args w := by kernel_rfl
  cc w := core_F a b w ha hb _ (rfl)

theorem formOf_any (a b : Int) (ha : -1000 ≤ a ∧ a ≤ 1000) (hb : -10000 ≤ b ∧ b ≤ 10000) : ∃ T V fc fa, Form T V a b fc fa ∧ ∀ w, Calls Try.prog 46 #[.agg #[.int .i64 a, .int .i64 b]] w fun e w' => e = .returned (.iface T V) ∧ Below w.heap.size w w' := by
  by_cases h0 : a = 0
  · subst h0; exact ⟨_, _, _, _, form_K b hb, fun w => formOf_0 0 b w rfl⟩
  · by_cases h1 : b = 0
    · subst h1; exact ⟨_, _, _, _, form_L a ha, fun w => formOf_l a 0 w h0 rfl⟩
    · exact ⟨_, _, _, _, form_F a b ha hb, fun w => formOf_f a b w h0 h1⟩
end Go.Proofs.Ytbgoiflkpefckaa
