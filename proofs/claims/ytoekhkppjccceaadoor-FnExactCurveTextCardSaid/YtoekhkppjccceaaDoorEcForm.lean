/- The program's formOf; the methods of the forms (written by wip/gen/ecform.py). -/
import Derived.Test.YtoekhkppjccceaaDoorEcBox
import Derived.Test.YtoekhkppjccceaaDoorCuIn
namespace Go.Proofs.YtoekhkppjccceaaDoor
open Go.RowKit Go.Joins

set_option maxHeartbeats 1000000 in
theorem formOf_0 (a b : Int) (w : World) (h0 : a = 0) : Calls Tryd.prog 21 #[.agg #[.int .i64 a, .int .i64 b]] w (fun e w' => e = .returned (.iface 49 (.agg #[.int .i64 b])) ∧ Below w.heap.size w w') := by
  subst h0
  have h := Below.refl w.heap.size w
  have hA := below_alloc1 w (.cells #[.int .i64 0, .int .i64 b] 26)
  have hx0 := Box.new w 26 #[.int .i64 0, .int .i64 b]
  replace h := Below.step h hA
  clear hA
  obtain ⟨k00, k01⟩ := hx0.two
  have l0 := hx0.lt
  go_enter Tryd.func21, Tryd.ntmps21
  go_wp2_with fail
  go_ret
  exact ⟨rfl, h⟩


set_option maxHeartbeats 1000000 in
theorem formOf_l (a b : Int) (w : World) (h0 : a ≠ 0) (h1 : b = 0) : Calls Tryd.prog 21 #[.agg #[.int .i64 a, .int .i64 b]] w (fun e w' => e = .returned (.iface 51 (.agg #[.int .i64 a])) ∧ Below w.heap.size w w') := by
  subst h1
  have e0 : (a == 0) = false := by simp [h0]
  clear h0
  have h := Below.refl w.heap.size w
  have hA := below_alloc1 w (.cells #[.int .i64 a, .int .i64 0] 26)
  have hx0 := Box.new w 26 #[.int .i64 a, .int .i64 0]
  replace h := Below.step h hA
  clear hA
  obtain ⟨k00, k01⟩ := hx0.two
  have l0 := hx0.lt
  go_enter Tryd.func21, Tryd.ntmps21
  go_wp2_with fail
  go_ret
  exact ⟨rfl, h⟩


set_option maxHeartbeats 1000000 in
theorem formOf_f (a b : Int) (w : World) (h0 : a ≠ 0) (h1 : b ≠ 0) : Calls Tryd.prog 21 #[.agg #[.int .i64 a, .int .i64 b]] w (fun e w' => e = .returned (.iface 53 (.agg #[.int .i64 a, .int .i64 b])) ∧ Below w.heap.size w w') := by
  have e0 : (a == 0) = false := by simp [h0]
  have e1 : (b == 0) = false := by simp [h1]
  clear h0
  clear h1
  have h := Below.refl w.heap.size w
  have hA := below_alloc1 w (.cells #[.int .i64 a, .int .i64 b] 26)
  have hx0 := Box.new w 26 #[.int .i64 a, .int .i64 b]
  replace h := Below.step h hA
  clear hA
  obtain ⟨k00, k01⟩ := hx0.two
  have l0 := hx0.lt
  go_enter Tryd.func21, Tryd.ntmps21
  go_wp2_with fail
  go_ret
  exact ⟨rfl, h⟩


set_option maxHeartbeats 1000000 in
theorem core_L (a : Int) (w : World) (ha : -1000 ≤ a ∧ a ≤ 1000) (D : Int) (hD : 4 * a * a * a = D) : Calls Tryd.prog 68 #[.agg #[.int .i64 a]] w (GivesI w D) := by
  obtain ⟨⟨p1, p2⟩, ⟨p3, p4⟩, ⟨p5, p6⟩, ⟨p7, p8⟩⟩ := ecD_bd ha (b := 0) (by omega)
  replace hD := Lib.hid hD
  have h := Below.refl w.heap.size w
  have hA := below_alloc1 w (.cells #[.int .i64 a] 51)
  have hx0 := Box.new w 51 #[.int .i64 a]
  replace h := Below.step h hA
  clear hA
  have k00 := hx0.one
  have l0 := hx0.lt
  go_enter Tryd.func68, Tryd.ntmps68
  go_wp2_with fail
  go_ret
  exact ⟨congrArg (fun z => Ending.returned (.int .i64 z)) hD.out, h⟩


set_option maxHeartbeats 1000000 in
set_option maxHeartbeats 1000000 in
theorem core_K (b : Int) (w : World) (hb : -10000 ≤ b ∧ b ≤ 10000) (D : Int) (hD : 27 * b * b = D) : Calls Tryd.prog 66 #[.agg #[.int .i64 b]] w (GivesI w D) := by
  obtain ⟨⟨p1, p2⟩, ⟨p3, p4⟩, ⟨p5, p6⟩, ⟨p7, p8⟩⟩ := ecD_bd (a := 0) (by omega) hb
  replace hD := Lib.hid hD
  have h := Below.refl w.heap.size w
  have hA := below_alloc1 w (.cells #[.int .i64 b] 49)
  have hx0 := Box.new w 49 #[.int .i64 b]
  replace h := Below.step h hA
  clear hA
  have k00 := hx0.one
  have l0 := hx0.lt
  go_enter Tryd.func66, Tryd.ntmps66
  go_wp2_with fail
  go_ret
  exact ⟨congrArg (fun z => Ending.returned (.int .i64 z)) hD.out, h⟩


set_option maxHeartbeats 1000000 in
set_option maxHeartbeats 1000000 in
theorem core_F (a b : Int) (w : World) (ha : -1000 ≤ a ∧ a ≤ 1000) (hb : -10000 ≤ b ∧ b ≤ 10000) (D : Int) (hD : 4 * a * a * a + 27 * b * b = D) : Calls Tryd.prog 70 #[.agg #[.int .i64 a, .int .i64 b]] w (GivesI w D) := by
  obtain ⟨⟨p1, p2⟩, ⟨p3, p4⟩, ⟨p5, p6⟩, ⟨p7, p8⟩⟩ := ecD_bd ha hb
  replace hD := Lib.hid hD
  have h := Below.refl w.heap.size w
  have hA := below_alloc1 w (.cells #[.int .i64 a, .int .i64 b] 53)
  have hx0 := Box.new w 53 #[.int .i64 a, .int .i64 b]
  replace h := Below.step h hA
  clear hA
  obtain ⟨k00, k01⟩ := hx0.two
  have l0 := hx0.lt
  go_enter Tryd.func70, Tryd.ntmps70
  go_wp2_with fail
  go_ret
  exact ⟨congrArg (fun z => Ending.returned (.int .i64 z)) hD.out, h⟩


set_option maxHeartbeats 1000000 in
/-- A form of the curve a, b: its dynamic type, its value, its methods. -/
structure Form (T : TypeId) (V : Value) (a b : Int) (fc fa : FuncId) : Prop where
  nc : ∀ w, (nilAhead 193 T V "loop.example/g01004/impl.core").run Tryd.prog w = .ok (some false) w
  mc : ∀ w, (method 193 T V "loop.example/g01004/impl.core").run Tryd.prog w = .ok (fc, V) w
  ec : ∀ (args : Array Value) w, (callFunc fc args).run Tryd.prog w = .ok (.enter fc args) w
  cc : ∀ w, Calls Tryd.prog fc #[V] w (GivesI w (ecD a b))

theorem form_L (a : Int) (ha : -1000 ≤ a ∧ a ≤ 1000) : Form 51 (.agg #[.int .i64 a]) a 0 68 67 where
  nc w := by kernel_rfl
  mc w := by kernel_rfl
  ec args w := by kernel_rfl
  cc w := core_L a w ha _ (by unfold ecD; omega)

theorem form_K (b : Int) (hb : -10000 ≤ b ∧ b ≤ 10000) : Form 49 (.agg #[.int .i64 b]) 0 b 66 65 where
  nc w := by kernel_rfl
  mc w := by kernel_rfl
  ec args w := by kernel_rfl
  cc w := core_K b w hb _ (by unfold ecD; omega)

theorem form_F (a b : Int) (ha : -1000 ≤ a ∧ a ≤ 1000) (hb : -10000 ≤ b ∧ b ≤ 10000) : Form 53 (.agg #[.int .i64 a, .int .i64 b]) a b 70 69 where
  nc w := by kernel_rfl
  mc w := by kernel_rfl
  ec args w := by kernel_rfl
  cc w := core_F a b w ha hb _ (rfl)

theorem formOf_any (a b : Int) (ha : -1000 ≤ a ∧ a ≤ 1000) (hb : -10000 ≤ b ∧ b ≤ 10000) : ∃ T V fc fa, Form T V a b fc fa ∧ ∀ w, Calls Tryd.prog 21 #[.agg #[.int .i64 a, .int .i64 b]] w fun e w' => e = .returned (.iface T V) ∧ Below w.heap.size w w' := by
  by_cases h0 : a = 0
  · subst h0; exact ⟨_, _, _, _, form_K b hb, fun w => formOf_0 0 b w rfl⟩
  · by_cases h1 : b = 0
    · subst h1; exact ⟨_, _, _, _, form_L a ha, fun w => formOf_l a 0 w h0 rfl⟩
    · exact ⟨_, _, _, _, form_F a b ha hb, fun w => formOf_f a b w h0 h1⟩
end Go.Proofs.YtoekhkppjccceaaDoor
