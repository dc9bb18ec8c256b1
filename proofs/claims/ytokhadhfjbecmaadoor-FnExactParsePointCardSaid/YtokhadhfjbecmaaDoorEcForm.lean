/- The program's formOf; the methods of the forms (written by wip/gen/ecform.py). -/
import Derived.Test.YtokhadhfjbecmaaDoorEcBox
import Derived.Test.YtokhadhfjbecmaaDoorCuIn
namespace Go.Proofs.YtokhadhfjbecmaaDoor
open Go.RowKit Go.Joins

set_option maxHeartbeats 1000000 in
theorem formOf_0 (a b : Int) (w : World) (h0 : a = 0) : Calls Tryd.prog 35 #[.agg #[.int .i64 a, .int .i64 b]] w (fun e w' => e = .returned (.iface 76 (.agg #[.int .i64 b])) ∧ Below w.heap.size w w') := by
  subst h0
  have h := Below.refl w.heap.size w
  have hA := below_alloc1 w (.cells #[.int .i64 0, .int .i64 b] 28)
  have hx0 := Box.new w 28 #[.int .i64 0, .int .i64 b]
  replace h := Below.step h hA
  clear hA
  obtain ⟨k00, k01⟩ := hx0.two
  have l0 := hx0.lt
  go_enter Tryd.func35, Tryd.ntmps35
  go_wp2_with fail
  go_ret
  exact ⟨rfl, h⟩


set_option maxHeartbeats 1000000 in
theorem formOf_l (a b : Int) (w : World) (h0 : a ≠ 0) (h1 : b = 0) : Calls Tryd.prog 35 #[.agg #[.int .i64 a, .int .i64 b]] w (fun e w' => e = .returned (.iface 78 (.agg #[.int .i64 a])) ∧ Below w.heap.size w w') := by
  subst h1
  have e0 : (a == 0) = false := by simp [h0]
  clear h0
  have h := Below.refl w.heap.size w
  have hA := below_alloc1 w (.cells #[.int .i64 a, .int .i64 0] 28)
  have hx0 := Box.new w 28 #[.int .i64 a, .int .i64 0]
  replace h := Below.step h hA
  clear hA
  obtain ⟨k00, k01⟩ := hx0.two
  have l0 := hx0.lt
  go_enter Tryd.func35, Tryd.ntmps35
  go_wp2_with fail
  go_ret
  exact ⟨rfl, h⟩


set_option maxHeartbeats 1000000 in
theorem formOf_f (a b : Int) (w : World) (h0 : a ≠ 0) (h1 : b ≠ 0) : Calls Tryd.prog 35 #[.agg #[.int .i64 a, .int .i64 b]] w (fun e w' => e = .returned (.iface 80 (.agg #[.int .i64 a, .int .i64 b])) ∧ Below w.heap.size w w') := by
  have e0 : (a == 0) = false := by simp [h0]
  have e1 : (b == 0) = false := by simp [h1]
  clear h0
  clear h1
  have h := Below.refl w.heap.size w
  have hA := below_alloc1 w (.cells #[.int .i64 a, .int .i64 b] 28)
  have hx0 := Box.new w 28 #[.int .i64 a, .int .i64 b]
  replace h := Below.step h hA
  clear hA
  obtain ⟨k00, k01⟩ := hx0.two
  have l0 := hx0.lt
  go_enter Tryd.func35, Tryd.ntmps35
  go_wp2_with fail
  go_ret
  exact ⟨rfl, h⟩


set_option maxHeartbeats 1000000 in
theorem core_L (a : Int) (w : World) (ha : -1000 ≤ a ∧ a ≤ 1000) (D : Int) (hD : 4 * a * a * a = D) : Calls Tryd.prog 95 #[.agg #[.int .i64 a]] w (GivesI w D) := by
  obtain ⟨⟨p1, p2⟩, ⟨p3, p4⟩, ⟨p5, p6⟩, ⟨p7, p8⟩⟩ := ecD_bd ha (b := 0) (by omega)
  replace hD := Lib.hid hD
  have h := Below.refl w.heap.size w
  have hA := below_alloc1 w (.cells #[.int .i64 a] 78)
  have hx0 := Box.new w 78 #[.int .i64 a]
  replace h := Below.step h hA
  clear hA
  have k00 := hx0.one
  have l0 := hx0.lt
  go_enter Tryd.func95, Tryd.ntmps95
  go_wp2_with fail
  go_ret
  exact ⟨congrArg (fun z => Ending.returned (.int .i64 z)) hD.out, h⟩


set_option maxHeartbeats 1000000 in
theorem at_L (a x : Int) (w : World) (ha : -1000 ≤ a ∧ a ≤ 1000) (hx : -1000000 ≤ x ∧ x ≤ 1000000) (D : Int) (hD : (x * x + a) * x = D) : Calls Tryd.prog 94 #[.agg #[.int .i64 a], .int .i64 x] w (GivesI w D) := by
  obtain ⟨⟨p1, p2⟩, ⟨p3, p4⟩, ⟨p5, p6⟩, ⟨p7, p8⟩⟩ := ecV_bd ha hx
  replace hD := Lib.hid hD
  have h := Below.refl w.heap.size w
  have hA := below_alloc1 w (.cells #[.int .i64 a] 78)
  have hx0 := Box.new w 78 #[.int .i64 a]
  replace h := Below.step h hA
  clear hA
  have k00 := hx0.one
  have l0 := hx0.lt
  go_enter Tryd.func94, Tryd.ntmps94
  go_wp2_with fail
  go_ret
  exact ⟨congrArg (fun z => Ending.returned (.int .i64 z)) hD.out, h⟩


set_option maxHeartbeats 1000000 in
theorem core_K (b : Int) (w : World) (hb : -10000 ≤ b ∧ b ≤ 10000) (D : Int) (hD : 27 * b * b = D) : Calls Tryd.prog 93 #[.agg #[.int .i64 b]] w (GivesI w D) := by
  obtain ⟨⟨p1, p2⟩, ⟨p3, p4⟩, ⟨p5, p6⟩, ⟨p7, p8⟩⟩ := ecD_bd (a := 0) (by omega) hb
  replace hD := Lib.hid hD
  have h := Below.refl w.heap.size w
  have hA := below_alloc1 w (.cells #[.int .i64 b] 76)
  have hx0 := Box.new w 76 #[.int .i64 b]
  replace h := Below.step h hA
  clear hA
  have k00 := hx0.one
  have l0 := hx0.lt
  go_enter Tryd.func93, Tryd.ntmps93
  go_wp2_with fail
  go_ret
  exact ⟨congrArg (fun z => Ending.returned (.int .i64 z)) hD.out, h⟩


set_option maxHeartbeats 1000000 in
theorem at_K (b x : Int) (w : World) (hb : -10000 ≤ b ∧ b ≤ 10000) (hx : -1000000 ≤ x ∧ x ≤ 1000000) (D : Int) (hD : x * x * x + b = D) : Calls Tryd.prog 92 #[.agg #[.int .i64 b], .int .i64 x] w (GivesI w D) := by
  obtain ⟨⟨p1, p2⟩, ⟨p3, p4⟩, ⟨p5, p6⟩, ⟨p7, p8⟩⟩ := ecV_bd (a := 0) (by omega) hx
  replace hD := Lib.hid hD
  have h := Below.refl w.heap.size w
  have hA := below_alloc1 w (.cells #[.int .i64 b] 76)
  have hx0 := Box.new w 76 #[.int .i64 b]
  replace h := Below.step h hA
  clear hA
  have k00 := hx0.one
  have l0 := hx0.lt
  go_enter Tryd.func92, Tryd.ntmps92
  go_wp2_with fail
  go_ret
  exact ⟨congrArg (fun z => Ending.returned (.int .i64 z)) hD.out, h⟩


set_option maxHeartbeats 1000000 in
theorem core_F (a b : Int) (w : World) (ha : -1000 ≤ a ∧ a ≤ 1000) (hb : -10000 ≤ b ∧ b ≤ 10000) (D : Int) (hD : 4 * a * a * a + 27 * b * b = D) : Calls Tryd.prog 97 #[.agg #[.int .i64 a, .int .i64 b]] w (GivesI w D) := by
  obtain ⟨⟨p1, p2⟩, ⟨p3, p4⟩, ⟨p5, p6⟩, ⟨p7, p8⟩⟩ := ecD_bd ha hb
  replace hD := Lib.hid hD
  have h := Below.refl w.heap.size w
  have hA := below_alloc1 w (.cells #[.int .i64 a, .int .i64 b] 80)
  have hx0 := Box.new w 80 #[.int .i64 a, .int .i64 b]
  replace h := Below.step h hA
  clear hA
  obtain ⟨k00, k01⟩ := hx0.two
  have l0 := hx0.lt
  go_enter Tryd.func97, Tryd.ntmps97
  go_wp2_with fail
  go_ret
  exact ⟨congrArg (fun z => Ending.returned (.int .i64 z)) hD.out, h⟩


set_option maxHeartbeats 1000000 in
theorem at_F (a b x : Int) (w : World) (ha : -1000 ≤ a ∧ a ≤ 1000) (hb : -10000 ≤ b ∧ b ≤ 10000) (hx : -1000000 ≤ x ∧ x ≤ 1000000) (D : Int) (hD : (x * x + a) * x + b = D) : Calls Tryd.prog 96 #[.agg #[.int .i64 a, .int .i64 b], .int .i64 x] w (GivesI w D) := by
  obtain ⟨⟨p1, p2⟩, ⟨p3, p4⟩, ⟨p5, p6⟩, ⟨p7, p8⟩⟩ := ecV_bd ha hx
  replace hD := Lib.hid hD
  have h := Below.refl w.heap.size w
  have hA := below_alloc1 w (.cells #[.int .i64 a, .int .i64 b] 80)
  have hx0 := Box.new w 80 #[.int .i64 a, .int .i64 b]
  replace h := Below.step h hA
  clear hA
  obtain ⟨k00, k01⟩ := hx0.two
  have l0 := hx0.lt
  go_enter Tryd.func96, Tryd.ntmps96
  go_wp2_with fail
  go_ret
  exact ⟨congrArg (fun z => Ending.returned (.int .i64 z)) hD.out, h⟩


/-- A form of the curve a, b: its dynamic type, its value, its methods. -/
structure Form (T : TypeId) (V : Value) (a b : Int) (fc fa : FuncId) : Prop where
  nc : ∀ w, (nilAhead 221 T V "loop.example/g01004/impl.core").run Tryd.prog w = .ok (some false) w
  mc : ∀ w, (method 221 T V "loop.example/g01004/impl.core").run Tryd.prog w = .ok (fc, V) w
  na : ∀ w, (nilAhead 221 T V "loop.example/g01004/impl.at").run Tryd.prog w = .ok (some false) w
  ma : ∀ w, (method 221 T V "loop.example/g01004/impl.at").run Tryd.prog w = .ok (fa, V) w
  ec : ∀ (args : Array Value) w, (callFunc fc args).run Tryd.prog w = .ok (.enter fc args) w
  ea : ∀ (args : Array Value) w, (callFunc fa args).run Tryd.prog w = .ok (.enter fa args) w
  cc : ∀ w, Calls Tryd.prog fc #[V] w (GivesI w (ecD a b))
  ca : ∀ (x : Int) w, -1000000 ≤ x → x ≤ 1000000 → Calls Tryd.prog fa #[V, .int .i64 x] w (GivesI w (ecV a b x))

theorem form_L (a : Int) (ha : -1000 ≤ a ∧ a ≤ 1000) : Form 78 (.agg #[.int .i64 a]) a 0 95 94 where
  nc w := by kernel_rfl
  mc w := by kernel_rfl
  na w := by kernel_rfl
  ma w := by kernel_rfl
  ec args w := by kernel_rfl
  ea args w := by kernel_rfl
  cc w := core_L a w ha _ (by unfold ecD; omega)
  ca x w h1 h2 := at_L a x w ha ⟨h1, h2⟩ _ (ecV_linear a x)

theorem form_K (b : Int) (hb : -10000 ≤ b ∧ b ≤ 10000) : Form 76 (.agg #[.int .i64 b]) 0 b 93 92 where
  nc w := by kernel_rfl
  mc w := by kernel_rfl
  na w := by kernel_rfl
  ma w := by kernel_rfl
  ec args w := by kernel_rfl
  ea args w := by kernel_rfl
  cc w := core_K b w hb _ (by unfold ecD; omega)
  ca x w h1 h2 := at_K b x w hb ⟨h1, h2⟩ _ (ecV_constant b x)

theorem form_F (a b : Int) (ha : -1000 ≤ a ∧ a ≤ 1000) (hb : -10000 ≤ b ∧ b ≤ 10000) : Form 80 (.agg #[.int .i64 a, .int .i64 b]) a b 97 96 where
  nc w := by kernel_rfl
  mc w := by kernel_rfl
  na w := by kernel_rfl
  ma w := by kernel_rfl
  ec args w := by kernel_rfl
  ea args w := by kernel_rfl
  cc w := core_F a b w ha hb _ (rfl)
  ca x w h1 h2 := at_F a b x w ha hb ⟨h1, h2⟩ _ (ecV_full a b x)

theorem formOf_any (a b : Int) (ha : -1000 ≤ a ∧ a ≤ 1000) (hb : -10000 ≤ b ∧ b ≤ 10000) : ∃ T V fc fa, Form T V a b fc fa ∧ ∀ w, Calls Tryd.prog 35 #[.agg #[.int .i64 a, .int .i64 b]] w fun e w' => e = .returned (.iface T V) ∧ Below w.heap.size w w' := by
  by_cases h0 : a = 0
  · subst h0; exact ⟨_, _, _, _, form_K b hb, fun w => formOf_0 0 b w rfl⟩
  · by_cases h1 : b = 0
    · subst h1; exact ⟨_, _, _, _, form_L a ha, fun w => formOf_l a 0 w h0 rfl⟩
    · exact ⟨_, _, _, _, form_F a b ha hb, fun w => formOf_f a b w h0 h1⟩
end Go.Proofs.YtokhadhfjbecmaaDoor
