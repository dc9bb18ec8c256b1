/- The program's formOf; the methods of the forms (written by wip/gen/ecform.py). -/
import Derived.Test.YtabcnkobojkdhaaEcBox
import Derived.Test.YtabcnkobojkdhaaCuIn
namespace Go.Proofs.Ytabcnkobojkdhaa
open Go.RowKit Go.Joins

set_option maxHeartbeats 1000000 in
theorem formOf_0 (a b : Int) (w : World) (h0 : a = 0) : Calls Try.prog 42 #[.agg #[.int .i64 a, .int .i64 b]] w (fun e w' => e = .returned (.iface 69 (.agg #[.int .i64 b])) ∧ Below w.heap.size w w') := by
  subst h0
  have h := Below.refl w.heap.size w
  have hA := below_alloc1 w (.cells #[.int .i64 0, .int .i64 b] 27)
  have hx0 := Box.new w 27 #[.int .i64 0, .int .i64 b]
  replace h := Below.step h hA
  clear hA
  obtain ⟨k00, k01⟩ := hx0.two
  have l0 := hx0.lt
  go_enter Try.func42, Try.ntmps42
  go_wp2_with fail
  go_ret
  exact ⟨rfl, h⟩


set_option maxHeartbeats 1000000 in
theorem formOf_l (a b : Int) (w : World) (h0 : a ≠ 0) (h1 : b = 0) : Calls Try.prog 42 #[.agg #[.int .i64 a, .int .i64 b]] w (fun e w' => e = .returned (.iface 71 (.agg #[.int .i64 a])) ∧ Below w.heap.size w w') := by
  subst h1
  have e0 : (a == 0) = false := by simp [h0]
  clear h0
  have h := Below.refl w.heap.size w
  have hA := below_alloc1 w (.cells #[.int .i64 a, .int .i64 0] 27)
  have hx0 := Box.new w 27 #[.int .i64 a, .int .i64 0]
  replace h := Below.step h hA
  clear hA
  obtain ⟨k00, k01⟩ := hx0.two
  have l0 := hx0.lt
  go_enter Try.func42, Try.ntmps42
  go_wp2_with fail
  go_ret
  exact ⟨rfl, h⟩


set_option maxHeartbeats 1000000 in
theorem formOf_f (a b : Int) (w : World) (h0 : a ≠ 0) (h1 : b ≠ 0) : Calls Try.prog 42 #[.agg #[.int .i64 a, .int .i64 b]] w (fun e w' => e = .returned (.iface 73 (.agg #[.int .i64 a, .int .i64 b])) ∧ Below w.heap.size w w') := by
  have e0 : (a == 0) = false := by simp [h0]
  have e1 : (b == 0) = false := by simp [h1]
  clear h0
  clear h1
  have h := Below.refl w.heap.size w
  have hA := below_alloc1 w (.cells #[.int .i64 a, .int .i64 b] 27)
  have hx0 := Box.new w 27 #[.int .i64 a, .int .i64 b]
  replace h := Below.step h hA
  clear hA
  obtain ⟨k00, k01⟩ := hx0.two
  have l0 := hx0.lt
  go_enter Try.func42, Try.ntmps42
  go_wp2_with fail
  go_ret
  exact ⟨rfl, h⟩


set_option maxHeartbeats 1000000 in
theorem core_L (a : Int) (w : World) (ha : -1000 ≤ a ∧ a ≤ 1000) (D : Int) (hD : 4 * a * a * a = D) : Calls Try.prog 64 #[.agg #[.int .i64 a]] w (GivesI w D) := by
  obtain ⟨⟨p1, p2⟩, ⟨p3, p4⟩, ⟨p5, p6⟩, ⟨p7, p8⟩⟩ := ecD_bd ha (b := 0) (by omega)
  replace hD := Lib.hid hD
  have h := Below.refl w.heap.size w
  have hA := below_alloc1 w (.cells #[.int .i64 a] 71)
  have hx0 := Box.new w 71 #[.int .i64 a]
  replace h := Below.step h hA
  clear hA
  have k00 := hx0.one
  have l0 := hx0.lt
  go_enter Try.func64, Try.ntmps64
  go_wp2_with fail
  go_ret
  exact ⟨congrArg (fun z => Ending.returned (.int .i64 z)) hD.out, h⟩


set_option maxHeartbeats 1000000 in
theorem at_L (a x : Int) (w : World) (ha : -1000 ≤ a ∧ a ≤ 1000) (hx : -1000000 ≤ x ∧ x ≤ 1000000) (D : Int) (hD : (x * x + a) * x = D) : Calls Try.prog 63 #[.agg #[.int .i64 a], .int .i64 x] w (GivesI w D) := by
  obtain ⟨⟨p1, p2⟩, ⟨p3, p4⟩, ⟨p5, p6⟩, ⟨p7, p8⟩⟩ := ecV_bd ha hx
  replace hD := Lib.hid hD
  have h := Below.refl w.heap.size w
  have hA := below_alloc1 w (.cells #[.int .i64 a] 71)
  have hx0 := Box.new w 71 #[.int .i64 a]
  replace h := Below.step h hA
  clear hA
  have k00 := hx0.one
  have l0 := hx0.lt
  go_enter Try.func63, Try.ntmps63
  go_wp2_with fail
  go_ret
  exact ⟨congrArg (fun z => Ending.returned (.int .i64 z)) hD.out, h⟩


set_option maxHeartbeats 1000000 in
theorem core_K (b : Int) (w : World) (hb : -10000 ≤ b ∧ b ≤ 10000) (D : Int) (hD : 27 * b * b = D) : Calls Try.prog 62 #[.agg #[.int .i64 b]] w (GivesI w D) := by
  obtain ⟨⟨p1, p2⟩, ⟨p3, p4⟩, ⟨p5, p6⟩, ⟨p7, p8⟩⟩ := ecD_bd (a := 0) (by omega) hb
  replace hD := Lib.hid hD
  have h := Below.refl w.heap.size w
  have hA := below_alloc1 w (.cells #[.int .i64 b] 69)
  have hx0 := Box.new w 69 #[.int .i64 b]
  replace h := Below.step h hA
  clear hA
  have k00 := hx0.one
  have l0 := hx0.lt
  go_enter Try.func62, Try.ntmps62
  go_wp2_with fail
  go_ret
  exact ⟨congrArg (fun z => Ending.returned (.int .i64 z)) hD.out, h⟩


set_option maxHeartbeats 1000000 in
theorem at_K (b x : Int) (w : World) (hb : -10000 ≤ b ∧ b ≤ 10000) (hx : -1000000 ≤ x ∧ x ≤ 1000000) (D : Int) (hD : x * x * x + b = D) : Calls Try.prog 61 #[.agg #[.int .i64 b], .int .i64 x] w (GivesI w D) := by
  obtain ⟨⟨p1, p2⟩, ⟨p3, p4⟩, ⟨p5, p6⟩, ⟨p7, p8⟩⟩ := ecV_bd (a := 0) (by omega) hx
  replace hD := Lib.hid hD
  have h := Below.refl w.heap.size w
  have hA := below_alloc1 w (.cells #[.int .i64 b] 69)
  have hx0 := Box.new w 69 #[.int .i64 b]
  replace h := Below.step h hA
  clear hA
  have k00 := hx0.one
  have l0 := hx0.lt
  go_enter Try.func61, Try.ntmps61
  go_wp2_with fail
  go_ret
  exact ⟨congrArg (fun z => Ending.returned (.int .i64 z)) hD.out, h⟩


set_option maxHeartbeats 1000000 in
theorem core_F (a b : Int) (w : World) (ha : -1000 ≤ a ∧ a ≤ 1000) (hb : -10000 ≤ b ∧ b ≤ 10000) (D : Int) (hD : 4 * a * a * a + 27 * b * b = D) : Calls Try.prog 66 #[.agg #[.int .i64 a, .int .i64 b]] w (GivesI w D) := by
  obtain ⟨⟨p1, p2⟩, ⟨p3, p4⟩, ⟨p5, p6⟩, ⟨p7, p8⟩⟩ := ecD_bd ha hb
  replace hD := Lib.hid hD
  have h := Below.refl w.heap.size w
  have hA := below_alloc1 w (.cells #[.int .i64 a, .int .i64 b] 73)
  have hx0 := Box.new w 73 #[.int .i64 a, .int .i64 b]
  replace h := Below.step h hA
  clear hA
  obtain ⟨k00, k01⟩ := hx0.two
  have l0 := hx0.lt
  go_enter Try.func66, Try.ntmps66
  go_wp2_with fail
  go_ret
  exact ⟨congrArg (fun z => Ending.returned (.int .i64 z)) hD.out, h⟩


set_option maxHeartbeats 1000000 in
theorem at_F (a b x : Int) (w : World) (ha : -1000 ≤ a ∧ a ≤ 1000) (hb : -10000 ≤ b ∧ b ≤ 10000) (hx : -1000000 ≤ x ∧ x ≤ 1000000) (D : Int) (hD : (x * x + a) * x + b = D) : Calls Try.prog 65 #[.agg #[.int .i64 a, .int .i64 b], .int .i64 x] w (GivesI w D) := by
  obtain ⟨⟨p1, p2⟩, ⟨p3, p4⟩, ⟨p5, p6⟩, ⟨p7, p8⟩⟩ := ecV_bd ha hx
  replace hD := Lib.hid hD
  have h := Below.refl w.heap.size w
  have hA := below_alloc1 w (.cells #[.int .i64 a, .int .i64 b] 73)
  have hx0 := Box.new w 73 #[.int .i64 a, .int .i64 b]
  replace h := Below.step h hA
  clear hA
  obtain ⟨k00, k01⟩ := hx0.two
  have l0 := hx0.lt
  go_enter Try.func65, Try.ntmps65
  go_wp2_with fail
  go_ret
  exact ⟨congrArg (fun z => Ending.returned (.int .i64 z)) hD.out, h⟩


/-- A form of the curve a, b: its dynamic type, its value, its methods. -/
structure Form (T : TypeId) (V : Value) (a b : Int) (fc fa : FuncId) : Prop where
  nc : ∀ w, (nilAhead 190 T V "loop.example/g01004/impl.core").run Try.prog w = .ok (some false) w
  mc : ∀ w, (method 190 T V "loop.example/g01004/impl.core").run Try.prog w = .ok (fc, V) w
  na : ∀ w, (nilAhead 190 T V "loop.example/g01004/impl.at").run Try.prog w = .ok (some false) w
  ma : ∀ w, (method 190 T V "loop.example/g01004/impl.at").run Try.prog w = .ok (fa, V) w
  ec : ∀ (args : Array Value) w, (callFunc fc args).run Try.prog w = .ok (.enter fc args) w
  ea : ∀ (args : Array Value) w, (callFunc fa args).run Try.prog w = .ok (.enter fa args) w
  cc : ∀ w, Calls Try.prog fc #[V] w (GivesI w (ecD a b))
  ca : ∀ (x : Int) w, -1000000 ≤ x → x ≤ 1000000 → Calls Try.prog fa #[V, .int .i64 x] w (GivesI w (ecV a b x))

theorem form_L (a : Int) (ha : -1000 ≤ a ∧ a ≤ 1000) : Form 71 (.agg #[.int .i64 a]) a 0 64 63 where
  nc w := by kernel_rfl
  mc w := by kernel_rfl
  na w := by kernel_rfl
  ma w := by kernel_rfl
  ec args w := by kernel_rfl
  ea args w := by kernel_rfl
  cc w := core_L a w ha _ (by unfold ecD; omega)
  ca x w h1 h2 := at_L a x w ha ⟨h1, h2⟩ _ (ecV_linear a x)

theorem form_K (b : Int) (hb : -10000 ≤ b ∧ b ≤ 10000) : Form 69 (.agg #[.int .i64 b]) 0 b 62 61 where
  nc w := by kernel_rfl
  mc w := by kernel_rfl
  na w := by kernel_rfl
  ma w := by kernel_rfl
  ec args w := by kernel_rfl
  ea args w := by kernel_rfl
  cc w := core_K b w hb _ (by unfold ecD; omega)
  ca x w h1 h2 := at_K b x w hb ⟨h1, h2⟩ _ (ecV_constant b x)

theorem form_F (a b : Int) (ha : -1000 ≤ a ∧ a ≤ 1000) (hb : -10000 ≤ b ∧ b ≤ 10000) : Form 73 (.agg #[.int .i64 a, .int .i64 b]) a b 66 65 where
  nc w := by kernel_rfl
  mc w := by kernel_rfl
  na w := by kernel_rfl
  ma w := by kernel_rfl
  ec args w := by kernel_rfl
  ea args w := by kernel_rfl
  cc w := core_F a b w ha hb _ (rfl)
  ca x w h1 h2 := at_F a b x w ha hb ⟨h1, h2⟩ _ (ecV_full a b x)

theorem formOf_any (a b : Int) (ha : -1000 ≤ a ∧ a ≤ 1000) (hb : -10000 ≤ b ∧ b ≤ 10000) : ∃ T V fc fa, Form T V a b fc fa ∧ ∀ w, Calls Try.prog 42 #[.agg #[.int .i64 a, .int .i64 b]] w fun e w' => e = .returned (.iface T V) ∧ Below w.heap.size w w' := by
  by_cases h0 : a = 0
  · subst h0; exact ⟨_, _, _, _, form_K b hb, fun w => formOf_0 0 b w rfl⟩
  · by_cases h1 : b = 0
    · subst h1; exact ⟨_, _, _, _, form_L a ha, fun w => formOf_l a 0 w h0 rfl⟩
    · exact ⟨_, _, _, _, form_F a b ha hb, fun w => formOf_f a b w h0 h1⟩
end Go.Proofs.Ytabcnkobojkdhaa
