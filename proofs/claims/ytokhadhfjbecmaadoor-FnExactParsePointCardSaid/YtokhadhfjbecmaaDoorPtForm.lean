/- The program's forms at wide coefficients; squareOfY (written by wip/gen/ptform.py). -/
import Derived.Test.YtokhadhfjbecmaaDoorEcForm
import Derived.Test.YtokhadhfjbecmaaDoorPtBox
namespace Go.Proofs.YtokhadhfjbecmaaDoor
open Go.RowKit Go.Joins

theorem ecW_bd {a x : Int} (ha : -160000000 ≤ a ∧ a ≤ 160000000) (hx : -10000 ≤ x ∧ x ≤ 10000) :
    (0 ≤ x * x ∧ x * x ≤ 100000000) ∧ (-1000000000000 ≤ x * x * x ∧ x * x * x ≤ 1000000000000) ∧ (-1600000000000 ≤ a * x ∧ a * x ≤ 1600000000000) ∧ (-2600000000000 ≤ (x * x + a) * x ∧ (x * x + a) * x ≤ 2600000000000) := by
  have k0 : 0 ≤ x * x := sq_nn x
  have k1 := fr_mul_bd hx.1 hx.2 hx.1 hx.2
  have k2 := fr_mul_bd (a := x * x) (b := x) (M := 100000000) (N := 10000) (by omega) (by omega) hx.1 hx.2
  have k3 := fr_mul_bd ha.1 ha.2 hx.1 hx.2
  have k4 := fr_mul_bd (a := x * x + a) (b := x) (M := 260000000) (N := 10000) (by omega) (by omega) hx.1 hx.2
  omega

set_option maxHeartbeats 1000000 in
theorem wat_L (a x : Int) (w : World) (ha : -160000000 ≤ a ∧ a ≤ 160000000) (hx : -10000 ≤ x ∧ x ≤ 10000) (D : Int) (hD : (x * x + a) * x = D) : Calls Tryd.prog 94 #[.agg #[.int .i64 a], .int .i64 x] w (GivesI w D) := by
  obtain ⟨⟨p1, p2⟩, ⟨p3, p4⟩, ⟨p5, p6⟩, ⟨p7, p8⟩⟩ := ecW_bd ha hx
  replace hD := Lib.hid hD
  have h := Below.refl w.heap.size w
  have hA := below_alloc1 w (.cells #[.int .i64 a] 78)
  have hx0 := Box.new w 78 #[.int .i64 a]
  replace h := Below.step h hA
  clear hA
  have k00 := hx0.one
  have l0 := hx0.lt
  go_enter Tryd.func94, Tryd.ntmps94
  go_wp2_with fail
  go_ret
  exact ⟨congrArg (fun z => Ending.returned (.int .i64 z)) hD.out, h⟩


set_option maxHeartbeats 1000000 in
theorem wat_K (b x : Int) (w : World) (hb : -640000000000 ≤ b ∧ b ≤ 640000000000) (hx : -10000 ≤ x ∧ x ≤ 10000) (D : Int) (hD : x * x * x + b = D) : Calls Tryd.prog 92 #[.agg #[.int .i64 b], .int .i64 x] w (GivesI w D) := by
  obtain ⟨⟨p1, p2⟩, ⟨p3, p4⟩, ⟨p5, p6⟩, ⟨p7, p8⟩⟩ := ecW_bd (a := 0) (by omega) hx
  replace hD := Lib.hid hD
  have h := Below.refl w.heap.size w
  have hA := below_alloc1 w (.cells #[.int .i64 b] 76)
  have hx0 := Box.new w 76 #[.int .i64 b]
  replace h := Below.step h hA
  clear hA
  have k00 := hx0.one
  have l0 := hx0.lt
  go_enter Tryd.func92, Tryd.ntmps92
  go_wp2_with fail
  go_ret
  exact ⟨congrArg (fun z => Ending.returned (.int .i64 z)) hD.out, h⟩


set_option maxHeartbeats 1000000 in
theorem wat_F (a b x : Int) (w : World) (ha : -160000000 ≤ a ∧ a ≤ 160000000) (hb : -640000000000 ≤ b ∧ b ≤ 640000000000) (hx : -10000 ≤ x ∧ x ≤ 10000) (D : Int) (hD : (x * x + a) * x + b = D) : Calls Tryd.prog 96 #[.agg #[.int .i64 a, .int .i64 b], .int .i64 x] w (GivesI w D) := by
  obtain ⟨⟨p1, p2⟩, ⟨p3, p4⟩, ⟨p5, p6⟩, ⟨p7, p8⟩⟩ := ecW_bd ha hx
  replace hD := Lib.hid hD
  have h := Below.refl w.heap.size w
  have hA := below_alloc1 w (.cells #[.int .i64 a, .int .i64 b] 80)
  have hx0 := Box.new w 80 #[.int .i64 a, .int .i64 b]
  replace h := Below.step h hA
  clear hA
  obtain ⟨k00, k01⟩ := hx0.two
  have l0 := hx0.lt
  go_enter Tryd.func96, Tryd.ntmps96
  go_wp2_with fail
  go_ret
  exact ⟨congrArg (fun z => Ending.returned (.int .i64 z)) hD.out, h⟩


/-- A form with its value at small x, its coefficients being wide. -/
structure FormW (T : TypeId) (V : Value) (a b : Int) (fa : FuncId) : Prop where
  na : ∀ w, (nilAhead 221 T V "loop.example/g01004/impl.at").run Tryd.prog w = .ok (some false) w
  ma : ∀ w, (method 221 T V "loop.example/g01004/impl.at").run Tryd.prog w = .ok (fa, V) w
  ea : ∀ (args : Array Value) w, (callFunc fa args).run Tryd.prog w = .ok (.enter fa args) w
  ca : ∀ (x : Int) w, -10000 ≤ x → x ≤ 10000 → Calls Tryd.prog fa #[V, .int .i64 x] w (GivesI w (ecV a b x))

theorem formW_L (a : Int) (ha : -160000000 ≤ a ∧ a ≤ 160000000) : FormW 78 (.agg #[.int .i64 a]) a 0 94 where
  na w := by kernel_rfl
  ma w := by kernel_rfl
  ea args w := by kernel_rfl
  ca x w h1 h2 := wat_L a x w ha ⟨h1, h2⟩ _ (ecV_linear a x)

theorem formW_K (b : Int) (hb : -640000000000 ≤ b ∧ b ≤ 640000000000) : FormW 76 (.agg #[.int .i64 b]) 0 b 92 where
  na w := by kernel_rfl
  ma w := by kernel_rfl
  ea args w := by kernel_rfl
  ca x w h1 h2 := wat_K b x w hb ⟨h1, h2⟩ _ (ecV_constant b x)

theorem formW_F (a b : Int) (ha : -160000000 ≤ a ∧ a ≤ 160000000) (hb : -640000000000 ≤ b ∧ b ≤ 640000000000) : FormW 80 (.agg #[.int .i64 a, .int .i64 b]) a b 96 where
  na w := by kernel_rfl
  ma w := by kernel_rfl
  ea args w := by kernel_rfl
  ca x w h1 h2 := wat_F a b x w ha hb ⟨h1, h2⟩ _ (ecV_full a b x)

theorem formOf_wide (a b : Int) (ha : -160000000 ≤ a ∧ a ≤ 160000000) (hb : -640000000000 ≤ b ∧ b ≤ 640000000000) : ∃ T V fa, FormW T V a b fa ∧ ∀ w, Calls Tryd.prog 35 #[.agg #[.int .i64 a, .int .i64 b]] w fun e w' => e = .returned (.iface T V) ∧ Below w.heap.size w w' := by
  by_cases h0 : a = 0
  · subst h0; exact ⟨_, _, _, formW_K b hb, fun w => formOf_0 0 b w rfl⟩
  · by_cases h1 : b = 0
    · subst h1; exact ⟨_, _, _, formW_L a ha, fun w => formOf_l a 0 w h0 rfl⟩
    · exact ⟨_, _, _, formW_F a b ha hb, fun w => formOf_f a b w h0 h1⟩
theorem scales_bd {a b P Q : Int} (ha : -1000 ≤ a ∧ a ≤ 1000) (hb : -10000 ≤ b ∧ b ≤ 10000) (hP : 1 ≤ P ∧ P ≤ 160000) (hQ : 1 ≤ Q ∧ Q ≤ 64000000) : (-160000000 ≤ a * P ∧ a * P ≤ 160000000) ∧ (-640000000000 ≤ b * Q ∧ b * Q ≤ 640000000000) := by
  have k1 := fr_mul_bd ha.1 ha.2 (show -160000 ≤ P by omega) hP.2
  have k2 := fr_mul_bd hb.1 hb.2 (show -64000000 ≤ Q by omega) hQ.2
  omega

set_option maxHeartbeats 1000000 in
theorem scalesW_any (u P Q : Int) (w : World) (hu : 1 ≤ u ∧ u ≤ 20) (hP : u * u * (u * u) = P) (hQ : u * u * (u * u) * (u * u) = Q) : Calls Tryd.prog 47 #[.int .i64 u] w (fun e w' => e = .returned (.tuple #[.int .i64 P, .int .i64 Q]) ∧ w = w') := by
  obtain ⟨⟨p1, p2⟩, ⟨p3, p4⟩, ⟨p5, p6⟩, ⟨p7, p8⟩⟩ := ptE_bd hu
  replace hP := Lib.hid hP
  replace hQ := Lib.hid hQ
  have h := Below.refl w.heap.size w
  go_enter Tryd.func47, Tryd.ntmps47
  go_wp2_with fail
  rw [hQ.out, hP.out]
  go_ret2
  exact ⟨rfl, rfl⟩


set_option maxHeartbeats 1000000 in
theorem squareOfY_any (a b x u V : Int) (w : World) (ha : -1000 ≤ a ∧ a ≤ 1000) (hb : -10000 ≤ b ∧ b ≤ 10000) (hx : -10000 ≤ x ∧ x ≤ 10000) (hu : 1 ≤ u ∧ u ≤ 20) (hV : ptV a b x u = V) : Calls Tryd.prog 27 #[.agg #[.int .i64 a, .int .i64 b], .int .i64 x, .int .i64 u] w (GivesI w V) := by
  obtain ⟨P, hP⟩ : ∃ P, u * u * (u * u) = P := ⟨_, rfl⟩
  obtain ⟨Q, hQ⟩ : ∃ Q, u * u * (u * u) * (u * u) = Q := ⟨_, rfl⟩
  have hPQ := ptE_bd hu
  rw [hQ, hP] at hPQ
  have sf := fun W => scalesW_any u P Q W hu hP hQ
  replace sf := Lib.hid sf
  have hs := scales_bd ha hb hPQ.2.1 hPQ.2.2.1
  have he := ptV_form (a := a) (b := b) (x := x) hP hQ
  rw [hV] at he
  obtain ⟨A, hA'⟩ : ∃ A, A = a * P := ⟨_, rfl⟩
  obtain ⟨B, hB'⟩ : ∃ B, B = b * Q := ⟨_, rfl⟩
  obtain ⟨T, V', fa, hF, hf⟩ := formOf_wide (a * P) (b * Q) hs.1 hs.2
  have n1 := hF.na
  have m1 := hF.ma
  have e1 := hF.ea
  have c1 := fun W => hF.ca x W hx.1 hx.2
  rw [he] at c1
  replace c1 := Lib.hid c1
  replace hf := Lib.hid hf
  have q1 := hs.1
  have q2 := hs.2
  clear hF he hA' hB' A B hPQ hP hQ hV hs ha hb hx hu
  have h := Below.refl w.heap.size w
  have hA := below_alloc1 w (.cells #[.int .i64 a, .int .i64 b] 28)
  have hx0 := Box.new w 28 #[.int .i64 a, .int .i64 b]
  replace h := Below.step h hA
  clear hA
  obtain ⟨k00, k01⟩ := hx0.two
  have l0 := hx0.lt
  go_enter Tryd.func27, Tryd.ntmps27
  go_wp2_with fail
  refine (sf.out _).mono ?_
  rintro e w1 ⟨rfl, rfl⟩
  go_wp2_with fail
  refine (hf.out _).mono ?_
  rintro e w2 ⟨rfl, hb⟩
  replace h := Below.step h hb
  replace hx0 := hx0.kept hb
  clear hb k00 k01 l0
  obtain ⟨k00, k01⟩ := hx0.two
  have l0 := hx0.lt
  go_wp2_with fail
  refine (c1.out _).mono ?_
  rintro e w3 ⟨rfl, hb⟩
  replace h := Below.step h hb
  replace hx0 := hx0.kept hb
  clear hb k00 k01 l0
  obtain ⟨k00, k01⟩ := hx0.two
  have l0 := hx0.lt
  go_wp2_with fail
  go_ret
  exact ⟨rfl, h⟩

end Go.Proofs.YtokhadhfjbecmaaDoor
