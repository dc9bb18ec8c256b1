/- CurveText of the model and of the program (written by wip/gen/ectx.py). -/
import Derived.Test.YtoekhkppjccceaaDoorEcS
import Derived.Test.YtoekhkppjccceaaDoorEcI
import Derived.Test.YtoekhkppjccceaaDoorCtPow
import Derived.Deep.RegionHeld3
import Derived.Deep.DeepCutAuto
namespace Go.Proofs.YtoekhkppjccceaaDoor
open Go.RowKit Go.Joins

/-- The text of a curve. -/
def ecTB (a b : Int) : ByteArray := intB a ++ (⟨#[32]⟩ : ByteArray) ++ intB b

set_option maxHeartbeats 3000000 in
theorem ecText_any (a b : Int) (T : ByteArray) (w : World) (g : EcG a b) (hT : ecTB a b = T) : Calls Tryd.prog 12 #[.agg #[.int .i64 a, .int .i64 b]] w (fun e w' => e = .returned (.string T) ∧ Below w.heap.size w w') := by
  obtain ⟨⟨a1, a2⟩, ⟨b1, b2⟩, -⟩ := id g
  have s1 := intB_size22 a (by omega) (by omega)
  have s2 := intB_size22 b (by omega) (by omega)
  have hadd1 := fun (W : World) => run_string_add_sum (P := Tryd.prog) W (intB a) ⟨#[32]⟩ (by show _ + 1 ≤ _; omega)
  have hadd2 := fun (W : World) => run_string_add_sum (P := Tryd.prog) W (intB a ++ (⟨#[32]⟩ : ByteArray)) (intB b) (by rw [ByteArray.size_append]; show _ + 1 + _ ≤ _; omega)
  rw [show intB a ++ (⟨#[32]⟩ : ByteArray) ++ intB b = T from hT] at hadd2
  clear s1 s2 hT
  have k1 := fun W => l1Int_any a W (by omega) (by omega)
  have k2 := fun W => l1Int_any b W (by omega) (by omega)
  replace k1 := Lib.hid k1
  replace k2 := Lib.hid k2
  clear g
  have h := Below.refl w.heap.size w
  have hA := below_alloc1 w (.cells #[.int .i64 a, .int .i64 b] 26)
  have hx0 := Box.new w 26 #[.int .i64 a, .int .i64 b]
  replace h := Below.step h hA
  clear hA
  obtain ⟨k00, k01⟩ := hx0.two
  have l0 := hx0.lt
  go_enter Tryd.func12, Tryd.ntmps12
  go_upto_region 1 with fail
  generalize (w.alloc (.cells #[.int .i64 a, .int .i64 b] 26)) = w1 at *
  have KM : ∀ (W : World), Below w1.heap.size w1 W → (W.cell? ⟨w.heap.size, 0, none⟩ = some (.int .i64 a) ∧ W.cell? ⟨w.heap.size, 1, none⟩ = some (.int .i64 b) ∧ Below w1.heap.size w1 W) := fun W hW => ⟨(hx0.kept hW).two.1, (hx0.kept hW).two.2, hW⟩
  have KC : ∀ (W W' : World), Below W.heap.size W W' → (W.cell? ⟨w.heap.size, 0, none⟩ = some (.int .i64 a) ∧ W.cell? ⟨w.heap.size, 1, none⟩ = some (.int .i64 b) ∧ Below w1.heap.size w1 W) → (W'.cell? ⟨w.heap.size, 0, none⟩ = some (.int .i64 a) ∧ W'.cell? ⟨w.heap.size, 1, none⟩ = some (.int .i64 b) ∧ Below w1.heap.size w1 W') := fun W W' hb ⟨_, _, hW⟩ => KM _ (Below.step hW hb)
  have KA : ∀ (W : World) (o : Obj), (W.cell? ⟨w.heap.size, 0, none⟩ = some (.int .i64 a) ∧ W.cell? ⟨w.heap.size, 1, none⟩ = some (.int .i64 b) ∧ Below w1.heap.size w1 W) → ((W.alloc o).cell? ⟨w.heap.size, 0, none⟩ = some (.int .i64 a) ∧ (W.alloc o).cell? ⟨w.heap.size, 1, none⟩ = some (.int .i64 b) ∧ Below w1.heap.size w1 (W.alloc o)) := fun W o ⟨_, _, hW⟩ => KM _ (Below.step hW (below_alloc1 _ _))
  have KD : ∀ (W : World), (W.cell? ⟨w.heap.size, 0, none⟩ = some (.int .i64 a) ∧ W.cell? ⟨w.heap.size, 1, none⟩ = some (.int .i64 b) ∧ Below w1.heap.size w1 W) → (W.drew.cell? ⟨w.heap.size, 0, none⟩ = some (.int .i64 a) ∧ W.drew.cell? ⟨w.heap.size, 1, none⟩ = some (.int .i64 b) ∧ Below w1.heap.size w1 W.drew) := fun W ⟨_, _, hW⟩ => KM _ (Below.drewN' hW 1)
  have KB : ∀ (W : World), (W.cell? ⟨w.heap.size, 0, none⟩ = some (.int .i64 a) ∧ W.cell? ⟨w.heap.size, 1, none⟩ = some (.int .i64 b) ∧ Below w1.heap.size w1 W) → Below w1.heap.size w1 W := fun W ⟨_, _, hW⟩ => hW
  have KM0 := KM w1.drew ⟨rfl, rfl, rfl, Nat.le_refl _, fun _ _ => rfl⟩
  have KM00 := KM _ (Below.refl _ _)
  replace KC := Lib.hid KC
  replace KA := Lib.hid KA
  replace KD := Lib.hid KD
  replace KB := Lib.hid KB
  clear KM k00 k01 l0
  go_cut [2] (fun s2 wx => s2 = .string T ∧ Below w1.heap.size w1 wx)
  case first =>
    go_region_held3 (fun w' => w'.cell? ⟨w.heap.size, 0, none⟩ = some (.int .i64 a) ∧ w'.cell? ⟨w.heap.size, 1, none⟩ = some (.int .i64 b) ∧ Below w1.heap.size w1 w') ((first | (with_reducible assumption) | ((with_reducible refine KD.out _ ?_); (with_reducible assumption)) | ((with_reducible refine KA.out _ _ ?_); (first | (with_reducible assumption) | ((with_reducible refine KD.out _ ?_); (with_reducible assumption)))) | ((with_reducible refine KC.out _ _ ?_ ?_); (with_reducible assumption); (with_reducible assumption))))
      (first
        | (go_at_call 20; (with_reducible refine (k1.out _).mono ?_); rintro e wC0 ⟨rfl, hbC⟩; have hS0 : wC0.cell? ⟨w.heap.size, 0, none⟩ = some (.int .i64 a) ∧ wC0.cell? ⟨w.heap.size, 1, none⟩ = some (.int .i64 b) ∧ Below w1.heap.size w1 wC0 := KC.out _ _ hbC (by assumption))
        | (go_at_call 20; (with_reducible refine (k2.out _).mono ?_); rintro e wC1 ⟨rfl, hbC⟩; have hS1 : wC1.cell? ⟨w.heap.size, 0, none⟩ = some (.int .i64 a) ∧ wC1.cell? ⟨w.heap.size, 1, none⟩ = some (.int .i64 b) ∧ Below w1.heap.size w1 wC1 := KC.out _ _ hbC (by assumption)))
    all_goals (go_wp2_with fail; go_meet)
    all_goals refine ⟨rfl, KB.out _ ?_⟩
    all_goals (first | (with_reducible assumption) | ((with_reducible refine KD.out _ ?_); (with_reducible assumption)))
  case rest =>
  obtain ⟨rfl, hb⟩ := hcut
  clear KM0 KM00 KC KA KD KB
  replace h := Below.step h hb
  replace hx0 := hx0.kept hb
  clear hb
  obtain ⟨k00, k01⟩ := hx0.two
  have l0 := hx0.lt
  go_wp2_with fail
  go_ret
  exact ⟨rfl, h⟩


set_option maxHeartbeats 1000000 in
theorem ctextS_yes (a b : Int) (T : ByteArray) (w : World) (g : EcG a b) (hT : ecTB a b = T) : Calls Tryd.prog 5 #[.agg #[.int .i64 a, .int .i64 b]] w (GivesSB w T true) := by
  have key := fun W => ecText_any a b T W g hT
  replace key := Lib.hid key
  clear hT
  have h := Below.refl w.heap.size w
  have hA := below_alloc1 w (.cells #[.int .i64 a, .int .i64 b] 26)
  have hx0 := Box.new w 26 #[.int .i64 a, .int .i64 b]
  replace h := Below.step h hA
  clear hA
  obtain ⟨k00, k01⟩ := hx0.two
  have l0 := hx0.lt
  go_enter Tryd.func5, Tryd.ntmps5
  go_wp2_with fail
  refine (ecGood_yes a b _ g).mono ?_
  rintro e w1 ⟨rfl, hb⟩
  replace h := Below.step h hb
  replace hx0 := hx0.kept hb
  clear hb k00 k01 l0
  obtain ⟨k00, k01⟩ := hx0.two
  have l0 := hx0.lt
  go_wp2_with fail
  refine (key.out _).mono ?_
  rintro e w2 ⟨rfl, hb⟩
  replace h := Below.step h hb
  replace hx0 := hx0.kept hb
  clear hb k00 k01 l0
  obtain ⟨k00, k01⟩ := hx0.two
  have l0 := hx0.lt
  go_wp2_with fail
  go_ret2
  exact ⟨rfl, h⟩


set_option maxHeartbeats 1000000 in
theorem ctextS_bad (a b : Int) (w : World) (g : ¬ EcG a b) : Calls Tryd.prog 5 #[.agg #[.int .i64 a, .int .i64 b]] w (GivesSB w ⟨#[]⟩ false) := by
  have h := Below.refl w.heap.size w
  have hA := below_alloc1 w (.cells #[.int .i64 a, .int .i64 b] 26)
  have hx0 := Box.new w 26 #[.int .i64 a, .int .i64 b]
  replace h := Below.step h hA
  clear hA
  obtain ⟨k00, k01⟩ := hx0.two
  have l0 := hx0.lt
  go_enter Tryd.func5, Tryd.ntmps5
  go_wp2_with fail
  refine (ecGood_no a b _ g).mono ?_
  rintro e w1 ⟨rfl, hb⟩
  replace h := Below.step h hb
  replace hx0 := hx0.kept hb
  clear hb k00 k01 l0
  obtain ⟨k00, k01⟩ := hx0.two
  have l0 := hx0.lt
  go_wp2_with fail
  go_ret2
  exact ⟨rfl, h⟩


set_option maxHeartbeats 3000000 in
theorem ctextI_yes (a b : Int) (T : ByteArray) (w : World) (hL : Pow w) (g : EcG a b) (hT : ecTB a b = T) : Calls Tryd.prog 7 #[.agg #[.int .i64 a, .int .i64 b]] w (GivesSB w T true) := by
  obtain ⟨⟨a1, a2⟩, ⟨b1, b2⟩, -⟩ := id g
  have s1 := intB_size22 a (by omega) (by omega)
  have s2 := intB_size22 b (by omega) (by omega)
  have hadd1 := fun (W : World) => run_string_add_sum (P := Tryd.prog) W (intB a) ⟨#[32]⟩ (by show _ + 1 ≤ _; omega)
  have hadd2 := fun (W : World) => run_string_add_sum (P := Tryd.prog) W (intB a ++ (⟨#[32]⟩ : ByteArray)) (intB b) (by rw [ByteArray.size_append]; show _ + 1 + _ ≤ _; omega)
  rw [show intB a ++ (⟨#[32]⟩ : ByteArray) ++ intB b = T from hT] at hadd2
  clear s1 s2 hT
  clear a1 a2 b1 b2
  have B := id g
  have b1 := g.1.1
  have b2 := g.1.2
  have b3 := g.2.1.1
  have b4 := g.2.1.2
  have k1 := fun W (h : Pow W) => itoa_any a W h (by omega) (by omega)
  have k2 := fun W (h : Pow W) => itoa_any b W h (by omega) (by omega)
  replace k1 := Lib.hid k1
  replace k2 := Lib.hid k2
  clear B
  have h := Below.refl w.heap.size w
  have hA := below_alloc1 w (.cells #[.int .i64 a, .int .i64 b] 26)
  have hx0 := Box.new w 26 #[.int .i64 a, .int .i64 b]
  replace h := Below.step h hA
  clear hA
  obtain ⟨k00, k01⟩ := hx0.two
  have l0 := hx0.lt
  replace hL := hL.kept h
  go_enter Tryd.func7, Tryd.ntmps7
  go_wp2_with fail
  refine (isCurveI_yes a b _ g).mono ?_
  rintro e w1 ⟨rfl, hb⟩
  replace h := Below.step h hb
  replace hx0 := hx0.kept hb
  replace hL := hL.kept hb
  clear hb k00 k01 l0
  obtain ⟨k00, k01⟩ := hx0.two
  have l0 := hx0.lt
  go_upto_region 3 with fail
  have KM : ∀ (W : World), Below w1.heap.size w1 W → (W.cell? ⟨w.heap.size, 0, none⟩ = some (.int .i64 a) ∧ W.cell? ⟨w.heap.size, 1, none⟩ = some (.int .i64 b) ∧ Below w1.heap.size w1 W) := fun W hW => ⟨(hx0.kept hW).two.1, (hx0.kept hW).two.2, hW⟩
  have KC : ∀ (W W' : World), Below W.heap.size W W' → (W.cell? ⟨w.heap.size, 0, none⟩ = some (.int .i64 a) ∧ W.cell? ⟨w.heap.size, 1, none⟩ = some (.int .i64 b) ∧ Below w1.heap.size w1 W) → (W'.cell? ⟨w.heap.size, 0, none⟩ = some (.int .i64 a) ∧ W'.cell? ⟨w.heap.size, 1, none⟩ = some (.int .i64 b) ∧ Below w1.heap.size w1 W') := fun W W' hb ⟨_, _, hW⟩ => KM _ (Below.step hW hb)
  have KA : ∀ (W : World) (o : Obj), (W.cell? ⟨w.heap.size, 0, none⟩ = some (.int .i64 a) ∧ W.cell? ⟨w.heap.size, 1, none⟩ = some (.int .i64 b) ∧ Below w1.heap.size w1 W) → ((W.alloc o).cell? ⟨w.heap.size, 0, none⟩ = some (.int .i64 a) ∧ (W.alloc o).cell? ⟨w.heap.size, 1, none⟩ = some (.int .i64 b) ∧ Below w1.heap.size w1 (W.alloc o)) := fun W o ⟨_, _, hW⟩ => KM _ (Below.step hW (below_alloc1 _ _))
  have KD : ∀ (W : World), (W.cell? ⟨w.heap.size, 0, none⟩ = some (.int .i64 a) ∧ W.cell? ⟨w.heap.size, 1, none⟩ = some (.int .i64 b) ∧ Below w1.heap.size w1 W) → (W.drew.cell? ⟨w.heap.size, 0, none⟩ = some (.int .i64 a) ∧ W.drew.cell? ⟨w.heap.size, 1, none⟩ = some (.int .i64 b) ∧ Below w1.heap.size w1 W.drew) := fun W ⟨_, _, hW⟩ => KM _ (Below.drewN' hW 1)
  have KB : ∀ (W : World), (W.cell? ⟨w.heap.size, 0, none⟩ = some (.int .i64 a) ∧ W.cell? ⟨w.heap.size, 1, none⟩ = some (.int .i64 b) ∧ Below w1.heap.size w1 W) → Below w1.heap.size w1 W := fun W ⟨_, _, hW⟩ => hW
  have KL : ∀ (W : World), (W.cell? ⟨w.heap.size, 0, none⟩ = some (.int .i64 a) ∧ W.cell? ⟨w.heap.size, 1, none⟩ = some (.int .i64 b) ∧ Below w1.heap.size w1 W) → Pow W := fun W ⟨_, _, hW⟩ => hL.kept hW
  have KM0 := KM w1.drew ⟨rfl, rfl, rfl, Nat.le_refl _, fun _ _ => rfl⟩
  have KM00 := KM _ (Below.refl _ _)
  replace KC := Lib.hid KC
  replace KA := Lib.hid KA
  replace KD := Lib.hid KD
  replace KB := Lib.hid KB
  replace KL := Lib.hid KL
  clear KM k00 k01 l0
  go_cut [2, 3] (fun s2 s3 wx => s2 = .string T ∧ s3 = .bool true ∧ Below w1.heap.size w1 wx)
  case first =>
    go_region_held3 (fun w' => w'.cell? ⟨w.heap.size, 0, none⟩ = some (.int .i64 a) ∧ w'.cell? ⟨w.heap.size, 1, none⟩ = some (.int .i64 b) ∧ Below w1.heap.size w1 w') ((first | (with_reducible assumption) | ((with_reducible refine KD.out _ ?_); (with_reducible assumption)) | ((with_reducible refine KA.out _ _ ?_); (first | (with_reducible assumption) | ((with_reducible refine KD.out _ ?_); (with_reducible assumption)))) | ((with_reducible refine KC.out _ _ ?_ ?_); (with_reducible assumption); (with_reducible assumption))))
      (first
        | (go_at_call 14; (with_reducible refine (k1.out _ ?_).mono ?_); (refine KL.out _ ?_; assumption); rintro e wC0 ⟨rfl, hbC⟩; have hS0 : wC0.cell? ⟨w.heap.size, 0, none⟩ = some (.int .i64 a) ∧ wC0.cell? ⟨w.heap.size, 1, none⟩ = some (.int .i64 b) ∧ Below w1.heap.size w1 wC0 := KC.out _ _ hbC (by assumption))
        | (go_at_call 14; (with_reducible refine (k2.out _ ?_).mono ?_); (refine KL.out _ ?_; assumption); rintro e wC1 ⟨rfl, hbC⟩; have hS1 : wC1.cell? ⟨w.heap.size, 0, none⟩ = some (.int .i64 a) ∧ wC1.cell? ⟨w.heap.size, 1, none⟩ = some (.int .i64 b) ∧ Below w1.heap.size w1 wC1 := KC.out _ _ hbC (by assumption)))
    all_goals (go_wp2_with fail; go_meet)
    all_goals refine ⟨rfl, rfl, KB.out _ ?_⟩
    all_goals (first | (with_reducible assumption) | ((with_reducible refine KD.out _ ?_); (with_reducible assumption)))
  case rest =>
  obtain ⟨rfl, rfl, hb⟩ := hcut
  clear KM0 KM00 KC KA KD KB KL
  replace h := Below.step h hb
  replace hx0 := hx0.kept hb
  replace hL := hL.kept hb
  clear hb
  obtain ⟨k00, k01⟩ := hx0.two
  have l0 := hx0.lt
  go_wp2_with fail
  go_ret2
  exact ⟨rfl, h⟩


set_option maxHeartbeats 1000000 in
theorem ctextI_bad (a b : Int) (w : World) (g : ¬ EcG a b) : Calls Tryd.prog 7 #[.agg #[.int .i64 a, .int .i64 b]] w (GivesSB w ⟨#[]⟩ false) := by
  have h := Below.refl w.heap.size w
  have hA := below_alloc1 w (.cells #[.int .i64 a, .int .i64 b] 26)
  have hx0 := Box.new w 26 #[.int .i64 a, .int .i64 b]
  replace h := Below.step h hA
  clear hA
  obtain ⟨k00, k01⟩ := hx0.two
  have l0 := hx0.lt
  go_enter Tryd.func7, Tryd.ntmps7
  go_wp2_with fail
  refine (isCurveI_no a b _ g).mono ?_
  rintro e w1 ⟨rfl, hb⟩
  replace h := Below.step h hb
  replace hx0 := hx0.kept hb
  clear hb k00 k01 l0
  obtain ⟨k00, k01⟩ := hx0.two
  have l0 := hx0.lt
  go_wp2_with fail
  go_ret2
  exact ⟨rfl, h⟩

end Go.Proofs.YtoekhkppjccceaaDoor
