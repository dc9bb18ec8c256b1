/- CubicText, the model's and the program's (written by wip/gen/cttext.py). -/
import Derived.Test.YtanmkamagdajpaaDoorCtPow
import Derived.Test.YtanmkamagdajpaaDoorCiBase
import Derived.Deep.RegionHeld3
import Derived.Deep.DeepCutAuto
namespace Go.Proofs.YtanmkamagdajpaaDoor
open Go.RowKit Go.Joins

def sp : ByteArray := ⟨#[32]⟩
/-- The text of a cubic. -/
def cuB (a b c d : Int) : ByteArray := intB a ++ sp ++ intB b ++ sp ++ intB c ++ sp ++ intB d
theorem sp_size : sp.size = 1 := rfl

set_option maxHeartbeats 8000000 in
set_option maxRecDepth 100000 in
theorem cuTextS_yes (a b c d : Int) (w : World) (g : CuG a b c d) : Calls Tryd.prog 13 #[.agg #[.int .i64 a, .int .i64 b, .int .i64 c, .int .i64 d]] w (GivesSB w (cuB a b c d) true) := by
  obtain ⟨-, ⟨a1, a2⟩, ⟨b1, b2⟩, ⟨c1, c2⟩, ⟨d1, d2⟩⟩ := id g
  have za := intB_size22 a (by omega) (by omega)
  have zb := intB_size22 b (by omega) (by omega)
  have zc := intB_size22 c (by omega) (by omega)
  have zd := intB_size22 d (by omega) (by omega)
  have ca := fun W => l1Int_any a W (by omega) (by omega)
  have cb := fun W => l1Int_any b W (by omega) (by omega)
  have cc := fun W => l1Int_any c W (by omega) (by omega)
  have cd := fun W => l1Int_any d W (by omega) (by omega)
  obtain ⟨R, hR⟩ : ∃ R, R = cuB a b c d := ⟨_, rfl⟩
  rw [← hR]
  unfold cuB at hR
  generalize intB a = sa at *
  generalize intB b = sb at *
  generalize intB c = sc at *
  generalize intB d = sd at *
  have q1 := fun (W : World) => run_string_add_sum (P := Tryd.prog) W sa ⟨#[32]⟩ (by show _ + 1 ≤ _; omega)
  obtain ⟨t1, ht1⟩ : ∃ t1, t1 = sa ++ (⟨#[32]⟩ : ByteArray) := ⟨_, rfl⟩
  have y1 : t1.size = sa.size + 1 := by rw [ht1, ByteArray.size_append]; rfl
  have q2 := fun (W : World) => run_string_add_sum (P := Tryd.prog) W t1 sb (by omega)
  obtain ⟨t2, ht2⟩ : ∃ t2, t2 = t1 ++ sb := ⟨_, rfl⟩
  have y2 : t2.size = t1.size + sb.size := by rw [ht2, ByteArray.size_append]
  have q3 := fun (W : World) => run_string_add_sum (P := Tryd.prog) W t2 ⟨#[32]⟩ (by show _ + 1 ≤ _; omega)
  obtain ⟨t3, ht3⟩ : ∃ t3, t3 = t2 ++ (⟨#[32]⟩ : ByteArray) := ⟨_, rfl⟩
  have y3 : t3.size = t2.size + 1 := by rw [ht3, ByteArray.size_append]; rfl
  have q4 := fun (W : World) => run_string_add_sum (P := Tryd.prog) W t3 sc (by omega)
  obtain ⟨t4, ht4⟩ : ∃ t4, t4 = t3 ++ sc := ⟨_, rfl⟩
  have y4 : t4.size = t3.size + sc.size := by rw [ht4, ByteArray.size_append]
  have q5 := fun (W : World) => run_string_add_sum (P := Tryd.prog) W t4 ⟨#[32]⟩ (by show _ + 1 ≤ _; omega)
  obtain ⟨t5, ht5⟩ : ∃ t5, t5 = t4 ++ (⟨#[32]⟩ : ByteArray) := ⟨_, rfl⟩
  have y5 : t5.size = t4.size + 1 := by rw [ht5, ByteArray.size_append]; rfl
  have q6 := fun (W : World) => run_string_add_sum (P := Tryd.prog) W t5 sd (by omega)
  have hR' : t5 ++ sd = R := by rw [hR, ht5, ht4, ht3, ht2, ht1]; rfl
  rw [← ht1] at q1
  rw [← ht2] at q2
  rw [← ht3] at q3
  rw [← ht4] at q4
  rw [← ht5] at q5
  rw [hR'] at q6
  clear ht1 ht2 ht3 ht4 ht5 hR hR' y1 y2 y3 y4 y5 za zb zc zd a1 a2 b1 b2 c1 c2 d1 d2
  replace ca := Lib.hid ca
  replace cb := Lib.hid cb
  replace cc := Lib.hid cc
  replace cd := Lib.hid cd
  have h := below_alloc1 w (.cells #[.int .i64 a, .int .i64 b, .int .i64 c, .int .i64 d] 24)
  have hx0 := Box.new w 24 #[.int .i64 a, .int .i64 b, .int .i64 c, .int .i64 d]
  obtain ⟨k0, k1, k2, k3⟩ := hx0.four
  go_enter Tryd.func13, Tryd.ntmps13
  go_wp2_with fail
  refine (cuGood_yes a b c d _ g).mono ?_
  rintro e w1 ⟨rfl, hb⟩
  replace h := Below.step h hb
  replace hx0 := hx0.kept hb
  clear hb k0 k1 k2 k3 g
  obtain ⟨k0, k1, k2, k3⟩ := hx0.four
  go_upto_region 3 with fail
  have KM : ∀ (W : World), Below w1.heap.size w1 W → (W.cell? ⟨w.heap.size, 0, none⟩ = some (.int .i64 a) ∧ W.cell? ⟨w.heap.size, 1, none⟩ = some (.int .i64 b) ∧ W.cell? ⟨w.heap.size, 2, none⟩ = some (.int .i64 c) ∧ W.cell? ⟨w.heap.size, 3, none⟩ = some (.int .i64 d) ∧ Below w1.heap.size w1 W) := fun W hW => ⟨(hx0.kept hW).four.1, (hx0.kept hW).four.2.1, (hx0.kept hW).four.2.2.1, (hx0.kept hW).four.2.2.2, hW⟩
  have KC : ∀ (W W' : World), Below W.heap.size W W' → (W.cell? ⟨w.heap.size, 0, none⟩ = some (.int .i64 a) ∧ W.cell? ⟨w.heap.size, 1, none⟩ = some (.int .i64 b) ∧ W.cell? ⟨w.heap.size, 2, none⟩ = some (.int .i64 c) ∧ W.cell? ⟨w.heap.size, 3, none⟩ = some (.int .i64 d) ∧ Below w1.heap.size w1 W) → (W'.cell? ⟨w.heap.size, 0, none⟩ = some (.int .i64 a) ∧ W'.cell? ⟨w.heap.size, 1, none⟩ = some (.int .i64 b) ∧ W'.cell? ⟨w.heap.size, 2, none⟩ = some (.int .i64 c) ∧ W'.cell? ⟨w.heap.size, 3, none⟩ = some (.int .i64 d) ∧ Below w1.heap.size w1 W') := fun W W' hb ⟨_, _, _, _, hW⟩ => KM _ (Below.step hW hb)
  have KB : ∀ (W : World), (W.cell? ⟨w.heap.size, 0, none⟩ = some (.int .i64 a) ∧ W.cell? ⟨w.heap.size, 1, none⟩ = some (.int .i64 b) ∧ W.cell? ⟨w.heap.size, 2, none⟩ = some (.int .i64 c) ∧ W.cell? ⟨w.heap.size, 3, none⟩ = some (.int .i64 d) ∧ Below w1.heap.size w1 W) → Below w1.heap.size w1 W := fun W ⟨_, _, _, _, hW⟩ => hW
  have KM0 := KM w1.drew ⟨rfl, rfl, rfl, Nat.le_refl _, fun _ _ => rfl⟩
  have KM00 := KM _ (Below.refl _ _)
  replace KC := Lib.hid KC
  replace KB := Lib.hid KB
  clear KM k0 k1 k2 k3
  go_cut [2, 3] (fun s2 s3 wx => s2 = .string R ∧ s3 = .bool true ∧ Below w1.heap.size w1 wx)
  case first =>
    go_region_held3 (fun w' => w'.cell? ⟨w.heap.size, 0, none⟩ = some (.int .i64 a) ∧ w'.cell? ⟨w.heap.size, 1, none⟩ = some (.int .i64 b) ∧ w'.cell? ⟨w.heap.size, 2, none⟩ = some (.int .i64 c) ∧ w'.cell? ⟨w.heap.size, 3, none⟩ = some (.int .i64 d) ∧ Below w1.heap.size w1 w') ((first | (with_reducible assumption) | ((with_reducible refine KC.out _ _ ?_ ?_); (with_reducible assumption); (with_reducible assumption))))
      (first
        | (go_at_call 35; (with_reducible refine (ca.out _).mono ?_); rintro e wCa ⟨rfl, hba⟩; have hSa : wCa.cell? ⟨w.heap.size, 0, none⟩ = some (.int .i64 a) ∧ wCa.cell? ⟨w.heap.size, 1, none⟩ = some (.int .i64 b) ∧ wCa.cell? ⟨w.heap.size, 2, none⟩ = some (.int .i64 c) ∧ wCa.cell? ⟨w.heap.size, 3, none⟩ = some (.int .i64 d) ∧ Below w1.heap.size w1 wCa := KC.out _ _ hba (by assumption))
        | (go_at_call 35; (with_reducible refine (cb.out _).mono ?_); rintro e wCb ⟨rfl, hbb⟩; have hSb : wCb.cell? ⟨w.heap.size, 0, none⟩ = some (.int .i64 a) ∧ wCb.cell? ⟨w.heap.size, 1, none⟩ = some (.int .i64 b) ∧ wCb.cell? ⟨w.heap.size, 2, none⟩ = some (.int .i64 c) ∧ wCb.cell? ⟨w.heap.size, 3, none⟩ = some (.int .i64 d) ∧ Below w1.heap.size w1 wCb := KC.out _ _ hbb (by assumption))
        | (go_at_call 35; (with_reducible refine (cc.out _).mono ?_); rintro e wCc ⟨rfl, hbc⟩; have hSc : wCc.cell? ⟨w.heap.size, 0, none⟩ = some (.int .i64 a) ∧ wCc.cell? ⟨w.heap.size, 1, none⟩ = some (.int .i64 b) ∧ wCc.cell? ⟨w.heap.size, 2, none⟩ = some (.int .i64 c) ∧ wCc.cell? ⟨w.heap.size, 3, none⟩ = some (.int .i64 d) ∧ Below w1.heap.size w1 wCc := KC.out _ _ hbc (by assumption))
        | (go_at_call 35; (with_reducible refine (cd.out _).mono ?_); rintro e wCd ⟨rfl, hbd⟩; have hSd : wCd.cell? ⟨w.heap.size, 0, none⟩ = some (.int .i64 a) ∧ wCd.cell? ⟨w.heap.size, 1, none⟩ = some (.int .i64 b) ∧ wCd.cell? ⟨w.heap.size, 2, none⟩ = some (.int .i64 c) ∧ wCd.cell? ⟨w.heap.size, 3, none⟩ = some (.int .i64 d) ∧ Below w1.heap.size w1 wCd := KC.out _ _ hbd (by assumption)))
    all_goals (go_wp2_with fail; go_meet)
    all_goals refine ⟨rfl, rfl, KB.out _ ?_⟩
    all_goals (with_reducible assumption)
  case rest =>
  obtain ⟨rfl, rfl, hbx⟩ := hcut
  replace h := Below.step h hbx
  go_wp2_with fail
  go_ret2
  exact ⟨rfl, h⟩

set_option maxHeartbeats 1000000 in
theorem cuTextS_bad (a b c d : Int) (w : World) (g : ¬ CuG a b c d) : Calls Tryd.prog 13 #[.agg #[.int .i64 a, .int .i64 b, .int .i64 c, .int .i64 d]] w (GivesSB w ⟨#[]⟩ false) := by
  have h := below_alloc1 w (.cells #[.int .i64 a, .int .i64 b, .int .i64 c, .int .i64 d] 24)
  have hx0 := Box.new w 24 #[.int .i64 a, .int .i64 b, .int .i64 c, .int .i64 d]
  obtain ⟨k0, k1, k2, k3⟩ := hx0.four
  go_enter Tryd.func13, Tryd.ntmps13
  go_wp2_with fail
  refine (cuGood_no a b c d _ g).mono ?_
  rintro e w1 ⟨rfl, hb⟩
  replace h := Below.step h hb
  go_wp2_with fail
  go_ret2
  exact ⟨rfl, h⟩

/-- The text behind k rounds. -/
def tk (n0 n1 n2 n3 : ByteArray) (k : Nat) : ByteArray := if k = 0 then n0 else if k = 1 then n1 else if k = 2 then n2 else n3
set_option maxHeartbeats 4000000 in
set_option maxRecDepth 100000 in
theorem cuTextI_yes (a b c d : Int) (w : World) (hP : Pow w) (g : CuG a b c d) : Calls Tryd.prog 12 #[.agg #[.int .i64 a, .int .i64 b, .int .i64 c, .int .i64 d]] w (GivesSB w (cuB a b c d) true) := by
  obtain ⟨-, ⟨a1, a2⟩, ⟨b1, b2⟩, ⟨c1, c2⟩, ⟨d1, d2⟩⟩ := id g
  have za := intB_size22 a (by omega) (by omega)
  have zb := intB_size22 b (by omega) (by omega)
  have zc := intB_size22 c (by omega) (by omega)
  have zd := intB_size22 d (by omega) (by omega)
  have ca := fun W h => itoa_any a W h (by omega) (by omega)
  have cb := fun W h => itoa_any b W h (by omega) (by omega)
  have cc := fun W h => itoa_any c W h (by omega) (by omega)
  have cd := fun W h => itoa_any d W h (by omega) (by omega)
  obtain ⟨R, hR⟩ : ∃ R, R = cuB a b c d := ⟨_, rfl⟩
  rw [← hR]
  unfold cuB at hR
  generalize intB a = sa at *
  generalize intB b = sb at *
  generalize intB c = sc at *
  generalize intB d = sd at *
  have p1 := fun (W : World) => run_string_add_sum (P := Tryd.prog) W ⟨#[32]⟩ sb (by show 1 + _ ≤ _; omega)
  obtain ⟨u1, hu1⟩ : ∃ u, u = (⟨#[32]⟩ : ByteArray) ++ sb := ⟨_, rfl⟩
  have x1 : u1.size = 1 + sb.size := by rw [hu1, ByteArray.size_append]; rfl
  have q1 := fun (W : World) => run_string_add_sum (P := Tryd.prog) W sa u1 (by omega)
  obtain ⟨t1, ht1⟩ : ∃ t, t = sa ++ u1 := ⟨_, rfl⟩
  have y1 : t1.size = sa.size + u1.size := by rw [ht1, ByteArray.size_append]
  rw [← hu1] at p1
  rw [← ht1] at q1
  have p2 := fun (W : World) => run_string_add_sum (P := Tryd.prog) W ⟨#[32]⟩ sc (by show 1 + _ ≤ _; omega)
  obtain ⟨u2, hu2⟩ : ∃ u, u = (⟨#[32]⟩ : ByteArray) ++ sc := ⟨_, rfl⟩
  have x2 : u2.size = 1 + sc.size := by rw [hu2, ByteArray.size_append]; rfl
  have q2 := fun (W : World) => run_string_add_sum (P := Tryd.prog) W t1 u2 (by omega)
  obtain ⟨t2, ht2⟩ : ∃ t, t = t1 ++ u2 := ⟨_, rfl⟩
  have y2 : t2.size = t1.size + u2.size := by rw [ht2, ByteArray.size_append]
  rw [← hu2] at p2
  rw [← ht2] at q2
  have p3 := fun (W : World) => run_string_add_sum (P := Tryd.prog) W ⟨#[32]⟩ sd (by show 1 + _ ≤ _; omega)
  obtain ⟨u3, hu3⟩ : ∃ u, u = (⟨#[32]⟩ : ByteArray) ++ sd := ⟨_, rfl⟩
  have x3 : u3.size = 1 + sd.size := by rw [hu3, ByteArray.size_append]; rfl
  have q3 := fun (W : World) => run_string_add_sum (P := Tryd.prog) W t2 u3 (by omega)
  obtain ⟨t3, ht3⟩ : ∃ t, t = t2 ++ u3 := ⟨_, rfl⟩
  have y3 : t3.size = t2.size + u3.size := by rw [ht3, ByteArray.size_append]
  rw [← hu3] at p3
  rw [← ht3] at q3
  have hR' : t3 = R := by
    rw [hR, ht3, ht2, ht1, hu1, hu2, hu3]
    simp only [sp, ba_assoc]
  subst hR'
  clear hR ht1 ht2 ht3 hu1 hu2 hu3 x1 x2 x3 y1 y2 y3 za zb zc zd a1 a2 b1 b2 c1 c2 d1 d2
  replace ca := Lib.hid ca
  replace cb := Lib.hid cb
  replace cc := Lib.hid cc
  replace cd := Lib.hid cd
  have h := below_alloc1 w (.cells #[.int .i64 a, .int .i64 b, .int .i64 c, .int .i64 d] 24)
  have hx0 := Box.new w 24 #[.int .i64 a, .int .i64 b, .int .i64 c, .int .i64 d]
  replace hP := hP.kept h
  obtain ⟨k0, k1, k2, k3⟩ := hx0.four
  go_enter Tryd.func12, Tryd.ntmps12
  go_wp2_with fail
  refine (isCubicI_yes a b c d _ g).mono ?_
  rintro e w1 ⟨rfl, hb⟩
  replace h := Below.step h hb
  replace hx0 := hx0.kept hb
  replace hP := hP.kept hb
  clear hb k0 k1 k2 k3 g
  obtain ⟨k0, k1, k2, k3⟩ := hx0.four
  go_wp2_with fail
  refine (ca.out _ hP).mono ?_
  rintro e w2 ⟨rfl, hb⟩
  replace h := Below.step h hb
  replace hx0 := hx0.kept hb
  replace hP := hP.kept hb
  clear hb k0 k1 k2 k3
  obtain ⟨k0, k1, k2, k3⟩ := hx0.four
  go_wp2_with fail
  have ix0 : ∀ w : World, (Instr.index 60 (.agg #[.int .i64 b, .int .i64 c, .int .i64 d]) (.int .i64 0)).run Tryd.prog w = .ok (.int .i64 b) w := fun _ => by kernel_rfl
  have ix1 : ∀ w : World, (Instr.index 60 (.agg #[.int .i64 b, .int .i64 c, .int .i64 d]) (.int .i64 1)).run Tryd.prog w = .ok (.int .i64 c) w := fun _ => by kernel_rfl
  have ix2 : ∀ w : World, (Instr.index 60 (.agg #[.int .i64 b, .int .i64 c, .int .i64 d]) (.int .i64 2)).run Tryd.prog w = .ok (.int .i64 d) w := fun _ => by kernel_rfl
  go_loopw [4, 20] (fun n i wr => ∃ (k : Nat) (x : ByteArray), k ≤ 3 ∧ i = .int .i64 (k : Int) ∧ n = .string x ∧ Hid (x = tk sa t1 t2 t3 k) ∧ Pow wr ∧ Below w2.heap.size w2 wr) (fun _ i _ => 3 - (intOf i).toNat)
  case atStart => exact ⟨0, sa, by omega, rfl, rfl, rfl, hP, Below.refl _ _⟩
  case round =>
    obtain ⟨k, x, hk, rfl, rfl, hx, hPr, hbl⟩ := hrel
    clear k0 k1 k2 k3 hP
    obtain rfl | rfl | rfl | rfl : k = 0 ∨ k = 1 ∨ k = 2 ∨ k = 3 := by omega
    · obtain rfl : sa = x := Eq.symm hx.out
      go_wp2_with fail
      refine (cb.out _ hPr).mono ?_
      rintro e w3 ⟨rfl, hb2⟩
      go_wp2_with fail
      go_roundw
      case rel => exact ⟨1, t1, by omega, rfl, rfl, rfl, hPr.kept hb2, Below.step hbl hb2⟩
      case measure => simp [intOf]
    · obtain rfl : t1 = x := Eq.symm hx.out
      go_wp2_with fail
      refine (cc.out _ hPr).mono ?_
      rintro e w3 ⟨rfl, hb2⟩
      go_wp2_with fail
      go_roundw
      case rel => exact ⟨2, t2, by omega, rfl, rfl, rfl, hPr.kept hb2, Below.step hbl hb2⟩
      case measure => simp [intOf]
    · obtain rfl : t2 = x := Eq.symm hx.out
      go_wp2_with fail
      refine (cd.out _ hPr).mono ?_
      rintro e w3 ⟨rfl, hb2⟩
      go_wp2_with fail
      go_roundw
      case rel => exact ⟨3, t3, by omega, rfl, rfl, rfl, hPr.kept hb2, Below.step hbl hb2⟩
      case measure => simp [intOf]
    · obtain rfl : t3 = x := Eq.symm hx.out
      replace h := Below.step h hbl
      clear hbl hx ca cb cc cd
      go_wp2_with fail
      go_ret2
      exact ⟨rfl, h⟩

set_option maxHeartbeats 1000000 in
theorem cuTextI_bad (a b c d : Int) (w : World) (g : ¬ CuG a b c d) : Calls Tryd.prog 12 #[.agg #[.int .i64 a, .int .i64 b, .int .i64 c, .int .i64 d]] w (GivesSB w ⟨#[]⟩ false) := by
  have h := below_alloc1 w (.cells #[.int .i64 a, .int .i64 b, .int .i64 c, .int .i64 d] 24)
  have hx0 := Box.new w 24 #[.int .i64 a, .int .i64 b, .int .i64 c, .int .i64 d]
  obtain ⟨k0, k1, k2, k3⟩ := hx0.four
  go_enter Tryd.func12, Tryd.ntmps12
  go_wp2_with fail
  refine (isCubicI_no a b c d _ g).mono ?_
  rintro e w1 ⟨rfl, hb⟩
  replace h := Below.step h hb
  go_wp2_with fail
  go_ret2
  exact ⟨rfl, h⟩
end Go.Proofs.YtanmkamagdajpaaDoor
