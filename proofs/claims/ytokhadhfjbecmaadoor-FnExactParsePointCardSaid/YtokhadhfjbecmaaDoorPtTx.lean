/- PointText of the model and of the program (written by wip/gen/pttx.py). -/
import Derived.Test.YtokhadhfjbecmaaDoorPtI
import Derived.Test.YtokhadhfjbecmaaDoorTxText
import Derived.Deep.RegionHeld3
import Derived.Deep.DeepCutAuto
import Derived.BigQuiet
namespace Go.Proofs.YtokhadhfjbecmaaDoor
open Go.RowKit Go.Joins

/-- The text of a point. -/
def ptTB (p : P3) : ByteArray := if p.e = 0 then ⟨#[79]⟩ else (⟨#[40]⟩ : ByteArray) ++ frB p.x (p.e * p.e) ++ (⟨#[44]⟩ : ByteArray) ++ frB p.y (p.e * p.e * p.e) ++ (⟨#[41]⟩ : ByteArray)
theorem frB_sz {p q : Int} (g : FrG p q) : (frB p q).size ≤ 43 := by
  obtain ⟨g1, g2, g3, g4, -⟩ := g
  have h1 := intB_size22 p (by omega) (by omega)
  have h2 := numB_size20 q.toNat (by omega)
  unfold frB
  split
  · omega
  · rw [ByteArray.size_append, ByteArray.size_append]
    show _ + 1 + _ ≤ 43
    omega
/-- Both coordinates are in lowest terms. -/
theorem cop_y {a b : Int} {p : P3} (h : Fin3 a b p) : Nat.gcd p.y.natAbs p.e.natAbs = 1 := by
  have hd1 : ((Nat.gcd p.y.natAbs p.e.natAbs : Nat) : Int) ∣ p.y := Int.ofNat_dvd_left.2 (Nat.gcd_dvd_left _ _)
  have hd2 : ((Nat.gcd p.y.natAbs p.e.natAbs : Nat) : Int) ∣ p.e := Int.ofNat_dvd_left.2 (Nat.gcd_dvd_right _ _)
  obtain ⟨u, hu⟩ := hd1
  obtain ⟨v, hv⟩ := hd2
  have h3 : ((Nat.gcd p.y.natAbs p.e.natAbs : Nat) : Int) ∣ p.x * p.x * p.x := by
    have hv2 := h.v
    unfold ptV at hv2
    refine ⟨u * p.y - a * p.x * v * p.e * (p.e * p.e) - b * v * p.e * (p.e * p.e) * (p.e * p.e), ?_⟩
    have e1 : ((Nat.gcd p.y.natAbs p.e.natAbs : Nat) : Int) * (u * p.y - a * p.x * v * p.e * (p.e * p.e) - b * v * p.e * (p.e * p.e) * (p.e * p.e)) = ((Nat.gcd p.y.natAbs p.e.natAbs : Nat) : Int) * u * p.y - a * p.x * (((Nat.gcd p.y.natAbs p.e.natAbs : Nat) : Int) * v) * p.e * (p.e * p.e) - b * (((Nat.gcd p.y.natAbs p.e.natAbs : Nat) : Int) * v) * p.e * (p.e * p.e) * (p.e * p.e) := by clear hv2 hu hv; grind
    rw [e1, ← hu, ← hv]
    clear e1 hu hv
    grind
  have h4 : Nat.gcd p.y.natAbs p.e.natAbs ∣ p.x.natAbs * p.x.natAbs * p.x.natAbs := by
    have := Int.ofNat_dvd_left.1 h3
    rwa [Int.natAbs_mul, Int.natAbs_mul] at this
  have h5 : Nat.gcd (Nat.gcd p.y.natAbs p.e.natAbs) p.x.natAbs = 1 := by
    have hc := h.c
    exact Nat.Coprime.coprime_dvd_left (Nat.gcd_dvd_right _ _) (Nat.Coprime.symm hc)
  have h6 := Nat.Coprime.dvd_of_dvd_mul_right h5 h4
  have h7 := Nat.Coprime.dvd_of_dvd_mul_right h5 h6
  have h8 : Nat.gcd p.y.natAbs p.e.natAbs ∣ Nat.gcd (Nat.gcd p.y.natAbs p.e.natAbs) p.x.natAbs := Nat.dvd_gcd (Nat.dvd_refl _) h7
  rw [h5] at h8
  exact Nat.dvd_one.1 h8
theorem frX {a b : Int} {p : P3} (h : Fin3 a b p) : FrG p.x (p.e * p.e) := by
  have k := (ptE_bd h.e).1
  have hx := h.x
  exact ⟨k.1, by omega, by omega, by omega, by rw [Int.natAbs_mul]; exact cop_sq h.c⟩
theorem frY {a b : Int} {p : P3} (h : Fin3 a b p) : FrG p.y (p.e * p.e * p.e) := by
  have k := (ptE_bd h.e).2.2.2
  have hy := h.y
  have hc := cop_y h
  refine ⟨k.1, by omega, by omega, by omega, ?_⟩
  rw [Int.natAbs_mul, Int.natAbs_mul]
  exact Nat.Coprime.mul_right (Nat.Coprime.mul_right hc hc) hc

set_option maxHeartbeats 1000000 in
set_option maxRecDepth 100000 in
theorem ptPart_any (n d : Int) (w : World) (g : FrG n d) : Calls Tryd.prog 25 #[.int .i64 n, .int .i64 d] w (fun e w' => e = .returned (.string (frB n d)) ∧ Below w.heap.size w w') := by
  have c1 := fun W => frText_any n d W g
  replace c1 := Lib.hid c1
  clear g
  have h := Below.refl w.heap.size w
  go_enter Tryd.func25, Tryd.ntmps25
  go_wp2_with fail
  refine (c1.out _).mono ?_
  rintro e w1 ⟨rfl, hb⟩
  replace h := Below.step h hb
  clear hb
  go_wp2_with fail
  go_ret
  exact ⟨rfl, h⟩


set_option maxHeartbeats 1000000 in
set_option maxRecDepth 100000 in
theorem ptText_inf (w : World) : Calls Tryd.prog 13 #[.agg #[.int .i64 0, .int .i64 0, .int .i64 0]] w (fun e w' => e = .returned (.string ⟨#[79]⟩) ∧ Below w.heap.size w w') := by
  have h := Below.refl w.heap.size w
  have hA := below_alloc1 w (.cells #[.int .i64 0, .int .i64 0, .int .i64 0] 30)
  have hxp := Box.new w 30 #[.int .i64 0, .int .i64 0, .int .i64 0]
  replace h := Below.step h hA
  clear hA
  obtain ⟨kp0, kp1, kp2⟩ := hxp.three
  have lp := hxp.lt
  go_enter Tryd.func13, Tryd.ntmps13
  go_wp2_with fail
  go_ret
  exact ⟨rfl, h⟩


set_option maxHeartbeats 4000000 in
set_option maxRecDepth 100000 in
theorem ptText_fin (p : P3) (w : World) (he : 1 ≤ p.e ∧ p.e ≤ 20) (X Y T : ByteArray) (hX : X.size ≤ 43) (hY : Y.size ≤ 43) (hT : (⟨#[40]⟩ : ByteArray) ++ X ++ (⟨#[44]⟩ : ByteArray) ++ Y ++ (⟨#[41]⟩ : ByteArray) = T) (k1 : ∀ W : World, Calls Tryd.prog 25 #[.int .i64 p.x, .int .i64 (p.e * p.e)] W fun e w' => e = .returned (.string X) ∧ Below W.heap.size W w') (k2 : ∀ W : World, Calls Tryd.prog 25 #[.int .i64 p.y, .int .i64 (p.e * p.e * p.e)] W fun e w' => e = .returned (.string Y) ∧ Below W.heap.size W w') : Calls Tryd.prog 13 #[.agg #[.int .i64 p.x, .int .i64 p.y, .int .i64 p.e]] w (fun e w' => e = .returned (.string T) ∧ Below w.heap.size w w') := by
  have hadd1 := fun (W : World) => run_string_add_sum (P := Tryd.prog) W ⟨#[40]⟩ X (by show 1 + _ ≤ _; omega)
  have hadd2 := fun (W : World) => run_string_add_sum (P := Tryd.prog) W ((⟨#[40]⟩ : ByteArray) ++ X) ⟨#[44]⟩ (by rw [ByteArray.size_append]; show 1 + _ + 1 ≤ _; omega)
  have hadd3 := fun (W : World) => run_string_add_sum (P := Tryd.prog) W ((⟨#[40]⟩ : ByteArray) ++ X ++ (⟨#[44]⟩ : ByteArray)) Y (by rw [ByteArray.size_append, ByteArray.size_append]; show 1 + _ + 1 + _ ≤ _; omega)
  have hadd4 := fun (W : World) => run_string_add_sum (P := Tryd.prog) W ((⟨#[40]⟩ : ByteArray) ++ X ++ (⟨#[44]⟩ : ByteArray) ++ Y) ⟨#[41]⟩ (by rw [ByteArray.size_append, ByteArray.size_append, ByteArray.size_append]; show 1 + _ + 1 + _ + 1 ≤ _; omega)
  rw [show (⟨#[40]⟩ : ByteArray) ++ X ++ (⟨#[44]⟩ : ByteArray) ++ Y ++ (⟨#[41]⟩ : ByteArray) = T from hT] at hadd4
  have e0 : (p.e == 0) = false := by simp; omega
  have eb := ptE_bd he
  have ew1 : IntKind.i64.wrap (p.e * p.e) = p.e * p.e := IntWalk.i64_in _ (by omega)
  have ew2 : IntKind.i64.wrap (p.e * p.e * p.e) = p.e * p.e * p.e := IntWalk.i64_in _ (by omega)
  replace k1 := Lib.hid k1
  replace k2 := Lib.hid k2
  clear hX hY hT eb
  have h := Below.refl w.heap.size w
  have hA := below_alloc1 w (.cells #[.int .i64 p.x, .int .i64 p.y, .int .i64 p.e] 30)
  have hxp := Box.new w 30 #[.int .i64 p.x, .int .i64 p.y, .int .i64 p.e]
  replace h := Below.step h hA
  clear hA
  obtain ⟨kp0, kp1, kp2⟩ := hxp.three
  have lp := hxp.lt
  go_enter Tryd.func13, Tryd.ntmps13
  go_upto_region 3 with fail
  generalize (w.alloc (.cells #[.int .i64 p.x, .int .i64 p.y, .int .i64 p.e] 30)) = w1 at *
  have KM : ∀ (W : World), Below w1.heap.size w1 W → (W.cell? ⟨w.heap.size, 0, none⟩ = some (.int .i64 p.x) ∧ W.cell? ⟨w.heap.size, 1, none⟩ = some (.int .i64 p.y) ∧ W.cell? ⟨w.heap.size, 2, none⟩ = some (.int .i64 p.e) ∧ Below w1.heap.size w1 W) := fun W hW => ⟨(hxp.kept hW).three.1, (hxp.kept hW).three.2.1, (hxp.kept hW).three.2.2, hW⟩
  have KC : ∀ (W W' : World), Below W.heap.size W W' → (W.cell? ⟨w.heap.size, 0, none⟩ = some (.int .i64 p.x) ∧ W.cell? ⟨w.heap.size, 1, none⟩ = some (.int .i64 p.y) ∧ W.cell? ⟨w.heap.size, 2, none⟩ = some (.int .i64 p.e) ∧ Below w1.heap.size w1 W) → (W'.cell? ⟨w.heap.size, 0, none⟩ = some (.int .i64 p.x) ∧ W'.cell? ⟨w.heap.size, 1, none⟩ = some (.int .i64 p.y) ∧ W'.cell? ⟨w.heap.size, 2, none⟩ = some (.int .i64 p.e) ∧ Below w1.heap.size w1 W') := fun W W' hb ⟨_, _, _, hW⟩ => KM _ (Below.step hW hb)
  have KA : ∀ (W : World) (o : Obj), (W.cell? ⟨w.heap.size, 0, none⟩ = some (.int .i64 p.x) ∧ W.cell? ⟨w.heap.size, 1, none⟩ = some (.int .i64 p.y) ∧ W.cell? ⟨w.heap.size, 2, none⟩ = some (.int .i64 p.e) ∧ Below w1.heap.size w1 W) → ((W.alloc o).cell? ⟨w.heap.size, 0, none⟩ = some (.int .i64 p.x) ∧ (W.alloc o).cell? ⟨w.heap.size, 1, none⟩ = some (.int .i64 p.y) ∧ (W.alloc o).cell? ⟨w.heap.size, 2, none⟩ = some (.int .i64 p.e) ∧ Below w1.heap.size w1 (W.alloc o)) := fun W o ⟨_, _, _, hW⟩ => KM _ (Below.step hW (below_alloc1 _ _))
  have KD : ∀ (W : World), (W.cell? ⟨w.heap.size, 0, none⟩ = some (.int .i64 p.x) ∧ W.cell? ⟨w.heap.size, 1, none⟩ = some (.int .i64 p.y) ∧ W.cell? ⟨w.heap.size, 2, none⟩ = some (.int .i64 p.e) ∧ Below w1.heap.size w1 W) → (W.drew.cell? ⟨w.heap.size, 0, none⟩ = some (.int .i64 p.x) ∧ W.drew.cell? ⟨w.heap.size, 1, none⟩ = some (.int .i64 p.y) ∧ W.drew.cell? ⟨w.heap.size, 2, none⟩ = some (.int .i64 p.e) ∧ Below w1.heap.size w1 W.drew) := fun W ⟨_, _, _, hW⟩ => KM _ (Below.drewN' hW 1)
  have KB : ∀ (W : World), (W.cell? ⟨w.heap.size, 0, none⟩ = some (.int .i64 p.x) ∧ W.cell? ⟨w.heap.size, 1, none⟩ = some (.int .i64 p.y) ∧ W.cell? ⟨w.heap.size, 2, none⟩ = some (.int .i64 p.e) ∧ Below w1.heap.size w1 W) → Below w1.heap.size w1 W := fun W ⟨_, _, _, hW⟩ => hW
  have KM0 := KM w1.drew ⟨rfl, rfl, rfl, Nat.le_refl _, fun _ _ => rfl⟩
  have KM00 := KM _ (Below.refl _ _)
  replace KC := Lib.hid KC
  replace KA := Lib.hid KA
  replace KD := Lib.hid KD
  replace KB := Lib.hid KB
  clear KM kp0 kp1 kp2 lp
  go_cut [2] (fun s2 wx => s2 = .string T ∧ Below w1.heap.size w1 wx)
  case first =>
    go_region_held3 (fun w' => w'.cell? ⟨w.heap.size, 0, none⟩ = some (.int .i64 p.x) ∧ w'.cell? ⟨w.heap.size, 1, none⟩ = some (.int .i64 p.y) ∧ w'.cell? ⟨w.heap.size, 2, none⟩ = some (.int .i64 p.e) ∧ Below w1.heap.size w1 w') ((first | (with_reducible assumption) | ((with_reducible refine KD.out _ ?_); (with_reducible assumption)) | ((with_reducible refine KA.out _ _ ?_); (first | (with_reducible assumption) | ((with_reducible refine KD.out _ ?_); (with_reducible assumption)))) | ((with_reducible refine KC.out _ _ ?_ ?_); (with_reducible assumption); (with_reducible assumption))))
      (first
        | (go_at_call 25; (with_reducible refine (k1.out _).mono ?_); rintro e wC0 ⟨rfl, hbC⟩; have hS0 : wC0.cell? ⟨w.heap.size, 0, none⟩ = some (.int .i64 p.x) ∧ wC0.cell? ⟨w.heap.size, 1, none⟩ = some (.int .i64 p.y) ∧ wC0.cell? ⟨w.heap.size, 2, none⟩ = some (.int .i64 p.e) ∧ Below w1.heap.size w1 wC0 := KC.out _ _ hbC (by assumption))
        | (go_at_call 25; (with_reducible refine (k2.out _).mono ?_); rintro e wC1 ⟨rfl, hbC⟩; have hS1 : wC1.cell? ⟨w.heap.size, 0, none⟩ = some (.int .i64 p.x) ∧ wC1.cell? ⟨w.heap.size, 1, none⟩ = some (.int .i64 p.y) ∧ wC1.cell? ⟨w.heap.size, 2, none⟩ = some (.int .i64 p.e) ∧ Below w1.heap.size w1 wC1 := KC.out _ _ hbC (by assumption)))
    all_goals (go_wp2_with fail; go_meet)
    all_goals refine ⟨rfl, KB.out _ ?_⟩
    all_goals (first | (with_reducible assumption) | ((with_reducible refine KD.out _ ?_); (with_reducible assumption)))
  case rest =>
  obtain ⟨rfl, hb⟩ := hcut
  clear KM0 KM00 KC KA KD KB
  replace h := Below.step h hb
  replace hxp := hxp.kept hb
  clear hb
  obtain ⟨kp0, kp1, kp2⟩ := hxp.three
  have lp := hxp.lt
  go_wp2_with fail
  go_ret
  exact ⟨rfl, h⟩


theorem ptText_any {a b : Int} {p : P3} (w : World) (g : PtOn a b p) : Calls Tryd.prog 13 #[.agg #[.int .i64 p.x, .int .i64 p.y, .int .i64 p.e]] w fun e w' => e = .returned (.string (ptTB p)) ∧ Below w.heap.size w w' := by
  unfold ptTB
  by_cases h : p.e = 0
  · rw [if_pos h, g.inf h]; exact ptText_inf w
  · have k := g.fin h
    rw [if_neg h]
    exact ptText_fin p w k.e _ _ _ (frB_sz (frX k)) (frB_sz (frY k)) rfl (fun W => ptPart_any _ _ W (frX k)) (fun W => ptPart_any _ _ W (frY k))

set_option maxHeartbeats 1000000 in
set_option maxRecDepth 100000 in
theorem ptextS_yes (a b : Int) (p : P3) (w : World) (g : PtG a b p) : Calls Tryd.prog 5 #[.agg #[.int .i64 a, .int .i64 b], .agg #[.int .i64 p.x, .int .i64 p.y, .int .i64 p.e]] w (GivesSB w (ptTB p) true) := by
  have c1 := fun W => ptText_any W g.2
  obtain ⟨T, hT⟩ : ∃ T, ptTB p = T := ⟨_, rfl⟩
  rw [hT] at c1 ⊢
  have k1 := fun W => isPtS_on a b p W g
  replace c1 := Lib.hid c1
  replace k1 := Lib.hid k1
  clear hT g
  have h := Below.refl w.heap.size w
  have hA := below_alloc1 w (.cells #[.int .i64 a, .int .i64 b] 28)
  have hxc := Box.new w 28 #[.int .i64 a, .int .i64 b]
  replace h := Below.step h hA
  clear hA
  have hA := below_alloc1 (w.alloc (.cells #[.int .i64 a, .int .i64 b] 28)) (.cells #[.int .i64 p.x, .int .i64 p.y, .int .i64 p.e] 30)
  have hxp := Box.new (w.alloc (.cells #[.int .i64 a, .int .i64 b] 28)) 30 #[.int .i64 p.x, .int .i64 p.y, .int .i64 p.e]
  rw [show (w.alloc (.cells #[.int .i64 a, .int .i64 b] 28)).heap.size = w.heap.size + 1 from by simp] at hxp
  replace h := Below.step h hA
  replace hxc := hxc.kept hA
  clear hA
  obtain ⟨kc0, kc1⟩ := hxc.two
  have lc := hxc.lt
  obtain ⟨kp0, kp1, kp2⟩ := hxp.three
  have lp := hxp.lt
  go_enter Tryd.func5, Tryd.ntmps5
  go_wp2_with fail
  refine (k1.out _).mono ?_
  rintro e w1 ⟨rfl, hb⟩
  replace h := Below.step h hb
  replace hxc := hxc.kept hb
  replace hxp := hxp.kept hb
  clear hb kc0 kc1 lc kp0 kp1 kp2 lp
  obtain ⟨kc0, kc1⟩ := hxc.two
  have lc := hxc.lt
  obtain ⟨kp0, kp1, kp2⟩ := hxp.three
  have lp := hxp.lt
  go_wp2_with fail
  refine (c1.out _).mono ?_
  rintro e w2 ⟨rfl, hb⟩
  replace h := Below.step h hb
  replace hxc := hxc.kept hb
  replace hxp := hxp.kept hb
  clear hb kc0 kc1 lc kp0 kp1 kp2 lp
  obtain ⟨kc0, kc1⟩ := hxc.two
  have lc := hxc.lt
  obtain ⟨kp0, kp1, kp2⟩ := hxp.three
  have lp := hxp.lt
  go_wp2_with fail
  go_ret2
  exact ⟨rfl, h⟩


set_option maxHeartbeats 1000000 in
set_option maxRecDepth 100000 in
theorem ptextS_no (a b : Int) (p : P3) (w : World) (g : ¬ PtG a b p) : Calls Tryd.prog 5 #[.agg #[.int .i64 a, .int .i64 b], .agg #[.int .i64 p.x, .int .i64 p.y, .int .i64 p.e]] w (GivesSB w ⟨#[]⟩ false) := by
  have h := Below.refl w.heap.size w
  have hA := below_alloc1 w (.cells #[.int .i64 a, .int .i64 b] 28)
  have hxc := Box.new w 28 #[.int .i64 a, .int .i64 b]
  replace h := Below.step h hA
  clear hA
  have hA := below_alloc1 (w.alloc (.cells #[.int .i64 a, .int .i64 b] 28)) (.cells #[.int .i64 p.x, .int .i64 p.y, .int .i64 p.e] 30)
  have hxp := Box.new (w.alloc (.cells #[.int .i64 a, .int .i64 b] 28)) 30 #[.int .i64 p.x, .int .i64 p.y, .int .i64 p.e]
  rw [show (w.alloc (.cells #[.int .i64 a, .int .i64 b] 28)).heap.size = w.heap.size + 1 from by simp] at hxp
  replace h := Below.step h hA
  replace hxc := hxc.kept hA
  clear hA
  obtain ⟨kc0, kc1⟩ := hxc.two
  have lc := hxc.lt
  obtain ⟨kp0, kp1, kp2⟩ := hxp.three
  have lp := hxp.lt
  go_enter Tryd.func5, Tryd.ntmps5
  go_wp2_with fail
  refine (isPtS_off a b p _ g).mono ?_
  rintro e w1 ⟨rfl, hb⟩
  replace h := Below.step h hb
  replace hxc := hxc.kept hb
  replace hxp := hxp.kept hb
  clear hb kc0 kc1 lc kp0 kp1 kp2 lp
  obtain ⟨kc0, kc1⟩ := hxc.two
  have lc := hxc.lt
  obtain ⟨kp0, kp1, kp2⟩ := hxp.three
  have lp := hxp.lt
  go_wp2_with fail
  go_ret2
  exact ⟨rfl, h⟩


set_option maxHeartbeats 1000000 in
set_option maxRecDepth 100000 in
theorem ptextI_no (a b : Int) (p : P3) (w : World) (g : ¬ PtG a b p) : Calls Tryd.prog 8 #[.agg #[.int .i64 a, .int .i64 b], .agg #[.int .i64 p.x, .int .i64 p.y, .int .i64 p.e]] w (GivesSB w ⟨#[]⟩ false) := by
  have h := Below.refl w.heap.size w
  have hA := below_alloc1 w (.cells #[.int .i64 a, .int .i64 b] 28)
  have hxc := Box.new w 28 #[.int .i64 a, .int .i64 b]
  replace h := Below.step h hA
  clear hA
  have hA := below_alloc1 (w.alloc (.cells #[.int .i64 a, .int .i64 b] 28)) (.cells #[.int .i64 p.x, .int .i64 p.y, .int .i64 p.e] 30)
  have hxp := Box.new (w.alloc (.cells #[.int .i64 a, .int .i64 b] 28)) 30 #[.int .i64 p.x, .int .i64 p.y, .int .i64 p.e]
  rw [show (w.alloc (.cells #[.int .i64 a, .int .i64 b] 28)).heap.size = w.heap.size + 1 from by simp] at hxp
  replace h := Below.step h hA
  replace hxc := hxc.kept hA
  clear hA
  obtain ⟨kc0, kc1⟩ := hxc.two
  have lc := hxc.lt
  obtain ⟨kp0, kp1, kp2⟩ := hxp.three
  have lp := hxp.lt
  go_enter Tryd.func8, Tryd.ntmps8
  go_wp2_with fail
  refine (isPtI_off a b p _ g).mono ?_
  rintro e w1 ⟨rfl, hb⟩
  replace h := Below.step h hb
  replace hxc := hxc.kept hb
  replace hxp := hxp.kept hb
  clear hb kc0 kc1 lc kp0 kp1 kp2 lp
  obtain ⟨kc0, kc1⟩ := hxc.two
  have lc := hxc.lt
  obtain ⟨kp0, kp1, kp2⟩ := hxp.three
  have lp := hxp.lt
  go_wp2_with fail
  go_ret2
  exact ⟨rfl, h⟩


set_option maxHeartbeats 1000000 in
set_option maxRecDepth 100000 in
theorem ptextI_inf (a b : Int) (w : World) (g : PtG a b .zero) : Calls Tryd.prog 8 #[.agg #[.int .i64 a, .int .i64 b], .agg #[.int .i64 0, .int .i64 0, .int .i64 0]] w (GivesSB w ⟨#[79]⟩ true) := by
  have h := Below.refl w.heap.size w
  have hA := below_alloc1 w (.cells #[.int .i64 a, .int .i64 b] 28)
  have hxc := Box.new w 28 #[.int .i64 a, .int .i64 b]
  replace h := Below.step h hA
  clear hA
  have hA := below_alloc1 (w.alloc (.cells #[.int .i64 a, .int .i64 b] 28)) (.cells #[.int .i64 0, .int .i64 0, .int .i64 0] 30)
  have hxp := Box.new (w.alloc (.cells #[.int .i64 a, .int .i64 b] 28)) 30 #[.int .i64 0, .int .i64 0, .int .i64 0]
  rw [show (w.alloc (.cells #[.int .i64 a, .int .i64 b] 28)).heap.size = w.heap.size + 1 from by simp] at hxp
  replace h := Below.step h hA
  replace hxc := hxc.kept hA
  clear hA
  obtain ⟨kc0, kc1⟩ := hxc.two
  have lc := hxc.lt
  obtain ⟨kp0, kp1, kp2⟩ := hxp.three
  have lp := hxp.lt
  go_enter Tryd.func8, Tryd.ntmps8
  go_wp2_with fail
  refine (isPtI_on a b .zero _ g).mono ?_
  rintro e w1 ⟨rfl, hb⟩
  replace h := Below.step h hb
  replace hxc := hxc.kept hb
  replace hxp := hxp.kept hb
  clear hb kc0 kc1 lc kp0 kp1 kp2 lp
  obtain ⟨kc0, kc1⟩ := hxc.two
  have lc := hxc.lt
  obtain ⟨kp0, kp1, kp2⟩ := hxp.three
  have lp := hxp.lt
  go_wp2_with fail
  refine (isInf_yes _).mono ?_
  rintro e w2 ⟨rfl, hb⟩
  replace h := Below.step h hb
  replace hxc := hxc.kept hb
  replace hxp := hxp.kept hb
  clear hb kc0 kc1 lc kp0 kp1 kp2 lp
  obtain ⟨kc0, kc1⟩ := hxc.two
  have lc := hxc.lt
  obtain ⟨kp0, kp1, kp2⟩ := hxp.three
  have lp := hxp.lt
  go_wp2_with fail
  go_ret2
  exact ⟨rfl, h⟩


set_option maxHeartbeats 2000000 in
set_option maxRecDepth 100000 in
theorem ptextI_fin (a b : Int) (p : P3) (w : World) (hL : Env w) (g : PtG a b p) (hz : p ≠ .zero) (he : 1 ≤ p.e ∧ p.e ≤ 20) (X Y T : ByteArray) (hX : X.size ≤ 43) (hY : Y.size ≤ 43) (hT : (⟨#[40]⟩ : ByteArray) ++ X ++ (⟨#[44]⟩ : ByteArray) ++ Y ++ (⟨#[41]⟩ : ByteArray) = T) (k1 : ∀ W : World, Env W → Calls Tryd.prog 16 #[.agg #[.int .i64 p.x, .int .i64 (p.e * p.e)]] W (GivesSB W X true)) (k2 : ∀ W : World, Env W → Calls Tryd.prog 16 #[.agg #[.int .i64 p.y, .int .i64 (p.e * p.e * p.e)]] W (GivesSB W Y true)) : Calls Tryd.prog 8 #[.agg #[.int .i64 a, .int .i64 b], .agg #[.int .i64 p.x, .int .i64 p.y, .int .i64 p.e]] w (GivesSB w T true) := by
  have hadd1 := fun (W : World) => run_string_add_sum (P := Tryd.prog) W ⟨#[40]⟩ X (by show 1 + _ ≤ _; omega)
  have hadd2 := fun (W : World) => run_string_add_sum (P := Tryd.prog) W ((⟨#[40]⟩ : ByteArray) ++ X) ⟨#[44]⟩ (by rw [ByteArray.size_append]; show 1 + _ + 1 ≤ _; omega)
  have hadd3 := fun (W : World) => run_string_add_sum (P := Tryd.prog) W ((⟨#[40]⟩ : ByteArray) ++ X ++ (⟨#[44]⟩ : ByteArray)) Y (by rw [ByteArray.size_append, ByteArray.size_append]; show 1 + _ + 1 + _ ≤ _; omega)
  have hadd4 := fun (W : World) => run_string_add_sum (P := Tryd.prog) W ((⟨#[40]⟩ : ByteArray) ++ X ++ (⟨#[44]⟩ : ByteArray) ++ Y) ⟨#[41]⟩ (by rw [ByteArray.size_append, ByteArray.size_append, ByteArray.size_append]; show 1 + _ + 1 + _ + 1 ≤ _; omega)
  rw [show (⟨#[40]⟩ : ByteArray) ++ X ++ (⟨#[44]⟩ : ByteArray) ++ Y ++ (⟨#[41]⟩ : ByteArray) = T from hT] at hadd4
  have eb := ptE_bd he
  have kp := fun W => isPtI_on a b p W g
  have ki := fun W => isInf_no p W hz
  replace kp := Lib.hid kp
  replace ki := Lib.hid ki
  replace k1 := Lib.hid k1
  replace k2 := Lib.hid k2
  clear hX hY hT g hz
  have h := Below.refl w.heap.size w
  have hA := below_alloc1 w (.cells #[.int .i64 a, .int .i64 b] 28)
  have hxc := Box.new w 28 #[.int .i64 a, .int .i64 b]
  replace h := Below.step h hA
  clear hA
  have hA := below_alloc1 (w.alloc (.cells #[.int .i64 a, .int .i64 b] 28)) (.cells #[.int .i64 p.x, .int .i64 p.y, .int .i64 p.e] 30)
  have hxp := Box.new (w.alloc (.cells #[.int .i64 a, .int .i64 b] 28)) 30 #[.int .i64 p.x, .int .i64 p.y, .int .i64 p.e]
  rw [show (w.alloc (.cells #[.int .i64 a, .int .i64 b] 28)).heap.size = w.heap.size + 1 from by simp] at hxp
  replace h := Below.step h hA
  replace hxc := hxc.kept hA
  clear hA
  obtain ⟨kc0, kc1⟩ := hxc.two
  have lc := hxc.lt
  obtain ⟨kp0, kp1, kp2⟩ := hxp.three
  have lp := hxp.lt
  replace hL := hL.kept h
  go_enter Tryd.func8, Tryd.ntmps8
  go_wp2_with fail
  refine (kp.out _).mono ?_
  rintro e w1 ⟨rfl, hb⟩
  replace h := Below.step h hb
  replace hxc := hxc.kept hb
  replace hxp := hxp.kept hb
  replace hL := hL.kept hb
  clear hb kc0 kc1 lc kp0 kp1 kp2 lp
  obtain ⟨kc0, kc1⟩ := hxc.two
  have lc := hxc.lt
  obtain ⟨kp0, kp1, kp2⟩ := hxp.three
  have lp := hxp.lt
  go_wp2_with fail
  refine (ki.out _).mono ?_
  rintro e w2 ⟨rfl, hb⟩
  replace h := Below.step h hb
  replace hxc := hxc.kept hb
  replace hxp := hxp.kept hb
  replace hL := hL.kept hb
  clear hb kc0 kc1 lc kp0 kp1 kp2 lp
  obtain ⟨kc0, kc1⟩ := hxc.two
  have lc := hxc.lt
  obtain ⟨kp0, kp1, kp2⟩ := hxp.three
  have lp := hxp.lt
  go_wp2_with fail
  refine (k1.out _ hL).mono ?_
  rintro e w3 ⟨rfl, hb⟩
  replace h := Below.step h hb
  replace hxc := hxc.kept hb
  replace hxp := hxp.kept hb
  replace hL := hL.kept hb
  clear hb kc0 kc1 lc kp0 kp1 kp2 lp
  obtain ⟨kc0, kc1⟩ := hxc.two
  have lc := hxc.lt
  obtain ⟨kp0, kp1, kp2⟩ := hxp.three
  have lp := hxp.lt
  go_wp2_with fail
  refine (k2.out _ hL).mono ?_
  rintro e w4 ⟨rfl, hb⟩
  replace h := Below.step h hb
  replace hxc := hxc.kept hb
  replace hxp := hxp.kept hb
  replace hL := hL.kept hb
  clear hb kc0 kc1 lc kp0 kp1 kp2 lp
  obtain ⟨kc0, kc1⟩ := hxc.two
  have lc := hxc.lt
  obtain ⟨kp0, kp1, kp2⟩ := hxp.three
  have lp := hxp.lt
  go_wp2_with fail
  go_ret2
  exact ⟨rfl, h⟩


theorem ptextI_yes {a b : Int} {p : P3} (w : World) (hL : Env w) (g : PtG a b p) : Calls Tryd.prog 8 #[.agg #[.int .i64 a, .int .i64 b], .agg #[.int .i64 p.x, .int .i64 p.y, .int .i64 p.e]] w (GivesSB w (ptTB p) true) := by
  unfold ptTB
  by_cases h : p.e = 0
  · rw [if_pos h]
    have hz := g.2.inf h
    rw [hz] at g ⊢; exact ptextI_inf a b w g
  · have k := g.2.fin h
    rw [if_neg h]
    exact ptextI_fin a b p w hL g (fun k => h (by rw [k]; rfl)) k.e _ _ _ (frB_sz (frX k)) (frB_sz (frY k)) rfl (fun W hL => textI_yes _ _ W hL.1 hL.2 (frX k)) (fun W hL => textI_yes _ _ W hL.1 hL.2 (frY k))
end Go.Proofs.YtokhadhfjbecmaaDoor
