/- FractionText: the model's and the program's (written by wip/gen/frtext.py). -/
import Derived.Test.YtchglkcfolannabDoorFrGood
import Derived.Test.YtchglkcfolannabDoorTxNum
import Derived.Test.YtchglkcfolannabDoorTxShelf
namespace Go.Proofs.YtchglkcfolannabDoor
open Go.RowKit Go.Joins

/-- The table of powers of ten reads as it was laid. -/
def Pow (w : World) : Prop := Lib.TabIs Tryd.prog w "internal/strconv.uint64pow10" .u64 Lib.pow10Tab
theorem Tryd.gPow : Tryd.prog.globalNamed "internal/strconv.uint64pow10" = some 2 := by kernel_rfl
theorem Pow.kept {w w' : World} (h : Pow w) (hb : Below w.heap.size w w') : Pow w' := by
  unfold Pow Lib.TabIs World.var? at h ⊢
  rw [Tryd.gPow] at h ⊢
  simp only [Option.bind_some] at h ⊢
  have hlt : 2 < w.heap.size := by
    rcases hh : w.heap[2]? with _ | o
    · rw [hh] at h; cases h
    · exact (Array.getElem?_eq_some_iff.1 hh).1
  rw [hb.block _ hlt]
  exact h
theorem below_grow (w : World) (k : Nat) (os : Array Obj) : Below w.heap.size w (Go.Sort.grow (w.drewN k) os) :=
  ⟨rfl, rfl, rfl, by show w.heap.size ≤ (w.heap ++ os).size; simp, fun i hi => by show (w.heap ++ os)[i]? = _; rw [Array.getElem?_append_left hi]⟩
theorem itoa_any (z : Int) (w : World) (hp : Pow w) (h0 : -9223372036854775808 ≤ z) (h1 : z ≤ 9223372036854775807) :
    Calls Tryd.prog 28 #[.int .i64 z] w fun e w' => e = .returned (.string (intB z)) ∧ Below w.heap.size w w' :=
  (Tryd.strconv_Itoa z h0 h1 w hp).mono fun e w' ⟨he, k, os, hw⟩ => ⟨he, by rw [hw]; exact below_grow w k os⟩

/-- The text of a fraction. -/
def frB (p q : Int) : ByteArray := if q = 1 then intB p else intB p ++ (⟨#[47]⟩ : ByteArray) ++ numB q.toNat
theorem frB_one (p : Int) : frB p 1 = intB p := by unfold frB; rw [if_pos rfl]
theorem intB_size22 (z : Int) (h0 : -9223372036854775807 ≤ z) (h1 : z ≤ 9223372036854775807) : (intB z).size ≤ 21 := by
  by_cases h : z < 0
  · rw [intB_neg h, ByteArray.size_append]
    have := numB_size20 z.natAbs (by omega)
    show 1 + _ ≤ _
    omega
  · rw [intB_pos (by omega)]
    have := numB_size20 z.toNat (by omega)
    omega
theorem ba_assoc (a b c : ByteArray) : a ++ b ++ c = a ++ (b ++ c) := by
  apply ByteArray.ext
  simp
def GivesSB (w : World) (s : ByteArray) (ok : Bool) (e : Ending) (w' : World) : Prop := e = .returned (.tuple #[.string s, .bool ok]) ∧ Below w.heap.size w w'

def Env (w : World) : Prop := Lim w ∧ Pow w
theorem Env.kept {w w' : World} (h : Env w) (hb : Below w.heap.size w w') : Env w' := ⟨h.1.kept hb, h.2.kept hb⟩

set_option maxHeartbeats 1000000 in
theorem frText_one (p0 : Int) (w : World) (g0 : FrG p0 1) : Calls Tryd.prog 29 #[.agg #[.int .i64 p0, .int .i64 1]] w fun e w' => e = .returned (.string (frB p0 1)) ∧ Below w.heap.size w w' := by
  obtain ⟨-, -, a3, a4, -⟩ := g0
  have h := Below.refl w.heap.size w
  have hA := below_alloc1 w (.cells #[.int .i64 p0, .int .i64 1] 24)
  replace h := Below.step h hA
  have hx0 := Box.new w 24 #[.int .i64 p0, .int .i64 1]
  clear hA
  go_enter Tryd.func29, Tryd.ntmps29
  go_wp2_with fail
  refine (l1Int_any p0 _ (by omega) (by omega)).mono ?_
  rintro e w1 ⟨rfl, hb⟩
  replace h := Below.step h hb
  replace hx0 := hx0.kept hb
  clear hb
  obtain ⟨ahx0, bhx0⟩ := hx0.two
  have lhx0 := hx0.lt
  go_wp2_with fail
  go_ret
  exact ⟨by rw [frB_one]; rfl, h⟩

set_option maxHeartbeats 3000000 in
theorem frText_more (p0 q0 : Int) (w : World) (g0 : FrG p0 q0) (hq : 1 < q0) : Calls Tryd.prog 29 #[.agg #[.int .i64 p0, .int .i64 q0]] w fun e w' => e = .returned (.string (frB p0 q0)) ∧ Below w.heap.size w w' := by
  obtain ⟨a1, a2, a3, a4, -⟩ := g0
  have h := Below.refl w.heap.size w
  have hA := below_alloc1 w (.cells #[.int .i64 p0, .int .i64 q0] 24)
  replace h := Below.step h hA
  have hx0 := Box.new w 24 #[.int .i64 p0, .int .i64 q0]
  clear hA
  obtain ⟨ahx0, bhx0⟩ := hx0.two
  obtain ⟨d, rfl⟩ : ∃ d : Nat, q0 = (d : Int) := ⟨q0.toNat, by omega⟩
  have eB : intB p0 ++ (⟨#[47]⟩ : ByteArray) ++ numB d = frB p0 (d : Int) := by unfold frB; rw [if_neg (by omega), Int.toNat_natCast]
  have s1 := intB_size22 p0 (by omega) (by omega)
  have s2 := numB_size20 d (by omega)
  have hadd1 := fun (W : World) => run_string_add_sum (P := Tryd.prog) W (intB p0) ⟨#[47]⟩ (by show _ + 1 ≤ _; omega)
  have hadd2 := fun (W : World) => run_string_add_sum (P := Tryd.prog) W (intB p0 ++ (⟨#[47]⟩ : ByteArray)) (numB d) (by rw [ByteArray.size_append]; show _ + 1 + _ ≤ _; omega)
  rw [eB] at hadd2
  clear eB s1 s2
  have cI := fun W => l1Int_any p0 W (by omega) (by omega)
  have cN := fun W => l1Num_any d (by omega) W
  replace cI := Lib.hid cI
  replace cN := Lib.hid cN
  have e1 : ((d : Int) == 1) = false := beq_eq_false_iff_ne.2 (by omega)
  go_enter Tryd.func29, Tryd.ntmps29
  go_wp2_with fail
  have KC : ∀ (W W' : World), Below W.heap.size W W' → w.heap.size < W.heap.size → (W.cell? ⟨w.heap.size, 0, none⟩ = some (.int .i64 p0) ∧ W.cell? ⟨w.heap.size, 1, none⟩ = some (.int .i64 (d : Int)) ∧ Below w.heap.size w W) → (W'.cell? ⟨w.heap.size, 0, none⟩ = some (.int .i64 p0) ∧ W'.cell? ⟨w.heap.size, 1, none⟩ = some (.int .i64 (d : Int)) ∧ Below w.heap.size w W') := fun W W' hb hlt ⟨h1, h2, hW⟩ => ⟨(hb.cell (p := ⟨w.heap.size, 0, none⟩) hlt).trans h1, (hb.cell (p := ⟨w.heap.size, 1, none⟩) hlt).trans h2, Below.step hW hb⟩
  have KM00 : (w.alloc (.cells #[.int .i64 p0, .int .i64 (d : Int)] 24)).cell? ⟨w.heap.size, 0, none⟩ = some (.int .i64 p0) ∧ (w.alloc (.cells #[.int .i64 p0, .int .i64 (d : Int)] 24)).cell? ⟨w.heap.size, 1, none⟩ = some (.int .i64 (d : Int)) ∧ Below w.heap.size w (w.alloc (.cells #[.int .i64 p0, .int .i64 (d : Int)] 24)) := ⟨ahx0, bhx0, h⟩
  have KM0 : (w.alloc (.cells #[.int .i64 p0, .int .i64 (d : Int)] 24)).drew.cell? ⟨w.heap.size, 0, none⟩ = some (.int .i64 p0) ∧ (w.alloc (.cells #[.int .i64 p0, .int .i64 (d : Int)] 24)).drew.cell? ⟨w.heap.size, 1, none⟩ = some (.int .i64 (d : Int)) ∧ Below w.heap.size w (w.alloc (.cells #[.int .i64 p0, .int .i64 (d : Int)] 24)).drew := ⟨ahx0, bhx0, Below.drewN' h 1⟩
  have hz0 : w.heap.size < (w.alloc (.cells #[.int .i64 p0, .int .i64 (d : Int)] 24)).heap.size := by simp
  have hz1 : w.heap.size < (w.alloc (.cells #[.int .i64 p0, .int .i64 (d : Int)] 24)).drew.heap.size := by simp
  go_region_held3 (fun w' => w'.cell? ⟨w.heap.size, 0, none⟩ = some (.int .i64 p0) ∧ w'.cell? ⟨w.heap.size, 1, none⟩ = some (.int .i64 (d : Int)) ∧ Below w.heap.size w w') ((first | assumption))
    (first
      | (go_at_call 57; (with_reducible refine (cI.out _).mono ?_); rintro e wI ⟨rfl, hbI⟩; have hSI : wI.cell? ⟨w.heap.size, 0, none⟩ = some (.int .i64 p0) ∧ wI.cell? ⟨w.heap.size, 1, none⟩ = some (.int .i64 (d : Int)) ∧ Below w.heap.size w wI := (by first | exact KC _ _ hbI hz1 (by assumption) | exact KC _ _ hbI hzN (by assumption)); have hzI : w.heap.size < wI.heap.size := World.block_lt_of_cell? wI ⟨w.heap.size, 0, none⟩ hSI.1)
      | (go_at_call 58; (with_reducible refine (cN.out _).mono ?_); rintro e wN ⟨rfl, hbN⟩; have hSN : wN.cell? ⟨w.heap.size, 0, none⟩ = some (.int .i64 p0) ∧ wN.cell? ⟨w.heap.size, 1, none⟩ = some (.int .i64 (d : Int)) ∧ Below w.heap.size w wN := (by first | exact KC _ _ hbN hz1 (by assumption) | exact KC _ _ hbN hzI (by assumption)); have hzN : w.heap.size < wN.heap.size := World.block_lt_of_cell? wN ⟨w.heap.size, 0, none⟩ hSN.1))
  all_goals (go_wp2_with fail; go_ret; exact ⟨rfl, by first | exact hSN.2.2 | exact hSI.2.2⟩)

theorem frText_any (p0 q0 : Int) (w : World) (g0 : FrG p0 q0) : Calls Tryd.prog 29 #[.agg #[.int .i64 p0, .int .i64 q0]] w fun e w' => e = .returned (.string (frB p0 q0)) ∧ Below w.heap.size w w' := by
  by_cases hq : 1 < q0
  · exact frText_more p0 q0 w g0 hq
  · obtain rfl : q0 = 1 := by have := g0.1; omega
    exact frText_one p0 w g0

set_option maxHeartbeats 1000000 in
theorem textS_yes (p0 q0 : Int) (w : World) (g0 : FrG p0 q0) : Calls Tryd.prog 8 #[.agg #[.int .i64 p0, .int .i64 q0]] w (GivesSB w (frB p0 q0) true) := by
  have h := Below.refl w.heap.size w
  have hA := below_alloc1 w (.cells #[.int .i64 p0, .int .i64 q0] 24)
  replace h := Below.step h hA
  have hx0 := Box.new w 24 #[.int .i64 p0, .int .i64 q0]
  clear hA
  go_enter Tryd.func8, Tryd.ntmps8
  go_wp2_with fail
  refine (frGood_yes p0 q0 _ g0).mono ?_
  rintro e w1 ⟨rfl, hb⟩
  replace h := Below.step h hb
  replace hx0 := hx0.kept hb
  clear hb
  obtain ⟨ahx0, bhx0⟩ := hx0.two
  have lhx0 := hx0.lt
  go_wp2_with fail
  refine (frText_any p0 q0 _ g0).mono ?_
  rintro e w2 ⟨rfl, hb⟩
  replace h := Below.step h hb
  replace hx0 := hx0.kept hb
  clear hb ahx0 bhx0 lhx0
  obtain ⟨ahx0, bhx0⟩ := hx0.two
  have lhx0 := hx0.lt
  go_wp2_with fail
  go_ret2
  exact ⟨rfl, h⟩

set_option maxHeartbeats 1000000 in
theorem textS_no (p0 q0 : Int) (w : World) (g0 : ¬ FrG p0 q0) : Calls Tryd.prog 8 #[.agg #[.int .i64 p0, .int .i64 q0]] w (GivesSB w ⟨#[]⟩ false) := by
  have h := Below.refl w.heap.size w
  have hA := below_alloc1 w (.cells #[.int .i64 p0, .int .i64 q0] 24)
  replace h := Below.step h hA
  have hx0 := Box.new w 24 #[.int .i64 p0, .int .i64 q0]
  clear hA
  go_enter Tryd.func8, Tryd.ntmps8
  go_wp2_with fail
  refine (frGood_no p0 q0 _ g0).mono ?_
  rintro e w1 ⟨rfl, hb⟩
  replace h := Below.step h hb
  replace hx0 := hx0.kept hb
  clear hb
  obtain ⟨ahx0, bhx0⟩ := hx0.two
  have lhx0 := hx0.lt
  go_wp2_with fail
  go_ret2
  exact ⟨rfl, h⟩

set_option maxHeartbeats 1000000 in
theorem textI_one (p0 : Int) (w : World) (hL : Lim w) (hP : Pow w) (g0 : FrG p0 1) : Calls Tryd.prog 7 #[.agg #[.int .i64 p0, .int .i64 1]] w (GivesSB w (frB p0 1) true) := by
  have g0' := g0
  obtain ⟨-, -, a3, a4, -⟩ := g0'
  have h := Below.refl w.heap.size w
  have hA := below_alloc1 w (.cells #[.int .i64 p0, .int .i64 1] 24)
  replace h := Below.step h hA
  have hx0 := Box.new w 24 #[.int .i64 p0, .int .i64 1]
  clear hA
  go_enter Tryd.func7, Tryd.ntmps7
  go_wp2_with fail
  refine (isFractionI_yes p0 1 _ (by exact hL.kept h) g0).mono ?_
  rintro e w1 ⟨rfl, hb⟩
  replace h := Below.step h hb
  replace hx0 := hx0.kept hb
  clear hb
  obtain ⟨ahx0, bhx0⟩ := hx0.two
  have lhx0 := hx0.lt
  go_wp2_with fail
  refine (itoa_any p0 _ (by exact hP.kept h) (by omega) (by omega)).mono ?_
  rintro e w2 ⟨rfl, hb⟩
  replace h := Below.step h hb
  replace hx0 := hx0.kept hb
  clear hb ahx0 bhx0 lhx0
  obtain ⟨ahx0, bhx0⟩ := hx0.two
  have lhx0 := hx0.lt
  go_wp2_with fail
  go_ret2
  exact ⟨by rw [frB_one]; rfl, h⟩

set_option maxHeartbeats 1000000 in
theorem textI_more (p0 q0 : Int) (w : World) (hL : Lim w) (hP : Pow w) (g0 : FrG p0 q0) (hq : 1 < q0) : Calls Tryd.prog 7 #[.agg #[.int .i64 p0, .int .i64 q0]] w (GivesSB w (frB p0 q0) true) := by
  have g0' := g0
  obtain ⟨a1, a2, a3, a4, -⟩ := g0'
  have h := Below.refl w.heap.size w
  have hA := below_alloc1 w (.cells #[.int .i64 p0, .int .i64 q0] 24)
  replace h := Below.step h hA
  have hx0 := Box.new w 24 #[.int .i64 p0, .int .i64 q0]
  clear hA
  have eB : intB p0 ++ ((⟨#[47]⟩ : ByteArray) ++ intB q0) = frB p0 q0 := by unfold frB; rw [if_neg (by omega), intB_pos (z := q0) (by omega), ba_assoc]
  have s1 := intB_size22 p0 (by omega) (by omega)
  have s2 := intB_size22 q0 (by omega) (by omega)
  have hadd1 := fun (W : World) => run_string_add_sum (P := Tryd.prog) W ⟨#[47]⟩ (intB q0) (by show 1 + _ ≤ _; omega)
  have hadd2 := fun (W : World) => run_string_add_sum (P := Tryd.prog) W (intB p0) ((⟨#[47]⟩ : ByteArray) ++ intB q0) (by rw [ByteArray.size_append]; show _ + (1 + _) ≤ _; omega)
  rw [eB] at hadd2
  clear eB s1 s2
  go_enter Tryd.func7, Tryd.ntmps7
  go_wp2_with fail
  refine (isFractionI_yes p0 q0 _ (by exact hL.kept h) g0).mono ?_
  rintro e w1 ⟨rfl, hb⟩
  replace h := Below.step h hb
  replace hx0 := hx0.kept hb
  clear hb
  obtain ⟨ahx0, bhx0⟩ := hx0.two
  have lhx0 := hx0.lt
  go_wp2_with fail
  refine (itoa_any p0 _ (by exact hP.kept h) (by omega) (by omega)).mono ?_
  rintro e w2 ⟨rfl, hb⟩
  replace h := Below.step h hb
  replace hx0 := hx0.kept hb
  clear hb ahx0 bhx0 lhx0
  obtain ⟨ahx0, bhx0⟩ := hx0.two
  have lhx0 := hx0.lt
  go_wp2_with fail
  refine (itoa_any q0 _ (by exact hP.kept h) (by omega) (by omega)).mono ?_
  rintro e w3 ⟨rfl, hb⟩
  replace h := Below.step h hb
  replace hx0 := hx0.kept hb
  clear hb ahx0 bhx0 lhx0
  obtain ⟨ahx0, bhx0⟩ := hx0.two
  have lhx0 := hx0.lt
  go_wp2_with fail
  go_ret2
  exact ⟨rfl, h⟩

set_option maxHeartbeats 1000000 in
theorem textI_no (p0 q0 : Int) (w : World) (hL : Lim w) (g0 : ¬ FrG p0 q0) : Calls Tryd.prog 7 #[.agg #[.int .i64 p0, .int .i64 q0]] w (GivesSB w ⟨#[]⟩ false) := by
  have h := Below.refl w.heap.size w
  have hA := below_alloc1 w (.cells #[.int .i64 p0, .int .i64 q0] 24)
  replace h := Below.step h hA
  have hx0 := Box.new w 24 #[.int .i64 p0, .int .i64 q0]
  clear hA
  go_enter Tryd.func7, Tryd.ntmps7
  go_wp2_with fail
  refine (isFractionI_no p0 q0 _ (by exact hL.kept h) g0).mono ?_
  rintro e w1 ⟨rfl, hb⟩
  replace h := Below.step h hb
  replace hx0 := hx0.kept hb
  clear hb
  obtain ⟨ahx0, bhx0⟩ := hx0.two
  have lhx0 := hx0.lt
  go_wp2_with fail
  go_ret2
  exact ⟨rfl, h⟩

theorem textI_yes (p0 q0 : Int) (w : World) (hL : Lim w) (hP : Pow w) (g0 : FrG p0 q0) : Calls Tryd.prog 7 #[.agg #[.int .i64 p0, .int .i64 q0]] w (GivesSB w (frB p0 q0) true) := by
  by_cases hq : 1 < q0
  · exact textI_more p0 q0 w hL hP g0 hq
  · obtain rfl : q0 = 1 := by have := g0.1; omega
    exact textI_one p0 w hL hP g0
end Go.Proofs.YtchglkcfolannabDoor
