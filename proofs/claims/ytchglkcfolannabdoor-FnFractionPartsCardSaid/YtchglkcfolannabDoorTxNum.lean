/- Decimal numerals: the model's l1Num and l1Int. -/
import Derived.Test.YtchglkcfolannabDoorFrGcd
import Derived.Lib.ItoaNum
import Derived.Laws.IdiomStrings
import Derived.Laws.BytesArg
import Derived.IntWalk
import Derived.Deep.RegionHeld3
import Derived.Deep.DeepCutAuto
import Derived.Deep.RegionWith
namespace Go.Proofs.YtchglkcfolannabDoor
open Go.RowKit Go.Joins

def numB (n : Nat) : ByteArray := ⟨(Lib.decDigits n).toArray⟩
def oneStr (v : Int) : ByteArray := ⟨#[UInt8.ofNat v.toNat]⟩

set_option maxRecDepth 100000 in
theorem conv1 (W : World) (g : Nat) (v : Int) (h : W.cell? ⟨g, 0, none⟩ = some (.int .u8 v)) :
    (convert 22 9 (.slice (some ⟨g, 0, none⟩) 1 1)).run Tryd.prog W = .ok (.string (oneStr v)) W := by
  have := run_convert_bytes_arg (P := Tryd.prog) W 22 5 Tryd.underlying22 Tryd.underlying5 g 0 1 1 [v] rfl (fun i hi => by
    obtain rfl : i = 0 := by omega
    simpa using h) 9 Tryd.underlying9
  rw [this]
  simp [strOfNums, oneStr]

theorem numStr_small {n : Nat} (h : n < 10) : oneStr (48 + (n : Int)) = numB n := by
  unfold numB oneStr
  rw [Lib.decDigits_one h]
  rw [show (48 + (n : Int)).toNat = 48 + n from by omega]

theorem numStr_big {n : Nat} (h : ¬ n < 10) : numB (n / 10) ++ oneStr (48 + (n : Int) % 10) = numB n := by
  unfold numB oneStr
  conv => rhs; rw [Lib.decDigits, dif_neg h]
  have e : (48 + (n : Int) % 10).toNat = 48 + n % 10 := by omega
  rw [e]
  apply ByteArray.ext
  simp

theorem numB_size (n : Nat) : (numB n).size ≤ n + 1 := by
  show (Lib.decDigits n).toArray.size ≤ n + 1
  rw [List.size_toArray, Lib.decDigits_length]
  induction n using Nat.strongRecOn with
  | _ u ih =>
    by_cases h : u < 10
    · rw [Lib.nDigits_small h]; omega
    · rw [Lib.nDigits, dif_neg h]
      have := ih (u / 10) (by omega)
      omega
theorem numB_size20 (n : Nat) (hn : n < 18446744073709551616) : (numB n).size ≤ 20 := by
  show (Lib.decDigits n).toArray.size ≤ 20
  rw [List.size_toArray, Lib.decDigits_length]
  by_cases h : n = 0
  · subst h; rw [Lib.nDigits_small (by omega)]; omega
  · have := Lib.numDigits_eq n (by omega) hn
    split at this <;> omega
theorem oneStr_size (v : Int) : (oneStr v).size = 1 := rfl

set_option maxHeartbeats 1000000 in
set_option maxRecDepth 100000 in
theorem l1Num_small (n : Nat) (w : World) (h : n < 10) : Calls Tryd.prog 58 #[.int .i64 (n : Int)] w fun e w' => e = .returned (.string (numB n)) ∧ Below w.heap.size w w' := by
  have hcv := conv1 (w.alloc (.cells #[.int .u8 (48 + (n : Int))] 5)) w.heap.size (48 + (n : Int)) ((Box.new w 5 #[.int .u8 (48 + (n : Int))]).cell 0)
  go_enter Tryd.func58, Tryd.ntmps58
  go_wp2_with fail
  go_ret
  exact ⟨by rw [← numStr_small h]; rfl, below_alloc1 _ _⟩

set_option maxHeartbeats 2000000 in
set_option maxRecDepth 100000 in
theorem l1Num_big (n : Nat) (w : World) (h : ¬ n < 10) (hn : n ≤ 9223372036854775807) (ih : ∀ W, Calls Tryd.prog 58 #[.int .i64 ((n / 10 : Nat) : Int)] W fun e w' => e = .returned (.string (numB (n / 10))) ∧ Below W.heap.size W w') :
    Calls Tryd.prog 58 #[.int .i64 (n : Int)] w fun e w' => e = .returned (.string (numB n)) ∧ Below w.heap.size w w' := by
  rw [show ((n / 10 : Nat) : Int) = (n : Int) / 10 from by omega] at ih
  replace ih := Lib.hid ih
  have hfin := numStr_big h
  have hadd := fun (W : World) => run_string_add_sum (P := Tryd.prog) W (numB (n / 10)) (oneStr (48 + (n : Int) % 10)) (by have := numB_size (n / 10); rw [oneStr_size]; omega)
  rw [hfin] at hadd
  clear hfin
  have h' : ¬ (n : Int) < 10 := by omega
  clear h
  have KM0 : Below w.heap.size w w.drew := ⟨rfl, rfl, rfl, Nat.le_refl _, fun _ _ => rfl⟩
  have KM00 := Below.refl w.heap.size w
  have m0 : 0 ≤ (n : Int) % 10 := by omega
  have m1 : (n : Int) % 10 < 10 := by omega
  have hcv := fun (W : World) (g : Nat) (hh : W.cell? ⟨g, 0, none⟩ = some (.int .u8 (48 + (n : Int) % 10))) => conv1 W g (48 + (n : Int) % 10) hh
  have hcv2 := fun (W : World) => hcv (W.alloc (.cells #[.int .u8 (48 + (n : Int) % 10)] 5)) W.heap.size ((Box.new W 5 #[.int .u8 (48 + (n : Int) % 10)]).cell 0)
  have hcv3 := hcv (w.drew.alloc (.cells #[.int .u8 (48 + (n : Int) % 10)] 5)) w.heap.size ((Box.new w.drew 5 #[.int .u8 (48 + (n : Int) % 10)]).cell 0)
  have hcv4 := hcv (w.alloc (.cells #[.int .u8 (48 + (n : Int) % 10)] 5)).drew w.heap.size ((Box.new w 5 #[.int .u8 (48 + (n : Int) % 10)]).cell 0)
  have q1 : IntKind.i64.wrap ((n : Int) / 10) = (n : Int) / 10 := IntWalk.i64_in _ (by omega)
  have q2 : (n : Int).tmod 10 = (n : Int) % 10 := Int.tmod_eq_emod_of_nonneg (by omega)
  have q3 : IntKind.i64.wrap (48 + (n : Int) % 10) = 48 + (n : Int) % 10 := IntWalk.i64_in _ (by omega)
  have q4 : IntKind.u8.wrap (48 + (n : Int) % 10) = 48 + (n : Int) % 10 := by rw [IntKind.wrap_u8]; omega
  go_enter Tryd.func58, Tryd.ntmps58
  go_wp2_with fail
  go_region_with (go_at_call 58; (with_reducible refine (ih.out _).mono ?_); rintro e wC ⟨rfl, hbC⟩; have hSC : Below w.heap.size w wC := (by first | exact ⟨hbC.os, hbC.tape, hbC.output, hbC.size, hbC.block⟩ | exact Below.step (below_alloc1 w (.cells #[.int .u8 (48 + (n : Int) % 10)] 5)) ⟨hbC.os, hbC.tape, hbC.output, hbC.size, hbC.block⟩); (first | (have hgC := ((Box.new w 5 #[.int .u8 (48 + (n : Int) % 10)]).kept (w' := wC) ⟨hbC.os, hbC.tape, hbC.output, hbC.size, hbC.block⟩).cell 0; have hgD := hcv wC w.heap.size hgC) | skip))
  all_goals (go_wp2_with fail; go_ret; exact ⟨rfl, by first | assumption | exact Below.drewN' hSC _ | exact Below.step hSC (below_alloc1 _ _)⟩)

theorem l1Num_any (n : Nat) (hn : n ≤ 9223372036854775807) : ∀ w : World, Calls Tryd.prog 58 #[.int .i64 (n : Int)] w fun e w' => e = .returned (.string (numB n)) ∧ Below w.heap.size w w' := by
  induction n using Nat.strongRecOn with
  | _ n ih =>
    intro w
    by_cases h : n < 10
    · exact l1Num_small n w h
    · exact l1Num_big n w h hn (fun W => ih (n / 10) (by omega) (by omega) W)

/-- The decimal text of an integer. -/
def intB (z : Int) : ByteArray := ⟨(Lib.itoa z).toArray⟩
theorem intB_pos {z : Int} (h : 0 ≤ z) : intB z = numB z.toNat := by unfold intB Lib.itoa; rw [if_neg (by omega)]; rfl
theorem intB_neg {z : Int} (h : z < 0) : intB z = (⟨#[45]⟩ : ByteArray) ++ numB z.natAbs := by
  unfold intB Lib.itoa numB
  rw [if_pos h]
  apply ByteArray.ext
  simp
theorem intB_size (z : Int) : (intB z).size ≤ z.natAbs + 2 := by
  by_cases h : z < 0
  · rw [intB_neg h, ByteArray.size_append]
    have := numB_size z.natAbs
    show 1 + _ ≤ _
    omega
  · rw [intB_pos (by omega)]
    have := numB_size z.toNat
    omega

set_option maxHeartbeats 1000000 in
set_option maxRecDepth 100000 in
theorem l1Int_neg (z : Int) (w : World) (h : z < 0) (h0 : -9223372036854775807 ≤ z) : Calls Tryd.prog 57 #[.int .i64 z] w fun e w' => e = .returned (.string (intB z)) ∧ Below w.heap.size w w' := by
  have c := fun W => l1Num_any z.natAbs (by omega) W
  rw [show ((z.natAbs : Nat) : Int) = -z from by omega] at c
  have hadd := fun (W : World) => run_string_add_sum (P := Tryd.prog) W ⟨#[45]⟩ (numB z.natAbs) (by have := numB_size20 z.natAbs (by omega); show 1 + _ ≤ _; omega)
  rw [← intB_neg h] at hadd
  replace c := Lib.hid c
  go_enter Tryd.func57, Tryd.ntmps57
  go_wp2_with fail
  refine (c.out _).mono ?_
  rintro e w1 ⟨rfl, hb⟩
  go_wp2_with fail
  go_ret
  exact ⟨rfl, hb⟩

set_option maxHeartbeats 1000000 in
set_option maxRecDepth 100000 in
theorem l1Int_pos (z : Int) (w : World) (h : 0 ≤ z) (h0 : z ≤ 9223372036854775807) : Calls Tryd.prog 57 #[.int .i64 z] w fun e w' => e = .returned (.string (intB z)) ∧ Below w.heap.size w w' := by
  have c := fun W => l1Num_any z.toNat (by omega) W
  rw [show ((z.toNat : Nat) : Int) = z from by omega, ← intB_pos h] at c
  replace c := Lib.hid c
  have h' : ¬ z < 0 := by omega
  go_enter Tryd.func57, Tryd.ntmps57
  go_wp2_with fail
  refine (c.out _).mono ?_
  rintro e w1 ⟨rfl, hb⟩
  go_wp2_with fail
  go_ret
  exact ⟨rfl, hb⟩

theorem l1Int_any (z : Int) (w : World) (h0 : -9223372036854775807 ≤ z) (h1 : z ≤ 9223372036854775807) : Calls Tryd.prog 57 #[.int .i64 z] w fun e w' => e = .returned (.string (intB z)) ∧ Below w.heap.size w w' := by
  by_cases h : z < 0
  · exact l1Int_neg z w h h0
  · exact l1Int_pos z w (by omega) h1
end Go.Proofs.YtchglkcfolannabDoor
