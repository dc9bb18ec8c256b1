/- The model's points modulo a prime (written by wip/gen/fms1.py). -/
import Derived.Test.YtbgoiflkpefckaaFmC
import Derived.Test.YtbgoiflkpefckaaPwAppend
import Derived.Deep.RegionHeld3
import Derived.Deep.DeepCutAuto
import Derived.BigQuiet
import Derived.BigGuard
import Derived.StillTailTactics
namespace Go.Proofs.Ytbgoiflkpefckaa
open Go.RowKit Go.Joins

/-- A point as a list. -/
def fl : FP → List Int
  | none => []
  | some (x, y) => [(x : Int), (y : Int)]
/-- What a list is as a point. -/
def OnL (a b : Int) (p : Nat) (xs : List Int) : Prop := ∃ s : FP, xs = fl s ∧ FOn a b p s
def allIn (xs : List Int) (lo hi : Int) : Bool := xs.all (fun n => decide (lo ≤ n) && decide (n ≤ hi))
theorem beq_nat (m n : Nat) : ((m : Int) == (n : Int)) = decide (m = n) := by
  by_cases e : m = n
  · rw [e]; simp
  · rw [decide_eq_false e, beq_eq_false_iff_ne]; omega
theorem own_nil (w : World) (base : Nat) : Own w base (.slice none 0 0) [] := World.ownsRow_nil w base 3 1

set_option maxHeartbeats 1000000 in
theorem l1All_any (A : Option Addr) (n c B0 : Nat) (xs : List Int) (lo hi : Int) (w : World) (hn : n ≤ 1048576) (h : Rd w B0 A n xs) (B : Bool) (hB : B = allIn xs lo hi) :
    Calls Try.prog 75 #[.slice A n c, .int .i64 lo, .int .i64 hi] w fun e w' => e = .returned (.bool B) ∧ w = w' := by
  have hl := h.1
  have hfull : Hid (allIn xs lo hi = allIn (xs.drop 0) lo hi) := by rw [List.drop_zero]; exact rfl
  replace hB := Lib.hid hB
  go_enter Try.func75, Try.ntmps75
  go_wp2_with fail
  go_loop [11] (fun i => ∃ k : Nat, k ≤ n ∧ i = .int .i64 k ∧ Hid (B = allIn (xs.drop k) lo hi)) (fun i => n - (intOf i).toNat)
  case atStart => exact ⟨0, by omega, rfl, hB.out.trans hfull.out⟩
  case round =>
    obtain ⟨k, hk, rfl, hiv⟩ := hrel
    clear hfull hB
    by_cases hlt : k < n
    · obtain ⟨b, o, rfl, hbs, hc⟩ := h.2 (by omega)
      have hread := hc k hlt
      clear hc
      have hd : allIn (xs.drop k) lo hi = ((decide (lo ≤ xs[k]?.getD 0) && decide (xs[k]?.getD 0 ≤ hi)) && allIn (xs.drop (k + 1)) lo hi) := by
        rw [List.drop_eq_getElem_cons (by omega), List.getElem?_eq_getElem (show k < xs.length by omega)]
        rfl
      rw [hd] at hiv
      generalize xs[k]?.getD 0 = x at *
      by_cases h1 : lo ≤ x ∧ x ≤ hi
      · rw [decide_eq_true h1.1, decide_eq_true h1.2, Bool.and_self, Bool.true_and] at hiv
        clear hd
        go_wp2_with fail
        refine (l1In_yes x lo hi _ h1.1 h1.2).mono ?_
        rintro e w1 ⟨rfl, rfl⟩
        go_wp2_with fail
        go_round
        case rel => exact ⟨k + 1, by omega, by go_num, hiv⟩
        case measure => simp [intOf]; omega
      · have h2 : x < lo ∨ hi < x := by omega
        have hf : Hid (B = false) := by
          have := hiv.out
          rcases h2 with h2 | h2
          · rw [decide_eq_false (show ¬ lo ≤ x by omega), Bool.false_and, Bool.false_and] at this; exact this
          · rw [decide_eq_false (show ¬ x ≤ hi by omega), Bool.and_false, Bool.false_and] at this; exact this
        clear hd hiv h1
        replace h2 := Lib.hid h2
        go_wp2_with fail
        refine (l1In_no x lo hi _ h2.out).mono ?_
        rintro e w1 ⟨rfl, rfl⟩
        go_wp2_with fail
        go_ret
        exact ⟨ret_bool hf.out.symm, rfl⟩
    · have hf : Hid (B = true) := by
        have := hiv.out
        rw [List.drop_of_length_le (by omega)] at this
        exact this
      clear hiv
      go_wp2_with fail
      go_ret
      exact ⟨ret_bool hf.out.symm, rfl⟩

set_option maxHeartbeats 1000000 in
set_option maxRecDepth 100000 in
theorem fmOn_0 (a b : Int) (p : Nat) (R : Option Addr) (c : Nat) (w : World) : Calls Try.prog 54 #[.agg #[.int .i64 a, .int .i64 b], .int .i64 (p : Int), .slice R 0 c] w (GivesB w true) := by
  have h := Below.refl w.heap.size w
  have hA := below_alloc1 w (.cells #[.int .i64 a, .int .i64 b] 26)
  have hx0 := Box.new w 26 #[.int .i64 a, .int .i64 b]
  replace h := Below.step h hA
  clear hA
  obtain ⟨k00, k01⟩ := hx0.two
  have l0 := hx0.lt
  go_enter Try.func54, Try.ntmps54
  go_wp2_with fail
  go_ret
  exact ⟨rfl, h⟩


set_option maxHeartbeats 1000000 in
set_option maxRecDepth 100000 in
theorem fmOn_len (a b : Int) (p n : Nat) (R : Option Addr) (c : Nat) (w : World) (h0 : n ≠ 0) (h2 : n ≠ 2) : Calls Try.prog 54 #[.agg #[.int .i64 a, .int .i64 b], .int .i64 (p : Int), .slice R n c] w (GivesB w false) := by
  have e0 : ((n : Int) == 0) = false := beq_eq_false_iff_ne.2 (by omega)
  have e2 : ((n : Int) == 2) = false := beq_eq_false_iff_ne.2 (by omega)
  clear h0 h2
  have h := Below.refl w.heap.size w
  have hA := below_alloc1 w (.cells #[.int .i64 a, .int .i64 b] 26)
  have hx0 := Box.new w 26 #[.int .i64 a, .int .i64 b]
  replace h := Below.step h hA
  clear hA
  obtain ⟨k00, k01⟩ := hx0.two
  have l0 := hx0.lt
  go_enter Try.func54, Try.ntmps54
  go_wp2_with fail
  go_quiet (fail)
  go_wp2_with fail
  go_ret
  exact ⟨rfl, Below.drewN' h _⟩


theorem rd_two {W : World} {B b o : Nat} {x y : Int} (hb : b < B) (h0 : W.cell? ⟨b, o, none⟩ = some (.int .i64 x)) (h1 : W.cell? ⟨b, o + 1, none⟩ = some (.int .i64 y)) : Rd W B (some ⟨b, o, none⟩) 2 [x, y] :=
  ⟨rfl, fun _ => ⟨b, o, rfl, hb, fun k hk => by
    obtain rfl | rfl : k = 0 ∨ k = 1 := by omega
    · exact h0
    · exact h1⟩⟩

set_option maxHeartbeats 1000000 in
set_option maxRecDepth 100000 in
theorem fmOn_out (a b : Int) (p rb ro c : Nat) (x y : Int) (w : World) (hb : rb < w.heap.size) (r0 : w.cell? ⟨rb, ro, none⟩ = some (.int .i64 x)) (r1 : w.cell? ⟨rb, ro + 1, none⟩ = some (.int .i64 y)) (hp : p ≤ 997) (hall : false = allIn [x, y] 0 ((p : Int) - 1)) : Calls Try.prog 54 #[.agg #[.int .i64 a, .int .i64 b], .int .i64 (p : Int), .slice (some ⟨rb, ro, none⟩) 2 c] w (GivesB w false) := by
  have rdd : ∀ W, Below w.heap.size w W → Rd W w.heap.size (some ⟨rb, ro, none⟩) 2 [x, y] := fun W hW => rd_two hb ((hW.cell (p := ⟨rb, ro, none⟩) hb).trans r0) ((hW.cell (p := ⟨rb, ro + 1, none⟩) hb).trans r1)
  have c1 := fun W hW => l1All_any (some ⟨rb, ro, none⟩) 2 c w.heap.size [x, y] 0 ((p : Int) - 1) W (by omega) (rdd W hW) false hall
  replace c1 := Lib.hid c1
  clear rdd hall r0 r1
  have h := Below.refl w.heap.size w
  have hA := below_alloc1 w (.cells #[.int .i64 a, .int .i64 b] 26)
  have hx0 := Box.new w 26 #[.int .i64 a, .int .i64 b]
  replace h := Below.step h hA
  clear hA
  obtain ⟨k00, k01⟩ := hx0.two
  have l0 := hx0.lt
  go_enter Try.func54, Try.ntmps54
  go_wp2_with fail
  go_quiet ((go_at_call 75; exact qleft (c1.out _ (by first | exact h | exact Below.drewN' h _))))
  go_wp2_with fail
  go_ret
  exact ⟨rfl, Below.drewN' h _⟩


set_option maxHeartbeats 1000000 in
set_option maxRecDepth 100000 in
theorem fmOn_two {a b : Int} {p : Nat} (G : FG a b p) (rb ro c x y : Nat) (w : World) (hb : rb < w.heap.size) (r0 : w.cell? ⟨rb, ro, none⟩ = some (.int .i64 (x : Int))) (r1 : w.cell? ⟨rb, ro + 1, none⟩ = some (.int .i64 (y : Int))) (hx : x < p) (hy : y < p) (hall : true = allIn [(x : Int), (y : Int)] 0 ((p : Int) - 1)) (B : Bool) (hB : B = decide (y * y % p = fval a b p x)) : Calls Try.prog 54 #[.agg #[.int .i64 a, .int .i64 b], .int .i64 (p : Int), .slice (some ⟨rb, ro, none⟩) 2 c] w (GivesB w B) := by
  have h5 := G.five
  have h9 := G.le
  have p0 : ((p : Int) == 0) = false := beq_eq_false_iff_ne.2 (by omega)
  have p1 : (p : Int) ≠ 0 := by omega
  have p2 : p ≠ 0 := by omega
  have rdd : ∀ W, Below w.heap.size w W → Rd W w.heap.size (some ⟨rb, ro, none⟩) 2 [(x : Int), (y : Int)] := fun W hW => rd_two hb ((hW.cell (p := ⟨rb, ro, none⟩) hb).trans r0) ((hW.cell (p := ⟨rb, ro + 1, none⟩) hb).trans r1)
  have c1 := fun W hW => l1All_any (some ⟨rb, ro, none⟩) 2 c w.heap.size [(x : Int), (y : Int)] 0 ((p : Int) - 1) W (by omega) (rdd W hW) true hall
  have c2 := fun W => fmValue_any G x W hx
  have hVp : fval a b p x < p := rs_lt (by omega) _
  have eB : ((y : Int) * y % p == (fval a b p x : Int)) = B := by rw [cast_mm, hB]; exact beq_nat _ _
  generalize fval a b p x = V at *
  replace c1 := Lib.hid c1
  replace c2 := Lib.hid c2
  obtain ⟨s3, s4⟩ := small_mul (o := y) (x := y) (by omega) (by omega)
  clear rdd hall hB G
  have h := Below.refl w.heap.size w
  have hA := below_alloc1 w (.cells #[.int .i64 a, .int .i64 b] 26)
  have hx0 := Box.new w 26 #[.int .i64 a, .int .i64 b]
  replace h := Below.step h hA
  clear hA
  obtain ⟨k00, k01⟩ := hx0.two
  have l0 := hx0.lt
  have hrr : ∀ W, Below w.heap.size w W → W.cell? ⟨rb, ro, none⟩ = some (.int .i64 x) ∧ W.cell? ⟨rb, ro + 1, none⟩ = some (.int .i64 y) := fun W hW => ⟨(hW.cell (p := ⟨rb, ro, none⟩) hb).trans r0, (hW.cell (p := ⟨rb, ro + 1, none⟩) hb).trans r1⟩
  clear r0 r1
  replace hrr := Lib.hid hrr
  obtain ⟨r0, r1⟩ := hrr.out _ h
  go_enter Try.func54, Try.ntmps54
  go_wp2_with fail
  clear r0 r1
  have ew : IntKind.i64.wrap ((p : Int) - 1) = (p : Int) - 1 := IntWalk.i64_in _ (by omega)
  have ew2 : IntKind.i64.wrap ((y : Int) * y) = (y : Int) * y := IntWalk.i64_in _ (by omega)
  have q2 : ((y : Int) * y).tmod p = (y : Int) * y % p := Int.tmod_eq_emod_of_nonneg s3
  go_upto_region 3 with fail
  generalize (w.alloc (.cells #[.int .i64 a, .int .i64 b] 26)) = w1 at *
  have KM : ∀ (W : World), Below w1.heap.size w1 W → (W.cell? ⟨w.heap.size, 0, none⟩ = some (.int .i64 a) ∧ W.cell? ⟨w.heap.size, 1, none⟩ = some (.int .i64 b) ∧ W.cell? ⟨rb, ro, none⟩ = some (.int .i64 (x : Int)) ∧ W.cell? ⟨rb, ro + 1, none⟩ = some (.int .i64 (y : Int)) ∧ Below w1.heap.size w1 W) := fun W hW => ⟨(hx0.kept hW).two.1, (hx0.kept hW).two.2, (hrr.out _ (Below.step h hW)).1, (hrr.out _ (Below.step h hW)).2, hW⟩
  have KC : ∀ (W W' : World), Below W.heap.size W W' → (W.cell? ⟨w.heap.size, 0, none⟩ = some (.int .i64 a) ∧ W.cell? ⟨w.heap.size, 1, none⟩ = some (.int .i64 b) ∧ W.cell? ⟨rb, ro, none⟩ = some (.int .i64 (x : Int)) ∧ W.cell? ⟨rb, ro + 1, none⟩ = some (.int .i64 (y : Int)) ∧ Below w1.heap.size w1 W) → (W'.cell? ⟨w.heap.size, 0, none⟩ = some (.int .i64 a) ∧ W'.cell? ⟨w.heap.size, 1, none⟩ = some (.int .i64 b) ∧ W'.cell? ⟨rb, ro, none⟩ = some (.int .i64 (x : Int)) ∧ W'.cell? ⟨rb, ro + 1, none⟩ = some (.int .i64 (y : Int)) ∧ Below w1.heap.size w1 W') := fun W W' hb ⟨_, _, _, _, hW⟩ => KM _ (Below.step hW hb)
  have KA : ∀ (W : World) (o : Obj), (W.cell? ⟨w.heap.size, 0, none⟩ = some (.int .i64 a) ∧ W.cell? ⟨w.heap.size, 1, none⟩ = some (.int .i64 b) ∧ W.cell? ⟨rb, ro, none⟩ = some (.int .i64 (x : Int)) ∧ W.cell? ⟨rb, ro + 1, none⟩ = some (.int .i64 (y : Int)) ∧ Below w1.heap.size w1 W) → ((W.alloc o).cell? ⟨w.heap.size, 0, none⟩ = some (.int .i64 a) ∧ (W.alloc o).cell? ⟨w.heap.size, 1, none⟩ = some (.int .i64 b) ∧ (W.alloc o).cell? ⟨rb, ro, none⟩ = some (.int .i64 (x : Int)) ∧ (W.alloc o).cell? ⟨rb, ro + 1, none⟩ = some (.int .i64 (y : Int)) ∧ Below w1.heap.size w1 (W.alloc o)) := fun W o ⟨_, _, _, _, hW⟩ => KM _ (Below.step hW (below_alloc1 _ _))
  have KD : ∀ (W : World), (W.cell? ⟨w.heap.size, 0, none⟩ = some (.int .i64 a) ∧ W.cell? ⟨w.heap.size, 1, none⟩ = some (.int .i64 b) ∧ W.cell? ⟨rb, ro, none⟩ = some (.int .i64 (x : Int)) ∧ W.cell? ⟨rb, ro + 1, none⟩ = some (.int .i64 (y : Int)) ∧ Below w1.heap.size w1 W) → (W.drew.cell? ⟨w.heap.size, 0, none⟩ = some (.int .i64 a) ∧ W.drew.cell? ⟨w.heap.size, 1, none⟩ = some (.int .i64 b) ∧ W.drew.cell? ⟨rb, ro, none⟩ = some (.int .i64 (x : Int)) ∧ W.drew.cell? ⟨rb, ro + 1, none⟩ = some (.int .i64 (y : Int)) ∧ Below w1.heap.size w1 W.drew) := fun W ⟨_, _, _, _, hW⟩ => KM _ (Below.drewN' hW 1)
  have KB : ∀ (W : World), (W.cell? ⟨w.heap.size, 0, none⟩ = some (.int .i64 a) ∧ W.cell? ⟨w.heap.size, 1, none⟩ = some (.int .i64 b) ∧ W.cell? ⟨rb, ro, none⟩ = some (.int .i64 (x : Int)) ∧ W.cell? ⟨rb, ro + 1, none⟩ = some (.int .i64 (y : Int)) ∧ Below w1.heap.size w1 W) → Below w1.heap.size w1 W := fun W ⟨_, _, _, _, hW⟩ => hW
  have KM0 := KM w1.drew ⟨rfl, rfl, rfl, Nat.le_refl _, fun _ _ => rfl⟩
  have KM00 := KM _ (Below.refl _ _)
  have KE : ∀ (W : World), (W.cell? ⟨w.heap.size, 0, none⟩ = some (.int .i64 a) ∧ W.cell? ⟨w.heap.size, 1, none⟩ = some (.int .i64 b) ∧ W.cell? ⟨rb, ro, none⟩ = some (.int .i64 (x : Int)) ∧ W.cell? ⟨rb, ro + 1, none⟩ = some (.int .i64 (y : Int)) ∧ Below w1.heap.size w1 W) → Below w.heap.size w W := fun W ⟨_, _, _, _, hW⟩ => Below.step h hW
  replace KC := Lib.hid KC
  replace KA := Lib.hid KA
  replace KD := Lib.hid KD
  replace KB := Lib.hid KB
  replace KE := Lib.hid KE
  clear KM k00 k01 l0
  go_cut [6] (fun s6 wx => s6 = .bool B ∧ Below w1.heap.size w1 wx)
  case first =>
    go_region_held3 (fun w' => w'.cell? ⟨w.heap.size, 0, none⟩ = some (.int .i64 a) ∧ w'.cell? ⟨w.heap.size, 1, none⟩ = some (.int .i64 b) ∧ w'.cell? ⟨rb, ro, none⟩ = some (.int .i64 (x : Int)) ∧ w'.cell? ⟨rb, ro + 1, none⟩ = some (.int .i64 (y : Int)) ∧ Below w1.heap.size w1 w') ((first | (with_reducible assumption) | ((with_reducible refine KD.out _ ?_); (with_reducible assumption)) | ((with_reducible refine KA.out _ _ ?_); (first | (with_reducible assumption) | ((with_reducible refine KD.out _ ?_); (with_reducible assumption)))) | ((with_reducible refine KC.out _ _ ?_ ?_); (with_reducible assumption); (with_reducible assumption))))
      (first
        | (go_at_call 75; (with_reducible refine (c1.out _ ?_).mono ?_); (refine KE.out _ ?_; (first | (with_reducible assumption) | ((with_reducible refine KD.out _ ?_); (with_reducible assumption)))); rintro e wC0 ⟨rfl, rfl⟩)
        | (go_at_call 72; (with_reducible refine (c2.out _).mono ?_); rintro e wC1 ⟨rfl, hbC⟩; have hS1 : wC1.cell? ⟨w.heap.size, 0, none⟩ = some (.int .i64 a) ∧ wC1.cell? ⟨w.heap.size, 1, none⟩ = some (.int .i64 b) ∧ wC1.cell? ⟨rb, ro, none⟩ = some (.int .i64 (x : Int)) ∧ wC1.cell? ⟨rb, ro + 1, none⟩ = some (.int .i64 (y : Int)) ∧ Below w1.heap.size w1 wC1 := KC.out _ _ hbC (by assumption)))
    all_goals (go_wp2_with fail; go_meet)
    all_goals refine ⟨(by first | with_reducible rfl | rw [eB]), KB.out _ ?_⟩
    all_goals (first | (with_reducible assumption) | ((with_reducible refine KD.out _ ?_); (with_reducible assumption)))
  case rest =>
  obtain ⟨rfl, hb⟩ := hcut
  clear KM0 KM00 KC KA KD KB KE
  replace h := Below.step h hb
  replace hx0 := hx0.kept hb
  clear hb
  obtain ⟨k00, k01⟩ := hx0.two
  have l0 := hx0.lt
  go_wp2_with fail
  go_ret
  exact ⟨rfl, h⟩

end Go.Proofs.Ytbgoiflkpefckaa
