/- SimplestIn: the model's and the program's, and the law (written by wip/gen/frsimp.py). -/
import Derived.Test.YtchglkcfolannabDoorFrSimple
import Derived.Test.YtchglkcfolannabDoorFpHalf
namespace Go.Proofs.YtchglkcfolannabDoor
open Go.RowKit Go.Joins

theorem frMake_good (p q : Int) (w : World) (h : FrG p q) : Calls Tryd.prog 39 #[.int .i64 p, .int .i64 q] w (GivesFB w p q true) := by
  obtain ⟨e1, e2, e3⟩ := low_of_good h
  have h1 := h
  obtain ⟨a1, a2, a3, a4, -⟩ := h1
  have c := frMake_any p q w (by omega) (by omega) (by omega) (by omega)
  unfold lowRP lowRQ at c
  rw [e3, e1, e2] at c
  simpa using c

theorem simp_bd {p k q : Int} (h1 : -1000000000 ≤ p) (h2 : p ≤ 1000000000) (h3 : 1 ≤ k) (h4 : k ≤ 1000) : (-1000000000000 ≤ p * k ∧ p * k ≤ 1000000000000) ∧ (-1000000000000 ≤ p * k / q ∧ p * k / q ≤ 1000000000000) := by
  have h := fr_mul_bd (M := 1000000000) (N := 1000) h1 h2 (by omega : -1000 ≤ k) h4
  have h' : -1000000000000 ≤ p * k ∧ p * k ≤ 1000000000000 := by omega
  exact ⟨h', floor_bd h'.1 h'.2⟩

set_option maxHeartbeats 3000000 in
theorem simpS_found (p0 q0 p1 q1 : Int) (w : World) (g0 : FrG p0 q0) (g1 : FrG p1 q1) (hle : ¬ p1 * q0 < p0 * q1) (K : Nat) (hK1 : 1 ≤ K) (hK2 : K ≤ 1000) (hN : NoneBelow p0 q0 p1 q1 K) (hs : loK p0 q0 (K : Int) ≤ hiK p1 q1 (K : Int)) :
    Calls Tryd.prog 16 #[.agg #[.int .i64 p0, .int .i64 q0], .agg #[.int .i64 p1, .int .i64 q1]] w (GivesFB w (numK (loK p0 q0 (K : Int)) (hiK p1 q1 (K : Int))) (K : Int) true) := by
  have g0' := g0
  obtain ⟨a1, a2, a3, a4, -⟩ := g0'
  have g1' := g1
  obtain ⟨b1, b2, b3, b4, -⟩ := g1'
  have hg := simple_good g0 g1 (Int.not_lt.1 hle) hK1 hK2 hN hs
  have cl := fun (W : World) => frLess_ge p1 q1 p0 q0 W g1 g0 hle
  replace cl := Lib.hid cl
  clear hle
  replace hN := Lib.hid hN
  replace hg := Lib.hid hg
  replace hs := Lib.hid hs
  obtain ⟨ans, hans⟩ : ∃ ans, ans = numK (loK p0 q0 (K : Int)) (hiK p1 q1 (K : Int)) := ⟨_, rfl⟩
  rw [← hans]
  replace hans := Lib.hid hans
  have h := Below.refl w.heap.size w
  have hA := below_alloc1 w (.cells #[.int .i64 p0, .int .i64 q0] 24)
  replace h := Below.step h hA
  have hx0 := Box.new w 24 #[.int .i64 p0, .int .i64 q0]
  clear hA
  have hA := below_alloc1 (w.alloc (.cells #[.int .i64 p0, .int .i64 q0] 24)) (.cells #[.int .i64 p1, .int .i64 q1] 24)
  replace h := Below.step h hA
  replace hx0 := hx0.kept hA
  have hx1 := Box.new (w.alloc (.cells #[.int .i64 p0, .int .i64 q0] 24)) 24 #[.int .i64 p1, .int .i64 q1]
  rw [show (w.alloc (.cells #[.int .i64 p0, .int .i64 q0] 24)).heap.size = w.heap.size + 1 from by simp] at hx1
  clear hA
  have hA := below_alloc1 ((w.alloc (.cells #[.int .i64 p0, .int .i64 q0] 24)).alloc (.cells #[.int .i64 p1, .int .i64 q1] 24)) (.cells #[.int .i64 0, .int .i64 0] 24)
  replace h := Below.step h hA
  replace hx0 := hx0.kept hA
  replace hx1 := hx1.kept hA
  have hxr := Box.new ((w.alloc (.cells #[.int .i64 p0, .int .i64 q0] 24)).alloc (.cells #[.int .i64 p1, .int .i64 q1] 24)) 24 #[.int .i64 0, .int .i64 0]
  rw [show ((w.alloc (.cells #[.int .i64 p0, .int .i64 q0] 24)).alloc (.cells #[.int .i64 p1, .int .i64 q1] 24)).heap.size = w.heap.size + 1 + 1 from by simp] at hxr
  clear hA
  go_enter Tryd.func16, Tryd.ntmps16
  go_wp2_with fail
  refine (frTwo_yes p0 q0 p1 q1 _ g0 g1).mono ?_
  rintro e w1 ⟨rfl, hb⟩
  replace h := Below.step h hb
  replace hx0 := hx0.kept hb
  replace hx1 := hx1.kept hb
  replace hxr := hxr.kept hb
  clear hb
  obtain ⟨ahx0, bhx0⟩ := hx0.two
  have lhx0 := hx0.lt
  obtain ⟨ahx1, bhx1⟩ := hx1.two
  have lhx1 := hx1.lt
  obtain ⟨ahxr, bhxr⟩ := hxr.two
  have lhxr := hxr.lt
  go_wp2_with fail
  refine (cl.out _).mono ?_
  rintro e w2 ⟨rfl, hb⟩
  replace h := Below.step h hb
  replace hx0 := hx0.kept hb
  replace hx1 := hx1.kept hb
  replace hxr := hxr.kept hb
  clear hb ahx0 bhx0 lhx0 ahx1 bhx1 lhx1 ahxr bhxr lhxr
  obtain ⟨ahx0, bhx0⟩ := hx0.two
  have lhx0 := hx0.lt
  obtain ⟨ahx1, bhx1⟩ := hx1.two
  have lhx1 := hx1.lt
  obtain ⟨ahxr, bhxr⟩ := hxr.two
  have lhxr := hxr.lt
  go_wp2_with fail
  go_loopw [6] (fun d wr => ∃ k : Nat, 1 ≤ k ∧ k ≤ K ∧ d = .int .i64 (k : Int) ∧ Box wr w.heap.size 24 #[.int .i64 p0, .int .i64 q0] ∧ Box wr (w.heap.size + 1) 24 #[.int .i64 p1, .int .i64 q1] ∧ Box wr (w.heap.size + 2) 24 #[.int .i64 0, .int .i64 0] ∧ Below w.heap.size w wr) (fun d _ => (1001 - intOf d).toNat)
  case atStart => exact ⟨1, by omega, by omega, rfl, hx0, hx1, hxr, h⟩
  clear ahx0 bhx0 lhx0 ahx1 bhx1 lhx1 ahxr bhxr lhxr hx0 hx1 hxr cl
  case round =>
    obtain ⟨k, hk1, hk2, rfl, hx0, hx1, hxr, hw⟩ := hrel
    obtain ⟨ahx0, bhx0⟩ := hx0.two
    obtain ⟨ahx1, bhx1⟩ := hx1.two
    obtain ⟨ahxr, bhxr⟩ := hxr.two
    have lhx0 := hx0.lt
    have lhx1 := hx1.lt
    have lhxr := hxr.lt
    have f0 := hxr.free 0
    have f1 := hxr.free 1
    by_cases hlt : k < K
    · skip
      obtain ⟨⟨m1, m2⟩, n1, n2⟩ := simp_bd (p := -p0) (k := (k : Int)) (q := q0) (by omega) (by omega) (by omega) (by omega)
      obtain ⟨⟨m3, m4⟩, n3, n4⟩ := simp_bd (p := p1) (k := (k : Int)) (q := q1) (by omega) (by omega) (by omega) (by omega)
      have cX := fun W => frDown_any (-p0 * (k : Int)) q0 W (by omega) (by omega) (by omega) (by omega)
      have cY := fun W => frDown_any (p1 * (k : Int)) q1 W (by omega) (by omega) (by omega) (by omega)
      obtain ⟨X, hX⟩ : ∃ X, X = -p0 * (k : Int) / q0 := ⟨_, rfl⟩
      obtain ⟨Y, hY⟩ : ∃ Y, Y = p1 * (k : Int) / q1 := ⟨_, rfl⟩
      have eLo : loK p0 q0 (k : Int) = -X := by unfold loK; rw [hX]
      have eHi : hiK p1 q1 (k : Int) = Y := by unfold hiK; rw [hY]
      rw [← hX] at cX n1 n2
      rw [← hY] at cY n3 n4
      clear hX hY
      replace cX := Lib.hid cX
      replace cY := Lib.hid cY
      have hgt : Y < -X := by have := hN.out k hk1 hlt; omega
      have hk1000 : (k : Int) ≤ 1000 := by omega
      clear eLo eHi
      go_wp2_with fail
      go_quiet ((first | (go_at_call_of 44 q0; exact quiet_left (cX.out _)) | (go_at_call 44; exact quiet_left (cY.out _))))
      go_wp2_with fail
      go_roundw
      case rel => exact ⟨k + 1, by omega, by omega, by go_num, hx0, hx1, hxr, Below.drewN' hw _⟩
      case measure => simp [intOf]; omega
    · obtain rfl : k = K := by omega
      obtain ⟨⟨m1, m2⟩, n1, n2⟩ := simp_bd (p := -p0) (k := (k : Int)) (q := q0) (by omega) (by omega) (by omega) (by omega)
      obtain ⟨⟨m3, m4⟩, n3, n4⟩ := simp_bd (p := p1) (k := (k : Int)) (q := q1) (by omega) (by omega) (by omega) (by omega)
      have cX := fun W => frDown_any (-p0 * (k : Int)) q0 W (by omega) (by omega) (by omega) (by omega)
      have cY := fun W => frDown_any (p1 * (k : Int)) q1 W (by omega) (by omega) (by omega) (by omega)
      obtain ⟨X, hX⟩ : ∃ X, X = -p0 * (k : Int) / q0 := ⟨_, rfl⟩
      obtain ⟨Y, hY⟩ : ∃ Y, Y = p1 * (k : Int) / q1 := ⟨_, rfl⟩
      have eLo : loK p0 q0 (k : Int) = -X := by unfold loK; rw [hX]
      have eHi : hiK p1 q1 (k : Int) = Y := by unfold hiK; rw [hY]
      rw [← hX] at cX n1 n2
      rw [← hY] at cY n3 n4
      clear hX hY
      replace cX := Lib.hid cX
      replace cY := Lib.hid cY
      have hok : -X ≤ Y := by have := hs.out; omega
      have ha : ans = numK (-X) Y := by rw [hans.out, eLo, eHi]
      have hg2 : FrG (numK (-X) Y) k := by rw [← eLo, ← eHi]; exact hg.out
      have hk1000 : (k : Int) ≤ 1000 := by omega
      clear eLo eHi hg hs hans hN hlt
      have hok' : ¬ Y < -X := by omega
      by_cases h1 : 0 < -X
      · have hn : numK (-X) Y = -X := by unfold numK; omega
        rw [hn] at hg2 ha
        obtain rfl := ha
        clear hn
        have cM := fun W => frMake_good (-X) (k : Int) W hg2
        replace cM := Lib.hid cM
        clear hg2
        go_wp2_with fail
        go_quiet ((first | (go_at_call_of 44 q0; exact quiet_left (cX.out _)) | (go_at_call 44; exact quiet_left (cY.out _))))
        go_wp2_with fail
        refine (cM.out _).mono ?_
        rintro e w9 ⟨rfl, hb⟩
        replace hxr := Box.kept (w := World.drewN _ _) hxr hb
        replace hw := Below.step (Below.drewN' hw _) hb
        clear hb ahxr bhxr lhxr f0 f1 ahx0 bhx0 lhx0 ahx1 bhx1 lhx1
        obtain ⟨ahxr, bhxr⟩ := hxr.two
        have lhxr := hxr.lt
        have f0 := hxr.free 0
        have f1 := hxr.free 1
        go_wp2_with fail
        all_goals refine bodyPost_ret (v := .tuple #[.agg #[.int .i64 (-X), .int .i64 ((k : Int))], .bool true]) (by first | (simp [results, Tryd.results16, go_sem, ahxr, bhxr]; done) | (simp [results, Tryd.results16, go_sem, ahxr, bhxr]; omega)) rfl ⟨rfl, ?_⟩
        all_goals first | exact (hw.setCell (by first | (simp; done) | (simp; omega)) _).setCell (by first | (simp; done) | (simp; omega)) _ | exact Below.drewN' ((hw.setCell (by first | (simp; done) | (simp; omega)) _).setCell (by first | (simp; done) | (simp; omega)) _) 1 | (trace_state; fail)
      · skip
        by_cases h2 : Y < 0
        · have hn : numK (-X) Y = Y := by unfold numK; omega
          rw [hn] at hg2 ha
          obtain rfl := ha
          clear hn
          have h1' : ¬ 0 < -X := h1
          clear h1
          have cM := fun W => frMake_good (ans) (k : Int) W hg2
          replace cM := Lib.hid cM
          clear hg2
          go_wp2_with fail
          go_quiet ((first | (go_at_call_of 44 q0; exact quiet_left (cX.out _)) | (go_at_call 44; exact quiet_left (cY.out _))))
          go_wp2_with fail
          refine (cM.out _).mono ?_
          rintro e w9 ⟨rfl, hb⟩
          replace hxr := Box.kept (w := World.drewN _ _) hxr hb
          replace hw := Below.step (Below.drewN' hw _) hb
          clear hb ahxr bhxr lhxr f0 f1 ahx0 bhx0 lhx0 ahx1 bhx1 lhx1
          obtain ⟨ahxr, bhxr⟩ := hxr.two
          have lhxr := hxr.lt
          have f0 := hxr.free 0
          have f1 := hxr.free 1
          go_wp2_with fail
          all_goals refine bodyPost_ret (v := .tuple #[.agg #[.int .i64 (ans), .int .i64 ((k : Int))], .bool true]) (by first | (simp [results, Tryd.results16, go_sem, ahxr, bhxr]; done) | (simp [results, Tryd.results16, go_sem, ahxr, bhxr]; omega)) rfl ⟨rfl, ?_⟩
          all_goals first | exact (hw.setCell (by first | (simp; done) | (simp; omega)) _).setCell (by first | (simp; done) | (simp; omega)) _ | exact Below.drewN' ((hw.setCell (by first | (simp; done) | (simp; omega)) _).setCell (by first | (simp; done) | (simp; omega)) _) 1 | (trace_state; fail)
        · have hn : numK (-X) Y = 0 := by unfold numK; omega
          rw [hn] at hg2 ha
          obtain rfl := ha
          clear hn
          have h1' : ¬ 0 < -X := h1
          have h2' : ¬ Y < 0 := h2
          clear h1 h2
          have cM := fun W => frMake_good (0) (k : Int) W hg2
          replace cM := Lib.hid cM
          clear hg2
          go_wp2_with fail
          go_quiet ((first | (go_at_call_of 44 q0; exact quiet_left (cX.out _)) | (go_at_call 44; exact quiet_left (cY.out _))))
          go_wp2_with fail
          refine (cM.out _).mono ?_
          rintro e w9 ⟨rfl, hb⟩
          replace hxr := Box.kept (w := World.drewN _ _) hxr hb
          replace hw := Below.step (Below.drewN' hw _) hb
          clear hb ahxr bhxr lhxr f0 f1 ahx0 bhx0 lhx0 ahx1 bhx1 lhx1
          obtain ⟨ahxr, bhxr⟩ := hxr.two
          have lhxr := hxr.lt
          have f0 := hxr.free 0
          have f1 := hxr.free 1
          go_wp2_with fail
          all_goals refine bodyPost_ret (v := .tuple #[.agg #[.int .i64 (0), .int .i64 ((k : Int))], .bool true]) (by first | (simp [results, Tryd.results16, go_sem, ahxr, bhxr]; done) | (simp [results, Tryd.results16, go_sem, ahxr, bhxr]; omega)) rfl ⟨rfl, ?_⟩
          all_goals first | exact (hw.setCell (by first | (simp; done) | (simp; omega)) _).setCell (by first | (simp; done) | (simp; omega)) _ | exact Below.drewN' ((hw.setCell (by first | (simp; done) | (simp; omega)) _).setCell (by first | (simp; done) | (simp; omega)) _) 1 | (trace_state; fail)

set_option maxHeartbeats 3000000 in
theorem simpS_none (p0 q0 p1 q1 : Int) (w : World) (g0 : FrG p0 q0) (g1 : FrG p1 q1) (hle : ¬ p1 * q0 < p0 * q1) (hN : NoneBelow p0 q0 p1 q1 1001) :
    Calls Tryd.prog 16 #[.agg #[.int .i64 p0, .int .i64 q0], .agg #[.int .i64 p1, .int .i64 q1]] w (GivesFB w 0 0 false) := by
  have g0' := g0
  obtain ⟨a1, a2, a3, a4, -⟩ := g0'
  have g1' := g1
  obtain ⟨b1, b2, b3, b4, -⟩ := g1'
  have cl := fun (W : World) => frLess_ge p1 q1 p0 q0 W g1 g0 hle
  replace cl := Lib.hid cl
  clear hle
  replace hN := Lib.hid hN
  have h := Below.refl w.heap.size w
  have hA := below_alloc1 w (.cells #[.int .i64 p0, .int .i64 q0] 24)
  replace h := Below.step h hA
  have hx0 := Box.new w 24 #[.int .i64 p0, .int .i64 q0]
  clear hA
  have hA := below_alloc1 (w.alloc (.cells #[.int .i64 p0, .int .i64 q0] 24)) (.cells #[.int .i64 p1, .int .i64 q1] 24)
  replace h := Below.step h hA
  replace hx0 := hx0.kept hA
  have hx1 := Box.new (w.alloc (.cells #[.int .i64 p0, .int .i64 q0] 24)) 24 #[.int .i64 p1, .int .i64 q1]
  rw [show (w.alloc (.cells #[.int .i64 p0, .int .i64 q0] 24)).heap.size = w.heap.size + 1 from by simp] at hx1
  clear hA
  have hA := below_alloc1 ((w.alloc (.cells #[.int .i64 p0, .int .i64 q0] 24)).alloc (.cells #[.int .i64 p1, .int .i64 q1] 24)) (.cells #[.int .i64 0, .int .i64 0] 24)
  replace h := Below.step h hA
  replace hx0 := hx0.kept hA
  replace hx1 := hx1.kept hA
  have hxr := Box.new ((w.alloc (.cells #[.int .i64 p0, .int .i64 q0] 24)).alloc (.cells #[.int .i64 p1, .int .i64 q1] 24)) 24 #[.int .i64 0, .int .i64 0]
  rw [show ((w.alloc (.cells #[.int .i64 p0, .int .i64 q0] 24)).alloc (.cells #[.int .i64 p1, .int .i64 q1] 24)).heap.size = w.heap.size + 1 + 1 from by simp] at hxr
  clear hA
  go_enter Tryd.func16, Tryd.ntmps16
  go_wp2_with fail
  refine (frTwo_yes p0 q0 p1 q1 _ g0 g1).mono ?_
  rintro e w1 ⟨rfl, hb⟩
  replace h := Below.step h hb
  replace hx0 := hx0.kept hb
  replace hx1 := hx1.kept hb
  replace hxr := hxr.kept hb
  clear hb
  obtain ⟨ahx0, bhx0⟩ := hx0.two
  have lhx0 := hx0.lt
  obtain ⟨ahx1, bhx1⟩ := hx1.two
  have lhx1 := hx1.lt
  obtain ⟨ahxr, bhxr⟩ := hxr.two
  have lhxr := hxr.lt
  go_wp2_with fail
  refine (cl.out _).mono ?_
  rintro e w2 ⟨rfl, hb⟩
  replace h := Below.step h hb
  replace hx0 := hx0.kept hb
  replace hx1 := hx1.kept hb
  replace hxr := hxr.kept hb
  clear hb ahx0 bhx0 lhx0 ahx1 bhx1 lhx1 ahxr bhxr lhxr
  obtain ⟨ahx0, bhx0⟩ := hx0.two
  have lhx0 := hx0.lt
  obtain ⟨ahx1, bhx1⟩ := hx1.two
  have lhx1 := hx1.lt
  obtain ⟨ahxr, bhxr⟩ := hxr.two
  have lhxr := hxr.lt
  go_wp2_with fail
  go_loopw [6] (fun d wr => ∃ k : Nat, 1 ≤ k ∧ k ≤ 1001 ∧ d = .int .i64 (k : Int) ∧ Box wr w.heap.size 24 #[.int .i64 p0, .int .i64 q0] ∧ Box wr (w.heap.size + 1) 24 #[.int .i64 p1, .int .i64 q1] ∧ Box wr (w.heap.size + 2) 24 #[.int .i64 0, .int .i64 0] ∧ Below w.heap.size w wr) (fun d _ => (1001 - intOf d).toNat)
  case atStart => exact ⟨1, by omega, by omega, rfl, hx0, hx1, hxr, h⟩
  clear ahx0 bhx0 lhx0 ahx1 bhx1 lhx1 ahxr bhxr lhxr hx0 hx1 hxr cl
  case round =>
    obtain ⟨k, hk1, hk2, rfl, hx0, hx1, hxr, hw⟩ := hrel
    obtain ⟨ahx0, bhx0⟩ := hx0.two
    obtain ⟨ahx1, bhx1⟩ := hx1.two
    obtain ⟨ahxr, bhxr⟩ := hxr.two
    have lhx0 := hx0.lt
    have lhx1 := hx1.lt
    have lhxr := hxr.lt
    have f0 := hxr.free 0
    have f1 := hxr.free 1
    by_cases hlt : k < 1001
    · skip
      obtain ⟨⟨m1, m2⟩, n1, n2⟩ := simp_bd (p := -p0) (k := (k : Int)) (q := q0) (by omega) (by omega) (by omega) (by omega)
      obtain ⟨⟨m3, m4⟩, n3, n4⟩ := simp_bd (p := p1) (k := (k : Int)) (q := q1) (by omega) (by omega) (by omega) (by omega)
      have cX := fun W => frDown_any (-p0 * (k : Int)) q0 W (by omega) (by omega) (by omega) (by omega)
      have cY := fun W => frDown_any (p1 * (k : Int)) q1 W (by omega) (by omega) (by omega) (by omega)
      obtain ⟨X, hX⟩ : ∃ X, X = -p0 * (k : Int) / q0 := ⟨_, rfl⟩
      obtain ⟨Y, hY⟩ : ∃ Y, Y = p1 * (k : Int) / q1 := ⟨_, rfl⟩
      have eLo : loK p0 q0 (k : Int) = -X := by unfold loK; rw [hX]
      have eHi : hiK p1 q1 (k : Int) = Y := by unfold hiK; rw [hY]
      rw [← hX] at cX n1 n2
      rw [← hY] at cY n3 n4
      clear hX hY
      replace cX := Lib.hid cX
      replace cY := Lib.hid cY
      have hgt : Y < -X := by have := hN.out k hk1 (by omega); omega
      have hk1000 : (k : Int) ≤ 1000 := by omega
      clear eLo eHi
      go_wp2_with fail
      go_quiet ((first | (go_at_call_of 44 q0; exact quiet_left (cX.out _)) | (go_at_call 44; exact quiet_left (cY.out _))))
      go_wp2_with fail
      go_roundw
      case rel => exact ⟨k + 1, by omega, by omega, by go_num, hx0, hx1, hxr, Below.drewN' hw _⟩
      case measure => simp [intOf]; omega
    · have hk9 : ¬ (k : Int) ≤ 1000 := by omega
      go_wp2_with fail
      all_goals refine bodyPost_ret (v := .tuple #[.agg #[.int .i64 (0), .int .i64 (0)], .bool false]) (by first | (simp [results, Tryd.results16, go_sem, ahxr, bhxr]; done) | (simp [results, Tryd.results16, go_sem, ahxr, bhxr]; omega)) rfl ⟨rfl, ?_⟩
      all_goals first | exact (hw.setCell (by first | (simp; done) | (simp; omega)) _).setCell (by first | (simp; done) | (simp; omega)) _ | exact Below.drewN' ((hw.setCell (by first | (simp; done) | (simp; omega)) _).setCell (by first | (simp; done) | (simp; omega)) _) 1 | (trace_state; fail)

set_option maxHeartbeats 3000000 in
theorem simpI_found (p0 q0 p1 q1 : Int) (w : World) (hL : Lim w) (g0 : FrG p0 q0) (g1 : FrG p1 q1) (hle : ¬ p1 * q0 < p0 * q1) (K : Nat) (hK1 : 1 ≤ K) (hK2 : K ≤ 1000) (hN : NoneBelow p0 q0 p1 q1 K) (hs : loK p0 q0 (K : Int) ≤ hiK p1 q1 (K : Int)) :
    Calls Tryd.prog 15 #[.agg #[.int .i64 p0, .int .i64 q0], .agg #[.int .i64 p1, .int .i64 q1]] w (GivesFB w (numK (loK p0 q0 (K : Int)) (hiK p1 q1 (K : Int))) (K : Int) true) := by
  have g0' := g0
  obtain ⟨a1, a2, a3, a4, -⟩ := g0'
  have g1' := g1
  obtain ⟨b1, b2, b3, b4, -⟩ := g1'
  have hg := simple_good g0 g1 (Int.not_lt.1 hle) hK1 hK2 hN hs
  have cl := fun (W : World) (hL : Lim W) => isLessI_ge p1 q1 p0 q0 W hL g1 g0 hle
  replace cl := Lib.hid cl
  clear hle
  replace hN := Lib.hid hN
  replace hg := Lib.hid hg
  replace hs := Lib.hid hs
  obtain ⟨ans, hans⟩ : ∃ ans, ans = numK (loK p0 q0 (K : Int)) (hiK p1 q1 (K : Int)) := ⟨_, rfl⟩
  rw [← hans]
  replace hans := Lib.hid hans
  have h := Below.refl w.heap.size w
  have hA := below_alloc1 w (.cells #[.int .i64 p0, .int .i64 q0] 24)
  replace h := Below.step h hA
  have hx0 := Box.new w 24 #[.int .i64 p0, .int .i64 q0]
  clear hA
  have hA := below_alloc1 (w.alloc (.cells #[.int .i64 p0, .int .i64 q0] 24)) (.cells #[.int .i64 p1, .int .i64 q1] 24)
  replace h := Below.step h hA
  replace hx0 := hx0.kept hA
  have hx1 := Box.new (w.alloc (.cells #[.int .i64 p0, .int .i64 q0] 24)) 24 #[.int .i64 p1, .int .i64 q1]
  rw [show (w.alloc (.cells #[.int .i64 p0, .int .i64 q0] 24)).heap.size = w.heap.size + 1 from by simp] at hx1
  clear hA
  have hA := below_alloc1 ((w.alloc (.cells #[.int .i64 p0, .int .i64 q0] 24)).alloc (.cells #[.int .i64 p1, .int .i64 q1] 24)) (.cells #[.int .i64 0, .int .i64 0] 24)
  replace h := Below.step h hA
  replace hx0 := hx0.kept hA
  replace hx1 := hx1.kept hA
  have hxr := Box.new ((w.alloc (.cells #[.int .i64 p0, .int .i64 q0] 24)).alloc (.cells #[.int .i64 p1, .int .i64 q1] 24)) 24 #[.int .i64 0, .int .i64 0]
  rw [show ((w.alloc (.cells #[.int .i64 p0, .int .i64 q0] 24)).alloc (.cells #[.int .i64 p1, .int .i64 q1] 24)).heap.size = w.heap.size + 1 + 1 from by simp] at hxr
  clear hA
  go_enter Tryd.func15, Tryd.ntmps15
  go_wp2_with fail
  refine (cl.out _ (by exact hL.kept h)).mono ?_
  rintro e w1 ⟨rfl, hb⟩
  replace h := Below.step h hb
  replace hx0 := hx0.kept hb
  replace hx1 := hx1.kept hb
  replace hxr := hxr.kept hb
  clear hb
  obtain ⟨ahx0, bhx0⟩ := hx0.two
  have lhx0 := hx0.lt
  obtain ⟨ahx1, bhx1⟩ := hx1.two
  have lhx1 := hx1.lt
  obtain ⟨ahxr, bhxr⟩ := hxr.two
  have lhxr := hxr.lt
  go_wp2_with fail
  go_loopw [8] (fun d wr => ∃ k : Nat, 1 ≤ k ∧ k ≤ K ∧ d = .int .i64 (k : Int) ∧ Box wr w.heap.size 24 #[.int .i64 p0, .int .i64 q0] ∧ Box wr (w.heap.size + 1) 24 #[.int .i64 p1, .int .i64 q1] ∧ Box wr (w.heap.size + 2) 24 #[.int .i64 0, .int .i64 0] ∧ Below w.heap.size w wr) (fun d _ => (1001 - intOf d).toNat)
  case atStart => exact ⟨1, by omega, by omega, rfl, hx0, hx1, hxr, h⟩
  clear ahx0 bhx0 lhx0 ahx1 bhx1 lhx1 ahxr bhxr lhxr hx0 hx1 hxr cl
  case round =>
    obtain ⟨k, hk1, hk2, rfl, hx0, hx1, hxr, hw⟩ := hrel
    obtain ⟨-, -, t2⟩ := hL.kept hw
    obtain ⟨ahx0, bhx0⟩ := hx0.two
    obtain ⟨ahx1, bhx1⟩ := hx1.two
    obtain ⟨ahxr, bhxr⟩ := hxr.two
    have lhx0 := hx0.lt
    have lhx1 := hx1.lt
    have lhxr := hxr.lt
    have f0 := hxr.free 0
    have f1 := hxr.free 1
    by_cases hlt : k < K
    · skip
      obtain ⟨⟨m1, m2⟩, n1, n2⟩ := simp_bd (p := -p0) (k := (k : Int)) (q := q0) (by omega) (by omega) (by omega) (by omega)
      obtain ⟨⟨m3, m4⟩, n3, n4⟩ := simp_bd (p := p1) (k := (k : Int)) (q := q1) (by omega) (by omega) (by omega) (by omega)
      have cX := fun W => floorOf_any (-p0 * (k : Int)) q0 W (by omega) (by omega) (by omega) (by omega)
      have cY := fun W => floorOf_any (p1 * (k : Int)) q1 W (by omega) (by omega) (by omega) (by omega)
      obtain ⟨X, hX⟩ : ∃ X, X = -p0 * (k : Int) / q0 := ⟨_, rfl⟩
      obtain ⟨Y, hY⟩ : ∃ Y, Y = p1 * (k : Int) / q1 := ⟨_, rfl⟩
      have eLo : loK p0 q0 (k : Int) = -X := by unfold loK; rw [hX]
      have eHi : hiK p1 q1 (k : Int) = Y := by unfold hiK; rw [hY]
      rw [← hX] at cX n1 n2
      rw [← hY] at cY n3 n4
      clear hX hY
      replace cX := Lib.hid cX
      replace cY := Lib.hid cY
      have hgt : Y < -X := by have := hN.out k hk1 hlt; omega
      have hk1000 : (k : Int) ≤ 1000 := by omega
      clear eLo eHi
      have hgt' : ¬ -X ≤ Y := by omega
      go_wp2_with fail
      refine (cX.out _).mono ?_
      rintro e w' ⟨rfl, rfl⟩
      go_wp2_with fail
      refine (cY.out _).mono ?_
      rintro e w' ⟨rfl, rfl⟩
      go_wp2_with fail
      go_roundw
      case rel => exact ⟨k + 1, by omega, by omega, by go_num, hx0, hx1, hxr, hw⟩
      case measure => simp [intOf]; omega
    · obtain rfl : k = K := by omega
      obtain ⟨⟨m1, m2⟩, n1, n2⟩ := simp_bd (p := -p0) (k := (k : Int)) (q := q0) (by omega) (by omega) (by omega) (by omega)
      obtain ⟨⟨m3, m4⟩, n3, n4⟩ := simp_bd (p := p1) (k := (k : Int)) (q := q1) (by omega) (by omega) (by omega) (by omega)
      have cX := fun W => floorOf_any (-p0 * (k : Int)) q0 W (by omega) (by omega) (by omega) (by omega)
      have cY := fun W => floorOf_any (p1 * (k : Int)) q1 W (by omega) (by omega) (by omega) (by omega)
      obtain ⟨X, hX⟩ : ∃ X, X = -p0 * (k : Int) / q0 := ⟨_, rfl⟩
      obtain ⟨Y, hY⟩ : ∃ Y, Y = p1 * (k : Int) / q1 := ⟨_, rfl⟩
      have eLo : loK p0 q0 (k : Int) = -X := by unfold loK; rw [hX]
      have eHi : hiK p1 q1 (k : Int) = Y := by unfold hiK; rw [hY]
      rw [← hX] at cX n1 n2
      rw [← hY] at cY n3 n4
      clear hX hY
      replace cX := Lib.hid cX
      replace cY := Lib.hid cY
      have hok : -X ≤ Y := by have := hs.out; omega
      have ha : ans = numK (-X) Y := by rw [hans.out, eLo, eHi]
      have hg2 : FrG (numK (-X) Y) k := by rw [← eLo, ← eHi]; exact hg.out
      have hk1000 : (k : Int) ≤ 1000 := by omega
      clear eLo eHi hg hs hans hN hlt
      have hok' : ¬ Y < -X := by omega
      by_cases h1 : 0 < -X
      · have hn : numK (-X) Y = -X := by unfold numK; omega
        rw [hn] at hg2 ha
        obtain rfl := ha
        clear hn
        clear hg2
        go_wp2_with fail
        refine (cX.out _).mono ?_
        rintro e w' ⟨rfl, rfl⟩
        go_wp2_with fail
        refine (cY.out _).mono ?_
        rintro e w' ⟨rfl, rfl⟩
        go_wp2_with fail
        all_goals refine bodyPost_ret (v := .tuple #[.agg #[.int .i64 (-X), .int .i64 ((k : Int))], .bool true]) (by first | (simp [results, Tryd.results15, go_sem, ahxr, bhxr]; done) | (simp [results, Tryd.results15, go_sem, ahxr, bhxr]; omega)) rfl ⟨rfl, ?_⟩
        all_goals first | exact (hw.setCell (by first | (simp; done) | (simp; omega)) _).setCell (by first | (simp; done) | (simp; omega)) _ | exact Below.drewN' ((hw.setCell (by first | (simp; done) | (simp; omega)) _).setCell (by first | (simp; done) | (simp; omega)) _) 1 | (trace_state; fail)
      · skip
        by_cases h2 : Y < 0
        · have hn : numK (-X) Y = Y := by unfold numK; omega
          rw [hn] at hg2 ha
          obtain rfl := ha
          clear hn
          have h1' : ¬ 0 < -X := h1
          clear h1
          clear hg2
          go_wp2_with fail
          refine (cX.out _).mono ?_
          rintro e w' ⟨rfl, rfl⟩
          go_wp2_with fail
          refine (cY.out _).mono ?_
          rintro e w' ⟨rfl, rfl⟩
          go_wp2_with fail
          all_goals refine bodyPost_ret (v := .tuple #[.agg #[.int .i64 (ans), .int .i64 ((k : Int))], .bool true]) (by first | (simp [results, Tryd.results15, go_sem, ahxr, bhxr]; done) | (simp [results, Tryd.results15, go_sem, ahxr, bhxr]; omega)) rfl ⟨rfl, ?_⟩
          all_goals first | exact (hw.setCell (by first | (simp; done) | (simp; omega)) _).setCell (by first | (simp; done) | (simp; omega)) _ | exact Below.drewN' ((hw.setCell (by first | (simp; done) | (simp; omega)) _).setCell (by first | (simp; done) | (simp; omega)) _) 1 | (trace_state; fail)
        · have hn : numK (-X) Y = 0 := by unfold numK; omega
          rw [hn] at hg2 ha
          obtain rfl := ha
          clear hn
          have h1' : ¬ 0 < -X := h1
          have h2' : ¬ Y < 0 := h2
          clear h1 h2
          clear hg2
          go_wp2_with fail
          refine (cX.out _).mono ?_
          rintro e w' ⟨rfl, rfl⟩
          go_wp2_with fail
          refine (cY.out _).mono ?_
          rintro e w' ⟨rfl, rfl⟩
          go_wp2_with fail
          all_goals refine bodyPost_ret (v := .tuple #[.agg #[.int .i64 (0), .int .i64 ((k : Int))], .bool true]) (by first | (simp [results, Tryd.results15, go_sem, ahxr, bhxr]; done) | (simp [results, Tryd.results15, go_sem, ahxr, bhxr]; omega)) rfl ⟨rfl, ?_⟩
          all_goals first | exact (hw.setCell (by first | (simp; done) | (simp; omega)) _).setCell (by first | (simp; done) | (simp; omega)) _ | exact Below.drewN' ((hw.setCell (by first | (simp; done) | (simp; omega)) _).setCell (by first | (simp; done) | (simp; omega)) _) 1 | (trace_state; fail)

set_option maxHeartbeats 3000000 in
theorem simpI_none (p0 q0 p1 q1 : Int) (w : World) (hL : Lim w) (g0 : FrG p0 q0) (g1 : FrG p1 q1) (hle : ¬ p1 * q0 < p0 * q1) (hN : NoneBelow p0 q0 p1 q1 1001) :
    Calls Tryd.prog 15 #[.agg #[.int .i64 p0, .int .i64 q0], .agg #[.int .i64 p1, .int .i64 q1]] w (GivesFB w 0 0 false) := by
  have g0' := g0
  obtain ⟨a1, a2, a3, a4, -⟩ := g0'
  have g1' := g1
  obtain ⟨b1, b2, b3, b4, -⟩ := g1'
  have cl := fun (W : World) (hL : Lim W) => isLessI_ge p1 q1 p0 q0 W hL g1 g0 hle
  replace cl := Lib.hid cl
  clear hle
  replace hN := Lib.hid hN
  have h := Below.refl w.heap.size w
  have hA := below_alloc1 w (.cells #[.int .i64 p0, .int .i64 q0] 24)
  replace h := Below.step h hA
  have hx0 := Box.new w 24 #[.int .i64 p0, .int .i64 q0]
  clear hA
  have hA := below_alloc1 (w.alloc (.cells #[.int .i64 p0, .int .i64 q0] 24)) (.cells #[.int .i64 p1, .int .i64 q1] 24)
  replace h := Below.step h hA
  replace hx0 := hx0.kept hA
  have hx1 := Box.new (w.alloc (.cells #[.int .i64 p0, .int .i64 q0] 24)) 24 #[.int .i64 p1, .int .i64 q1]
  rw [show (w.alloc (.cells #[.int .i64 p0, .int .i64 q0] 24)).heap.size = w.heap.size + 1 from by simp] at hx1
  clear hA
  have hA := below_alloc1 ((w.alloc (.cells #[.int .i64 p0, .int .i64 q0] 24)).alloc (.cells #[.int .i64 p1, .int .i64 q1] 24)) (.cells #[.int .i64 0, .int .i64 0] 24)
  replace h := Below.step h hA
  replace hx0 := hx0.kept hA
  replace hx1 := hx1.kept hA
  have hxr := Box.new ((w.alloc (.cells #[.int .i64 p0, .int .i64 q0] 24)).alloc (.cells #[.int .i64 p1, .int .i64 q1] 24)) 24 #[.int .i64 0, .int .i64 0]
  rw [show ((w.alloc (.cells #[.int .i64 p0, .int .i64 q0] 24)).alloc (.cells #[.int .i64 p1, .int .i64 q1] 24)).heap.size = w.heap.size + 1 + 1 from by simp] at hxr
  clear hA
  go_enter Tryd.func15, Tryd.ntmps15
  go_wp2_with fail
  refine (cl.out _ (by exact hL.kept h)).mono ?_
  rintro e w1 ⟨rfl, hb⟩
  replace h := Below.step h hb
  replace hx0 := hx0.kept hb
  replace hx1 := hx1.kept hb
  replace hxr := hxr.kept hb
  clear hb
  obtain ⟨ahx0, bhx0⟩ := hx0.two
  have lhx0 := hx0.lt
  obtain ⟨ahx1, bhx1⟩ := hx1.two
  have lhx1 := hx1.lt
  obtain ⟨ahxr, bhxr⟩ := hxr.two
  have lhxr := hxr.lt
  go_wp2_with fail
  go_loopw [8] (fun d wr => ∃ k : Nat, 1 ≤ k ∧ k ≤ 1001 ∧ d = .int .i64 (k : Int) ∧ Box wr w.heap.size 24 #[.int .i64 p0, .int .i64 q0] ∧ Box wr (w.heap.size + 1) 24 #[.int .i64 p1, .int .i64 q1] ∧ Box wr (w.heap.size + 2) 24 #[.int .i64 0, .int .i64 0] ∧ Below w.heap.size w wr) (fun d _ => (1001 - intOf d).toNat)
  case atStart => exact ⟨1, by omega, by omega, rfl, hx0, hx1, hxr, h⟩
  clear ahx0 bhx0 lhx0 ahx1 bhx1 lhx1 ahxr bhxr lhxr hx0 hx1 hxr cl
  case round =>
    obtain ⟨k, hk1, hk2, rfl, hx0, hx1, hxr, hw⟩ := hrel
    obtain ⟨-, -, t2⟩ := hL.kept hw
    obtain ⟨ahx0, bhx0⟩ := hx0.two
    obtain ⟨ahx1, bhx1⟩ := hx1.two
    obtain ⟨ahxr, bhxr⟩ := hxr.two
    have lhx0 := hx0.lt
    have lhx1 := hx1.lt
    have lhxr := hxr.lt
    have f0 := hxr.free 0
    have f1 := hxr.free 1
    by_cases hlt : k < 1001
    · skip
      obtain ⟨⟨m1, m2⟩, n1, n2⟩ := simp_bd (p := -p0) (k := (k : Int)) (q := q0) (by omega) (by omega) (by omega) (by omega)
      obtain ⟨⟨m3, m4⟩, n3, n4⟩ := simp_bd (p := p1) (k := (k : Int)) (q := q1) (by omega) (by omega) (by omega) (by omega)
      have cX := fun W => floorOf_any (-p0 * (k : Int)) q0 W (by omega) (by omega) (by omega) (by omega)
      have cY := fun W => floorOf_any (p1 * (k : Int)) q1 W (by omega) (by omega) (by omega) (by omega)
      obtain ⟨X, hX⟩ : ∃ X, X = -p0 * (k : Int) / q0 := ⟨_, rfl⟩
      obtain ⟨Y, hY⟩ : ∃ Y, Y = p1 * (k : Int) / q1 := ⟨_, rfl⟩
      have eLo : loK p0 q0 (k : Int) = -X := by unfold loK; rw [hX]
      have eHi : hiK p1 q1 (k : Int) = Y := by unfold hiK; rw [hY]
      rw [← hX] at cX n1 n2
      rw [← hY] at cY n3 n4
      clear hX hY
      replace cX := Lib.hid cX
      replace cY := Lib.hid cY
      have hgt : Y < -X := by have := hN.out k hk1 (by omega); omega
      have hk1000 : (k : Int) ≤ 1000 := by omega
      clear eLo eHi
      have hgt' : ¬ -X ≤ Y := by omega
      go_wp2_with fail
      refine (cX.out _).mono ?_
      rintro e w' ⟨rfl, rfl⟩
      go_wp2_with fail
      refine (cY.out _).mono ?_
      rintro e w' ⟨rfl, rfl⟩
      go_wp2_with fail
      go_roundw
      case rel => exact ⟨k + 1, by omega, by omega, by go_num, hx0, hx1, hxr, hw⟩
      case measure => simp [intOf]; omega
    · have hk9 : ¬ (k : Int) ≤ 1000 := by omega
      go_wp2_with fail
      all_goals refine bodyPost_ret (v := .tuple #[.agg #[.int .i64 (0), .int .i64 (0)], .bool false]) (by first | (simp [results, Tryd.results15, go_sem, ahxr, bhxr]; done) | (simp [results, Tryd.results15, go_sem, ahxr, bhxr]; omega)) rfl ⟨rfl, ?_⟩
      all_goals first | exact (hw.setCell (by first | (simp; done) | (simp; omega)) _).setCell (by first | (simp; done) | (simp; omega)) _ | exact Below.drewN' ((hw.setCell (by first | (simp; done) | (simp; omega)) _).setCell (by first | (simp; done) | (simp; omega)) _) 1 | (trace_state; fail)

set_option maxHeartbeats 1000000 in
theorem simpS_wrong (p0 q0 p1 q1 : Int) (w : World) (g0 : FrG p0 q0) (g1 : FrG p1 q1) (hle : p1 * q0 < p0 * q1) : Calls Tryd.prog 16 #[.agg #[.int .i64 p0, .int .i64 q0], .agg #[.int .i64 p1, .int .i64 q1]] w (GivesFB w 0 0 false) := by
  have cl := fun (W : World) => frLess_lt p1 q1 p0 q0 W g1 g0 hle
  replace cl := Lib.hid cl
  clear hle
  have h := Below.refl w.heap.size w
  have hA := below_alloc1 w (.cells #[.int .i64 p0, .int .i64 q0] 24)
  replace h := Below.step h hA
  have hx0 := Box.new w 24 #[.int .i64 p0, .int .i64 q0]
  clear hA
  have hA := below_alloc1 (w.alloc (.cells #[.int .i64 p0, .int .i64 q0] 24)) (.cells #[.int .i64 p1, .int .i64 q1] 24)
  replace h := Below.step h hA
  replace hx0 := hx0.kept hA
  have hx1 := Box.new (w.alloc (.cells #[.int .i64 p0, .int .i64 q0] 24)) 24 #[.int .i64 p1, .int .i64 q1]
  rw [show (w.alloc (.cells #[.int .i64 p0, .int .i64 q0] 24)).heap.size = w.heap.size + 1 from by simp] at hx1
  clear hA
  have hA := below_alloc1 ((w.alloc (.cells #[.int .i64 p0, .int .i64 q0] 24)).alloc (.cells #[.int .i64 p1, .int .i64 q1] 24)) (.cells #[.int .i64 0, .int .i64 0] 24)
  replace h := Below.step h hA
  replace hx0 := hx0.kept hA
  replace hx1 := hx1.kept hA
  have hxr := Box.new ((w.alloc (.cells #[.int .i64 p0, .int .i64 q0] 24)).alloc (.cells #[.int .i64 p1, .int .i64 q1] 24)) 24 #[.int .i64 0, .int .i64 0]
  rw [show ((w.alloc (.cells #[.int .i64 p0, .int .i64 q0] 24)).alloc (.cells #[.int .i64 p1, .int .i64 q1] 24)).heap.size = w.heap.size + 1 + 1 from by simp] at hxr
  clear hA
  go_enter Tryd.func16, Tryd.ntmps16
  go_wp2_with fail
  refine (frTwo_yes p0 q0 p1 q1 _ g0 g1).mono ?_
  rintro e w1 ⟨rfl, hb⟩
  replace h := Below.step h hb
  replace hx0 := hx0.kept hb
  replace hx1 := hx1.kept hb
  replace hxr := hxr.kept hb
  clear hb
  obtain ⟨ahx0, bhx0⟩ := hx0.two
  have lhx0 := hx0.lt
  obtain ⟨ahx1, bhx1⟩ := hx1.two
  have lhx1 := hx1.lt
  obtain ⟨ahxr, bhxr⟩ := hxr.two
  have lhxr := hxr.lt
  go_wp2_with fail
  refine (cl.out _).mono ?_
  rintro e w2 ⟨rfl, hb⟩
  replace h := Below.step h hb
  replace hx0 := hx0.kept hb
  replace hx1 := hx1.kept hb
  replace hxr := hxr.kept hb
  clear hb ahx0 bhx0 lhx0 ahx1 bhx1 lhx1 ahxr bhxr lhxr
  obtain ⟨ahx0, bhx0⟩ := hx0.two
  have lhx0 := hx0.lt
  obtain ⟨ahx1, bhx1⟩ := hx1.two
  have lhx1 := hx1.lt
  obtain ⟨ahxr, bhxr⟩ := hxr.two
  have lhxr := hxr.lt
  have f0 := hxr.free 0
  have f1 := hxr.free 1
  go_wp2_with fail
  refine bodyPost_ret (v := .tuple #[.agg #[.int .i64 (0), .int .i64 (0)], .bool false]) (by simp [results, Tryd.results16, go_sem, ahxr, bhxr]) rfl ⟨rfl, ?_⟩
  exact (h.setCell (by first | (simp; done) | (simp; omega)) _).setCell (by first | (simp; done) | (simp; omega)) _

set_option maxHeartbeats 1000000 in
theorem simpI_wrong (p0 q0 p1 q1 : Int) (w : World) (hL : Lim w) (g0 : FrG p0 q0) (g1 : FrG p1 q1) (hle : p1 * q0 < p0 * q1) : Calls Tryd.prog 15 #[.agg #[.int .i64 p0, .int .i64 q0], .agg #[.int .i64 p1, .int .i64 q1]] w (GivesFB w 0 0 false) := by
  have cl := fun (W : World) (hL : Lim W) => isLessI_lt p1 q1 p0 q0 W hL g1 g0 hle
  replace cl := Lib.hid cl
  clear hle
  have h := Below.refl w.heap.size w
  have hA := below_alloc1 w (.cells #[.int .i64 p0, .int .i64 q0] 24)
  replace h := Below.step h hA
  have hx0 := Box.new w 24 #[.int .i64 p0, .int .i64 q0]
  clear hA
  have hA := below_alloc1 (w.alloc (.cells #[.int .i64 p0, .int .i64 q0] 24)) (.cells #[.int .i64 p1, .int .i64 q1] 24)
  replace h := Below.step h hA
  replace hx0 := hx0.kept hA
  have hx1 := Box.new (w.alloc (.cells #[.int .i64 p0, .int .i64 q0] 24)) 24 #[.int .i64 p1, .int .i64 q1]
  rw [show (w.alloc (.cells #[.int .i64 p0, .int .i64 q0] 24)).heap.size = w.heap.size + 1 from by simp] at hx1
  clear hA
  have hA := below_alloc1 ((w.alloc (.cells #[.int .i64 p0, .int .i64 q0] 24)).alloc (.cells #[.int .i64 p1, .int .i64 q1] 24)) (.cells #[.int .i64 0, .int .i64 0] 24)
  replace h := Below.step h hA
  replace hx0 := hx0.kept hA
  replace hx1 := hx1.kept hA
  have hxr := Box.new ((w.alloc (.cells #[.int .i64 p0, .int .i64 q0] 24)).alloc (.cells #[.int .i64 p1, .int .i64 q1] 24)) 24 #[.int .i64 0, .int .i64 0]
  rw [show ((w.alloc (.cells #[.int .i64 p0, .int .i64 q0] 24)).alloc (.cells #[.int .i64 p1, .int .i64 q1] 24)).heap.size = w.heap.size + 1 + 1 from by simp] at hxr
  clear hA
  go_enter Tryd.func15, Tryd.ntmps15
  go_wp2_with fail
  refine (cl.out _ (by exact hL.kept h)).mono ?_
  rintro e w1 ⟨rfl, hb⟩
  replace h := Below.step h hb
  replace hx0 := hx0.kept hb
  replace hx1 := hx1.kept hb
  replace hxr := hxr.kept hb
  clear hb
  obtain ⟨ahx0, bhx0⟩ := hx0.two
  have lhx0 := hx0.lt
  obtain ⟨ahx1, bhx1⟩ := hx1.two
  have lhx1 := hx1.lt
  obtain ⟨ahxr, bhxr⟩ := hxr.two
  have lhxr := hxr.lt
  have f0 := hxr.free 0
  have f1 := hxr.free 1
  go_wp2_with fail
  refine bodyPost_ret (v := .tuple #[.agg #[.int .i64 (0), .int .i64 (0)], .bool false]) (by simp [results, Tryd.results15, go_sem, ahxr, bhxr]) rfl ⟨rfl, ?_⟩
  exact (h.setCell (by first | (simp; done) | (simp; omega)) _).setCell (by first | (simp; done) | (simp; omega)) _

set_option maxHeartbeats 1000000 in
theorem simpS_bad (p0 q0 p1 q1 : Int) (w : World) (g : ¬ (FrG p0 q0 ∧ FrG p1 q1)) : Calls Tryd.prog 16 #[.agg #[.int .i64 p0, .int .i64 q0], .agg #[.int .i64 p1, .int .i64 q1]] w (GivesFB w 0 0 false) := by
  have h := Below.refl w.heap.size w
  have hA := below_alloc1 w (.cells #[.int .i64 p0, .int .i64 q0] 24)
  replace h := Below.step h hA
  have hx0 := Box.new w 24 #[.int .i64 p0, .int .i64 q0]
  clear hA
  have hA := below_alloc1 (w.alloc (.cells #[.int .i64 p0, .int .i64 q0] 24)) (.cells #[.int .i64 p1, .int .i64 q1] 24)
  replace h := Below.step h hA
  replace hx0 := hx0.kept hA
  have hx1 := Box.new (w.alloc (.cells #[.int .i64 p0, .int .i64 q0] 24)) 24 #[.int .i64 p1, .int .i64 q1]
  rw [show (w.alloc (.cells #[.int .i64 p0, .int .i64 q0] 24)).heap.size = w.heap.size + 1 from by simp] at hx1
  clear hA
  have hA := below_alloc1 ((w.alloc (.cells #[.int .i64 p0, .int .i64 q0] 24)).alloc (.cells #[.int .i64 p1, .int .i64 q1] 24)) (.cells #[.int .i64 0, .int .i64 0] 24)
  replace h := Below.step h hA
  replace hx0 := hx0.kept hA
  replace hx1 := hx1.kept hA
  have hxr := Box.new ((w.alloc (.cells #[.int .i64 p0, .int .i64 q0] 24)).alloc (.cells #[.int .i64 p1, .int .i64 q1] 24)) 24 #[.int .i64 0, .int .i64 0]
  rw [show ((w.alloc (.cells #[.int .i64 p0, .int .i64 q0] 24)).alloc (.cells #[.int .i64 p1, .int .i64 q1] 24)).heap.size = w.heap.size + 1 + 1 from by simp] at hxr
  clear hA
  go_enter Tryd.func16, Tryd.ntmps16
  go_wp2_with fail
  refine (frTwo_no p0 q0 p1 q1 _ g).mono ?_
  rintro e w1 ⟨rfl, hb⟩
  replace h := Below.step h hb
  replace hx0 := hx0.kept hb
  replace hx1 := hx1.kept hb
  replace hxr := hxr.kept hb
  clear hb
  obtain ⟨ahx0, bhx0⟩ := hx0.two
  have lhx0 := hx0.lt
  obtain ⟨ahx1, bhx1⟩ := hx1.two
  have lhx1 := hx1.lt
  obtain ⟨ahxr, bhxr⟩ := hxr.two
  have lhxr := hxr.lt
  have f0 := hxr.free 0
  have f1 := hxr.free 1
  go_wp2_with fail
  refine bodyPost_ret (v := .tuple #[.agg #[.int .i64 (0), .int .i64 (0)], .bool false]) (by simp [results, Tryd.results16, go_sem, ahxr, bhxr]) rfl ⟨rfl, ?_⟩
  exact (h.setCell (by first | (simp; done) | (simp; omega)) _).setCell (by first | (simp; done) | (simp; omega)) _

set_option maxHeartbeats 1000000 in
theorem simpI_bad (p0 q0 p1 q1 : Int) (w : World) (hL : Lim w) (g : ¬ (FrG p0 q0 ∧ FrG p1 q1)) : Calls Tryd.prog 15 #[.agg #[.int .i64 p0, .int .i64 q0], .agg #[.int .i64 p1, .int .i64 q1]] w (GivesFB w 0 0 false) := by
  have h := Below.refl w.heap.size w
  have hA := below_alloc1 w (.cells #[.int .i64 p0, .int .i64 q0] 24)
  replace h := Below.step h hA
  have hx0 := Box.new w 24 #[.int .i64 p0, .int .i64 q0]
  clear hA
  have hA := below_alloc1 (w.alloc (.cells #[.int .i64 p0, .int .i64 q0] 24)) (.cells #[.int .i64 p1, .int .i64 q1] 24)
  replace h := Below.step h hA
  replace hx0 := hx0.kept hA
  have hx1 := Box.new (w.alloc (.cells #[.int .i64 p0, .int .i64 q0] 24)) 24 #[.int .i64 p1, .int .i64 q1]
  rw [show (w.alloc (.cells #[.int .i64 p0, .int .i64 q0] 24)).heap.size = w.heap.size + 1 from by simp] at hx1
  clear hA
  have hA := below_alloc1 ((w.alloc (.cells #[.int .i64 p0, .int .i64 q0] 24)).alloc (.cells #[.int .i64 p1, .int .i64 q1] 24)) (.cells #[.int .i64 0, .int .i64 0] 24)
  replace h := Below.step h hA
  replace hx0 := hx0.kept hA
  replace hx1 := hx1.kept hA
  have hxr := Box.new ((w.alloc (.cells #[.int .i64 p0, .int .i64 q0] 24)).alloc (.cells #[.int .i64 p1, .int .i64 q1] 24)) 24 #[.int .i64 0, .int .i64 0]
  rw [show ((w.alloc (.cells #[.int .i64 p0, .int .i64 q0] 24)).alloc (.cells #[.int .i64 p1, .int .i64 q1] 24)).heap.size = w.heap.size + 1 + 1 from by simp] at hxr
  clear hA
  go_enter Tryd.func15, Tryd.ntmps15
  go_wp2_with fail
  refine (isLessI_no p1 q1 p0 q0 _ (by exact hL.kept h) (fun g' => g ⟨g'.2, g'.1⟩)).mono ?_
  rintro e w1 ⟨rfl, hb⟩
  replace h := Below.step h hb
  replace hx0 := hx0.kept hb
  replace hx1 := hx1.kept hb
  replace hxr := hxr.kept hb
  clear hb
  obtain ⟨ahx0, bhx0⟩ := hx0.two
  have lhx0 := hx0.lt
  obtain ⟨ahx1, bhx1⟩ := hx1.two
  have lhx1 := hx1.lt
  obtain ⟨ahxr, bhxr⟩ := hxr.two
  have lhxr := hxr.lt
  have f0 := hxr.free 0
  have f1 := hxr.free 1
  go_wp2_with fail
  refine bodyPost_ret (v := .tuple #[.agg #[.int .i64 (0), .int .i64 (0)], .bool false]) (by simp [results, Tryd.results15, go_sem, ahxr, bhxr]) rfl ⟨rfl, ?_⟩
  exact (h.setCell (by first | (simp; done) | (simp; omega)) _).setCell (by first | (simp; done) | (simp; omega)) _

/-- Either a denominator serves, and there is a first one, or none does. -/
theorem first_k (a b c d : Int) (n : Nat) : (∃ K : Nat, 1 ≤ K ∧ K < n ∧ NoneBelow a b c d K ∧ loK a b (K : Int) ≤ hiK c d (K : Int)) ∨ NoneBelow a b c d n := by
  induction n with
  | zero => exact .inr fun j h1 h2 => by omega
  | succ n ih =>
    rcases ih with ⟨K, h1, h2, h3, h4⟩ | h
    · exact .inl ⟨K, h1, by omega, h3, h4⟩
    · by_cases hn : 1 ≤ n ∧ loK a b (n : Int) ≤ hiK c d (n : Int)
      · exact .inl ⟨n, hn.1, by omega, h, hn.2⟩
      · refine .inr fun j h1 h2 => ?_
        by_cases hj : j < n
        · exact h j h1 hj
        · obtain rfl : j = n := by omega
          exact fun h5 => hn ⟨h1, h5⟩
end Go.Proofs.YtchglkcfolannabDoor
