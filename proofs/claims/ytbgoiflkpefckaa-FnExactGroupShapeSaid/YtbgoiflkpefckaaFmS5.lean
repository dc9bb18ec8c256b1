/- The model's list of all points modulo a prime (written by wip/gen/fms5.py). -/
import Derived.Test.YtbgoiflkpefckaaFmS4
import Derived.Test.YtbgoiflkpefckaaFmPl
import Derived.Test.YtbgoiflkpefckaaSSApp
import Derived.Deep.RegionHeld3
import Derived.Deep.DeepCutAuto
namespace Go.Proofs.Ytbgoiflkpefckaa
open Go.RowKit Go.Joins

theorem SS.one (w : World) (base : Nat) (h : base ≤ w.heap.size) :
    let w2 := (w.alloc (.cells #[] 3)).alloc (.cells #[.slice (some ⟨w.heap.size, 0, none⟩) 0 0] 36)
    SS w2 base (.slice (some ⟨w.heap.size + 1, 0, none⟩) 1 1) [[]] [.slice (some ⟨w.heap.size, 0, none⟩) 0 0] := by
  intro w2
  have hw : (w.alloc (.cells #[] 3)).heap.size = w.heap.size + 1 := by simp
  have h1 : Own (w.alloc (.cells #[] 3)) base (.slice (some ⟨w.heap.size, 0, none⟩) 0 0) [] := World.ownsRow_lit w #[] 0 h (by unfold maxLen; omega) rfl
  refine ⟨rfl, ?_, fun j hj => ?_, fun i j hij hj => ?_⟩
  · have h2 : w2.ownsRow base 36 1 (.slice (some ⟨(w.alloc (.cells #[] 3)).heap.size, 0, none⟩) 1 1) 1 [.slice (some ⟨w.heap.size, 0, none⟩) 0 0] := World.ownsRow_lit (w.alloc (.cells #[] 3)) #[.slice (some ⟨w.heap.size, 0, none⟩) 0 0] 1 (by omega) (by unfold maxLen; omega) rfl
    rw [hw] at h2
    exact h2
  · have hj' : j < 1 := hj
    obtain rfl : j = 0 := by omega
    exact h1.alloc _
  · have hj' : j < 1 := hj
    omega
theorem Box.ss_aside {w w' : World} {g lo : Nat} {t : TypeId} {cs : Array Value} {v : Value} {L : List (List Int)} {vs : List Value} (h : Box w g t cs) (h' : SS w lo v L vs) (hg : w.grownBy w' v.ownBlock) (ht : g < lo) : Box w' g t cs := by
  refine h.grown hg fun e => ?_
  have := (World.ownsRow.lt h'.outer g e.symm).1
  omega
theorem map_snoc {α β : Type} (f : α → β) (L : List α) (x : α) : (L ++ [x]).map f = L.map f ++ [f x] := by simp
theorem SS.le {w : World} {base base' : Nat} {v : Value} {L : List (List Int)} {vs : List Value} (h : SS w base v L vs) (hb : base' ≤ base) : SS w base' v L vs :=
  ⟨h.len, ownsRow_le h.outer hb, fun j hj => (h.inner j hj).le hb, h.apart⟩

set_option maxHeartbeats 2000000 in
set_option maxRecDepth 100000 in
theorem fmPoints_any {a b : Int} {p : Nat} (G : FG a b p) (w : World) : Calls Try.prog 51 #[.agg #[.int .i64 a, .int .i64 b], .int .i64 (p : Int)] w (GivesSS w ((plist a b p p).map fl)) := by
  have h9 := G.le
  have h5 := G.five
  have hs9 : p * p + 1 ≤ 1000000 := by have := Nat.mul_le_mul h9 h9; omega
  have p0 : ((p : Int) == 0) = false := beq_eq_false_iff_ne.2 (by omega)
  have p1 : (p : Int) ≠ 0 := by omega
  have p2 : p ≠ 0 := by omega
  have h := Below.refl w.heap.size w
  have hA := below_alloc1 w (.cells #[.int .i64 a, .int .i64 b] 26)
  have hx0 := Box.new w 26 #[.int .i64 a, .int .i64 b]
  replace h := Below.step h hA
  clear hA
  obtain ⟨k00, k01⟩ := hx0.two
  have l0 := hx0.lt
  go_enter Try.func51, Try.ntmps51
  go_wp2_with fail
  clear k00 k01 l0
  have hso := SS.one (w.alloc (.cells #[.int .i64 a, .int .i64 b] 26)) (w.heap.size + 1) (by simp)
  have hA := Below.step (below_alloc1 (w.alloc (.cells #[.int .i64 a, .int .i64 b] 26)) (.cells #[] 3)) (below_alloc1 ((w.alloc (.cells #[.int .i64 a, .int .i64 b] 26)).alloc (.cells #[] 3)) (.cells #[.slice (some ⟨(w.alloc (.cells #[.int .i64 a, .int .i64 b] 26)).heap.size, 0, none⟩) 0 0] 36))
  replace h := Below.step h hA
  replace hx0 := hx0.kept hA
  clear hA
  rw [show (w.alloc (.cells #[.int .i64 a, .int .i64 b] 26)).heap.size = w.heap.size + 1 from by simp] at hso h hx0
  generalize (((w.alloc (.cells #[.int .i64 a, .int .i64 b] 26)).alloc (.cells #[] 3)).alloc (.cells #[.slice (some ⟨w.heap.size + 1, 0, none⟩) 0 0] 36)) = w1 at *
  go_loopw [5, 6] (fun o x wr => ∃ (k : Nat) (A : Option Addr) (c : Nat) (vs : List Value), k ≤ p ∧ o = .slice A ((plist a b p k).map fl).length c ∧ x = .int .i64 k ∧ SS wr (w.heap.size + 1) (.slice A ((plist a b p k).map fl).length c) ((plist a b p k).map fl) vs ∧ Below w.heap.size w wr ∧ Box wr w.heap.size 26 #[.int .i64 a, .int .i64 b]) (fun _ x _ => 1000 - (intOf x).toNat)
  case atStart => exact ⟨0, _, 1, _, by omega, rfl, rfl, hso, h, hx0⟩
  case round =>
    clear h hx0 hso
    obtain ⟨k, A, c, vs, hk, rfl, rfl, hss, h, hx0⟩ := hrel
    by_cases hlt : k < p
    · have c1 := fun W => fmValue_any G k W hlt
      have hvp : fval a b p k < p := rs_lt (by omega) _
      have hpl := plist_len a b p k
      have hpk := Nat.mul_le_mul (show k ≤ 996 by omega) h9
      obtain ⟨V, hV⟩ : ∃ V, V = fval a b p k := ⟨_, rfl⟩
      rw [← hV] at c1 hvp
      replace hV := Lib.hid hV
      replace c1 := Lib.hid c1
      obtain ⟨L0, hL0⟩ : ∃ L0, L0 = plist a b p k := ⟨_, rfl⟩
      have hll := Lib.hid (show (L0.map fl).length = (plist a b p k).length by rw [hL0, List.length_map])
      rw [← hL0] at hss ⊢
      replace hL0 := Lib.hid hL0
      obtain ⟨k00, k01⟩ := hx0.two
      have l0 := hx0.lt
      go_wp2_with fail
      refine (c1.out _).mono ?_
      rintro e w1 ⟨rfl, hb⟩
      replace h := Below.step h hb
      replace hx0 := hx0.kept hb
      replace hss := hss.kept hb
      clear hb k00 k01 l0
      obtain ⟨k00, k01⟩ := hx0.two
      have l0 := hx0.lt
      clear c1 k00 k01 l0
      go_wp2_with fail
      go_loopw [5, 8] (fun o y wr => ∃ (j : Nat) (A : Option Addr) (c : Nat) (vs : List Value), j ≤ p ∧ o = .slice A ((L0 ++ prs a b p k j).map fl).length c ∧ y = .int .i64 j ∧ SS wr (w.heap.size + 1) (.slice A ((L0 ++ prs a b p k j).map fl).length c) ((L0 ++ prs a b p k j).map fl) vs ∧ Below w.heap.size w wr ∧ Box wr w.heap.size 26 #[.int .i64 a, .int .i64 b]) (fun _ y _ => 1000 - (intOf y).toNat)
      case atStart => exact ⟨0, A, c, vs, by omega, by rw [prs, List.append_nil, List.length_map], rfl, by rw [prs, List.append_nil]; exact hss, h, hx0⟩
      case round =>
        clear h hx0 hss
        obtain ⟨j, A', c', vs', hj, rfl, rfl, hss, h, hx0⟩ := hrel
        have hpr := prs_len a b p k j
        by_cases hjl : j < p
        · obtain ⟨s3, s4⟩ := small_mul (o := j) (x := j) (by omega) (by omega)
          have hlen2 : ((L0 ++ prs a b p k j).map fl).length + 1 ≤ 4398046511104 := by rw [List.length_map, List.length_append, ← List.length_map (f := fl), hll.out]; omega
          by_cases he : j * j % p = V
          · have eB : ((j : Int) * j % p == (V : Int)) = true := by rw [cast_mm, beq_nat]; exact decide_eq_true he
            have hl2 : ((L0 ++ prs a b p k j).map fl) ++ [[(k : Int), (j : Int)]] = (L0 ++ prs a b p k (j + 1)).map fl := by rw [prs_yes (he.trans hV.out), ← List.append_assoc]; exact (map_snoc fl _ (some (k, j))).symm
            obtain ⟨L, hL⟩ : ∃ L, L = ((L0 ++ prs a b p k j).map fl) := ⟨_, rfl⟩
            rw [← hL] at hss hlen2 hl2 ⊢
            replace hl2 := Lib.hid hl2
            replace hlen2 := Lib.hid hlen2
            clear hL he hll hpl hpr
            obtain ⟨s1, s2, s3', s4', s5, s6⟩ := hss.pair (w0 := w) h (by have := hx0.lt; omega) (k : Int) (j : Int)
            have hA := Below.step (below_alloc1 wr (.cells #[.int .i64 (k : Int), .int .i64 (j : Int)] 3)) (below_alloc1 (wr.alloc (.cells #[.int .i64 (k : Int), .int .i64 (j : Int)] 3)) (.cells #[.slice (some ⟨wr.heap.size, 0, none⟩) 2 2] 36))
            have hxa := hx0.kept hA
            clear hA h hss hx0
            go_wp2_with (first
              | (at_builtin; refine wpList_append_ss _ rfl _ _ rfl (w.heap.size + 1) _ L vs' rfl s1 _ [(k : Int), (j : Int)] s2 s3' _ _ rfl s4' hlen2.out s5 ?_; intro A1 c1 w1' hs1 hg1)
              | fail)
            have hb1 := below_ss s6 s1 (by omega) hg1
            have hx1 := hxa.ss_aside s1 hg1 (by omega)
            clear s1 s2 s3' s4' s5 s6 hg1 hxa
            have hle : L.length + 1 = ((L0 ++ prs a b p k (j + 1)).map fl).length := by rw [← hl2.out, List.length_append]; rfl
            rw [hl2.out] at hs1
            rw [hle]
            clear hle hl2 hlen2
            go_wp2_with fail
            go_roundw
            case rel => exact ⟨j + 1, A1, c1, _, by omega, rfl, by go_num, hs1, hb1, hx1⟩
            case measure => simp [intOf]; omega
          · have eB : ((j : Int) * j % p == (V : Int)) = false := by rw [cast_mm, beq_nat]; exact decide_eq_false he
            have hl2 : L0 ++ prs a b p k j = L0 ++ prs a b p k (j + 1) := by rw [prs_no (fun e => he (e.trans hV.out.symm))]
            rw [hl2] at hss ⊢
            clear hl2 he hlen2 hpr hll hpl
            go_wp2_with fail
            go_roundw
            case rel => exact ⟨j + 1, A', c', vs', by omega, rfl, by go_num, hss, h, hx0⟩
            case measure => simp [intOf]; omega
        · obtain rfl : j = p := by omega
          have hl2 : L0 ++ prs a b j k j = plist a b j (k + 1) := by rw [hL0.out]; rfl
          rw [hl2] at hss ⊢
          clear hl2 hjl hpr hll hpl
          go_wp2_with fail
          go_roundw
          case rel => exact ⟨k + 1, A', c', vs', by omega, rfl, by go_num, hss, h, hx0⟩
          case measure => simp [intOf]; omega
    · obtain rfl : k = p := by omega
      clear hlt
      go_wp2_with fail
      go_ret
      exact ⟨A, c, vs, rfl, hss.le (by omega), h⟩


set_option maxHeartbeats 1000000 in
set_option maxRecDepth 100000 in
theorem ptsS_no (a b q : Int) (w : World) (g : ¬ Gd a b q 199) : Calls Try.prog 18 #[.agg #[.int .i64 a, .int .i64 b], .int .i64 q] w (GivesSSOk w [] false) := by
  have c1 := fun W => smallS_any a b q W false ⟨fun e => (by cases e), fun e => absurd e g⟩
  replace c1 := Lib.hid c1
  clear g
  have h := Below.refl w.heap.size w
  have hA := below_alloc1 w (.cells #[.int .i64 a, .int .i64 b] 26)
  have hx0 := Box.new w 26 #[.int .i64 a, .int .i64 b]
  replace h := Below.step h hA
  clear hA
  obtain ⟨k00, k01⟩ := hx0.two
  have l0 := hx0.lt
  go_enter Try.func18, Try.ntmps18
  go_wp2_with fail
  refine (c1.out _).mono ?_
  rintro e w1 ⟨rfl, hb⟩
  replace h := Below.step h hb
  replace hx0 := hx0.kept hb
  clear hb k00 k01 l0
  obtain ⟨k00, k01⟩ := hx0.two
  have l0 := hx0.lt
  go_wp2_with fail
  go_ret2
  exact ⟨none, 0, [], rfl, SS.nil _ _, h⟩


set_option maxHeartbeats 1000000 in
set_option maxRecDepth 100000 in
theorem ptsS_yes {a b : Int} {p : Nat} (G : FG a b p) (hp : p ≤ 199) (w : World) : Calls Try.prog 18 #[.agg #[.int .i64 a, .int .i64 b], .int .i64 (p : Int)] w (GivesSSOk w ((plist a b p p).map fl) true) := by
  have c1 := fun W => smallS_any a b (p : Int) W true ⟨fun _ => ⟨p, rfl, G, hp⟩, fun _ => rfl⟩
  have c2 := fun W => fmPoints_any G W
  generalize (plist a b p p).map fl = L at *
  replace c1 := Lib.hid c1
  replace c2 := Lib.hid c2
  clear G
  have h := Below.refl w.heap.size w
  have hA := below_alloc1 w (.cells #[.int .i64 a, .int .i64 b] 26)
  have hx0 := Box.new w 26 #[.int .i64 a, .int .i64 b]
  replace h := Below.step h hA
  clear hA
  obtain ⟨k00, k01⟩ := hx0.two
  have l0 := hx0.lt
  go_enter Try.func18, Try.ntmps18
  go_wp2_with fail
  refine (c1.out _).mono ?_
  rintro e w1 ⟨rfl, hb⟩
  replace h := Below.step h hb
  replace hx0 := hx0.kept hb
  clear hb k00 k01 l0
  obtain ⟨k00, k01⟩ := hx0.two
  have l0 := hx0.lt
  go_wp2_with fail
  have hsz := h.size
  refine (c2.out _).mono ?_
  rintro e w2 ⟨A1, d1, vs1, rfl, hs1, hb⟩
  replace h := Below.step h hb
  replace hx0 := hx0.kept hb
  clear hb k00 k01 l0
  obtain ⟨k00, k01⟩ := hx0.two
  have l0 := hx0.lt
  go_wp2_with fail
  go_ret2
  exact ⟨A1, d1, vs1, rfl, hs1.le hsz, h⟩

end Go.Proofs.Ytbgoiflkpefckaa
