/- PowerOfWhole: the program's side. -/
import Derived.Test.YtlkdelhmjjnnnaaPow
import Derived.Test.YtlkdelhmjjnnnaaBits
namespace Go.Proofs.Ytlkdelhmjjnnnaa
open Go.RowKit Go.Joins

theorem own_one (w : World) (B : Nat) (x : Int) (hB : B ≤ w.heap.size) : Own (w.alloc (.cells #[.int .i64 x] 3)) B (.slice (some ⟨w.heap.size, 0, none⟩) 1 1) [x] := by
  refine ⟨?_, .inr ⟨w.heap.size, 1, #[.int .i64 x], rfl, hB, ?_, ?_, ?_, ?_, ?_⟩⟩
  all_goals first | rfl | decide | (simp; done) | exact Box.new w 3 #[.int .i64 x] | (unfold maxLen; omega)
theorem one_digs : digs (1 : Int).natAbs = [1] := by decide
theorem res_back {w : World} {z : Int} {e : Ending} {w' : World} (hl : (digs z.natAbs).length ≤ 400) (h : GivesWholeOk w (resNeg z) (resDigs z) (resOk z) e w') : GivesWholeOk w (decide (z < 0)) (digs z.natAbs) true e w' := by
  unfold resNeg resDigs resOk at h
  rw [if_pos hl, if_pos hl, decide_eq_true hl] at h
  exact h
theorem res_gone {w : World} {z : Int} {e : Ending} {w' : World} (hl : ¬ (digs z.natAbs).length ≤ 400) (h : GivesWholeOk w (resNeg z) (resDigs z) (resOk z) e w') : GivesWholeOk w false [] false e w' := by
  unfold resNeg resDigs resOk at h
  rw [if_neg hl, if_neg hl, decide_eq_false hl] at h
  exact h
theorem bit_small : ∀ m : Fin 65, bits BinOp.and IntKind.i64 ((m.val : Nat) : Int) 1 = ((m.val % 2 : Nat) : Int) := by decide +kernel
theorem bit_and (n j : Nat) (hn : n ≤ 64) : bits BinOp.and IntKind.i64 ((n : Int) / 2 ^ j) 1 = ((n / 2 ^ j % 2 : Nat) : Int) := by
  have h := bit_small ⟨n / 2 ^ j, by have := Nat.div_le_self n (2 ^ j); omega⟩
  have e : (n : Int) / 2 ^ j = ((n / 2 ^ j : Nat) : Int) := by simp
  rw [e]; exact h
theorem lt_blog (n : Nat) : n < 2 ^ blog n := by
  unfold blog
  split
  · omega
  · exact Nat.lt_log2_self
theorem half_up (n j : Nat) : n / 2 ^ j = 2 * (n / 2 ^ (j + 1)) + n / 2 ^ j % 2 := by
  rw [Nat.pow_succ, ← Nat.div_div_eq_div_mul]
  omega
set_option maxHeartbeats 1000000 in
set_option maxRecDepth 100000 in
theorem pwI_yes (neg0 : Bool) (A0 : Option Addr) (c0 : Nat) (xs0 : List Int) (n : Nat) (w : World) (_hl0 : xs0.length ≤ 1048576) (_hr0 : Rd w w.heap.size A0 xs0.length xs0) (hg0 : Good neg0 xs0) (hn : n ≤ 64) :
    ∀ z, z = num neg0 xs0 ^ n → Calls Try.prog 38 #[.agg #[.bool neg0, .slice A0 xs0.length c0], .int .i64 (n : Int)] w (GivesWholeOk w (resNeg z) (resDigs z) (resOk z)) := by
  intro z hz
  replace hz := Lib.hid hz
  have l0 := hg0.len
  have cb := fun W => Lib.hid (bitsLen_any n W (by omega))
  have hL : blog n ≤ 7 := blog_le (by omega)
  obtain ⟨L, hLn⟩ : ∃ L, L = blog n := ⟨_, rfl⟩
  rw [← hLn] at hL cb
  replace hLn := Lib.hid hLn
  have h := Below.refl w.heap.size w
  have hA := below_alloc1 w (.cells #[.bool neg0, .slice A0 xs0.length c0] 27)
  replace h := Below.step h hA
  have hx0 := Box.new w 27 #[.bool neg0, .slice A0 xs0.length c0]
  clear hA
  have hA := below_alloc1 (w.alloc (.cells #[.bool neg0, .slice A0 xs0.length c0] 27)) (.cells #[.bool false, .slice none 0 0] 27)
  replace h := Below.step h hA
  replace hx0 := hx0.kept hA
  have hxr := Box.new (w.alloc (.cells #[.bool neg0, .slice A0 xs0.length c0] 27)) 27 #[.bool false, .slice none 0 0]
  rw [show (w.alloc (.cells #[.bool neg0, .slice A0 xs0.length c0] 27)).heap.size = w.heap.size + 1 from by simp] at hxr
  clear hA
  go_enter Try.func38, Try.ntmps38
  go_wp2_with fail
  refine (isWholeI_yes neg0 A0 _ c0 xs0 _ (_hr0.kept h) hg0).mono ?_
  rintro e w1 ⟨rfl, hb⟩
  replace h := Below.step h hb
  replace hx0 := hx0.kept hb
  replace hxr := hxr.kept hb
  clear hb
  obtain ⟨ahx0, bhx0⟩ := hx0.two
  have lhx0 := hx0.lt
  obtain ⟨ahxr, bhxr⟩ := hxr.two
  have lhxr := hxr.lt
  go_wp2_with fail
  refine ((cb _).out).mono ?_
  rintro e w9 ⟨rfl, rfl⟩
  obtain ⟨g0, e0⟩ : ∃ g, g = w.heap.size := ⟨_, rfl⟩
  obtain ⟨gr, er⟩ : ∃ g, g = w.heap.size + 1 := ⟨_, rfl⟩
  obtain ⟨gx, eg⟩ : ∃ g, g = w1.heap.size + 1 := ⟨_, rfl⟩
  have hs := h.size
  have hgx : w.heap.size ≤ gx := by omega
  have hgr : w.heap.size ≤ gr := by omega
  have n0 : g0 ≠ gx := by omega
  have n1 : gr ≠ gx := by omega
  obtain ⟨o, ho⟩ : ∃ o : Int, o = 1 := ⟨_, rfl⟩
  have hyx : Box ((w1.alloc (.cells #[.int .i64 1] 3)).alloc (.cells #[.bool false, .slice (some ⟨w1.heap.size, 0, none⟩) 1 1] 27)) gx 27 #[.bool (decide (o < 0)), .slice (some ⟨w1.heap.size, 0, none⟩) (digs o.natAbs).length 1] := by
    have h1 := Box.new (w1.alloc (.cells #[.int .i64 1] 3)) 27 #[.bool false, .slice (some ⟨w1.heap.size, 0, none⟩) 1 1]
    rw [show (w1.alloc (.cells #[.int .i64 1] 3)).heap.size = gx from by simp; omega] at h1
    rw [ho, one_digs]
    exact h1
  have hoq : Own ((w1.alloc (.cells #[.int .i64 1] 3)).alloc (.cells #[.bool false, .slice (some ⟨w1.heap.size, 0, none⟩) 1 1] 27)) w.heap.size (.slice (some ⟨w1.heap.size, 0, none⟩) (digs o.natAbs).length 1) (digs o.natAbs) := by
    rw [ho, one_digs]
    exact (own_one w1 w.heap.size 1 hs).alloc _
  have hbA := below_alloc1 w1 (.cells #[.int .i64 1] 3)
  have hbB := below_alloc1 (w1.alloc (.cells #[.int .i64 1] 3)) (.cells #[.bool false, .slice (some ⟨w1.heap.size, 0, none⟩) 1 1] 27)
  have h2 := Below.step (Below.step h hbA) hbB
  have hx2 := (hx0.kept hbA).kept hbB
  have hxr2 := (hxr.kept hbA).kept hbB
  rw [← e0] at hx2
  rw [← er] at hxr2
  replace hoq := Lib.hid hoq
  replace ho := Lib.hid ho
  rw [← er, ← e0, ← eg]
  clear eg h hx0 hxr ahx0 bhx0 lhx0 ahxr bhxr lhxr e0 er hbA hbB hs
  generalize (w1.alloc (.cells #[.int .i64 1] 3)).alloc (.cells #[.bool false, .slice (some ⟨w1.heap.size, 0, none⟩) 1 1] 27) = w3 at *
  generalize (some ⟨w1.heap.size, 0, none⟩ : Option Addr) = A1 at *
  go_wp2_with fail
  go_loopg [7] L (fun g i wr => ∃ (j : Nat) (p : Int) (A : Option Addr) (c : Nat), j ≤ L ∧ g = j ∧ i = .int .i64 ((j : Int) - 1) ∧ Hid (p = num neg0 xs0 ^ (n / 2 ^ j) ∧ (digs p.natAbs).length ≤ 400) ∧ Hid (Own wr w.heap.size (.slice A (digs p.natAbs).length c) (digs p.natAbs)) ∧ Box wr gx 27 #[.bool (decide (p < 0)), .slice A (digs p.natAbs).length c] ∧ Box wr g0 27 #[.bool neg0, .slice A0 xs0.length c0] ∧ Box wr gr 27 #[.bool false, .slice none 0 0] ∧ Below w.heap.size w wr)
  case atStart =>
    have hn0 : n / 2 ^ L = 0 := by
      rw [hLn.out]
      exact Nat.div_eq_of_lt (lt_blog n)
    exact ⟨L, o, A1, 1, Nat.le_refl _, rfl, rfl, ⟨by rw [hn0, Int.pow_zero]; exact ho.out, by rw [ho.out, one_digs]; decide⟩, hoq, hyx, hx2, hxr2, h2⟩
  case round =>
    clear hoq hyx hx2 hxr2 h2
    obtain ⟨j0, p, A, c, hj, hgj, rfl, hp, hoq, hyx, hx0, hxr, h⟩ := hrel
    obtain rfl : j0 = gk := hgj.symm
    obtain ⟨k0, k1⟩ := hyx.two
    obtain ⟨k2, k3⟩ := hx0.two
    obtain ⟨k6, k7⟩ := hxr.two
    rcases j0 with _ | j
    · have hpz : Hid (p = z) := by show p = z; rw [hz.out, hp.out.1]; simp
      have f0 := hxr.free 0
      have f1 := hxr.free 1
      go_wp2_with fail
      refine bodyPost_ret (v := .tuple #[.agg #[.bool (decide (p < 0)), .slice A (digs p.natAbs).length c], .bool true]) (by simp [results, Try.results38, go_sem, k6, k7]) rfl ?_
      rw [← hpz.out]
      exact res_yes hp.out.2 ⟨A, c, rfl, (hoq.out.set_box hxr (by decide)).set_box (hxr.set 0 _) (by decide), (h.setCell hgr _).setCell hgr _⟩
    · rw [show (((j + 1 : Nat) : Int) - 1) = (j : Int) from by omega]
      have hgp : Good (decide (p < 0)) (digs p.natAbs) := good_num p hp.out.2
      have hnp : num (decide (p < 0)) (digs p.natAbs) = p := digs_neg p _ (digs_rng _) (by rw [digs_val])
      obtain ⟨y, hy⟩ : ∃ y, y = num neg0 xs0 ^ (2 * (n / 2 ^ (j + 1))) := ⟨_, rfl⟩
      have cm := muI_yes (decide (p < 0)) A c (digs p.natAbs) (decide (p < 0)) A c (digs p.natAbs) wr (by have := hp.out.2; omega) hoq.out.rd (by have := hp.out.2; omega) hoq.out.rd hgp hgp y (by rw [hnp, hp.out.1, hy, Nat.two_mul, Int.pow_add])
      replace cm := Lib.hid cm
      have hup := half_up n j
      replace hy := Lib.hid hy
      replace hnp := Lib.hid hnp
      replace hgp := Lib.hid hgp
      by_cases hf : (digs y.natAbs).length ≤ 400
      · by_cases hbt : n / 2 ^ j % 2 = 1
        · have hbit : bits BinOp.and IntKind.i64 ((n : Int) / 2 ^ j) 1 = 1 := by rw [bit_and n j hn, hbt]; rfl
          have hq : Hid (n / 2 ^ j = 2 * (n / 2 ^ (j + 1)) + 1) := by show n / 2 ^ j = _; omega
          replace hup := Lib.hid hup
          replace hbt := Lib.hid hbt
          go_wp2_with fail
          refine (cm.out).mono ?_
          rintro e w5 hres
          obtain ⟨D, d, rfl, hod, hb⟩ := res_back hf hres
          clear hres
          have hyx1 := hyx.kept hb
          have hx01 := hx0.kept hb
          have hxr1 := hxr.kept hb
          have h1 := Below.step h hb
          obtain ⟨ka1, kb1⟩ := hyx1.two
          have kc1 := hyx1.free 0
          have kd1 := hyx1.free 1
          have hyxS1 : Box ((w5.setCell ⟨gx, 0, none⟩ (.bool (decide (y < 0)))).setCell ⟨gx, 1, none⟩ (.slice D (digs y.natAbs).length d)) gx 27 #[.bool (decide (y < 0)), .slice D (digs y.natAbs).length d] := (hyx1.set 0 _).set 1 _
          have hx0S1 : Box ((w5.setCell ⟨gx, 0, none⟩ (.bool (decide (y < 0)))).setCell ⟨gx, 1, none⟩ (.slice D (digs y.natAbs).length d)) g0 27 #[.bool neg0, .slice A0 xs0.length c0] := (hx01.far (p := ⟨gx, 0, none⟩) n0 _).far (p := ⟨gx, 1, none⟩) n0 _
          have hxrS1 : Box ((w5.setCell ⟨gx, 0, none⟩ (.bool (decide (y < 0)))).setCell ⟨gx, 1, none⟩ (.slice D (digs y.natAbs).length d)) gr 27 #[.bool false, .slice none 0 0] := (hxr1.far (p := ⟨gx, 0, none⟩) n1 _).far (p := ⟨gx, 1, none⟩) n1 _
          have hS1 : Below w.heap.size w ((w5.setCell ⟨gx, 0, none⟩ (.bool (decide (y < 0)))).setCell ⟨gx, 1, none⟩ (.slice D (digs y.natAbs).length d)) := (h1.setCell hgx _).setCell hgx _
          have hodS1 : Hid (Own ((w5.setCell ⟨gx, 0, none⟩ (.bool (decide (y < 0)))).setCell ⟨gx, 1, none⟩ (.slice D (digs y.natAbs).length d)) w.heap.size (.slice D (digs y.natAbs).length d) (digs y.natAbs)) := ((hod.le (base' := w.heap.size) h.size).set_box hyx1 (by decide)).set_box (hyx1.set 0 _) (by decide)
          obtain ⟨k8, k9⟩ := hyxS1.two
          obtain ⟨m8, m9⟩ := hx0S1.two
          clear hb k0 k1 k2 k3 k6 k7 hod
          obtain ⟨y2, hy2⟩ : ∃ y2, y2 = num neg0 xs0 ^ (n / 2 ^ j) := ⟨_, rfl⟩
          have hny : num (decide (y < 0)) (digs y.natAbs) = y := digs_neg y _ (digs_rng _) (by rw [digs_val])
          have cm2 := muI_yes (decide (y < 0)) D d (digs y.natAbs) neg0 A0 c0 xs0 _ (by omega) hodS1.out.rd (by omega) (_hr0.kept hS1) (good_num y hf) hg0 y2 (by rw [hny, hy.out, hy2, hq.out, Int.pow_succ])
          replace cm2 := Lib.hid cm2
          replace hy2 := Lib.hid hy2
          replace hny := Lib.hid hny
          by_cases hf2 : (digs y2.natAbs).length ≤ 400
          · go_wp2_with fail
            refine (cm2.out).mono ?_
            rintro e w6 hres
            obtain ⟨D2, d2, rfl, hod2, hb⟩ := res_back hf2 hres
            clear hres
            have hyx2 := hyxS1.kept hb
            have hx02 := hx0S1.kept hb
            have hxr2 := hxrS1.kept hb
            have h2 := Below.step hS1 hb
            obtain ⟨ka2, kb2⟩ := hyx2.two
            have kc2 := hyx2.free 0
            have kd2 := hyx2.free 1
            have hyxS2 : Box ((w6.setCell ⟨gx, 0, none⟩ (.bool (decide (y2 < 0)))).setCell ⟨gx, 1, none⟩ (.slice D2 (digs y2.natAbs).length d2)) gx 27 #[.bool (decide (y2 < 0)), .slice D2 (digs y2.natAbs).length d2] := (hyx2.set 0 _).set 1 _
            have hx0S2 : Box ((w6.setCell ⟨gx, 0, none⟩ (.bool (decide (y2 < 0)))).setCell ⟨gx, 1, none⟩ (.slice D2 (digs y2.natAbs).length d2)) g0 27 #[.bool neg0, .slice A0 xs0.length c0] := (hx02.far (p := ⟨gx, 0, none⟩) n0 _).far (p := ⟨gx, 1, none⟩) n0 _
            have hxrS2 : Box ((w6.setCell ⟨gx, 0, none⟩ (.bool (decide (y2 < 0)))).setCell ⟨gx, 1, none⟩ (.slice D2 (digs y2.natAbs).length d2)) gr 27 #[.bool false, .slice none 0 0] := (hxr2.far (p := ⟨gx, 0, none⟩) n1 _).far (p := ⟨gx, 1, none⟩) n1 _
            have hS2 : Below w.heap.size w ((w6.setCell ⟨gx, 0, none⟩ (.bool (decide (y2 < 0)))).setCell ⟨gx, 1, none⟩ (.slice D2 (digs y2.natAbs).length d2)) := (h2.setCell hgx _).setCell hgx _
            have hodS2 : Hid (Own ((w6.setCell ⟨gx, 0, none⟩ (.bool (decide (y2 < 0)))).setCell ⟨gx, 1, none⟩ (.slice D2 (digs y2.natAbs).length d2)) w.heap.size (.slice D2 (digs y2.natAbs).length d2) (digs y2.natAbs)) := ((hod2.le (base' := w.heap.size) hS1.size).set_box hyx2 (by decide)).set_box (hyx2.set 0 _) (by decide)
            have hyf : Hid (y2 = num neg0 xs0 ^ (n / 2 ^ j) ∧ (digs y2.natAbs).length ≤ 400) := ⟨hy2.out, hf2⟩
            clear hb hod2 k8 k9 m8 m9
            go_wp2_with fail
            go_roundg j
            case measure => omega
            case rel => exact ⟨j, y2, D2, d2, by omega, rfl, by go_num, hyf, hodS2, hyxS2, hx0S2, hxrS2, hS2⟩
          · have hnz : Hid (¬ (digs z.natAbs).length ≤ 400) := by rw [hz.out]; exact pow_long (k := n / 2 ^ j) (Nat.div_le_self _ _) (by rw [← hy2.out]; exact hf2)
            go_wp2_with fail
            refine (cm2.out).mono ?_
            rintro e w6 hres
            obtain ⟨D2, d2, rfl, hod2, hb⟩ := res_gone hf2 hres
            clear hres
            have hyx2 := hyxS1.kept hb
            have hx02 := hx0S1.kept hb
            have hxr2 := hxrS1.kept hb
            have h2 := Below.step hS1 hb
            obtain ⟨ka2, kb2⟩ := hyx2.two
            have kc2 := hyx2.free 0
            have kd2 := hyx2.free 1
            have hyxS2 : Box ((w6.setCell ⟨gx, 0, none⟩ (.bool false)).setCell ⟨gx, 1, none⟩ (.slice D2 0 d2)) gx 27 #[.bool false, .slice D2 0 d2] := (hyx2.set 0 _).set 1 _
            have hx0S2 : Box ((w6.setCell ⟨gx, 0, none⟩ (.bool false)).setCell ⟨gx, 1, none⟩ (.slice D2 0 d2)) g0 27 #[.bool neg0, .slice A0 xs0.length c0] := (hx02.far (p := ⟨gx, 0, none⟩) n0 _).far (p := ⟨gx, 1, none⟩) n0 _
            have hxrS2 : Box ((w6.setCell ⟨gx, 0, none⟩ (.bool false)).setCell ⟨gx, 1, none⟩ (.slice D2 0 d2)) gr 27 #[.bool false, .slice none 0 0] := (hxr2.far (p := ⟨gx, 0, none⟩) n1 _).far (p := ⟨gx, 1, none⟩) n1 _
            have hS2 : Below w.heap.size w ((w6.setCell ⟨gx, 0, none⟩ (.bool false)).setCell ⟨gx, 1, none⟩ (.slice D2 0 d2)) := (h2.setCell hgx _).setCell hgx _
            clear hb hod2 k8 k9 m8 m9
            obtain ⟨k6, k7⟩ := hxrS2.two
            have f0 := hxrS2.free 0
            have f1 := hxrS2.free 1
            go_wp2_with fail
            refine bodyPost_ret (v := .tuple #[.agg #[.bool false, .slice none 0 0], .bool false]) (by simp [results, Try.results38, go_sem, k6, k7]) rfl ?_
            exact res_no hnz.out ⟨none, 0, rfl, World.ownsRow_nil _ _ _ _, (hS2.setCell hgr _).setCell hgr _⟩
        · have hbit : bits BinOp.and IntKind.i64 ((n : Int) / 2 ^ j) 1 = 0 := by rw [bit_and n j hn, show n / 2 ^ j % 2 = 0 from by omega]; rfl
          have hyf : Hid (y = num neg0 xs0 ^ (n / 2 ^ j) ∧ (digs y.natAbs).length ≤ 400) := ⟨by rw [hy.out, show n / 2 ^ j = 2 * (n / 2 ^ (j + 1)) from by omega], hf⟩
          replace hup := Lib.hid hup
          replace hbt := Lib.hid hbt
          go_wp2_with fail
          refine (cm.out).mono ?_
          rintro e w5 hres
          obtain ⟨D, d, rfl, hod, hb⟩ := res_back hf hres
          clear hres
          have hyx1 := hyx.kept hb
          have hx01 := hx0.kept hb
          have hxr1 := hxr.kept hb
          have h1 := Below.step h hb
          obtain ⟨ka1, kb1⟩ := hyx1.two
          have kc1 := hyx1.free 0
          have kd1 := hyx1.free 1
          have hyxS1 : Box ((w5.setCell ⟨gx, 0, none⟩ (.bool (decide (y < 0)))).setCell ⟨gx, 1, none⟩ (.slice D (digs y.natAbs).length d)) gx 27 #[.bool (decide (y < 0)), .slice D (digs y.natAbs).length d] := (hyx1.set 0 _).set 1 _
          have hx0S1 : Box ((w5.setCell ⟨gx, 0, none⟩ (.bool (decide (y < 0)))).setCell ⟨gx, 1, none⟩ (.slice D (digs y.natAbs).length d)) g0 27 #[.bool neg0, .slice A0 xs0.length c0] := (hx01.far (p := ⟨gx, 0, none⟩) n0 _).far (p := ⟨gx, 1, none⟩) n0 _
          have hxrS1 : Box ((w5.setCell ⟨gx, 0, none⟩ (.bool (decide (y < 0)))).setCell ⟨gx, 1, none⟩ (.slice D (digs y.natAbs).length d)) gr 27 #[.bool false, .slice none 0 0] := (hxr1.far (p := ⟨gx, 0, none⟩) n1 _).far (p := ⟨gx, 1, none⟩) n1 _
          have hS1 : Below w.heap.size w ((w5.setCell ⟨gx, 0, none⟩ (.bool (decide (y < 0)))).setCell ⟨gx, 1, none⟩ (.slice D (digs y.natAbs).length d)) := (h1.setCell hgx _).setCell hgx _
          have hodS1 : Hid (Own ((w5.setCell ⟨gx, 0, none⟩ (.bool (decide (y < 0)))).setCell ⟨gx, 1, none⟩ (.slice D (digs y.natAbs).length d)) w.heap.size (.slice D (digs y.natAbs).length d) (digs y.natAbs)) := ((hod.le (base' := w.heap.size) h.size).set_box hyx1 (by decide)).set_box (hyx1.set 0 _) (by decide)
          clear hb k0 k1 k2 k3 k6 k7 hod
          go_wp2_with fail
          go_roundg j
          case measure => omega
          case rel => exact ⟨j, y, D, d, by omega, rfl, by go_num, hyf, hodS1, hyxS1, hx0S1, hxrS1, hS1⟩
      · have hnz : Hid (¬ (digs z.natAbs).length ≤ 400) := by rw [hz.out]; exact pow_long (k := 2 * (n / 2 ^ (j + 1))) (by have := Nat.div_le_self n (2 ^ j); omega) (by rw [← hy.out]; exact hf)
        replace hup := Lib.hid hup
        go_wp2_with fail
        refine (cm.out).mono ?_
        rintro e w5 hres
        obtain ⟨D, d, rfl, hod, hb⟩ := res_gone hf hres
        clear hres
        have hyx1 := hyx.kept hb
        have hx01 := hx0.kept hb
        have hxr1 := hxr.kept hb
        have h1 := Below.step h hb
        obtain ⟨ka1, kb1⟩ := hyx1.two
        have kc1 := hyx1.free 0
        have kd1 := hyx1.free 1
        have hyxS1 : Box ((w5.setCell ⟨gx, 0, none⟩ (.bool false)).setCell ⟨gx, 1, none⟩ (.slice D 0 d)) gx 27 #[.bool false, .slice D 0 d] := (hyx1.set 0 _).set 1 _
        have hx0S1 : Box ((w5.setCell ⟨gx, 0, none⟩ (.bool false)).setCell ⟨gx, 1, none⟩ (.slice D 0 d)) g0 27 #[.bool neg0, .slice A0 xs0.length c0] := (hx01.far (p := ⟨gx, 0, none⟩) n0 _).far (p := ⟨gx, 1, none⟩) n0 _
        have hxrS1 : Box ((w5.setCell ⟨gx, 0, none⟩ (.bool false)).setCell ⟨gx, 1, none⟩ (.slice D 0 d)) gr 27 #[.bool false, .slice none 0 0] := (hxr1.far (p := ⟨gx, 0, none⟩) n1 _).far (p := ⟨gx, 1, none⟩) n1 _
        have hS1 : Below w.heap.size w ((w5.setCell ⟨gx, 0, none⟩ (.bool false)).setCell ⟨gx, 1, none⟩ (.slice D 0 d)) := (h1.setCell hgx _).setCell hgx _
        clear hb k0 k1 k2 k3 k6 k7 hod
        obtain ⟨k6, k7⟩ := hxrS1.two
        have f0 := hxrS1.free 0
        have f1 := hxrS1.free 1
        go_wp2_with fail
        refine bodyPost_ret (v := .tuple #[.agg #[.bool false, .slice none 0 0], .bool false]) (by simp [results, Try.results38, go_sem, k6, k7]) rfl ?_
        exact res_no hnz.out ⟨none, 0, rfl, World.ownsRow_nil _ _ _ _, (hS1.setCell hgr _).setCell hgr _⟩

theorem lawPowerOfWhole_any (neg0 : Bool) (A0 : Option Addr) (n0 c0 : Nat) (xs0 : List Int) (z1 : Int) (w : World) (hm0 : n0 ≤ 9223372036854775807) (hr0 : Rd w w.heap.size A0 n0 xs0) (_hz : -9223372036854775808 ≤ z1 ∧ z1 ≤ 9223372036854775807) :
    Calls Try.prog 12 #[.agg #[.bool neg0, .slice A0 n0 c0], .int .i64 z1] w fun e w' => e = .returned (.bool true) ∧ Below w.heap.size w w' := by
  by_cases hg0 : Good neg0 xs0
  · by_cases hlo : z1 < 0
    · exact lawPowerOfWhole_core neg0 A0 n0 c0 xs0 z1 w hm0 hr0 _ _ (by simp) _ (fun h0 A0 c0 w r0 _ => pwS_lo neg0 A0 c0 xs0 z1 w h0 r0 hg0 hlo) (fun h0 A0 c0 w r0 _ => pwI_lo neg0 A0 c0 xs0 z1 w h0 r0 hg0 hlo)
    · by_cases hhi : 64 < z1
      · exact lawPowerOfWhole_core neg0 A0 n0 c0 xs0 z1 w hm0 hr0 _ _ (by simp) _ (fun h0 A0 c0 w r0 _ => pwS_hi neg0 A0 c0 xs0 z1 w h0 r0 hg0 hhi) (fun h0 A0 c0 w r0 _ => pwI_hi neg0 A0 c0 xs0 z1 w h0 r0 hg0 hhi)
      · obtain ⟨n, rfl⟩ : ∃ n : Nat, z1 = n := ⟨z1.toNat, by omega⟩
        exact lawPowerOfWhole_core neg0 A0 n0 c0 xs0 n w hm0 hr0 _ _ (resDigs_len _) _ (fun h0 A0 c0 w r0 _ => pwS_yes neg0 A0 c0 xs0 n w h0 r0 hg0 (by omega) (num neg0 xs0 ^ n) rfl) (fun h0 A0 c0 w r0 _ => pwI_yes neg0 A0 c0 xs0 n w h0 r0 hg0 (by omega) (num neg0 xs0 ^ n) rfl)
  · exact lawPowerOfWhole_core neg0 A0 n0 c0 xs0 z1 w hm0 hr0 _ _ (by simp) _ (fun h0 A0 c0 w r0 _ => pwS_no neg0 A0 c0 xs0 z1 w h0 r0 hg0) (fun h0 A0 c0 w r0 _ => pwI_no neg0 A0 c0 xs0 z1 w h0 r0 hg0)
end Go.Proofs.Ytlkdelhmjjnnnaa
