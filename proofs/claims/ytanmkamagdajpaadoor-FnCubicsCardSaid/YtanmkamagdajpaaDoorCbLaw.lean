/- The walk of FnCubics (written by wip/gen/fncu.py). -/
import Derived.Test.YtanmkamagdajpaaDoorCbOk
import Derived.Test.YtanmkamagdajpaaDoorDrawCu3
import Derived.Deep.RegionHeld3
import Derived.Deep.DeepCutAuto
import Derived.Laws.StructEq
namespace Go.Proofs.YtanmkamagdajpaaDoor
open Go.RowKit Go.Joins

def EnvB (w : World) : Prop := Lim w ∧ Pow w
theorem EnvB.kept {w w' : World} (h : EnvB w) (hb : Below w.heap.size w w') : EnvB w' := ⟨h.1.kept hb, h.2.kept hb⟩
theorem neq_cubic (p q r s : Int) (w : World) : (binOp .neq 24 (.agg #[.int .i64 p, .int .i64 q, .int .i64 r, .int .i64 s]) (.agg #[.int .i64 p, .int .i64 q, .int .i64 r, .int .i64 s])).run Tryd.prog w = .ok (.bool false) w := by simp [go_sem]

set_option maxHeartbeats 16000000 in
set_option maxRecDepth 100000 in
theorem fnCubics_walk (A A' : Option Addr) (n c n' c' : Nat) (w : World) (hL : EnvB w) (hn : n ≤ 9223372036854775807) (hn' : n' ≤ 9223372036854775807) (hr : RdB w w.heap.size A n) (hr' : RdB w w.heap.size A' n') (hs : ¬ (1048576 : Int) < wrap64 ((n : Int) + n')) : Calls Tryd.prog 3 #[.slice A n c, .slice A' n' c'] w fun e w' => e = .returned (.bool true) ∧ Below w.heap.size w w' := by
  have h := Below.refl w.heap.size w
  replace hn := Lib.hid hn
  replace hn' := Lib.hid hn'
  obtain ⟨s, hsw⟩ : ∃ s, s = wrap64 ((n : Int) + n') := ⟨_, rfl⟩
  rw [← hsw] at hs
  have hsw' : wrap64 ((n : Int) + n') = s := hsw.symm
  clear hsw
  go_enter Tryd.func3, Tryd.ntmps3
  go_wp2_with fail
  refine (drawShiftCubic_any A n c _ hn.out hr).mono ?_
  rintro e w1 ⟨a0, b0, c0, d0, y, -, -, -, -, hy, rfl, hb⟩
  obtain ⟨sa, sb, sc, sd, ok, H1⟩ := shOk_any a0 b0 c0 d0 y
  replace H1 := Lib.hid H1
  replace h := Below.step h hb
  clear hb
  clear hr hsw' hs
  go_wp2_with fail
  have hA := below_alloc1 w1 (.cells #[.int .i64 a0, .int .i64 b0, .int .i64 c0, .int .i64 d0] 24)
  have hxf := Box.new w1 24 #[.int .i64 a0, .int .i64 b0, .int .i64 c0, .int .i64 d0]
  replace h := Below.step h hA
  clear hA
  generalize w1.alloc (.cells #[.int .i64 a0, .int .i64 b0, .int .i64 c0, .int .i64 d0] 24) = w2 at *
  generalize w1.heap.size = gf at hxf ⊢
  refine (H1.out.sI _).mono ?_
  rintro e w3 ⟨rfl, hb⟩
  replace h := Below.step h hb
  replace hxf := hxf.kept hb
  clear hb
  obtain ⟨kf0, kf1, kf2, kf3⟩ := hxf.four
  have lf := hxf.lt
  go_wp2_with fail
  have hA := below_alloc1 w3 (.cells #[.int .i64 sa, .int .i64 sb, .int .i64 sc, .int .i64 sd] 24)
  have hxs := Box.new w3 24 #[.int .i64 sa, .int .i64 sb, .int .i64 sc, .int .i64 sd]
  replace h := Below.step h hA
  replace hxf := hxf.kept hA
  clear hA kf0 kf1 kf2 kf3 lf
  generalize w3.alloc (.cells #[.int .i64 sa, .int .i64 sb, .int .i64 sc, .int .i64 sd] 24) = w4 at *
  generalize w3.heap.size = gs at hxs ⊢
  refine (H1.out.sS _).mono ?_
  rintro e w5 ⟨rfl, hb⟩
  replace h := Below.step h hb
  replace hxf := hxf.kept hb
  replace hxs := hxs.kept hb
  clear hb
  go_wp2_with fail
  have hA := below_alloc1 w5 (.cells #[.int .i64 sa, .int .i64 sb, .int .i64 sc, .int .i64 sd] 24)
  have hxu := Box.new w5 24 #[.int .i64 sa, .int .i64 sb, .int .i64 sc, .int .i64 sd]
  replace h := Below.step h hA
  replace hxf := hxf.kept hA
  replace hxs := hxs.kept hA
  clear hA
  generalize w5.alloc (.cells #[.int .i64 sa, .int .i64 sb, .int .i64 sc, .int .i64 sd] 24) = w6 at *
  generalize w5.heap.size = gu at hxu ⊢
  as_aux_lemma =>
    refine (drawContentOf_any A' n' c' _ hn'.out ((hr'.below h).more h.size)).mono ?_
    rintro e w7 ⟨a1, b1, c1, d1, -, -, -, -, rfl, hb⟩
    obtain ⟨m, ca, cb, cc, cd, one, ra, rb, rc, rd, three, T, H2⟩ := coOk_any a1 b1 c1 d1
    replace H2 := Lib.hid H2
    replace h := Below.step h hb
    replace hxf := hxf.kept hb
    replace hxs := hxs.kept hb
    replace hxu := hxu.kept hb
    clear hb
    go_wp2_with fail
    have hA := below_alloc1 w7 (.cells #[.int .i64 a1, .int .i64 b1, .int .i64 c1, .int .i64 d1] 24)
    have hxg := Box.new w7 24 #[.int .i64 a1, .int .i64 b1, .int .i64 c1, .int .i64 d1]
    replace h := Below.step h hA
    replace hxf := hxf.kept hA
    replace hxs := hxs.kept hA
    replace hxu := hxu.kept hA
    clear hA
    generalize w7.alloc (.cells #[.int .i64 a1, .int .i64 b1, .int .i64 c1, .int .i64 d1] 24) = w8 at *
    generalize w7.heap.size = gg at hxg ⊢
    refine (H2.out.cI _).mono ?_
    rintro e w9 ⟨rfl, hb⟩
    replace h := Below.step h hb
    replace hxf := hxf.kept hb
    replace hxs := hxs.kept hb
    replace hxu := hxu.kept hb
    replace hxg := hxg.kept hb
    clear hb
    obtain ⟨kg0, kg1, kg2, kg3⟩ := hxg.four
    have lg := hxg.lt
    go_wp2_with fail
    have hA := below_alloc1 w9 (.cells #[.int .i64 ca, .int .i64 cb, .int .i64 cc, .int .i64 cd] 24)
    have hxc := Box.new w9 24 #[.int .i64 ca, .int .i64 cb, .int .i64 cc, .int .i64 cd]
    replace h := Below.step h hA
    replace hxf := hxf.kept hA
    replace hxs := hxs.kept hA
    replace hxu := hxu.kept hA
    replace hxg := hxg.kept hA
    clear hA kg0 kg1 kg2 kg3 lg
    generalize w9.alloc (.cells #[.int .i64 ca, .int .i64 cb, .int .i64 cc, .int .i64 cd] 24) = w10 at *
    generalize w9.heap.size = gc at hxc ⊢
    refine (H2.out.cS _).mono ?_
    rintro e w11 ⟨rfl, hb⟩
    replace h := Below.step h hb
    replace hxf := hxf.kept hb
    replace hxs := hxs.kept hb
    replace hxu := hxu.kept hb
    replace hxg := hxg.kept hb
    replace hxc := hxc.kept hb
    clear hb
    obtain ⟨kg0, kg1, kg2, kg3⟩ := hxg.four
    have lg := hxg.lt
    go_wp2_with fail
    have hA := below_alloc1 w11 (.cells #[.int .i64 ca, .int .i64 cb, .int .i64 cc, .int .i64 cd] 24)
    have hxl := Box.new w11 24 #[.int .i64 ca, .int .i64 cb, .int .i64 cc, .int .i64 cd]
    replace h := Below.step h hA
    replace hxf := hxf.kept hA
    replace hxs := hxs.kept hA
    replace hxu := hxu.kept hA
    replace hxg := hxg.kept hA
    replace hxc := hxc.kept hA
    clear hA kg0 kg1 kg2 kg3 lg
    generalize w11.alloc (.cells #[.int .i64 ca, .int .i64 cb, .int .i64 cc, .int .i64 cd] 24) = w12 at *
    generalize w11.heap.size = gl at hxl ⊢
    as_aux_lemma =>
      refine (H2.out.rI _).mono ?_
      rintro e w13 ⟨rfl, hb⟩
      replace h := Below.step h hb
      replace hxf := hxf.kept hb
      replace hxs := hxs.kept hb
      replace hxu := hxu.kept hb
      replace hxg := hxg.kept hb
      replace hxc := hxc.kept hb
      replace hxl := hxl.kept hb
      clear hb
      obtain ⟨kg0, kg1, kg2, kg3⟩ := hxg.four
      have lg := hxg.lt
      go_wp2_with fail
      have hA := below_alloc1 w13 (.cells #[.int .i64 ra, .int .i64 rb, .int .i64 rc, .int .i64 rd] 24)
      have hxr := Box.new w13 24 #[.int .i64 ra, .int .i64 rb, .int .i64 rc, .int .i64 rd]
      replace h := Below.step h hA
      replace hxf := hxf.kept hA
      replace hxs := hxs.kept hA
      replace hxu := hxu.kept hA
      replace hxg := hxg.kept hA
      replace hxc := hxc.kept hA
      replace hxl := hxl.kept hA
      clear hA kg0 kg1 kg2 kg3 lg
      generalize w13.alloc (.cells #[.int .i64 ra, .int .i64 rb, .int .i64 rc, .int .i64 rd] 24) = w14 at *
      generalize w13.heap.size = gr at hxr ⊢
      refine (H2.out.rS _).mono ?_
      rintro e w15 ⟨rfl, hb⟩
      replace h := Below.step h hb
      replace hxf := hxf.kept hb
      replace hxs := hxs.kept hb
      replace hxu := hxu.kept hb
      replace hxg := hxg.kept hb
      replace hxc := hxc.kept hb
      replace hxl := hxl.kept hb
      replace hxr := hxr.kept hb
      clear hb
      obtain ⟨kg0, kg1, kg2, kg3⟩ := hxg.four
      have lg := hxg.lt
      go_wp2_with fail
      have hA := below_alloc1 w15 (.cells #[.int .i64 ra, .int .i64 rb, .int .i64 rc, .int .i64 rd] 24)
      have hxv := Box.new w15 24 #[.int .i64 ra, .int .i64 rb, .int .i64 rc, .int .i64 rd]
      replace h := Below.step h hA
      replace hxf := hxf.kept hA
      replace hxs := hxs.kept hA
      replace hxu := hxu.kept hA
      replace hxg := hxg.kept hA
      replace hxc := hxc.kept hA
      replace hxl := hxl.kept hA
      replace hxr := hxr.kept hA
      clear hA kg0 kg1 kg2 kg3 lg
      generalize w15.alloc (.cells #[.int .i64 ra, .int .i64 rb, .int .i64 rc, .int .i64 rd] 24) = w16 at *
      generalize w15.heap.size = gv at hxv ⊢
      as_aux_lemma =>
        refine (H2.out.tI _ (hL.kept h).2).mono ?_
        rintro e w17 ⟨rfl, hb⟩
        replace h := Below.step h hb
        replace hxf := hxf.kept hb
        replace hxs := hxs.kept hb
        replace hxu := hxu.kept hb
        replace hxg := hxg.kept hb
        replace hxc := hxc.kept hb
        replace hxl := hxl.kept hb
        replace hxr := hxr.kept hb
        replace hxv := hxv.kept hb
        clear hb
        obtain ⟨kg0, kg1, kg2, kg3⟩ := hxg.four
        have lg := hxg.lt
        go_wp2_with fail
        refine (H2.out.tS _).mono ?_
        rintro e w18 ⟨rfl, hb⟩
        replace h := Below.step h hb
        replace hxf := hxf.kept hb
        replace hxs := hxs.kept hb
        replace hxu := hxu.kept hb
        replace hxg := hxg.kept hb
        replace hxc := hxc.kept hb
        replace hxl := hxl.kept hb
        replace hxr := hxr.kept hb
        replace hxv := hxv.kept hb
        clear hb kg0 kg1 kg2 kg3 lg
        go_wp2_with fail
        refine (drawCubicAtFraction_any A' n' c' _ hn'.out ((hr'.below h).more h.size)).mono ?_
        rintro e w19 ⟨a2, b2, c2, d2, p, q, -, -, -, -, -, -, rfl, hb⟩
        obtain ⟨S, seven, H3⟩ := fqOk_any a2 b2 c2 d2 p q
        replace H3 := Lib.hid H3
        replace h := Below.step h hb
        replace hxf := hxf.kept hb
        replace hxs := hxs.kept hb
        replace hxu := hxu.kept hb
        replace hxg := hxg.kept hb
        replace hxc := hxc.kept hb
        replace hxl := hxl.kept hb
        replace hxr := hxr.kept hb
        replace hxv := hxv.kept hb
        clear hb
        go_wp2_with fail
        have hxh := Box.new w19 24 #[.int .i64 a2, .int .i64 b2, .int .i64 c2, .int .i64 d2]
        have hA1 := below_alloc1 w19 (.cells #[.int .i64 a2, .int .i64 b2, .int .i64 c2, .int .i64 d2] 24)
        have hxx := Box.new (w19.alloc (.cells #[.int .i64 a2, .int .i64 b2, .int .i64 c2, .int .i64 d2] 24)) 36 #[.int .i64 p, .int .i64 q]
        have hA2 := below_alloc1 (w19.alloc (.cells #[.int .i64 a2, .int .i64 b2, .int .i64 c2, .int .i64 d2] 24)) (.cells #[.int .i64 p, .int .i64 q] 36)
        rw [show (w19.alloc (.cells #[.int .i64 a2, .int .i64 b2, .int .i64 c2, .int .i64 d2] 24)).heap.size = w19.heap.size + 1 from by simp] at hxx
        replace hxh := hxh.kept hA2
        have hA := Below.step hA1 hA2
        clear hA1 hA2
        replace h := Below.step h hA
        replace hxf := hxf.kept hA
        replace hxs := hxs.kept hA
        replace hxu := hxu.kept hA
        replace hxg := hxg.kept hA
        replace hxc := hxc.kept hA
        replace hxl := hxl.kept hA
        replace hxr := hxr.kept hA
        replace hxv := hxv.kept hA
        clear hA
        generalize (w19.alloc (.cells #[.int .i64 a2, .int .i64 b2, .int .i64 c2, .int .i64 d2] 24)).alloc (.cells #[.int .i64 p, .int .i64 q] 36) = w20 at *
        generalize w19.heap.size + 1 = gx at hxx ⊢
        generalize w19.heap.size = gh at hxh ⊢
        as_aux_lemma =>
          refine (H3.out.fI _ (hL.kept h).1).mono ?_
          rintro e w21 ⟨rfl, hb⟩
          replace h := Below.step h hb
          replace hxf := hxf.kept hb
          replace hxs := hxs.kept hb
          replace hxu := hxu.kept hb
          replace hxg := hxg.kept hb
          replace hxc := hxc.kept hb
          replace hxl := hxl.kept hb
          replace hxr := hxr.kept hb
          replace hxv := hxv.kept hb
          replace hxh := hxh.kept hb
          replace hxx := hxx.kept hb
          clear hb
          obtain ⟨kh0, kh1, kh2, kh3⟩ := hxh.four
          have lh := hxh.lt
          obtain ⟨kx0, kx1⟩ := hxx.two
          have lx := hxx.lt
          go_wp2_with fail
          refine (H3.out.fS _).mono ?_
          rintro e w22 ⟨rfl, hb⟩
          replace h := Below.step h hb
          replace hxf := hxf.kept hb
          replace hxs := hxs.kept hb
          replace hxu := hxu.kept hb
          replace hxg := hxg.kept hb
          replace hxc := hxc.kept hb
          replace hxl := hxl.kept hb
          replace hxr := hxr.kept hb
          replace hxv := hxv.kept hb
          replace hxh := hxh.kept hb
          replace hxx := hxx.kept hb
          clear hb kh0 kh1 kh2 kh3 lh kx0 kx1 lx
          go_wp2_with fail
          refine (drawCubicAt_any A' n' c' _ hn'.out ((hr'.below h).more h.size)).mono ?_
          rintro e w23 ⟨a3, b3, c3, d3, z, -, -, -, -, -, rfl, hb⟩
          obtain ⟨V, nine, H4⟩ := atOk_any a3 b3 c3 d3 z
          replace H4 := Lib.hid H4
          replace h := Below.step h hb
          replace hxf := hxf.kept hb
          replace hxs := hxs.kept hb
          replace hxu := hxu.kept hb
          replace hxg := hxg.kept hb
          replace hxc := hxc.kept hb
          replace hxl := hxl.kept hb
          replace hxr := hxr.kept hb
          replace hxv := hxv.kept hb
          replace hxh := hxh.kept hb
          replace hxx := hxx.kept hb
          clear hb
          clear hr'
          go_wp2_with fail
          have hA := below_alloc1 w23 (.cells #[.int .i64 a3, .int .i64 b3, .int .i64 c3, .int .i64 d3] 24)
          have hxp := Box.new w23 24 #[.int .i64 a3, .int .i64 b3, .int .i64 c3, .int .i64 d3]
          replace h := Below.step h hA
          replace hxf := hxf.kept hA
          replace hxs := hxs.kept hA
          replace hxu := hxu.kept hA
          replace hxg := hxg.kept hA
          replace hxc := hxc.kept hA
          replace hxl := hxl.kept hA
          replace hxr := hxr.kept hA
          replace hxv := hxv.kept hA
          replace hxh := hxh.kept hA
          replace hxx := hxx.kept hA
          clear hA
          generalize w23.alloc (.cells #[.int .i64 a3, .int .i64 b3, .int .i64 c3, .int .i64 d3] 24) = w24 at *
          generalize w23.heap.size = gp at hxp ⊢
          as_aux_lemma =>
            refine (H4.out.vI _).mono ?_
            rintro e w25 ⟨rfl, hb⟩
            replace h := Below.step h hb
            replace hxf := hxf.kept hb
            replace hxs := hxs.kept hb
            replace hxu := hxu.kept hb
            replace hxg := hxg.kept hb
            replace hxc := hxc.kept hb
            replace hxl := hxl.kept hb
            replace hxr := hxr.kept hb
            replace hxv := hxv.kept hb
            replace hxh := hxh.kept hb
            replace hxx := hxx.kept hb
            replace hxp := hxp.kept hb
            clear hb
            obtain ⟨kp0, kp1, kp2, kp3⟩ := hxp.four
            have lp := hxp.lt
            go_wp2_with fail
            refine (H4.out.vS _).mono ?_
            rintro e w26 ⟨rfl, hb⟩
            replace h := Below.step h hb
            replace hxf := hxf.kept hb
            replace hxs := hxs.kept hb
            replace hxu := hxu.kept hb
            replace hxg := hxg.kept hb
            replace hxc := hxc.kept hb
            replace hxl := hxl.kept hb
            replace hxr := hxr.kept hb
            replace hxv := hxv.kept hb
            replace hxh := hxh.kept hb
            replace hxx := hxx.kept hb
            replace hxp := hxp.kept hb
            clear hb kp0 kp1 kp2 kp3 lp
            go_upto_region 19 with fail
            go_cut [225] (fun s225 wx => s225 = .bool false ∧ Below w.heap.size w wx ∧ Box wx gf 24 #[.int .i64 a0, .int .i64 b0, .int .i64 c0, .int .i64 d0] ∧ Box wx gs 24 #[.int .i64 sa, .int .i64 sb, .int .i64 sc, .int .i64 sd] ∧ Box wx gg 24 #[.int .i64 a1, .int .i64 b1, .int .i64 c1, .int .i64 d1] ∧ Box wx gc 24 #[.int .i64 ca, .int .i64 cb, .int .i64 cc, .int .i64 cd] ∧ Box wx gl 24 #[.int .i64 ca, .int .i64 cb, .int .i64 cc, .int .i64 cd] ∧ Box wx gr 24 #[.int .i64 ra, .int .i64 rb, .int .i64 rc, .int .i64 rd] ∧ Box wx gh 24 #[.int .i64 a2, .int .i64 b2, .int .i64 c2, .int .i64 d2] ∧ Box wx gx 36 #[.int .i64 p, .int .i64 q])
            case first =>
              as_aux_lemma =>
                have e_ok : (ok != ok) = false := by simp
                have e_one : (one != one) = false := by simp
                have e_three : (three != three) = false := by simp
                have e_seven : (seven != seven) = false := by simp
                have e_nine : (nine != nine) = false := by simp
                have e_m : (m != m) = false := by simp
                have e_S : (S != S) = false := by simp
                have e_V : (V != V) = false := by simp
                have e_T : (T.toList != T.toList) = false := by simp
                have q1 := fun W => neq_cubic sa sb sc sd W
                have q2 := fun W => neq_cubic ca cb cc cd W
                have q3 := fun W => neq_cubic ra rb rc rd W
                obtain ⟨ks0, ks1, ks2, ks3⟩ := hxs.four
                have ls := hxs.lt
                obtain ⟨ku0, ku1, ku2, ku3⟩ := hxu.four
                have lu := hxu.lt
                obtain ⟨kc0, kc1, kc2, kc3⟩ := hxc.four
                have lc := hxc.lt
                obtain ⟨kl0, kl1, kl2, kl3⟩ := hxl.four
                have ll := hxl.lt
                obtain ⟨kr0, kr1, kr2, kr3⟩ := hxr.four
                have lr := hxr.lt
                obtain ⟨kv0, kv1, kv2, kv3⟩ := hxv.four
                have lv := hxv.lt
                obtain ⟨kg0, kg1, kg2, kg3⟩ := hxg.four
                have lg := hxg.lt
                go_wp2_with fail
                refine (H2.out.isI _).mono ?_
                rintro e w27 ⟨rfl, hb⟩
                replace h := Below.step h hb
                replace hxf := hxf.kept hb
                replace hxs := hxs.kept hb
                replace hxu := hxu.kept hb
                replace hxg := hxg.kept hb
                replace hxc := hxc.kept hb
                replace hxl := hxl.kept hb
                replace hxr := hxr.kept hb
                replace hxv := hxv.kept hb
                replace hxh := hxh.kept hb
                replace hxx := hxx.kept hb
                replace hxp := hxp.kept hb
                clear hb ks0 ks1 ks2 ks3 ls ku0 ku1 ku2 ku3 lu kc0 kc1 kc2 kc3 lc kl0 kl1 kl2 kl3 ll kr0 kr1 kr2 kr3 lr kv0 kv1 kv2 kv3 lv kg0 kg1 kg2 kg3 lg
                have him := H2.out.imp
                clear H1 H2 H3 H4
                cases three with
                | false =>
                  go_wp2_with fail
                  go_meet
                  case rel => exact ⟨rfl, h, hxf, hxs, hxg, hxc, hxl, hxr, hxh, hxx⟩
                | true =>
                  obtain rfl := him rfl
                  go_wp2_with fail
                  go_meet
                  case rel => exact ⟨rfl, h, hxf, hxs, hxg, hxc, hxl, hxr, hxh, hxx⟩
            clear h hxf hxs hxu hxg hxc hxl hxr hxv hxh hxx hxp
            obtain ⟨rfl, h, hxf, hxs, hxg, hxc, hxl, hxr, hxh, hxx⟩ := hcut
            rename World => wc1
            as_aux_lemma =>
              go_upto_if 226 with fail
              go_cut [] (fun wx => Below w.heap.size w wx ∧ Box wx gg 24 #[.int .i64 a1, .int .i64 b1, .int .i64 c1, .int .i64 d1] ∧ Box wx gc 24 #[.int .i64 ca, .int .i64 cb, .int .i64 cc, .int .i64 cd] ∧ Box wx gl 24 #[.int .i64 ca, .int .i64 cb, .int .i64 cc, .int .i64 cd] ∧ Box wx gr 24 #[.int .i64 ra, .int .i64 rb, .int .i64 rc, .int .i64 rd] ∧ Box wx gh 24 #[.int .i64 a2, .int .i64 b2, .int .i64 c2, .int .i64 d2] ∧ Box wx gx 36 #[.int .i64 p, .int .i64 q])
              case first =>
                as_aux_lemma =>
                  cases ok with
                  | false =>
                    go_wp2_with fail
                    go_meet
                    case rel => exact ⟨h, hxg, hxc, hxl, hxr, hxh, hxx⟩
                  | true =>
                    have hy2 := H1.out.yb rfl
                    have q0 := fun W => neq_cubic a0 b0 c0 d0 W
                    obtain ⟨ks0, ks1, ks2, ks3⟩ := hxs.four
                    have ls := hxs.lt
                    obtain ⟨kf0, kf1, kf2, kf3⟩ := hxf.four
                    have lf := hxf.lt
                    go_wp2_with fail
                    refine (H1.out.back rfl _).mono ?_
                    rintro e w27 ⟨rfl, hb⟩
                    replace h := Below.step h hb
                    replace hxf := hxf.kept hb
                    replace hxs := hxs.kept hb
                    replace hxg := hxg.kept hb
                    replace hxc := hxc.kept hb
                    replace hxl := hxl.kept hb
                    replace hxr := hxr.kept hb
                    replace hxh := hxh.kept hb
                    replace hxx := hxx.kept hb
                    clear hb ks0 ks1 ks2 ks3 ls kf0 kf1 kf2 kf3 lf
                    obtain ⟨ks0, ks1, ks2, ks3⟩ := hxs.four
                    have ls := hxs.lt
                    obtain ⟨kf0, kf1, kf2, kf3⟩ := hxf.four
                    have lf := hxf.lt
                    go_wp2_with fail
                    have hA := below_alloc1 w27 (.cells #[.int .i64 a0, .int .i64 b0, .int .i64 c0, .int .i64 d0] 24)
                    have hxk := Box.new w27 24 #[.int .i64 a0, .int .i64 b0, .int .i64 c0, .int .i64 d0]
                    replace h := Below.step h hA
                    replace hxf := hxf.kept hA
                    replace hxs := hxs.kept hA
                    replace hxg := hxg.kept hA
                    replace hxc := hxc.kept hA
                    replace hxl := hxl.kept hA
                    replace hxr := hxr.kept hA
                    replace hxh := hxh.kept hA
                    replace hxx := hxx.kept hA
                    clear hA ks0 ks1 ks2 ks3 ls kf0 kf1 kf2 kf3 lf
                    generalize w27.alloc (.cells #[.int .i64 a0, .int .i64 b0, .int .i64 c0, .int .i64 d0] 24) = w28 at *
                    generalize w27.heap.size = gk at hxk ⊢
                    clear hxk q0
                    go_loopw [40] (fun v wr => ∃ k : Nat, k ≤ 7 ∧ v = .int .i64 (-3 + (k : Int)) ∧ Below w.heap.size w wr ∧ Box wr gf 24 #[.int .i64 a0, .int .i64 b0, .int .i64 c0, .int .i64 d0] ∧ Box wr gs 24 #[.int .i64 sa, .int .i64 sb, .int .i64 sc, .int .i64 sd] ∧ Box wr gg 24 #[.int .i64 a1, .int .i64 b1, .int .i64 c1, .int .i64 d1] ∧ Box wr gc 24 #[.int .i64 ca, .int .i64 cb, .int .i64 cc, .int .i64 cd] ∧ Box wr gl 24 #[.int .i64 ca, .int .i64 cb, .int .i64 cc, .int .i64 cd] ∧ Box wr gr 24 #[.int .i64 ra, .int .i64 rb, .int .i64 rc, .int .i64 rd] ∧ Box wr gh 24 #[.int .i64 a2, .int .i64 b2, .int .i64 c2, .int .i64 d2] ∧ Box wr gx 36 #[.int .i64 p, .int .i64 q]) (fun v _ => (4 - intOf v).toNat)
                    case atStart => exact ⟨0, by omega, rfl, h, hxf, hxs, hxg, hxc, hxl, hxr, hxh, hxx⟩
                    case round =>
                      clear h hxf hxs hxg hxc hxl hxr hxh hxx
                      obtain ⟨k, hk, rfl, h, hxf, hxs, hxg, hxc, hxl, hxr, hxh, hxx⟩ := hrel
                      by_cases hlt : k < 7
                      · obtain ⟨V', v1, v2, v3⟩ := H1.out.at_ rfl (-3 + (k : Int)) (by omega) (by omega)
                        have e_V : (V' != V') = false := by simp
                        replace v1 := Lib.hid v1
                        replace v2 := Lib.hid v2
                        replace v3 := Lib.hid v3
                        obtain ⟨ks0, ks1, ks2, ks3⟩ := hxs.four
                        have ls := hxs.lt
                        obtain ⟨kf0, kf1, kf2, kf3⟩ := hxf.four
                        have lf := hxf.lt
                        go_wp2_with fail
                        refine (v1.out _).mono ?_
                        rintro e w29 ⟨rfl, hb⟩
                        replace h := Below.step h hb
                        replace hxf := hxf.kept hb
                        replace hxs := hxs.kept hb
                        replace hxg := hxg.kept hb
                        replace hxc := hxc.kept hb
                        replace hxl := hxl.kept hb
                        replace hxr := hxr.kept hb
                        replace hxh := hxh.kept hb
                        replace hxx := hxx.kept hb
                        clear hb ks0 ks1 ks2 ks3 ls kf0 kf1 kf2 kf3 lf
                        obtain ⟨ks0, ks1, ks2, ks3⟩ := hxs.four
                        have ls := hxs.lt
                        obtain ⟨kf0, kf1, kf2, kf3⟩ := hxf.four
                        have lf := hxf.lt
                        go_wp2_with fail
                        refine (v2.out _).mono ?_
                        rintro e w30 ⟨rfl, hb⟩
                        replace h := Below.step h hb
                        replace hxf := hxf.kept hb
                        replace hxs := hxs.kept hb
                        replace hxg := hxg.kept hb
                        replace hxc := hxc.kept hb
                        replace hxl := hxl.kept hb
                        replace hxr := hxr.kept hb
                        replace hxh := hxh.kept hb
                        replace hxx := hxx.kept hb
                        clear hb ks0 ks1 ks2 ks3 ls kf0 kf1 kf2 kf3 lf
                        obtain ⟨ks0, ks1, ks2, ks3⟩ := hxs.four
                        have ls := hxs.lt
                        obtain ⟨kf0, kf1, kf2, kf3⟩ := hxf.four
                        have lf := hxf.lt
                        go_wp2_with fail
                        refine (v3.out _).mono ?_
                        rintro e w31 ⟨rfl, hb⟩
                        replace h := Below.step h hb
                        replace hxf := hxf.kept hb
                        replace hxs := hxs.kept hb
                        replace hxg := hxg.kept hb
                        replace hxc := hxc.kept hb
                        replace hxl := hxl.kept hb
                        replace hxr := hxr.kept hb
                        replace hxh := hxh.kept hb
                        replace hxx := hxx.kept hb
                        clear hb ks0 ks1 ks2 ks3 ls kf0 kf1 kf2 kf3 lf
                        obtain ⟨ks0, ks1, ks2, ks3⟩ := hxs.four
                        have ls := hxs.lt
                        obtain ⟨kf0, kf1, kf2, kf3⟩ := hxf.four
                        have lf := hxf.lt
                        go_wp2_with fail
                        clear ks0 ks1 ks2 ks3 ls kf0 kf1 kf2 kf3 lf
                        go_roundw
                        case rel => exact ⟨k + 1, by omega, by go_num, h, hxf, hxs, hxg, hxc, hxl, hxr, hxh, hxx⟩
                        case measure => simp [intOf]; omega
                      · obtain rfl : k = 7 := by omega
                        clear hlt
                        go_wp2_with fail
                        go_meet
                        case rel => exact ⟨h, hxg, hxc, hxl, hxr, hxh, hxx⟩
              clear h hxf hxs hxg hxc hxl hxr hxh hxx
              obtain ⟨h, hxg, hxc, hxl, hxr, hxh, hxx⟩ := hcut
              rename World => wc2
              as_aux_lemma =>
                go_upto_if 287 with fail
                go_cut [] (fun wx => Below w.heap.size w wx ∧ Box wx gg 24 #[.int .i64 a1, .int .i64 b1, .int .i64 c1, .int .i64 d1] ∧ Box wx gr 24 #[.int .i64 ra, .int .i64 rb, .int .i64 rc, .int .i64 rd] ∧ Box wx gh 24 #[.int .i64 a2, .int .i64 b2, .int .i64 c2, .int .i64 d2] ∧ Box wx gx 36 #[.int .i64 p, .int .i64 q])
                case first =>
                  as_aux_lemma =>
                    cases one with
                    | false =>
                      go_wp2_with fail
                      go_meet
                      case rel => exact ⟨h, hxg, hxr, hxh, hxx⟩
                    | true =>
                      have e_n : ¬ m < 1 := by have := H2.out.n1 rfl; omega
                      obtain ⟨eA, bA⟩ := H2.out.eA rfl
                      obtain ⟨eD, bD⟩ := H2.out.eD rfl
                      have e_A : (ca * m != a1) = false := by rw [eA]; simp
                      have e_D : (cd * m != d1) = false := by rw [eD]; simp
                      rw [← eA] at bA
                      rw [← eD] at bD
                      clear eA eD
                      obtain ⟨kc0, kc1, kc2, kc3⟩ := hxc.four
                      have lc := hxc.lt
                      go_wp2_with fail
                      refine (H2.out.again rfl _).mono ?_
                      rintro e w27 ⟨rfl, hb⟩
                      replace h := Below.step h hb
                      replace hxg := hxg.kept hb
                      replace hxc := hxc.kept hb
                      replace hxl := hxl.kept hb
                      replace hxr := hxr.kept hb
                      replace hxh := hxh.kept hb
                      replace hxx := hxx.kept hb
                      clear hb kc0 kc1 kc2 kc3 lc
                      go_upto_region 35 with fail
                      have hA := below_alloc1 w27 (.cells #[.int .i64 ca, .int .i64 cb, .int .i64 cc, .int .i64 cd] 24)
                      have hxk := Box.new w27 24 #[.int .i64 ca, .int .i64 cb, .int .i64 cc, .int .i64 cd]
                      replace h := Below.step h hA
                      replace hxg := hxg.kept hA
                      replace hxc := hxc.kept hA
                      replace hxl := hxl.kept hA
                      replace hxr := hxr.kept hA
                      replace hxh := hxh.kept hA
                      replace hxx := hxx.kept hA
                      clear hA
                      generalize w27.alloc (.cells #[.int .i64 ca, .int .i64 cb, .int .i64 cc, .int .i64 cd] 24) = w28 at *
                      generalize w27.heap.size = gk at hxk ⊢
                      obtain ⟨kl0, kl1, kl2, kl3⟩ := hxl.four
                      have ll := hxl.lt
                      obtain ⟨kg0, kg1, kg2, kg3⟩ := hxg.four
                      have lg := hxg.lt
                      go_wp2_with fail
                      go_meet
                      case rel => exact ⟨h, hxg, hxr, hxh, hxx⟩
                clear h hxg hxc hxl hxr hxh hxx
                obtain ⟨h, hxg, hxr, hxh, hxx⟩ := hcut
                rename World => wc3
                as_aux_lemma =>
                  go_upto_if 322 with fail
                  go_cut [] (fun wx => Below w.heap.size w wx ∧ Box wx gh 24 #[.int .i64 a2, .int .i64 b2, .int .i64 c2, .int .i64 d2] ∧ Box wx gx 36 #[.int .i64 p, .int .i64 q])
                  case first =>
                    as_aux_lemma =>
                      cases three with
                      | false =>
                        go_wp2_with fail
                        go_meet
                        case rel => exact ⟨h, hxh, hxx⟩
                      | true =>
                        have q0 := fun W => neq_cubic a1 b1 c1 d1 W
                        obtain ⟨kr0, kr1, kr2, kr3⟩ := hxr.four
                        have lr := hxr.lt
                        go_wp2_with fail
                        refine (H2.out.back rfl _).mono ?_
                        rintro e w27 ⟨rfl, hb⟩
                        replace h := Below.step h hb
                        replace hxg := hxg.kept hb
                        replace hxr := hxr.kept hb
                        replace hxh := hxh.kept hb
                        replace hxx := hxx.kept hb
                        clear hb kr0 kr1 kr2 kr3 lr
                        go_upto_region 39 with fail
                        have hA := below_alloc1 w27 (.cells #[.int .i64 a1, .int .i64 b1, .int .i64 c1, .int .i64 d1] 24)
                        have hxk := Box.new w27 24 #[.int .i64 a1, .int .i64 b1, .int .i64 c1, .int .i64 d1]
                        replace h := Below.step h hA
                        replace hxg := hxg.kept hA
                        replace hxr := hxr.kept hA
                        replace hxh := hxh.kept hA
                        replace hxx := hxx.kept hA
                        clear hA
                        generalize w27.alloc (.cells #[.int .i64 a1, .int .i64 b1, .int .i64 c1, .int .i64 d1] 24) = w28 at *
                        generalize w27.heap.size = gk at hxk ⊢
                        obtain ⟨kk0, kk1, kk2, kk3⟩ := hxk.four
                        have lk := hxk.lt
                        obtain ⟨kg0, kg1, kg2, kg3⟩ := hxg.four
                        have lg := hxg.lt
                        go_wp2_with fail
                        go_meet
                        case rel => exact ⟨h, hxh, hxx⟩
                  clear h hxg hxr hxh hxx
                  obtain ⟨h, hxh, hxx⟩ := hcut
                  rename World => wc4
                  as_aux_lemma =>
                    clear H1 H2 H4
                    cases seven with
                    | false =>
                      go_wp2_with fail
                      go_ret
                      exact ⟨rfl, h⟩
                    | true =>
                      obtain ⟨kx0, kx1⟩ := hxx.two
                      have lx := hxx.lt
                      obtain ⟨kh0, kh1, kh2, kh3⟩ := hxh.four
                      have lh := hxh.lt
                      by_cases hq : q = 1
                      · subst hq
                        obtain ⟨V', v1, v2⟩ := H3.out.at_ rfl rfl
                        replace v1 := Lib.hid v1
                        clear H3
                        rcases v2 with ⟨e1, rfl⟩ | ⟨e1, rfl⟩ | ⟨rfl, rfl⟩
                        · skip
                          have e2 : ¬ V' < 0 := by omega
                          go_wp2_with fail
                          refine (v1.out _).mono ?_
                          rintro e w27 ⟨rfl, hb⟩
                          replace h := Below.step h hb
                          replace hxh := hxh.kept hb
                          replace hxx := hxx.kept hb
                          clear hb kx0 kx1 lx kh0 kh1 kh2 kh3 lh
                          go_wp2_with fail
                          go_ret
                          exact ⟨rfl, h⟩
                        · skip
                          have e2 : ¬ V' > 0 := by omega
                          go_wp2_with fail
                          refine (v1.out _).mono ?_
                          rintro e w27 ⟨rfl, hb⟩
                          replace h := Below.step h hb
                          replace hxh := hxh.kept hb
                          replace hxx := hxx.kept hb
                          clear hb kx0 kx1 lx kh0 kh1 kh2 kh3 lh
                          go_wp2_with fail
                          go_ret
                          exact ⟨rfl, h⟩
                        · skip
                          go_wp2_with fail
                          refine (v1.out _).mono ?_
                          rintro e w27 ⟨rfl, hb⟩
                          replace h := Below.step h hb
                          replace hxh := hxh.kept hb
                          replace hxx := hxx.kept hb
                          clear hb kx0 kx1 lx kh0 kh1 kh2 kh3 lh
                          go_wp2_with fail
                          go_ret
                          exact ⟨rfl, h⟩
                      · have e1 : (q == 1) = false := beq_eq_false_iff_ne.2 hq
                        clear hq
                        go_wp2_with fail
                        go_ret
                        exact ⟨rfl, h⟩
end Go.Proofs.YtanmkamagdajpaaDoor
