/- FnFractionParts: the law's walk over what its calls hand back (written by wip/gen/fpparts.py). -/
import Derived.Test.YtchglkcfolannabDoorFpOk
import Derived.Test.YtchglkcfolannabDoorFpPar
import Derived.Deep.RegionHeld3
import Derived.Deep.DeepCutAuto
namespace Go.Proofs.YtchglkcfolannabDoor
open Go.RowKit Go.Joins

set_option maxHeartbeats 16000000 in
set_option maxRecDepth 100000 in
theorem fnParts_walk (A A' : Option Addr) (n c n' c' : Nat) (w : World) (hL : EnvC w) (hn : n ≤ 9223372036854775807) (hn' : n' ≤ 9223372036854775807) (hr : RdB w w.heap.size A n) (hr' : RdB w w.heap.size A' n') (hs : ¬ (1048576 : Int) < wrap64 ((n : Int) + n'))
    (hD : ∀ W : World, RdB W W.heap.size A' n' → Calls Tryd.prog 14 #[.slice A' n' c'] W fun e w' => ∃ x0 x1 y0 y1 : Int, e = .returned (.tuple #[.agg #[.int .i64 x0, .int .i64 x1], .agg #[.int .i64 y0, .int .i64 y1]]) ∧ Below W.heap.size W w') :
    Calls Tryd.prog 3 #[.slice A n c, .slice A' n' c'] w fun e w' => e = .returned (.bool true) ∧ Below w.heap.size w w' := by
  have h := Below.refl w.heap.size w
  replace hD := Lib.hid hD
  replace hn := Lib.hid hn
  replace hn' := Lib.hid hn'
  obtain ⟨s, hsw⟩ : ∃ s, s = wrap64 ((n : Int) + n') := ⟨_, rfl⟩
  rw [← hsw] at hs
  have hsw' : wrap64 ((n : Int) + n') = s := hsw.symm
  clear hsw
  go_enter Tryd.func3, Tryd.ntmps3
  go_wp2_with fail
  refine (drawFloor_any A n c _ hn.out hr).mono ?_
  rintro e w1 ⟨p, q, hp, hq, rfl, hb⟩
  obtain ⟨fl, rp, rq, ok, tx, ht, H⟩ := parts_any p q
  replace H := Lib.hid H
  replace h := Below.step h hb
  clear hb hr hp hq
  go_wp2_with fail
  have hA := below_alloc1 w1 (.cells #[.int .i64 p, .int .i64 q] 24)
  have hxa := Box.new w1 24 #[.int .i64 p, .int .i64 q]
  replace h := Below.step h hA
  clear hA
  generalize w1.alloc (.cells #[.int .i64 p, .int .i64 q] 24) = w2 at *
  generalize w1.heap.size = ga at hxa ⊢
  obtain ⟨kaa, kba⟩ := hxa.two
  have kla := hxa.lt
  refine (H.out.fI _ (hL.kept h).1.1).mono ?_
  rintro e w3 ⟨rfl, hb⟩
  replace h := Below.step h hb
  replace hxa := hxa.kept hb
  clear hb kaa kba kla
  obtain ⟨kaa, kba⟩ := hxa.two
  have kla := hxa.lt
  go_wp2_with fail
  have hA := below_alloc1 w3 (.cells #[.int .i64 rp, .int .i64 rq] 24)
  have hxr := Box.new w3 24 #[.int .i64 rp, .int .i64 rq]
  replace h := Below.step h hA
  replace hxa := hxa.kept hA
  clear hA kaa kba kla
  generalize w3.alloc (.cells #[.int .i64 rp, .int .i64 rq] 24) = w4 at *
  generalize w3.heap.size = gr at hxr ⊢
  obtain ⟨kaa, kba⟩ := hxa.two
  have kla := hxa.lt
  refine (H.out.fS _).mono ?_
  rintro e w5 ⟨rfl, hb⟩
  replace h := Below.step h hb
  replace hxa := hxa.kept hb
  replace hxr := hxr.kept hb
  clear hb kaa kba kla
  obtain ⟨kaa, kba⟩ := hxa.two
  have kla := hxa.lt
  go_wp2_with fail
  have hA := below_alloc1 w5 (.cells #[.int .i64 rp, .int .i64 rq] 24)
  have hxz := Box.new w5 24 #[.int .i64 rp, .int .i64 rq]
  replace h := Below.step h hA
  replace hxa := hxa.kept hA
  replace hxr := hxr.kept hA
  clear hA kaa kba kla
  generalize w5.alloc (.cells #[.int .i64 rp, .int .i64 rq] 24) = w6 at *
  generalize w5.heap.size = gz at hxz ⊢
  obtain ⟨kaa, kba⟩ := hxa.two
  have kla := hxa.lt
  refine (H.out.tI _ (hL.kept h)).mono ?_
  rintro e w7 ⟨rfl, hb⟩
  replace h := Below.step h hb
  replace hxa := hxa.kept hb
  replace hxr := hxr.kept hb
  replace hxz := hxz.kept hb
  clear hb kaa kba kla
  obtain ⟨kaa, kba⟩ := hxa.two
  have kla := hxa.lt
  go_wp2_with fail
  refine (H.out.tS _).mono ?_
  rintro e w8 ⟨rfl, hb⟩
  replace h := Below.step h hb
  replace hxa := hxa.kept hb
  replace hxr := hxr.kept hb
  replace hxz := hxz.kept hb
  clear hb kaa kba kla
  obtain ⟨kaa, kba⟩ := hxa.two
  have kla := hxa.lt
  go_wp2_with fail
  refine (H.out.hI _ (hL.kept h).1.1).mono ?_
  rintro e w9 ⟨rfl, hb⟩
  replace h := Below.step h hb
  replace hxa := hxa.kept hb
  replace hxr := hxr.kept hb
  replace hxz := hxz.kept hb
  clear hb kaa kba kla
  obtain ⟨kaa, kba⟩ := hxa.two
  have kla := hxa.lt
  go_wp2_with fail
  refine (H.out.hS _).mono ?_
  rintro e w10 ⟨rfl, hb⟩
  replace h := Below.step h hb
  replace hxa := hxa.kept hb
  replace hxr := hxr.kept hb
  replace hxz := hxz.kept hb
  clear hb kaa kba kla
  obtain ⟨kaa, kba⟩ := hxa.two
  have kla := hxa.lt
  go_wp2_with fail
  refine (drawRoot_any A' n' c' _ hn'.out ((hr'.below h).more h.size)).mono ?_
  rintro e w11 ⟨b0, b1, hb0, hb1, rfl, hb⟩
  obtain ⟨sp, sq, five, K⟩ := root_any b0 b1
  replace K := Lib.hid K
  replace h := Below.step h hb
  replace hxa := hxa.kept hb
  replace hxr := hxr.kept hb
  replace hxz := hxz.kept hb
  clear hb kaa kba kla
  clear hb0 hb1
  go_wp2_with fail
  have hA := below_alloc1 w11 (.cells #[.int .i64 b0, .int .i64 b1] 24)
  have hxb := Box.new w11 24 #[.int .i64 b0, .int .i64 b1]
  replace h := Below.step h hA
  replace hxa := hxa.kept hA
  replace hxr := hxr.kept hA
  replace hxz := hxz.kept hA
  clear hA
  generalize w11.alloc (.cells #[.int .i64 b0, .int .i64 b1] 24) = w12 at *
  generalize w11.heap.size = gb at hxb ⊢
  obtain ⟨kab, kbb⟩ := hxb.two
  have klb := hxb.lt
  refine (K.out.rI _ (hL.kept h).1.1).mono ?_
  rintro e w13 ⟨rfl, hb⟩
  replace h := Below.step h hb
  replace hxa := hxa.kept hb
  replace hxr := hxr.kept hb
  replace hxz := hxz.kept hb
  replace hxb := hxb.kept hb
  clear hb kab kbb klb
  obtain ⟨kab, kbb⟩ := hxb.two
  have klb := hxb.lt
  go_wp2_with fail
  have hA := below_alloc1 w13 (.cells #[.int .i64 sp, .int .i64 sq] 24)
  have hxs := Box.new w13 24 #[.int .i64 sp, .int .i64 sq]
  replace h := Below.step h hA
  replace hxa := hxa.kept hA
  replace hxr := hxr.kept hA
  replace hxz := hxz.kept hA
  replace hxb := hxb.kept hA
  clear hA kab kbb klb
  generalize w13.alloc (.cells #[.int .i64 sp, .int .i64 sq] 24) = w14 at *
  generalize w13.heap.size = gs at hxs ⊢
  obtain ⟨kab, kbb⟩ := hxb.two
  have klb := hxb.lt
  refine (K.out.rS _).mono ?_
  rintro e w15 ⟨rfl, hb⟩
  replace h := Below.step h hb
  replace hxa := hxa.kept hb
  replace hxr := hxr.kept hb
  replace hxz := hxz.kept hb
  replace hxb := hxb.kept hb
  replace hxs := hxs.kept hb
  clear hb kab kbb klb
  go_wp2_with fail
  have hA := below_alloc1 w15 (.cells #[.int .i64 sp, .int .i64 sq] 24)
  have hxu := Box.new w15 24 #[.int .i64 sp, .int .i64 sq]
  replace h := Below.step h hA
  replace hxa := hxa.kept hA
  replace hxr := hxr.kept hA
  replace hxz := hxz.kept hA
  replace hxb := hxb.kept hA
  replace hxs := hxs.kept hA
  clear hA
  generalize w15.alloc (.cells #[.int .i64 sp, .int .i64 sq] 24) = w16 at *
  generalize w15.heap.size = gu at hxu ⊢
  refine (hD.out _ ((hr'.below h).more h.size)).mono ?_
  rintro e w17 ⟨x0, x1, y0, y1, rfl, hb⟩
  obtain ⟨ip, iq, seven, N⟩ := simp_any x0 x1 y0 y1
  replace N := Lib.hid N
  replace h := Below.step h hb
  replace hxa := hxa.kept hb
  replace hxr := hxr.kept hb
  replace hxz := hxz.kept hb
  replace hxb := hxb.kept hb
  replace hxs := hxs.kept hb
  replace hxu := hxu.kept hb
  clear hb
  go_wp2_with fail
  have hxx := Box.new w17 24 #[.int .i64 x0, .int .i64 x1]
  have hA1 := below_alloc1 w17 (.cells #[.int .i64 x0, .int .i64 x1] 24)
  have hxy := Box.new (w17.alloc (.cells #[.int .i64 x0, .int .i64 x1] 24)) 24 #[.int .i64 y0, .int .i64 y1]
  have hA2 := below_alloc1 (w17.alloc (.cells #[.int .i64 x0, .int .i64 x1] 24)) (.cells #[.int .i64 y0, .int .i64 y1] 24)
  rw [show (w17.alloc (.cells #[.int .i64 x0, .int .i64 x1] 24)).heap.size = w17.heap.size + 1 from by simp] at hxy
  replace h := Below.step (Below.step h hA1) hA2
  replace hxx := hxx.kept hA2
  replace hxa := (hxa.kept hA1).kept hA2
  replace hxr := (hxr.kept hA1).kept hA2
  replace hxz := (hxz.kept hA1).kept hA2
  replace hxb := (hxb.kept hA1).kept hA2
  replace hxs := (hxs.kept hA1).kept hA2
  replace hxu := (hxu.kept hA1).kept hA2
  clear hA1 hA2
  generalize (w17.alloc (.cells #[.int .i64 x0, .int .i64 x1] 24)).alloc (.cells #[.int .i64 y0, .int .i64 y1] 24) = w18 at *
  generalize w17.heap.size + 1 = gy at hxy ⊢
  generalize w17.heap.size = gx at hxx ⊢
  obtain ⟨kax, kbx⟩ := hxx.two
  have klx := hxx.lt
  obtain ⟨kay, kby⟩ := hxy.two
  have kly := hxy.lt
  go_wp2_with fail
  refine (N.out.sI _ (hL.kept h).1.1).mono ?_
  rintro e w19 ⟨rfl, hb⟩
  replace h := Below.step h hb
  replace hxa := hxa.kept hb
  replace hxr := hxr.kept hb
  replace hxz := hxz.kept hb
  replace hxb := hxb.kept hb
  replace hxs := hxs.kept hb
  replace hxu := hxu.kept hb
  replace hxx := hxx.kept hb
  replace hxy := hxy.kept hb
  clear hb kax kbx klx kay kby kly
  obtain ⟨kax, kbx⟩ := hxx.two
  have klx := hxx.lt
  obtain ⟨kay, kby⟩ := hxy.two
  have kly := hxy.lt
  go_wp2_with fail
  have hA := below_alloc1 w19 (.cells #[.int .i64 ip, .int .i64 iq] 24)
  have hxi := Box.new w19 24 #[.int .i64 ip, .int .i64 iq]
  replace h := Below.step h hA
  replace hxa := hxa.kept hA
  replace hxr := hxr.kept hA
  replace hxz := hxz.kept hA
  replace hxb := hxb.kept hA
  replace hxs := hxs.kept hA
  replace hxu := hxu.kept hA
  replace hxx := hxx.kept hA
  replace hxy := hxy.kept hA
  clear hA kax kbx klx kay kby kly
  generalize w19.alloc (.cells #[.int .i64 ip, .int .i64 iq] 24) = w20 at *
  generalize w19.heap.size = gi at hxi ⊢
  obtain ⟨kax, kbx⟩ := hxx.two
  have klx := hxx.lt
  obtain ⟨kay, kby⟩ := hxy.two
  have kly := hxy.lt
  refine (N.out.sS _).mono ?_
  rintro e w21 ⟨rfl, hb⟩
  replace h := Below.step h hb
  replace hxa := hxa.kept hb
  replace hxr := hxr.kept hb
  replace hxz := hxz.kept hb
  replace hxb := hxb.kept hb
  replace hxs := hxs.kept hb
  replace hxu := hxu.kept hb
  replace hxx := hxx.kept hb
  replace hxy := hxy.kept hb
  replace hxi := hxi.kept hb
  clear hb kax kbx klx kay kby kly
  go_wp2_with fail
  have hA := below_alloc1 w21 (.cells #[.int .i64 ip, .int .i64 iq] 24)
  have hxv := Box.new w21 24 #[.int .i64 ip, .int .i64 iq]
  replace h := Below.step h hA
  replace hxa := hxa.kept hA
  replace hxr := hxr.kept hA
  replace hxz := hxz.kept hA
  replace hxb := hxb.kept hA
  replace hxs := hxs.kept hA
  replace hxu := hxu.kept hA
  replace hxx := hxx.kept hA
  replace hxy := hxy.kept hA
  replace hxi := hxi.kept hA
  clear hA
  generalize w21.alloc (.cells #[.int .i64 ip, .int .i64 iq] 24) = w22 at *
  generalize w21.heap.size = gv at hxv ⊢
  refine (drawParse_any A' n' c' _ hn'.out ((hr'.below h).more h.size)).mono ?_
  rintro e w23 ⟨us, hus, rfl, hb⟩
  obtain ⟨dp, dq, nine, R⟩ := read_any us hus
  replace R := Lib.hid R
  replace h := Below.step h hb
  replace hxa := hxa.kept hb
  replace hxr := hxr.kept hb
  replace hxz := hxz.kept hb
  replace hxb := hxb.kept hb
  replace hxs := hxs.kept hb
  replace hxu := hxu.kept hb
  replace hxx := hxx.kept hb
  replace hxy := hxy.kept hb
  replace hxi := hxi.kept hb
  replace hxv := hxv.kept hb
  clear hb
  clear hus hr'
  go_wp2_with fail
  refine (R.out.pI _ (hL.kept h)).mono ?_
  rintro e w24 ⟨rfl, hb⟩
  replace h := Below.step h hb
  replace hxa := hxa.kept hb
  replace hxr := hxr.kept hb
  replace hxz := hxz.kept hb
  replace hxb := hxb.kept hb
  replace hxs := hxs.kept hb
  replace hxu := hxu.kept hb
  replace hxx := hxx.kept hb
  replace hxy := hxy.kept hb
  replace hxi := hxi.kept hb
  replace hxv := hxv.kept hb
  clear hb
  go_wp2_with fail
  have hA := below_alloc1 w24 (.cells #[.int .i64 dp, .int .i64 dq] 24)
  have hxd := Box.new w24 24 #[.int .i64 dp, .int .i64 dq]
  replace h := Below.step h hA
  replace hxa := hxa.kept hA
  replace hxr := hxr.kept hA
  replace hxz := hxz.kept hA
  replace hxb := hxb.kept hA
  replace hxs := hxs.kept hA
  replace hxu := hxu.kept hA
  replace hxx := hxx.kept hA
  replace hxy := hxy.kept hA
  replace hxi := hxi.kept hA
  replace hxv := hxv.kept hA
  clear hA
  generalize w24.alloc (.cells #[.int .i64 dp, .int .i64 dq] 24) = w25 at *
  generalize w24.heap.size = gd at hxd ⊢
  refine (R.out.pS _).mono ?_
  rintro e w26 ⟨rfl, hb⟩
  replace h := Below.step h hb
  replace hxa := hxa.kept hb
  replace hxr := hxr.kept hb
  replace hxz := hxz.kept hb
  replace hxb := hxb.kept hb
  replace hxs := hxs.kept hb
  replace hxu := hxu.kept hb
  replace hxx := hxx.kept hb
  replace hxy := hxy.kept hb
  replace hxi := hxi.kept hb
  replace hxv := hxv.kept hb
  replace hxd := hxd.kept hb
  clear hb
  clear R
  have e_ok : (ok != ok) = false := by simp
  have e_five : (five != five) = false := by simp
  have e_seven : (seven != seven) = false := by simp
  have e_nine : (nine != nine) = false := by simp
  have e_fl : (fl != fl) = false := by simp
  have e_rp : (rp != rp) = false := by simp
  have e_rq : (rq != rq) = false := by simp
  have e_ht : (ht != ht) = false := by simp
  have e_sp : (sp != sp) = false := by simp
  have e_sq : (sq != sq) = false := by simp
  have e_ip : (ip != ip) = false := by simp
  have e_iq : (iq != iq) = false := by simp
  have e_dp : (dp != dp) = false := by simp
  have e_dq : (dq != dq) = false := by simp
  obtain ⟨kaa, kba⟩ := hxa.two
  have kla := hxa.lt
  obtain ⟨kar, kbr⟩ := hxr.two
  have klr := hxr.lt
  obtain ⟨kaz, kbz⟩ := hxz.two
  have klz := hxz.lt
  obtain ⟨kas, kbs⟩ := hxs.two
  have kls := hxs.lt
  obtain ⟨kau, kbu⟩ := hxu.two
  have klu := hxu.lt
  obtain ⟨kai, kbi⟩ := hxi.two
  have kli := hxi.lt
  obtain ⟨kav, kbv⟩ := hxv.two
  have klv := hxv.lt
  obtain ⟨kad, kbd⟩ := hxd.two
  have kld := hxd.lt
  go_upto_region 19 with fail
  have hA := below_alloc1 w26 (.cells #[.int .i64 dp, .int .i64 dq] 24)
  have hxt := Box.new w26 24 #[.int .i64 dp, .int .i64 dq]
  replace h := Below.step h hA
  replace hxa := hxa.kept hA
  replace hxr := hxr.kept hA
  replace hxz := hxz.kept hA
  replace hxb := hxb.kept hA
  replace hxs := hxs.kept hA
  replace hxu := hxu.kept hA
  replace hxx := hxx.kept hA
  replace hxy := hxy.kept hA
  replace hxi := hxi.kept hA
  replace hxv := hxv.kept hA
  replace hxd := hxd.kept hA
  clear hA kaa kba kla kar kbr klr kaz kbz klz kas kbs kls kau kbu klu kai kbi kli kav kbv klv kad kbd kld
  generalize w26.alloc (.cells #[.int .i64 dp, .int .i64 dq] 24) = w27 at *
  generalize w26.heap.size = gt at hxt ⊢
  obtain ⟨kaa, kba⟩ := hxa.two
  have kla := hxa.lt
  obtain ⟨kar, kbr⟩ := hxr.two
  have klr := hxr.lt
  obtain ⟨kaz, kbz⟩ := hxz.two
  have klz := hxz.lt
  obtain ⟨kas, kbs⟩ := hxs.two
  have kls := hxs.lt
  obtain ⟨kau, kbu⟩ := hxu.two
  have klu := hxu.lt
  obtain ⟨kai, kbi⟩ := hxi.two
  have kli := hxi.lt
  obtain ⟨kav, kbv⟩ := hxv.two
  have klv := hxv.lt
  obtain ⟨kad, kbd⟩ := hxd.two
  have kld := hxd.lt
  obtain ⟨kat, kbt⟩ := hxt.two
  have klt := hxt.lt
  go_wp2_with fail
  refine (H.out.isI _ (hL.kept h).1.1).mono ?_
  rintro e w28 ⟨rfl, hb⟩
  replace h := Below.step h hb
  replace hxa := hxa.kept hb
  replace hxr := hxr.kept hb
  replace hxz := hxz.kept hb
  replace hxb := hxb.kept hb
  replace hxs := hxs.kept hb
  replace hxu := hxu.kept hb
  replace hxx := hxx.kept hb
  replace hxy := hxy.kept hb
  replace hxi := hxi.kept hb
  replace hxv := hxv.kept hb
  replace hxd := hxd.kept hb
  replace hxt := hxt.kept hb
  clear hb kaa kba kla kar kbr klr kaz kbz klz kas kbs kls kau kbu klu kai kbi kli kav kbv klv kad kbd kld kat kbt klt
  obtain ⟨kaa, kba⟩ := hxa.two
  have kla := hxa.lt
  go_upto_if 202 with fail
  clear e_ok e_five e_seven e_nine e_fl e_rp e_rq e_ht e_sp e_sq e_ip e_iq e_dp e_dq
  clear kaa kba kla
  go_cut [] (fun wx => Below w.heap.size w wx ∧ Box wx ga 24 #[.int .i64 p, .int .i64 q] ∧ Box wx gr 24 #[.int .i64 rp, .int .i64 rq] ∧ Box wx gz 24 #[.int .i64 rp, .int .i64 rq] ∧ Box wx gx 24 #[.int .i64 x0, .int .i64 x1] ∧ Box wx gy 24 #[.int .i64 y0, .int .i64 y1] ∧ Box wx gv 24 #[.int .i64 ip, .int .i64 iq])
  case first =>
    as_aux_lemma =>
      cases five with
      | false =>
        go_wp2_with fail
        go_meet
        case rel => exact ⟨h, hxa, hxr, hxz, hxx, hxy, hxv⟩
      | true =>
        have e_b0 : (b0 != b0) = false := by simp
        have e_b1 : (b1 != b1) = false := by simp
        have e_pos := K.out.pos rfl
        have e_pos2 : decide (sp < 0) = false := decide_eq_false (by omega)
        obtain ⟨kas, kbs⟩ := hxs.two
        have kls := hxs.lt
        go_wp2_with fail
        refine (K.out.times rfl _ (hL.kept h).1.1).mono ?_
        rintro e w29 ⟨rfl, hb⟩
        replace h := Below.step h hb
        replace hxa := hxa.kept hb
        replace hxr := hxr.kept hb
        replace hxz := hxz.kept hb
        replace hxb := hxb.kept hb
        replace hxs := hxs.kept hb
        replace hxu := hxu.kept hb
        replace hxx := hxx.kept hb
        replace hxy := hxy.kept hb
        replace hxi := hxi.kept hb
        replace hxv := hxv.kept hb
        replace hxd := hxd.kept hb
        replace hxt := hxt.kept hb
        clear hb kas kbs kls
        obtain ⟨kab, kbb⟩ := hxb.two
        have klb := hxb.lt
        obtain ⟨kau, kbu⟩ := hxu.two
        have klu := hxu.lt
        go_wp2_with fail
        have hA := below_alloc1 w29 (.cells #[.int .i64 b0, .int .i64 b1] 24)
        have hxk := Box.new w29 24 #[.int .i64 b0, .int .i64 b1]
        replace h := Below.step h hA
        replace hxa := hxa.kept hA
        replace hxr := hxr.kept hA
        replace hxz := hxz.kept hA
        replace hxb := hxb.kept hA
        replace hxs := hxs.kept hA
        replace hxu := hxu.kept hA
        replace hxx := hxx.kept hA
        replace hxy := hxy.kept hA
        replace hxi := hxi.kept hA
        replace hxv := hxv.kept hA
        replace hxd := hxd.kept hA
        replace hxt := hxt.kept hA
        clear hA kab kbb klb kau kbu klu
        generalize w29.alloc (.cells #[.int .i64 b0, .int .i64 b1] 24) = w30 at *
        generalize w29.heap.size = gk at hxk ⊢
        obtain ⟨kab, kbb⟩ := hxb.two
        have klb := hxb.lt
        obtain ⟨kau, kbu⟩ := hxu.two
        have klu := hxu.lt
        obtain ⟨kak, kbk⟩ := hxk.two
        have klk := hxk.lt
        go_wp2_with fail
        go_meet
        case rel => exact ⟨h, hxa, hxr, hxz, hxx, hxy, hxv⟩
  case rest =>
    clear h hxa hxr hxz hxb hxs hxu hxx hxy hxi hxv hxd hxt
    obtain ⟨h, hxa, hxr, hxz, hxx, hxy, hxv⟩ := hcut
    rename World => wd
    as_aux_lemma =>
      clear K
      go_upto_if 221 with fail
      go_cut [] (fun wx => Below w.heap.size w wx ∧ Box wx ga 24 #[.int .i64 p, .int .i64 q] ∧ Box wx gr 24 #[.int .i64 rp, .int .i64 rq] ∧ Box wx gz 24 #[.int .i64 rp, .int .i64 rq])
      case first =>
        as_aux_lemma =>
          cases seven with
          | false =>
            go_wp2_with fail
            go_meet
            case rel => exact ⟨h, hxa, hxr, hxz⟩
          | true =>
            obtain ⟨d1, d2, d3⟩ := N.out.den rfl
            have e_d1 : decide (1000 < iq) = false := decide_eq_false (by omega)
            have e_d2 : decide (x1 < iq) = false := decide_eq_false (by omega)
            have e_d3 : decide (y1 < iq) = false := decide_eq_false (by omega)
            obtain ⟨kax, kbx⟩ := hxx.two
            have klx := hxx.lt
            obtain ⟨kav, kbv⟩ := hxv.two
            have klv := hxv.lt
            go_wp2_with fail
            refine (N.out.low rfl _).mono ?_
            rintro e w31 ⟨rfl, hb⟩
            replace h := Below.step h hb
            replace hxa := hxa.kept hb
            replace hxr := hxr.kept hb
            replace hxz := hxz.kept hb
            replace hxx := hxx.kept hb
            replace hxy := hxy.kept hb
            replace hxv := hxv.kept hb
            clear hb kax kbx klx kav kbv klv
            obtain ⟨kax, kbx⟩ := hxx.two
            have klx := hxx.lt
            obtain ⟨kay, kby⟩ := hxy.two
            have kly := hxy.lt
            obtain ⟨kav, kbv⟩ := hxv.two
            have klv := hxv.lt
            go_wp2_with fail
            refine (N.out.high rfl _).mono ?_
            rintro e w32 ⟨rfl, hb⟩
            replace h := Below.step h hb
            replace hxa := hxa.kept hb
            replace hxr := hxr.kept hb
            replace hxz := hxz.kept hb
            replace hxx := hxx.kept hb
            replace hxy := hxy.kept hb
            replace hxv := hxv.kept hb
            clear hb kax kbx klx kay kby kly kav kbv klv
            obtain ⟨kax, kbx⟩ := hxx.two
            have klx := hxx.lt
            obtain ⟨kay, kby⟩ := hxy.two
            have kly := hxy.lt
            obtain ⟨kav, kbv⟩ := hxv.two
            have klv := hxv.lt
            go_wp2_with fail
            go_meet
            case rel => exact ⟨h, hxa, hxr, hxz⟩
      case rest =>
        clear h hxa hxr hxz hxx hxy hxv
        obtain ⟨h, hxa, hxr, hxz⟩ := hcut
        rename World => we
        as_aux_lemma =>
          clear N
          cases ok with
          | false =>
            go_wp2_with fail
            go_ret
            exact ⟨rfl, h⟩
          | true =>
            obtain ⟨f1, f2, f3⟩ := H.out.rest rfl
            have e_f1 : decide (0 ≤ rp) = true := decide_eq_true f1
            have e_f2 : decide (rp < rq) = true := decide_eq_true f2
            have e_f3 : decide (q ≤ ht) = true := decide_eq_true f3
            have e_p : (p == p) = true := by simp
            have e_q : (q == q) = true := by simp
            go_wp2_with fail
            refine (H.out.back rfl _ (hL.kept h)).mono ?_
            rintro e w33 ⟨rfl, hb⟩
            replace h := Below.step h hb
            replace hxa := hxa.kept hb
            replace hxr := hxr.kept hb
            replace hxz := hxz.kept hb
            clear hb
            obtain ⟨kar, kbr⟩ := hxr.two
            have klr := hxr.lt
            go_wp2_with fail
            have hA := below_alloc1 w33 (.cells #[.int .i64 p, .int .i64 q] 24)
            have hxk := Box.new w33 24 #[.int .i64 p, .int .i64 q]
            replace h := Below.step h hA
            replace hxa := hxa.kept hA
            replace hxr := hxr.kept hA
            replace hxz := hxz.kept hA
            clear hA kar kbr klr
            generalize w33.alloc (.cells #[.int .i64 p, .int .i64 q] 24) = w34 at *
            generalize w33.heap.size = gk at hxk ⊢
            refine (H.out.sum rfl _ (hL.kept h).1.1).mono ?_
            rintro e w35 ⟨rfl, hb⟩
            replace h := Below.step h hb
            replace hxa := hxa.kept hb
            replace hxr := hxr.kept hb
            replace hxz := hxz.kept hb
            replace hxk := hxk.kept hb
            clear hb
            obtain ⟨kaa, kba⟩ := hxa.two
            have kla := hxa.lt
            obtain ⟨kaz, kbz⟩ := hxz.two
            have klz := hxz.lt
            obtain ⟨kak, kbk⟩ := hxk.two
            have klk := hxk.lt
            go_wp2_with fail
            go_ret
            exact ⟨rfl, Below.step h (below_alloc1 _ _)⟩
end Go.Proofs.YtchglkcfolannabDoor
