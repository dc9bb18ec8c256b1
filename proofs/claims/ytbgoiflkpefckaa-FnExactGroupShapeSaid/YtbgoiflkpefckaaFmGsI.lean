/- GroupShape of the program (written by wip/gen/fmgs.py). -/
import Derived.Test.YtbgoiflkpefckaaFmCo
import Derived.Test.YtbgoiflkpefckaaFmKey
import Derived.Deep.RegionHeld3
import Derived.Deep.DeepCutAuto
namespace Go.Proofs.Ytbgoiflkpefckaa
open Go.RowKit Go.Joins

open Go.Maps

set_option maxHeartbeats 1000000 in
set_option maxRecDepth 100000 in
theorem gsI_no (a b q : Int) (w : World) (g : ¬ Gd a b q 199) : Calls Try.prog 38 #[.agg #[.int .i64 a, .int .i64 b], .int .i64 q] w (GivesIIB w 0 0 false) := by
  have c1 := fun W => curveMod_no a b q 199 W g
  rw [show ((199 : Nat) : Int) = 199 from rfl] at c1
  replace c1 := Lib.hid c1
  clear g
  have h := Below.refl w.heap.size w
  have hA := below_alloc1 w (.cells #[.int .i64 a, .int .i64 b] 26)
  have hx0 := Box.new w 26 #[.int .i64 a, .int .i64 b]
  replace h := Below.step h hA
  clear hA
  obtain ⟨k00, k01⟩ := hx0.two
  have l0 := hx0.lt
  go_enter Try.func38, Try.ntmps38
  go_wp2_with fail
  refine (c1.out _).mono ?_
  rintro e w1 ⟨rfl, hb⟩
  replace h := Below.step h hb
  replace hx0 := hx0.kept hb
  clear hb k00 k01 l0
  obtain ⟨k00, k01⟩ := hx0.two
  have l0 := hx0.lt
  go_wp2_with fail
  go_ret3
  exact ⟨rfl, Below.step h (below_alloc1 _ _)⟩


set_option maxHeartbeats 4000000 in
set_option maxRecDepth 100000 in
theorem gsI_yes {a b : Int} {p : Nat} (G : FG a b p) (hp : p ≤ 199) (w : World) : Calls Try.prog 38 #[.agg #[.int .i64 a, .int .i64 b], .int .i64 (p : Int)] w (GivesIIB w ((((plist a b p p).length / omax a p (plist a b p p) : Nat)) : Int) (omax a p (plist a b p p)) true) := by
  have c1 := fun W => curveMod_yes a b p 199 W G hp
  rw [show ((199 : Nat) : Int) = 199 from rfl] at c1
  replace c1 := Lib.hid c1
  have c2 := fun W => points_any G W
  have h9 := G.le
  have hpl := plist_len a b p p
  have hpp := Nat.mul_le_mul hp hp
  have hon : ∀ k, k < (plist a b p p).length → FOn a b p ((plist a b p p)[k]?.getD none) := fun k h => plist_at h
  have hOX := omax_le (a := a) (p := p) (B := 39602) (by omega)
  have hom : ∀ k, omax a p ((plist a b p p).take k) ≤ 39602 := fun k => hOX _ fun s hs => by have h1 := (G.ordF_is (plist_on p (Nat.le_refl _) s (List.mem_of_mem_take hs))).2; omega
  obtain ⟨N, hN⟩ : ∃ N, N = (plist a b p p).length := ⟨_, rfl⟩
  have hN6 : N ≤ 1000000 := by omega
  have hq : ((plist a b p p).length : Int).tdiv (omax a p (plist a b p p)) = ((((plist a b p p).length / omax a p (plist a b p p) : Nat)) : Int) := (Int.ofNat_tdiv _ _).symm
  have hone := omax_one a p (plist a b p p)
  have cm := fun (u : FP) (hu : FOn a b p u) W => mults_any G u (ordF a p u) W hu (G.ordF_is hu).1 (by have := (G.ordF_is hu).2; omega)
  have hml : ∀ (u : FP), FOn a b p u → ordF a p u ≤ 39602 ∧ (mulL a p u (ordF a p u)).length = ordF a p u ∧ ∀ j, j < (mulL a p u (ordF a p u)).length → FOn a b p ((mulL a p u (ordF a p u))[j]?.getD none) ∧ ordF a p ((mulL a p u (ordF a p u))[j]?.getD none) ≤ ordF a p u := by
    intro u hu
    obtain ⟨h1, h2⟩ := G.ordF_is hu
    refine ⟨by omega, mulL_len _ _ _ _, fun j hj => ?_⟩
    rw [List.getElem?_eq_getElem hj]
    obtain ⟨i, _, _, e⟩ := mulL_mem (List.getElem_mem hj)
    show FOn a b p ((mulL a p u (ordF a p u))[j]) ∧ ordF a p ((mulL a p u (ordF a p u))[j]) ≤ ordF a p u
    rw [e]
    exact ⟨G.mul_on hu i, FOrd.mult G hu h1 (G.ordF_is (G.mul_on hu i)).1⟩
  generalize plist a b p p = L at *
  replace c2 := Lib.hid c2
  replace hon := Lib.hid hon
  replace hom := Lib.hid hom
  replace hq := Lib.hid hq
  replace hone := Lib.hid hone
  replace cm := Lib.hid cm
  replace hml := Lib.hid hml
  clear hpl hpp hOX G
  have hmm := @run_makeMap Try.prog
  have h := Below.refl w.heap.size w
  have hA := below_alloc1 w (.cells #[.int .i64 a, .int .i64 b] 26)
  have hx0 := Box.new w 26 #[.int .i64 a, .int .i64 b]
  replace h := Below.step h hA
  clear hA
  obtain ⟨k00, k01⟩ := hx0.two
  have l0 := hx0.lt
  go_enter Try.func38, Try.ntmps38
  go_wp2_with fail
  refine (c1.out _).mono ?_
  rintro e w1 ⟨rfl, hb⟩
  replace h := Below.step h hb
  replace hx0 := hx0.kept hb
  clear hb k00 k01 l0
  obtain ⟨k00, k01⟩ := hx0.two
  have l0 := hx0.lt
  go_wp2_with fail
  have hA := below_alloc1 w1 (.cells #[.int .i64 (rs p a : Int), .int .i64 (rs p b : Int), .int .i64 (p : Int)] 62)
  have hxf := Box.new w1 62 #[.int .i64 (rs p a : Int), .int .i64 (rs p b : Int), .int .i64 (p : Int)]
  replace h := Below.step h hA
  replace hx0 := hx0.kept hA
  clear hA k00 k01 l0
  generalize w1.alloc (.cells #[.int .i64 (rs p a : Int), .int .i64 (rs p b : Int), .int .i64 (p : Int)] 62) = w2 at *
  generalize w1.heap.size = gf at hxf ⊢
  obtain ⟨k00, k01⟩ := hx0.two
  have l0 := hx0.lt
  obtain ⟨kf0, kf1, kf2⟩ := hxf.three
  have lf := hxf.lt
  refine (c2.out _).mono ?_
  rintro e w3 ⟨Ap, cp, rfl, hop, hb⟩
  replace h := Below.step h hb
  replace hx0 := hx0.kept hb
  replace hxf := hxf.kept hb
  clear hb k00 k01 l0 kf0 kf1 kf2 lf
  obtain ⟨k00, k01⟩ := hx0.two
  have l0 := hx0.lt
  obtain ⟨kf0, kf1, kf2⟩ := hxf.three
  have lf := hxf.lt
  have hrp := hop.rd
  rw [← hN] at hrp ⊢
  replace hN := Lib.hid hN
  have hrdp : ∀ W, Below w3.heap.size w3 W → RdF W w3.heap.size Ap N L := fun W hW => hrp.below hW
  have hxfF : ∀ W, Below w3.heap.size w3 W → Box W gf 62 #[.int .i64 (rs p a : Int), .int .i64 (rs p b : Int), .int .i64 (p : Int)] := fun W hW => hxf.kept hW
  replace hrdp := Lib.hid hrdp
  replace hxfF := Lib.hid hxfF
  have hw3 : w.heap.size ≤ w3.heap.size := h.size
  clear hrp hop hx0 hxf
  clear k00 k01 l0 kf0 kf1 kf2 lf
  have hm0 : World.ownsMap (H := Unit) (w3.alloc (.map #[] 0)) Try.prog 70 (plainElem Try.prog 4) w3.heap.size (0 * 40000) (.map []) := World.ownsMap_made _ _ _ _
  have hb0 : Below w3.heap.size w3 (w3.alloc (.map #[] 0)) := (Below.refl _ _).alloc (by omega) _
  go_wp2_with fail
  go_loopw [10, 30] (fun o x wr => ∃ (k : Nat) (D : DataW Unit), k ≤ N ∧ o = .int .i64 (omax a p (L.take k)) ∧ x = .int .i64 k ∧ World.ownsMap (H := Unit) wr Try.prog 70 (plainElem Try.prog 4) w3.heap.size (k * 40000) D ∧ Hid (Sn a b p D (omax a p (L.take k))) ∧ Below w3.heap.size w3 wr) (fun _ x _ => N - (intOf x).toNat)
  case atStart => exact ⟨0, .map [], by omega, rfl, rfl, hm0, Sn.none _ _ _ _, hb0⟩
  case round =>
    clear hm0 hb0
    obtain ⟨k, D, hk, rfl, rfl, hm, hS, hbl⟩ := hrel
    by_cases hlt : k < N
    · obtain ⟨b', o', rfl, hbb, r0, r1, r2⟩ := (hrdp.out _ hbl).elem hlt
      have hou := hon.out k (by rw [← hN.out]; exact hlt)
      have hsn := take_snoc (L := L) (k := k) (by rw [← hN.out]; exact hlt)
      have hmx : omax a p (L.take (k + 1)) = max (omax a p (L.take k)) (ordF a p (L[k]?.getD none)) := by rw [hsn, omax_snoc]
      have hm1 := omax_one a p (L.take k)
      have hm9 := hom.out k
      clear hsn
      generalize L[k]?.getD none = u at *
      generalize omax a p (L.take k) = m at *
      have ku := key_pt h9 hou
      have hmA := hm.alloc (.cells #[.int .i64 (fpx u), .int .i64 (fpy u), .int .i64 (fpz u)] 70)
      obtain ⟨cb, hat⟩ := atKey_bool hmA lawF Try.underlying88 Try.underlying4 (zeroBf _) ku
      cases cb with
      | true =>
        have hct : omax a p (L.take (k + 1)) = m := by have := hS.out u hou hat; rw [hmx]; omega
        replace hct := Lib.hid hct
        clear hmx hou
        go_wp2_with (first
          | (at_lookup; refine wpList_lookup_own_bool _ rfl _ _ 88 rfl 70 4 lawF Try.underlying88 Try.underlying4 (zeroBf _) w3.heap.size _ D rfl hmA _ _ rfl ku true hat ?_)
          | fail)
        go_roundw
        case rel => exact ⟨k + 1, D, by omega, by rw [hct.out], by go_num, hmA.mono (by omega), by rw [hct.out]; exact hS, hbl.alloc (Nat.le_of_lt hm.lt) _⟩
        case measure => simp [intOf]; omega
      | false =>
        have c3 := cm.out u hou
        obtain ⟨ho9, hml1, hml2⟩ := hml.out u hou
        generalize mulL a p u (ordF a p u) = LM at *
        generalize ordF a p u = n0 at *
        obtain ⟨M, hM⟩ : ∃ M, M = max m n0 := ⟨_, rfl⟩
        have hct : omax a p (L.take (k + 1)) = M := by rw [hmx, hM]
        have em : mx2 (m : Int) (n0 : Int) = (M : Int) := by unfold mx2; omega
        have hmM : m ≤ M := by omega
        have hnM : n0 ≤ M := by omega
        have hS2 : Hid (Sn a b p D M) := hS.out.mono hmM
        replace hct := Lib.hid hct
        replace c3 := Lib.hid c3
        replace hml2 := Lib.hid hml2
        clear hmx hou hS hM
        have hxf := hxfF.out _ hbl
        obtain ⟨kf0, kf1, kf2⟩ := hxf.three
        have lf := hxf.lt
        go_wp2_with (first
          | (at_lookup; refine wpList_lookup_own_bool _ rfl _ _ 88 rfl 70 4 lawF Try.underlying88 Try.underlying4 (zeroBf _) w3.heap.size _ D rfl hmA _ _ rfl ku false hat ?_)
          | fail)
        have hbA : Below w3.heap.size w3 (wr.alloc (.cells #[.int .i64 (fpx u), .int .i64 (fpy u), .int .i64 (fpz u)] 70)) := hbl.alloc (Nat.le_of_lt hm.lt) _
        clear r0 r1 r2 kf0 kf1 kf2 lf hxf hat ku hm hbl
        generalize wr.alloc (.cells #[.int .i64 (fpx u), .int .i64 (fpy u), .int .i64 (fpz u)] 70) = w4 at *
        have hB4 : w3.heap.size < w4.heap.size := hmA.lt
        refine (c3.out _).mono ?_
        rintro e w5 ⟨A2, d2, rfl, ho2, hb⟩
        have hm5 : World.ownsMap (H := Unit) w5 Try.prog 70 (plainElem Try.prog 4) w3.heap.size (k * 40000) D := hmA.kept (row := none) ⟨hb.os, hb.tape, hb.output, hb.size, fun i hi _ => hb.block i hi⟩ (by simp)
        have hb5 : Below w3.heap.size w3 w5 := hbA.trans (hb.mono (by omega))
        clear hb hmA hbA
        have hr2 := ho2
        rw [hml1] at ho2 ⊢
        obtain ⟨lo, hlo⟩ : ∃ lo, lo = w4.heap.size := ⟨_, rfl⟩
        rw [← hlo] at ho2 hB4
        clear hlo hr2 c3
        go_wp2_with fail
        go_loopw [46] (fun x wr => ∃ (j : Nat) (D : DataW Unit), j ≤ n0 ∧ x = .int .i64 j ∧ World.ownsMap (H := Unit) wr Try.prog 70 (plainElem Try.prog 4) w3.heap.size (k * 40000 + j) D ∧ Hid (Sn a b p D M) ∧ Below w3.heap.size w3 wr ∧ OwnF wr lo (.slice A2 n0 d2) LM) (fun x _ => n0 - (intOf x).toNat)
        case atStart => exact ⟨0, D, by omega, rfl, hm5, hS2, hb5, ho2⟩
        case round =>
          clear hm5 hS2 hb5 ho2 D
          obtain ⟨j, D, hj, rfl, hm, hS, hbl, hown⟩ := hrel
          by_cases hjt : j < n0
          · have hrd : RdF wr wr.heap.size A2 n0 LM := by have h1 := hown; rw [← hml1] at h1; have h2 := h1.rd; rw [hml1] at h2; exact h2
            obtain ⟨b2, o2, rfl, hb2, r0, r1, r2⟩ := hrd.elem hjt
            obtain ⟨hot, hole⟩ := hml2.out j (by omega)
            generalize LM[j]?.getD none = t at *
            have kt := key_pt h9 hot
            have hS2 : Hid (Sn a b p (D.put (klit t) (.lit (.bool true))) M) := hS.out.put h9 hot (by omega)
            have hmA := hm.alloc (.cells #[.int .i64 (fpx t), .int .i64 (fpy t), .int .i64 (fpz t)] 70)
            have hoA := hown.alloc (.cells #[.int .i64 (fpx t), .int .i64 (fpy t), .int .i64 (fpz t)] 70)
            have hbA : Below w3.heap.size w3 (wr.alloc (.cells #[.int .i64 (fpx t), .int .i64 (fpy t), .int .i64 (fpz t)] 70)) := hbl.alloc (Nat.le_of_lt hm.lt) _
            have vt := elemBf true
            have hmax : k * 40000 + j < maxLen := by unfold maxLen; omega
            clear hrd hot hole hS hm hown hbl
            go_wp2_with (first
              | (at_mapUpdate; refine wpList_mapUpdate_own _ rfl _ _ _ 88 rfl 70 4 lawF Try.underlying88 _ w3.heap.size (k * 40000 + j) D rfl hmA hmax _ _ _ rfl rfl kt _ [] vt ?_; intro w1 hown1 hgrow1)
              | fail)
            go_roundw
            case rel => exact ⟨j + 1, _, by omega, by go_num, hown1, hS2, hbA.grown hgrow1 (Nat.le_of_lt hmA.lt) (fun i hi => by cases hi; exact Nat.le_refl _), World.ownsRow.kept hoA hgrow1 (.inr fun e => by have := (World.ownsRow.lt hoA _ e).1; omega)⟩
            case measure => simp [intOf]; omega
          · have hjn : j = n0 := by omega
            go_wp2_with fail
            go_roundw
            case rel => exact ⟨k + 1, D, by omega, by rw [hct.out], by go_num, hm.mono (by omega), by rw [hct.out]; exact hS, hbl⟩
            case measure => simp [intOf]; omega
    · have hkn : k = N := by omega
      clear hS
      have hT : L.take k = L := by rw [List.take_of_length_le (by rw [← hN.out]; omega)]
      rw [hT] at *
      rw [← hN.out] at hq
      have hone' := hone.out
      have hm9 := hom.out k
      rw [hT] at hm9
      clear hT
      generalize omax a p L = m at *
      have m0 : ((m : Int) == 0) = false := beq_eq_false_iff_ne.2 (by omega)
      have m1 : (m : Int) ≠ 0 := by omega
      have m2 : m ≠ 0 := by omega
      have hq2 := hq.out
      have hq3 : N / m ≤ N := Nat.div_le_self _ _
      obtain ⟨Q, hQ⟩ : ∃ Q, Q = N / m := ⟨_, rfl⟩
      have e9 : L.length / m = Q := by rw [hQ, hN.out]
      rw [← hQ] at hq2 hq3
      replace e9 := Lib.hid e9
      clear hQ hq
      go_wp2_with fail
      go_ret3
      exact ⟨by rw [e9.out]; first | done | rfl, h.trans (hbl.mono hw3)⟩

end Go.Proofs.Ytbgoiflkpefckaa
