/- The core of the exact law of RationalRoots; at every argument (written by wip/gen/rrlaw.py). -/
import Derived.Test.YtjamckcbgcejdaaDoorFLaw
import Derived.Test.YtjamckcbgcejdaaDoorCuIrrI
namespace Go.Proofs.YtjamckcbgcejdaaDoor
open Go.RowKit Go.Joins

set_option maxHeartbeats 4000000 in
set_option maxRecDepth 100000 in
theorem lawRationalRoots_core (a0 b0 c0 d0 : Int) (w : World) (hL : Lim w) (rs : List (Int × Int)) (hrs : rs.length ≤ 1000) (ok : Bool)
    (hS : ∀ (W : World), Calls Tryd.prog 12 #[.agg #[.int .i64 a0, .int .i64 b0, .int .i64 c0, .int .i64 d0]] W (GivesFRowOk W rs ok))
    (hI : ∀ (W : World), Lim W → Calls Tryd.prog 13 #[.agg #[.int .i64 a0, .int .i64 b0, .int .i64 c0, .int .i64 d0]] W (GivesFRowOk W rs ok)) :
    Calls Tryd.prog 4 #[.agg #[.int .i64 a0, .int .i64 b0, .int .i64 c0, .int .i64 d0]] w fun e w' => e = .returned (.bool true) ∧ Below w.heap.size w w' := by
  replace hS := Lib.hid hS
  replace hI := Lib.hid hI
  replace hL := Lib.hid hL
  have eok : (ok != ok) = false := by simp
  have e2 : (1 + 2 * (rs.length : Int) != 1 + 2 * rs.length) = false := by simp
  have h := Below.refl w.heap.size w
  have hA := below_alloc1 w (.cells #[.int .i64 a0, .int .i64 b0, .int .i64 c0, .int .i64 d0] 23)
  replace h := Below.step h hA
  have hxa := Box.new w 23 #[.int .i64 a0, .int .i64 b0, .int .i64 c0, .int .i64 d0]
  clear hA
  go_enter Tryd.func4, Tryd.ntmps4
  obtain ⟨kaa, kba, kca, kda⟩ := hxa.four
  have kla := hxa.lt
  go_wp2_with fail
  refine (toCubic_any a0 b0 c0 d0 _).mono ?_
  rintro e w1 ⟨rfl, hb⟩
  replace h := Below.step h hb
  replace hxa := hxa.kept hb
  clear hb
  clear kaa kba kca kda kla
  obtain ⟨kaa, kba, kca, kda⟩ := hxa.four
  have kla := hxa.lt
  go_wp2_with fail
  refine (hS.out _).mono ?_
  rintro e w2 ⟨Aw, cw, rfl, how, hb⟩
  have hrw := how.rd
  clear how
  replace h := Below.step h hb
  replace hxa := hxa.kept hb
  clear hb
  clear kaa kba kca kda kla
  obtain ⟨kaa, kba, kca, kda⟩ := hxa.four
  have kla := hxa.lt
  go_wp2_with fail
  refine (toCubic_any a0 b0 c0 d0 _).mono ?_
  rintro e w3 ⟨rfl, hb⟩
  replace h := Below.step h hb
  replace hxa := hxa.kept hb
  replace hrw := hrw.kept hb
  clear hb
  clear kaa kba kca kda kla
  obtain ⟨kaa, kba, kca, kda⟩ := hxa.four
  have kla := hxa.lt
  go_wp2_with fail
  have lo := h.size
  have lt := hxa.lt
  have hLi := hL.out.kept h
  refine (hI.out _ hLi).mono ?_
  rintro e w4 ⟨Ag, cg, rfl, hog, hb⟩
  have hs := hb.size
  clear hLi
  replace h := Below.step h hb
  replace hxa := hxa.kept hb
  replace hrw := hrw.below hb
  clear hb
  clear kaa kba kca kda kla
  obtain ⟨kaa, kba, kca, kda⟩ := hxa.four
  have kla := hxa.lt
  go_wp2_with fail
  refine (eqFS_yes Ag Aw _ cg cw rs _ (by omega) hog.rd (hrw.more hs)).mono ?_
  rintro e w5 ⟨rfl, hb⟩
  replace hog := hog.kept hb
  replace hrw := hrw.below (hb.mono hs)
  replace hs := Nat.le_trans hs hb.size
  replace h := Below.step h hb
  replace hxa := hxa.kept hb
  clear hb
  clear kaa kba kca kda kla
  obtain ⟨kaa, kba, kca, kda⟩ := hxa.four
  have kla := hxa.lt
  go_wp2_with fail
  refine (markFS_any Ag cg _ rs 1 _ (by omega) (by omega) hog).mono ?_
  rintro e w6 ⟨rfl, hm, hg⟩
  replace h := below_ownF h hog lo hg
  replace hrw := (hrw.aside hog (Nat.le_refl _) hg).more (Nat.le_trans hs hg.size)
  replace hxa := hxa.ownF_aside hog hg lt
  have hmk := rdZ_of hm
  clear hm hg hog lo lt hs
  clear kaa kba kca kda kla
  obtain ⟨kaa, kba, kca, kda⟩ := hxa.four
  have kla := hxa.lt
  go_wp2_with fail
  refine (heldFS_any Ag rs.length cg _ 1 _ (by omega) (by omega) hmk).mono ?_
  rintro e w7 ⟨rfl, rfl⟩
  clear kaa kba kca kda kla
  obtain ⟨kaa, kba, kca, kda⟩ := hxa.four
  have kla := hxa.lt
  go_wp2_with fail
  refine (toCubic_any a0 b0 c0 d0 _).mono ?_
  rintro e w8 ⟨rfl, hb⟩
  replace h := Below.step h hb
  replace hxa := hxa.kept hb
  replace hrw := hrw.kept hb
  replace hmk := hmk.kept hb
  clear hb
  clear kaa kba kca kda kla
  obtain ⟨kaa, kba, kca, kda⟩ := hxa.four
  have kla := hxa.lt
  go_wp2_with fail
  have hLi := hL.out.kept h
  refine (hI.out _ hLi).mono ?_
  rintro e w9 ⟨Ah, ch, rfl, hoh, hb⟩
  have hrh := hoh.rd
  clear hoh hLi
  replace h := Below.step h hb
  replace hxa := hxa.kept hb
  replace hrw := hrw.kept hb
  replace hmk := hmk.kept hb
  clear hb
  clear kaa kba kca kda kla
  obtain ⟨kaa, kba, kca, kda⟩ := hxa.four
  have kla := hxa.lt
  go_wp2_with fail
  refine (eqFS_yes Ah Aw _ ch cw rs _ (by omega) hrh hrw).mono ?_
  rintro e w10 ⟨rfl, hb⟩
  clear hrh hrw
  replace h := Below.step h hb
  replace hxa := hxa.kept hb
  replace hmk := hmk.kept hb
  clear hb
  clear kaa kba kca kda kla
  obtain ⟨kaa, kba, kca, kda⟩ := hxa.four
  have kla := hxa.lt
  go_wp2_with fail
  refine (heldFS_any Ag rs.length cg _ 1 _ (by omega) (by omega) hmk).mono ?_
  rintro e w11 ⟨rfl, rfl⟩
  clear kaa kba kca kda kla
  obtain ⟨kaa, kba, kca, kda⟩ := hxa.four
  have kla := hxa.lt
  go_wp2_with fail
  go_ret
  exact ⟨rfl, h⟩

theorem lawRationalRoots_any (a b c d : Int) (w : World) (hL : Lim w) (_ha : (-9223372036854775808 ≤ a ∧ a ≤ 9223372036854775807)) (_hb : (-9223372036854775808 ≤ b ∧ b ≤ 9223372036854775807)) (_hc : (-9223372036854775808 ≤ c ∧ c ≤ 9223372036854775807)) (_hd : (-9223372036854775808 ≤ d ∧ d ≤ 9223372036854775807)) :
    Calls Tryd.prog 4 #[.agg #[.int .i64 a, .int .i64 b, .int .i64 c, .int .i64 d]] w fun e w' => e = .returned (.bool true) ∧ Below w.heap.size w w' := by
  by_cases g : CuG a b c d
  · obtain ⟨M, hM⟩ := rl_exists g.1 g.2.1 g.2.2.1 g.2.2.2.1 g.2.2.2.2
    have hl := RL.len hM g.1
    exact lawRationalRoots_core a b c d w hL M (by omega) true (fun W => rootsS_yes a b c d W g M hM) (fun W hL => rootsI_yes a b c d W hL g M hM)
  · exact lawRationalRoots_core a b c d w hL [] (by simp) false (fun W => rootsS_bad a b c d W g) (fun W _ => rootsI_bad a b c d W g)
end Go.Proofs.YtjamckcbgcejdaaDoor
