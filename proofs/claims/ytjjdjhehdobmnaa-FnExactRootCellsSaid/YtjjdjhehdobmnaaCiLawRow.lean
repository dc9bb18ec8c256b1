/- Cores of exact laws: true if the model and the program hand back the same (written by wip/gen/genlaw.py). -/
import Derived.Test.YtjjdjhehdobmnaaCuLaw0
import Derived.Test.YtjjdjhehdobmnaaEq
import Derived.Test.YtjjdjhehdobmnaaMark
import Derived.Test.YtjjdjhehdobmnaaCiCellI
import Derived.Deep.DeepCutAuto
namespace Go.Proofs.Ytjjdjhehdobmnaa
open Go.RowKit Go.Joins

set_option maxHeartbeats 4000000 in
set_option maxRecDepth 100000 in
theorem lawRootCells_core (a0 b0 c0 d0 : Int) (w : World)  (rs : List Int) (hrs : rs.length ≤ 1048576) (ok : Bool)
    (hS : ∀ (W : World), Calls Try.prog 20 #[.agg #[.int .i64 a0, .int .i64 b0, .int .i64 c0, .int .i64 d0]] W (GivesRowOk W rs ok))
    (hI : ∀ (W : World), Calls Try.prog 21 #[.agg #[.int .i64 a0, .int .i64 b0, .int .i64 c0, .int .i64 d0]] W (GivesRowOk W rs ok)) :
    Calls Try.prog 7 #[.agg #[.int .i64 a0, .int .i64 b0, .int .i64 c0, .int .i64 d0]] w fun e w' => e = .returned (.bool true) ∧ Below w.heap.size w w' := by
  replace hS := Lib.hid hS
  replace hI := Lib.hid hI
  have eok : (ok != ok) = false := by simp
  have e2 : (1 + (rs.length : Int) != 1 + rs.length) = false := by simp
  have h := Below.refl w.heap.size w
  have hA := below_alloc1 w (.cells #[.int .i64 a0, .int .i64 b0, .int .i64 c0, .int .i64 d0] 23)
  replace h := Below.step h hA
  have hxa := Box.new w 23 #[.int .i64 a0, .int .i64 b0, .int .i64 c0, .int .i64 d0]
  clear hA
  go_enter Try.func7, Try.ntmps7
  obtain ⟨kaa, kba, kca, kda⟩ := hxa.four
  have kla := hxa.lt
  go_wp2_with fail
  refine (toCubic_any a0 b0 c0 d0 _).mono ?_
  rintro e w1 ⟨rfl, hb⟩
  replace h := Below.step h hb
  replace hxa := hxa.kept hb
  clear hb kaa kba kca kda kla
  obtain ⟨kaa, kba, kca, kda⟩ := hxa.four
  have kla := hxa.lt
  go_wp2_with fail
  have lo_how := h.size
  refine (hS.out _).mono ?_
  rintro e w2 ⟨Aw, cw, rfl, how, hb⟩
  replace how := how.I
  replace h := Below.step h hb
  replace hxa := hxa.kept hb
  clear hb kaa kba kca kda kla
  obtain ⟨kaa, kba, kca, kda⟩ := hxa.four
  have kla := hxa.lt
  go_wp2_with fail
  refine (toCubic_any a0 b0 c0 d0 _).mono ?_
  rintro e w3 ⟨rfl, hb⟩
  replace h := Below.step h hb
  replace hxa := hxa.kept hb
  replace how := how.kept hb
  clear hb kaa kba kca kda kla
  obtain ⟨kaa, kba, kca, kda⟩ := hxa.four
  have kla := hxa.lt
  go_wp2_with fail
  have d_how_hog := how.le
  have lo_hog := h.size
  refine (hI.out _).mono ?_
  rintro e w4 ⟨Ag, cg, rfl, hog, hb⟩
  replace hog := hog.I
  replace h := Below.step h hb
  replace hxa := hxa.kept hb
  replace how := how.kept hb
  clear hb kaa kba kca kda kla
  obtain ⟨kaa, kba, kca, kda⟩ := hxa.four
  have kla := hxa.lt
  go_wp2_with fail
  refine (eqIntS_yes Ag Aw _ cg _ cw rs _ (by omega) hog.rd how.rd).mono ?_
  rintro e w5 ⟨rfl, hb⟩
  replace h := Below.step h hb
  replace hxa := hxa.kept hb
  replace how := how.kept hb
  replace hog := hog.kept hb
  clear hb kaa kba kca kda kla
  obtain ⟨kaa, kba, kca, kda⟩ := hxa.four
  have kla := hxa.lt
  go_wp2_with fail
  refine (markIntS_any Ag cg _ rs (1) _ (by omega) (by omega) hog.own).mono ?_
  rintro e w6 ⟨rfl, hm, hg⟩
  replace h := hog.below hg h lo_hog
  replace how := how.aside hog hg (.inl d_how_hog)
  replace hxa := hxa.aside hog hg (by decide)
  have hmk := hm.rd_marks
  clear hm hg hog kaa kba kca kda kla
  obtain ⟨kaa, kba, kca, kda⟩ := hxa.four
  have kla := hxa.lt
  go_wp2_with fail
  refine (heldIntS_any Ag rs.length cg _ 1 _ (by omega) (by omega) hmk).mono ?_
  rintro e w7 ⟨rfl, rfl⟩
  clear kaa kba kca kda kla
  obtain ⟨kaa, kba, kca, kda⟩ := hxa.four
  have kla := hxa.lt
  go_wp2_with fail
  refine (toCubic_any a0 b0 c0 d0 _).mono ?_
  rintro e w8 ⟨rfl, hb⟩
  replace h := Below.step h hb
  replace hxa := hxa.kept hb
  replace how := how.kept hb
  replace hmk := hmk.kept hb
  clear hb kaa kba kca kda kla
  obtain ⟨kaa, kba, kca, kda⟩ := hxa.four
  have kla := hxa.lt
  go_wp2_with fail
  refine (hI.out _).mono ?_
  rintro e w9 ⟨Ah, ch, rfl, hoh, hb⟩
  replace hoh := hoh.I
  replace h := Below.step h hb
  replace hxa := hxa.kept hb
  replace how := how.kept hb
  replace hmk := hmk.kept hb
  clear hb kaa kba kca kda kla
  obtain ⟨kaa, kba, kca, kda⟩ := hxa.four
  have kla := hxa.lt
  go_wp2_with fail
  refine (eqIntS_yes Ah Aw _ ch _ cw rs _ (by omega) hoh.rd how.rd).mono ?_
  rintro e w10 ⟨rfl, hb⟩
  replace h := Below.step h hb
  replace hxa := hxa.kept hb
  replace how := how.kept hb
  replace hmk := hmk.kept hb
  replace hoh := hoh.kept hb
  clear hb kaa kba kca kda kla
  clear hoh how
  obtain ⟨kaa, kba, kca, kda⟩ := hxa.four
  have kla := hxa.lt
  go_wp2_with fail
  refine (heldIntS_any Ag rs.length cg _ 1 _ (by omega) (by omega) hmk).mono ?_
  rintro e w11 ⟨rfl, rfl⟩
  clear kaa kba kca kda kla
  obtain ⟨kaa, kba, kca, kda⟩ := hxa.four
  have kla := hxa.lt
  go_wp2
  go_ret
  exact ⟨rfl, h⟩
end Go.Proofs.Ytjjdjhehdobmnaa
