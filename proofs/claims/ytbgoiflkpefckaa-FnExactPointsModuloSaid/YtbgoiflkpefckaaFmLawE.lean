/- The exact law of PointsModulo (written by wip/gen/lawssc.py). -/
import Derived.Test.YtbgoiflkpefckaaEcLaw0
import Derived.Test.YtbgoiflkpefckaaSSLaw
import Derived.Test.YtbgoiflkpefckaaFmI9
import Derived.Deep.DeepCutAuto
namespace Go.Proofs.Ytbgoiflkpefckaa
open Go.RowKit Go.Joins

set_option maxHeartbeats 4000000 in
set_option maxRecDepth 100000 in
theorem lawPointsModulo_core (a b z0 : Int) (w : World) (L : List (List Int)) (hL : L.length ≤ 1152921504606846976) (hT : tot L ≤ 1152921504606846976) (hl : ∀ k : Nat, (L[k]?.getD []).length ≤ 9223372036854775807) (ok : Bool)
    (hS : ∀ (w : World), Calls Try.prog 18 #[.agg #[.int .i64 a, .int .i64 b], .int .i64 z0] w (GivesSSOk w L ok))
    (hI : ∀ (w : World), Calls Try.prog 19 #[.agg #[.int .i64 a, .int .i64 b], .int .i64 z0] w (GivesSSOk w L ok)) :
    Calls Try.prog 5 #[.agg #[.int .i64 a, .int .i64 b], .int .i64 z0] w fun e w' => e = .returned (.bool true) ∧ Below w.heap.size w w' := by
  replace hS := Lib.hid hS
  replace hI := Lib.hid hI
  replace hl := Lib.hid hl
  have e0 : (ok != ok) = false := by simp
  have e2 : (1 + (tot L : Int) != 1 + tot L) = false := by simp
  have h := Below.refl w.heap.size w
  have hA := below_alloc1 w (.cells #[.int .i64 a, .int .i64 b] 23)
  have hxa := Box.new w 23 #[.int .i64 a, .int .i64 b]
  replace h := Below.step h hA
  clear hA
  obtain ⟨ka0, ka1⟩ := hxa.two
  have la := hxa.lt
  go_enter Try.func5, Try.ntmps5
  go_wp2_with fail
  refine (toCurve_any a b _).mono ?_
  rintro e w1 ⟨rfl, hb⟩
  replace h := Below.step h hb
  replace hxa := hxa.kept hb
  clear hb ka0 ka1 la
  obtain ⟨ka0, ka1⟩ := hxa.two
  have la := hxa.lt
  go_wp2_with fail
  refine (hS.out _).mono ?_
  rintro e w2 ⟨Aw, cw, vw, rfl, sow, hb⟩
  replace h := Below.step h hb
  replace hxa := hxa.kept hb
  clear hb ka0 ka1 la
  obtain ⟨ka0, ka1⟩ := hxa.two
  have la := hxa.lt
  have how := sow.rd
  clear sow
  go_wp2_with fail
  refine (toCurve_any a b _).mono ?_
  rintro e w3 ⟨rfl, hb⟩
  replace h := Below.step h hb
  replace hxa := hxa.kept hb
  replace how := how.kept hb
  clear hb ka0 ka1 la
  obtain ⟨ka0, ka1⟩ := hxa.two
  have la := hxa.lt
  go_wp2_with fail
  have lo_hog := h.size
  have lta := hxa.lt
  refine (hI.out _).mono ?_
  rintro e w4 ⟨Ag, cg, vg, rfl, hog, hb⟩
  have how1 := how.below hb
  have how2 := how1.more hb.size
  have hsz := hb.size
  clear how
  replace h := Below.step h hb
  replace hxa := hxa.kept hb
  clear hb ka0 ka1 la
  obtain ⟨ka0, ka1⟩ := hxa.two
  have la := hxa.lt
  go_wp2_with fail
  refine (eqIntSS_yes Ag Aw _ cg cw L _ (by omega) hl.out hog.rd how2).mono ?_
  rintro e w5 ⟨rfl, hb⟩
  replace how1 := how1.below (hb.mono hsz)
  replace hog := hog.kept hb
  replace hsz := Nat.le_trans hsz hb.size
  clear how2
  replace h := Below.step h hb
  replace hxa := hxa.kept hb
  clear hb ka0 ka1 la
  obtain ⟨ka0, ka1⟩ := hxa.two
  have la := hxa.lt
  go_wp2_with fail
  refine (markIntSS_any Ag cg _ L vg 1 _ (by omega) (by omega) (by omega) hsz hog).mono ?_
  rintro e w6 ⟨rfl, hm, hg⟩
  replace h := h.trans (hg.mono lo_hog)
  replace hxa := hxa.keep hg lta
  replace how1 := how1.below hg
  have hmk := (show SS w6 _ (.slice Ag (marksSS 1 L).length cg) (marksSS 1 L) vg by rw [marksSS_length]; exact hm).rd
  rw [marksSS_length] at hmk
  replace hsz := Nat.le_trans hsz hg.size
  clear hg hm hog ka0 ka1 la
  obtain ⟨ka0, ka1⟩ := hxa.two
  have la := hxa.lt
  go_wp2_with fail
  refine (heldIntSS_any Ag L.length cg _ L 1 _ (by omega) (by omega) rfl (by omega) hmk).mono ?_
  rintro e w7 ⟨rfl, rfl⟩
  go_wp2_with fail
  refine (toCurve_any a b _).mono ?_
  rintro e w8 ⟨rfl, hb⟩
  replace how1 := how1.below (hb.mono hsz)
  replace hmk := hmk.kept hb
  replace hsz := Nat.le_trans hsz hb.size
  replace h := Below.step h hb
  replace hxa := hxa.kept hb
  clear hb ka0 ka1 la
  obtain ⟨ka0, ka1⟩ := hxa.two
  have la := hxa.lt
  go_wp2_with fail
  refine (hI.out _).mono ?_
  rintro e w9 ⟨Ah, ch, vh, rfl, hoh, hb⟩
  replace how1 := how1.below (hb.mono hsz)
  replace hmk := hmk.kept hb
  replace hsz := Nat.le_trans hsz hb.size
  have how2 := how1.more hsz
  replace h := Below.step h hb
  replace hxa := hxa.kept hb
  clear hb ka0 ka1 la
  obtain ⟨ka0, ka1⟩ := hxa.two
  have la := hxa.lt
  go_wp2_with fail
  refine (eqIntSS_yes Ah Aw _ ch cw L _ (by omega) hl.out hoh.rd how2).mono ?_
  rintro e w10 ⟨rfl, hb⟩
  replace hmk := hmk.kept hb
  clear hoh how1 how2
  replace h := Below.step h hb
  replace hxa := hxa.kept hb
  clear hb ka0 ka1 la
  obtain ⟨ka0, ka1⟩ := hxa.two
  have la := hxa.lt
  go_wp2_with fail
  refine (heldIntSS_any Ag L.length cg _ L 1 _ (by omega) (by omega) rfl (by omega) hmk).mono ?_
  rintro e w11 ⟨rfl, rfl⟩
  go_wp2_with fail
  go_ret
  exact ⟨rfl, h⟩

theorem fl_at (M : List FP) (k : Nat) : ((M.map fl)[k]?.getD []).length ≤ 2 := by
  rw [List.getElem?_map]
  cases M[k]? with
  | none => simp
  | some s => exact fl_le s
theorem tot_fl : ∀ M : List FP, tot (M.map fl) ≤ 2 * M.length
  | [] => Nat.le_refl 0
  | s :: M => by
    have := tot_fl M
    have := fl_le s
    simp only [List.map_cons, tot, List.length_cons]
    omega
theorem lawPointsModulo_any (a b z1 : Int) (w : World) (_ha : -9223372036854775808 ≤ a ∧ a ≤ 9223372036854775807) (_hb : -9223372036854775808 ≤ b ∧ b ≤ 9223372036854775807) (_h1 : -9223372036854775808 ≤ z1 ∧ z1 ≤ 9223372036854775807) :
    Calls Try.prog 5 #[.agg #[.int .i64 a, .int .i64 b], .int .i64 z1] w fun e w' => e = .returned (.bool true) ∧ Below w.heap.size w w' := by
  by_cases g : Gd a b z1 199
  · obtain ⟨p, rfl, G, hp⟩ := g
    have h1 := (plist_len a b p p).1
    have h2 := Nat.mul_le_mul hp hp
    have h3 := tot_fl (plist a b p p)
    exact lawPointsModulo_core a b p w _ (by rw [List.length_map]; omega) (by omega) (fun k => by have := fl_at (plist a b p p) k; omega) true (fun W => ptsS_yes G hp W) (fun W => ptsI_yes G hp W)
  · exact lawPointsModulo_core a b z1 w [] (by simp) (by simp [tot]) (fun k => by simp) false (fun W => ptsS_no a b z1 W g) (fun W => ptsI_no a b z1 W g)
end Go.Proofs.Ytbgoiflkpefckaa
