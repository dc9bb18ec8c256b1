/- Several texts in one (own work). -/
import Derived.Test.YtokhadhfjbecmaaDoorPtXi
import Derived.Test.YtokhadhfjbecmaaDoorPtPi
import Derived.Test.YtokhadhfjbecmaaDoorPtLaw0
import Derived.Test.YtokhadhfjbecmaaDoorTxParseI
import Derived.Deep.DeepCutAuto
import Derived.Deep.RegionHeld3
namespace Go.Proofs.YtokhadhfjbecmaaDoor
open Go.RowKit Go.Joins

theorem irt_ex (d : Int) : ∃ R, IRt R d := by
  by_cases h1 : d < 0
  · exact ⟨0, .of_neg h1⟩
  · by_cases h2 : 4611686018427387904 ≤ d
    · exact ⟨_, .of_big h2⟩
    · refine ⟨rootOf d.toNat, ?_⟩
      have := IRt.of_root (rootOf_spec d.toNat) (by omega)
      rwa [show ((d.toNat : Nat) : Int) = d from by omega] at this
theorem irt_iroot {R : Nat} {d : Int} (h : IRt R d) (h0 : 0 ≤ d) (h1 : d < 4611686018427387904) : iroot d = R := by
  have := IRt.of_root (rootOf_spec d.toNat) (by omega)
  rw [show ((d.toNat : Nat) : Int) = d from by omega] at this
  unfold iroot
  rw [this.unique h]
theorem atXI_on {a b n d : Int} {R : Nat} (w : World) (g : EcG a b) (hR : IRt R d) (hs : (R : Int) * R = d) (hp : Plc n R) : Calls Tryd.prog 23 #[.agg #[.int .i64 a, .int .i64 b], .agg #[.int .i64 n, .int .i64 d]] w (GivesPRowOk w (atX n R (ptV a b n R)) true) := by
  have c1 := fun W => placeAt_yes n d R W hR hs hp
  have c2 := fun W => squareOfY_any a b n R _ W g.1 g.2.1 hp.1 hp.2.1 rfl
  have hv := ptV_le g.1 g.2.1 hp.1 hp.2.1
  obtain ⟨T, hT⟩ := irt_ex (ptV a b n R)
  unfold atX
  by_cases h0 : ptV a b n R < 0
  · rw [if_pos (.inl h0)]
    have hT0 : T = 0 := hT.unique (.of_neg h0)
    subst hT0
    exact atXI_no a b n d w g R _ 0 c1 c2 (fun W => exactRoot_any _ W 0 hT false (by rw [beq_eq_false_iff_ne]; omega))
  · have hi := irt_iroot hT (by omega) (by omega)
    rw [hi]
    have hTn : 0 ≤ (T : Int) * T := Int.mul_nonneg (by omega) (by omega)
    by_cases hr : (T : Int) * T = ptV a b n R
    · rw [if_neg (fun k => k.elim h0 (fun k => k hr))]
      have c3 := fun W => exactRoot_any _ W T hT true (by rw [beq_iff_eq]; exact hr)
      by_cases h1 : ptV a b n R = 0
      · rw [if_pos h1]
        have hT0 : T = 0 := by
          rw [h1] at hr
          rcases Int.mul_eq_zero.1 hr with k | k <;> omega
        exact atXI_one a b n d w g R _ T c1 c2 c3 hT0
      · rw [if_neg h1]
        have hT1 : T ≠ 0 := fun k => h1 (by rw [← hr, k]; rfl)
        have hT2 : T ≤ 4000000 := by
          apply Nat.le_of_not_lt; intro k
          have := sq_le (show 4000001 ≤ T by omega)
          have e : ((T * T : Nat) : Int) = (T : Int) * T := Int.natCast_mul T T
          omega
        exact atXI_two a b n d w g R _ T c1 c2 c3 (by omega) hT2
    · rw [if_pos (.inr hr)]
      exact atXI_no a b n d w g R _ T c1 c2 (fun W => exactRoot_any _ W T hT false (by rw [beq_eq_false_iff_ne]; exact hr))
theorem atX_len (x e V : Int) : (atX x e V).length ≤ 1000 := by
  unfold atX
  split
  · simp
  · split <;> simp
theorem atX_fin {a b x e : Int} (hc : (-1000 ≤ a ∧ a ≤ 1000) ∧ (-10000 ≤ b ∧ b ≤ 10000)) (hp : Plc x e) {q : P3} (hq : q ∈ atX x e (ptV a b x e)) : Fin3 a b q ∧ q.x = x ∧ q.e = e := by
  have hv := ptV_le hc.1 hc.2 hp.1 hp.2.1
  unfold atX at hq
  split at hq
  · simp at hq
  · rename_i h0
    have h1 : ¬ ptV a b x e < 0 := fun k => h0 (.inl k)
    have h2 : iroot (ptV a b x e) * iroot (ptV a b x e) = ptV a b x e := Classical.byContradiction fun k => h0 (.inr k)
    split at hq
    · rename_i h3
      rw [List.mem_singleton.1 hq]
      exact ⟨⟨hp.1, hp.2.1, by show -1800000 ≤ (0 : Int) ∧ (0 : Int) ≤ 1800000; omega, hp.2.2, by show (0 : Int) * 0 = _; rw [h3]; rfl⟩, rfl, rfl⟩
    · have hb := y_bd h2 hv.2
      simp only [List.mem_cons, List.not_mem_nil, or_false] at hq
      rcases hq with rfl | rfl
      · exact ⟨⟨hp.1, hp.2.1, by show -1800000 ≤ -iroot (ptV a b x e) ∧ -iroot (ptV a b x e) ≤ 1800000; omega, hp.2.2, by show -iroot (ptV a b x e) * -iroot (ptV a b x e) = _; rw [Int.neg_mul_neg]; exact h2⟩, rfl, rfl⟩
      · exact ⟨⟨hp.1, hp.2.1, hb, hp.2.2, h2⟩, rfl, rfl⟩
end Go.Proofs.YtokhadhfjbecmaaDoor

namespace Go.Proofs.YtokhadhfjbecmaaDoor
open Go.RowKit Go.Joins

theorem br_size (M : ByteArray) : ((⟨#[40]⟩ : ByteArray) ++ M ++ (⟨#[41]⟩ : ByteArray)).size = M.size + 2 := by
  rw [ByteArray.size_append, ByteArray.size_append]
  show 1 + _ + 1 = _
  omega
theorem br_data (M : ByteArray) : ((⟨#[40]⟩ : ByteArray) ++ M ++ (⟨#[41]⟩ : ByteArray)).data = #[40] ++ M.data ++ #[41] := by simp [ByteArray.data_append]
theorem get_of {s : ByteArray} {i : Nat} (h : i < s.size) {c : UInt8} (e : s.data[i]? = some c) : s[i] = c := by
  have h2 : i < s.data.size := h
  rw [Array.getElem?_eq_getElem h2] at e
  exact Option.some.inj e
theorem br_first {s M : ByteArray} (hs : s = (⟨#[40]⟩ : ByteArray) ++ M ++ (⟨#[41]⟩ : ByteArray)) (h : 0 < s.size) : s[0].toNat = 40 := by
  have := get_of h (c := 40) (by rw [hs, br_data, Array.append_assoc, Array.getElem?_append_left (by simp)]; rfl)
  rw [this]; rfl
theorem br_last {s M : ByteArray} (hs : s = (⟨#[40]⟩ : ByteArray) ++ M ++ (⟨#[41]⟩ : ByteArray)) (h : s.size - 1 < s.size) : s[s.size - 1].toNat = 41 := by
  have := get_of h (c := 41) (by
    have e : s.size - 1 = M.data.size + 1 := by rw [hs, br_size]; show M.size + 2 - 1 = M.size + 1; omega
    rw [e, hs, br_data]
    rw [Array.getElem?_append_right (by rw [Array.size_append]; show 1 + _ ≤ _; omega), Array.size_append]
    show (#[41] : Array UInt8)[M.data.size + 1 - (1 + M.data.size)]? = some 41
    rw [show M.data.size + 1 - (1 + M.data.size) = 0 from by omega]
    rfl)
  rw [this]; rfl
theorem br_mid {s M : ByteArray} (hs : s = (⟨#[40]⟩ : ByteArray) ++ M ++ (⟨#[41]⟩ : ByteArray)) : s.extract 1 (s.size - 1) = M := by
  have e : s.size - 1 = M.data.size + 1 := by rw [hs, br_size]; show M.size + 2 - 1 = M.size + 1; omega
  apply ByteArray.ext
  rw [e, hs, ByteArray.data_extract, br_data]
  apply Array.ext'
  simp
theorem extract_size_le (s : ByteArray) (i j : Nat) : (s.extract i j).size ≤ s.size := by rw [ByteArray.size_extract]; omega
theorem splitTo_parts (s : ByteArray) (sep : UInt8) : ∀ i, ∀ p ∈ (splitTo s sep i).1, ∃ j k, p = s.extract j k
  | 0, p, h => by simp [splitTo] at h
  | i + 1, p, h => by
    rw [splitTo] at h
    split at h
    · rcases List.mem_append.1 h with k | k
      · exact splitTo_parts s sep i p k
      · exact ⟨_, _, List.mem_singleton.1 k⟩
    · exact splitTo_parts s sep i p h
theorem splitAll_size {s u v : ByteArray} {sep : UInt8} {B : Nat} (hp : splitAll s sep = [u, v]) (hs : s.size ≤ B) : u.size ≤ B ∧ v.size ≤ B := by
  have key : ∀ p ∈ splitAll s sep, p.size ≤ B := by
    intro p hq
    unfold splitAll at hq
    rcases List.mem_append.1 hq with k | k
    · obtain ⟨i, j, rfl⟩ := splitTo_parts s sep _ p k
      exact Nat.le_trans (extract_size_le _ _ _) hs
    · rw [List.mem_singleton.1 k]
      exact Nat.le_trans (extract_size_le _ _ _) hs
  exact ⟨key u (by rw [hp]; simp), key v (by rw [hp]; simp)⟩
/-- The point of a curve with the text s, if there is one. -/
def IsTx (a b : Int) (s : ByteArray) (p : P3) : Prop := Fin3 a b p ∧ ptTB p = s
theorem ptParse_at {a b : Int} {s : ByteArray} {p : P3} (w : World) (hc : (-1000 ≤ a ∧ a ≤ 1000) ∧ (-10000 ≤ b ∧ b ≤ 10000)) (hp : IsTx a b s p) (hne : s ≠ ⟨#[79]⟩) : Calls Tryd.prog 18 #[.agg #[.int .i64 a, .int .i64 b], .string s] w (GivesPB w p.x p.y p.e true) := by
  obtain ⟨hf, ht⟩ := hp
  have he := hf.e
  have hsz := ptMid_size hf
  have hs : s = (⟨#[40]⟩ : ByteArray) ++ ptMid p ++ (⟨#[41]⟩ : ByteArray) := by rw [← ht]; exact ptTB_fin (by omega)
  have hz : s.size = (ptMid p).size + 2 := by rw [hs]; exact br_size _
  have hm := br_mid hs
  have hi : iroot (p.e * p.e) = p.e := iroot_sq (by omega)
  have hE := (ptE_bd he).1
  have hE3 := (ptE_bd he).2.2.2
  have s1 := frB_sz (frX hf)
  have s2 := frB_sz (frY hf)
  refine ptParse_yes a b s w hne (by omega) (by omega) (br_first hs (by omega)) (br_last hs (by omega)) (frB p.x (p.e * p.e)) (frB p.y (p.e * p.e * p.e)) (by rw [hm]; exact split_mid p) p.x (p.e * p.e) p.y (p.e * p.e * p.e) (fun W => frParse_yes _ _ _ W (by omega) (frX hf) rfl) (fun W => frParse_yes _ _ _ W (by omega) (frY hf) rfl) p.e (fun W => ?_) (fun W => ?_) (fun W => ?_)
  · have := frRoot_i (p.e * p.e) W (by omega) (by omega)
    rwa [hi] at this
  · have := ptOnS_any a b p W hc.1 hc.2
    rwa [decide_eq_true (show PtOn a b p from .inr hf)] at this
  · have := ptText_any W (show PtOn a b p from .inr hf)
    rwa [ht] at this
theorem ptParse_none {a b : Int} {s : ByteArray} (w : World) (hc : (-1000 ≤ a ∧ a ≤ 1000) ∧ (-10000 ≤ b ∧ b ≤ 10000)) (hno : ∀ p, ¬ IsTx a b s p) (hne : s ≠ ⟨#[79]⟩) : Calls Tryd.prog 18 #[.agg #[.int .i64 a, .int .i64 b], .string s] w (GivesPB w 0 0 0 false) := by
  by_cases n1 : 5 ≤ s.size
  case neg => exact ptParse_len a b s w hne (.inl (by omega))
  by_cases n2 : s.size ≤ 60
  case neg => exact ptParse_len a b s w hne (.inr (by omega))
  by_cases h0 : s[0].toNat = 40
  case neg => exact ptParse_open a b s w hne n1 n2 h0
  by_cases h9 : s[s.size - 1].toNat = 41
  case neg => exact ptParse_close a b s w hne n1 n2 h0 h9
  have hM : (s.extract 1 (s.size - 1)).size ≤ s.size := extract_size_le _ _ _
  by_cases hl : (splitAll (s.extract 1 (s.size - 1)) 44).length = 2
  case neg => exact ptParse_parts a b s w hne n1 n2 h0 h9 hl
  obtain ⟨u, v, hp⟩ : ∃ u v, splitAll (s.extract 1 (s.size - 1)) 44 = [u, v] := by
    match hx : splitAll (s.extract 1 (s.size - 1)) 44, hl with
    | [u, v], _ => exact ⟨u, v, rfl⟩
  have hu : u.size ≤ 1048576 ∧ v.size ≤ 1048576 := splitAll_size hp (by omega)
  by_cases c1 : ∃ P Q, FrG P Q ∧ frB P Q = u
  case neg =>
    have d1 := fun W => frParse_no u W hu.1 (fun P Q g e => c1 ⟨P, Q, g, e⟩)
    by_cases c2 : ∃ P Q, FrG P Q ∧ frB P Q = v
    · obtain ⟨P2, Q2, g2, e2⟩ := c2
      exact ptParse_no1 a b s w hne n1 n2 h0 h9 u v hp 0 0 P2 Q2 true d1 (fun W => frParse_yes _ _ _ W hu.2 g2 e2)
    · exact ptParse_no1 a b s w hne n1 n2 h0 h9 u v hp 0 0 0 0 false d1 (fun W => frParse_no v W hu.2 (fun P Q g e => c2 ⟨P, Q, g, e⟩))
  obtain ⟨P, Q, g1, e1⟩ := c1
  have d1 := fun W => frParse_yes _ _ _ W hu.1 g1 e1
  by_cases c2 : ∃ P Q, FrG P Q ∧ frB P Q = v
  case neg => exact ptParse_no2 a b s w hne n1 n2 h0 h9 u v hp P Q 0 0 d1 (fun W => frParse_no v W hu.2 (fun P Q g e => c2 ⟨P, Q, g, e⟩))
  obtain ⟨P2, Q2, g2, e2⟩ := c2
  have d2 := fun W => frParse_yes _ _ _ W hu.2 g2 e2
  have cR := fun W => frRoot_i Q W (by have := g1.1; omega) (by have := g1.2.1; omega)
  have hE := iroot_bd g1.1
  by_cases ho : PtOn a b ⟨P, P2, iroot Q⟩
  · have hf : Fin3 a b ⟨P, P2, iroot Q⟩ := ho.fin (by show iroot Q ≠ 0; omega)
    refine ptParse_other a b s w hne n1 n2 h0 h9 u v hp P Q P2 Q2 d1 d2 _ cR (fun W => ?_) (ptTB ⟨P, P2, iroot Q⟩) (fun W => ptText_any W ho) (fun e => hno _ ⟨hf, e⟩)
    have := ptOnS_any a b ⟨P, P2, iroot Q⟩ W hc.1 hc.2
    rwa [decide_eq_true ho] at this
  · refine ptParse_off a b s w hne n1 n2 h0 h9 u v hp P Q P2 Q2 d1 d2 _ cR (fun W => ?_)
    have := ptOnS_any a b ⟨P, P2, iroot Q⟩ W hc.1 hc.2
    rwa [decide_eq_false ho] at this
end Go.Proofs.YtokhadhfjbecmaaDoor

namespace Go.Proofs.YtokhadhfjbecmaaDoor
open Go.RowKit Go.Joins

theorem cutC_any (t : ByteArray) (ht : t.size ≤ 1048576) (w : World) (hm : Mx w) :
    Calls Tryd.prog 20 #[.string t, .string ⟨#[44]⟩] w fun e w' => e = .returned (.tuple #[.string ⟨(Lib.cut t.data.toList [44]).1.toArray⟩, .string ⟨(Lib.cut t.data.toList [44]).2.1.toArray⟩, .bool (Lib.cut t.data.toList [44]).2.2]) ∧ Below w.heap.size w w' := by
  obtain ⟨m, hm⟩ := hm
  exact (Tryd.strings_Cut t ⟨#[44]⟩ m w (by omega) hm).mono fun e w' ⟨he, n, hw⟩ => ⟨he, by rw [hw]; exact Below.drewN' (Below.refl _ _) n⟩
theorem cut_le (l sep : List UInt8) : (Lib.cut l sep).1.length ≤ l.length := by
  unfold Lib.cut
  split
  · rw [List.length_take]; omega
  · exact Nat.le_refl _
theorem trim_le (l p : List UInt8) : (Lib.trimPrefix l p).length ≤ l.length := by
  unfold Lib.trimPrefix
  split
  · rw [List.length_drop]; omega
  · exact Nat.le_refl _
theorem ba_size (l : List UInt8) : (⟨l.toArray⟩ : ByteArray).size = l.length := by show l.toArray.size = _; simp
theorem ba_list (s : ByteArray) : s.data.toList.length = s.size := by show s.data.toList.length = s.data.size; simp
theorem mid_trim (p : P3) : Lib.trimPrefix ((⟨#[40]⟩ : ByteArray) ++ ptMid p ++ (⟨#[41]⟩ : ByteArray)).data.toList [40] = (ptMid p ++ (⟨#[41]⟩ : ByteArray)).data.toList := by
  have e : ((⟨#[40]⟩ : ByteArray) ++ ptMid p ++ (⟨#[41]⟩ : ByteArray)).data.toList = 40 :: (ptMid p ++ (⟨#[41]⟩ : ByteArray)).data.toList := by simp
  rw [e]
  unfold Lib.trimPrefix Lib.hasPrefix
  simp [List.isPrefixOf]
theorem mid_cut (p : P3) : (Lib.cut (ptMid p ++ (⟨#[41]⟩ : ByteArray)).data.toList [44]).1 = (frB p.x (p.e * p.e)).data.toList := by
  have e : ptMid p ++ (⟨#[41]⟩ : ByteArray) = frB p.x (p.e * p.e) ++ (⟨#[44]⟩ : ByteArray) ++ (frB p.y (p.e * p.e * p.e) ++ (⟨#[41]⟩ : ByteArray)) := by unfold ptMid; simp only [ba_assoc]
  rw [e, cut_atC _ _ (noSl_frC _ _)]
/-- Opposite points have different texts. -/
theorem neg_text {x y e : Int} (he : e ≠ 0) (hy : 0 < y) : ptTB ⟨x, -y, e⟩ ≠ ptTB ⟨x, y, e⟩ := by
  intro h
  rw [ptTB_fin (p := ⟨x, -y, e⟩) he, ptTB_fin (p := ⟨x, y, e⟩) he] at h
  have hd := congrArg (fun s : ByteArray => s.data.toList) h
  simp only [ptMid, ByteArray.data_append, Array.toList_append, List.append_assoc] at hd
  have h1 := List.append_cancel_left (List.append_cancel_left (List.append_cancel_left hd))
  obtain ⟨hs1, a1, -⟩ := intB_neg_at (p := -y) (by omega)
  obtain ⟨hs2, a2⟩ := intB_pos_at (p := y) (by omega)
  have key : ∀ (p q : Int) (t : List UInt8) (hs : 0 < (intB p).size), ((frB p q).data.toList ++ t)[0]? = some (intB p)[0] := by
    intro p q t hs
    have h0 : (intB p).data.toList[0]? = some (intB p)[0] := by
      rw [Array.getElem?_toList, Array.getElem?_eq_getElem (show 0 < (intB p).data.size from hs)]; rfl
    have hl : 0 < (intB p).data.toList.length := by rw [ba_list]; exact hs
    unfold frB
    split
    · rw [List.getElem?_append_left hl]; exact h0
    · rw [show (intB p ++ (⟨#[47]⟩ : ByteArray) ++ numB q.toNat).data.toList = (intB p).data.toList ++ 47 :: (numB q.toNat).data.toList from by simp, List.append_assoc, List.getElem?_append_left hl]
      exact h0
  have e1 := key (-y) (e * e * e) [41] hs1
  have e2 := key y (e * e * e) [41] hs2
  rw [h1] at e1
  have := e1.symm.trans e2
  simp only [Option.some.injEq] at this
  rw [this] at a1
  exact a2 a1
theorem atX_find {a b : Int} {s : ByteArray} {p : P3} (hf : Fin3 a b p) (ht : ptTB p = s) : findP (atX p.x p.e (ptV a b p.x p.e)) s = some p := by
  have he := hf.e
  have hv := hf.v
  have h0 : 0 ≤ p.y * p.y := sq_nn p.y
  have hi : iroot (ptV a b p.x p.e) = (p.y.natAbs : Int) := by
    rw [← hv, show p.y * p.y = (p.y.natAbs : Int) * (p.y.natAbs : Int) from Int.natAbs_mul_self.symm]
    exact iroot_sq (by omega)
  unfold findP atX
  rw [hi]
  have hsq : (p.y.natAbs : Int) * (p.y.natAbs : Int) = ptV a b p.x p.e := by rw [← hv]; exact Int.natAbs_mul_self
  rw [if_neg (fun k => k.elim (fun k => by omega) (fun k => k hsq))]
  by_cases hy : p.y = 0
  · have hz : ptV a b p.x p.e = 0 := by rw [← hv, hy]; rfl
    rw [if_pos hz]
    have e : (⟨p.x, 0, p.e⟩ : P3) = p := by cases p; simp only at hy; subst hy; rfl
    rw [e]
    simp [ht]
  · have hz : ptV a b p.x p.e ≠ 0 := by rw [← hv]; intro k; rcases Int.mul_eq_zero.1 k with k | k <;> exact hy k
    rw [if_neg hz]
    by_cases hp : p.y < 0
    · have e : (⟨p.x, -(p.y.natAbs : Int), p.e⟩ : P3) = p := by
        have : -(p.y.natAbs : Int) = p.y := by omega
        rw [this]
      rw [e]
      simp [ht]
    · have e : (⟨p.x, (p.y.natAbs : Int), p.e⟩ : P3) = p := by
        have : (p.y.natAbs : Int) = p.y := by omega
        rw [this]
      have hne : ptTB ⟨p.x, -(p.y.natAbs : Int), p.e⟩ ≠ s := by
        have hn := neg_text (x := p.x) (y := (p.y.natAbs : Int)) (e := p.e) (by omega) (by omega)
        rw [e, ht] at hn
        exact hn
      rw [e]
      simp [hne, ht]
theorem atX_few (x e V : Int) : (atX x e V).length ≤ 10 := by
  unfold atX
  split
  · simp
  · split <;> simp
theorem parsePI_any {a b : Int} {s : ByteArray} (w : World) (hL : EnvC w) (hs : s.size ≤ 1048576) (hne : s ≠ ⟨#[79]⟩) (r : Option P3) (hr : (∀ p, r = some p → EcG a b ∧ IsTx a b s p) ∧ (r = none → ¬ EcG a b ∨ ∀ p, ¬ IsTx a b s p)) :
    Calls Tryd.prog 10 #[.agg #[.int .i64 a, .int .i64 b], .string s] w (GivesO w r) := by
  have cT : ∀ W : World, Calls Tryd.prog 21 #[.string s, .string ⟨#[40]⟩] W fun e w' => e = .returned (.string ⟨(Lib.trimPrefix s.data.toList [40]).toArray⟩) ∧ W = w' := fun W => (Tryd.strings_TrimPrefix s ⟨#[40]⟩ W).mono fun e w' ⟨he, hw⟩ => ⟨he, hw.symm⟩
  have ht : (⟨(Lib.trimPrefix s.data.toList [40]).toArray⟩ : ByteArray).size ≤ 1048576 := by
    rw [ba_size]
    have := trim_le s.data.toList [40]
    rw [ba_list] at this
    omega
  have cC := fun W (hE : EnvC W) => cutC_any _ ht W hE.2
  have hf : (⟨(Lib.cut (Lib.trimPrefix s.data.toList [40]) [44]).1.toArray⟩ : ByteArray).size ≤ 1048576 := by
    rw [ba_size]
    have h1 := cut_le (Lib.trimPrefix s.data.toList [40]) [44]
    rw [ba_size] at ht
    omega
  generalize hF : (⟨(Lib.cut (Lib.trimPrefix s.data.toList [40]) [44]).1.toArray⟩ : ByteArray) = f at *
  -- the row of the points whose x the text tells
  obtain ⟨P, Q, o1, L, o2, c1, c2, hL2, hfin, hfind⟩ : ∃ (P Q : Int) (o1 : Bool) (L : List P3) (o2 : Bool), (∀ W : World, EnvC W → Calls Tryd.prog 22 #[.string f] W (GivesFB W P Q o1)) ∧ (∀ W : World, Calls Tryd.prog 23 #[.agg #[.int .i64 a, .int .i64 b], .agg #[.int .i64 P, .int .i64 Q]] W (GivesPRowOk W L o2)) ∧ L.length ≤ 10 ∧ (∀ q ∈ L, PtG a b q ∧ Fin3 a b q) ∧ (∀ p, r = some p → findP L s = some p) := by
    have fof : ∀ q, IsTx a b s q → frB q.x (q.e * q.e) = f := by
      intro q hq
      rw [← hF, ← hq.2, ptTB_fin (by have := hq.1.e; omega), mid_trim, mid_cut]
    obtain ⟨P, Q, o1, c1, hPQ⟩ : ∃ (P Q : Int) (o1 : Bool), (∀ W : World, EnvC W → Calls Tryd.prog 22 #[.string f] W (GivesFB W P Q o1)) ∧ (∀ p, r = some p → P = p.x ∧ Q = p.e * p.e) := by
      cases r with
      | some p =>
        have hp := (hr.1 p rfl).2
        exact ⟨p.x, p.e * p.e, true, fun W hE => parseI_yes _ _ f W hf hE (frX hp.1) (fof p hp), fun q hq => by cases hq; exact ⟨rfl, rfl⟩⟩
      | none =>
        by_cases h : ∃ P Q, FrG P Q ∧ frB P Q = f
        · obtain ⟨P, Q, g, e⟩ := h
          exact ⟨P, Q, true, fun W hE => parseI_yes P Q f W hf hE g e, fun p k => by cases k⟩
        · exact ⟨0, 0, false, fun W hE => parseI_no f W hf hE (fun P Q g e => h ⟨P, Q, g, e⟩), fun p k => by cases k⟩
    obtain ⟨R, hR⟩ := irt_ex Q
    by_cases g : EcG a b
    · by_cases hp : (R : Int) * R = Q ∧ Plc P R
      · refine ⟨P, Q, o1, _, true, c1, fun W => atXI_on W g hR hp.1 hp.2, atX_few _ _ _, fun q hq => ?_, fun p hrp => ?_⟩
        · have := (atX_fin ⟨g.1, g.2.1⟩ hp.2 hq).1
          exact ⟨⟨g, .inr this⟩, this⟩
        · have hx := (hr.1 p hrp).2
          obtain ⟨e1, e2⟩ := hPQ p hrp
          have hi : (R : Int) = p.e := by
            have := irt_iroot hR (by rw [e2]; exact sq_nn _) (by have := (ptE_bd hx.1.e).1; omega)
            rw [← this, e2]
            exact iroot_sq (by have := hx.1.e; omega)
          rw [e1, hi]
          exact atX_find hx.1 hx.2
      · refine ⟨P, Q, o1, [], false, c1, fun W => ?_, by simp, fun q hq => by simp at hq, fun p hrp => absurd ?_ hp⟩
        · by_cases h1 : (R : Int) * R = Q
          · exact atXI_pl a b P Q W g _ _ _ (fun W => placeAt_pl P Q R W hR h1 (fun k => hp ⟨h1, k⟩))
          · exact atXI_pl a b P Q W g _ _ _ (fun W => placeAt_sq P Q R W hR h1)
        · have hx := (hr.1 p hrp).2
          obtain ⟨e1, e2⟩ := hPQ p hrp
          have hi : (R : Int) = p.e := by
            have := irt_iroot hR (by rw [e2]; exact sq_nn _) (by have := (ptE_bd hx.1.e).1; omega)
            rw [← this, e2]
            exact iroot_sq (by have := hx.1.e; omega)
          rw [hi, e1, e2]
          exact ⟨rfl, hx.1.x, hx.1.e, hx.1.c⟩
    · refine ⟨P, Q, o1, [], false, c1, fun W => ?_, by simp, fun q hq => by simp at hq, fun p hrp => absurd (hr.1 p hrp).1 g⟩
      by_cases h1 : (R : Int) * R = Q
      · by_cases h2 : Plc P R
        · exact atXI_bad a b P Q W g _ _ _ _ (fun W => placeAt_yes P Q R W hR h1 h2)
        · exact atXI_bad a b P Q W g _ _ _ _ (fun W => placeAt_pl P Q R W hR h1 h2)
      · exact atXI_bad a b P Q W g _ _ _ _ (fun W => placeAt_sq P Q R W hR h1)
  have main := parsePI_c a b s w hL hne _ f _ _ o1 o2 P Q L hL2 cT cC c1 c2 (fun q hq W hE => ptextI_yes W hE.1 (hfin q hq).1)
  have hrr : findP L s = r := by
    cases r with
    | some p => exact hfind p rfl
    | none =>
      cases hx : findP L s with
      | none => rfl
      | some q =>
        have hm := List.mem_of_find?_eq_some hx
        have ht := List.find?_some hx
        have h1 := hfin q hm
        rcases hr.2 rfl with k | k
        · exact absurd h1.1.1 k
        · exact absurd ⟨h1.2, by simpa using ht⟩ (k q)
  rwa [hrr] at main
end Go.Proofs.YtokhadhfjbecmaaDoor

namespace Go.Proofs.YtokhadhfjbecmaaDoor
open Go.RowKit Go.Joins

set_option maxHeartbeats 4000000 in
set_option maxRecDepth 100000 in
theorem lawParsePoint_core (a0 b0 : Int) (s1 : ByteArray) (w : World) (hL : EnvC w) (hs1 : s1.size ≤ 1048576) (rx ry rz : Int) (ok : Bool)
    (hS : ∀ (W : World), Calls Tryd.prog 9 #[.agg #[.int .i64 a0, .int .i64 b0], .string s1] W (GivesPB W rx ry rz ok))
    (hI : ∀ (W : World), EnvC W → Calls Tryd.prog 10 #[.agg #[.int .i64 a0, .int .i64 b0], .string s1] W (GivesPB W rx ry rz ok)) :
    Calls Tryd.prog 4 #[.agg #[.int .i64 a0, .int .i64 b0], .string s1] w fun e w' => e = .returned (.bool true) ∧ Below w.heap.size w w' := by
  replace hS := Lib.hid hS
  replace hI := Lib.hid hI
  have hsz1 : ¬ (s1.size : Int) > 1048576 := by omega
  have eok : (ok != ok) = false := by simp
  have h := Below.refl w.heap.size w
  have hA := below_alloc1 w (.cells #[.int .i64 a0, .int .i64 b0] 23)
  replace h := Below.step h hA
  have hxa := Box.new w 23 #[.int .i64 a0, .int .i64 b0]
  clear hA
  go_enter Tryd.func4, Tryd.ntmps4
  obtain ⟨kaa, kba⟩ := hxa.two
  have kla := hxa.lt
  go_wp2_with fail
  refine (toCurve_any a0 b0 _).mono ?_
  rintro e w1 ⟨rfl, hb⟩
  replace h := Below.step h hb
  replace hxa := hxa.kept hb
  clear hb kaa kba kla
  obtain ⟨kaa, kba⟩ := hxa.two
  have kla := hxa.lt
  go_wp2_with fail
  refine (hS.out _).mono ?_
  rintro e w2 ⟨rfl, hb⟩
  replace h := Below.step h hb
  replace hxa := hxa.kept hb
  clear hb kaa kba kla
  obtain ⟨kaa, kba⟩ := hxa.two
  have kla := hxa.lt
  go_wp2_with fail
  have hA := below_alloc1 w2 (.cells #[.int .i64 rx, .int .i64 ry, .int .i64 rz] 30)
  have hxw := Box.new w2 30 #[.int .i64 rx, .int .i64 ry, .int .i64 rz]
  replace h := Below.step h hA
  replace hxa := hxa.kept hA
  clear hA kaa kba kla
  generalize w2.alloc (.cells #[.int .i64 rx, .int .i64 ry, .int .i64 rz] 30) = w3 at *
  generalize w2.heap.size = gw at hxw ⊢
  obtain ⟨kaa, kba⟩ := hxa.two
  have kla := hxa.lt
  obtain ⟨kaw, kbw, kcw⟩ := hxw.three
  have klw := hxw.lt
  go_wp2_with fail
  refine (toCurve_any a0 b0 _).mono ?_
  rintro e w4 ⟨rfl, hb⟩
  replace h := Below.step h hb
  replace hxa := hxa.kept hb
  replace hxw := hxw.kept hb
  clear hb kaa kba kla kaw kbw kcw klw
  obtain ⟨kaa, kba⟩ := hxa.two
  have kla := hxa.lt
  obtain ⟨kaw, kbw, kcw⟩ := hxw.three
  have klw := hxw.lt
  go_wp2_with fail
  refine (hI.out _ (by exact hL.kept h)).mono ?_
  rintro e w5 ⟨rfl, hb⟩
  replace h := Below.step h hb
  replace hxa := hxa.kept hb
  replace hxw := hxw.kept hb
  clear hb kaa kba kla kaw kbw kcw klw
  obtain ⟨kaa, kba⟩ := hxa.two
  have kla := hxa.lt
  obtain ⟨kaw, kbw, kcw⟩ := hxw.three
  have klw := hxw.lt
  go_wp2_with fail
  have hA := below_alloc1 w5 (.cells #[.int .i64 rx, .int .i64 ry, .int .i64 rz] 30)
  have hxg := Box.new w5 30 #[.int .i64 rx, .int .i64 ry, .int .i64 rz]
  replace h := Below.step h hA
  replace hxa := hxa.kept hA
  replace hxw := hxw.kept hA
  clear hA kaa kba kla kaw kbw kcw klw
  generalize w5.alloc (.cells #[.int .i64 rx, .int .i64 ry, .int .i64 rz] 30) = w6 at *
  generalize w5.heap.size = gg at hxg ⊢
  obtain ⟨kaa, kba⟩ := hxa.two
  have kla := hxa.lt
  obtain ⟨kaw, kbw, kcw⟩ := hxw.three
  have klw := hxw.lt
  obtain ⟨kag, kbg, kcg⟩ := hxg.three
  have klg := hxg.lt
  go_wp2_with fail
  refine (eqPoint_yes rx ry rz _).mono ?_
  rintro e w7 ⟨rfl, hb⟩
  replace h := Below.step h hb
  replace hxa := hxa.kept hb
  replace hxw := hxw.kept hb
  replace hxg := hxg.kept hb
  clear hb kaa kba kla kaw kbw kcw klw kag kbg kcg klg
  obtain ⟨kaa, kba⟩ := hxa.two
  have kla := hxa.lt
  obtain ⟨kaw, kbw, kcw⟩ := hxw.three
  have klw := hxw.lt
  obtain ⟨kag, kbg, kcg⟩ := hxg.three
  have klg := hxg.lt
  go_wp2
  go_ret
  exact ⟨rfl, h⟩
end Go.Proofs.YtokhadhfjbecmaaDoor

namespace Go.Proofs.YtokhadhfjbecmaaDoor
open Go.RowKit Go.Joins

set_option maxHeartbeats 1000000 in
set_option maxRecDepth 100000 in
theorem lawParsePoint_big (a b : Int) (s : ByteArray) (w : World) (hm : s.size ≤ maxLen) (hs : 1048576 < s.size) : Calls Tryd.prog 4 #[.agg #[.int .i64 a, .int .i64 b], .string s] w (fun e w' => e = .returned (.bool true) ∧ Below w.heap.size w w') := by
  have h1 : (s.size : Int) > 1048576 := by omega
  have hm' : (s.size : Int) ≤ 9223372036854775807 := by unfold maxLen at hm; omega
  clear hs hm
  have h := Below.refl w.heap.size w
  have hA := below_alloc1 w (.cells #[.int .i64 a, .int .i64 b] 23)
  have hxc := Box.new w 23 #[.int .i64 a, .int .i64 b]
  replace h := Below.step h hA
  clear hA
  obtain ⟨kc0, kc1⟩ := hxc.two
  have lc := hxc.lt
  go_enter Tryd.func4, Tryd.ntmps4
  go_wp2_with fail
  go_ret
  exact ⟨rfl, h⟩


theorem lawParsePoint_any (a b : Int) (s : ByteArray) (w : World) (hL : EnvC w) (_ : (-9223372036854775808 ≤ a ∧ a ≤ 9223372036854775807)) (_ : (-9223372036854775808 ≤ b ∧ b ≤ 9223372036854775807)) (hm : s.size ≤ maxLen) :
    Calls Tryd.prog 4 #[.agg #[.int .i64 a, .int .i64 b], .string s] w fun e w' => e = .returned (.bool true) ∧ Below w.heap.size w w' := by
  by_cases hs : s.size ≤ 1048576
  case neg => exact lawParsePoint_big a b s w hm (by omega)
  by_cases hO : s = ⟨#[79]⟩
  · subst hO
    by_cases g : EcG a b
    · refine lawParsePoint_core a b _ w hL hs 0 0 0 true (fun W => parsePS_c a b _ W g _ _ _ _ (fun W => ptParse_O a b W)) (fun W _ => ?_)
      have := parsePI_O a b W
      rwa [decide_eq_true g] at this
    · refine lawParsePoint_core a b _ w hL hs 0 0 0 false (fun W => parsePS_bad a b _ W g) (fun W _ => ?_)
      have := parsePI_O a b W
      rwa [decide_eq_false g] at this
  · by_cases g : EcG a b
    · by_cases hp : ∃ p, IsTx a b s p
      · obtain ⟨p, hp⟩ := hp
        exact lawParsePoint_core a b s w hL hs p.x p.y p.e true (fun W => parsePS_c a b s W g _ _ _ _ (fun W => ptParse_at W ⟨g.1, g.2.1⟩ hp hO)) (fun W hL => parsePI_any W hL hs hO (some p) ⟨fun q hq => (by cases hq; exact ⟨g, hp⟩), fun h => (by cases h)⟩)
      · have hno : ∀ p, ¬ IsTx a b s p := fun p k => hp ⟨p, k⟩
        exact lawParsePoint_core a b s w hL hs 0 0 0 false (fun W => parsePS_c a b s W g _ _ _ _ (fun W => ptParse_none W ⟨g.1, g.2.1⟩ hno hO)) (fun W hL => parsePI_any W hL hs hO none ⟨fun q hq => (by cases hq), fun _ => .inr hno⟩)
    · exact lawParsePoint_core a b s w hL hs 0 0 0 false (fun W => parsePS_bad a b s W g) (fun W hL => parsePI_any W hL hs hO none ⟨fun q hq => (by cases hq), fun _ => .inl g⟩)
end Go.Proofs.YtokhadhfjbecmaaDoor
