/- ParseWhole: the model and the program hand back the same; the law. -/
import Derived.Test.YtllbbfkgobhcgaaPwSpecB
import Derived.Test.YtllbbfkgobhcgaaPwSpecN
import Derived.Test.YtllbbfkgobhcgaaPwSpecP
import Derived.Test.YtllbbfkgobhcgaaPwImpl
import Derived.Test.YtllbbfkgobhcgaaPwImplN
import Derived.Test.YtllbbfkgobhcgaaPwLaw
namespace Go.Proofs.Ytllbbfkgobhcgaa
open Go.RowKit Go.Joins

def PS (s : ByteArray) (rn : Bool) (rs : List Int) (ok : Bool) : Prop := ∀ w : World, Calls Try.prog 4 #[.string s] w (GivesWholeOk w rn rs ok)
def PI (s : ByteArray) (rn : Bool) (rs : List Int) (ok : Bool) : Prop := ∀ w : World, Calls Try.prog 5 #[.string s] w (GivesWholeOk w rn rs ok)
def CT (nb : Bool) (D : List Int) (T : ByteArray) : Prop := ∀ (A : Option Addr) (c : Nat) (W : World), Rd W W.heap.size A D.length D → Calls Try.prog 12 #[.agg #[.bool nb, .slice A D.length c]] W fun e w' => e = .returned (.string T) ∧ Below W.heap.size W w'

theorem ne48 {t : ByteArray} (h : t ≠ ⟨#[48]⟩) : (t.toList == [48]) = false := by
  rw [beq_eq_false_iff_ne, ByteArray.toList_eq]
  intro e
  exact h (ByteArray.ext (Array.toList_inj.1 e))
theorem dig48 : dig ⟨#[48]⟩ 0 := by unfold dig; decide
theorem first_at {t : ByteArray} (h : 0 < t.size) : (t.data[0]?.getD 0).toNat = t[0].toNat := by rw [get_data h]

theorem pw_join (s t : ByteArray) (ng : Bool) (hst : signB ng ++ t = s)
    (hcut : ∀ W : World, Calls Try.prog 13 #[.string s, .string ⟨#[45]⟩] W fun e w' => e = .returned (.tuple #[.string t, .bool ng]) ∧ W = w')
    (sLen : (t.size : Int) < 1 ∨ 1600 < (t.size : Int) → PS s false [] false)
    (sBad : ∀ m, 1 ≤ t.size → t.size ≤ 1600 → m < t.size → ¬ dig t m → PS s false [] false)
    (sGood : 1 ≤ t.size → t.size ≤ 1600 → (∀ k, k < t.size → dig t k) → ∀ (V : Nat), valTo t t.size = V → ∀ (Z : Int), (if ng then -(V : Int) else (V : Int)) = Z → ∀ (nb : Bool), nb = decide (Z < 0) → ∀ (D : List Int), D = digs Z.natAbs → ∀ (T : ByteArray), CT nb D T →
      ∀ (bb rn : Bool) (rs : List Int), (bb = true → T = s ∧ rn = nb ∧ rs = D) → (bb = false → T ≠ s ∧ rn = false ∧ rs = []) → PS s rn rs bb) :
    ∃ (rn : Bool) (rs : List Int) (ok : Bool), rs.length ≤ 1048576 ∧ PS s rn rs ok ∧ PI s rn rs ok := by
  rcases Nat.lt_or_ge t.size 1 with h1 | h1
  · have e : t = ⟨#[]⟩ := ByteArray.ext (Array.eq_empty_of_size_eq_zero (by show t.size = 0; omega))
    subst e
    exact ⟨false, [], false, by simp, sLen (.inl (by decide)), fun w => pwI_bad s _ w ng hcut (by decide +kernel) (by decide) ipd_empty⟩
  rcases Nat.lt_or_ge 1600 t.size with h2 | h2
  · have hne : t ≠ ⟨#[48]⟩ := by rintro rfl; exact absurd h2 (by decide)
    exact ⟨false, [], false, by simp, sLen (.inr (by omega)), fun w => pwI_long s t w ng hcut (ne48 hne) (by omega)⟩
  rcases first_bad t t.size with ⟨m, hm, hdm, hbad⟩ | hd
  · have hne : t ≠ ⟨#[48]⟩ := by
      rintro rfl
      have : m = 0 := by have e : (⟨#[48]⟩ : ByteArray).size = 1 := rfl; omega
      subst this
      exact hbad dig48
    exact ⟨false, [], false, by simp, sBad m h1 h2 hm hbad, fun w => pwI_bad s t w ng hcut (ne48 hne) h2 (fun W => ipd_bad t W m hm hdm hbad)⟩
  obtain ⟨V, hV⟩ : ∃ V, V = valTo t t.size := ⟨_, rfl⟩
  obtain ⟨Z, hZ⟩ : ∃ Z : Int, (if ng then -(V : Int) else (V : Int)) = Z := ⟨_, rfl⟩
  have hZV : Z.natAbs = V := by rw [← hZ]; cases ng <;> simp
  obtain ⟨K, hK⟩ : ∃ K : Nat, K = 400 := ⟨_, rfl⟩
  have hVb : V < 10000 ^ K := by
    have a := sg_lt t 0 t.size (fun j hj => hd _ (by omega))
    rw [← sg_zero, ← hV] at a
    have b : 10 ^ t.size ≤ 10 ^ (4 * K) := Nat.pow_le_pow_right (by decide) (by omega)
    rw [Nat.pow_mul] at b
    exact Nat.lt_of_lt_of_le a b
  have hlen : (digs Z.natAbs).length ≤ 400 := by rw [hZV, ← hK]; exact digs_len hVb
  have hg := good_num Z hlen
  have cT : CT (decide (Z < 0)) (digs Z.natAbs) (txW (decide (Z < 0)) (digs Z.natAbs)) := fun A c W hr => bgText_any _ A _ c _ W hr hg
  have hT : txW (decide (Z < 0)) (digs Z.natAbs) = if V = 0 then ⟨#[48]⟩ else signB (decide (Z < 0)) ++ numB V := by rw [txW_digs, hZV]
  have hn : V ≠ 0 → decide (Z < 0) = ng := fun h => by
    rw [← hZ]; cases ng
    · rw [if_neg (by decide)]; exact decide_eq_false (by omega)
    · rw [if_pos rfl]; exact decide_eq_true (by omega)
  have good := sGood h1 h2 hd V hV.symm Z hZ _ rfl _ rfl _ cT
  by_cases h48 : t[0].toNat = 48
  · by_cases hone : t.size = 1
    · have et : t = ⟨#[48]⟩ := by
        apply ByteArray.ext
        apply Array.ext
        · exact hone
        · intro i hi _
          have : i = 0 := by have e : t.data.size = 1 := hone; omega
          subst this
          exact UInt8.toNat_inj.1 h48
      have hV0 : V = 0 := by rw [hV, et]; rfl
      have hZ0 : Z = 0 := by rw [← hZ, hV0]; cases ng <;> rfl
      rw [hT, if_pos hV0] at good
      subst et
      cases ng
      · have hs : s = ⟨#[48]⟩ := by rw [← hst]; exact empty_app _
        refine ⟨false, [], true, by simp, good true false [] (fun _ => ⟨hs.symm, by rw [hZ0]; rfl, by rw [hZ0]; rfl⟩) (fun h => by cases h), fun w => pwI_zero s w false hcut⟩
      · refine ⟨false, [], false, by simp, good false false [] (fun h => by cases h) (fun _ => ⟨fun e => ?_, rfl, rfl⟩), fun w => pwI_zero s w true hcut⟩
        rw [← hst] at e
        have := congrArg ByteArray.size e
        rw [ByteArray.size_append] at this
        exact absurd this (by decide)
    · have hne : t ≠ ⟨#[48]⟩ := by rintro rfl; exact hone rfl
      refine ⟨false, [], false, by simp, good false false [] (fun h => by cases h) (fun _ => ⟨fun e => ?_, rfl, rfl⟩), fun w => pwI_bad s t w ng hcut (ne48 hne) h2 (fun W => ipd_all t W h1 hd false (by rw [h48]; rfl))⟩
      rw [hT] at e
      by_cases hV0 : V = 0
      · rw [if_pos hV0, ← hst] at e
        have := congrArg ByteArray.size e
        rw [ByteArray.size_append] at this
        have e1 : (⟨#[48]⟩ : ByteArray).size = 1 := rfl
        omega
      · rw [if_neg hV0, hn hV0, ← hst] at e
        have e2 : numB V = t := by
          have e3 := congrArg (fun b : ByteArray => b.data.toList) e
          apply ByteArray.ext
          apply Array.toList_inj.1
          simpa using e3
        exact num_not (by omega) e2 (by rw [first_at h1]; exact h48)
  · have h0 : 1 ≤ dg t 0 := by
      have := hd 0 h1
      unfold dig at this
      unfold dg
      rw [first_at h1] at this ⊢
      omega
    have hVp := val_pos h0 t.size h1
    have hV0 : V ≠ 0 := by omega
    have eT : txW (decide (Z < 0)) (digs Z.natAbs) = s := by rw [hT, if_neg hV0, hn hV0, hV, num_text hd h1 h0, hst]
    have r1 : resNeg Z = decide (Z < 0) := by unfold resNeg; rw [if_pos hlen]
    have r2 : resDigs Z = digs Z.natAbs := by unfold resDigs; rw [if_pos hlen]
    have r3 : resOk Z = true := decide_eq_true hlen
    refine ⟨resNeg Z, resDigs Z, resOk Z, resDigs_len Z, ?_, fun w => pwI_good s t w ng hcut h1 h2 hd h48 Z (by rw [← hV]; exact hZ)⟩
    rw [r3]
    exact good true _ _ (fun _ => ⟨eT, r1, r2⟩) (fun h => by cases h)

theorem cut_of (s t : ByteArray) (ng : Bool) (h1 : Lib.hasPrefix s.data.toList [45] = ng) (h2 : (⟨(Lib.trimPrefix s.data.toList [45]).toArray⟩ : ByteArray) = t) (W : World) :
    Calls Try.prog 13 #[.string s, .string ⟨#[45]⟩] W fun e w' => e = .returned (.tuple #[.string t, .bool ng]) ∧ W = w' :=
  (Try.strings_CutPrefix s ⟨#[45]⟩ W).mono fun _ _ ⟨a, b⟩ => ⟨by rw [a, ← h1, ← h2], b.symm⟩

theorem pw_all (s : ByteArray) (hs : s.size ≤ 1048576) : ∃ (rn : Bool) (rs : List Int) (ok : Bool), rs.length ≤ 1048576 ∧ PS s rn rs ok ∧ PI s rn rs ok := by
  rcases hl : s.data.toList with _ | ⟨c, l⟩
  · have e : s = ⟨#[]⟩ := ByteArray.ext (Array.toList_inj.1 hl)
    subst e
    exact ⟨false, [], false, by simp, fun w => pwS_emp_len _ w hs rfl, fun w => pwI_bad _ ⟨#[]⟩ w false (cut_of _ _ _ rfl rfl) (by decide +kernel) (by decide) ipd_empty⟩
  · have e : s = ⟨(c :: l).toArray⟩ := ByteArray.ext (Array.toList_inj.1 (by rw [hl]))
    have hs0 : 0 < s.size := by rw [e]; show 0 < (c :: l).toArray.size; simp
    have hc0 : s[0] = c := by subst e; rfl
    by_cases hc : s[0].toNat = 45
    · have hc1 : c = 45 := by rw [← hc0]; exact UInt8.toNat_inj.1 hc
      subst hc1
      have ht : s.extract 1 s.size = (⟨l.toArray⟩ : ByteArray) := by
        subst e
        apply ByteArray.ext
        apply Array.toList_inj.1
        simp [ByteArray.size]
      have hpre : Lib.hasPrefix s.data.toList [45] = true := by rw [hl]; rfl
      have htz : (⟨l.toArray⟩ : ByteArray).size + 1 = s.size := by rw [e]; simp [ByteArray.size]
      refine pw_join s ⟨l.toArray⟩ true (by rw [e]; apply ByteArray.ext; simp [signB]) (cut_of s _ true hpre (by unfold Lib.trimPrefix; rw [if_pos hpre, hl]; rfl))
        (fun h w => pwS_neg_len s w hs _ ht htz hs0 hc h) (fun m h1 h2 hm hb w => pwS_neg_bad s w hs _ ht htz hs0 hc h1 h2 m hm hb)
        (fun h1 h2 hd V hV Z hZ nb hnb D hD T cT bb rn rs hy hn w => pwS_neg_good s w hs _ ht htz hs0 hc h1 h2 hd V hV Z hZ nb hnb D hD T cT bb rn rs hy hn)
    · have hpre : Lib.hasPrefix s.data.toList [45] = false := by
        rw [hl]
        show ([45] : List UInt8).isPrefixOf (c :: l) = false
        rw [List.isPrefixOf_cons_cons]
        have : ((45 : UInt8) == c) = false := by
          rw [beq_eq_false_iff_ne]; rintro rfl; exact hc (by rw [hc0]; rfl)
        rw [this]; rfl
      refine pw_join s s false (empty_app s) (cut_of s _ false hpre (by unfold Lib.trimPrefix; rw [hpre]; rfl))
        (fun h w => pwS_pos_len s w hs hs0 hc h) (fun m h1 h2 hm hb w => pwS_pos_bad s w hs hs0 hc h1 h2 m hm hb)
        (fun h1 h2 hd V hV Z hZ nb hnb D hD T cT bb rn rs hy hn w => pwS_pos_good s w hs hs0 hc h1 h2 hd V hV Z hZ nb hnb D hD T cT bb rn rs hy hn)

theorem lawParseWhole_any (s0 : ByteArray) (w : World) (hs0 : s0.size ≤ maxLen) :
    Calls Try.prog 3 #[.string s0] w fun e w' => e = .returned (.bool true) ∧ Below w.heap.size w w' := by
  by_cases hsz : s0.size ≤ 1048576
  · obtain ⟨rn, rs, ok, hrs, hS, hI⟩ := pw_all s0 hsz
    exact lawParseWhole_core s0 w hsz rn rs hrs ok hS hI
  · exact lawParseWhole_big s0 w hs0 (by omega)
end Go.Proofs.Ytllbbfkgobhcgaa
