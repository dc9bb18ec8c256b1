/- ParseFraction: both sides joined, and the law (written by wip/gen/txparse3.py). -/
import Derived.Test.YtchglkcfolannabDoorTxParseS
import Derived.Test.YtchglkcfolannabDoorTxParseI
namespace Go.Proofs.YtchglkcfolannabDoor
open Go.RowKit Go.Joins

theorem intB_neg_at {p : Int} (h : p < 0) : ∃ hs : 0 < (intB p).size, ((intB p)[0]'hs).toNat = 45 ∧ (intB p).extract 1 (intB p).size = numB p.natAbs := by
  have hd : (intB p).data.toList = 45 :: Lib.decDigits p.natAbs := by unfold intB Lib.itoa; rw [if_pos h]
  have hz : 0 < (intB p).size := by
    have : (intB p).data.toList.length = (intB p).size := by rw [Array.length_toList]; rfl
    rw [hd] at this
    simp at this
    omega
  refine ⟨hz, ?_, ?_⟩
  · have e3 : (intB p)[0]'hz = 45 := by
      show (intB p).data[0]'_ = 45
      rw [← Array.getElem_toList]
      simp [hd]
    rw [e3]; rfl
  · apply ByteArray.ext
    apply Array.toList_inj.1
    rw [ByteArray.data_extract, Array.toList_extract, hd]
    unfold List.extract
    show List.take _ (Lib.decDigits p.natAbs) = Lib.decDigits p.natAbs
    refine List.take_of_length_le ?_
    have : (intB p).data.toList.length = (intB p).size := by rw [Array.length_toList]; rfl
    rw [hd] at this
    simp at this
    omega
theorem intB_pos_at {p : Int} (h : 0 ≤ p) : ∃ hs : 0 < (intB p).size, ((intB p)[0]'hs).toNat ≠ 45 := by
  have e := intB_pos h
  rw [e]
  refine ⟨numB_pos _, ?_⟩
  have hd := numB_dig p.toNat 0 (numB_pos _)
  unfold dig at hd
  rw [get_data (numB_pos _)] at hd
  omega
theorem intB_eleven {p : Int} (h0 : -1000000000 ≤ p) (h1 : p ≤ 1000000000) : (intB p).size ≤ 11 := by
  by_cases h : p < 0
  · rw [intB_neg h, ByteArray.size_append]
    have := numB_ten p.natAbs (by omega)
    show 1 + _ ≤ _
    omega
  · rw [intB_pos (by omega)]
    have := numB_ten p.toNat (by omega)
    omega
theorem frB_size {p q : Int} (g : FrG p q) : (frB p q).size ≤ 22 := by
  obtain ⟨h1, h2, h3, h4, -⟩ := g
  have a := intB_eleven h3 h4
  unfold frB
  split
  · omega
  · rw [app_size]
    have := numB_ten q.toNat (by omega)
    omega

theorem frParse_yes (p q : Int) (s : ByteArray) (w : World) (hs : s.size ≤ 1048576) (g : FrG p q) (hf : frB p q = s) : Calls Tryd.prog 51 #[.string s] w (GivesFB w p q true) := by
  have hl : s.size ≤ 22 := by rw [← hf]; exact frB_size g
  have g' := g
  obtain ⟨h1, h2, h3, h4, -⟩ := g'
  have cG := fun W => frGood_yes p q W g
  have cT := fun W => frText_any p q W g
  rw [hf] at cT
  obtain ⟨z0, -, -, c0⟩ := frRead_some (intB p)
  by_cases hq : q = 1
  · subst hq
    rw [frB_one] at hf
    have hp := split_no (intB p) (noSl_int p)
    rw [hf] at hp
    by_cases hneg : p < 0
    · obtain ⟨hz, hc, he⟩ := intB_neg_at hneg
      have c1 := fun W => frRead_num p.natAbs (by omega) W
      rw [← he] at c1
      have e : -((p.natAbs : Nat) : Int) = p := by omega
      rw [← e] at cG cT
      rw [hf] at c0
      have c1' := c1
      have r := parseS_neg_good1 s w hs hl s z0 _ hp (by rw [← hf]; exact hz) (by subst hf; exact hc) c0 ⟨by omega, by omega⟩ (by subst hf; exact c1') cG cT
      rw [e] at r
      exact r
    · obtain ⟨hz, hc⟩ := intB_pos_at (p := p) (by omega)
      have c0 := fun W => frRead_num p.toNat (by omega) W
      rw [← intB_pos (by omega), show ((p.toNat : Nat) : Int) = p from by omega] at c0
      rw [hf] at c0
      exact parseS_pos_good1 s w hs hl s p hp (by rw [← hf]; exact hz) (by subst hf; exact hc) c0 cG cT
  · have hq2 : frB p q = intB p ++ (⟨#[47]⟩ : ByteArray) ++ numB q.toNat := by unfold frB; rw [if_neg hq]
    have hp := split_at_ (intB p) (numB q.toNat) (noSl_int p) (noSl_num _)
    rw [← hq2, hf] at hp
    have c2 := fun W => frRead_num q.toNat (by omega) W
    rw [show ((q.toNat : Nat) : Int) = q from by omega] at c2
    by_cases hneg : p < 0
    · obtain ⟨hz, hc, he⟩ := intB_neg_at hneg
      have c1 := fun W => frRead_num p.natAbs (by omega) W
      rw [← he] at c1
      have e : -((p.natAbs : Nat) : Int) = p := by omega
      rw [← e] at cG cT
      have r := parseS_neg_good2 s w hs hl (intB p) _ z0 _ q hp hz hc c0 ⟨by omega, by omega⟩ c1 c2 cG cT
      rw [e] at r
      exact r
    · obtain ⟨hz, hc⟩ := intB_pos_at (p := p) (by omega)
      have c0 := fun W => frRead_num p.toNat (by omega) W
      rw [← intB_pos (by omega), show ((p.toNat : Nat) : Int) = p from by omega] at c0
      exact parseS_pos_good2 s w hs hl (intB p) _ p q hp hz hc c0 c2 cG cT

theorem frParse_no (s : ByteArray) (w : World) (hs : s.size ≤ 1048576) (hno : ∀ p q, FrG p q → frB p q ≠ s) : Calls Tryd.prog 51 #[.string s] w (GivesFB w 0 0 false) := by
  by_cases hl : 22 < s.size
  · exact parseS_long s w hs hl
  · have hl' : s.size ≤ 22 := by omega
    by_cases hn : 2 < (splitAll s 47).length
    · exact parseS_many s w hs hl' hn
    · rcases hp : splitAll s 47 with _ | ⟨a, _ | ⟨b, _ | ⟨c, l⟩⟩⟩
      · have : (splitAll s 47).length = (splitTo s 47 s.size).1.length + 1 := by unfold splitAll; simp
        rw [hp] at this
        simp at this
      · obtain ⟨z0, -, -, c0⟩ := frRead_some a
        by_cases hz : 0 < a.size
        · by_cases hc : a[0].toNat = 45
          · obtain ⟨z1, b1, b2, c1⟩ := frRead_some (a.extract 1 a.size)
            by_cases g : FrG (-z1) 1
            · exact parseS_neg_other1 s w hs hl' a _ z0 z1 hp hz hc c0 ⟨b1, b2⟩ c1 (fun W => frGood_yes _ _ W g) (fun W => frText_any _ _ W g) (hno _ _ g)
            · exact parseS_neg_bad1 s w hs hl' a z0 z1 hp hz hc c0 ⟨b1, b2⟩ c1 (fun W => frGood_no _ _ W g)
          · by_cases g : FrG z0 1
            · exact parseS_pos_other1 s w hs hl' a _ z0 hp hz hc c0 (fun W => frGood_yes _ _ W g) (fun W => frText_any _ _ W g) (hno _ _ g)
            · exact parseS_pos_bad1 s w hs hl' a z0 hp hz hc c0 (fun W => frGood_no _ _ W g)
        · have hz' : a.size = 0 := by omega
          by_cases g : FrG z0 1
          · exact parseS_emp_other1 s w hs hl' a _ z0 hp hz' c0 (fun W => frGood_yes _ _ W g) (fun W => frText_any _ _ W g) (hno _ _ g)
          · exact parseS_emp_bad1 s w hs hl' a z0 hp hz' c0 (fun W => frGood_no _ _ W g)
      · obtain ⟨z0, -, -, c0⟩ := frRead_some a
        obtain ⟨z2, -, -, c2⟩ := frRead_some b
        by_cases hz : 0 < a.size
        · by_cases hc : a[0].toNat = 45
          · obtain ⟨z1, b1, b2, c1⟩ := frRead_some (a.extract 1 a.size)
            by_cases g : FrG (-z1) z2
            · exact parseS_neg_other2 s w hs hl' a b _ z0 z1 z2 hp hz hc c0 ⟨b1, b2⟩ c1 c2 (fun W => frGood_yes _ _ W g) (fun W => frText_any _ _ W g) (hno _ _ g)
            · exact parseS_neg_bad2 s w hs hl' a b z0 z1 z2 hp hz hc c0 ⟨b1, b2⟩ c1 c2 (fun W => frGood_no _ _ W g)
          · by_cases g : FrG z0 z2
            · exact parseS_pos_other2 s w hs hl' a b _ z0 z2 hp hz hc c0 c2 (fun W => frGood_yes _ _ W g) (fun W => frText_any _ _ W g) (hno _ _ g)
            · exact parseS_pos_bad2 s w hs hl' a b z0 z2 hp hz hc c0 c2 (fun W => frGood_no _ _ W g)
        · have hz' : a.size = 0 := by omega
          by_cases g : FrG z0 z2
          · exact parseS_emp_other2 s w hs hl' a b _ z0 z2 hp hz' c0 c2 (fun W => frGood_yes _ _ W g) (fun W => frText_any _ _ W g) (hno _ _ g)
          · exact parseS_emp_bad2 s w hs hl' a b z0 z2 hp hz' c0 c2 (fun W => frGood_no _ _ W g)
      · rw [hp] at hn
        simp at hn

set_option maxHeartbeats 1000000 in
theorem parseS_wrap (s : ByteArray) (P Q : Int) (B : Bool) (w : World) (cF : ∀ W : World, Calls Tryd.prog 51 #[.string s] W (GivesFB W P Q B)) : Calls Tryd.prog 19 #[.string s] w (GivesFB w P Q B) := by
  replace cF := Lib.hid cF
  have h := Below.refl w.heap.size w
  have hA := below_alloc1 w (.cells #[.int .i64 0, .int .i64 0] 24)
  replace h := Below.step h hA
  have hxr := Box.new w 24 #[.int .i64 0, .int .i64 0]
  clear hA
  go_enter Tryd.func19, Tryd.ntmps19
  go_wp2_with fail
  refine (cF.out _).mono ?_
  rintro e w1 ⟨rfl, hb⟩
  replace h := Below.step h hb
  replace hxr := hxr.kept hb
  clear hb
  obtain ⟨ahxr, bhxr⟩ := hxr.two
  have lhxr := hxr.lt
  have f0 := hxr.free 0
  have f1 := hxr.free 1
  go_wp2_with fail
  refine bodyPost_ret (v := .tuple #[.agg #[.int .i64 (P), .int .i64 (Q)], .bool B]) (by simp [results, Tryd.results19, go_sem, ahxr, bhxr]) rfl ⟨rfl, ?_⟩
  exact (h.setCell (by first | (simp; done) | (simp; omega)) _).setCell (by first | (simp; done) | (simp; omega)) _

theorem parseI_yes (p q : Int) (s : ByteArray) (w : World) (hs : s.size ≤ 1048576) (hE : EnvC w) (g : FrG p q) (hf : frB p q = s) : Calls Tryd.prog 18 #[.string s] w (GivesFB w p q true) := by
  have g' := g
  obtain ⟨h1, h2, h3, h4, -⟩ := g'
  have cT := fun (W : World) (hE : Env W) => textI_yes p q W hE.1 hE.2 g
  rw [hf] at cT
  by_cases hq : q = 1
  · subst hq
    rw [frB_one] at hf
    subst hf
    exact parseI_good1 (intB p) w hs hE (intB p) ⟨#[]⟩ p (by rw [cut_no _ (noSl_int p)]) (fun W => readSigned_int p (by omega) (by omega) W) cT
  · have hq2 : frB p q = intB p ++ (⟨#[47]⟩ : ByteArray) ++ intB q := by unfold frB; rw [if_neg hq, intB_pos (z := q) (by omega)]
    have hc := cut_at (intB p) (intB q) (noSl_int p)
    rw [← hq2, hf] at hc
    exact parseI_good2 s w hs hE (intB p) (intB q) p q hc (fun W => readSigned_int p (by omega) (by omega) W) (fun W => readSigned_int q (by omega) (by omega) W) cT

theorem parseI_no (s : ByteArray) (w : World) (hs : s.size ≤ 1048576) (hE : EnvC w) (hno : ∀ p q, FrG p q → frB p q ≠ s) : Calls Tryd.prog 18 #[.string s] w (GivesFB w 0 0 false) := by
  obtain ⟨x, hx⟩ : ∃ x : ByteArray, x = ⟨(Lib.cut s.data.toList [47]).1.toArray⟩ := ⟨_, rfl⟩
  obtain ⟨y, hy⟩ : ∃ y : ByteArray, y = ⟨(Lib.cut s.data.toList [47]).2.1.toArray⟩ := ⟨_, rfl⟩
  obtain ⟨P, -, -, c1⟩ := readSigned_some x
  obtain ⟨Q, -, -, c2⟩ := readSigned_some y
  rcases hb : (Lib.cut s.data.toList [47]).2.2 with _ | _
  · have hc : Lib.cut s.data.toList [47] = (x.data.toList, y.data.toList, false) := by rw [hx, hy, ← hb]
    by_cases g : FrG P 1
    · exact parseI_other1 s w hs hE x y _ P hc c1 (fun W hE => textI_yes P 1 W hE.1 hE.2 g) (hno _ _ g)
    · exact parseI_bad1 s w hs hE x y _ P hc c1 (fun W hE => textI_no P 1 W hE.1 g)
  · have hc : Lib.cut s.data.toList [47] = (x.data.toList, y.data.toList, true) := by rw [hx, hy, ← hb]
    by_cases g : FrG P Q
    · exact parseI_other2 s w hs hE x y _ P Q hc c1 c2 (fun W hE => textI_yes P Q W hE.1 hE.2 g) (hno _ _ g)
    · exact parseI_bad2 s w hs hE x y _ P Q hc c1 c2 (fun W hE => textI_no P Q W hE.1 g)
end Go.Proofs.YtchglkcfolannabDoor
