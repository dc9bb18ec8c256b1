/- ParseCurve of the program; the law (written by wip/gen/ecpari.py). -/
import Derived.Test.YtoekhkppjccceaaDoorTxParseI
import Derived.Test.YtoekhkppjccceaaDoorEcParS
import Derived.Test.YtoekhkppjccceaaDoorTxLParseCurve
namespace Go.Proofs.YtoekhkppjccceaaDoor
open Go.RowKit Go.Joins

set_option maxHeartbeats 3000000 in
theorem parI_bad (s x y : ByteArray) (B : Bool) (p q : Int) (w : World) (hs : s.size ≤ 1048576) (hL : EnvC w) (hx : Lib.cut s.data.toList [32] = (x.data.toList, y.data.toList, B)) (cx : ∀ w : World, Calls Tryd.prog 17 #[.string x] w fun e w' => e = .returned (.int .i64 p) ∧ Below w.heap.size w w') (cy : ∀ w : World, Calls Tryd.prog 17 #[.string y] w fun e w' => e = .returned (.int .i64 q) ∧ Below w.heap.size w w') (g : ¬ EcG p q) : Calls Tryd.prog 9 #[.string s] w (GivesFB w 0 0 false) := by
  have c0 := cut_any s hs
  rw [hx] at c0
  replace c0 := Lib.hid c0
  replace cx := Lib.hid cx
  replace cy := Lib.hid cy
  clear hx
  have h := Below.refl w.heap.size w
  have hA := below_alloc1 w (.cells #[.int .i64 0, .int .i64 0] 26)
  have hxr := Box.new w 26 #[.int .i64 0, .int .i64 0]
  replace h := Below.step h hA
  clear hA
  obtain ⟨kr0, kr1⟩ := hxr.two
  have lr := hxr.lt
  replace hL := hL.kept h
  go_enter Tryd.func9, Tryd.ntmps9
  go_wp2_with fail
  refine (c0.out _ (by exact hL.2)).mono ?_
  rintro e w1 ⟨rfl, hb⟩
  replace h := Below.step h hb
  replace hxr := hxr.kept hb
  replace hL := hL.kept hb
  clear hb kr0 kr1 lr
  obtain ⟨kr0, kr1⟩ := hxr.two
  have lr := hxr.lt
  go_wp2_with fail
  refine (cx.out _).mono ?_
  rintro e w2 ⟨rfl, hb⟩
  replace h := Below.step h hb
  replace hxr := hxr.kept hb
  replace hL := hL.kept hb
  clear hb kr0 kr1 lr
  obtain ⟨kr0, kr1⟩ := hxr.two
  have lr := hxr.lt
  go_wp2_with fail
  refine (cy.out _).mono ?_
  rintro e w3 ⟨rfl, hb⟩
  replace h := Below.step h hb
  replace hxr := hxr.kept hb
  replace hL := hL.kept hb
  clear hb kr0 kr1 lr
  obtain ⟨kr0, kr1⟩ := hxr.two
  have lr := hxr.lt
  go_wp2_with fail
  have hA := below_alloc1 w3 (.cells #[.int .i64 p, .int .i64 q] 26)
  have hxc := Box.new w3 26 #[.int .i64 p, .int .i64 q]
  replace h := Below.step h hA
  replace hxr := hxr.kept hA
  replace hL := hL.kept hA
  clear hA kr0 kr1 lr
  generalize w3.alloc (.cells #[.int .i64 p, .int .i64 q] 26) = w4 at *
  generalize w3.heap.size = gc at hxc ⊢
  obtain ⟨kr0, kr1⟩ := hxr.two
  have lr := hxr.lt
  obtain ⟨kc0, kc1⟩ := hxc.two
  have lc := hxc.lt
  refine (ctextI_bad p q _ g).mono ?_
  rintro e w5 ⟨rfl, hb⟩
  replace h := Below.step h hb
  replace hxr := hxr.kept hb
  replace hxc := hxc.kept hb
  replace hL := hL.kept hb
  clear hb kr0 kr1 lr kc0 kc1 lc
  obtain ⟨kr0, kr1⟩ := hxr.two
  have lr := hxr.lt
  obtain ⟨kc0, kc1⟩ := hxc.two
  have lc := hxc.lt
  have fr0 := hxr.free 0
  have fr1 := hxr.free 1
  obtain ⟨sr0, sr1⟩ := ((hxr.set 0 (.int .i64 (0))).set 1 (.int .i64 (0))).two
  go_wp2_with fail
  refine bodyPost_ret (v := .tuple #[.agg #[.int .i64 (0), .int .i64 (0)], .bool false]) (by simp [results, Tryd.results9, go_sem, sr0, sr1]) (by rfl) ⟨by rfl, ?_⟩
  exact below_sets2 h (Nat.le_refl _) _ _


set_option maxHeartbeats 3000000 in
theorem parI_other (s x y : ByteArray) (B : Bool) (p q : Int) (w : World) (hs : s.size ≤ 1048576) (hL : EnvC w) (hx : Lib.cut s.data.toList [32] = (x.data.toList, y.data.toList, B)) (cx : ∀ w : World, Calls Tryd.prog 17 #[.string x] w fun e w' => e = .returned (.int .i64 p) ∧ Below w.heap.size w w') (cy : ∀ w : World, Calls Tryd.prog 17 #[.string y] w fun e w' => e = .returned (.int .i64 q) ∧ Below w.heap.size w w') (T : ByteArray) (g : EcG p q) (hT : ecTB p q = T) (hne : T ≠ s) : Calls Tryd.prog 9 #[.string s] w (GivesFB w 0 0 false) := by
  have c0 := cut_any s hs
  rw [hx] at c0
  replace c0 := Lib.hid c0
  replace cx := Lib.hid cx
  replace cy := Lib.hid cy
  have ene : (T.toList != s.toList) = true := by rw [bne_iff_ne]; exact fun e => hne (ba_injI e)
  have ene2 : (T.toList == s.toList) = false := by rw [beq_eq_false_iff_ne]; exact fun e => hne (ba_injI e)
  have key := fun (W : World) (h : Pow W) => ctextI_yes p q T W h g hT
  replace key := Lib.hid key
  clear hT
  clear hx
  have h := Below.refl w.heap.size w
  have hA := below_alloc1 w (.cells #[.int .i64 0, .int .i64 0] 26)
  have hxr := Box.new w 26 #[.int .i64 0, .int .i64 0]
  replace h := Below.step h hA
  clear hA
  obtain ⟨kr0, kr1⟩ := hxr.two
  have lr := hxr.lt
  replace hL := hL.kept h
  go_enter Tryd.func9, Tryd.ntmps9
  go_wp2_with fail
  refine (c0.out _ (by exact hL.2)).mono ?_
  rintro e w1 ⟨rfl, hb⟩
  replace h := Below.step h hb
  replace hxr := hxr.kept hb
  replace hL := hL.kept hb
  clear hb kr0 kr1 lr
  obtain ⟨kr0, kr1⟩ := hxr.two
  have lr := hxr.lt
  go_wp2_with fail
  refine (cx.out _).mono ?_
  rintro e w2 ⟨rfl, hb⟩
  replace h := Below.step h hb
  replace hxr := hxr.kept hb
  replace hL := hL.kept hb
  clear hb kr0 kr1 lr
  obtain ⟨kr0, kr1⟩ := hxr.two
  have lr := hxr.lt
  go_wp2_with fail
  refine (cy.out _).mono ?_
  rintro e w3 ⟨rfl, hb⟩
  replace h := Below.step h hb
  replace hxr := hxr.kept hb
  replace hL := hL.kept hb
  clear hb kr0 kr1 lr
  obtain ⟨kr0, kr1⟩ := hxr.two
  have lr := hxr.lt
  go_wp2_with fail
  have hA := below_alloc1 w3 (.cells #[.int .i64 p, .int .i64 q] 26)
  have hxc := Box.new w3 26 #[.int .i64 p, .int .i64 q]
  replace h := Below.step h hA
  replace hxr := hxr.kept hA
  replace hL := hL.kept hA
  clear hA kr0 kr1 lr
  generalize w3.alloc (.cells #[.int .i64 p, .int .i64 q] 26) = w4 at *
  generalize w3.heap.size = gc at hxc ⊢
  obtain ⟨kr0, kr1⟩ := hxr.two
  have lr := hxr.lt
  obtain ⟨kc0, kc1⟩ := hxc.two
  have lc := hxc.lt
  refine (key.out _ (by exact hL.1)).mono ?_
  rintro e w5 ⟨rfl, hb⟩
  replace h := Below.step h hb
  replace hxr := hxr.kept hb
  replace hxc := hxc.kept hb
  replace hL := hL.kept hb
  clear hb kr0 kr1 lr kc0 kc1 lc
  obtain ⟨kr0, kr1⟩ := hxr.two
  have lr := hxr.lt
  obtain ⟨kc0, kc1⟩ := hxc.two
  have lc := hxc.lt
  have fr0 := hxr.free 0
  have fr1 := hxr.free 1
  obtain ⟨sr0, sr1⟩ := ((hxr.set 0 (.int .i64 (0))).set 1 (.int .i64 (0))).two
  go_wp2_with fail
  refine bodyPost_ret (v := .tuple #[.agg #[.int .i64 (0), .int .i64 (0)], .bool false]) (by simp [results, Tryd.results9, go_sem, sr0, sr1]) (by rfl) ⟨by rfl, ?_⟩
  exact below_sets2 h (Nat.le_refl _) _ _


set_option maxHeartbeats 3000000 in
theorem parI_good (s x y : ByteArray) (B : Bool) (p q : Int) (w : World) (hs : s.size ≤ 1048576) (hL : EnvC w) (hx : Lib.cut s.data.toList [32] = (x.data.toList, y.data.toList, B)) (cx : ∀ w : World, Calls Tryd.prog 17 #[.string x] w fun e w' => e = .returned (.int .i64 p) ∧ Below w.heap.size w w') (cy : ∀ w : World, Calls Tryd.prog 17 #[.string y] w fun e w' => e = .returned (.int .i64 q) ∧ Below w.heap.size w w') (T : ByteArray) (g : EcG p q) (hT : ecTB p q = T) (hTs : T = s) : Calls Tryd.prog 9 #[.string s] w (GivesFB w p q true) := by
  have c0 := cut_any s hs
  rw [hx] at c0
  replace c0 := Lib.hid c0
  replace cx := Lib.hid cx
  replace cy := Lib.hid cy
  subst hTs
  have key := fun (W : World) (h : Pow W) => ctextI_yes p q T W h g hT
  replace key := Lib.hid key
  clear hT
  clear hx
  have h := Below.refl w.heap.size w
  have hA := below_alloc1 w (.cells #[.int .i64 0, .int .i64 0] 26)
  have hxr := Box.new w 26 #[.int .i64 0, .int .i64 0]
  replace h := Below.step h hA
  clear hA
  obtain ⟨kr0, kr1⟩ := hxr.two
  have lr := hxr.lt
  replace hL := hL.kept h
  go_enter Tryd.func9, Tryd.ntmps9
  go_wp2_with fail
  refine (c0.out _ (by exact hL.2)).mono ?_
  rintro e w1 ⟨rfl, hb⟩
  replace h := Below.step h hb
  replace hxr := hxr.kept hb
  replace hL := hL.kept hb
  clear hb kr0 kr1 lr
  obtain ⟨kr0, kr1⟩ := hxr.two
  have lr := hxr.lt
  go_wp2_with fail
  refine (cx.out _).mono ?_
  rintro e w2 ⟨rfl, hb⟩
  replace h := Below.step h hb
  replace hxr := hxr.kept hb
  replace hL := hL.kept hb
  clear hb kr0 kr1 lr
  obtain ⟨kr0, kr1⟩ := hxr.two
  have lr := hxr.lt
  go_wp2_with fail
  refine (cy.out _).mono ?_
  rintro e w3 ⟨rfl, hb⟩
  replace h := Below.step h hb
  replace hxr := hxr.kept hb
  replace hL := hL.kept hb
  clear hb kr0 kr1 lr
  obtain ⟨kr0, kr1⟩ := hxr.two
  have lr := hxr.lt
  go_wp2_with fail
  have hA := below_alloc1 w3 (.cells #[.int .i64 p, .int .i64 q] 26)
  have hxc := Box.new w3 26 #[.int .i64 p, .int .i64 q]
  replace h := Below.step h hA
  replace hxr := hxr.kept hA
  replace hL := hL.kept hA
  clear hA kr0 kr1 lr
  generalize w3.alloc (.cells #[.int .i64 p, .int .i64 q] 26) = w4 at *
  generalize w3.heap.size = gc at hxc ⊢
  obtain ⟨kr0, kr1⟩ := hxr.two
  have lr := hxr.lt
  obtain ⟨kc0, kc1⟩ := hxc.two
  have lc := hxc.lt
  refine (key.out _ (by exact hL.1)).mono ?_
  rintro e w5 ⟨rfl, hb⟩
  replace h := Below.step h hb
  replace hxr := hxr.kept hb
  replace hxc := hxc.kept hb
  replace hL := hL.kept hb
  clear hb kr0 kr1 lr kc0 kc1 lc
  obtain ⟨kr0, kr1⟩ := hxr.two
  have lr := hxr.lt
  obtain ⟨kc0, kc1⟩ := hxc.two
  have lc := hxc.lt
  have fr0 := hxr.free 0
  have fr1 := hxr.free 1
  obtain ⟨sr0, sr1⟩ := ((hxr.set 0 (.int .i64 (p))).set 1 (.int .i64 (q))).two
  go_wp2_with fail
  refine bodyPost_ret (v := .tuple #[.agg #[.int .i64 (p), .int .i64 (q)], .bool true]) (by simp [results, Tryd.results9, go_sem, sr0, sr1]) (by rfl) ⟨by rfl, ?_⟩
  exact below_sets2 h (Nat.le_refl _) _ _


theorem parseI_yes (p q : Int) (s : ByteArray) (w : World) (hs : s.size ≤ 1048576) (hL : EnvC w) (g : EcG p q) (hf : ecTB p q = s) : Calls Tryd.prog 9 #[.string s] w (GivesFB w p q true) := by
  have hc := cut_at (intB p) (intB q) (noBl_int p)
  rw [show intB p ++ (⟨#[32]⟩ : ByteArray) ++ intB q = s from hf] at hc
  obtain ⟨⟨h1, h2⟩, ⟨h3, h4⟩, -⟩ := id g
  exact parI_good s (intB p) (intB q) true p q w hs hL hc (fun W => readSigned_int p (by omega) (by omega) W) (fun W => readSigned_int q (by omega) (by omega) W) _ g hf rfl
theorem parseI_no (s : ByteArray) (w : World) (hs : s.size ≤ 1048576) (hL : EnvC w) (hno : ∀ p q, EcG p q → ecTB p q ≠ s) : Calls Tryd.prog 9 #[.string s] w (GivesFB w 0 0 false) := by
  obtain ⟨x, hx⟩ : ∃ x : ByteArray, x = ⟨(Lib.cut s.data.toList [32]).1.toArray⟩ := ⟨_, rfl⟩
  obtain ⟨y, hy⟩ : ∃ y : ByteArray, y = ⟨(Lib.cut s.data.toList [32]).2.1.toArray⟩ := ⟨_, rfl⟩
  obtain ⟨P, -, -, c1⟩ := readSigned_some x
  obtain ⟨Q, -, -, c2⟩ := readSigned_some y
  have hc : Lib.cut s.data.toList [32] = (x.data.toList, y.data.toList, (Lib.cut s.data.toList [32]).2.2) := by rw [hx, hy]
  by_cases g : EcG P Q
  · exact parI_other s x y _ P Q w hs hL hc c1 c2 _ g rfl (hno _ _ g)
  · exact parI_bad s x y _ P Q w hs hL hc c1 c2 g
theorem intB_small {z : Int} {k : Nat} (hk : 1 ≤ k) (h : z.natAbs < 10 ^ k) : (intB z).size ≤ k + 1 := by
  have h1 := nd_le k z.natAbs hk h
  by_cases hz : z < 0
  · rw [intB_neg hz, ByteArray.size_append, numB_len, Lib.decDigits_length]
    show 1 + _ ≤ _
    omega
  · rw [intB_pos (by omega), numB_len, Lib.decDigits_length, show z.toNat = z.natAbs by omega]
    omega
theorem ecTB_size {p q : Int} (g : EcG p q) : (ecTB p q).size ≤ 12 := by
  obtain ⟨⟨h1, h2⟩, ⟨h3, h4⟩, -⟩ := g
  have s1 := intB_small (z := p) (k := 4) (by omega) (by omega)
  have s2 := intB_small (z := q) (k := 5) (by omega) (by omega)
  show (intB p ++ (⟨#[32]⟩ : ByteArray) ++ intB q).size ≤ 12
  rw [app_size]
  omega
theorem ecParse_yes (p q : Int) (s : ByteArray) (w : World) (hs : s.size ≤ 1048576) (g : EcG p q) (hf : ecTB p q = s) : Calls Tryd.prog 15 #[.string s] w (GivesFB w p q true) := by
  have hl := ecTB_size g
  rw [hf] at hl
  obtain ⟨⟨h1, h2⟩, ⟨h3, h4⟩, -⟩ := id g
  exact ecParse_good s (intB p) (intB q) p q w hs hl (by rw [← hf]; exact split_at_ (intB p) (intB q) (noBl_int p) (noBl_int q)) (fun W => ecSigned_int p (by omega) (by omega) W) (fun W => ecSigned_int q (by omega) (by omega) W) _ g hf rfl
theorem ecParse_no (s : ByteArray) (w : World) (hs : s.size ≤ 1048576) (hno : ∀ p q, EcG p q → ecTB p q ≠ s) : Calls Tryd.prog 15 #[.string s] w (GivesFB w 0 0 false) := by
  by_cases hl : s.size ≤ 12
  · by_cases hn : (splitAll s 32).length = 2
    · obtain ⟨a, b, hp⟩ : ∃ a b, splitAll s 32 = [a, b] := by
        rcases h : splitAll s 32 with _ | ⟨a, _ | ⟨b, _ | ⟨c, l⟩⟩⟩ <;> rw [h] at hn <;> simp at hn
        exact ⟨a, b, rfl⟩
      obtain ⟨p, -, -, ca⟩ := ecSigned_some a
      obtain ⟨q, -, -, cb⟩ := ecSigned_some b
      by_cases g : EcG p q
      · exact ecParse_other s a b p q w hs hl hp ca cb _ g rfl (hno _ _ g)
      · exact ecParse_bad s a b p q w hs hl hp ca cb g
    · exact ecParse_parts s w hs hl hn
  · exact ecParse_long s w hs (by omega)
theorem lawParseCurve_any (s : ByteArray) (w : World) (hL : EnvC w) (hm : s.size ≤ maxLen) :
    Calls Tryd.prog 4 #[.string s] w fun e w' => e = .returned (.bool true) ∧ Below w.heap.size w w' := by
  by_cases hs : s.size ≤ 1048576
  · by_cases g : ∃ p q, EcG p q ∧ ecTB p q = s
    · obtain ⟨p, q, g, hf⟩ := g
      exact lawParseCurve_core s hm w hL hs _ _ true (fun W => parseS_wrap s _ _ _ W (fun W => ecParse_yes p q s W hs g hf)) (fun W hL => parseI_yes p q s W hs hL g hf)
    · have hno : ∀ p q, EcG p q → ecTB p q ≠ s := fun p q h e => g ⟨p, q, h, e⟩
      exact lawParseCurve_core s hm w hL hs 0 0 false (fun W => parseS_wrap s _ _ _ W (fun W => ecParse_no s W hs hno)) (fun W hL => parseI_no s W hs hL hno)
  · exact lawParseCurve_big s w hm (by omega)
end Go.Proofs.YtoekhkppjccceaaDoor
