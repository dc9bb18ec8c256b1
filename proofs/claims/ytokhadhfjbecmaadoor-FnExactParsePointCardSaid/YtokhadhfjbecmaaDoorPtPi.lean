/- Several texts in one (own work). -/
import Derived.Test.YtokhadhfjbecmaaDoorPtTx
import Derived.Test.YtokhadhfjbecmaaDoorTxCutC
import Derived.Test.YtokhadhfjbecmaaDoorTxParse
import Derived.Deep.RegionHeld3
import Derived.Deep.DeepCutAuto
import Derived.BigQuiet
import Derived.Test.YtokhadhfjbecmaaDoorPRow
namespace Go.Proofs.YtokhadhfjbecmaaDoor
open Go.RowKit Go.Joins

theorem numB_lt (n k : Nat) (hk : 1 ≤ k) (h : n < 10 ^ k) : (numB n).size ≤ k := by rw [numB_len, Lib.decDigits_length]; exact nd_le k n hk h
theorem intB_lt {z : Int} (k : Nat) (hk : 1 ≤ k) (h : z.natAbs < 10 ^ k) : (intB z).size ≤ k + 1 := by
  by_cases hz : z < 0
  · obtain ⟨hs, h1, h2⟩ := intB_neg_at hz
    have h3 := numB_lt z.natAbs k hk h
    rw [← h2, ByteArray.size_extract] at h3
    omega
  · have e : intB z = numB z.toNat := by
      have hz' : z = (z.toNat : Int) := by omega
      rw [hz']; rfl
    rw [e]
    have := numB_lt z.toNat k hk (by omega)
    omega
theorem intB_one (z : Int) : 1 ≤ (intB z).size := by
  by_cases hz : z < 0
  · obtain ⟨hs, -⟩ := intB_neg_at hz; exact hs
  · obtain ⟨hs, -⟩ := intB_pos_at (show 0 ≤ z by omega); exact hs
theorem frB_one_le (p q : Int) : 1 ≤ (frB p q).size := by
  have := intB_one p
  unfold frB
  split
  · exact this
  · rw [ByteArray.size_append, ByteArray.size_append]; omega
theorem frB_lt {p q : Int} (k m : Nat) (hk : 1 ≤ k) (hm : 1 ≤ m) (hp : p.natAbs < 10 ^ k) (hq : q.toNat < 10 ^ m) : (frB p q).size ≤ k + 1 + 1 + m := by
  have h1 := intB_lt k hk hp
  have h2 := numB_lt q.toNat m hm hq
  unfold frB
  split
  · omega
  · rw [ByteArray.size_append, ByteArray.size_append]
    show _ + 1 + _ ≤ _
    omega
/-- The middle of the text of a point that is not infinity. -/
def ptMid (p : P3) : ByteArray := frB p.x (p.e * p.e) ++ (⟨#[44]⟩ : ByteArray) ++ frB p.y (p.e * p.e * p.e)
theorem ptTB_fin {p : P3} (h : p.e ≠ 0) : ptTB p = (⟨#[40]⟩ : ByteArray) ++ ptMid p ++ (⟨#[41]⟩ : ByteArray) := by
  unfold ptTB ptMid
  rw [if_neg h]
  simp only [ba_assoc]
theorem ptMid_size {a b : Int} {p : P3} (h : Fin3 a b p) : 3 ≤ (ptMid p).size ∧ (ptMid p).size ≤ 40 := by
  have hx := h.x
  have hy := h.y
  have he := ptE_bd h.e
  have h1 := frB_one_le p.x (p.e * p.e)
  have h2 := frB_one_le p.y (p.e * p.e * p.e)
  have h3 := frB_lt (p := p.x) (q := p.e * p.e) 5 3 (by omega) (by omega) (by omega) (by omega)
  have h4 := frB_lt (p := p.y) (q := p.e * p.e * p.e) 7 4 (by omega) (by omega) (by omega) (by omega)
  unfold ptMid
  rw [ByteArray.size_append, ByteArray.size_append]
  show 3 ≤ _ + 1 + _ ∧ _ + 1 + _ ≤ 40
  omega
theorem noSl_frC (p q : Int) : NoSlC (frB p q) := by
  unfold frB
  split
  · exact noSl_intC p
  · intro c hc
    have e : (intB p ++ (⟨#[47]⟩ : ByteArray) ++ numB q.toNat).data.toList = (intB p).data.toList ++ 47 :: (numB q.toNat).data.toList := by simp
    rw [e] at hc
    rcases List.mem_append.1 hc with k | k
    · exact noSl_intC p c k
    · rcases List.mem_cons.1 k with k | k
      · subst k; decide
      · exact noSl_numC q.toNat c k
theorem split_mid (p : P3) : splitAll (ptMid p) 44 = [frB p.x (p.e * p.e), frB p.y (p.e * p.e * p.e)] := split_at_C _ _ (noSl_frC _ _) (noSl_frC _ _)
end Go.Proofs.YtokhadhfjbecmaaDoor

namespace Go.Proofs.YtokhadhfjbecmaaDoor
open Go.RowKit Go.Joins

theorem split2C (s a b : ByteArray) (hs : s.size ≤ 1048576) (h : splitAll s 44 = [a, b]) (w : World) :
    Calls Tryd.prog 32 #[.string s, .int .u8 44] w fun e w' => ∃ g c, e = .returned (.slice (some ⟨g, 0, none⟩) 2 c) ∧ Cl w' g 0 a ∧ Cl w' g 1 b ∧ Below w.heap.size w w' := by
  refine (l1Split_any s 44 w hs).mono ?_
  rintro e w' ⟨A, c, he, ho, hb⟩
  rw [h] at he ho
  obtain ⟨A', c', e1, hf⟩ := ho.form
  obtain ⟨g, e2, hg, hc⟩ := hf (by simp)
  simp only [Value.slice.injEq] at e1
  have e3 : A = some ⟨g, 0, none⟩ := e1.1.trans e2
  subst e3
  exact ⟨g, c, he, ⟨hg, hc 0 a rfl⟩, ⟨hg, hc 1 b rfl⟩, hb⟩
theorem splitNC (s : ByteArray) (hs : s.size ≤ 1048576) (w : World) :
    Calls Tryd.prog 32 #[.string s, .int .u8 44] w fun e w' => ∃ A c, e = .returned (.slice A (splitAll s 44).length c) ∧ Below w.heap.size w w' :=
  (l1Split_any s 44 w hs).mono fun _ _ ⟨A, c, he, _, hb⟩ => ⟨A, c, he, hb⟩

set_option maxHeartbeats 1000000 in
set_option maxRecDepth 100000 in
theorem ptParse_O (a b : Int) (w : World) : Calls Tryd.prog 18 #[.agg #[.int .i64 a, .int .i64 b], .string ⟨#[79]⟩] w (GivesPB w 0 0 0 true) := by
  have h := Below.refl w.heap.size w
  have hA := below_alloc1 w (.cells #[.int .i64 a, .int .i64 b] 28)
  have hxc := Box.new w 28 #[.int .i64 a, .int .i64 b]
  replace h := Below.step h hA
  clear hA
  have hA := below_alloc1 (w.alloc (.cells #[.int .i64 a, .int .i64 b] 28)) (.cells #[.int .i64 0, .int .i64 0, .int .i64 0] 30)
  have hxr := Box.new (w.alloc (.cells #[.int .i64 a, .int .i64 b] 28)) 30 #[.int .i64 0, .int .i64 0, .int .i64 0]
  rw [show (w.alloc (.cells #[.int .i64 a, .int .i64 b] 28)).heap.size = w.heap.size + 1 from by simp] at hxr
  replace h := Below.step h hA
  replace hxc := hxc.kept hA
  clear hA
  obtain ⟨kc0, kc1⟩ := hxc.two
  have lc := hxc.lt
  obtain ⟨kr0, kr1, kr2⟩ := hxr.three
  have lr := hxr.lt
  go_enter Tryd.func18, Tryd.ntmps18
  go_wp2_with fail
  refine bodyPost_ret (v := .tuple #[.agg #[.int .i64 0, .int .i64 0, .int .i64 0], .bool true]) (by simp [results, Tryd.results18, go_sem]) (by rfl) ⟨by rfl, ?_⟩
  exact Below.step (below_alloc1 _ _) (below_alloc1 _ _)


set_option maxHeartbeats 1000000 in
set_option maxRecDepth 100000 in
theorem ptParse_len (a b : Int) (s : ByteArray) (w : World) (hne : s ≠ ⟨#[79]⟩) (hn : s.size < 5 ∨ 60 < s.size) : Calls Tryd.prog 18 #[.agg #[.int .i64 a, .int .i64 b], .string s] w (GivesPB w 0 0 0 false) := by
  have e0 : (s.toList == [79]) = false := by rw [beq_eq_false_iff_ne]; exact fun e => hne (ba_inj (e.trans (by rw [ByteArray.toList_eq])))
  clear hne
  have hn2 : (s.size : Int) < 5 ∨ 60 < (s.size : Int) := by omega
  replace hn2 := Lib.hid hn2
  have h := Below.refl w.heap.size w
  have hA := below_alloc1 w (.cells #[.int .i64 a, .int .i64 b] 28)
  have hxc := Box.new w 28 #[.int .i64 a, .int .i64 b]
  replace h := Below.step h hA
  clear hA
  have hA := below_alloc1 (w.alloc (.cells #[.int .i64 a, .int .i64 b] 28)) (.cells #[.int .i64 0, .int .i64 0, .int .i64 0] 30)
  have hxr := Box.new (w.alloc (.cells #[.int .i64 a, .int .i64 b] 28)) 30 #[.int .i64 0, .int .i64 0, .int .i64 0]
  rw [show (w.alloc (.cells #[.int .i64 a, .int .i64 b] 28)).heap.size = w.heap.size + 1 from by simp] at hxr
  replace h := Below.step h hA
  replace hxc := hxc.kept hA
  clear hA
  obtain ⟨kc0, kc1⟩ := hxc.two
  have lc := hxc.lt
  obtain ⟨kr0, kr1, kr2⟩ := hxr.three
  have lr := hxr.lt
  go_enter Tryd.func18, Tryd.ntmps18
  go_wp2_with fail
  refine (l1In_no (s.size : Int) 5 60 _ hn2.out).mono ?_
  rintro e w1 ⟨rfl, rfl⟩
  go_wp2_with fail
  refine bodyPost_ret (v := .tuple #[.agg #[.int .i64 0, .int .i64 0, .int .i64 0], .bool false]) (by simp [results, Tryd.results18, go_sem]) (by rfl) ⟨by rfl, ?_⟩
  exact Below.step (below_alloc1 _ _) (below_alloc1 _ _)


set_option maxHeartbeats 1000000 in
set_option maxRecDepth 100000 in
theorem ptParse_open (a b : Int) (s : ByteArray) (w : World) (hne : s ≠ ⟨#[79]⟩) (n1 : 5 ≤ s.size) (n2 : s.size ≤ 60) (h0 : s[0].toNat ≠ 40) : Calls Tryd.prog 18 #[.agg #[.int .i64 a, .int .i64 b], .string s] w (GivesPB w 0 0 0 false) := by
  have e0 : (s.toList == [79]) = false := by rw [beq_eq_false_iff_ne]; exact fun e => hne (ba_inj (e.trans (by rw [ByteArray.toList_eq])))
  clear hne
  have m1 : 5 ≤ (s.size : Int) := by omega
  have m2 : (s.size : Int) ≤ 60 := by omega
  have c0 : ((s[0].toNat : Int) != 40) = true := by rw [bne_iff_ne]; omega
  clear h0
  have h := Below.refl w.heap.size w
  have hA := below_alloc1 w (.cells #[.int .i64 a, .int .i64 b] 28)
  have hxc := Box.new w 28 #[.int .i64 a, .int .i64 b]
  replace h := Below.step h hA
  clear hA
  have hA := below_alloc1 (w.alloc (.cells #[.int .i64 a, .int .i64 b] 28)) (.cells #[.int .i64 0, .int .i64 0, .int .i64 0] 30)
  have hxr := Box.new (w.alloc (.cells #[.int .i64 a, .int .i64 b] 28)) 30 #[.int .i64 0, .int .i64 0, .int .i64 0]
  rw [show (w.alloc (.cells #[.int .i64 a, .int .i64 b] 28)).heap.size = w.heap.size + 1 from by simp] at hxr
  replace h := Below.step h hA
  replace hxc := hxc.kept hA
  clear hA
  obtain ⟨kc0, kc1⟩ := hxc.two
  have lc := hxc.lt
  obtain ⟨kr0, kr1, kr2⟩ := hxr.three
  have lr := hxr.lt
  go_enter Tryd.func18, Tryd.ntmps18
  go_wp2_with fail
  refine (l1In_yes (s.size : Int) 5 60 _ m1 m2).mono ?_
  rintro e w1 ⟨rfl, rfl⟩
  go_wp2_with fail
  refine bodyPost_ret (v := .tuple #[.agg #[.int .i64 0, .int .i64 0, .int .i64 0], .bool false]) (by simp [results, Tryd.results18, go_sem]) (by rfl) ⟨by rfl, ?_⟩
  exact Below.step (below_alloc1 _ _) (below_alloc1 _ _)


set_option maxHeartbeats 1000000 in
set_option maxRecDepth 100000 in
theorem ptParse_close (a b : Int) (s : ByteArray) (w : World) (hne : s ≠ ⟨#[79]⟩) (n1 : 5 ≤ s.size) (n2 : s.size ≤ 60) (h0 : s[0].toNat = 40) (h9 : s[s.size - 1].toNat ≠ 41) : Calls Tryd.prog 18 #[.agg #[.int .i64 a, .int .i64 b], .string s] w (GivesPB w 0 0 0 false) := by
  have e0 : (s.toList == [79]) = false := by rw [beq_eq_false_iff_ne]; exact fun e => hne (ba_inj (e.trans (by rw [ByteArray.toList_eq])))
  clear hne
  have m1 : 5 ≤ (s.size : Int) := by omega
  have m2 : (s.size : Int) ≤ 60 := by omega
  have c0 : ((s[0].toNat : Int) != 40) = false := by rw [h0]; rfl
  have c9 : ((s[s.size - 1].toNat : Int) != 41) = true := by rw [bne_iff_ne]; omega
  clear h0 h9
  have h := Below.refl w.heap.size w
  have hA := below_alloc1 w (.cells #[.int .i64 a, .int .i64 b] 28)
  have hxc := Box.new w 28 #[.int .i64 a, .int .i64 b]
  replace h := Below.step h hA
  clear hA
  have hA := below_alloc1 (w.alloc (.cells #[.int .i64 a, .int .i64 b] 28)) (.cells #[.int .i64 0, .int .i64 0, .int .i64 0] 30)
  have hxr := Box.new (w.alloc (.cells #[.int .i64 a, .int .i64 b] 28)) 30 #[.int .i64 0, .int .i64 0, .int .i64 0]
  rw [show (w.alloc (.cells #[.int .i64 a, .int .i64 b] 28)).heap.size = w.heap.size + 1 from by simp] at hxr
  replace h := Below.step h hA
  replace hxc := hxc.kept hA
  clear hA
  obtain ⟨kc0, kc1⟩ := hxc.two
  have lc := hxc.lt
  obtain ⟨kr0, kr1, kr2⟩ := hxr.three
  have lr := hxr.lt
  go_enter Tryd.func18, Tryd.ntmps18
  go_wp2_with fail
  refine (l1In_yes (s.size : Int) 5 60 _ m1 m2).mono ?_
  rintro e w1 ⟨rfl, rfl⟩
  go_wp2_with fail
  refine bodyPost_ret (v := .tuple #[.agg #[.int .i64 0, .int .i64 0, .int .i64 0], .bool false]) (by simp [results, Tryd.results18, go_sem]) (by rfl) ⟨by rfl, ?_⟩
  exact Below.step (below_alloc1 _ _) (below_alloc1 _ _)


set_option maxHeartbeats 1000000 in
set_option maxRecDepth 100000 in
theorem ptParse_parts (a b : Int) (s : ByteArray) (w : World) (hne : s ≠ ⟨#[79]⟩) (n1 : 5 ≤ s.size) (n2 : s.size ≤ 60) (h0 : s[0].toNat = 40) (h9 : s[s.size - 1].toNat = 41) (hlen : (splitAll (s.extract 1 (s.size - 1)) 44).length ≠ 2) : Calls Tryd.prog 18 #[.agg #[.int .i64 a, .int .i64 b], .string s] w (GivesPB w 0 0 0 false) := by
  have e0 : (s.toList == [79]) = false := by rw [beq_eq_false_iff_ne]; exact fun e => hne (ba_inj (e.trans (by rw [ByteArray.toList_eq])))
  clear hne
  have m1 : 5 ≤ (s.size : Int) := by omega
  have m2 : (s.size : Int) ≤ 60 := by omega
  have c0 : ((s[0].toNat : Int) != 40) = false := by rw [h0]; rfl
  have c9 : ((s[s.size - 1].toNat : Int) != 41) = false := by rw [h9]; rfl
  have hM : (s.extract 1 (s.size - 1)).size ≤ 1048576 := by rw [ByteArray.size_extract]; omega
  clear h0 h9
  have cC := splitNC (s.extract 1 (s.size - 1)) hM
  obtain ⟨L, hL⟩ : ∃ L, L = (splitAll (s.extract 1 (s.size - 1)) 44).length := ⟨_, rfl⟩
  rw [← hL] at cC hlen
  have e2 : ((L : Int) != 2) = true := by rw [bne_iff_ne]; omega
  clear hL hlen hM
  replace cC := Lib.hid cC
  have h := Below.refl w.heap.size w
  have hA := below_alloc1 w (.cells #[.int .i64 a, .int .i64 b] 28)
  have hxc := Box.new w 28 #[.int .i64 a, .int .i64 b]
  replace h := Below.step h hA
  clear hA
  have hA := below_alloc1 (w.alloc (.cells #[.int .i64 a, .int .i64 b] 28)) (.cells #[.int .i64 0, .int .i64 0, .int .i64 0] 30)
  have hxr := Box.new (w.alloc (.cells #[.int .i64 a, .int .i64 b] 28)) 30 #[.int .i64 0, .int .i64 0, .int .i64 0]
  rw [show (w.alloc (.cells #[.int .i64 a, .int .i64 b] 28)).heap.size = w.heap.size + 1 from by simp] at hxr
  replace h := Below.step h hA
  replace hxc := hxc.kept hA
  clear hA
  obtain ⟨kc0, kc1⟩ := hxc.two
  have lc := hxc.lt
  obtain ⟨kr0, kr1, kr2⟩ := hxr.three
  have lr := hxr.lt
  go_enter Tryd.func18, Tryd.ntmps18
  go_wp2_with fail
  refine (l1In_yes (s.size : Int) 5 60 _ m1 m2).mono ?_
  rintro e w1 ⟨rfl, rfl⟩
  go_wp2_with fail
  refine (cC.out _).mono ?_
  rintro e w1 ⟨A, c, rfl, hb⟩
  replace h := Below.step h hb
  replace hxc := hxc.kept hb
  replace hxr := hxr.kept hb
  clear hb kc0 kc1 lc kr0 kr1 kr2 lr
  obtain ⟨kc0, kc1⟩ := hxc.two
  have lc := hxc.lt
  obtain ⟨kr0, kr1, kr2⟩ := hxr.three
  have lr := hxr.lt
  have fr0 := hxr.free 0
  have fr1 := hxr.free 1
  have fr2 := hxr.free 2
  obtain ⟨sr0, sr1, sr2⟩ := (((hxr.set 0 (.int .i64 0)).set 1 (.int .i64 0)).set 2 (.int .i64 0)).three
  go_wp2_with fail
  refine bodyPost_ret (v := .tuple #[.agg #[.int .i64 0, .int .i64 0, .int .i64 0], .bool false]) (by simp [results, Tryd.results18, go_sem, sr0, sr1, sr2]) (by rfl) ⟨by rfl, ?_⟩
  exact below_sets3 h (by omega) _ _ _


set_option maxHeartbeats 2000000 in
set_option maxRecDepth 100000 in
theorem ptParse_no1 (a b : Int) (s : ByteArray) (w : World) (hne : s ≠ ⟨#[79]⟩) (n1 : 5 ≤ s.size) (n2 : s.size ≤ 60) (h0 : s[0].toNat = 40) (h9 : s[s.size - 1].toNat = 41) (u v : ByteArray) (hp : splitAll (s.extract 1 (s.size - 1)) 44 = [u, v]) (P Q P2 Q2 : Int) (ok : Bool) (c1 : ∀ W : World, Calls Tryd.prog 33 #[.string u] W (GivesFB W P Q false)) (c2 : ∀ W : World, Calls Tryd.prog 33 #[.string v] W (GivesFB W P2 Q2 ok)) : Calls Tryd.prog 18 #[.agg #[.int .i64 a, .int .i64 b], .string s] w (GivesPB w 0 0 0 false) := by
  have e0 : (s.toList == [79]) = false := by rw [beq_eq_false_iff_ne]; exact fun e => hne (ba_inj (e.trans (by rw [ByteArray.toList_eq])))
  clear hne
  have m1 : 5 ≤ (s.size : Int) := by omega
  have m2 : (s.size : Int) ≤ 60 := by omega
  have c0 : ((s[0].toNat : Int) != 40) = false := by rw [h0]; rfl
  have c9 : ((s[s.size - 1].toNat : Int) != 41) = false := by rw [h9]; rfl
  have hM : (s.extract 1 (s.size - 1)).size ≤ 1048576 := by rw [ByteArray.size_extract]; omega
  clear h0 h9
  have cC := split2C (s.extract 1 (s.size - 1)) u v hM hp
  replace cC := Lib.hid cC
  replace c1 := Lib.hid c1
  replace c2 := Lib.hid c2
  clear hM hp
  have h := Below.refl w.heap.size w
  have hA := below_alloc1 w (.cells #[.int .i64 a, .int .i64 b] 28)
  have hxc := Box.new w 28 #[.int .i64 a, .int .i64 b]
  replace h := Below.step h hA
  clear hA
  have hA := below_alloc1 (w.alloc (.cells #[.int .i64 a, .int .i64 b] 28)) (.cells #[.int .i64 0, .int .i64 0, .int .i64 0] 30)
  have hxr := Box.new (w.alloc (.cells #[.int .i64 a, .int .i64 b] 28)) 30 #[.int .i64 0, .int .i64 0, .int .i64 0]
  rw [show (w.alloc (.cells #[.int .i64 a, .int .i64 b] 28)).heap.size = w.heap.size + 1 from by simp] at hxr
  replace h := Below.step h hA
  replace hxc := hxc.kept hA
  clear hA
  obtain ⟨kc0, kc1⟩ := hxc.two
  have lc := hxc.lt
  obtain ⟨kr0, kr1, kr2⟩ := hxr.three
  have lr := hxr.lt
  go_enter Tryd.func18, Tryd.ntmps18
  go_wp2_with fail
  refine (l1In_yes (s.size : Int) 5 60 _ m1 m2).mono ?_
  rintro e w1 ⟨rfl, rfl⟩
  go_wp2_with fail
  refine (cC.out _).mono ?_
  rintro e w1 ⟨gw, cw, rfl, hk0, hk1, hb⟩
  replace h := Below.step h hb
  replace hxc := hxc.kept hb
  replace hxr := hxr.kept hb
  clear hb kc0 kc1 lc kr0 kr1 kr2 lr
  obtain ⟨kc0, kc1⟩ := hxc.two
  have lc := hxc.lt
  obtain ⟨kr0, kr1, kr2⟩ := hxr.three
  have lr := hxr.lt
  obtain ⟨lhk0, qhk0⟩ := id hk0
  go_wp2_with fail
  refine (c1.out _).mono ?_
  rintro e w2 ⟨rfl, hb⟩
  replace h := Below.step h hb
  replace hxc := hxc.kept hb
  replace hxr := hxr.kept hb
  replace hk0 := hk0.kept hb
  replace hk1 := hk1.kept hb
  clear hb kc0 kc1 lc kr0 kr1 kr2 lr
  obtain ⟨kc0, kc1⟩ := hxc.two
  have lc := hxc.lt
  obtain ⟨kr0, kr1, kr2⟩ := hxr.three
  have lr := hxr.lt
  clear lhk0 qhk0
  obtain ⟨lhk1, qhk1⟩ := id hk1
  go_wp2_with fail
  clear lhk1 qhk1
  have hA := below_alloc1 w2 (.cells #[.int .i64 P, .int .i64 Q] 42)
  have hxx := Box.new w2 42 #[.int .i64 P, .int .i64 Q]
  replace h := Below.step h hA
  replace hxc := hxc.kept hA
  replace hxr := hxr.kept hA
  replace hk0 := hk0.kept hA
  replace hk1 := hk1.kept hA
  clear hA kc0 kc1 lc kr0 kr1 kr2 lr
  generalize w2.alloc (.cells #[.int .i64 P, .int .i64 Q] 42) = w3 at *
  generalize w2.heap.size = gx at hxx ⊢
  obtain ⟨kc0, kc1⟩ := hxc.two
  have lc := hxc.lt
  obtain ⟨kr0, kr1, kr2⟩ := hxr.three
  have lr := hxr.lt
  obtain ⟨kx0, kx1⟩ := hxx.two
  have lx := hxx.lt
  obtain ⟨lhk1, qhk1⟩ := id hk1
  refine (c2.out _).mono ?_
  rintro e w4 ⟨rfl, hb⟩
  replace h := Below.step h hb
  replace hxc := hxc.kept hb
  replace hxr := hxr.kept hb
  replace hxx := hxx.kept hb
  replace hk0 := hk0.kept hb
  replace hk1 := hk1.kept hb
  clear hb kc0 kc1 lc kr0 kr1 kr2 lr kx0 kx1 lx
  obtain ⟨kc0, kc1⟩ := hxc.two
  have lc := hxc.lt
  obtain ⟨kr0, kr1, kr2⟩ := hxr.three
  have lr := hxr.lt
  obtain ⟨kx0, kx1⟩ := hxx.two
  have lx := hxx.lt
  clear lhk1 qhk1 hk0 hk1
  have fr0 := hxr.free 0
  have fr1 := hxr.free 1
  have fr2 := hxr.free 2
  obtain ⟨sr0, sr1, sr2⟩ := ((((hxr.set 0 (.int .i64 0)).set 1 (.int .i64 0)).set 2 (.int .i64 0)).kept (below_alloc1 _ (.cells #[.int .i64 P2, .int .i64 Q2] 42))).three
  go_wp2_with fail
  refine bodyPost_ret (v := .tuple #[.agg #[.int .i64 0, .int .i64 0, .int .i64 0], .bool false]) (by simp [results, Tryd.results18, go_sem, sr0, sr1, sr2]) (by rfl) ⟨by rfl, ?_⟩
  exact Below.step (below_sets3 h (by omega) _ _ _) (below_alloc1 _ _)


set_option maxHeartbeats 2000000 in
set_option maxRecDepth 100000 in
theorem ptParse_no2 (a b : Int) (s : ByteArray) (w : World) (hne : s ≠ ⟨#[79]⟩) (n1 : 5 ≤ s.size) (n2 : s.size ≤ 60) (h0 : s[0].toNat = 40) (h9 : s[s.size - 1].toNat = 41) (u v : ByteArray) (hp : splitAll (s.extract 1 (s.size - 1)) 44 = [u, v]) (P Q P2 Q2 : Int) (c1 : ∀ W : World, Calls Tryd.prog 33 #[.string u] W (GivesFB W P Q true)) (c2 : ∀ W : World, Calls Tryd.prog 33 #[.string v] W (GivesFB W P2 Q2 false)) : Calls Tryd.prog 18 #[.agg #[.int .i64 a, .int .i64 b], .string s] w (GivesPB w 0 0 0 false) := by
  have e0 : (s.toList == [79]) = false := by rw [beq_eq_false_iff_ne]; exact fun e => hne (ba_inj (e.trans (by rw [ByteArray.toList_eq])))
  clear hne
  have m1 : 5 ≤ (s.size : Int) := by omega
  have m2 : (s.size : Int) ≤ 60 := by omega
  have c0 : ((s[0].toNat : Int) != 40) = false := by rw [h0]; rfl
  have c9 : ((s[s.size - 1].toNat : Int) != 41) = false := by rw [h9]; rfl
  have hM : (s.extract 1 (s.size - 1)).size ≤ 1048576 := by rw [ByteArray.size_extract]; omega
  clear h0 h9
  have cC := split2C (s.extract 1 (s.size - 1)) u v hM hp
  replace cC := Lib.hid cC
  replace c1 := Lib.hid c1
  replace c2 := Lib.hid c2
  clear hM hp
  have h := Below.refl w.heap.size w
  have hA := below_alloc1 w (.cells #[.int .i64 a, .int .i64 b] 28)
  have hxc := Box.new w 28 #[.int .i64 a, .int .i64 b]
  replace h := Below.step h hA
  clear hA
  have hA := below_alloc1 (w.alloc (.cells #[.int .i64 a, .int .i64 b] 28)) (.cells #[.int .i64 0, .int .i64 0, .int .i64 0] 30)
  have hxr := Box.new (w.alloc (.cells #[.int .i64 a, .int .i64 b] 28)) 30 #[.int .i64 0, .int .i64 0, .int .i64 0]
  rw [show (w.alloc (.cells #[.int .i64 a, .int .i64 b] 28)).heap.size = w.heap.size + 1 from by simp] at hxr
  replace h := Below.step h hA
  replace hxc := hxc.kept hA
  clear hA
  obtain ⟨kc0, kc1⟩ := hxc.two
  have lc := hxc.lt
  obtain ⟨kr0, kr1, kr2⟩ := hxr.three
  have lr := hxr.lt
  go_enter Tryd.func18, Tryd.ntmps18
  go_wp2_with fail
  refine (l1In_yes (s.size : Int) 5 60 _ m1 m2).mono ?_
  rintro e w1 ⟨rfl, rfl⟩
  go_wp2_with fail
  refine (cC.out _).mono ?_
  rintro e w1 ⟨gw, cw, rfl, hk0, hk1, hb⟩
  replace h := Below.step h hb
  replace hxc := hxc.kept hb
  replace hxr := hxr.kept hb
  clear hb kc0 kc1 lc kr0 kr1 kr2 lr
  obtain ⟨kc0, kc1⟩ := hxc.two
  have lc := hxc.lt
  obtain ⟨kr0, kr1, kr2⟩ := hxr.three
  have lr := hxr.lt
  obtain ⟨lhk0, qhk0⟩ := id hk0
  go_wp2_with fail
  refine (c1.out _).mono ?_
  rintro e w2 ⟨rfl, hb⟩
  replace h := Below.step h hb
  replace hxc := hxc.kept hb
  replace hxr := hxr.kept hb
  replace hk0 := hk0.kept hb
  replace hk1 := hk1.kept hb
  clear hb kc0 kc1 lc kr0 kr1 kr2 lr
  obtain ⟨kc0, kc1⟩ := hxc.two
  have lc := hxc.lt
  obtain ⟨kr0, kr1, kr2⟩ := hxr.three
  have lr := hxr.lt
  clear lhk0 qhk0
  obtain ⟨lhk1, qhk1⟩ := id hk1
  go_wp2_with fail
  clear lhk1 qhk1
  have hA := below_alloc1 w2 (.cells #[.int .i64 P, .int .i64 Q] 42)
  have hxx := Box.new w2 42 #[.int .i64 P, .int .i64 Q]
  replace h := Below.step h hA
  replace hxc := hxc.kept hA
  replace hxr := hxr.kept hA
  replace hk0 := hk0.kept hA
  replace hk1 := hk1.kept hA
  clear hA kc0 kc1 lc kr0 kr1 kr2 lr
  generalize w2.alloc (.cells #[.int .i64 P, .int .i64 Q] 42) = w3 at *
  generalize w2.heap.size = gx at hxx ⊢
  obtain ⟨kc0, kc1⟩ := hxc.two
  have lc := hxc.lt
  obtain ⟨kr0, kr1, kr2⟩ := hxr.three
  have lr := hxr.lt
  obtain ⟨kx0, kx1⟩ := hxx.two
  have lx := hxx.lt
  obtain ⟨lhk1, qhk1⟩ := id hk1
  refine (c2.out _).mono ?_
  rintro e w4 ⟨rfl, hb⟩
  replace h := Below.step h hb
  replace hxc := hxc.kept hb
  replace hxr := hxr.kept hb
  replace hxx := hxx.kept hb
  replace hk0 := hk0.kept hb
  replace hk1 := hk1.kept hb
  clear hb kc0 kc1 lc kr0 kr1 kr2 lr kx0 kx1 lx
  obtain ⟨kc0, kc1⟩ := hxc.two
  have lc := hxc.lt
  obtain ⟨kr0, kr1, kr2⟩ := hxr.three
  have lr := hxr.lt
  obtain ⟨kx0, kx1⟩ := hxx.two
  have lx := hxx.lt
  clear lhk1 qhk1 hk0 hk1
  have fr0 := hxr.free 0
  have fr1 := hxr.free 1
  have fr2 := hxr.free 2
  obtain ⟨sr0, sr1, sr2⟩ := ((((hxr.set 0 (.int .i64 0)).set 1 (.int .i64 0)).set 2 (.int .i64 0)).kept (below_alloc1 _ (.cells #[.int .i64 P2, .int .i64 Q2] 42))).three
  go_wp2_with fail
  refine bodyPost_ret (v := .tuple #[.agg #[.int .i64 0, .int .i64 0, .int .i64 0], .bool false]) (by simp [results, Tryd.results18, go_sem, sr0, sr1, sr2]) (by rfl) ⟨by rfl, ?_⟩
  exact Below.step (below_sets3 h (by omega) _ _ _) (below_alloc1 _ _)


set_option maxHeartbeats 4000000 in
set_option maxRecDepth 100000 in
theorem ptParse_off (a b : Int) (s : ByteArray) (w : World) (hne : s ≠ ⟨#[79]⟩) (n1 : 5 ≤ s.size) (n2 : s.size ≤ 60) (h0 : s[0].toNat = 40) (h9 : s[s.size - 1].toNat = 41) (u v : ByteArray) (hp : splitAll (s.extract 1 (s.size - 1)) 44 = [u, v]) (P Q P2 Q2 : Int) (c1 : ∀ W : World, Calls Tryd.prog 33 #[.string u] W (GivesFB W P Q true)) (c2 : ∀ W : World, Calls Tryd.prog 33 #[.string v] W (GivesFB W P2 Q2 true)) (E : Int) (cR : ∀ W : World, Calls Tryd.prog 34 #[.int .i64 Q] W fun e w' => e = .returned (.int .i64 E) ∧ W = w') (cO : ∀ W : World, Calls Tryd.prog 24 #[.agg #[.int .i64 a, .int .i64 b], .agg #[.int .i64 P, .int .i64 P2, .int .i64 E]] W (GivesB W false)) : Calls Tryd.prog 18 #[.agg #[.int .i64 a, .int .i64 b], .string s] w (GivesPB w 0 0 0 false) := by
  replace cR := Lib.hid cR
  replace cO := Lib.hid cO
  have e0 : (s.toList == [79]) = false := by rw [beq_eq_false_iff_ne]; exact fun e => hne (ba_inj (e.trans (by rw [ByteArray.toList_eq])))
  clear hne
  have m1 : 5 ≤ (s.size : Int) := by omega
  have m2 : (s.size : Int) ≤ 60 := by omega
  have c0 : ((s[0].toNat : Int) != 40) = false := by rw [h0]; rfl
  have c9 : ((s[s.size - 1].toNat : Int) != 41) = false := by rw [h9]; rfl
  have hM : (s.extract 1 (s.size - 1)).size ≤ 1048576 := by rw [ByteArray.size_extract]; omega
  clear h0 h9
  have cC := split2C (s.extract 1 (s.size - 1)) u v hM hp
  replace cC := Lib.hid cC
  replace c1 := Lib.hid c1
  replace c2 := Lib.hid c2
  clear hM hp
  have h := Below.refl w.heap.size w
  have hA := below_alloc1 w (.cells #[.int .i64 a, .int .i64 b] 28)
  have hxc := Box.new w 28 #[.int .i64 a, .int .i64 b]
  replace h := Below.step h hA
  clear hA
  have hA := below_alloc1 (w.alloc (.cells #[.int .i64 a, .int .i64 b] 28)) (.cells #[.int .i64 0, .int .i64 0, .int .i64 0] 30)
  have hxr := Box.new (w.alloc (.cells #[.int .i64 a, .int .i64 b] 28)) 30 #[.int .i64 0, .int .i64 0, .int .i64 0]
  rw [show (w.alloc (.cells #[.int .i64 a, .int .i64 b] 28)).heap.size = w.heap.size + 1 from by simp] at hxr
  replace h := Below.step h hA
  replace hxc := hxc.kept hA
  clear hA
  obtain ⟨kc0, kc1⟩ := hxc.two
  have lc := hxc.lt
  obtain ⟨kr0, kr1, kr2⟩ := hxr.three
  have lr := hxr.lt
  go_enter Tryd.func18, Tryd.ntmps18
  go_wp2_with fail
  refine (l1In_yes (s.size : Int) 5 60 _ m1 m2).mono ?_
  rintro e w1 ⟨rfl, rfl⟩
  go_wp2_with fail
  refine (cC.out _).mono ?_
  rintro e w1 ⟨gw, cw, rfl, hk0, hk1, hb⟩
  replace h := Below.step h hb
  replace hxc := hxc.kept hb
  replace hxr := hxr.kept hb
  clear hb kc0 kc1 lc kr0 kr1 kr2 lr
  obtain ⟨kc0, kc1⟩ := hxc.two
  have lc := hxc.lt
  obtain ⟨kr0, kr1, kr2⟩ := hxr.three
  have lr := hxr.lt
  obtain ⟨lhk0, qhk0⟩ := id hk0
  go_wp2_with fail
  refine (c1.out _).mono ?_
  rintro e w2 ⟨rfl, hb⟩
  replace h := Below.step h hb
  replace hxc := hxc.kept hb
  replace hxr := hxr.kept hb
  replace hk0 := hk0.kept hb
  replace hk1 := hk1.kept hb
  clear hb kc0 kc1 lc kr0 kr1 kr2 lr
  obtain ⟨kc0, kc1⟩ := hxc.two
  have lc := hxc.lt
  obtain ⟨kr0, kr1, kr2⟩ := hxr.three
  have lr := hxr.lt
  clear lhk0 qhk0
  obtain ⟨lhk1, qhk1⟩ := id hk1
  go_wp2_with fail
  clear lhk1 qhk1
  have hA := below_alloc1 w2 (.cells #[.int .i64 P, .int .i64 Q] 42)
  have hxx := Box.new w2 42 #[.int .i64 P, .int .i64 Q]
  replace h := Below.step h hA
  replace hxc := hxc.kept hA
  replace hxr := hxr.kept hA
  replace hk0 := hk0.kept hA
  replace hk1 := hk1.kept hA
  clear hA kc0 kc1 lc kr0 kr1 kr2 lr
  generalize w2.alloc (.cells #[.int .i64 P, .int .i64 Q] 42) = w3 at *
  generalize w2.heap.size = gx at hxx ⊢
  obtain ⟨kc0, kc1⟩ := hxc.two
  have lc := hxc.lt
  obtain ⟨kr0, kr1, kr2⟩ := hxr.three
  have lr := hxr.lt
  obtain ⟨kx0, kx1⟩ := hxx.two
  have lx := hxx.lt
  obtain ⟨lhk1, qhk1⟩ := id hk1
  refine (c2.out _).mono ?_
  rintro e w4 ⟨rfl, hb⟩
  replace h := Below.step h hb
  replace hxc := hxc.kept hb
  replace hxr := hxr.kept hb
  replace hxx := hxx.kept hb
  replace hk0 := hk0.kept hb
  replace hk1 := hk1.kept hb
  clear hb kc0 kc1 lc kr0 kr1 kr2 lr kx0 kx1 lx
  obtain ⟨kc0, kc1⟩ := hxc.two
  have lc := hxc.lt
  obtain ⟨kr0, kr1, kr2⟩ := hxr.three
  have lr := hxr.lt
  obtain ⟨kx0, kx1⟩ := hxx.two
  have lx := hxx.lt
  clear lhk1 qhk1 hk0 hk1
  go_upto_region 13 with fail
  have hA := below_alloc1 w4 (.cells #[.int .i64 P2, .int .i64 Q2] 42)
  have hxy := Box.new w4 42 #[.int .i64 P2, .int .i64 Q2]
  replace h := Below.step h hA
  replace hxc := hxc.kept hA
  replace hxr := hxr.kept hA
  replace hxx := hxx.kept hA
  clear hA kc0 kc1 lc kr0 kr1 kr2 lr kx0 kx1 lx
  generalize w4.alloc (.cells #[.int .i64 P2, .int .i64 Q2] 42) = w5 at *
  generalize w4.heap.size = gy at hxy ⊢
  obtain ⟨kc0, kc1⟩ := hxc.two
  have lc := hxc.lt
  obtain ⟨kr0, kr1, kr2⟩ := hxr.three
  have lr := hxr.lt
  obtain ⟨kx0, kx1⟩ := hxx.two
  have lx := hxx.lt
  obtain ⟨ky0, ky1⟩ := hxy.two
  have ly := hxy.lt
  clear kc0 kc1 lc kr0 kr1 kr2 lr kx0 kx1 lx ky0 ky1 ly
  have lgx := hxx.lt
  have lgy := hxy.lt
  have KM : ∀ (W : World), Below w5.heap.size w5 W → (W.cell? ⟨gx, 0, none⟩ = some (.int .i64 P) ∧ W.cell? ⟨gx, 1, none⟩ = some (.int .i64 Q) ∧ W.cell? ⟨gy, 0, none⟩ = some (.int .i64 P2) ∧ Below w5.heap.size w5 W) := fun W hW => ⟨(hxx.kept hW).two.1, (hxx.kept hW).two.2, (hxy.kept hW).two.1, hW⟩
  have KA : ∀ (W : World) (o : Obj), (W.cell? ⟨gx, 0, none⟩ = some (.int .i64 P) ∧ W.cell? ⟨gx, 1, none⟩ = some (.int .i64 Q) ∧ W.cell? ⟨gy, 0, none⟩ = some (.int .i64 P2) ∧ Below w5.heap.size w5 W) → ((W.alloc o).cell? ⟨gx, 0, none⟩ = some (.int .i64 P) ∧ (W.alloc o).cell? ⟨gx, 1, none⟩ = some (.int .i64 Q) ∧ (W.alloc o).cell? ⟨gy, 0, none⟩ = some (.int .i64 P2) ∧ Below w5.heap.size w5 (W.alloc o)) := fun W o ⟨_, _, _, hW⟩ => KM _ (Below.step hW (below_alloc1 _ _))
  have KD : ∀ (W : World), (W.cell? ⟨gx, 0, none⟩ = some (.int .i64 P) ∧ W.cell? ⟨gx, 1, none⟩ = some (.int .i64 Q) ∧ W.cell? ⟨gy, 0, none⟩ = some (.int .i64 P2) ∧ Below w5.heap.size w5 W) → (W.drew.cell? ⟨gx, 0, none⟩ = some (.int .i64 P) ∧ W.drew.cell? ⟨gx, 1, none⟩ = some (.int .i64 Q) ∧ W.drew.cell? ⟨gy, 0, none⟩ = some (.int .i64 P2) ∧ Below w5.heap.size w5 W.drew) := fun W ⟨_, _, _, hW⟩ => KM _ (Below.drewN' hW 1)
  have KS : ∀ (W : World) (g : Nat) (u0 u1 u2 : Value), w5.heap.size ≤ g → (W.cell? ⟨gx, 0, none⟩ = some (.int .i64 P) ∧ W.cell? ⟨gx, 1, none⟩ = some (.int .i64 Q) ∧ W.cell? ⟨gy, 0, none⟩ = some (.int .i64 P2) ∧ Below w5.heap.size w5 W) → ((((W.setCell ⟨g, 0, none⟩ u0).setCell ⟨g, 1, none⟩ u1).setCell ⟨g, 2, none⟩ u2).cell? ⟨gx, 0, none⟩ = some (.int .i64 P) ∧ (((W.setCell ⟨g, 0, none⟩ u0).setCell ⟨g, 1, none⟩ u1).setCell ⟨g, 2, none⟩ u2).cell? ⟨gx, 1, none⟩ = some (.int .i64 Q) ∧ (((W.setCell ⟨g, 0, none⟩ u0).setCell ⟨g, 1, none⟩ u1).setCell ⟨g, 2, none⟩ u2).cell? ⟨gy, 0, none⟩ = some (.int .i64 P2) ∧ Below w5.heap.size w5 (((W.setCell ⟨g, 0, none⟩ u0).setCell ⟨g, 1, none⟩ u1).setCell ⟨g, 2, none⟩ u2)) := fun W g u0 u1 u2 hg ⟨_, _, _, hW⟩ => KM _ (((hW.setCell hg _).setCell hg _).setCell hg _)
  have KB : ∀ (W : World), (W.cell? ⟨gx, 0, none⟩ = some (.int .i64 P) ∧ W.cell? ⟨gx, 1, none⟩ = some (.int .i64 Q) ∧ W.cell? ⟨gy, 0, none⟩ = some (.int .i64 P2) ∧ Below w5.heap.size w5 W) → Below w5.heap.size w5 W := fun W ⟨_, _, _, hW⟩ => hW
  have KM0 := KM w5.drew ⟨rfl, rfl, rfl, Nat.le_refl _, fun _ _ => rfl⟩
  have KM00 := KM _ (Below.refl _ _)
  replace KA := Lib.hid KA
  replace KD := Lib.hid KD
  replace KS := Lib.hid KS
  replace KB := Lib.hid KB
  clear KM
  go_cut [12] (fun s12 wx => ∃ (g : Nat), s12 = .pointer (some ⟨g, 0, none⟩) ∧ Box wx g 30 #[.int .i64 P, .int .i64 P2, .int .i64 E] ∧ Below w5.heap.size w5 wx)
  case first =>
    go_region_held3 (fun w' => w'.cell? ⟨gx, 0, none⟩ = some (.int .i64 P) ∧ w'.cell? ⟨gx, 1, none⟩ = some (.int .i64 Q) ∧ w'.cell? ⟨gy, 0, none⟩ = some (.int .i64 P2) ∧ Below w5.heap.size w5 w') ((first | (with_reducible assumption) | ((with_reducible refine KA.out _ _ ?_); (with_reducible assumption)) | ((with_reducible refine KS.out _ _ _ _ _ ?_ ?_); (first | exact Nat.le_refl _ | fail); (first | (with_reducible assumption) | ((with_reducible refine KA.out _ _ ?_); (with_reducible assumption)))) | ((with_reducible refine KD.out _ ?_); (first | (with_reducible assumption) | ((with_reducible refine KA.out _ _ ?_); (with_reducible assumption)) | ((with_reducible refine KS.out _ _ _ _ _ ?_ ?_); (first | exact Nat.le_refl _ | fail); (first | (with_reducible assumption) | ((with_reducible refine KA.out _ _ ?_); (with_reducible assumption))))))))
      (first
        | (go_at_call 34; (with_reducible refine (cR.out _).mono ?_); rintro e wC ⟨rfl, rfl⟩; skip))
    all_goals (go_wp2_with fail; go_meet)
    all_goals refine ⟨_, rfl, ?_, KB.out _ ?_⟩
    all_goals (first | (with_reducible assumption) | (with_reducible exact Box.new _ _ _) | ((with_reducible refine KA.out _ _ ?_); (with_reducible assumption)) | ((with_reducible refine KD.out _ ?_); (first | (with_reducible assumption) | ((with_reducible refine KA.out _ _ ?_); (with_reducible assumption)))) | exact Box.new _ _ _ | exact (Box.new _ _ _).kept ⟨rfl, rfl, rfl, Nat.le_refl _, fun _ _ => rfl⟩)
  obtain ⟨gp, rfl, hxp, hb⟩ := hcut
  clear KM0 KM00 KA KD KS KB lgx lgy
  replace h := Below.step h hb
  replace hxc := hxc.kept hb
  replace hxr := hxr.kept hb
  replace hxx := hxx.kept hb
  replace hxy := hxy.kept hb
  clear hb
  obtain ⟨kc0, kc1⟩ := hxc.two
  have lc := hxc.lt
  obtain ⟨kr0, kr1, kr2⟩ := hxr.three
  have lr := hxr.lt
  obtain ⟨kx0, kx1⟩ := hxx.two
  have lx := hxx.lt
  obtain ⟨ky0, ky1⟩ := hxy.two
  have ly := hxy.lt
  clear kc0 kc1 lc kr0 kr1 kr2 lr kx0 kx1 lx ky0 ky1 ly
  obtain ⟨kc0, kc1⟩ := hxc.two
  have lc := hxc.lt
  obtain ⟨kr0, kr1, kr2⟩ := hxr.three
  have lr := hxr.lt
  obtain ⟨kx0, kx1⟩ := hxx.two
  have lx := hxx.lt
  obtain ⟨ky0, ky1⟩ := hxy.two
  have ly := hxy.lt
  obtain ⟨kp0, kp1, kp2⟩ := hxp.three
  have lp := hxp.lt
  go_wp2_with fail
  refine (cO.out _).mono ?_
  rintro e w6 ⟨rfl, hb⟩
  replace h := Below.step h hb
  replace hxc := hxc.kept hb
  replace hxr := hxr.kept hb
  replace hxx := hxx.kept hb
  replace hxy := hxy.kept hb
  replace hxp := hxp.kept hb
  clear hb kc0 kc1 lc kr0 kr1 kr2 lr kx0 kx1 lx ky0 ky1 ly kp0 kp1 kp2 lp
  obtain ⟨kc0, kc1⟩ := hxc.two
  have lc := hxc.lt
  obtain ⟨kr0, kr1, kr2⟩ := hxr.three
  have lr := hxr.lt
  obtain ⟨kx0, kx1⟩ := hxx.two
  have lx := hxx.lt
  obtain ⟨ky0, ky1⟩ := hxy.two
  have ly := hxy.lt
  obtain ⟨kp0, kp1, kp2⟩ := hxp.three
  have lp := hxp.lt
  have fr0 := hxr.free 0
  have fr1 := hxr.free 1
  have fr2 := hxr.free 2
  obtain ⟨sr0, sr1, sr2⟩ := (((hxr.set 0 (.int .i64 0)).set 1 (.int .i64 0)).set 2 (.int .i64 0)).three
  go_wp2_with fail
  refine bodyPost_ret (v := .tuple #[.agg #[.int .i64 0, .int .i64 0, .int .i64 0], .bool false]) (by simp [results, Tryd.results18, go_sem, sr0, sr1, sr2]) (by rfl) ⟨by rfl, ?_⟩
  exact below_sets3 h (by omega) _ _ _


set_option maxHeartbeats 4000000 in
set_option maxRecDepth 100000 in
theorem ptParse_other (a b : Int) (s : ByteArray) (w : World) (hne : s ≠ ⟨#[79]⟩) (n1 : 5 ≤ s.size) (n2 : s.size ≤ 60) (h0 : s[0].toNat = 40) (h9 : s[s.size - 1].toNat = 41) (u v : ByteArray) (hp : splitAll (s.extract 1 (s.size - 1)) 44 = [u, v]) (P Q P2 Q2 : Int) (c1 : ∀ W : World, Calls Tryd.prog 33 #[.string u] W (GivesFB W P Q true)) (c2 : ∀ W : World, Calls Tryd.prog 33 #[.string v] W (GivesFB W P2 Q2 true)) (E : Int) (cR : ∀ W : World, Calls Tryd.prog 34 #[.int .i64 Q] W fun e w' => e = .returned (.int .i64 E) ∧ W = w') (cO : ∀ W : World, Calls Tryd.prog 24 #[.agg #[.int .i64 a, .int .i64 b], .agg #[.int .i64 P, .int .i64 P2, .int .i64 E]] W (GivesB W true)) (T : ByteArray) (cT : ∀ W : World, Calls Tryd.prog 13 #[.agg #[.int .i64 P, .int .i64 P2, .int .i64 E]] W fun e w' => e = .returned (.string T) ∧ Below W.heap.size W w') (hT : T ≠ s) : Calls Tryd.prog 18 #[.agg #[.int .i64 a, .int .i64 b], .string s] w (GivesPB w 0 0 0 false) := by
  replace cR := Lib.hid cR
  replace cO := Lib.hid cO
  replace cT := Lib.hid cT
  have en : (T.toList != s.toList) = true := by rw [bne_iff_ne]; exact fun e => hT (ba_inj e)
  have en2 : (T.toList == s.toList) = false := by rw [beq_eq_false_iff_ne]; exact fun e => hT (ba_inj e)
  clear hT
  have e0 : (s.toList == [79]) = false := by rw [beq_eq_false_iff_ne]; exact fun e => hne (ba_inj (e.trans (by rw [ByteArray.toList_eq])))
  clear hne
  have m1 : 5 ≤ (s.size : Int) := by omega
  have m2 : (s.size : Int) ≤ 60 := by omega
  have c0 : ((s[0].toNat : Int) != 40) = false := by rw [h0]; rfl
  have c9 : ((s[s.size - 1].toNat : Int) != 41) = false := by rw [h9]; rfl
  have hM : (s.extract 1 (s.size - 1)).size ≤ 1048576 := by rw [ByteArray.size_extract]; omega
  clear h0 h9
  have cC := split2C (s.extract 1 (s.size - 1)) u v hM hp
  replace cC := Lib.hid cC
  replace c1 := Lib.hid c1
  replace c2 := Lib.hid c2
  clear hM hp
  have h := Below.refl w.heap.size w
  have hA := below_alloc1 w (.cells #[.int .i64 a, .int .i64 b] 28)
  have hxc := Box.new w 28 #[.int .i64 a, .int .i64 b]
  replace h := Below.step h hA
  clear hA
  have hA := below_alloc1 (w.alloc (.cells #[.int .i64 a, .int .i64 b] 28)) (.cells #[.int .i64 0, .int .i64 0, .int .i64 0] 30)
  have hxr := Box.new (w.alloc (.cells #[.int .i64 a, .int .i64 b] 28)) 30 #[.int .i64 0, .int .i64 0, .int .i64 0]
  rw [show (w.alloc (.cells #[.int .i64 a, .int .i64 b] 28)).heap.size = w.heap.size + 1 from by simp] at hxr
  replace h := Below.step h hA
  replace hxc := hxc.kept hA
  clear hA
  obtain ⟨kc0, kc1⟩ := hxc.two
  have lc := hxc.lt
  obtain ⟨kr0, kr1, kr2⟩ := hxr.three
  have lr := hxr.lt
  go_enter Tryd.func18, Tryd.ntmps18
  go_wp2_with fail
  refine (l1In_yes (s.size : Int) 5 60 _ m1 m2).mono ?_
  rintro e w1 ⟨rfl, rfl⟩
  go_wp2_with fail
  refine (cC.out _).mono ?_
  rintro e w1 ⟨gw, cw, rfl, hk0, hk1, hb⟩
  replace h := Below.step h hb
  replace hxc := hxc.kept hb
  replace hxr := hxr.kept hb
  clear hb kc0 kc1 lc kr0 kr1 kr2 lr
  obtain ⟨kc0, kc1⟩ := hxc.two
  have lc := hxc.lt
  obtain ⟨kr0, kr1, kr2⟩ := hxr.three
  have lr := hxr.lt
  obtain ⟨lhk0, qhk0⟩ := id hk0
  go_wp2_with fail
  refine (c1.out _).mono ?_
  rintro e w2 ⟨rfl, hb⟩
  replace h := Below.step h hb
  replace hxc := hxc.kept hb
  replace hxr := hxr.kept hb
  replace hk0 := hk0.kept hb
  replace hk1 := hk1.kept hb
  clear hb kc0 kc1 lc kr0 kr1 kr2 lr
  obtain ⟨kc0, kc1⟩ := hxc.two
  have lc := hxc.lt
  obtain ⟨kr0, kr1, kr2⟩ := hxr.three
  have lr := hxr.lt
  clear lhk0 qhk0
  obtain ⟨lhk1, qhk1⟩ := id hk1
  go_wp2_with fail
  clear lhk1 qhk1
  have hA := below_alloc1 w2 (.cells #[.int .i64 P, .int .i64 Q] 42)
  have hxx := Box.new w2 42 #[.int .i64 P, .int .i64 Q]
  replace h := Below.step h hA
  replace hxc := hxc.kept hA
  replace hxr := hxr.kept hA
  replace hk0 := hk0.kept hA
  replace hk1 := hk1.kept hA
  clear hA kc0 kc1 lc kr0 kr1 kr2 lr
  generalize w2.alloc (.cells #[.int .i64 P, .int .i64 Q] 42) = w3 at *
  generalize w2.heap.size = gx at hxx ⊢
  obtain ⟨kc0, kc1⟩ := hxc.two
  have lc := hxc.lt
  obtain ⟨kr0, kr1, kr2⟩ := hxr.three
  have lr := hxr.lt
  obtain ⟨kx0, kx1⟩ := hxx.two
  have lx := hxx.lt
  obtain ⟨lhk1, qhk1⟩ := id hk1
  refine (c2.out _).mono ?_
  rintro e w4 ⟨rfl, hb⟩
  replace h := Below.step h hb
  replace hxc := hxc.kept hb
  replace hxr := hxr.kept hb
  replace hxx := hxx.kept hb
  replace hk0 := hk0.kept hb
  replace hk1 := hk1.kept hb
  clear hb kc0 kc1 lc kr0 kr1 kr2 lr kx0 kx1 lx
  obtain ⟨kc0, kc1⟩ := hxc.two
  have lc := hxc.lt
  obtain ⟨kr0, kr1, kr2⟩ := hxr.three
  have lr := hxr.lt
  obtain ⟨kx0, kx1⟩ := hxx.two
  have lx := hxx.lt
  clear lhk1 qhk1 hk0 hk1
  go_upto_region 13 with fail
  have hA := below_alloc1 w4 (.cells #[.int .i64 P2, .int .i64 Q2] 42)
  have hxy := Box.new w4 42 #[.int .i64 P2, .int .i64 Q2]
  replace h := Below.step h hA
  replace hxc := hxc.kept hA
  replace hxr := hxr.kept hA
  replace hxx := hxx.kept hA
  clear hA kc0 kc1 lc kr0 kr1 kr2 lr kx0 kx1 lx
  generalize w4.alloc (.cells #[.int .i64 P2, .int .i64 Q2] 42) = w5 at *
  generalize w4.heap.size = gy at hxy ⊢
  obtain ⟨kc0, kc1⟩ := hxc.two
  have lc := hxc.lt
  obtain ⟨kr0, kr1, kr2⟩ := hxr.three
  have lr := hxr.lt
  obtain ⟨kx0, kx1⟩ := hxx.two
  have lx := hxx.lt
  obtain ⟨ky0, ky1⟩ := hxy.two
  have ly := hxy.lt
  clear kc0 kc1 lc kr0 kr1 kr2 lr kx0 kx1 lx ky0 ky1 ly
  have lgx := hxx.lt
  have lgy := hxy.lt
  have KM : ∀ (W : World), Below w5.heap.size w5 W → (W.cell? ⟨gx, 0, none⟩ = some (.int .i64 P) ∧ W.cell? ⟨gx, 1, none⟩ = some (.int .i64 Q) ∧ W.cell? ⟨gy, 0, none⟩ = some (.int .i64 P2) ∧ Below w5.heap.size w5 W) := fun W hW => ⟨(hxx.kept hW).two.1, (hxx.kept hW).two.2, (hxy.kept hW).two.1, hW⟩
  have KA : ∀ (W : World) (o : Obj), (W.cell? ⟨gx, 0, none⟩ = some (.int .i64 P) ∧ W.cell? ⟨gx, 1, none⟩ = some (.int .i64 Q) ∧ W.cell? ⟨gy, 0, none⟩ = some (.int .i64 P2) ∧ Below w5.heap.size w5 W) → ((W.alloc o).cell? ⟨gx, 0, none⟩ = some (.int .i64 P) ∧ (W.alloc o).cell? ⟨gx, 1, none⟩ = some (.int .i64 Q) ∧ (W.alloc o).cell? ⟨gy, 0, none⟩ = some (.int .i64 P2) ∧ Below w5.heap.size w5 (W.alloc o)) := fun W o ⟨_, _, _, hW⟩ => KM _ (Below.step hW (below_alloc1 _ _))
  have KD : ∀ (W : World), (W.cell? ⟨gx, 0, none⟩ = some (.int .i64 P) ∧ W.cell? ⟨gx, 1, none⟩ = some (.int .i64 Q) ∧ W.cell? ⟨gy, 0, none⟩ = some (.int .i64 P2) ∧ Below w5.heap.size w5 W) → (W.drew.cell? ⟨gx, 0, none⟩ = some (.int .i64 P) ∧ W.drew.cell? ⟨gx, 1, none⟩ = some (.int .i64 Q) ∧ W.drew.cell? ⟨gy, 0, none⟩ = some (.int .i64 P2) ∧ Below w5.heap.size w5 W.drew) := fun W ⟨_, _, _, hW⟩ => KM _ (Below.drewN' hW 1)
  have KS : ∀ (W : World) (g : Nat) (u0 u1 u2 : Value), w5.heap.size ≤ g → (W.cell? ⟨gx, 0, none⟩ = some (.int .i64 P) ∧ W.cell? ⟨gx, 1, none⟩ = some (.int .i64 Q) ∧ W.cell? ⟨gy, 0, none⟩ = some (.int .i64 P2) ∧ Below w5.heap.size w5 W) → ((((W.setCell ⟨g, 0, none⟩ u0).setCell ⟨g, 1, none⟩ u1).setCell ⟨g, 2, none⟩ u2).cell? ⟨gx, 0, none⟩ = some (.int .i64 P) ∧ (((W.setCell ⟨g, 0, none⟩ u0).setCell ⟨g, 1, none⟩ u1).setCell ⟨g, 2, none⟩ u2).cell? ⟨gx, 1, none⟩ = some (.int .i64 Q) ∧ (((W.setCell ⟨g, 0, none⟩ u0).setCell ⟨g, 1, none⟩ u1).setCell ⟨g, 2, none⟩ u2).cell? ⟨gy, 0, none⟩ = some (.int .i64 P2) ∧ Below w5.heap.size w5 (((W.setCell ⟨g, 0, none⟩ u0).setCell ⟨g, 1, none⟩ u1).setCell ⟨g, 2, none⟩ u2)) := fun W g u0 u1 u2 hg ⟨_, _, _, hW⟩ => KM _ (((hW.setCell hg _).setCell hg _).setCell hg _)
  have KB : ∀ (W : World), (W.cell? ⟨gx, 0, none⟩ = some (.int .i64 P) ∧ W.cell? ⟨gx, 1, none⟩ = some (.int .i64 Q) ∧ W.cell? ⟨gy, 0, none⟩ = some (.int .i64 P2) ∧ Below w5.heap.size w5 W) → Below w5.heap.size w5 W := fun W ⟨_, _, _, hW⟩ => hW
  have KM0 := KM w5.drew ⟨rfl, rfl, rfl, Nat.le_refl _, fun _ _ => rfl⟩
  have KM00 := KM _ (Below.refl _ _)
  replace KA := Lib.hid KA
  replace KD := Lib.hid KD
  replace KS := Lib.hid KS
  replace KB := Lib.hid KB
  clear KM
  go_cut [12] (fun s12 wx => ∃ (g : Nat), s12 = .pointer (some ⟨g, 0, none⟩) ∧ Box wx g 30 #[.int .i64 P, .int .i64 P2, .int .i64 E] ∧ Below w5.heap.size w5 wx)
  case first =>
    go_region_held3 (fun w' => w'.cell? ⟨gx, 0, none⟩ = some (.int .i64 P) ∧ w'.cell? ⟨gx, 1, none⟩ = some (.int .i64 Q) ∧ w'.cell? ⟨gy, 0, none⟩ = some (.int .i64 P2) ∧ Below w5.heap.size w5 w') ((first | (with_reducible assumption) | ((with_reducible refine KA.out _ _ ?_); (with_reducible assumption)) | ((with_reducible refine KS.out _ _ _ _ _ ?_ ?_); (first | exact Nat.le_refl _ | fail); (first | (with_reducible assumption) | ((with_reducible refine KA.out _ _ ?_); (with_reducible assumption)))) | ((with_reducible refine KD.out _ ?_); (first | (with_reducible assumption) | ((with_reducible refine KA.out _ _ ?_); (with_reducible assumption)) | ((with_reducible refine KS.out _ _ _ _ _ ?_ ?_); (first | exact Nat.le_refl _ | fail); (first | (with_reducible assumption) | ((with_reducible refine KA.out _ _ ?_); (with_reducible assumption))))))))
      (first
        | (go_at_call 34; (with_reducible refine (cR.out _).mono ?_); rintro e wC ⟨rfl, rfl⟩; skip))
    all_goals (go_wp2_with fail; go_meet)
    all_goals refine ⟨_, rfl, ?_, KB.out _ ?_⟩
    all_goals (first | (with_reducible assumption) | (with_reducible exact Box.new _ _ _) | ((with_reducible refine KA.out _ _ ?_); (with_reducible assumption)) | ((with_reducible refine KD.out _ ?_); (first | (with_reducible assumption) | ((with_reducible refine KA.out _ _ ?_); (with_reducible assumption)))) | exact Box.new _ _ _ | exact (Box.new _ _ _).kept ⟨rfl, rfl, rfl, Nat.le_refl _, fun _ _ => rfl⟩)
  obtain ⟨gp, rfl, hxp, hb⟩ := hcut
  clear KM0 KM00 KA KD KS KB lgx lgy
  replace h := Below.step h hb
  replace hxc := hxc.kept hb
  replace hxr := hxr.kept hb
  replace hxx := hxx.kept hb
  replace hxy := hxy.kept hb
  clear hb
  obtain ⟨kc0, kc1⟩ := hxc.two
  have lc := hxc.lt
  obtain ⟨kr0, kr1, kr2⟩ := hxr.three
  have lr := hxr.lt
  obtain ⟨kx0, kx1⟩ := hxx.two
  have lx := hxx.lt
  obtain ⟨ky0, ky1⟩ := hxy.two
  have ly := hxy.lt
  clear kc0 kc1 lc kr0 kr1 kr2 lr kx0 kx1 lx ky0 ky1 ly
  obtain ⟨kc0, kc1⟩ := hxc.two
  have lc := hxc.lt
  obtain ⟨kr0, kr1, kr2⟩ := hxr.three
  have lr := hxr.lt
  obtain ⟨kx0, kx1⟩ := hxx.two
  have lx := hxx.lt
  obtain ⟨ky0, ky1⟩ := hxy.two
  have ly := hxy.lt
  obtain ⟨kp0, kp1, kp2⟩ := hxp.three
  have lp := hxp.lt
  go_wp2_with fail
  refine (cO.out _).mono ?_
  rintro e w6 ⟨rfl, hb⟩
  replace h := Below.step h hb
  replace hxc := hxc.kept hb
  replace hxr := hxr.kept hb
  replace hxx := hxx.kept hb
  replace hxy := hxy.kept hb
  replace hxp := hxp.kept hb
  clear hb kc0 kc1 lc kr0 kr1 kr2 lr kx0 kx1 lx ky0 ky1 ly kp0 kp1 kp2 lp
  obtain ⟨kc0, kc1⟩ := hxc.two
  have lc := hxc.lt
  obtain ⟨kr0, kr1, kr2⟩ := hxr.three
  have lr := hxr.lt
  obtain ⟨kx0, kx1⟩ := hxx.two
  have lx := hxx.lt
  obtain ⟨ky0, ky1⟩ := hxy.two
  have ly := hxy.lt
  obtain ⟨kp0, kp1, kp2⟩ := hxp.three
  have lp := hxp.lt
  go_wp2_with fail
  refine (cT.out _).mono ?_
  rintro e w7 ⟨rfl, hb⟩
  replace h := Below.step h hb
  replace hxc := hxc.kept hb
  replace hxr := hxr.kept hb
  replace hxx := hxx.kept hb
  replace hxy := hxy.kept hb
  replace hxp := hxp.kept hb
  clear hb kc0 kc1 lc kr0 kr1 kr2 lr kx0 kx1 lx ky0 ky1 ly kp0 kp1 kp2 lp
  obtain ⟨kc0, kc1⟩ := hxc.two
  have lc := hxc.lt
  obtain ⟨kr0, kr1, kr2⟩ := hxr.three
  have lr := hxr.lt
  obtain ⟨kx0, kx1⟩ := hxx.two
  have lx := hxx.lt
  obtain ⟨ky0, ky1⟩ := hxy.two
  have ly := hxy.lt
  obtain ⟨kp0, kp1, kp2⟩ := hxp.three
  have lp := hxp.lt
  have fr0 := hxr.free 0
  have fr1 := hxr.free 1
  have fr2 := hxr.free 2
  obtain ⟨sr0, sr1, sr2⟩ := (((hxr.set 0 (.int .i64 0)).set 1 (.int .i64 0)).set 2 (.int .i64 0)).three
  go_wp2_with fail
  refine bodyPost_ret (v := .tuple #[.agg #[.int .i64 0, .int .i64 0, .int .i64 0], .bool false]) (by simp [results, Tryd.results18, go_sem, sr0, sr1, sr2]) (by rfl) ⟨by rfl, ?_⟩
  exact below_sets3 h (by omega) _ _ _


set_option maxHeartbeats 4000000 in
set_option maxRecDepth 100000 in
theorem ptParse_yes (a b : Int) (s : ByteArray) (w : World) (hne : s ≠ ⟨#[79]⟩) (n1 : 5 ≤ s.size) (n2 : s.size ≤ 60) (h0 : s[0].toNat = 40) (h9 : s[s.size - 1].toNat = 41) (u v : ByteArray) (hp : splitAll (s.extract 1 (s.size - 1)) 44 = [u, v]) (P Q P2 Q2 : Int) (c1 : ∀ W : World, Calls Tryd.prog 33 #[.string u] W (GivesFB W P Q true)) (c2 : ∀ W : World, Calls Tryd.prog 33 #[.string v] W (GivesFB W P2 Q2 true)) (E : Int) (cR : ∀ W : World, Calls Tryd.prog 34 #[.int .i64 Q] W fun e w' => e = .returned (.int .i64 E) ∧ W = w') (cO : ∀ W : World, Calls Tryd.prog 24 #[.agg #[.int .i64 a, .int .i64 b], .agg #[.int .i64 P, .int .i64 P2, .int .i64 E]] W (GivesB W true)) (cT : ∀ W : World, Calls Tryd.prog 13 #[.agg #[.int .i64 P, .int .i64 P2, .int .i64 E]] W fun e w' => e = .returned (.string s) ∧ Below W.heap.size W w') : Calls Tryd.prog 18 #[.agg #[.int .i64 a, .int .i64 b], .string s] w (GivesPB w P P2 E true) := by
  replace cR := Lib.hid cR
  replace cO := Lib.hid cO
  replace cT := Lib.hid cT
  have e0 : (s.toList == [79]) = false := by rw [beq_eq_false_iff_ne]; exact fun e => hne (ba_inj (e.trans (by rw [ByteArray.toList_eq])))
  clear hne
  have m1 : 5 ≤ (s.size : Int) := by omega
  have m2 : (s.size : Int) ≤ 60 := by omega
  have c0 : ((s[0].toNat : Int) != 40) = false := by rw [h0]; rfl
  have c9 : ((s[s.size - 1].toNat : Int) != 41) = false := by rw [h9]; rfl
  have hM : (s.extract 1 (s.size - 1)).size ≤ 1048576 := by rw [ByteArray.size_extract]; omega
  clear h0 h9
  have cC := split2C (s.extract 1 (s.size - 1)) u v hM hp
  replace cC := Lib.hid cC
  replace c1 := Lib.hid c1
  replace c2 := Lib.hid c2
  clear hM hp
  have h := Below.refl w.heap.size w
  have hA := below_alloc1 w (.cells #[.int .i64 a, .int .i64 b] 28)
  have hxc := Box.new w 28 #[.int .i64 a, .int .i64 b]
  replace h := Below.step h hA
  clear hA
  have hA := below_alloc1 (w.alloc (.cells #[.int .i64 a, .int .i64 b] 28)) (.cells #[.int .i64 0, .int .i64 0, .int .i64 0] 30)
  have hxr := Box.new (w.alloc (.cells #[.int .i64 a, .int .i64 b] 28)) 30 #[.int .i64 0, .int .i64 0, .int .i64 0]
  rw [show (w.alloc (.cells #[.int .i64 a, .int .i64 b] 28)).heap.size = w.heap.size + 1 from by simp] at hxr
  replace h := Below.step h hA
  replace hxc := hxc.kept hA
  clear hA
  obtain ⟨kc0, kc1⟩ := hxc.two
  have lc := hxc.lt
  obtain ⟨kr0, kr1, kr2⟩ := hxr.three
  have lr := hxr.lt
  go_enter Tryd.func18, Tryd.ntmps18
  go_wp2_with fail
  refine (l1In_yes (s.size : Int) 5 60 _ m1 m2).mono ?_
  rintro e w1 ⟨rfl, rfl⟩
  go_wp2_with fail
  refine (cC.out _).mono ?_
  rintro e w1 ⟨gw, cw, rfl, hk0, hk1, hb⟩
  replace h := Below.step h hb
  replace hxc := hxc.kept hb
  replace hxr := hxr.kept hb
  clear hb kc0 kc1 lc kr0 kr1 kr2 lr
  obtain ⟨kc0, kc1⟩ := hxc.two
  have lc := hxc.lt
  obtain ⟨kr0, kr1, kr2⟩ := hxr.three
  have lr := hxr.lt
  obtain ⟨lhk0, qhk0⟩ := id hk0
  go_wp2_with fail
  refine (c1.out _).mono ?_
  rintro e w2 ⟨rfl, hb⟩
  replace h := Below.step h hb
  replace hxc := hxc.kept hb
  replace hxr := hxr.kept hb
  replace hk0 := hk0.kept hb
  replace hk1 := hk1.kept hb
  clear hb kc0 kc1 lc kr0 kr1 kr2 lr
  obtain ⟨kc0, kc1⟩ := hxc.two
  have lc := hxc.lt
  obtain ⟨kr0, kr1, kr2⟩ := hxr.three
  have lr := hxr.lt
  clear lhk0 qhk0
  obtain ⟨lhk1, qhk1⟩ := id hk1
  go_wp2_with fail
  clear lhk1 qhk1
  have hA := below_alloc1 w2 (.cells #[.int .i64 P, .int .i64 Q] 42)
  have hxx := Box.new w2 42 #[.int .i64 P, .int .i64 Q]
  replace h := Below.step h hA
  replace hxc := hxc.kept hA
  replace hxr := hxr.kept hA
  replace hk0 := hk0.kept hA
  replace hk1 := hk1.kept hA
  clear hA kc0 kc1 lc kr0 kr1 kr2 lr
  generalize w2.alloc (.cells #[.int .i64 P, .int .i64 Q] 42) = w3 at *
  generalize w2.heap.size = gx at hxx ⊢
  obtain ⟨kc0, kc1⟩ := hxc.two
  have lc := hxc.lt
  obtain ⟨kr0, kr1, kr2⟩ := hxr.three
  have lr := hxr.lt
  obtain ⟨kx0, kx1⟩ := hxx.two
  have lx := hxx.lt
  obtain ⟨lhk1, qhk1⟩ := id hk1
  refine (c2.out _).mono ?_
  rintro e w4 ⟨rfl, hb⟩
  replace h := Below.step h hb
  replace hxc := hxc.kept hb
  replace hxr := hxr.kept hb
  replace hxx := hxx.kept hb
  replace hk0 := hk0.kept hb
  replace hk1 := hk1.kept hb
  clear hb kc0 kc1 lc kr0 kr1 kr2 lr kx0 kx1 lx
  obtain ⟨kc0, kc1⟩ := hxc.two
  have lc := hxc.lt
  obtain ⟨kr0, kr1, kr2⟩ := hxr.three
  have lr := hxr.lt
  obtain ⟨kx0, kx1⟩ := hxx.two
  have lx := hxx.lt
  clear lhk1 qhk1 hk0 hk1
  go_upto_region 13 with fail
  have hA := below_alloc1 w4 (.cells #[.int .i64 P2, .int .i64 Q2] 42)
  have hxy := Box.new w4 42 #[.int .i64 P2, .int .i64 Q2]
  replace h := Below.step h hA
  replace hxc := hxc.kept hA
  replace hxr := hxr.kept hA
  replace hxx := hxx.kept hA
  clear hA kc0 kc1 lc kr0 kr1 kr2 lr kx0 kx1 lx
  generalize w4.alloc (.cells #[.int .i64 P2, .int .i64 Q2] 42) = w5 at *
  generalize w4.heap.size = gy at hxy ⊢
  obtain ⟨kc0, kc1⟩ := hxc.two
  have lc := hxc.lt
  obtain ⟨kr0, kr1, kr2⟩ := hxr.three
  have lr := hxr.lt
  obtain ⟨kx0, kx1⟩ := hxx.two
  have lx := hxx.lt
  obtain ⟨ky0, ky1⟩ := hxy.two
  have ly := hxy.lt
  clear kc0 kc1 lc kr0 kr1 kr2 lr kx0 kx1 lx ky0 ky1 ly
  have lgx := hxx.lt
  have lgy := hxy.lt
  have KM : ∀ (W : World), Below w5.heap.size w5 W → (W.cell? ⟨gx, 0, none⟩ = some (.int .i64 P) ∧ W.cell? ⟨gx, 1, none⟩ = some (.int .i64 Q) ∧ W.cell? ⟨gy, 0, none⟩ = some (.int .i64 P2) ∧ Below w5.heap.size w5 W) := fun W hW => ⟨(hxx.kept hW).two.1, (hxx.kept hW).two.2, (hxy.kept hW).two.1, hW⟩
  have KA : ∀ (W : World) (o : Obj), (W.cell? ⟨gx, 0, none⟩ = some (.int .i64 P) ∧ W.cell? ⟨gx, 1, none⟩ = some (.int .i64 Q) ∧ W.cell? ⟨gy, 0, none⟩ = some (.int .i64 P2) ∧ Below w5.heap.size w5 W) → ((W.alloc o).cell? ⟨gx, 0, none⟩ = some (.int .i64 P) ∧ (W.alloc o).cell? ⟨gx, 1, none⟩ = some (.int .i64 Q) ∧ (W.alloc o).cell? ⟨gy, 0, none⟩ = some (.int .i64 P2) ∧ Below w5.heap.size w5 (W.alloc o)) := fun W o ⟨_, _, _, hW⟩ => KM _ (Below.step hW (below_alloc1 _ _))
  have KD : ∀ (W : World), (W.cell? ⟨gx, 0, none⟩ = some (.int .i64 P) ∧ W.cell? ⟨gx, 1, none⟩ = some (.int .i64 Q) ∧ W.cell? ⟨gy, 0, none⟩ = some (.int .i64 P2) ∧ Below w5.heap.size w5 W) → (W.drew.cell? ⟨gx, 0, none⟩ = some (.int .i64 P) ∧ W.drew.cell? ⟨gx, 1, none⟩ = some (.int .i64 Q) ∧ W.drew.cell? ⟨gy, 0, none⟩ = some (.int .i64 P2) ∧ Below w5.heap.size w5 W.drew) := fun W ⟨_, _, _, hW⟩ => KM _ (Below.drewN' hW 1)
  have KS : ∀ (W : World) (g : Nat) (u0 u1 u2 : Value), w5.heap.size ≤ g → (W.cell? ⟨gx, 0, none⟩ = some (.int .i64 P) ∧ W.cell? ⟨gx, 1, none⟩ = some (.int .i64 Q) ∧ W.cell? ⟨gy, 0, none⟩ = some (.int .i64 P2) ∧ Below w5.heap.size w5 W) → ((((W.setCell ⟨g, 0, none⟩ u0).setCell ⟨g, 1, none⟩ u1).setCell ⟨g, 2, none⟩ u2).cell? ⟨gx, 0, none⟩ = some (.int .i64 P) ∧ (((W.setCell ⟨g, 0, none⟩ u0).setCell ⟨g, 1, none⟩ u1).setCell ⟨g, 2, none⟩ u2).cell? ⟨gx, 1, none⟩ = some (.int .i64 Q) ∧ (((W.setCell ⟨g, 0, none⟩ u0).setCell ⟨g, 1, none⟩ u1).setCell ⟨g, 2, none⟩ u2).cell? ⟨gy, 0, none⟩ = some (.int .i64 P2) ∧ Below w5.heap.size w5 (((W.setCell ⟨g, 0, none⟩ u0).setCell ⟨g, 1, none⟩ u1).setCell ⟨g, 2, none⟩ u2)) := fun W g u0 u1 u2 hg ⟨_, _, _, hW⟩ => KM _ (((hW.setCell hg _).setCell hg _).setCell hg _)
  have KB : ∀ (W : World), (W.cell? ⟨gx, 0, none⟩ = some (.int .i64 P) ∧ W.cell? ⟨gx, 1, none⟩ = some (.int .i64 Q) ∧ W.cell? ⟨gy, 0, none⟩ = some (.int .i64 P2) ∧ Below w5.heap.size w5 W) → Below w5.heap.size w5 W := fun W ⟨_, _, _, hW⟩ => hW
  have KM0 := KM w5.drew ⟨rfl, rfl, rfl, Nat.le_refl _, fun _ _ => rfl⟩
  have KM00 := KM _ (Below.refl _ _)
  replace KA := Lib.hid KA
  replace KD := Lib.hid KD
  replace KS := Lib.hid KS
  replace KB := Lib.hid KB
  clear KM
  go_cut [12] (fun s12 wx => ∃ (g : Nat), s12 = .pointer (some ⟨g, 0, none⟩) ∧ Box wx g 30 #[.int .i64 P, .int .i64 P2, .int .i64 E] ∧ Below w5.heap.size w5 wx)
  case first =>
    go_region_held3 (fun w' => w'.cell? ⟨gx, 0, none⟩ = some (.int .i64 P) ∧ w'.cell? ⟨gx, 1, none⟩ = some (.int .i64 Q) ∧ w'.cell? ⟨gy, 0, none⟩ = some (.int .i64 P2) ∧ Below w5.heap.size w5 w') ((first | (with_reducible assumption) | ((with_reducible refine KA.out _ _ ?_); (with_reducible assumption)) | ((with_reducible refine KS.out _ _ _ _ _ ?_ ?_); (first | exact Nat.le_refl _ | fail); (first | (with_reducible assumption) | ((with_reducible refine KA.out _ _ ?_); (with_reducible assumption)))) | ((with_reducible refine KD.out _ ?_); (first | (with_reducible assumption) | ((with_reducible refine KA.out _ _ ?_); (with_reducible assumption)) | ((with_reducible refine KS.out _ _ _ _ _ ?_ ?_); (first | exact Nat.le_refl _ | fail); (first | (with_reducible assumption) | ((with_reducible refine KA.out _ _ ?_); (with_reducible assumption))))))))
      (first
        | (go_at_call 34; (with_reducible refine (cR.out _).mono ?_); rintro e wC ⟨rfl, rfl⟩; skip))
    all_goals (go_wp2_with fail; go_meet)
    all_goals refine ⟨_, rfl, ?_, KB.out _ ?_⟩
    all_goals (first | (with_reducible assumption) | (with_reducible exact Box.new _ _ _) | ((with_reducible refine KA.out _ _ ?_); (with_reducible assumption)) | ((with_reducible refine KD.out _ ?_); (first | (with_reducible assumption) | ((with_reducible refine KA.out _ _ ?_); (with_reducible assumption)))) | exact Box.new _ _ _ | exact (Box.new _ _ _).kept ⟨rfl, rfl, rfl, Nat.le_refl _, fun _ _ => rfl⟩)
  obtain ⟨gp, rfl, hxp, hb⟩ := hcut
  clear KM0 KM00 KA KD KS KB lgx lgy
  replace h := Below.step h hb
  replace hxc := hxc.kept hb
  replace hxr := hxr.kept hb
  replace hxx := hxx.kept hb
  replace hxy := hxy.kept hb
  clear hb
  obtain ⟨kc0, kc1⟩ := hxc.two
  have lc := hxc.lt
  obtain ⟨kr0, kr1, kr2⟩ := hxr.three
  have lr := hxr.lt
  obtain ⟨kx0, kx1⟩ := hxx.two
  have lx := hxx.lt
  obtain ⟨ky0, ky1⟩ := hxy.two
  have ly := hxy.lt
  clear kc0 kc1 lc kr0 kr1 kr2 lr kx0 kx1 lx ky0 ky1 ly
  obtain ⟨kc0, kc1⟩ := hxc.two
  have lc := hxc.lt
  obtain ⟨kr0, kr1, kr2⟩ := hxr.three
  have lr := hxr.lt
  obtain ⟨kx0, kx1⟩ := hxx.two
  have lx := hxx.lt
  obtain ⟨ky0, ky1⟩ := hxy.two
  have ly := hxy.lt
  obtain ⟨kp0, kp1, kp2⟩ := hxp.three
  have lp := hxp.lt
  go_wp2_with fail
  refine (cO.out _).mono ?_
  rintro e w6 ⟨rfl, hb⟩
  replace h := Below.step h hb
  replace hxc := hxc.kept hb
  replace hxr := hxr.kept hb
  replace hxx := hxx.kept hb
  replace hxy := hxy.kept hb
  replace hxp := hxp.kept hb
  clear hb kc0 kc1 lc kr0 kr1 kr2 lr kx0 kx1 lx ky0 ky1 ly kp0 kp1 kp2 lp
  obtain ⟨kc0, kc1⟩ := hxc.two
  have lc := hxc.lt
  obtain ⟨kr0, kr1, kr2⟩ := hxr.three
  have lr := hxr.lt
  obtain ⟨kx0, kx1⟩ := hxx.two
  have lx := hxx.lt
  obtain ⟨ky0, ky1⟩ := hxy.two
  have ly := hxy.lt
  obtain ⟨kp0, kp1, kp2⟩ := hxp.three
  have lp := hxp.lt
  go_wp2_with fail
  refine (cT.out _).mono ?_
  rintro e w7 ⟨rfl, hb⟩
  replace h := Below.step h hb
  replace hxc := hxc.kept hb
  replace hxr := hxr.kept hb
  replace hxx := hxx.kept hb
  replace hxy := hxy.kept hb
  replace hxp := hxp.kept hb
  clear hb kc0 kc1 lc kr0 kr1 kr2 lr kx0 kx1 lx ky0 ky1 ly kp0 kp1 kp2 lp
  obtain ⟨kc0, kc1⟩ := hxc.two
  have lc := hxc.lt
  obtain ⟨kr0, kr1, kr2⟩ := hxr.three
  have lr := hxr.lt
  obtain ⟨kx0, kx1⟩ := hxx.two
  have lx := hxx.lt
  obtain ⟨ky0, ky1⟩ := hxy.two
  have ly := hxy.lt
  obtain ⟨kp0, kp1, kp2⟩ := hxp.three
  have lp := hxp.lt
  have fr0 := hxr.free 0
  have fr1 := hxr.free 1
  have fr2 := hxr.free 2
  obtain ⟨sr0, sr1, sr2⟩ := (((hxr.set 0 (.int .i64 P)).set 1 (.int .i64 P2)).set 2 (.int .i64 E)).three
  go_wp2_with fail
  refine bodyPost_ret (v := .tuple #[.agg #[.int .i64 P, .int .i64 P2, .int .i64 E], .bool true]) (by simp [results, Tryd.results18, go_sem, sr0, sr1, sr2]) (by rfl) ⟨by rfl, ?_⟩
  exact below_sets3 h (by omega) _ _ _

end Go.Proofs.YtokhadhfjbecmaaDoor

namespace Go.Proofs.YtokhadhfjbecmaaDoor
open Go.RowKit Go.Joins

def GivesO (w : World) (r : Option P3) (e : Ending) (w' : World) : Prop := GivesPB w (r.getD .zero).x (r.getD .zero).y (r.getD .zero).e r.isSome e w'

set_option maxHeartbeats 1000000 in
set_option maxRecDepth 100000 in
theorem parsePS_bad (a b : Int) (s : ByteArray) (w : World) (g : ¬ EcG a b) : Calls Tryd.prog 9 #[.agg #[.int .i64 a, .int .i64 b], .string s] w (GivesPB w 0 0 0 false) := by
  have h := Below.refl w.heap.size w
  have hA := below_alloc1 w (.cells #[.int .i64 a, .int .i64 b] 28)
  have hxc := Box.new w 28 #[.int .i64 a, .int .i64 b]
  replace h := Below.step h hA
  clear hA
  have hA := below_alloc1 (w.alloc (.cells #[.int .i64 a, .int .i64 b] 28)) (.cells #[.int .i64 0, .int .i64 0, .int .i64 0] 30)
  have hxr := Box.new (w.alloc (.cells #[.int .i64 a, .int .i64 b] 28)) 30 #[.int .i64 0, .int .i64 0, .int .i64 0]
  rw [show (w.alloc (.cells #[.int .i64 a, .int .i64 b] 28)).heap.size = w.heap.size + 1 from by simp] at hxr
  replace h := Below.step h hA
  replace hxc := hxc.kept hA
  clear hA
  obtain ⟨kc0, kc1⟩ := hxc.two
  have lc := hxc.lt
  obtain ⟨kr0, kr1, kr2⟩ := hxr.three
  have lr := hxr.lt
  go_enter Tryd.func9, Tryd.ntmps9
  go_wp2_with fail
  refine (ecGood_no a b _ g).mono ?_
  rintro e w1 ⟨rfl, hb⟩
  replace h := Below.step h hb
  replace hxc := hxc.kept hb
  replace hxr := hxr.kept hb
  clear hb kc0 kc1 lc kr0 kr1 kr2 lr
  obtain ⟨kc0, kc1⟩ := hxc.two
  have lc := hxc.lt
  obtain ⟨kr0, kr1, kr2⟩ := hxr.three
  have lr := hxr.lt
  have fr0 := hxr.free 0
  have fr1 := hxr.free 1
  have fr2 := hxr.free 2
  obtain ⟨sr0, sr1, sr2⟩ := (((hxr.set 0 (.int .i64 0)).set 1 (.int .i64 0)).set 2 (.int .i64 0)).three
  go_wp2_with fail
  refine bodyPost_ret (v := .tuple #[.agg #[.int .i64 0, .int .i64 0, .int .i64 0], .bool false]) (by simp [results, Tryd.results9, go_sem, sr0, sr1, sr2]) (by rfl) ⟨by rfl, ?_⟩
  exact below_sets3 h (by omega) _ _ _


set_option maxHeartbeats 1000000 in
set_option maxRecDepth 100000 in
theorem parsePS_c (a b : Int) (s : ByteArray) (w : World) (g : EcG a b) (x y u : Int) (ok : Bool) (c1 : ∀ W : World, Calls Tryd.prog 18 #[.agg #[.int .i64 a, .int .i64 b], .string s] W (GivesPB W x y u ok)) : Calls Tryd.prog 9 #[.agg #[.int .i64 a, .int .i64 b], .string s] w (GivesPB w x y u ok) := by
  have cg := fun W => ecGood_yes a b W g
  replace cg := Lib.hid cg
  replace c1 := Lib.hid c1
  clear g
  have h := Below.refl w.heap.size w
  have hA := below_alloc1 w (.cells #[.int .i64 a, .int .i64 b] 28)
  have hxc := Box.new w 28 #[.int .i64 a, .int .i64 b]
  replace h := Below.step h hA
  clear hA
  have hA := below_alloc1 (w.alloc (.cells #[.int .i64 a, .int .i64 b] 28)) (.cells #[.int .i64 0, .int .i64 0, .int .i64 0] 30)
  have hxr := Box.new (w.alloc (.cells #[.int .i64 a, .int .i64 b] 28)) 30 #[.int .i64 0, .int .i64 0, .int .i64 0]
  rw [show (w.alloc (.cells #[.int .i64 a, .int .i64 b] 28)).heap.size = w.heap.size + 1 from by simp] at hxr
  replace h := Below.step h hA
  replace hxc := hxc.kept hA
  clear hA
  obtain ⟨kc0, kc1⟩ := hxc.two
  have lc := hxc.lt
  obtain ⟨kr0, kr1, kr2⟩ := hxr.three
  have lr := hxr.lt
  go_enter Tryd.func9, Tryd.ntmps9
  go_wp2_with fail
  refine (cg.out _).mono ?_
  rintro e w1 ⟨rfl, hb⟩
  replace h := Below.step h hb
  replace hxc := hxc.kept hb
  replace hxr := hxr.kept hb
  clear hb kc0 kc1 lc kr0 kr1 kr2 lr
  obtain ⟨kc0, kc1⟩ := hxc.two
  have lc := hxc.lt
  obtain ⟨kr0, kr1, kr2⟩ := hxr.three
  have lr := hxr.lt
  go_wp2_with fail
  refine (c1.out _).mono ?_
  rintro e w2 ⟨rfl, hb⟩
  replace h := Below.step h hb
  replace hxc := hxc.kept hb
  replace hxr := hxr.kept hb
  clear hb kc0 kc1 lc kr0 kr1 kr2 lr
  obtain ⟨kc0, kc1⟩ := hxc.two
  have lc := hxc.lt
  obtain ⟨kr0, kr1, kr2⟩ := hxr.three
  have lr := hxr.lt
  have fr0 := hxr.free 0
  have fr1 := hxr.free 1
  have fr2 := hxr.free 2
  obtain ⟨sr0, sr1, sr2⟩ := (((hxr.set 0 (.int .i64 x)).set 1 (.int .i64 y)).set 2 (.int .i64 u)).three
  go_wp2_with fail
  refine bodyPost_ret (v := .tuple #[.agg #[.int .i64 x, .int .i64 y, .int .i64 u], .bool ok]) (by simp [results, Tryd.results9, go_sem, sr0, sr1, sr2]) (by rfl) ⟨by rfl, ?_⟩
  exact below_sets3 h (by omega) _ _ _


set_option maxHeartbeats 1000000 in
set_option maxRecDepth 100000 in
theorem parsePI_O (a b : Int) (w : World) : Calls Tryd.prog 10 #[.agg #[.int .i64 a, .int .i64 b], .string ⟨#[79]⟩] w (GivesPB w 0 0 0 (decide (EcG a b))) := by
  have c1 := fun W => isCurveI_any a b W
  obtain ⟨ok, hk⟩ : ∃ ok, ok = decide (EcG a b) := ⟨_, rfl⟩
  rw [← hk] at c1 ⊢
  replace c1 := Lib.hid c1
  clear hk
  have h := Below.refl w.heap.size w
  have hA := below_alloc1 w (.cells #[.int .i64 a, .int .i64 b] 28)
  have hxc := Box.new w 28 #[.int .i64 a, .int .i64 b]
  replace h := Below.step h hA
  clear hA
  have hA := below_alloc1 (w.alloc (.cells #[.int .i64 a, .int .i64 b] 28)) (.cells #[.int .i64 0, .int .i64 0, .int .i64 0] 30)
  have hxr := Box.new (w.alloc (.cells #[.int .i64 a, .int .i64 b] 28)) 30 #[.int .i64 0, .int .i64 0, .int .i64 0]
  rw [show (w.alloc (.cells #[.int .i64 a, .int .i64 b] 28)).heap.size = w.heap.size + 1 from by simp] at hxr
  replace h := Below.step h hA
  replace hxc := hxc.kept hA
  clear hA
  obtain ⟨kc0, kc1⟩ := hxc.two
  have lc := hxc.lt
  obtain ⟨kr0, kr1, kr2⟩ := hxr.three
  have lr := hxr.lt
  go_enter Tryd.func10, Tryd.ntmps10
  go_wp2_with fail
  refine (c1.out _).mono ?_
  rintro e w1 ⟨rfl, hb⟩
  replace h := Below.step h hb
  replace hxc := hxc.kept hb
  replace hxr := hxr.kept hb
  clear hb kc0 kc1 lc kr0 kr1 kr2 lr
  obtain ⟨kc0, kc1⟩ := hxc.two
  have lc := hxc.lt
  obtain ⟨kr0, kr1, kr2⟩ := hxr.three
  have lr := hxr.lt
  have fr0 := hxr.free 0
  have fr1 := hxr.free 1
  have fr2 := hxr.free 2
  obtain ⟨sr0, sr1, sr2⟩ := (((hxr.set 0 (.int .i64 0)).set 1 (.int .i64 0)).set 2 (.int .i64 0)).three
  go_wp2_with fail
  refine bodyPost_ret (v := .tuple #[.agg #[.int .i64 0, .int .i64 0, .int .i64 0], .bool ok]) (by simp [results, Tryd.results10, go_sem, sr0, sr1, sr2]) (by rfl) ⟨by rfl, ?_⟩
  exact below_sets3 h (by omega) _ _ _


/-- The first point of a row whose text is s. -/
noncomputable def findP (L : List P3) (s : ByteArray) : Option P3 := L.find? fun q => decide (ptTB q = s)
theorem findP_hit {L : List P3} {s : ByteArray} {k : Nat} {q : P3} (hk : k < L.length) (hno : ∀ j, j < k → ptTB (L[j]?.getD .zero) ≠ s) (hq : L[k]?.getD .zero = q) (hT : ptTB q = s) : findP L s = some q := by
  unfold findP
  rw [List.find?_eq_some_iff_getElem]
  have e : L[k] = q := by rw [← hq, List.getElem?_eq_getElem hk]; rfl
  refine ⟨by simpa using hT, k, hk, e, fun j hj => ?_⟩
  have := hno j hj
  rw [List.getElem?_eq_getElem (by omega)] at this
  simpa using this
theorem findP_miss {L : List P3} {s : ByteArray} (hno : ∀ j, j < L.length → ptTB (L[j]?.getD .zero) ≠ s) : findP L s = none := by
  unfold findP
  rw [List.find?_eq_none]
  intro q hq
  obtain ⟨j, hj, e⟩ := List.mem_iff_getElem.1 hq
  have := hno j hj
  rw [List.getElem?_eq_getElem hj] at this
  simpa [e] using this

set_option maxHeartbeats 4000000 in
set_option maxRecDepth 100000 in
theorem parsePI_c (a b : Int) (s : ByteArray) (w : World) (hL : EnvC w) (hne : s ≠ ⟨#[79]⟩) (t f r : ByteArray) (bb o1 o2 : Bool) (P Q : Int) (L : List P3) (hl : L.length ≤ 10) (cT : ∀ W : World, Calls Tryd.prog 21 #[.string s, .string ⟨#[40]⟩] W fun e w' => e = .returned (.string t) ∧ W = w') (cC : ∀ W : World, EnvC W → Calls Tryd.prog 20 #[.string t, .string ⟨#[44]⟩] W fun e w' => e = .returned (.tuple #[.string f, .string r, .bool bb]) ∧ Below W.heap.size W w') (c1 : ∀ W : World, EnvC W → Calls Tryd.prog 22 #[.string f] W (GivesFB W P Q o1)) (c2 : ∀ W : World, Calls Tryd.prog 23 #[.agg #[.int .i64 a, .int .i64 b], .agg #[.int .i64 P, .int .i64 Q]] W (GivesPRowOk W L o2)) (c3 : ∀ q ∈ L, ∀ W : World, EnvC W → Calls Tryd.prog 8 #[.agg #[.int .i64 a, .int .i64 b], .agg #[.int .i64 q.x, .int .i64 q.y, .int .i64 q.e]] W (GivesSB W (ptTB q) true)) : Calls Tryd.prog 10 #[.agg #[.int .i64 a, .int .i64 b], .string s] w (GivesO w (findP L s)) := by
  have e0 : (s.toList == [79]) = false := by rw [beq_eq_false_iff_ne]; exact fun e => hne (ba_inj (e.trans (by rw [ByteArray.toList_eq])))
  clear hne
  replace cT := Lib.hid cT
  replace cC := Lib.hid cC
  replace c1 := Lib.hid c1
  replace c2 := Lib.hid c2
  replace c3 := Lib.hid c3
  have h := Below.refl w.heap.size w
  have hA := below_alloc1 w (.cells #[.int .i64 a, .int .i64 b] 28)
  have hxc := Box.new w 28 #[.int .i64 a, .int .i64 b]
  replace h := Below.step h hA
  clear hA
  have hA := below_alloc1 (w.alloc (.cells #[.int .i64 a, .int .i64 b] 28)) (.cells #[.int .i64 0, .int .i64 0, .int .i64 0] 30)
  have hxr := Box.new (w.alloc (.cells #[.int .i64 a, .int .i64 b] 28)) 30 #[.int .i64 0, .int .i64 0, .int .i64 0]
  rw [show (w.alloc (.cells #[.int .i64 a, .int .i64 b] 28)).heap.size = w.heap.size + 1 from by simp] at hxr
  replace h := Below.step h hA
  replace hxc := hxc.kept hA
  clear hA
  obtain ⟨kc0, kc1⟩ := hxc.two
  have lc := hxc.lt
  obtain ⟨kr0, kr1, kr2⟩ := hxr.three
  have lr := hxr.lt
  replace hL := hL.kept h
  go_enter Tryd.func10, Tryd.ntmps10
  go_wp2_with fail
  refine (cT.out _).mono ?_
  rintro e w1 ⟨rfl, rfl⟩
  go_wp2_with fail
  refine (cC.out _ hL).mono ?_
  rintro e w2 ⟨rfl, hb⟩
  replace h := Below.step h hb
  replace hxc := hxc.kept hb
  replace hxr := hxr.kept hb
  replace hL := hL.kept hb
  clear hb kc0 kc1 lc kr0 kr1 kr2 lr
  obtain ⟨kc0, kc1⟩ := hxc.two
  have lc := hxc.lt
  obtain ⟨kr0, kr1, kr2⟩ := hxr.three
  have lr := hxr.lt
  go_wp2_with fail
  refine (c1.out _ hL).mono ?_
  rintro e w3 ⟨rfl, hb⟩
  replace h := Below.step h hb
  replace hxc := hxc.kept hb
  replace hxr := hxr.kept hb
  replace hL := hL.kept hb
  clear hb kc0 kc1 lc kr0 kr1 kr2 lr
  obtain ⟨kc0, kc1⟩ := hxc.two
  have lc := hxc.lt
  obtain ⟨kr0, kr1, kr2⟩ := hxr.three
  have lr := hxr.lt
  go_wp2_with fail
  have hA := below_alloc1 w3 (.cells #[.int .i64 P, .int .i64 Q] 42)
  have hxx := Box.new w3 42 #[.int .i64 P, .int .i64 Q]
  replace h := Below.step h hA
  replace hxc := hxc.kept hA
  replace hxr := hxr.kept hA
  replace hL := hL.kept hA
  clear hA kc0 kc1 lc kr0 kr1 kr2 lr
  generalize w3.alloc (.cells #[.int .i64 P, .int .i64 Q] 42) = w4 at *
  generalize w3.heap.size = gx at hxx ⊢
  obtain ⟨kc0, kc1⟩ := hxc.two
  have lc := hxc.lt
  obtain ⟨kr0, kr1, kr2⟩ := hxr.three
  have lr := hxr.lt
  obtain ⟨kx0, kx1⟩ := hxx.two
  have lx := hxx.lt
  refine (c2.out _).mono ?_
  rintro e w5 ⟨A, c, rfl, ho, hb⟩
  have hr := ho.rd
  clear ho
  replace h := Below.step h hb
  replace hxc := hxc.kept hb
  replace hxr := hxr.kept hb
  replace hxx := hxx.kept hb
  replace hL := hL.kept hb
  clear hb kc0 kc1 lc kr0 kr1 kr2 lr kx0 kx1 lx
  obtain ⟨kc0, kc1⟩ := hxc.two
  have lc := hxc.lt
  obtain ⟨kr0, kr1, kr2⟩ := hxr.three
  have lr := hxr.lt
  obtain ⟨kx0, kx1⟩ := hxx.two
  have lx := hxx.lt
  go_wp2_with fail
  go_loopw [42] (fun i wr => ∃ k : Nat, k ≤ L.length ∧ i = .int .i64 k ∧ Hid (∀ j, j < k → ptTB (L[j]?.getD .zero) ≠ s) ∧ Below w.heap.size w wr ∧ EnvC wr ∧ Box wr w.heap.size 28 #[.int .i64 a, .int .i64 b] ∧ Box wr (w.heap.size + 1) 30 #[.int .i64 0, .int .i64 0, .int .i64 0] ∧ RdP wr wr.heap.size A L.length L) (fun i _ => L.length - (intOf i).toNat)
  case atStart => exact ⟨0, Nat.zero_le _, rfl, fun j hj => absurd hj (Nat.not_lt_zero _), h, hL, hxc, hxr, hr⟩
  case round =>
    clear h hL hxc hxr hxx hr kc0 kc1 lc kr0 kr1 kr2 lr kx0 kx1 lx
    obtain ⟨k, hk, rfl, hno, h, hL, hxc, hxr, hr⟩ := hrel
    by_cases hlt : k < L.length
    · obtain ⟨q, hq⟩ : ∃ q, L[k]?.getD .zero = q := ⟨_, rfl⟩
      have hmem : q ∈ L := by rw [← hq, List.getElem?_eq_getElem hlt]; exact List.getElem_mem hlt
      have c4 := c3.out q hmem
      obtain ⟨gb, go, rfl, hgb, hcs⟩ := hr.2 (by omega)
      obtain ⟨f0, f1, f2⟩ := pflat_at L k hlt
      have r0 : wr.cell? ⟨gb, go + k * 3, none⟩ = some (.int .i64 q.x) := by rw [← hq, ← f0, Nat.mul_comm k 3]; exact hcs (3 * k) (by omega)
      have r1 : wr.cell? ⟨gb, go + k * 3 + 1, none⟩ = some (.int .i64 q.y) := by rw [← hq, ← f1, Nat.mul_comm k 3]; exact hcs (3 * k + 1) (by omega)
      have r2 : wr.cell? ⟨gb, go + k * 3 + 2, none⟩ = some (.int .i64 q.e) := by rw [← hq, ← f2, Nat.mul_comm k 3]; exact hcs (3 * k + 2) (by omega)
      have hkn : (k : Int) < L.length := by omega
      clear f0 f1 f2 hcs hmem c3
      by_cases hT : ptTB q = s
      · have he : Hid (findP L s = some q) := findP_hit hlt hno.out hq hT
        rw [hT] at c4
        replace c4 := Lib.hid c4
        clear hq hT hno
        obtain ⟨kc0, kc1⟩ := hxc.two
        have lc := hxc.lt
        obtain ⟨kr0, kr1, kr2⟩ := hxr.three
        have lr := hxr.lt
        go_wp2_with fail
        have hA := below_alloc1 wr (.cells #[.int .i64 q.x, .int .i64 q.y, .int .i64 q.e] 30)
        have hxq := Box.new wr 30 #[.int .i64 q.x, .int .i64 q.y, .int .i64 q.e]
        replace h := Below.step h hA
        replace hxc := hxc.kept hA
        replace hxr := hxr.kept hA
        replace hr := hr.kept hA
        replace hL := hL.kept hA
        clear hA kc0 kc1 lc kr0 kr1 kr2 lr
        generalize wr.alloc (.cells #[.int .i64 q.x, .int .i64 q.y, .int .i64 q.e] 30) = w6 at *
        generalize wr.heap.size = gq at hxq ⊢
        obtain ⟨kc0, kc1⟩ := hxc.two
        have lc := hxc.lt
        obtain ⟨kr0, kr1, kr2⟩ := hxr.three
        have lr := hxr.lt
        obtain ⟨kq0, kq1, kq2⟩ := hxq.three
        have lq := hxq.lt
        refine (c4.out _ hL).mono ?_
        rintro e w7 ⟨rfl, hb⟩
        replace h := Below.step h hb
        replace hxc := hxc.kept hb
        replace hxr := hxr.kept hb
        replace hxq := hxq.kept hb
        replace hr := hr.kept hb
        replace hL := hL.kept hb
        clear hb kc0 kc1 lc kr0 kr1 kr2 lr kq0 kq1 kq2 lq
        obtain ⟨kc0, kc1⟩ := hxc.two
        have lc := hxc.lt
        obtain ⟨kr0, kr1, kr2⟩ := hxr.three
        have lr := hxr.lt
        obtain ⟨kq0, kq1, kq2⟩ := hxq.three
        have lq := hxq.lt
        have fr0 := hxr.free 0
        have fr1 := hxr.free 1
        have fr2 := hxr.free 2
        obtain ⟨sr0, sr1, sr2⟩ := (((hxr.set 0 (.int .i64 q.x)).set 1 (.int .i64 q.y)).set 2 (.int .i64 q.e)).three
        go_wp2_with fail
        rw [he.out]
        refine bodyPost_ret (v := .tuple #[.agg #[.int .i64 q.x, .int .i64 q.y, .int .i64 q.e], .bool true]) (by simp [results, Tryd.results10, go_sem, sr0, sr1, sr2]) (by rfl) ⟨by rfl, ?_⟩
        exact below_sets3 h (by omega) _ _ _
      · have hno' : Hid (∀ j, j < k + 1 → ptTB (L[j]?.getD .zero) ≠ s) := fun j hj => (Nat.lt_or_eq_of_le (Nat.le_of_lt_succ hj)).elim (fun h1 => hno.out j h1) (fun h1 => by rw [h1, hq]; exact hT)
        have en : ((ptTB q).toList == s.toList) = false := by rw [beq_eq_false_iff_ne]; exact fun e => hT (ba_inj e)
        generalize ptTB q = T at *
        replace c4 := Lib.hid c4
        clear hq hT hno
        obtain ⟨kc0, kc1⟩ := hxc.two
        have lc := hxc.lt
        obtain ⟨kr0, kr1, kr2⟩ := hxr.three
        have lr := hxr.lt
        go_wp2_with fail
        have hA := below_alloc1 wr (.cells #[.int .i64 q.x, .int .i64 q.y, .int .i64 q.e] 30)
        have hxq := Box.new wr 30 #[.int .i64 q.x, .int .i64 q.y, .int .i64 q.e]
        replace h := Below.step h hA
        replace hxc := hxc.kept hA
        replace hxr := hxr.kept hA
        replace hr := hr.kept hA
        replace hL := hL.kept hA
        clear hA kc0 kc1 lc kr0 kr1 kr2 lr
        generalize wr.alloc (.cells #[.int .i64 q.x, .int .i64 q.y, .int .i64 q.e] 30) = w8 at *
        generalize wr.heap.size = gq at hxq ⊢
        obtain ⟨kc0, kc1⟩ := hxc.two
        have lc := hxc.lt
        obtain ⟨kr0, kr1, kr2⟩ := hxr.three
        have lr := hxr.lt
        obtain ⟨kq0, kq1, kq2⟩ := hxq.three
        have lq := hxq.lt
        refine (c4.out _ hL).mono ?_
        rintro e w9 ⟨rfl, hb⟩
        replace h := Below.step h hb
        replace hxc := hxc.kept hb
        replace hxr := hxr.kept hb
        replace hxq := hxq.kept hb
        replace hr := hr.kept hb
        replace hL := hL.kept hb
        clear hb kc0 kc1 lc kr0 kr1 kr2 lr kq0 kq1 kq2 lq
        obtain ⟨kc0, kc1⟩ := hxc.two
        have lc := hxc.lt
        obtain ⟨kr0, kr1, kr2⟩ := hxr.three
        have lr := hxr.lt
        obtain ⟨kq0, kq1, kq2⟩ := hxq.three
        have lq := hxq.lt
        go_wp2_with fail
        go_roundw
        case rel => exact ⟨k + 1, hlt, by go_num, hno', h, hL, hxc, hxr, hr⟩
        case measure => simp [intOf]; omega
    · have he : Hid (findP L s = none) := findP_miss (by rw [show L.length = k from by omega]; exact hno.out)
      have hkn : ¬ (k : Int) < L.length := by omega
      clear hno c3 hlt
      obtain ⟨kc0, kc1⟩ := hxc.two
      have lc := hxc.lt
      obtain ⟨kr0, kr1, kr2⟩ := hxr.three
      have lr := hxr.lt
      have fr0 := hxr.free 0
      have fr1 := hxr.free 1
      have fr2 := hxr.free 2
      obtain ⟨sr0, sr1, sr2⟩ := (((hxr.set 0 (.int .i64 0)).set 1 (.int .i64 0)).set 2 (.int .i64 0)).three
      go_wp2_with fail
      rw [he.out]
      refine bodyPost_ret (v := .tuple #[.agg #[.int .i64 0, .int .i64 0, .int .i64 0], .bool false]) (by simp [results, Tryd.results10, go_sem, sr0, sr1, sr2]) (by rfl) ⟨by rfl, ?_⟩
      exact below_sets3 h (by omega) _ _ _

end Go.Proofs.YtokhadhfjbecmaaDoor
