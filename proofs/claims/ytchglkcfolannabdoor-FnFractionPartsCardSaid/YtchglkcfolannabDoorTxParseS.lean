/- frParse of the model (written by wip/gen/txparses.py). -/
import Derived.Test.YtchglkcfolannabDoorTxCut
namespace Go.Proofs.YtchglkcfolannabDoor
open Go.RowKit Go.Joins

theorem box_apart {w : World} {g g' : Nat} {t : TypeId} {cs : Array Value} (h : Box w g t cs) (hne : g ≠ g') (i : Nat) (u : Value) : Box (w.setCell ⟨g', i, none⟩ u) g t cs := by
  unfold Box at h ⊢
  rw [← h]
  exact Below.heap_setCell w ⟨g', i, none⟩ u g hne
theorem ba_inj {a b : ByteArray} (h : a.toList = b.toList) : a = b := by
  rw [ByteArray.toList_eq, ByteArray.toList_eq] at h
  exact ByteArray.ext (Array.toList_inj.1 h)

/-- A cell of the slice. -/
def Cl (w : World) (g i : Nat) (s : ByteArray) : Prop := g < w.heap.size ∧ w.cell? ⟨g, i, none⟩ = some (.string s)
theorem Cl.kept {w w' : World} {g i : Nat} {s : ByteArray} (h : Cl w g i s) (hb : Below w.heap.size w w') : Cl w' g i s := ⟨Nat.lt_of_lt_of_le h.1 hb.size, (hb.cell (p := ⟨g, i, none⟩) h.1).trans h.2⟩
theorem Cl.far {w : World} {g i g' j : Nat} {s : ByteArray} {u : Value} (h : Cl w g i s) (hne : g ≠ g') : Cl (w.setCell ⟨g', j, none⟩ u) g i s := ⟨by simp; exact h.1, (World.cell?_setCell_far w ⟨g', j, none⟩ ⟨g, i, none⟩ u (fun e => hne e.symm)).trans h.2⟩

theorem split1 (s a : ByteArray) (hs : s.size ≤ 1048576) (h : splitAll s 47 = [a]) (w : World) :
    Calls Tryd.prog 63 #[.string s, .int .u8 47] w fun e w' => ∃ g c, e = .returned (.slice (some ⟨g, 0, none⟩) 1 c) ∧ w.heap.size ≤ g ∧ Cl w' g 0 a ∧ Below w.heap.size w w' := by
  refine (l1Split_any s 47 w hs).mono ?_
  rintro e w' ⟨A, c, he, ho, hb⟩
  rw [h] at he ho
  obtain ⟨A', c', e1, hf⟩ := ho.form
  obtain ⟨g, e2, hg, hc⟩ := hf (by simp)
  simp only [Value.slice.injEq] at e1
  have e3 : A = some ⟨g, 0, none⟩ := e1.1.trans e2
  subst e3
  exact ⟨g, c, he, (World.ownsRow.lt ho g rfl).1, ⟨hg, hc 0 a rfl⟩, hb⟩
theorem split2 (s a b : ByteArray) (hs : s.size ≤ 1048576) (h : splitAll s 47 = [a, b]) (w : World) :
    Calls Tryd.prog 63 #[.string s, .int .u8 47] w fun e w' => ∃ g c, e = .returned (.slice (some ⟨g, 0, none⟩) 2 c) ∧ w.heap.size ≤ g ∧ Cl w' g 0 a ∧ Cl w' g 1 b ∧ Below w.heap.size w w' := by
  refine (l1Split_any s 47 w hs).mono ?_
  rintro e w' ⟨A, c, he, ho, hb⟩
  rw [h] at he ho
  obtain ⟨A', c', e1, hf⟩ := ho.form
  obtain ⟨g, e2, hg, hc⟩ := hf (by simp)
  simp only [Value.slice.injEq] at e1
  have e3 : A = some ⟨g, 0, none⟩ := e1.1.trans e2
  subst e3
  exact ⟨g, c, he, (World.ownsRow.lt ho g rfl).1, ⟨hg, hc 0 a rfl⟩, ⟨hg, hc 1 b rfl⟩, hb⟩
theorem splitN (s : ByteArray) (hs : s.size ≤ 1048576) (w : World) :
    Calls Tryd.prog 63 #[.string s, .int .u8 47] w fun e w' => ∃ A c, e = .returned (.slice A (splitAll s 47).length c) ∧ Below w.heap.size w w' :=
  (l1Split_any s 47 w hs).mono fun _ _ ⟨A, c, he, _, hb⟩ => ⟨A, c, he, hb⟩

set_option maxHeartbeats 3000000 in
theorem parseS_long (s : ByteArray) (w : World) (hs : s.size ≤ 1048576) (hl : 22 < s.size) :
    Calls Tryd.prog 51 #[.string s] w (GivesFB w 0 0 false) := by
  have cC := splitN s hs
  obtain ⟨L, hL⟩ : ∃ L, L = (splitAll s 47).length := ⟨_, rfl⟩
  rw [← hL] at cC
  clear hL
  replace cC := Lib.hid cC
  have h22 : 22 < (s.size : Int) := by omega
  have h := Below.refl w.heap.size w
  have hA := below_alloc1 w (.cells #[.int .i64 0, .int .i64 0] 24)
  replace h := Below.step h hA
  have hxr := Box.new w 24 #[.int .i64 0, .int .i64 0]
  clear hA
  go_enter Tryd.func51, Tryd.ntmps51
  go_wp2_with fail
  refine (cC.out _).mono ?_
  rintro e w1 ⟨A, c, rfl, hb⟩
  replace h := Below.step h hb
  replace hxr := hxr.kept hb
  clear hb
  obtain ⟨ahxr, bhxr⟩ := hxr.two
  have lhxr := hxr.lt
  have f0 := hxr.free 0
  have f1 := hxr.free 1
  go_wp2_with fail
  refine bodyPost_ret (v := .tuple #[.agg #[.int .i64 0, .int .i64 0], .bool false]) (by simp [results, Tryd.results51, go_sem, ahxr, bhxr]) rfl ⟨rfl, ?_⟩
  exact (h.setCell (by first | (simp; done) | (simp; omega)) _).setCell (by first | (simp; done) | (simp; omega)) _

set_option maxHeartbeats 3000000 in
theorem parseS_many (s : ByteArray) (w : World) (hs : s.size ≤ 1048576) (hl : s.size ≤ 22) (hn : 2 < (splitAll s 47).length) :
    Calls Tryd.prog 51 #[.string s] w (GivesFB w 0 0 false) := by
  have cC := splitN s hs
  obtain ⟨L, hL⟩ : ∃ L, L = (splitAll s 47).length := ⟨_, rfl⟩
  rw [← hL] at cC hn
  clear hL
  replace cC := Lib.hid cC
  have h22 : ¬ 22 < (s.size : Int) := by omega
  have hn' : 2 < (L : Int) := by omega
  have h := Below.refl w.heap.size w
  have hA := below_alloc1 w (.cells #[.int .i64 0, .int .i64 0] 24)
  replace h := Below.step h hA
  have hxr := Box.new w 24 #[.int .i64 0, .int .i64 0]
  clear hA
  go_enter Tryd.func51, Tryd.ntmps51
  go_wp2_with fail
  refine (cC.out _).mono ?_
  rintro e w1 ⟨A, c, rfl, hb⟩
  replace h := Below.step h hb
  replace hxr := hxr.kept hb
  clear hb
  obtain ⟨ahxr, bhxr⟩ := hxr.two
  have lhxr := hxr.lt
  have f0 := hxr.free 0
  have f1 := hxr.free 1
  go_wp2_with fail
  refine bodyPost_ret (v := .tuple #[.agg #[.int .i64 0, .int .i64 0], .bool false]) (by simp [results, Tryd.results51, go_sem, ahxr, bhxr]) rfl ⟨rfl, ?_⟩
  exact (h.setCell (by first | (simp; done) | (simp; omega)) _).setCell (by first | (simp; done) | (simp; omega)) _

set_option maxHeartbeats 3000000 in
theorem parseS_neg_bad1 (s : ByteArray) (w : World) (hs : s.size ≤ 1048576) (hl : s.size ≤ 22) (a : ByteArray) (z0 z1 : Int) (hp : splitAll s 47 = [a]) (hs0 : 0 < a.size) (hc : a[0].toNat = 45) (c0 : ∀ w : World, Calls Tryd.prog 64 #[.string a] w fun e w' => e = .returned (.int .i64 z0) ∧ w = w') (hz1 : -1 ≤ z1 ∧ z1 ≤ 9999999999) (c1 : ∀ w : World, Calls Tryd.prog 64 #[.string (a.extract 1 a.size)] w fun e w' => e = .returned (.int .i64 z1) ∧ w = w') (cG : ∀ w : World, Calls Tryd.prog 26 #[.agg #[.int .i64 (-z1), .int .i64 1]] w (GivesB w false)) :
    Calls Tryd.prog 51 #[.string s] w (GivesFB w 0 0 false) := by
  have cC := split1 s a hs hp
  replace cC := Lib.hid cC
  clear hp
  have h22 : ¬ 22 < (s.size : Int) := by omega
  replace c0 := Lib.hid c0
  replace c1 := Lib.hid c1
  replace cG := Lib.hid cG
  obtain ⟨zl, zh⟩ := hz1
  have e45 : ((a[0].toNat : Int) == 45) = true := by rw [hc]; rfl
  have ha1 : 1 ≤ (a.size : Int) := by omega
  replace hc := Lib.hid hc
  have h := Below.refl w.heap.size w
  have hA := below_alloc1 w (.cells #[.int .i64 0, .int .i64 0] 24)
  replace h := Below.step h hA
  have hxr := Box.new w 24 #[.int .i64 0, .int .i64 0]
  clear hA
  go_enter Tryd.func51, Tryd.ntmps51
  go_wp2_with fail
  refine (cC.out _).mono ?_
  rintro e w1 ⟨g, c, rfl, hg0, hk0, hb⟩
  replace h := Below.step h hb
  replace hxr := hxr.kept hb
  clear hb
  have hgr : w.heap.size < g := by have := hg0; simp at this; omega
  clear hg0
  obtain ⟨ahxr, bhxr⟩ := hxr.two
  have lhxr := hxr.lt
  obtain ⟨lhk0, qhk0⟩ := id hk0
  go_wp2_with fail
  refine (c0.out _).mono ?_
  rintro e w2 ⟨rfl, rfl⟩
  go_wp2_with fail
  have hA := below_alloc1 w1 (.cells #[.int .i64 z0, .int .i64 1] 24)
  have hya := Box.new w1 24 #[.int .i64 z0, .int .i64 1]
  replace h := Below.step h hA
  replace hxr := hxr.kept hA
  have hgl : g < w1.heap.size := lhk0
  replace hk0 := hk0.kept hA
  clear hA ahxr bhxr lhxr lhk0 qhk0
  have hrl : w.heap.size < w1.heap.size := Nat.lt_trans hgr hgl
  generalize w1.alloc (.cells #[.int .i64 z0, .int .i64 1] 24) = w3 at *
  generalize w1.heap.size = ga at hya hgl hrl ⊢
  obtain ⟨ahxr, bhxr⟩ := hxr.two
  have lhxr := hxr.lt
  obtain ⟨ahya, bhya⟩ := hya.two
  have lhya := hya.lt
  obtain ⟨lhk0, qhk0⟩ := id hk0
  have fa0 := hya.free 0
  have fa1 := hya.free 1
  go_wp2_with fail
  refine (c1.out _).mono ?_
  rintro e w2 ⟨rfl, rfl⟩
  go_wp2_with fail
  have hya2 : Box (w3.setCell ⟨ga, 0, none⟩ (.int .i64 (-z1))) ga 24 #[.int .i64 (-z1), .int .i64 1] := hya.set 0 (.int .i64 (-z1))
  have hxr2 : Box (w3.setCell ⟨ga, 0, none⟩ (.int .i64 (-z1))) w.heap.size 24 #[.int .i64 0, .int .i64 0] := box_apart hxr (by omega) _ _
  have hb2 : Below w.heap.size w (w3.setCell ⟨ga, 0, none⟩ (.int .i64 (-z1))) := h.setCell (by simp; omega) _
  have hk02 : Cl (w3.setCell ⟨ga, 0, none⟩ (.int .i64 (-z1))) g 0 _ := Cl.far hk0 (by omega)
  clear hya hxr h hk0 ahxr bhxr lhxr ahya bhya lhya lhk0 qhk0 fa0 fa1
  have hya := hya2
  have hxr := hxr2
  have h := hb2
  have hk0 := hk02
  clear hya2 hxr2 hb2 hk02
  generalize w3.setCell ⟨ga, 0, none⟩ (.int .i64 (-z1)) = w5 at *
  obtain ⟨ahxr, bhxr⟩ := hxr.two
  have lhxr := hxr.lt
  obtain ⟨ahya, bhya⟩ := hya.two
  have lhya := hya.lt
  obtain ⟨lhk0, qhk0⟩ := id hk0
  have fa0 := hya.free 0
  have fa1 := hya.free 1
  go_wp2_with fail
  refine (cG.out _).mono ?_
  rintro e w8 ⟨rfl, hb⟩
  replace h := Below.step h hb
  replace hxr := hxr.kept hb
  replace hya := hya.kept hb
  clear hb ahxr bhxr lhxr ahya bhya lhya lhk0 qhk0 fa0 fa1
  obtain ⟨ahxr, bhxr⟩ := hxr.two
  have lhxr := hxr.lt
  obtain ⟨ahya, bhya⟩ := hya.two
  have lhya := hya.lt
  have f0 := hxr.free 0
  have f1 := hxr.free 1
  go_wp2_with fail
  refine bodyPost_ret (v := .tuple #[.agg #[.int .i64 0, .int .i64 0], .bool false]) (by simp [results, Tryd.results51, go_sem, ahxr, bhxr]) rfl ⟨rfl, ?_⟩
  exact (h.setCell (by first | (simp; done) | (simp; omega)) _).setCell (by first | (simp; done) | (simp; omega)) _

set_option maxHeartbeats 3000000 in
theorem parseS_neg_other1 (s : ByteArray) (w : World) (hs : s.size ≤ 1048576) (hl : s.size ≤ 22) (a T : ByteArray) (z0 z1 : Int) (hp : splitAll s 47 = [a]) (hs0 : 0 < a.size) (hc : a[0].toNat = 45) (c0 : ∀ w : World, Calls Tryd.prog 64 #[.string a] w fun e w' => e = .returned (.int .i64 z0) ∧ w = w') (hz1 : -1 ≤ z1 ∧ z1 ≤ 9999999999) (c1 : ∀ w : World, Calls Tryd.prog 64 #[.string (a.extract 1 a.size)] w fun e w' => e = .returned (.int .i64 z1) ∧ w = w') (cG : ∀ w : World, Calls Tryd.prog 26 #[.agg #[.int .i64 (-z1), .int .i64 1]] w (GivesB w true)) (cT : ∀ w : World, Calls Tryd.prog 29 #[.agg #[.int .i64 (-z1), .int .i64 1]] w fun e w' => e = .returned (.string T) ∧ Below w.heap.size w w') (hne : T ≠ s) :
    Calls Tryd.prog 51 #[.string s] w (GivesFB w 0 0 false) := by
  have cC := split1 s a hs hp
  replace cC := Lib.hid cC
  clear hp
  have h22 : ¬ 22 < (s.size : Int) := by omega
  replace c0 := Lib.hid c0
  replace c1 := Lib.hid c1
  replace cG := Lib.hid cG
  replace cT := Lib.hid cT
  have en : (T.toList == s.toList) = false := by rw [beq_eq_false_iff_ne]; exact fun e => hne (ba_inj e)
  clear hne
  obtain ⟨zl, zh⟩ := hz1
  have e45 : ((a[0].toNat : Int) == 45) = true := by rw [hc]; rfl
  have ha1 : 1 ≤ (a.size : Int) := by omega
  replace hc := Lib.hid hc
  have h := Below.refl w.heap.size w
  have hA := below_alloc1 w (.cells #[.int .i64 0, .int .i64 0] 24)
  replace h := Below.step h hA
  have hxr := Box.new w 24 #[.int .i64 0, .int .i64 0]
  clear hA
  go_enter Tryd.func51, Tryd.ntmps51
  go_wp2_with fail
  refine (cC.out _).mono ?_
  rintro e w1 ⟨g, c, rfl, hg0, hk0, hb⟩
  replace h := Below.step h hb
  replace hxr := hxr.kept hb
  clear hb
  have hgr : w.heap.size < g := by have := hg0; simp at this; omega
  clear hg0
  obtain ⟨ahxr, bhxr⟩ := hxr.two
  have lhxr := hxr.lt
  obtain ⟨lhk0, qhk0⟩ := id hk0
  go_wp2_with fail
  refine (c0.out _).mono ?_
  rintro e w2 ⟨rfl, rfl⟩
  go_wp2_with fail
  have hA := below_alloc1 w1 (.cells #[.int .i64 z0, .int .i64 1] 24)
  have hya := Box.new w1 24 #[.int .i64 z0, .int .i64 1]
  replace h := Below.step h hA
  replace hxr := hxr.kept hA
  have hgl : g < w1.heap.size := lhk0
  replace hk0 := hk0.kept hA
  clear hA ahxr bhxr lhxr lhk0 qhk0
  have hrl : w.heap.size < w1.heap.size := Nat.lt_trans hgr hgl
  generalize w1.alloc (.cells #[.int .i64 z0, .int .i64 1] 24) = w3 at *
  generalize w1.heap.size = ga at hya hgl hrl ⊢
  obtain ⟨ahxr, bhxr⟩ := hxr.two
  have lhxr := hxr.lt
  obtain ⟨ahya, bhya⟩ := hya.two
  have lhya := hya.lt
  obtain ⟨lhk0, qhk0⟩ := id hk0
  have fa0 := hya.free 0
  have fa1 := hya.free 1
  go_wp2_with fail
  refine (c1.out _).mono ?_
  rintro e w2 ⟨rfl, rfl⟩
  go_wp2_with fail
  have hya2 : Box (w3.setCell ⟨ga, 0, none⟩ (.int .i64 (-z1))) ga 24 #[.int .i64 (-z1), .int .i64 1] := hya.set 0 (.int .i64 (-z1))
  have hxr2 : Box (w3.setCell ⟨ga, 0, none⟩ (.int .i64 (-z1))) w.heap.size 24 #[.int .i64 0, .int .i64 0] := box_apart hxr (by omega) _ _
  have hb2 : Below w.heap.size w (w3.setCell ⟨ga, 0, none⟩ (.int .i64 (-z1))) := h.setCell (by simp; omega) _
  have hk02 : Cl (w3.setCell ⟨ga, 0, none⟩ (.int .i64 (-z1))) g 0 _ := Cl.far hk0 (by omega)
  clear hya hxr h hk0 ahxr bhxr lhxr ahya bhya lhya lhk0 qhk0 fa0 fa1
  have hya := hya2
  have hxr := hxr2
  have h := hb2
  have hk0 := hk02
  clear hya2 hxr2 hb2 hk02
  generalize w3.setCell ⟨ga, 0, none⟩ (.int .i64 (-z1)) = w5 at *
  obtain ⟨ahxr, bhxr⟩ := hxr.two
  have lhxr := hxr.lt
  obtain ⟨ahya, bhya⟩ := hya.two
  have lhya := hya.lt
  obtain ⟨lhk0, qhk0⟩ := id hk0
  have fa0 := hya.free 0
  have fa1 := hya.free 1
  go_wp2_with fail
  refine (cG.out _).mono ?_
  rintro e w8 ⟨rfl, hb⟩
  replace h := Below.step h hb
  replace hxr := hxr.kept hb
  replace hya := hya.kept hb
  clear hb ahxr bhxr lhxr ahya bhya lhya lhk0 qhk0 fa0 fa1
  obtain ⟨ahxr, bhxr⟩ := hxr.two
  have lhxr := hxr.lt
  obtain ⟨ahya, bhya⟩ := hya.two
  have lhya := hya.lt
  go_wp2_with fail
  refine (cT.out _).mono ?_
  rintro e w9 ⟨rfl, hb⟩
  replace h := Below.step h hb
  replace hxr := hxr.kept hb
  replace hya := hya.kept hb
  clear hb ahxr bhxr lhxr ahya bhya lhya
  obtain ⟨ahxr, bhxr⟩ := hxr.two
  have lhxr := hxr.lt
  obtain ⟨ahya, bhya⟩ := hya.two
  have lhya := hya.lt
  have f0 := hxr.free 0
  have f1 := hxr.free 1
  go_wp2_with fail
  refine bodyPost_ret (v := .tuple #[.agg #[.int .i64 0, .int .i64 0], .bool false]) (by simp [results, Tryd.results51, go_sem, ahxr, bhxr]) rfl ⟨rfl, ?_⟩
  exact (h.setCell (by first | (simp; done) | (simp; omega)) _).setCell (by first | (simp; done) | (simp; omega)) _

set_option maxHeartbeats 3000000 in
theorem parseS_neg_good1 (s : ByteArray) (w : World) (hs : s.size ≤ 1048576) (hl : s.size ≤ 22) (a : ByteArray) (z0 z1 : Int) (hp : splitAll s 47 = [a]) (hs0 : 0 < a.size) (hc : a[0].toNat = 45) (c0 : ∀ w : World, Calls Tryd.prog 64 #[.string a] w fun e w' => e = .returned (.int .i64 z0) ∧ w = w') (hz1 : -1 ≤ z1 ∧ z1 ≤ 9999999999) (c1 : ∀ w : World, Calls Tryd.prog 64 #[.string (a.extract 1 a.size)] w fun e w' => e = .returned (.int .i64 z1) ∧ w = w') (cG : ∀ w : World, Calls Tryd.prog 26 #[.agg #[.int .i64 (-z1), .int .i64 1]] w (GivesB w true)) (cT : ∀ w : World, Calls Tryd.prog 29 #[.agg #[.int .i64 (-z1), .int .i64 1]] w fun e w' => e = .returned (.string s) ∧ Below w.heap.size w w') :
    Calls Tryd.prog 51 #[.string s] w (GivesFB w (-z1) 1 true) := by
  have cC := split1 s a hs hp
  replace cC := Lib.hid cC
  clear hp
  have h22 : ¬ 22 < (s.size : Int) := by omega
  replace c0 := Lib.hid c0
  replace c1 := Lib.hid c1
  replace cG := Lib.hid cG
  replace cT := Lib.hid cT
  obtain ⟨zl, zh⟩ := hz1
  have e45 : ((a[0].toNat : Int) == 45) = true := by rw [hc]; rfl
  have ha1 : 1 ≤ (a.size : Int) := by omega
  replace hc := Lib.hid hc
  have h := Below.refl w.heap.size w
  have hA := below_alloc1 w (.cells #[.int .i64 0, .int .i64 0] 24)
  replace h := Below.step h hA
  have hxr := Box.new w 24 #[.int .i64 0, .int .i64 0]
  clear hA
  go_enter Tryd.func51, Tryd.ntmps51
  go_wp2_with fail
  refine (cC.out _).mono ?_
  rintro e w1 ⟨g, c, rfl, hg0, hk0, hb⟩
  replace h := Below.step h hb
  replace hxr := hxr.kept hb
  clear hb
  have hgr : w.heap.size < g := by have := hg0; simp at this; omega
  clear hg0
  obtain ⟨ahxr, bhxr⟩ := hxr.two
  have lhxr := hxr.lt
  obtain ⟨lhk0, qhk0⟩ := id hk0
  go_wp2_with fail
  refine (c0.out _).mono ?_
  rintro e w2 ⟨rfl, rfl⟩
  go_wp2_with fail
  have hA := below_alloc1 w1 (.cells #[.int .i64 z0, .int .i64 1] 24)
  have hya := Box.new w1 24 #[.int .i64 z0, .int .i64 1]
  replace h := Below.step h hA
  replace hxr := hxr.kept hA
  have hgl : g < w1.heap.size := lhk0
  replace hk0 := hk0.kept hA
  clear hA ahxr bhxr lhxr lhk0 qhk0
  have hrl : w.heap.size < w1.heap.size := Nat.lt_trans hgr hgl
  generalize w1.alloc (.cells #[.int .i64 z0, .int .i64 1] 24) = w3 at *
  generalize w1.heap.size = ga at hya hgl hrl ⊢
  obtain ⟨ahxr, bhxr⟩ := hxr.two
  have lhxr := hxr.lt
  obtain ⟨ahya, bhya⟩ := hya.two
  have lhya := hya.lt
  obtain ⟨lhk0, qhk0⟩ := id hk0
  have fa0 := hya.free 0
  have fa1 := hya.free 1
  go_wp2_with fail
  refine (c1.out _).mono ?_
  rintro e w2 ⟨rfl, rfl⟩
  go_wp2_with fail
  have hya2 : Box (w3.setCell ⟨ga, 0, none⟩ (.int .i64 (-z1))) ga 24 #[.int .i64 (-z1), .int .i64 1] := hya.set 0 (.int .i64 (-z1))
  have hxr2 : Box (w3.setCell ⟨ga, 0, none⟩ (.int .i64 (-z1))) w.heap.size 24 #[.int .i64 0, .int .i64 0] := box_apart hxr (by omega) _ _
  have hb2 : Below w.heap.size w (w3.setCell ⟨ga, 0, none⟩ (.int .i64 (-z1))) := h.setCell (by simp; omega) _
  have hk02 : Cl (w3.setCell ⟨ga, 0, none⟩ (.int .i64 (-z1))) g 0 _ := Cl.far hk0 (by omega)
  clear hya hxr h hk0 ahxr bhxr lhxr ahya bhya lhya lhk0 qhk0 fa0 fa1
  have hya := hya2
  have hxr := hxr2
  have h := hb2
  have hk0 := hk02
  clear hya2 hxr2 hb2 hk02
  generalize w3.setCell ⟨ga, 0, none⟩ (.int .i64 (-z1)) = w5 at *
  obtain ⟨ahxr, bhxr⟩ := hxr.two
  have lhxr := hxr.lt
  obtain ⟨ahya, bhya⟩ := hya.two
  have lhya := hya.lt
  obtain ⟨lhk0, qhk0⟩ := id hk0
  have fa0 := hya.free 0
  have fa1 := hya.free 1
  go_wp2_with fail
  refine (cG.out _).mono ?_
  rintro e w8 ⟨rfl, hb⟩
  replace h := Below.step h hb
  replace hxr := hxr.kept hb
  replace hya := hya.kept hb
  clear hb ahxr bhxr lhxr ahya bhya lhya lhk0 qhk0 fa0 fa1
  obtain ⟨ahxr, bhxr⟩ := hxr.two
  have lhxr := hxr.lt
  obtain ⟨ahya, bhya⟩ := hya.two
  have lhya := hya.lt
  go_wp2_with fail
  refine (cT.out _).mono ?_
  rintro e w9 ⟨rfl, hb⟩
  replace h := Below.step h hb
  replace hxr := hxr.kept hb
  replace hya := hya.kept hb
  clear hb ahxr bhxr lhxr ahya bhya lhya
  obtain ⟨ahxr, bhxr⟩ := hxr.two
  have lhxr := hxr.lt
  obtain ⟨ahya, bhya⟩ := hya.two
  have lhya := hya.lt
  have f0 := hxr.free 0
  have f1 := hxr.free 1
  go_wp2_with fail
  refine bodyPost_ret (v := .tuple #[.agg #[.int .i64 ((-z1)), .int .i64 (1)], .bool true]) (by simp [results, Tryd.results51, go_sem, ahxr, bhxr]) rfl ⟨rfl, ?_⟩
  exact (h.setCell (by first | (simp; done) | (simp; omega)) _).setCell (by first | (simp; done) | (simp; omega)) _

set_option maxHeartbeats 3000000 in
theorem parseS_neg_bad2 (s : ByteArray) (w : World) (hs : s.size ≤ 1048576) (hl : s.size ≤ 22) (a b : ByteArray) (z0 z1 z2 : Int) (hp : splitAll s 47 = [a, b]) (hs0 : 0 < a.size) (hc : a[0].toNat = 45) (c0 : ∀ w : World, Calls Tryd.prog 64 #[.string a] w fun e w' => e = .returned (.int .i64 z0) ∧ w = w') (hz1 : -1 ≤ z1 ∧ z1 ≤ 9999999999) (c1 : ∀ w : World, Calls Tryd.prog 64 #[.string (a.extract 1 a.size)] w fun e w' => e = .returned (.int .i64 z1) ∧ w = w') (c2 : ∀ w : World, Calls Tryd.prog 64 #[.string b] w fun e w' => e = .returned (.int .i64 z2) ∧ w = w') (cG : ∀ w : World, Calls Tryd.prog 26 #[.agg #[.int .i64 (-z1), .int .i64 z2]] w (GivesB w false)) :
    Calls Tryd.prog 51 #[.string s] w (GivesFB w 0 0 false) := by
  have cC := split2 s a b hs hp
  replace cC := Lib.hid cC
  clear hp
  have h22 : ¬ 22 < (s.size : Int) := by omega
  replace c0 := Lib.hid c0
  replace c1 := Lib.hid c1
  replace c2 := Lib.hid c2
  replace cG := Lib.hid cG
  obtain ⟨zl, zh⟩ := hz1
  have e45 : ((a[0].toNat : Int) == 45) = true := by rw [hc]; rfl
  have ha1 : 1 ≤ (a.size : Int) := by omega
  replace hc := Lib.hid hc
  have h := Below.refl w.heap.size w
  have hA := below_alloc1 w (.cells #[.int .i64 0, .int .i64 0] 24)
  replace h := Below.step h hA
  have hxr := Box.new w 24 #[.int .i64 0, .int .i64 0]
  clear hA
  go_enter Tryd.func51, Tryd.ntmps51
  go_wp2_with fail
  refine (cC.out _).mono ?_
  rintro e w1 ⟨g, c, rfl, hg0, hk0, hk1, hb⟩
  replace h := Below.step h hb
  replace hxr := hxr.kept hb
  clear hb
  have hgr : w.heap.size < g := by have := hg0; simp at this; omega
  clear hg0
  obtain ⟨ahxr, bhxr⟩ := hxr.two
  have lhxr := hxr.lt
  obtain ⟨lhk0, qhk0⟩ := id hk0
  obtain ⟨lhk1, qhk1⟩ := id hk1
  go_wp2_with fail
  refine (c0.out _).mono ?_
  rintro e w2 ⟨rfl, rfl⟩
  go_wp2_with fail
  have hA := below_alloc1 w1 (.cells #[.int .i64 z0, .int .i64 1] 24)
  have hya := Box.new w1 24 #[.int .i64 z0, .int .i64 1]
  replace h := Below.step h hA
  replace hxr := hxr.kept hA
  have hgl : g < w1.heap.size := lhk0
  replace hk0 := hk0.kept hA
  replace hk1 := hk1.kept hA
  clear hA ahxr bhxr lhxr lhk0 qhk0 lhk1 qhk1
  have hrl : w.heap.size < w1.heap.size := Nat.lt_trans hgr hgl
  generalize w1.alloc (.cells #[.int .i64 z0, .int .i64 1] 24) = w3 at *
  generalize w1.heap.size = ga at hya hgl hrl ⊢
  obtain ⟨ahxr, bhxr⟩ := hxr.two
  have lhxr := hxr.lt
  obtain ⟨ahya, bhya⟩ := hya.two
  have lhya := hya.lt
  obtain ⟨lhk0, qhk0⟩ := id hk0
  obtain ⟨lhk1, qhk1⟩ := id hk1
  have fa0 := hya.free 0
  have fa1 := hya.free 1
  go_wp2_with fail
  refine (c1.out _).mono ?_
  rintro e w2 ⟨rfl, rfl⟩
  go_wp2_with fail
  have hya2 : Box (w3.setCell ⟨ga, 0, none⟩ (.int .i64 (-z1))) ga 24 #[.int .i64 (-z1), .int .i64 1] := hya.set 0 (.int .i64 (-z1))
  have hxr2 : Box (w3.setCell ⟨ga, 0, none⟩ (.int .i64 (-z1))) w.heap.size 24 #[.int .i64 0, .int .i64 0] := box_apart hxr (by omega) _ _
  have hb2 : Below w.heap.size w (w3.setCell ⟨ga, 0, none⟩ (.int .i64 (-z1))) := h.setCell (by simp; omega) _
  have hk02 : Cl (w3.setCell ⟨ga, 0, none⟩ (.int .i64 (-z1))) g 0 _ := Cl.far hk0 (by omega)
  have hk12 : Cl (w3.setCell ⟨ga, 0, none⟩ (.int .i64 (-z1))) g 1 _ := Cl.far hk1 (by omega)
  clear hya hxr h hk0 hk1 ahxr bhxr lhxr ahya bhya lhya lhk0 qhk0 lhk1 qhk1 fa0 fa1
  have hya := hya2
  have hxr := hxr2
  have h := hb2
  have hk0 := hk02
  have hk1 := hk12
  clear hya2 hxr2 hb2 hk02 hk12
  generalize w3.setCell ⟨ga, 0, none⟩ (.int .i64 (-z1)) = w5 at *
  obtain ⟨ahxr, bhxr⟩ := hxr.two
  have lhxr := hxr.lt
  obtain ⟨ahya, bhya⟩ := hya.two
  have lhya := hya.lt
  obtain ⟨lhk0, qhk0⟩ := id hk0
  obtain ⟨lhk1, qhk1⟩ := id hk1
  have fa0 := hya.free 0
  have fa1 := hya.free 1
  go_wp2_with fail
  refine (c2.out _).mono ?_
  rintro e w2 ⟨rfl, rfl⟩
  go_wp2_with fail
  have hya2 : Box (w5.setCell ⟨ga, 1, none⟩ (.int .i64 z2)) ga 24 #[.int .i64 (-z1), .int .i64 z2] := hya.set 1 (.int .i64 z2)
  have hxr2 : Box (w5.setCell ⟨ga, 1, none⟩ (.int .i64 z2)) w.heap.size 24 #[.int .i64 0, .int .i64 0] := box_apart hxr (by omega) _ _
  have hb2 : Below w.heap.size w (w5.setCell ⟨ga, 1, none⟩ (.int .i64 z2)) := h.setCell (by simp; omega) _
  have hk02 : Cl (w5.setCell ⟨ga, 1, none⟩ (.int .i64 z2)) g 0 _ := Cl.far hk0 (by omega)
  have hk12 : Cl (w5.setCell ⟨ga, 1, none⟩ (.int .i64 z2)) g 1 _ := Cl.far hk1 (by omega)
  clear hya hxr h hk0 hk1 ahxr bhxr lhxr ahya bhya lhya lhk0 qhk0 lhk1 qhk1 fa0 fa1
  have hya := hya2
  have hxr := hxr2
  have h := hb2
  have hk0 := hk02
  have hk1 := hk12
  clear hya2 hxr2 hb2 hk02 hk12
  generalize w5.setCell ⟨ga, 1, none⟩ (.int .i64 z2) = w7 at *
  obtain ⟨ahxr, bhxr⟩ := hxr.two
  have lhxr := hxr.lt
  obtain ⟨ahya, bhya⟩ := hya.two
  have lhya := hya.lt
  obtain ⟨lhk0, qhk0⟩ := id hk0
  obtain ⟨lhk1, qhk1⟩ := id hk1
  go_wp2_with fail
  refine (cG.out _).mono ?_
  rintro e w8 ⟨rfl, hb⟩
  replace h := Below.step h hb
  replace hxr := hxr.kept hb
  replace hya := hya.kept hb
  clear hb ahxr bhxr lhxr ahya bhya lhya lhk0 qhk0 lhk1 qhk1
  obtain ⟨ahxr, bhxr⟩ := hxr.two
  have lhxr := hxr.lt
  obtain ⟨ahya, bhya⟩ := hya.two
  have lhya := hya.lt
  have f0 := hxr.free 0
  have f1 := hxr.free 1
  go_wp2_with fail
  refine bodyPost_ret (v := .tuple #[.agg #[.int .i64 0, .int .i64 0], .bool false]) (by simp [results, Tryd.results51, go_sem, ahxr, bhxr]) rfl ⟨rfl, ?_⟩
  exact (h.setCell (by first | (simp; done) | (simp; omega)) _).setCell (by first | (simp; done) | (simp; omega)) _

set_option maxHeartbeats 3000000 in
theorem parseS_neg_other2 (s : ByteArray) (w : World) (hs : s.size ≤ 1048576) (hl : s.size ≤ 22) (a b T : ByteArray) (z0 z1 z2 : Int) (hp : splitAll s 47 = [a, b]) (hs0 : 0 < a.size) (hc : a[0].toNat = 45) (c0 : ∀ w : World, Calls Tryd.prog 64 #[.string a] w fun e w' => e = .returned (.int .i64 z0) ∧ w = w') (hz1 : -1 ≤ z1 ∧ z1 ≤ 9999999999) (c1 : ∀ w : World, Calls Tryd.prog 64 #[.string (a.extract 1 a.size)] w fun e w' => e = .returned (.int .i64 z1) ∧ w = w') (c2 : ∀ w : World, Calls Tryd.prog 64 #[.string b] w fun e w' => e = .returned (.int .i64 z2) ∧ w = w') (cG : ∀ w : World, Calls Tryd.prog 26 #[.agg #[.int .i64 (-z1), .int .i64 z2]] w (GivesB w true)) (cT : ∀ w : World, Calls Tryd.prog 29 #[.agg #[.int .i64 (-z1), .int .i64 z2]] w fun e w' => e = .returned (.string T) ∧ Below w.heap.size w w') (hne : T ≠ s) :
    Calls Tryd.prog 51 #[.string s] w (GivesFB w 0 0 false) := by
  have cC := split2 s a b hs hp
  replace cC := Lib.hid cC
  clear hp
  have h22 : ¬ 22 < (s.size : Int) := by omega
  replace c0 := Lib.hid c0
  replace c1 := Lib.hid c1
  replace c2 := Lib.hid c2
  replace cG := Lib.hid cG
  replace cT := Lib.hid cT
  have en : (T.toList == s.toList) = false := by rw [beq_eq_false_iff_ne]; exact fun e => hne (ba_inj e)
  clear hne
  obtain ⟨zl, zh⟩ := hz1
  have e45 : ((a[0].toNat : Int) == 45) = true := by rw [hc]; rfl
  have ha1 : 1 ≤ (a.size : Int) := by omega
  replace hc := Lib.hid hc
  have h := Below.refl w.heap.size w
  have hA := below_alloc1 w (.cells #[.int .i64 0, .int .i64 0] 24)
  replace h := Below.step h hA
  have hxr := Box.new w 24 #[.int .i64 0, .int .i64 0]
  clear hA
  go_enter Tryd.func51, Tryd.ntmps51
  go_wp2_with fail
  refine (cC.out _).mono ?_
  rintro e w1 ⟨g, c, rfl, hg0, hk0, hk1, hb⟩
  replace h := Below.step h hb
  replace hxr := hxr.kept hb
  clear hb
  have hgr : w.heap.size < g := by have := hg0; simp at this; omega
  clear hg0
  obtain ⟨ahxr, bhxr⟩ := hxr.two
  have lhxr := hxr.lt
  obtain ⟨lhk0, qhk0⟩ := id hk0
  obtain ⟨lhk1, qhk1⟩ := id hk1
  go_wp2_with fail
  refine (c0.out _).mono ?_
  rintro e w2 ⟨rfl, rfl⟩
  go_wp2_with fail
  have hA := below_alloc1 w1 (.cells #[.int .i64 z0, .int .i64 1] 24)
  have hya := Box.new w1 24 #[.int .i64 z0, .int .i64 1]
  replace h := Below.step h hA
  replace hxr := hxr.kept hA
  have hgl : g < w1.heap.size := lhk0
  replace hk0 := hk0.kept hA
  replace hk1 := hk1.kept hA
  clear hA ahxr bhxr lhxr lhk0 qhk0 lhk1 qhk1
  have hrl : w.heap.size < w1.heap.size := Nat.lt_trans hgr hgl
  generalize w1.alloc (.cells #[.int .i64 z0, .int .i64 1] 24) = w3 at *
  generalize w1.heap.size = ga at hya hgl hrl ⊢
  obtain ⟨ahxr, bhxr⟩ := hxr.two
  have lhxr := hxr.lt
  obtain ⟨ahya, bhya⟩ := hya.two
  have lhya := hya.lt
  obtain ⟨lhk0, qhk0⟩ := id hk0
  obtain ⟨lhk1, qhk1⟩ := id hk1
  have fa0 := hya.free 0
  have fa1 := hya.free 1
  go_wp2_with fail
  refine (c1.out _).mono ?_
  rintro e w2 ⟨rfl, rfl⟩
  go_wp2_with fail
  have hya2 : Box (w3.setCell ⟨ga, 0, none⟩ (.int .i64 (-z1))) ga 24 #[.int .i64 (-z1), .int .i64 1] := hya.set 0 (.int .i64 (-z1))
  have hxr2 : Box (w3.setCell ⟨ga, 0, none⟩ (.int .i64 (-z1))) w.heap.size 24 #[.int .i64 0, .int .i64 0] := box_apart hxr (by omega) _ _
  have hb2 : Below w.heap.size w (w3.setCell ⟨ga, 0, none⟩ (.int .i64 (-z1))) := h.setCell (by simp; omega) _
  have hk02 : Cl (w3.setCell ⟨ga, 0, none⟩ (.int .i64 (-z1))) g 0 _ := Cl.far hk0 (by omega)
  have hk12 : Cl (w3.setCell ⟨ga, 0, none⟩ (.int .i64 (-z1))) g 1 _ := Cl.far hk1 (by omega)
  clear hya hxr h hk0 hk1 ahxr bhxr lhxr ahya bhya lhya lhk0 qhk0 lhk1 qhk1 fa0 fa1
  have hya := hya2
  have hxr := hxr2
  have h := hb2
  have hk0 := hk02
  have hk1 := hk12
  clear hya2 hxr2 hb2 hk02 hk12
  generalize w3.setCell ⟨ga, 0, none⟩ (.int .i64 (-z1)) = w5 at *
  obtain ⟨ahxr, bhxr⟩ := hxr.two
  have lhxr := hxr.lt
  obtain ⟨ahya, bhya⟩ := hya.two
  have lhya := hya.lt
  obtain ⟨lhk0, qhk0⟩ := id hk0
  obtain ⟨lhk1, qhk1⟩ := id hk1
  have fa0 := hya.free 0
  have fa1 := hya.free 1
  go_wp2_with fail
  refine (c2.out _).mono ?_
  rintro e w2 ⟨rfl, rfl⟩
  go_wp2_with fail
  have hya2 : Box (w5.setCell ⟨ga, 1, none⟩ (.int .i64 z2)) ga 24 #[.int .i64 (-z1), .int .i64 z2] := hya.set 1 (.int .i64 z2)
  have hxr2 : Box (w5.setCell ⟨ga, 1, none⟩ (.int .i64 z2)) w.heap.size 24 #[.int .i64 0, .int .i64 0] := box_apart hxr (by omega) _ _
  have hb2 : Below w.heap.size w (w5.setCell ⟨ga, 1, none⟩ (.int .i64 z2)) := h.setCell (by simp; omega) _
  have hk02 : Cl (w5.setCell ⟨ga, 1, none⟩ (.int .i64 z2)) g 0 _ := Cl.far hk0 (by omega)
  have hk12 : Cl (w5.setCell ⟨ga, 1, none⟩ (.int .i64 z2)) g 1 _ := Cl.far hk1 (by omega)
  clear hya hxr h hk0 hk1 ahxr bhxr lhxr ahya bhya lhya lhk0 qhk0 lhk1 qhk1 fa0 fa1
  have hya := hya2
  have hxr := hxr2
  have h := hb2
  have hk0 := hk02
  have hk1 := hk12
  clear hya2 hxr2 hb2 hk02 hk12
  generalize w5.setCell ⟨ga, 1, none⟩ (.int .i64 z2) = w7 at *
  obtain ⟨ahxr, bhxr⟩ := hxr.two
  have lhxr := hxr.lt
  obtain ⟨ahya, bhya⟩ := hya.two
  have lhya := hya.lt
  obtain ⟨lhk0, qhk0⟩ := id hk0
  obtain ⟨lhk1, qhk1⟩ := id hk1
  go_wp2_with fail
  refine (cG.out _).mono ?_
  rintro e w8 ⟨rfl, hb⟩
  replace h := Below.step h hb
  replace hxr := hxr.kept hb
  replace hya := hya.kept hb
  clear hb ahxr bhxr lhxr ahya bhya lhya lhk0 qhk0 lhk1 qhk1
  obtain ⟨ahxr, bhxr⟩ := hxr.two
  have lhxr := hxr.lt
  obtain ⟨ahya, bhya⟩ := hya.two
  have lhya := hya.lt
  go_wp2_with fail
  refine (cT.out _).mono ?_
  rintro e w9 ⟨rfl, hb⟩
  replace h := Below.step h hb
  replace hxr := hxr.kept hb
  replace hya := hya.kept hb
  clear hb ahxr bhxr lhxr ahya bhya lhya
  obtain ⟨ahxr, bhxr⟩ := hxr.two
  have lhxr := hxr.lt
  obtain ⟨ahya, bhya⟩ := hya.two
  have lhya := hya.lt
  have f0 := hxr.free 0
  have f1 := hxr.free 1
  go_wp2_with fail
  refine bodyPost_ret (v := .tuple #[.agg #[.int .i64 0, .int .i64 0], .bool false]) (by simp [results, Tryd.results51, go_sem, ahxr, bhxr]) rfl ⟨rfl, ?_⟩
  exact (h.setCell (by first | (simp; done) | (simp; omega)) _).setCell (by first | (simp; done) | (simp; omega)) _

set_option maxHeartbeats 3000000 in
theorem parseS_neg_good2 (s : ByteArray) (w : World) (hs : s.size ≤ 1048576) (hl : s.size ≤ 22) (a b : ByteArray) (z0 z1 z2 : Int) (hp : splitAll s 47 = [a, b]) (hs0 : 0 < a.size) (hc : a[0].toNat = 45) (c0 : ∀ w : World, Calls Tryd.prog 64 #[.string a] w fun e w' => e = .returned (.int .i64 z0) ∧ w = w') (hz1 : -1 ≤ z1 ∧ z1 ≤ 9999999999) (c1 : ∀ w : World, Calls Tryd.prog 64 #[.string (a.extract 1 a.size)] w fun e w' => e = .returned (.int .i64 z1) ∧ w = w') (c2 : ∀ w : World, Calls Tryd.prog 64 #[.string b] w fun e w' => e = .returned (.int .i64 z2) ∧ w = w') (cG : ∀ w : World, Calls Tryd.prog 26 #[.agg #[.int .i64 (-z1), .int .i64 z2]] w (GivesB w true)) (cT : ∀ w : World, Calls Tryd.prog 29 #[.agg #[.int .i64 (-z1), .int .i64 z2]] w fun e w' => e = .returned (.string s) ∧ Below w.heap.size w w') :
    Calls Tryd.prog 51 #[.string s] w (GivesFB w (-z1) z2 true) := by
  have cC := split2 s a b hs hp
  replace cC := Lib.hid cC
  clear hp
  have h22 : ¬ 22 < (s.size : Int) := by omega
  replace c0 := Lib.hid c0
  replace c1 := Lib.hid c1
  replace c2 := Lib.hid c2
  replace cG := Lib.hid cG
  replace cT := Lib.hid cT
  obtain ⟨zl, zh⟩ := hz1
  have e45 : ((a[0].toNat : Int) == 45) = true := by rw [hc]; rfl
  have ha1 : 1 ≤ (a.size : Int) := by omega
  replace hc := Lib.hid hc
  have h := Below.refl w.heap.size w
  have hA := below_alloc1 w (.cells #[.int .i64 0, .int .i64 0] 24)
  replace h := Below.step h hA
  have hxr := Box.new w 24 #[.int .i64 0, .int .i64 0]
  clear hA
  go_enter Tryd.func51, Tryd.ntmps51
  go_wp2_with fail
  refine (cC.out _).mono ?_
  rintro e w1 ⟨g, c, rfl, hg0, hk0, hk1, hb⟩
  replace h := Below.step h hb
  replace hxr := hxr.kept hb
  clear hb
  have hgr : w.heap.size < g := by have := hg0; simp at this; omega
  clear hg0
  obtain ⟨ahxr, bhxr⟩ := hxr.two
  have lhxr := hxr.lt
  obtain ⟨lhk0, qhk0⟩ := id hk0
  obtain ⟨lhk1, qhk1⟩ := id hk1
  go_wp2_with fail
  refine (c0.out _).mono ?_
  rintro e w2 ⟨rfl, rfl⟩
  go_wp2_with fail
  have hA := below_alloc1 w1 (.cells #[.int .i64 z0, .int .i64 1] 24)
  have hya := Box.new w1 24 #[.int .i64 z0, .int .i64 1]
  replace h := Below.step h hA
  replace hxr := hxr.kept hA
  have hgl : g < w1.heap.size := lhk0
  replace hk0 := hk0.kept hA
  replace hk1 := hk1.kept hA
  clear hA ahxr bhxr lhxr lhk0 qhk0 lhk1 qhk1
  have hrl : w.heap.size < w1.heap.size := Nat.lt_trans hgr hgl
  generalize w1.alloc (.cells #[.int .i64 z0, .int .i64 1] 24) = w3 at *
  generalize w1.heap.size = ga at hya hgl hrl ⊢
  obtain ⟨ahxr, bhxr⟩ := hxr.two
  have lhxr := hxr.lt
  obtain ⟨ahya, bhya⟩ := hya.two
  have lhya := hya.lt
  obtain ⟨lhk0, qhk0⟩ := id hk0
  obtain ⟨lhk1, qhk1⟩ := id hk1
  have fa0 := hya.free 0
  have fa1 := hya.free 1
  go_wp2_with fail
  refine (c1.out _).mono ?_
  rintro e w2 ⟨rfl, rfl⟩
  go_wp2_with fail
  have hya2 : Box (w3.setCell ⟨ga, 0, none⟩ (.int .i64 (-z1))) ga 24 #[.int .i64 (-z1), .int .i64 1] := hya.set 0 (.int .i64 (-z1))
  have hxr2 : Box (w3.setCell ⟨ga, 0, none⟩ (.int .i64 (-z1))) w.heap.size 24 #[.int .i64 0, .int .i64 0] := box_apart hxr (by omega) _ _
  have hb2 : Below w.heap.size w (w3.setCell ⟨ga, 0, none⟩ (.int .i64 (-z1))) := h.setCell (by simp; omega) _
  have hk02 : Cl (w3.setCell ⟨ga, 0, none⟩ (.int .i64 (-z1))) g 0 _ := Cl.far hk0 (by omega)
  have hk12 : Cl (w3.setCell ⟨ga, 0, none⟩ (.int .i64 (-z1))) g 1 _ := Cl.far hk1 (by omega)
  clear hya hxr h hk0 hk1 ahxr bhxr lhxr ahya bhya lhya lhk0 qhk0 lhk1 qhk1 fa0 fa1
  have hya := hya2
  have hxr := hxr2
  have h := hb2
  have hk0 := hk02
  have hk1 := hk12
  clear hya2 hxr2 hb2 hk02 hk12
  generalize w3.setCell ⟨ga, 0, none⟩ (.int .i64 (-z1)) = w5 at *
  obtain ⟨ahxr, bhxr⟩ := hxr.two
  have lhxr := hxr.lt
  obtain ⟨ahya, bhya⟩ := hya.two
  have lhya := hya.lt
  obtain ⟨lhk0, qhk0⟩ := id hk0
  obtain ⟨lhk1, qhk1⟩ := id hk1
  have fa0 := hya.free 0
  have fa1 := hya.free 1
  go_wp2_with fail
  refine (c2.out _).mono ?_
  rintro e w2 ⟨rfl, rfl⟩
  go_wp2_with fail
  have hya2 : Box (w5.setCell ⟨ga, 1, none⟩ (.int .i64 z2)) ga 24 #[.int .i64 (-z1), .int .i64 z2] := hya.set 1 (.int .i64 z2)
  have hxr2 : Box (w5.setCell ⟨ga, 1, none⟩ (.int .i64 z2)) w.heap.size 24 #[.int .i64 0, .int .i64 0] := box_apart hxr (by omega) _ _
  have hb2 : Below w.heap.size w (w5.setCell ⟨ga, 1, none⟩ (.int .i64 z2)) := h.setCell (by simp; omega) _
  have hk02 : Cl (w5.setCell ⟨ga, 1, none⟩ (.int .i64 z2)) g 0 _ := Cl.far hk0 (by omega)
  have hk12 : Cl (w5.setCell ⟨ga, 1, none⟩ (.int .i64 z2)) g 1 _ := Cl.far hk1 (by omega)
  clear hya hxr h hk0 hk1 ahxr bhxr lhxr ahya bhya lhya lhk0 qhk0 lhk1 qhk1 fa0 fa1
  have hya := hya2
  have hxr := hxr2
  have h := hb2
  have hk0 := hk02
  have hk1 := hk12
  clear hya2 hxr2 hb2 hk02 hk12
  generalize w5.setCell ⟨ga, 1, none⟩ (.int .i64 z2) = w7 at *
  obtain ⟨ahxr, bhxr⟩ := hxr.two
  have lhxr := hxr.lt
  obtain ⟨ahya, bhya⟩ := hya.two
  have lhya := hya.lt
  obtain ⟨lhk0, qhk0⟩ := id hk0
  obtain ⟨lhk1, qhk1⟩ := id hk1
  go_wp2_with fail
  refine (cG.out _).mono ?_
  rintro e w8 ⟨rfl, hb⟩
  replace h := Below.step h hb
  replace hxr := hxr.kept hb
  replace hya := hya.kept hb
  clear hb ahxr bhxr lhxr ahya bhya lhya lhk0 qhk0 lhk1 qhk1
  obtain ⟨ahxr, bhxr⟩ := hxr.two
  have lhxr := hxr.lt
  obtain ⟨ahya, bhya⟩ := hya.two
  have lhya := hya.lt
  go_wp2_with fail
  refine (cT.out _).mono ?_
  rintro e w9 ⟨rfl, hb⟩
  replace h := Below.step h hb
  replace hxr := hxr.kept hb
  replace hya := hya.kept hb
  clear hb ahxr bhxr lhxr ahya bhya lhya
  obtain ⟨ahxr, bhxr⟩ := hxr.two
  have lhxr := hxr.lt
  obtain ⟨ahya, bhya⟩ := hya.two
  have lhya := hya.lt
  have f0 := hxr.free 0
  have f1 := hxr.free 1
  go_wp2_with fail
  refine bodyPost_ret (v := .tuple #[.agg #[.int .i64 ((-z1)), .int .i64 (z2)], .bool true]) (by simp [results, Tryd.results51, go_sem, ahxr, bhxr]) rfl ⟨rfl, ?_⟩
  exact (h.setCell (by first | (simp; done) | (simp; omega)) _).setCell (by first | (simp; done) | (simp; omega)) _

set_option maxHeartbeats 3000000 in
theorem parseS_emp_bad1 (s : ByteArray) (w : World) (hs : s.size ≤ 1048576) (hl : s.size ≤ 22) (a : ByteArray) (z0 : Int) (hp : splitAll s 47 = [a]) (hs0 : a.size = 0) (c0 : ∀ w : World, Calls Tryd.prog 64 #[.string a] w fun e w' => e = .returned (.int .i64 z0) ∧ w = w') (cG : ∀ w : World, Calls Tryd.prog 26 #[.agg #[.int .i64 z0, .int .i64 1]] w (GivesB w false)) :
    Calls Tryd.prog 51 #[.string s] w (GivesFB w 0 0 false) := by
  have cC := split1 s a hs hp
  replace cC := Lib.hid cC
  clear hp
  have h22 : ¬ 22 < (s.size : Int) := by omega
  replace c0 := Lib.hid c0
  replace cG := Lib.hid cG
  have ha1 : ¬ 0 < (a.size : Int) := by omega
  replace hs0 := Lib.hid hs0
  have h := Below.refl w.heap.size w
  have hA := below_alloc1 w (.cells #[.int .i64 0, .int .i64 0] 24)
  replace h := Below.step h hA
  have hxr := Box.new w 24 #[.int .i64 0, .int .i64 0]
  clear hA
  go_enter Tryd.func51, Tryd.ntmps51
  go_wp2_with fail
  refine (cC.out _).mono ?_
  rintro e w1 ⟨g, c, rfl, hg0, hk0, hb⟩
  replace h := Below.step h hb
  replace hxr := hxr.kept hb
  clear hb
  have hgr : w.heap.size < g := by have := hg0; simp at this; omega
  clear hg0
  obtain ⟨ahxr, bhxr⟩ := hxr.two
  have lhxr := hxr.lt
  obtain ⟨lhk0, qhk0⟩ := id hk0
  go_wp2_with fail
  refine (c0.out _).mono ?_
  rintro e w2 ⟨rfl, rfl⟩
  go_wp2_with fail
  have hA := below_alloc1 w1 (.cells #[.int .i64 z0, .int .i64 1] 24)
  have hya := Box.new w1 24 #[.int .i64 z0, .int .i64 1]
  replace h := Below.step h hA
  replace hxr := hxr.kept hA
  have hgl : g < w1.heap.size := lhk0
  replace hk0 := hk0.kept hA
  clear hA ahxr bhxr lhxr lhk0 qhk0
  have hrl : w.heap.size < w1.heap.size := Nat.lt_trans hgr hgl
  generalize w1.alloc (.cells #[.int .i64 z0, .int .i64 1] 24) = w3 at *
  generalize w1.heap.size = ga at hya hgl hrl ⊢
  obtain ⟨ahxr, bhxr⟩ := hxr.two
  have lhxr := hxr.lt
  obtain ⟨ahya, bhya⟩ := hya.two
  have lhya := hya.lt
  obtain ⟨lhk0, qhk0⟩ := id hk0
  have fa0 := hya.free 0
  have fa1 := hya.free 1
  go_wp2_with fail
  refine (cG.out _).mono ?_
  rintro e w8 ⟨rfl, hb⟩
  replace h := Below.step h hb
  replace hxr := hxr.kept hb
  replace hya := hya.kept hb
  clear hb ahxr bhxr lhxr ahya bhya lhya lhk0 qhk0 fa0 fa1
  obtain ⟨ahxr, bhxr⟩ := hxr.two
  have lhxr := hxr.lt
  obtain ⟨ahya, bhya⟩ := hya.two
  have lhya := hya.lt
  have f0 := hxr.free 0
  have f1 := hxr.free 1
  go_wp2_with fail
  refine bodyPost_ret (v := .tuple #[.agg #[.int .i64 0, .int .i64 0], .bool false]) (by simp [results, Tryd.results51, go_sem, ahxr, bhxr]) rfl ⟨rfl, ?_⟩
  exact (h.setCell (by first | (simp; done) | (simp; omega)) _).setCell (by first | (simp; done) | (simp; omega)) _

set_option maxHeartbeats 3000000 in
theorem parseS_emp_other1 (s : ByteArray) (w : World) (hs : s.size ≤ 1048576) (hl : s.size ≤ 22) (a T : ByteArray) (z0 : Int) (hp : splitAll s 47 = [a]) (hs0 : a.size = 0) (c0 : ∀ w : World, Calls Tryd.prog 64 #[.string a] w fun e w' => e = .returned (.int .i64 z0) ∧ w = w') (cG : ∀ w : World, Calls Tryd.prog 26 #[.agg #[.int .i64 z0, .int .i64 1]] w (GivesB w true)) (cT : ∀ w : World, Calls Tryd.prog 29 #[.agg #[.int .i64 z0, .int .i64 1]] w fun e w' => e = .returned (.string T) ∧ Below w.heap.size w w') (hne : T ≠ s) :
    Calls Tryd.prog 51 #[.string s] w (GivesFB w 0 0 false) := by
  have cC := split1 s a hs hp
  replace cC := Lib.hid cC
  clear hp
  have h22 : ¬ 22 < (s.size : Int) := by omega
  replace c0 := Lib.hid c0
  replace cG := Lib.hid cG
  replace cT := Lib.hid cT
  have en : (T.toList == s.toList) = false := by rw [beq_eq_false_iff_ne]; exact fun e => hne (ba_inj e)
  clear hne
  have ha1 : ¬ 0 < (a.size : Int) := by omega
  replace hs0 := Lib.hid hs0
  have h := Below.refl w.heap.size w
  have hA := below_alloc1 w (.cells #[.int .i64 0, .int .i64 0] 24)
  replace h := Below.step h hA
  have hxr := Box.new w 24 #[.int .i64 0, .int .i64 0]
  clear hA
  go_enter Tryd.func51, Tryd.ntmps51
  go_wp2_with fail
  refine (cC.out _).mono ?_
  rintro e w1 ⟨g, c, rfl, hg0, hk0, hb⟩
  replace h := Below.step h hb
  replace hxr := hxr.kept hb
  clear hb
  have hgr : w.heap.size < g := by have := hg0; simp at this; omega
  clear hg0
  obtain ⟨ahxr, bhxr⟩ := hxr.two
  have lhxr := hxr.lt
  obtain ⟨lhk0, qhk0⟩ := id hk0
  go_wp2_with fail
  refine (c0.out _).mono ?_
  rintro e w2 ⟨rfl, rfl⟩
  go_wp2_with fail
  have hA := below_alloc1 w1 (.cells #[.int .i64 z0, .int .i64 1] 24)
  have hya := Box.new w1 24 #[.int .i64 z0, .int .i64 1]
  replace h := Below.step h hA
  replace hxr := hxr.kept hA
  have hgl : g < w1.heap.size := lhk0
  replace hk0 := hk0.kept hA
  clear hA ahxr bhxr lhxr lhk0 qhk0
  have hrl : w.heap.size < w1.heap.size := Nat.lt_trans hgr hgl
  generalize w1.alloc (.cells #[.int .i64 z0, .int .i64 1] 24) = w3 at *
  generalize w1.heap.size = ga at hya hgl hrl ⊢
  obtain ⟨ahxr, bhxr⟩ := hxr.two
  have lhxr := hxr.lt
  obtain ⟨ahya, bhya⟩ := hya.two
  have lhya := hya.lt
  obtain ⟨lhk0, qhk0⟩ := id hk0
  have fa0 := hya.free 0
  have fa1 := hya.free 1
  go_wp2_with fail
  refine (cG.out _).mono ?_
  rintro e w8 ⟨rfl, hb⟩
  replace h := Below.step h hb
  replace hxr := hxr.kept hb
  replace hya := hya.kept hb
  clear hb ahxr bhxr lhxr ahya bhya lhya lhk0 qhk0 fa0 fa1
  obtain ⟨ahxr, bhxr⟩ := hxr.two
  have lhxr := hxr.lt
  obtain ⟨ahya, bhya⟩ := hya.two
  have lhya := hya.lt
  go_wp2_with fail
  refine (cT.out _).mono ?_
  rintro e w9 ⟨rfl, hb⟩
  replace h := Below.step h hb
  replace hxr := hxr.kept hb
  replace hya := hya.kept hb
  clear hb ahxr bhxr lhxr ahya bhya lhya
  obtain ⟨ahxr, bhxr⟩ := hxr.two
  have lhxr := hxr.lt
  obtain ⟨ahya, bhya⟩ := hya.two
  have lhya := hya.lt
  have f0 := hxr.free 0
  have f1 := hxr.free 1
  go_wp2_with fail
  refine bodyPost_ret (v := .tuple #[.agg #[.int .i64 0, .int .i64 0], .bool false]) (by simp [results, Tryd.results51, go_sem, ahxr, bhxr]) rfl ⟨rfl, ?_⟩
  exact (h.setCell (by first | (simp; done) | (simp; omega)) _).setCell (by first | (simp; done) | (simp; omega)) _

set_option maxHeartbeats 3000000 in
theorem parseS_emp_good1 (s : ByteArray) (w : World) (hs : s.size ≤ 1048576) (hl : s.size ≤ 22) (a : ByteArray) (z0 : Int) (hp : splitAll s 47 = [a]) (hs0 : a.size = 0) (c0 : ∀ w : World, Calls Tryd.prog 64 #[.string a] w fun e w' => e = .returned (.int .i64 z0) ∧ w = w') (cG : ∀ w : World, Calls Tryd.prog 26 #[.agg #[.int .i64 z0, .int .i64 1]] w (GivesB w true)) (cT : ∀ w : World, Calls Tryd.prog 29 #[.agg #[.int .i64 z0, .int .i64 1]] w fun e w' => e = .returned (.string s) ∧ Below w.heap.size w w') :
    Calls Tryd.prog 51 #[.string s] w (GivesFB w z0 1 true) := by
  have cC := split1 s a hs hp
  replace cC := Lib.hid cC
  clear hp
  have h22 : ¬ 22 < (s.size : Int) := by omega
  replace c0 := Lib.hid c0
  replace cG := Lib.hid cG
  replace cT := Lib.hid cT
  have ha1 : ¬ 0 < (a.size : Int) := by omega
  replace hs0 := Lib.hid hs0
  have h := Below.refl w.heap.size w
  have hA := below_alloc1 w (.cells #[.int .i64 0, .int .i64 0] 24)
  replace h := Below.step h hA
  have hxr := Box.new w 24 #[.int .i64 0, .int .i64 0]
  clear hA
  go_enter Tryd.func51, Tryd.ntmps51
  go_wp2_with fail
  refine (cC.out _).mono ?_
  rintro e w1 ⟨g, c, rfl, hg0, hk0, hb⟩
  replace h := Below.step h hb
  replace hxr := hxr.kept hb
  clear hb
  have hgr : w.heap.size < g := by have := hg0; simp at this; omega
  clear hg0
  obtain ⟨ahxr, bhxr⟩ := hxr.two
  have lhxr := hxr.lt
  obtain ⟨lhk0, qhk0⟩ := id hk0
  go_wp2_with fail
  refine (c0.out _).mono ?_
  rintro e w2 ⟨rfl, rfl⟩
  go_wp2_with fail
  have hA := below_alloc1 w1 (.cells #[.int .i64 z0, .int .i64 1] 24)
  have hya := Box.new w1 24 #[.int .i64 z0, .int .i64 1]
  replace h := Below.step h hA
  replace hxr := hxr.kept hA
  have hgl : g < w1.heap.size := lhk0
  replace hk0 := hk0.kept hA
  clear hA ahxr bhxr lhxr lhk0 qhk0
  have hrl : w.heap.size < w1.heap.size := Nat.lt_trans hgr hgl
  generalize w1.alloc (.cells #[.int .i64 z0, .int .i64 1] 24) = w3 at *
  generalize w1.heap.size = ga at hya hgl hrl ⊢
  obtain ⟨ahxr, bhxr⟩ := hxr.two
  have lhxr := hxr.lt
  obtain ⟨ahya, bhya⟩ := hya.two
  have lhya := hya.lt
  obtain ⟨lhk0, qhk0⟩ := id hk0
  have fa0 := hya.free 0
  have fa1 := hya.free 1
  go_wp2_with fail
  refine (cG.out _).mono ?_
  rintro e w8 ⟨rfl, hb⟩
  replace h := Below.step h hb
  replace hxr := hxr.kept hb
  replace hya := hya.kept hb
  clear hb ahxr bhxr lhxr ahya bhya lhya lhk0 qhk0 fa0 fa1
  obtain ⟨ahxr, bhxr⟩ := hxr.two
  have lhxr := hxr.lt
  obtain ⟨ahya, bhya⟩ := hya.two
  have lhya := hya.lt
  go_wp2_with fail
  refine (cT.out _).mono ?_
  rintro e w9 ⟨rfl, hb⟩
  replace h := Below.step h hb
  replace hxr := hxr.kept hb
  replace hya := hya.kept hb
  clear hb ahxr bhxr lhxr ahya bhya lhya
  obtain ⟨ahxr, bhxr⟩ := hxr.two
  have lhxr := hxr.lt
  obtain ⟨ahya, bhya⟩ := hya.two
  have lhya := hya.lt
  have f0 := hxr.free 0
  have f1 := hxr.free 1
  go_wp2_with fail
  refine bodyPost_ret (v := .tuple #[.agg #[.int .i64 (z0), .int .i64 (1)], .bool true]) (by simp [results, Tryd.results51, go_sem, ahxr, bhxr]) rfl ⟨rfl, ?_⟩
  exact (h.setCell (by first | (simp; done) | (simp; omega)) _).setCell (by first | (simp; done) | (simp; omega)) _

set_option maxHeartbeats 3000000 in
theorem parseS_emp_bad2 (s : ByteArray) (w : World) (hs : s.size ≤ 1048576) (hl : s.size ≤ 22) (a b : ByteArray) (z0 z2 : Int) (hp : splitAll s 47 = [a, b]) (hs0 : a.size = 0) (c0 : ∀ w : World, Calls Tryd.prog 64 #[.string a] w fun e w' => e = .returned (.int .i64 z0) ∧ w = w') (c2 : ∀ w : World, Calls Tryd.prog 64 #[.string b] w fun e w' => e = .returned (.int .i64 z2) ∧ w = w') (cG : ∀ w : World, Calls Tryd.prog 26 #[.agg #[.int .i64 z0, .int .i64 z2]] w (GivesB w false)) :
    Calls Tryd.prog 51 #[.string s] w (GivesFB w 0 0 false) := by
  have cC := split2 s a b hs hp
  replace cC := Lib.hid cC
  clear hp
  have h22 : ¬ 22 < (s.size : Int) := by omega
  replace c0 := Lib.hid c0
  replace c2 := Lib.hid c2
  replace cG := Lib.hid cG
  have ha1 : ¬ 0 < (a.size : Int) := by omega
  replace hs0 := Lib.hid hs0
  have h := Below.refl w.heap.size w
  have hA := below_alloc1 w (.cells #[.int .i64 0, .int .i64 0] 24)
  replace h := Below.step h hA
  have hxr := Box.new w 24 #[.int .i64 0, .int .i64 0]
  clear hA
  go_enter Tryd.func51, Tryd.ntmps51
  go_wp2_with fail
  refine (cC.out _).mono ?_
  rintro e w1 ⟨g, c, rfl, hg0, hk0, hk1, hb⟩
  replace h := Below.step h hb
  replace hxr := hxr.kept hb
  clear hb
  have hgr : w.heap.size < g := by have := hg0; simp at this; omega
  clear hg0
  obtain ⟨ahxr, bhxr⟩ := hxr.two
  have lhxr := hxr.lt
  obtain ⟨lhk0, qhk0⟩ := id hk0
  obtain ⟨lhk1, qhk1⟩ := id hk1
  go_wp2_with fail
  refine (c0.out _).mono ?_
  rintro e w2 ⟨rfl, rfl⟩
  go_wp2_with fail
  have hA := below_alloc1 w1 (.cells #[.int .i64 z0, .int .i64 1] 24)
  have hya := Box.new w1 24 #[.int .i64 z0, .int .i64 1]
  replace h := Below.step h hA
  replace hxr := hxr.kept hA
  have hgl : g < w1.heap.size := lhk0
  replace hk0 := hk0.kept hA
  replace hk1 := hk1.kept hA
  clear hA ahxr bhxr lhxr lhk0 qhk0 lhk1 qhk1
  have hrl : w.heap.size < w1.heap.size := Nat.lt_trans hgr hgl
  generalize w1.alloc (.cells #[.int .i64 z0, .int .i64 1] 24) = w3 at *
  generalize w1.heap.size = ga at hya hgl hrl ⊢
  obtain ⟨ahxr, bhxr⟩ := hxr.two
  have lhxr := hxr.lt
  obtain ⟨ahya, bhya⟩ := hya.two
  have lhya := hya.lt
  obtain ⟨lhk0, qhk0⟩ := id hk0
  obtain ⟨lhk1, qhk1⟩ := id hk1
  have fa0 := hya.free 0
  have fa1 := hya.free 1
  go_wp2_with fail
  refine (c2.out _).mono ?_
  rintro e w2 ⟨rfl, rfl⟩
  go_wp2_with fail
  have hya2 : Box (w3.setCell ⟨ga, 1, none⟩ (.int .i64 z2)) ga 24 #[.int .i64 z0, .int .i64 z2] := hya.set 1 (.int .i64 z2)
  have hxr2 : Box (w3.setCell ⟨ga, 1, none⟩ (.int .i64 z2)) w.heap.size 24 #[.int .i64 0, .int .i64 0] := box_apart hxr (by omega) _ _
  have hb2 : Below w.heap.size w (w3.setCell ⟨ga, 1, none⟩ (.int .i64 z2)) := h.setCell (by simp; omega) _
  have hk02 : Cl (w3.setCell ⟨ga, 1, none⟩ (.int .i64 z2)) g 0 _ := Cl.far hk0 (by omega)
  have hk12 : Cl (w3.setCell ⟨ga, 1, none⟩ (.int .i64 z2)) g 1 _ := Cl.far hk1 (by omega)
  clear hya hxr h hk0 hk1 ahxr bhxr lhxr ahya bhya lhya lhk0 qhk0 lhk1 qhk1 fa0 fa1
  have hya := hya2
  have hxr := hxr2
  have h := hb2
  have hk0 := hk02
  have hk1 := hk12
  clear hya2 hxr2 hb2 hk02 hk12
  generalize w3.setCell ⟨ga, 1, none⟩ (.int .i64 z2) = w7 at *
  obtain ⟨ahxr, bhxr⟩ := hxr.two
  have lhxr := hxr.lt
  obtain ⟨ahya, bhya⟩ := hya.two
  have lhya := hya.lt
  obtain ⟨lhk0, qhk0⟩ := id hk0
  obtain ⟨lhk1, qhk1⟩ := id hk1
  go_wp2_with fail
  refine (cG.out _).mono ?_
  rintro e w8 ⟨rfl, hb⟩
  replace h := Below.step h hb
  replace hxr := hxr.kept hb
  replace hya := hya.kept hb
  clear hb ahxr bhxr lhxr ahya bhya lhya lhk0 qhk0 lhk1 qhk1
  obtain ⟨ahxr, bhxr⟩ := hxr.two
  have lhxr := hxr.lt
  obtain ⟨ahya, bhya⟩ := hya.two
  have lhya := hya.lt
  have f0 := hxr.free 0
  have f1 := hxr.free 1
  go_wp2_with fail
  refine bodyPost_ret (v := .tuple #[.agg #[.int .i64 0, .int .i64 0], .bool false]) (by simp [results, Tryd.results51, go_sem, ahxr, bhxr]) rfl ⟨rfl, ?_⟩
  exact (h.setCell (by first | (simp; done) | (simp; omega)) _).setCell (by first | (simp; done) | (simp; omega)) _

set_option maxHeartbeats 3000000 in
theorem parseS_emp_other2 (s : ByteArray) (w : World) (hs : s.size ≤ 1048576) (hl : s.size ≤ 22) (a b T : ByteArray) (z0 z2 : Int) (hp : splitAll s 47 = [a, b]) (hs0 : a.size = 0) (c0 : ∀ w : World, Calls Tryd.prog 64 #[.string a] w fun e w' => e = .returned (.int .i64 z0) ∧ w = w') (c2 : ∀ w : World, Calls Tryd.prog 64 #[.string b] w fun e w' => e = .returned (.int .i64 z2) ∧ w = w') (cG : ∀ w : World, Calls Tryd.prog 26 #[.agg #[.int .i64 z0, .int .i64 z2]] w (GivesB w true)) (cT : ∀ w : World, Calls Tryd.prog 29 #[.agg #[.int .i64 z0, .int .i64 z2]] w fun e w' => e = .returned (.string T) ∧ Below w.heap.size w w') (hne : T ≠ s) :
    Calls Tryd.prog 51 #[.string s] w (GivesFB w 0 0 false) := by
  have cC := split2 s a b hs hp
  replace cC := Lib.hid cC
  clear hp
  have h22 : ¬ 22 < (s.size : Int) := by omega
  replace c0 := Lib.hid c0
  replace c2 := Lib.hid c2
  replace cG := Lib.hid cG
  replace cT := Lib.hid cT
  have en : (T.toList == s.toList) = false := by rw [beq_eq_false_iff_ne]; exact fun e => hne (ba_inj e)
  clear hne
  have ha1 : ¬ 0 < (a.size : Int) := by omega
  replace hs0 := Lib.hid hs0
  have h := Below.refl w.heap.size w
  have hA := below_alloc1 w (.cells #[.int .i64 0, .int .i64 0] 24)
  replace h := Below.step h hA
  have hxr := Box.new w 24 #[.int .i64 0, .int .i64 0]
  clear hA
  go_enter Tryd.func51, Tryd.ntmps51
  go_wp2_with fail
  refine (cC.out _).mono ?_
  rintro e w1 ⟨g, c, rfl, hg0, hk0, hk1, hb⟩
  replace h := Below.step h hb
  replace hxr := hxr.kept hb
  clear hb
  have hgr : w.heap.size < g := by have := hg0; simp at this; omega
  clear hg0
  obtain ⟨ahxr, bhxr⟩ := hxr.two
  have lhxr := hxr.lt
  obtain ⟨lhk0, qhk0⟩ := id hk0
  obtain ⟨lhk1, qhk1⟩ := id hk1
  go_wp2_with fail
  refine (c0.out _).mono ?_
  rintro e w2 ⟨rfl, rfl⟩
  go_wp2_with fail
  have hA := below_alloc1 w1 (.cells #[.int .i64 z0, .int .i64 1] 24)
  have hya := Box.new w1 24 #[.int .i64 z0, .int .i64 1]
  replace h := Below.step h hA
  replace hxr := hxr.kept hA
  have hgl : g < w1.heap.size := lhk0
  replace hk0 := hk0.kept hA
  replace hk1 := hk1.kept hA
  clear hA ahxr bhxr lhxr lhk0 qhk0 lhk1 qhk1
  have hrl : w.heap.size < w1.heap.size := Nat.lt_trans hgr hgl
  generalize w1.alloc (.cells #[.int .i64 z0, .int .i64 1] 24) = w3 at *
  generalize w1.heap.size = ga at hya hgl hrl ⊢
  obtain ⟨ahxr, bhxr⟩ := hxr.two
  have lhxr := hxr.lt
  obtain ⟨ahya, bhya⟩ := hya.two
  have lhya := hya.lt
  obtain ⟨lhk0, qhk0⟩ := id hk0
  obtain ⟨lhk1, qhk1⟩ := id hk1
  have fa0 := hya.free 0
  have fa1 := hya.free 1
  go_wp2_with fail
  refine (c2.out _).mono ?_
  rintro e w2 ⟨rfl, rfl⟩
  go_wp2_with fail
  have hya2 : Box (w3.setCell ⟨ga, 1, none⟩ (.int .i64 z2)) ga 24 #[.int .i64 z0, .int .i64 z2] := hya.set 1 (.int .i64 z2)
  have hxr2 : Box (w3.setCell ⟨ga, 1, none⟩ (.int .i64 z2)) w.heap.size 24 #[.int .i64 0, .int .i64 0] := box_apart hxr (by omega) _ _
  have hb2 : Below w.heap.size w (w3.setCell ⟨ga, 1, none⟩ (.int .i64 z2)) := h.setCell (by simp; omega) _
  have hk02 : Cl (w3.setCell ⟨ga, 1, none⟩ (.int .i64 z2)) g 0 _ := Cl.far hk0 (by omega)
  have hk12 : Cl (w3.setCell ⟨ga, 1, none⟩ (.int .i64 z2)) g 1 _ := Cl.far hk1 (by omega)
  clear hya hxr h hk0 hk1 ahxr bhxr lhxr ahya bhya lhya lhk0 qhk0 lhk1 qhk1 fa0 fa1
  have hya := hya2
  have hxr := hxr2
  have h := hb2
  have hk0 := hk02
  have hk1 := hk12
  clear hya2 hxr2 hb2 hk02 hk12
  generalize w3.setCell ⟨ga, 1, none⟩ (.int .i64 z2) = w7 at *
  obtain ⟨ahxr, bhxr⟩ := hxr.two
  have lhxr := hxr.lt
  obtain ⟨ahya, bhya⟩ := hya.two
  have lhya := hya.lt
  obtain ⟨lhk0, qhk0⟩ := id hk0
  obtain ⟨lhk1, qhk1⟩ := id hk1
  go_wp2_with fail
  refine (cG.out _).mono ?_
  rintro e w8 ⟨rfl, hb⟩
  replace h := Below.step h hb
  replace hxr := hxr.kept hb
  replace hya := hya.kept hb
  clear hb ahxr bhxr lhxr ahya bhya lhya lhk0 qhk0 lhk1 qhk1
  obtain ⟨ahxr, bhxr⟩ := hxr.two
  have lhxr := hxr.lt
  obtain ⟨ahya, bhya⟩ := hya.two
  have lhya := hya.lt
  go_wp2_with fail
  refine (cT.out _).mono ?_
  rintro e w9 ⟨rfl, hb⟩
  replace h := Below.step h hb
  replace hxr := hxr.kept hb
  replace hya := hya.kept hb
  clear hb ahxr bhxr lhxr ahya bhya lhya
  obtain ⟨ahxr, bhxr⟩ := hxr.two
  have lhxr := hxr.lt
  obtain ⟨ahya, bhya⟩ := hya.two
  have lhya := hya.lt
  have f0 := hxr.free 0
  have f1 := hxr.free 1
  go_wp2_with fail
  refine bodyPost_ret (v := .tuple #[.agg #[.int .i64 0, .int .i64 0], .bool false]) (by simp [results, Tryd.results51, go_sem, ahxr, bhxr]) rfl ⟨rfl, ?_⟩
  exact (h.setCell (by first | (simp; done) | (simp; omega)) _).setCell (by first | (simp; done) | (simp; omega)) _

set_option maxHeartbeats 3000000 in
theorem parseS_emp_good2 (s : ByteArray) (w : World) (hs : s.size ≤ 1048576) (hl : s.size ≤ 22) (a b : ByteArray) (z0 z2 : Int) (hp : splitAll s 47 = [a, b]) (hs0 : a.size = 0) (c0 : ∀ w : World, Calls Tryd.prog 64 #[.string a] w fun e w' => e = .returned (.int .i64 z0) ∧ w = w') (c2 : ∀ w : World, Calls Tryd.prog 64 #[.string b] w fun e w' => e = .returned (.int .i64 z2) ∧ w = w') (cG : ∀ w : World, Calls Tryd.prog 26 #[.agg #[.int .i64 z0, .int .i64 z2]] w (GivesB w true)) (cT : ∀ w : World, Calls Tryd.prog 29 #[.agg #[.int .i64 z0, .int .i64 z2]] w fun e w' => e = .returned (.string s) ∧ Below w.heap.size w w') :
    Calls Tryd.prog 51 #[.string s] w (GivesFB w z0 z2 true) := by
  have cC := split2 s a b hs hp
  replace cC := Lib.hid cC
  clear hp
  have h22 : ¬ 22 < (s.size : Int) := by omega
  replace c0 := Lib.hid c0
  replace c2 := Lib.hid c2
  replace cG := Lib.hid cG
  replace cT := Lib.hid cT
  have ha1 : ¬ 0 < (a.size : Int) := by omega
  replace hs0 := Lib.hid hs0
  have h := Below.refl w.heap.size w
  have hA := below_alloc1 w (.cells #[.int .i64 0, .int .i64 0] 24)
  replace h := Below.step h hA
  have hxr := Box.new w 24 #[.int .i64 0, .int .i64 0]
  clear hA
  go_enter Tryd.func51, Tryd.ntmps51
  go_wp2_with fail
  refine (cC.out _).mono ?_
  rintro e w1 ⟨g, c, rfl, hg0, hk0, hk1, hb⟩
  replace h := Below.step h hb
  replace hxr := hxr.kept hb
  clear hb
  have hgr : w.heap.size < g := by have := hg0; simp at this; omega
  clear hg0
  obtain ⟨ahxr, bhxr⟩ := hxr.two
  have lhxr := hxr.lt
  obtain ⟨lhk0, qhk0⟩ := id hk0
  obtain ⟨lhk1, qhk1⟩ := id hk1
  go_wp2_with fail
  refine (c0.out _).mono ?_
  rintro e w2 ⟨rfl, rfl⟩
  go_wp2_with fail
  have hA := below_alloc1 w1 (.cells #[.int .i64 z0, .int .i64 1] 24)
  have hya := Box.new w1 24 #[.int .i64 z0, .int .i64 1]
  replace h := Below.step h hA
  replace hxr := hxr.kept hA
  have hgl : g < w1.heap.size := lhk0
  replace hk0 := hk0.kept hA
  replace hk1 := hk1.kept hA
  clear hA ahxr bhxr lhxr lhk0 qhk0 lhk1 qhk1
  have hrl : w.heap.size < w1.heap.size := Nat.lt_trans hgr hgl
  generalize w1.alloc (.cells #[.int .i64 z0, .int .i64 1] 24) = w3 at *
  generalize w1.heap.size = ga at hya hgl hrl ⊢
  obtain ⟨ahxr, bhxr⟩ := hxr.two
  have lhxr := hxr.lt
  obtain ⟨ahya, bhya⟩ := hya.two
  have lhya := hya.lt
  obtain ⟨lhk0, qhk0⟩ := id hk0
  obtain ⟨lhk1, qhk1⟩ := id hk1
  have fa0 := hya.free 0
  have fa1 := hya.free 1
  go_wp2_with fail
  refine (c2.out _).mono ?_
  rintro e w2 ⟨rfl, rfl⟩
  go_wp2_with fail
  have hya2 : Box (w3.setCell ⟨ga, 1, none⟩ (.int .i64 z2)) ga 24 #[.int .i64 z0, .int .i64 z2] := hya.set 1 (.int .i64 z2)
  have hxr2 : Box (w3.setCell ⟨ga, 1, none⟩ (.int .i64 z2)) w.heap.size 24 #[.int .i64 0, .int .i64 0] := box_apart hxr (by omega) _ _
  have hb2 : Below w.heap.size w (w3.setCell ⟨ga, 1, none⟩ (.int .i64 z2)) := h.setCell (by simp; omega) _
  have hk02 : Cl (w3.setCell ⟨ga, 1, none⟩ (.int .i64 z2)) g 0 _ := Cl.far hk0 (by omega)
  have hk12 : Cl (w3.setCell ⟨ga, 1, none⟩ (.int .i64 z2)) g 1 _ := Cl.far hk1 (by omega)
  clear hya hxr h hk0 hk1 ahxr bhxr lhxr ahya bhya lhya lhk0 qhk0 lhk1 qhk1 fa0 fa1
  have hya := hya2
  have hxr := hxr2
  have h := hb2
  have hk0 := hk02
  have hk1 := hk12
  clear hya2 hxr2 hb2 hk02 hk12
  generalize w3.setCell ⟨ga, 1, none⟩ (.int .i64 z2) = w7 at *
  obtain ⟨ahxr, bhxr⟩ := hxr.two
  have lhxr := hxr.lt
  obtain ⟨ahya, bhya⟩ := hya.two
  have lhya := hya.lt
  obtain ⟨lhk0, qhk0⟩ := id hk0
  obtain ⟨lhk1, qhk1⟩ := id hk1
  go_wp2_with fail
  refine (cG.out _).mono ?_
  rintro e w8 ⟨rfl, hb⟩
  replace h := Below.step h hb
  replace hxr := hxr.kept hb
  replace hya := hya.kept hb
  clear hb ahxr bhxr lhxr ahya bhya lhya lhk0 qhk0 lhk1 qhk1
  obtain ⟨ahxr, bhxr⟩ := hxr.two
  have lhxr := hxr.lt
  obtain ⟨ahya, bhya⟩ := hya.two
  have lhya := hya.lt
  go_wp2_with fail
  refine (cT.out _).mono ?_
  rintro e w9 ⟨rfl, hb⟩
  replace h := Below.step h hb
  replace hxr := hxr.kept hb
  replace hya := hya.kept hb
  clear hb ahxr bhxr lhxr ahya bhya lhya
  obtain ⟨ahxr, bhxr⟩ := hxr.two
  have lhxr := hxr.lt
  obtain ⟨ahya, bhya⟩ := hya.two
  have lhya := hya.lt
  have f0 := hxr.free 0
  have f1 := hxr.free 1
  go_wp2_with fail
  refine bodyPost_ret (v := .tuple #[.agg #[.int .i64 (z0), .int .i64 (z2)], .bool true]) (by simp [results, Tryd.results51, go_sem, ahxr, bhxr]) rfl ⟨rfl, ?_⟩
  exact (h.setCell (by first | (simp; done) | (simp; omega)) _).setCell (by first | (simp; done) | (simp; omega)) _

set_option maxHeartbeats 3000000 in
theorem parseS_pos_bad1 (s : ByteArray) (w : World) (hs : s.size ≤ 1048576) (hl : s.size ≤ 22) (a : ByteArray) (z0 : Int) (hp : splitAll s 47 = [a]) (hs0 : 0 < a.size) (hc : a[0].toNat ≠ 45) (c0 : ∀ w : World, Calls Tryd.prog 64 #[.string a] w fun e w' => e = .returned (.int .i64 z0) ∧ w = w') (cG : ∀ w : World, Calls Tryd.prog 26 #[.agg #[.int .i64 z0, .int .i64 1]] w (GivesB w false)) :
    Calls Tryd.prog 51 #[.string s] w (GivesFB w 0 0 false) := by
  have cC := split1 s a hs hp
  replace cC := Lib.hid cC
  clear hp
  have h22 : ¬ 22 < (s.size : Int) := by omega
  replace c0 := Lib.hid c0
  replace cG := Lib.hid cG
  have e45 : ((a[0].toNat : Int) == 45) = false := by rw [beq_eq_false_iff_ne]; omega
  have ha1 : 1 ≤ (a.size : Int) := by omega
  clear hc
  have h := Below.refl w.heap.size w
  have hA := below_alloc1 w (.cells #[.int .i64 0, .int .i64 0] 24)
  replace h := Below.step h hA
  have hxr := Box.new w 24 #[.int .i64 0, .int .i64 0]
  clear hA
  go_enter Tryd.func51, Tryd.ntmps51
  go_wp2_with fail
  refine (cC.out _).mono ?_
  rintro e w1 ⟨g, c, rfl, hg0, hk0, hb⟩
  replace h := Below.step h hb
  replace hxr := hxr.kept hb
  clear hb
  have hgr : w.heap.size < g := by have := hg0; simp at this; omega
  clear hg0
  obtain ⟨ahxr, bhxr⟩ := hxr.two
  have lhxr := hxr.lt
  obtain ⟨lhk0, qhk0⟩ := id hk0
  go_wp2_with fail
  refine (c0.out _).mono ?_
  rintro e w2 ⟨rfl, rfl⟩
  go_wp2_with fail
  have hA := below_alloc1 w1 (.cells #[.int .i64 z0, .int .i64 1] 24)
  have hya := Box.new w1 24 #[.int .i64 z0, .int .i64 1]
  replace h := Below.step h hA
  replace hxr := hxr.kept hA
  have hgl : g < w1.heap.size := lhk0
  replace hk0 := hk0.kept hA
  clear hA ahxr bhxr lhxr lhk0 qhk0
  have hrl : w.heap.size < w1.heap.size := Nat.lt_trans hgr hgl
  generalize w1.alloc (.cells #[.int .i64 z0, .int .i64 1] 24) = w3 at *
  generalize w1.heap.size = ga at hya hgl hrl ⊢
  obtain ⟨ahxr, bhxr⟩ := hxr.two
  have lhxr := hxr.lt
  obtain ⟨ahya, bhya⟩ := hya.two
  have lhya := hya.lt
  obtain ⟨lhk0, qhk0⟩ := id hk0
  have fa0 := hya.free 0
  have fa1 := hya.free 1
  go_wp2_with fail
  refine (cG.out _).mono ?_
  rintro e w8 ⟨rfl, hb⟩
  replace h := Below.step h hb
  replace hxr := hxr.kept hb
  replace hya := hya.kept hb
  clear hb ahxr bhxr lhxr ahya bhya lhya lhk0 qhk0 fa0 fa1
  obtain ⟨ahxr, bhxr⟩ := hxr.two
  have lhxr := hxr.lt
  obtain ⟨ahya, bhya⟩ := hya.two
  have lhya := hya.lt
  have f0 := hxr.free 0
  have f1 := hxr.free 1
  go_wp2_with fail
  refine bodyPost_ret (v := .tuple #[.agg #[.int .i64 0, .int .i64 0], .bool false]) (by simp [results, Tryd.results51, go_sem, ahxr, bhxr]) rfl ⟨rfl, ?_⟩
  exact (h.setCell (by first | (simp; done) | (simp; omega)) _).setCell (by first | (simp; done) | (simp; omega)) _

set_option maxHeartbeats 3000000 in
theorem parseS_pos_other1 (s : ByteArray) (w : World) (hs : s.size ≤ 1048576) (hl : s.size ≤ 22) (a T : ByteArray) (z0 : Int) (hp : splitAll s 47 = [a]) (hs0 : 0 < a.size) (hc : a[0].toNat ≠ 45) (c0 : ∀ w : World, Calls Tryd.prog 64 #[.string a] w fun e w' => e = .returned (.int .i64 z0) ∧ w = w') (cG : ∀ w : World, Calls Tryd.prog 26 #[.agg #[.int .i64 z0, .int .i64 1]] w (GivesB w true)) (cT : ∀ w : World, Calls Tryd.prog 29 #[.agg #[.int .i64 z0, .int .i64 1]] w fun e w' => e = .returned (.string T) ∧ Below w.heap.size w w') (hne : T ≠ s) :
    Calls Tryd.prog 51 #[.string s] w (GivesFB w 0 0 false) := by
  have cC := split1 s a hs hp
  replace cC := Lib.hid cC
  clear hp
  have h22 : ¬ 22 < (s.size : Int) := by omega
  replace c0 := Lib.hid c0
  replace cG := Lib.hid cG
  replace cT := Lib.hid cT
  have en : (T.toList == s.toList) = false := by rw [beq_eq_false_iff_ne]; exact fun e => hne (ba_inj e)
  clear hne
  have e45 : ((a[0].toNat : Int) == 45) = false := by rw [beq_eq_false_iff_ne]; omega
  have ha1 : 1 ≤ (a.size : Int) := by omega
  clear hc
  have h := Below.refl w.heap.size w
  have hA := below_alloc1 w (.cells #[.int .i64 0, .int .i64 0] 24)
  replace h := Below.step h hA
  have hxr := Box.new w 24 #[.int .i64 0, .int .i64 0]
  clear hA
  go_enter Tryd.func51, Tryd.ntmps51
  go_wp2_with fail
  refine (cC.out _).mono ?_
  rintro e w1 ⟨g, c, rfl, hg0, hk0, hb⟩
  replace h := Below.step h hb
  replace hxr := hxr.kept hb
  clear hb
  have hgr : w.heap.size < g := by have := hg0; simp at this; omega
  clear hg0
  obtain ⟨ahxr, bhxr⟩ := hxr.two
  have lhxr := hxr.lt
  obtain ⟨lhk0, qhk0⟩ := id hk0
  go_wp2_with fail
  refine (c0.out _).mono ?_
  rintro e w2 ⟨rfl, rfl⟩
  go_wp2_with fail
  have hA := below_alloc1 w1 (.cells #[.int .i64 z0, .int .i64 1] 24)
  have hya := Box.new w1 24 #[.int .i64 z0, .int .i64 1]
  replace h := Below.step h hA
  replace hxr := hxr.kept hA
  have hgl : g < w1.heap.size := lhk0
  replace hk0 := hk0.kept hA
  clear hA ahxr bhxr lhxr lhk0 qhk0
  have hrl : w.heap.size < w1.heap.size := Nat.lt_trans hgr hgl
  generalize w1.alloc (.cells #[.int .i64 z0, .int .i64 1] 24) = w3 at *
  generalize w1.heap.size = ga at hya hgl hrl ⊢
  obtain ⟨ahxr, bhxr⟩ := hxr.two
  have lhxr := hxr.lt
  obtain ⟨ahya, bhya⟩ := hya.two
  have lhya := hya.lt
  obtain ⟨lhk0, qhk0⟩ := id hk0
  have fa0 := hya.free 0
  have fa1 := hya.free 1
  go_wp2_with fail
  refine (cG.out _).mono ?_
  rintro e w8 ⟨rfl, hb⟩
  replace h := Below.step h hb
  replace hxr := hxr.kept hb
  replace hya := hya.kept hb
  clear hb ahxr bhxr lhxr ahya bhya lhya lhk0 qhk0 fa0 fa1
  obtain ⟨ahxr, bhxr⟩ := hxr.two
  have lhxr := hxr.lt
  obtain ⟨ahya, bhya⟩ := hya.two
  have lhya := hya.lt
  go_wp2_with fail
  refine (cT.out _).mono ?_
  rintro e w9 ⟨rfl, hb⟩
  replace h := Below.step h hb
  replace hxr := hxr.kept hb
  replace hya := hya.kept hb
  clear hb ahxr bhxr lhxr ahya bhya lhya
  obtain ⟨ahxr, bhxr⟩ := hxr.two
  have lhxr := hxr.lt
  obtain ⟨ahya, bhya⟩ := hya.two
  have lhya := hya.lt
  have f0 := hxr.free 0
  have f1 := hxr.free 1
  go_wp2_with fail
  refine bodyPost_ret (v := .tuple #[.agg #[.int .i64 0, .int .i64 0], .bool false]) (by simp [results, Tryd.results51, go_sem, ahxr, bhxr]) rfl ⟨rfl, ?_⟩
  exact (h.setCell (by first | (simp; done) | (simp; omega)) _).setCell (by first | (simp; done) | (simp; omega)) _

set_option maxHeartbeats 3000000 in
theorem parseS_pos_good1 (s : ByteArray) (w : World) (hs : s.size ≤ 1048576) (hl : s.size ≤ 22) (a : ByteArray) (z0 : Int) (hp : splitAll s 47 = [a]) (hs0 : 0 < a.size) (hc : a[0].toNat ≠ 45) (c0 : ∀ w : World, Calls Tryd.prog 64 #[.string a] w fun e w' => e = .returned (.int .i64 z0) ∧ w = w') (cG : ∀ w : World, Calls Tryd.prog 26 #[.agg #[.int .i64 z0, .int .i64 1]] w (GivesB w true)) (cT : ∀ w : World, Calls Tryd.prog 29 #[.agg #[.int .i64 z0, .int .i64 1]] w fun e w' => e = .returned (.string s) ∧ Below w.heap.size w w') :
    Calls Tryd.prog 51 #[.string s] w (GivesFB w z0 1 true) := by
  have cC := split1 s a hs hp
  replace cC := Lib.hid cC
  clear hp
  have h22 : ¬ 22 < (s.size : Int) := by omega
  replace c0 := Lib.hid c0
  replace cG := Lib.hid cG
  replace cT := Lib.hid cT
  have e45 : ((a[0].toNat : Int) == 45) = false := by rw [beq_eq_false_iff_ne]; omega
  have ha1 : 1 ≤ (a.size : Int) := by omega
  clear hc
  have h := Below.refl w.heap.size w
  have hA := below_alloc1 w (.cells #[.int .i64 0, .int .i64 0] 24)
  replace h := Below.step h hA
  have hxr := Box.new w 24 #[.int .i64 0, .int .i64 0]
  clear hA
  go_enter Tryd.func51, Tryd.ntmps51
  go_wp2_with fail
  refine (cC.out _).mono ?_
  rintro e w1 ⟨g, c, rfl, hg0, hk0, hb⟩
  replace h := Below.step h hb
  replace hxr := hxr.kept hb
  clear hb
  have hgr : w.heap.size < g := by have := hg0; simp at this; omega
  clear hg0
  obtain ⟨ahxr, bhxr⟩ := hxr.two
  have lhxr := hxr.lt
  obtain ⟨lhk0, qhk0⟩ := id hk0
  go_wp2_with fail
  refine (c0.out _).mono ?_
  rintro e w2 ⟨rfl, rfl⟩
  go_wp2_with fail
  have hA := below_alloc1 w1 (.cells #[.int .i64 z0, .int .i64 1] 24)
  have hya := Box.new w1 24 #[.int .i64 z0, .int .i64 1]
  replace h := Below.step h hA
  replace hxr := hxr.kept hA
  have hgl : g < w1.heap.size := lhk0
  replace hk0 := hk0.kept hA
  clear hA ahxr bhxr lhxr lhk0 qhk0
  have hrl : w.heap.size < w1.heap.size := Nat.lt_trans hgr hgl
  generalize w1.alloc (.cells #[.int .i64 z0, .int .i64 1] 24) = w3 at *
  generalize w1.heap.size = ga at hya hgl hrl ⊢
  obtain ⟨ahxr, bhxr⟩ := hxr.two
  have lhxr := hxr.lt
  obtain ⟨ahya, bhya⟩ := hya.two
  have lhya := hya.lt
  obtain ⟨lhk0, qhk0⟩ := id hk0
  have fa0 := hya.free 0
  have fa1 := hya.free 1
  go_wp2_with fail
  refine (cG.out _).mono ?_
  rintro e w8 ⟨rfl, hb⟩
  replace h := Below.step h hb
  replace hxr := hxr.kept hb
  replace hya := hya.kept hb
  clear hb ahxr bhxr lhxr ahya bhya lhya lhk0 qhk0 fa0 fa1
  obtain ⟨ahxr, bhxr⟩ := hxr.two
  have lhxr := hxr.lt
  obtain ⟨ahya, bhya⟩ := hya.two
  have lhya := hya.lt
  go_wp2_with fail
  refine (cT.out _).mono ?_
  rintro e w9 ⟨rfl, hb⟩
  replace h := Below.step h hb
  replace hxr := hxr.kept hb
  replace hya := hya.kept hb
  clear hb ahxr bhxr lhxr ahya bhya lhya
  obtain ⟨ahxr, bhxr⟩ := hxr.two
  have lhxr := hxr.lt
  obtain ⟨ahya, bhya⟩ := hya.two
  have lhya := hya.lt
  have f0 := hxr.free 0
  have f1 := hxr.free 1
  go_wp2_with fail
  refine bodyPost_ret (v := .tuple #[.agg #[.int .i64 (z0), .int .i64 (1)], .bool true]) (by simp [results, Tryd.results51, go_sem, ahxr, bhxr]) rfl ⟨rfl, ?_⟩
  exact (h.setCell (by first | (simp; done) | (simp; omega)) _).setCell (by first | (simp; done) | (simp; omega)) _

set_option maxHeartbeats 3000000 in
theorem parseS_pos_bad2 (s : ByteArray) (w : World) (hs : s.size ≤ 1048576) (hl : s.size ≤ 22) (a b : ByteArray) (z0 z2 : Int) (hp : splitAll s 47 = [a, b]) (hs0 : 0 < a.size) (hc : a[0].toNat ≠ 45) (c0 : ∀ w : World, Calls Tryd.prog 64 #[.string a] w fun e w' => e = .returned (.int .i64 z0) ∧ w = w') (c2 : ∀ w : World, Calls Tryd.prog 64 #[.string b] w fun e w' => e = .returned (.int .i64 z2) ∧ w = w') (cG : ∀ w : World, Calls Tryd.prog 26 #[.agg #[.int .i64 z0, .int .i64 z2]] w (GivesB w false)) :
    Calls Tryd.prog 51 #[.string s] w (GivesFB w 0 0 false) := by
  have cC := split2 s a b hs hp
  replace cC := Lib.hid cC
  clear hp
  have h22 : ¬ 22 < (s.size : Int) := by omega
  replace c0 := Lib.hid c0
  replace c2 := Lib.hid c2
  replace cG := Lib.hid cG
  have e45 : ((a[0].toNat : Int) == 45) = false := by rw [beq_eq_false_iff_ne]; omega
  have ha1 : 1 ≤ (a.size : Int) := by omega
  clear hc
  have h := Below.refl w.heap.size w
  have hA := below_alloc1 w (.cells #[.int .i64 0, .int .i64 0] 24)
  replace h := Below.step h hA
  have hxr := Box.new w 24 #[.int .i64 0, .int .i64 0]
  clear hA
  go_enter Tryd.func51, Tryd.ntmps51
  go_wp2_with fail
  refine (cC.out _).mono ?_
  rintro e w1 ⟨g, c, rfl, hg0, hk0, hk1, hb⟩
  replace h := Below.step h hb
  replace hxr := hxr.kept hb
  clear hb
  have hgr : w.heap.size < g := by have := hg0; simp at this; omega
  clear hg0
  obtain ⟨ahxr, bhxr⟩ := hxr.two
  have lhxr := hxr.lt
  obtain ⟨lhk0, qhk0⟩ := id hk0
  obtain ⟨lhk1, qhk1⟩ := id hk1
  go_wp2_with fail
  refine (c0.out _).mono ?_
  rintro e w2 ⟨rfl, rfl⟩
  go_wp2_with fail
  have hA := below_alloc1 w1 (.cells #[.int .i64 z0, .int .i64 1] 24)
  have hya := Box.new w1 24 #[.int .i64 z0, .int .i64 1]
  replace h := Below.step h hA
  replace hxr := hxr.kept hA
  have hgl : g < w1.heap.size := lhk0
  replace hk0 := hk0.kept hA
  replace hk1 := hk1.kept hA
  clear hA ahxr bhxr lhxr lhk0 qhk0 lhk1 qhk1
  have hrl : w.heap.size < w1.heap.size := Nat.lt_trans hgr hgl
  generalize w1.alloc (.cells #[.int .i64 z0, .int .i64 1] 24) = w3 at *
  generalize w1.heap.size = ga at hya hgl hrl ⊢
  obtain ⟨ahxr, bhxr⟩ := hxr.two
  have lhxr := hxr.lt
  obtain ⟨ahya, bhya⟩ := hya.two
  have lhya := hya.lt
  obtain ⟨lhk0, qhk0⟩ := id hk0
  obtain ⟨lhk1, qhk1⟩ := id hk1
  have fa0 := hya.free 0
  have fa1 := hya.free 1
  go_wp2_with fail
  refine (c2.out _).mono ?_
  rintro e w2 ⟨rfl, rfl⟩
  go_wp2_with fail
  have hya2 : Box (w3.setCell ⟨ga, 1, none⟩ (.int .i64 z2)) ga 24 #[.int .i64 z0, .int .i64 z2] := hya.set 1 (.int .i64 z2)
  have hxr2 : Box (w3.setCell ⟨ga, 1, none⟩ (.int .i64 z2)) w.heap.size 24 #[.int .i64 0, .int .i64 0] := box_apart hxr (by omega) _ _
  have hb2 : Below w.heap.size w (w3.setCell ⟨ga, 1, none⟩ (.int .i64 z2)) := h.setCell (by simp; omega) _
  have hk02 : Cl (w3.setCell ⟨ga, 1, none⟩ (.int .i64 z2)) g 0 _ := Cl.far hk0 (by omega)
  have hk12 : Cl (w3.setCell ⟨ga, 1, none⟩ (.int .i64 z2)) g 1 _ := Cl.far hk1 (by omega)
  clear hya hxr h hk0 hk1 ahxr bhxr lhxr ahya bhya lhya lhk0 qhk0 lhk1 qhk1 fa0 fa1
  have hya := hya2
  have hxr := hxr2
  have h := hb2
  have hk0 := hk02
  have hk1 := hk12
  clear hya2 hxr2 hb2 hk02 hk12
  generalize w3.setCell ⟨ga, 1, none⟩ (.int .i64 z2) = w7 at *
  obtain ⟨ahxr, bhxr⟩ := hxr.two
  have lhxr := hxr.lt
  obtain ⟨ahya, bhya⟩ := hya.two
  have lhya := hya.lt
  obtain ⟨lhk0, qhk0⟩ := id hk0
  obtain ⟨lhk1, qhk1⟩ := id hk1
  go_wp2_with fail
  refine (cG.out _).mono ?_
  rintro e w8 ⟨rfl, hb⟩
  replace h := Below.step h hb
  replace hxr := hxr.kept hb
  replace hya := hya.kept hb
  clear hb ahxr bhxr lhxr ahya bhya lhya lhk0 qhk0 lhk1 qhk1
  obtain ⟨ahxr, bhxr⟩ := hxr.two
  have lhxr := hxr.lt
  obtain ⟨ahya, bhya⟩ := hya.two
  have lhya := hya.lt
  have f0 := hxr.free 0
  have f1 := hxr.free 1
  go_wp2_with fail
  refine bodyPost_ret (v := .tuple #[.agg #[.int .i64 0, .int .i64 0], .bool false]) (by simp [results, Tryd.results51, go_sem, ahxr, bhxr]) rfl ⟨rfl, ?_⟩
  exact (h.setCell (by first | (simp; done) | (simp; omega)) _).setCell (by first | (simp; done) | (simp; omega)) _

set_option maxHeartbeats 3000000 in
theorem parseS_pos_other2 (s : ByteArray) (w : World) (hs : s.size ≤ 1048576) (hl : s.size ≤ 22) (a b T : ByteArray) (z0 z2 : Int) (hp : splitAll s 47 = [a, b]) (hs0 : 0 < a.size) (hc : a[0].toNat ≠ 45) (c0 : ∀ w : World, Calls Tryd.prog 64 #[.string a] w fun e w' => e = .returned (.int .i64 z0) ∧ w = w') (c2 : ∀ w : World, Calls Tryd.prog 64 #[.string b] w fun e w' => e = .returned (.int .i64 z2) ∧ w = w') (cG : ∀ w : World, Calls Tryd.prog 26 #[.agg #[.int .i64 z0, .int .i64 z2]] w (GivesB w true)) (cT : ∀ w : World, Calls Tryd.prog 29 #[.agg #[.int .i64 z0, .int .i64 z2]] w fun e w' => e = .returned (.string T) ∧ Below w.heap.size w w') (hne : T ≠ s) :
    Calls Tryd.prog 51 #[.string s] w (GivesFB w 0 0 false) := by
  have cC := split2 s a b hs hp
  replace cC := Lib.hid cC
  clear hp
  have h22 : ¬ 22 < (s.size : Int) := by omega
  replace c0 := Lib.hid c0
  replace c2 := Lib.hid c2
  replace cG := Lib.hid cG
  replace cT := Lib.hid cT
  have en : (T.toList == s.toList) = false := by rw [beq_eq_false_iff_ne]; exact fun e => hne (ba_inj e)
  clear hne
  have e45 : ((a[0].toNat : Int) == 45) = false := by rw [beq_eq_false_iff_ne]; omega
  have ha1 : 1 ≤ (a.size : Int) := by omega
  clear hc
  have h := Below.refl w.heap.size w
  have hA := below_alloc1 w (.cells #[.int .i64 0, .int .i64 0] 24)
  replace h := Below.step h hA
  have hxr := Box.new w 24 #[.int .i64 0, .int .i64 0]
  clear hA
  go_enter Tryd.func51, Tryd.ntmps51
  go_wp2_with fail
  refine (cC.out _).mono ?_
  rintro e w1 ⟨g, c, rfl, hg0, hk0, hk1, hb⟩
  replace h := Below.step h hb
  replace hxr := hxr.kept hb
  clear hb
  have hgr : w.heap.size < g := by have := hg0; simp at this; omega
  clear hg0
  obtain ⟨ahxr, bhxr⟩ := hxr.two
  have lhxr := hxr.lt
  obtain ⟨lhk0, qhk0⟩ := id hk0
  obtain ⟨lhk1, qhk1⟩ := id hk1
  go_wp2_with fail
  refine (c0.out _).mono ?_
  rintro e w2 ⟨rfl, rfl⟩
  go_wp2_with fail
  have hA := below_alloc1 w1 (.cells #[.int .i64 z0, .int .i64 1] 24)
  have hya := Box.new w1 24 #[.int .i64 z0, .int .i64 1]
  replace h := Below.step h hA
  replace hxr := hxr.kept hA
  have hgl : g < w1.heap.size := lhk0
  replace hk0 := hk0.kept hA
  replace hk1 := hk1.kept hA
  clear hA ahxr bhxr lhxr lhk0 qhk0 lhk1 qhk1
  have hrl : w.heap.size < w1.heap.size := Nat.lt_trans hgr hgl
  generalize w1.alloc (.cells #[.int .i64 z0, .int .i64 1] 24) = w3 at *
  generalize w1.heap.size = ga at hya hgl hrl ⊢
  obtain ⟨ahxr, bhxr⟩ := hxr.two
  have lhxr := hxr.lt
  obtain ⟨ahya, bhya⟩ := hya.two
  have lhya := hya.lt
  obtain ⟨lhk0, qhk0⟩ := id hk0
  obtain ⟨lhk1, qhk1⟩ := id hk1
  have fa0 := hya.free 0
  have fa1 := hya.free 1
  go_wp2_with fail
  refine (c2.out _).mono ?_
  rintro e w2 ⟨rfl, rfl⟩
  go_wp2_with fail
  have hya2 : Box (w3.setCell ⟨ga, 1, none⟩ (.int .i64 z2)) ga 24 #[.int .i64 z0, .int .i64 z2] := hya.set 1 (.int .i64 z2)
  have hxr2 : Box (w3.setCell ⟨ga, 1, none⟩ (.int .i64 z2)) w.heap.size 24 #[.int .i64 0, .int .i64 0] := box_apart hxr (by omega) _ _
  have hb2 : Below w.heap.size w (w3.setCell ⟨ga, 1, none⟩ (.int .i64 z2)) := h.setCell (by simp; omega) _
  have hk02 : Cl (w3.setCell ⟨ga, 1, none⟩ (.int .i64 z2)) g 0 _ := Cl.far hk0 (by omega)
  have hk12 : Cl (w3.setCell ⟨ga, 1, none⟩ (.int .i64 z2)) g 1 _ := Cl.far hk1 (by omega)
  clear hya hxr h hk0 hk1 ahxr bhxr lhxr ahya bhya lhya lhk0 qhk0 lhk1 qhk1 fa0 fa1
  have hya := hya2
  have hxr := hxr2
  have h := hb2
  have hk0 := hk02
  have hk1 := hk12
  clear hya2 hxr2 hb2 hk02 hk12
  generalize w3.setCell ⟨ga, 1, none⟩ (.int .i64 z2) = w7 at *
  obtain ⟨ahxr, bhxr⟩ := hxr.two
  have lhxr := hxr.lt
  obtain ⟨ahya, bhya⟩ := hya.two
  have lhya := hya.lt
  obtain ⟨lhk0, qhk0⟩ := id hk0
  obtain ⟨lhk1, qhk1⟩ := id hk1
  go_wp2_with fail
  refine (cG.out _).mono ?_
  rintro e w8 ⟨rfl, hb⟩
  replace h := Below.step h hb
  replace hxr := hxr.kept hb
  replace hya := hya.kept hb
  clear hb ahxr bhxr lhxr ahya bhya lhya lhk0 qhk0 lhk1 qhk1
  obtain ⟨ahxr, bhxr⟩ := hxr.two
  have lhxr := hxr.lt
  obtain ⟨ahya, bhya⟩ := hya.two
  have lhya := hya.lt
  go_wp2_with fail
  refine (cT.out _).mono ?_
  rintro e w9 ⟨rfl, hb⟩
  replace h := Below.step h hb
  replace hxr := hxr.kept hb
  replace hya := hya.kept hb
  clear hb ahxr bhxr lhxr ahya bhya lhya
  obtain ⟨ahxr, bhxr⟩ := hxr.two
  have lhxr := hxr.lt
  obtain ⟨ahya, bhya⟩ := hya.two
  have lhya := hya.lt
  have f0 := hxr.free 0
  have f1 := hxr.free 1
  go_wp2_with fail
  refine bodyPost_ret (v := .tuple #[.agg #[.int .i64 0, .int .i64 0], .bool false]) (by simp [results, Tryd.results51, go_sem, ahxr, bhxr]) rfl ⟨rfl, ?_⟩
  exact (h.setCell (by first | (simp; done) | (simp; omega)) _).setCell (by first | (simp; done) | (simp; omega)) _

set_option maxHeartbeats 3000000 in
theorem parseS_pos_good2 (s : ByteArray) (w : World) (hs : s.size ≤ 1048576) (hl : s.size ≤ 22) (a b : ByteArray) (z0 z2 : Int) (hp : splitAll s 47 = [a, b]) (hs0 : 0 < a.size) (hc : a[0].toNat ≠ 45) (c0 : ∀ w : World, Calls Tryd.prog 64 #[.string a] w fun e w' => e = .returned (.int .i64 z0) ∧ w = w') (c2 : ∀ w : World, Calls Tryd.prog 64 #[.string b] w fun e w' => e = .returned (.int .i64 z2) ∧ w = w') (cG : ∀ w : World, Calls Tryd.prog 26 #[.agg #[.int .i64 z0, .int .i64 z2]] w (GivesB w true)) (cT : ∀ w : World, Calls Tryd.prog 29 #[.agg #[.int .i64 z0, .int .i64 z2]] w fun e w' => e = .returned (.string s) ∧ Below w.heap.size w w') :
    Calls Tryd.prog 51 #[.string s] w (GivesFB w z0 z2 true) := by
  have cC := split2 s a b hs hp
  replace cC := Lib.hid cC
  clear hp
  have h22 : ¬ 22 < (s.size : Int) := by omega
  replace c0 := Lib.hid c0
  replace c2 := Lib.hid c2
  replace cG := Lib.hid cG
  replace cT := Lib.hid cT
  have e45 : ((a[0].toNat : Int) == 45) = false := by rw [beq_eq_false_iff_ne]; omega
  have ha1 : 1 ≤ (a.size : Int) := by omega
  clear hc
  have h := Below.refl w.heap.size w
  have hA := below_alloc1 w (.cells #[.int .i64 0, .int .i64 0] 24)
  replace h := Below.step h hA
  have hxr := Box.new w 24 #[.int .i64 0, .int .i64 0]
  clear hA
  go_enter Tryd.func51, Tryd.ntmps51
  go_wp2_with fail
  refine (cC.out _).mono ?_
  rintro e w1 ⟨g, c, rfl, hg0, hk0, hk1, hb⟩
  replace h := Below.step h hb
  replace hxr := hxr.kept hb
  clear hb
  have hgr : w.heap.size < g := by have := hg0; simp at this; omega
  clear hg0
  obtain ⟨ahxr, bhxr⟩ := hxr.two
  have lhxr := hxr.lt
  obtain ⟨lhk0, qhk0⟩ := id hk0
  obtain ⟨lhk1, qhk1⟩ := id hk1
  go_wp2_with fail
  refine (c0.out _).mono ?_
  rintro e w2 ⟨rfl, rfl⟩
  go_wp2_with fail
  have hA := below_alloc1 w1 (.cells #[.int .i64 z0, .int .i64 1] 24)
  have hya := Box.new w1 24 #[.int .i64 z0, .int .i64 1]
  replace h := Below.step h hA
  replace hxr := hxr.kept hA
  have hgl : g < w1.heap.size := lhk0
  replace hk0 := hk0.kept hA
  replace hk1 := hk1.kept hA
  clear hA ahxr bhxr lhxr lhk0 qhk0 lhk1 qhk1
  have hrl : w.heap.size < w1.heap.size := Nat.lt_trans hgr hgl
  generalize w1.alloc (.cells #[.int .i64 z0, .int .i64 1] 24) = w3 at *
  generalize w1.heap.size = ga at hya hgl hrl ⊢
  obtain ⟨ahxr, bhxr⟩ := hxr.two
  have lhxr := hxr.lt
  obtain ⟨ahya, bhya⟩ := hya.two
  have lhya := hya.lt
  obtain ⟨lhk0, qhk0⟩ := id hk0
  obtain ⟨lhk1, qhk1⟩ := id hk1
  have fa0 := hya.free 0
  have fa1 := hya.free 1
  go_wp2_with fail
  refine (c2.out _).mono ?_
  rintro e w2 ⟨rfl, rfl⟩
  go_wp2_with fail
  have hya2 : Box (w3.setCell ⟨ga, 1, none⟩ (.int .i64 z2)) ga 24 #[.int .i64 z0, .int .i64 z2] := hya.set 1 (.int .i64 z2)
  have hxr2 : Box (w3.setCell ⟨ga, 1, none⟩ (.int .i64 z2)) w.heap.size 24 #[.int .i64 0, .int .i64 0] := box_apart hxr (by omega) _ _
  have hb2 : Below w.heap.size w (w3.setCell ⟨ga, 1, none⟩ (.int .i64 z2)) := h.setCell (by simp; omega) _
  have hk02 : Cl (w3.setCell ⟨ga, 1, none⟩ (.int .i64 z2)) g 0 _ := Cl.far hk0 (by omega)
  have hk12 : Cl (w3.setCell ⟨ga, 1, none⟩ (.int .i64 z2)) g 1 _ := Cl.far hk1 (by omega)
  clear hya hxr h hk0 hk1 ahxr bhxr lhxr ahya bhya lhya lhk0 qhk0 lhk1 qhk1 fa0 fa1
  have hya := hya2
  have hxr := hxr2
  have h := hb2
  have hk0 := hk02
  have hk1 := hk12
  clear hya2 hxr2 hb2 hk02 hk12
  generalize w3.setCell ⟨ga, 1, none⟩ (.int .i64 z2) = w7 at *
  obtain ⟨ahxr, bhxr⟩ := hxr.two
  have lhxr := hxr.lt
  obtain ⟨ahya, bhya⟩ := hya.two
  have lhya := hya.lt
  obtain ⟨lhk0, qhk0⟩ := id hk0
  obtain ⟨lhk1, qhk1⟩ := id hk1
  go_wp2_with fail
  refine (cG.out _).mono ?_
  rintro e w8 ⟨rfl, hb⟩
  replace h := Below.step h hb
  replace hxr := hxr.kept hb
  replace hya := hya.kept hb
  clear hb ahxr bhxr lhxr ahya bhya lhya lhk0 qhk0 lhk1 qhk1
  obtain ⟨ahxr, bhxr⟩ := hxr.two
  have lhxr := hxr.lt
  obtain ⟨ahya, bhya⟩ := hya.two
  have lhya := hya.lt
  go_wp2_with fail
  refine (cT.out _).mono ?_
  rintro e w9 ⟨rfl, hb⟩
  replace h := Below.step h hb
  replace hxr := hxr.kept hb
  replace hya := hya.kept hb
  clear hb ahxr bhxr lhxr ahya bhya lhya
  obtain ⟨ahxr, bhxr⟩ := hxr.two
  have lhxr := hxr.lt
  obtain ⟨ahya, bhya⟩ := hya.two
  have lhya := hya.lt
  have f0 := hxr.free 0
  have f1 := hxr.free 1
  go_wp2_with fail
  refine bodyPost_ret (v := .tuple #[.agg #[.int .i64 (z0), .int .i64 (z2)], .bool true]) (by simp [results, Tryd.results51, go_sem, ahxr, bhxr]) rfl ⟨rfl, ?_⟩
  exact (h.setCell (by first | (simp; done) | (simp; omega)) _).setCell (by first | (simp; done) | (simp; omega)) _

end Go.Proofs.YtchglkcfolannabDoor
