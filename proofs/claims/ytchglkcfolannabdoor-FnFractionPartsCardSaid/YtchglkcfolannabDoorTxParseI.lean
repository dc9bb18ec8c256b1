/- ParseFraction of the program (written by wip/gen/txparse.py). -/
import Derived.Test.YtchglkcfolannabDoorTxCut
namespace Go.Proofs.YtchglkcfolannabDoor
open Go.RowKit Go.Joins

/-- What the library's Cut wants beside the text: its variable holds some int. -/
def Mx (w : World) : Prop := ∃ m : Int, w.cell? ⟨1, 0, none⟩ = some (.int .i64 m)
theorem Mx.kept {w w' : World} (h : Mx w) (hb : Below w.heap.size w w') : Mx w' := by
  obtain ⟨m, hm⟩ := h
  exact ⟨m, (hb.cell (p := ⟨_, 0, none⟩) (World.block_lt_of_cell? w _ hm)).trans hm⟩
def EnvC (w : World) : Prop := Env w ∧ Mx w
theorem EnvC.kept {w w' : World} (h : EnvC w) (hb : Below w.heap.size w w') : EnvC w' := ⟨h.1.kept hb, h.2.kept hb⟩

theorem cut_any (s : ByteArray) (hs : s.size ≤ 1048576) (w : World) (hm : Mx w) :
    Calls Tryd.prog 49 #[.string s, .string ⟨#[47]⟩] w fun e w' => e = .returned (.tuple #[.string ⟨(Lib.cut s.data.toList [47]).1.toArray⟩, .string ⟨(Lib.cut s.data.toList [47]).2.1.toArray⟩, .bool (Lib.cut s.data.toList [47]).2.2]) ∧ Below w.heap.size w w' := by
  obtain ⟨m, hm⟩ := hm
  exact (Tryd.strings_Cut s ⟨#[47]⟩ m w (by omega) hm).mono fun e w' ⟨he, n, hw⟩ => ⟨he, by rw [hw]; exact Below.drewN' (Below.refl _ _) n⟩

theorem ba_injI {a b : ByteArray} (h : a.toList = b.toList) : a = b := by
  rw [ByteArray.toList_eq, ByteArray.toList_eq] at h
  exact ByteArray.ext (Array.toList_inj.1 h)
theorem box_apartI {w : World} {g g' : Nat} {t : TypeId} {cs : Array Value} (h : Box w g t cs) (hne : g ≠ g') (i : Nat) (u : Value) : Box (w.setCell ⟨g', i, none⟩ u) g t cs := by
  unfold Box at h ⊢
  rw [← h]
  exact Below.heap_setCell w ⟨g', i, none⟩ u g hne

set_option maxHeartbeats 3000000 in
theorem parseI_bad1 (s : ByteArray) (w : World) (hs : s.size ≤ 1048576) (hE : EnvC w) (x y T : ByteArray) (P : Int) (hx : Lib.cut s.data.toList [47] = (x.data.toList, y.data.toList, false)) (c1 : ∀ w : World, Calls Tryd.prog 50 #[.string x] w fun e w' => e = .returned (.int .i64 P) ∧ Below w.heap.size w w') (cT : ∀ w : World, Env w → Calls Tryd.prog 7 #[.agg #[.int .i64 P, .int .i64 1]] w (GivesSB w T false)) :
    Calls Tryd.prog 18 #[.string s] w (GivesFB w 0 0 false) := by
  have cC := cut_any s hs
  rw [hx] at cC
  replace cC := Lib.hid cC
  replace c1 := Lib.hid c1
  replace cT := Lib.hid cT
  clear hx
  have h := Below.refl w.heap.size w
  have hA := below_alloc1 w (.cells #[.int .i64 0, .int .i64 0] 24)
  replace h := Below.step h hA
  have hxr := Box.new w 24 #[.int .i64 0, .int .i64 0]
  clear hA
  go_enter Tryd.func18, Tryd.ntmps18
  go_wp2_with fail
  refine (cC.out _ (by exact (hE.kept h).2)).mono ?_
  rintro e w1 ⟨rfl, hb⟩
  replace h := Below.step h hb
  replace hxr := hxr.kept hb
  clear hb
  obtain ⟨ahxr, bhxr⟩ := hxr.two
  have lhxr := hxr.lt
  go_wp2_with fail
  refine (c1.out _).mono ?_
  rintro e w2 ⟨rfl, hb⟩
  replace h := Below.step h hb
  replace hxr := hxr.kept hb
  clear hb ahxr bhxr lhxr
  obtain ⟨ahxr, bhxr⟩ := hxr.two
  have lhxr := hxr.lt
  go_wp2_with fail
  have hA := below_alloc1 w2 (.cells #[.int .i64 P, .int .i64 1] 24)
  have hya := Box.new w2 24 #[.int .i64 P, .int .i64 1]
  replace h := Below.step h hA
  replace hxr := hxr.kept hA
  have hya0 : w.heap.size < w2.heap.size := lhxr
  clear hA ahxr bhxr lhxr
  generalize w2.alloc (.cells #[.int .i64 P, .int .i64 1] 24) = w3 at *
  generalize w2.heap.size = ga at hya hya0 ⊢
  refine (cT.out _ (by exact (hE.kept h).1)).mono ?_
  rintro e w6 ⟨rfl, hb⟩
  replace h := Below.step h hb
  replace hxr := hxr.kept hb
  replace hya := hya.kept hb
  clear hb
  obtain ⟨ahxr, bhxr⟩ := hxr.two
  have lhxr := hxr.lt
  obtain ⟨ahya, bhya⟩ := hya.two
  have lhya := hya.lt
  have f0 := hxr.free 0
  have f1 := hxr.free 1
  go_wp2_with fail
  refine bodyPost_ret (v := .tuple #[.agg #[.int .i64 (0), .int .i64 (0)], .bool false]) (by simp [results, Tryd.results18, go_sem, ahxr, bhxr]) rfl ⟨rfl, ?_⟩
  exact (h.setCell (by first | (simp; done) | (simp; omega)) _).setCell (by first | (simp; done) | (simp; omega)) _

set_option maxHeartbeats 3000000 in
theorem parseI_other1 (s : ByteArray) (w : World) (hs : s.size ≤ 1048576) (hE : EnvC w) (x y T : ByteArray) (P : Int) (hx : Lib.cut s.data.toList [47] = (x.data.toList, y.data.toList, false)) (c1 : ∀ w : World, Calls Tryd.prog 50 #[.string x] w fun e w' => e = .returned (.int .i64 P) ∧ Below w.heap.size w w') (cT : ∀ w : World, Env w → Calls Tryd.prog 7 #[.agg #[.int .i64 P, .int .i64 1]] w (GivesSB w T true)) (hne : T ≠ s) :
    Calls Tryd.prog 18 #[.string s] w (GivesFB w 0 0 false) := by
  have cC := cut_any s hs
  rw [hx] at cC
  replace cC := Lib.hid cC
  replace c1 := Lib.hid c1
  replace cT := Lib.hid cT
  clear hx
  have en : (T.toList == s.toList) = false := by rw [beq_eq_false_iff_ne]; exact fun e => hne (ba_injI e)
  clear hne
  have h := Below.refl w.heap.size w
  have hA := below_alloc1 w (.cells #[.int .i64 0, .int .i64 0] 24)
  replace h := Below.step h hA
  have hxr := Box.new w 24 #[.int .i64 0, .int .i64 0]
  clear hA
  go_enter Tryd.func18, Tryd.ntmps18
  go_wp2_with fail
  refine (cC.out _ (by exact (hE.kept h).2)).mono ?_
  rintro e w1 ⟨rfl, hb⟩
  replace h := Below.step h hb
  replace hxr := hxr.kept hb
  clear hb
  obtain ⟨ahxr, bhxr⟩ := hxr.two
  have lhxr := hxr.lt
  go_wp2_with fail
  refine (c1.out _).mono ?_
  rintro e w2 ⟨rfl, hb⟩
  replace h := Below.step h hb
  replace hxr := hxr.kept hb
  clear hb ahxr bhxr lhxr
  obtain ⟨ahxr, bhxr⟩ := hxr.two
  have lhxr := hxr.lt
  go_wp2_with fail
  have hA := below_alloc1 w2 (.cells #[.int .i64 P, .int .i64 1] 24)
  have hya := Box.new w2 24 #[.int .i64 P, .int .i64 1]
  replace h := Below.step h hA
  replace hxr := hxr.kept hA
  have hya0 : w.heap.size < w2.heap.size := lhxr
  clear hA ahxr bhxr lhxr
  generalize w2.alloc (.cells #[.int .i64 P, .int .i64 1] 24) = w3 at *
  generalize w2.heap.size = ga at hya hya0 ⊢
  refine (cT.out _ (by exact (hE.kept h).1)).mono ?_
  rintro e w6 ⟨rfl, hb⟩
  replace h := Below.step h hb
  replace hxr := hxr.kept hb
  replace hya := hya.kept hb
  clear hb
  obtain ⟨ahxr, bhxr⟩ := hxr.two
  have lhxr := hxr.lt
  obtain ⟨ahya, bhya⟩ := hya.two
  have lhya := hya.lt
  have f0 := hxr.free 0
  have f1 := hxr.free 1
  go_wp2_with fail
  refine bodyPost_ret (v := .tuple #[.agg #[.int .i64 (0), .int .i64 (0)], .bool false]) (by simp [results, Tryd.results18, go_sem, ahxr, bhxr]) rfl ⟨rfl, ?_⟩
  exact (h.setCell (by first | (simp; done) | (simp; omega)) _).setCell (by first | (simp; done) | (simp; omega)) _

set_option maxHeartbeats 3000000 in
theorem parseI_good1 (s : ByteArray) (w : World) (hs : s.size ≤ 1048576) (hE : EnvC w) (x y : ByteArray) (P : Int) (hx : Lib.cut s.data.toList [47] = (x.data.toList, y.data.toList, false)) (c1 : ∀ w : World, Calls Tryd.prog 50 #[.string x] w fun e w' => e = .returned (.int .i64 P) ∧ Below w.heap.size w w') (cT : ∀ w : World, Env w → Calls Tryd.prog 7 #[.agg #[.int .i64 P, .int .i64 1]] w (GivesSB w s true)) :
    Calls Tryd.prog 18 #[.string s] w (GivesFB w P 1 true) := by
  have cC := cut_any s hs
  rw [hx] at cC
  replace cC := Lib.hid cC
  replace c1 := Lib.hid c1
  replace cT := Lib.hid cT
  clear hx
  have h := Below.refl w.heap.size w
  have hA := below_alloc1 w (.cells #[.int .i64 0, .int .i64 0] 24)
  replace h := Below.step h hA
  have hxr := Box.new w 24 #[.int .i64 0, .int .i64 0]
  clear hA
  go_enter Tryd.func18, Tryd.ntmps18
  go_wp2_with fail
  refine (cC.out _ (by exact (hE.kept h).2)).mono ?_
  rintro e w1 ⟨rfl, hb⟩
  replace h := Below.step h hb
  replace hxr := hxr.kept hb
  clear hb
  obtain ⟨ahxr, bhxr⟩ := hxr.two
  have lhxr := hxr.lt
  go_wp2_with fail
  refine (c1.out _).mono ?_
  rintro e w2 ⟨rfl, hb⟩
  replace h := Below.step h hb
  replace hxr := hxr.kept hb
  clear hb ahxr bhxr lhxr
  obtain ⟨ahxr, bhxr⟩ := hxr.two
  have lhxr := hxr.lt
  go_wp2_with fail
  have hA := below_alloc1 w2 (.cells #[.int .i64 P, .int .i64 1] 24)
  have hya := Box.new w2 24 #[.int .i64 P, .int .i64 1]
  replace h := Below.step h hA
  replace hxr := hxr.kept hA
  have hya0 : w.heap.size < w2.heap.size := lhxr
  clear hA ahxr bhxr lhxr
  generalize w2.alloc (.cells #[.int .i64 P, .int .i64 1] 24) = w3 at *
  generalize w2.heap.size = ga at hya hya0 ⊢
  refine (cT.out _ (by exact (hE.kept h).1)).mono ?_
  rintro e w6 ⟨rfl, hb⟩
  replace h := Below.step h hb
  replace hxr := hxr.kept hb
  replace hya := hya.kept hb
  clear hb
  obtain ⟨ahxr, bhxr⟩ := hxr.two
  have lhxr := hxr.lt
  obtain ⟨ahya, bhya⟩ := hya.two
  have lhya := hya.lt
  have f0 := hxr.free 0
  have f1 := hxr.free 1
  go_wp2_with fail
  refine bodyPost_ret (v := .tuple #[.agg #[.int .i64 (P), .int .i64 (1)], .bool true]) (by simp [results, Tryd.results18, go_sem, ahxr, bhxr]) rfl ⟨rfl, ?_⟩
  exact (h.setCell (by first | (simp; done) | (simp; omega)) _).setCell (by first | (simp; done) | (simp; omega)) _

set_option maxHeartbeats 3000000 in
theorem parseI_bad2 (s : ByteArray) (w : World) (hs : s.size ≤ 1048576) (hE : EnvC w) (x y T : ByteArray) (P Q : Int) (hx : Lib.cut s.data.toList [47] = (x.data.toList, y.data.toList, true)) (c1 : ∀ w : World, Calls Tryd.prog 50 #[.string x] w fun e w' => e = .returned (.int .i64 P) ∧ Below w.heap.size w w') (c2 : ∀ w : World, Calls Tryd.prog 50 #[.string y] w fun e w' => e = .returned (.int .i64 Q) ∧ Below w.heap.size w w') (cT : ∀ w : World, Env w → Calls Tryd.prog 7 #[.agg #[.int .i64 P, .int .i64 Q]] w (GivesSB w T false)) :
    Calls Tryd.prog 18 #[.string s] w (GivesFB w 0 0 false) := by
  have cC := cut_any s hs
  rw [hx] at cC
  replace cC := Lib.hid cC
  replace c1 := Lib.hid c1
  replace cT := Lib.hid cT
  clear hx
  replace c2 := Lib.hid c2
  have h := Below.refl w.heap.size w
  have hA := below_alloc1 w (.cells #[.int .i64 0, .int .i64 0] 24)
  replace h := Below.step h hA
  have hxr := Box.new w 24 #[.int .i64 0, .int .i64 0]
  clear hA
  go_enter Tryd.func18, Tryd.ntmps18
  go_wp2_with fail
  refine (cC.out _ (by exact (hE.kept h).2)).mono ?_
  rintro e w1 ⟨rfl, hb⟩
  replace h := Below.step h hb
  replace hxr := hxr.kept hb
  clear hb
  obtain ⟨ahxr, bhxr⟩ := hxr.two
  have lhxr := hxr.lt
  go_wp2_with fail
  refine (c1.out _).mono ?_
  rintro e w2 ⟨rfl, hb⟩
  replace h := Below.step h hb
  replace hxr := hxr.kept hb
  clear hb ahxr bhxr lhxr
  obtain ⟨ahxr, bhxr⟩ := hxr.two
  have lhxr := hxr.lt
  go_wp2_with fail
  have hA := below_alloc1 w2 (.cells #[.int .i64 P, .int .i64 1] 24)
  have hya := Box.new w2 24 #[.int .i64 P, .int .i64 1]
  replace h := Below.step h hA
  replace hxr := hxr.kept hA
  have hya0 : w.heap.size < w2.heap.size := lhxr
  clear hA ahxr bhxr lhxr
  generalize w2.alloc (.cells #[.int .i64 P, .int .i64 1] 24) = w3 at *
  generalize w2.heap.size = ga at hya hya0 ⊢
  refine (c2.out _).mono ?_
  rintro e w4 ⟨rfl, hb⟩
  replace h := Below.step h hb
  replace hxr := hxr.kept hb
  replace hya := hya.kept hb
  clear hb
  obtain ⟨ahxr, bhxr⟩ := hxr.two
  have lhxr := hxr.lt
  obtain ⟨ahya, bhya⟩ := hya.two
  have lhya := hya.lt
  have fa0 := hya.free 1
  go_wp2_with fail
  have hya2 := hya.set 1 (.int .i64 Q)
  have hxr2 : Box (w4.setCell ⟨ga, 1, none⟩ (.int .i64 Q)) w.heap.size 24 #[.int .i64 0, .int .i64 0] := box_apartI hxr (by omega) _ _
  have hb2 : Below w.heap.size w (w4.setCell ⟨ga, 1, none⟩ (.int .i64 Q)) := h.setCell (by simp; omega) _
  clear ahxr bhxr lhxr ahya bhya lhya fa0
  replace hya := hya2
  replace hxr := hxr2
  replace h := hb2
  clear hya2 hxr2 hb2
  have hya : Box (w4.setCell ⟨ga, 1, none⟩ (.int .i64 Q)) ga 24 #[.int .i64 P, .int .i64 Q] := hya
  generalize w4.setCell ⟨ga, 1, none⟩ (.int .i64 Q) = w5 at *
  refine (cT.out _ (by exact (hE.kept h).1)).mono ?_
  rintro e w6 ⟨rfl, hb⟩
  replace h := Below.step h hb
  replace hxr := hxr.kept hb
  replace hya := hya.kept hb
  clear hb
  obtain ⟨ahxr, bhxr⟩ := hxr.two
  have lhxr := hxr.lt
  obtain ⟨ahya, bhya⟩ := hya.two
  have lhya := hya.lt
  have f0 := hxr.free 0
  have f1 := hxr.free 1
  go_wp2_with fail
  refine bodyPost_ret (v := .tuple #[.agg #[.int .i64 (0), .int .i64 (0)], .bool false]) (by simp [results, Tryd.results18, go_sem, ahxr, bhxr]) rfl ⟨rfl, ?_⟩
  exact (h.setCell (by first | (simp; done) | (simp; omega)) _).setCell (by first | (simp; done) | (simp; omega)) _

set_option maxHeartbeats 3000000 in
theorem parseI_other2 (s : ByteArray) (w : World) (hs : s.size ≤ 1048576) (hE : EnvC w) (x y T : ByteArray) (P Q : Int) (hx : Lib.cut s.data.toList [47] = (x.data.toList, y.data.toList, true)) (c1 : ∀ w : World, Calls Tryd.prog 50 #[.string x] w fun e w' => e = .returned (.int .i64 P) ∧ Below w.heap.size w w') (c2 : ∀ w : World, Calls Tryd.prog 50 #[.string y] w fun e w' => e = .returned (.int .i64 Q) ∧ Below w.heap.size w w') (cT : ∀ w : World, Env w → Calls Tryd.prog 7 #[.agg #[.int .i64 P, .int .i64 Q]] w (GivesSB w T true)) (hne : T ≠ s) :
    Calls Tryd.prog 18 #[.string s] w (GivesFB w 0 0 false) := by
  have cC := cut_any s hs
  rw [hx] at cC
  replace cC := Lib.hid cC
  replace c1 := Lib.hid c1
  replace cT := Lib.hid cT
  clear hx
  replace c2 := Lib.hid c2
  have en : (T.toList == s.toList) = false := by rw [beq_eq_false_iff_ne]; exact fun e => hne (ba_injI e)
  clear hne
  have h := Below.refl w.heap.size w
  have hA := below_alloc1 w (.cells #[.int .i64 0, .int .i64 0] 24)
  replace h := Below.step h hA
  have hxr := Box.new w 24 #[.int .i64 0, .int .i64 0]
  clear hA
  go_enter Tryd.func18, Tryd.ntmps18
  go_wp2_with fail
  refine (cC.out _ (by exact (hE.kept h).2)).mono ?_
  rintro e w1 ⟨rfl, hb⟩
  replace h := Below.step h hb
  replace hxr := hxr.kept hb
  clear hb
  obtain ⟨ahxr, bhxr⟩ := hxr.two
  have lhxr := hxr.lt
  go_wp2_with fail
  refine (c1.out _).mono ?_
  rintro e w2 ⟨rfl, hb⟩
  replace h := Below.step h hb
  replace hxr := hxr.kept hb
  clear hb ahxr bhxr lhxr
  obtain ⟨ahxr, bhxr⟩ := hxr.two
  have lhxr := hxr.lt
  go_wp2_with fail
  have hA := below_alloc1 w2 (.cells #[.int .i64 P, .int .i64 1] 24)
  have hya := Box.new w2 24 #[.int .i64 P, .int .i64 1]
  replace h := Below.step h hA
  replace hxr := hxr.kept hA
  have hya0 : w.heap.size < w2.heap.size := lhxr
  clear hA ahxr bhxr lhxr
  generalize w2.alloc (.cells #[.int .i64 P, .int .i64 1] 24) = w3 at *
  generalize w2.heap.size = ga at hya hya0 ⊢
  refine (c2.out _).mono ?_
  rintro e w4 ⟨rfl, hb⟩
  replace h := Below.step h hb
  replace hxr := hxr.kept hb
  replace hya := hya.kept hb
  clear hb
  obtain ⟨ahxr, bhxr⟩ := hxr.two
  have lhxr := hxr.lt
  obtain ⟨ahya, bhya⟩ := hya.two
  have lhya := hya.lt
  have fa0 := hya.free 1
  go_wp2_with fail
  have hya2 := hya.set 1 (.int .i64 Q)
  have hxr2 : Box (w4.setCell ⟨ga, 1, none⟩ (.int .i64 Q)) w.heap.size 24 #[.int .i64 0, .int .i64 0] := box_apartI hxr (by omega) _ _
  have hb2 : Below w.heap.size w (w4.setCell ⟨ga, 1, none⟩ (.int .i64 Q)) := h.setCell (by simp; omega) _
  clear ahxr bhxr lhxr ahya bhya lhya fa0
  replace hya := hya2
  replace hxr := hxr2
  replace h := hb2
  clear hya2 hxr2 hb2
  have hya : Box (w4.setCell ⟨ga, 1, none⟩ (.int .i64 Q)) ga 24 #[.int .i64 P, .int .i64 Q] := hya
  generalize w4.setCell ⟨ga, 1, none⟩ (.int .i64 Q) = w5 at *
  refine (cT.out _ (by exact (hE.kept h).1)).mono ?_
  rintro e w6 ⟨rfl, hb⟩
  replace h := Below.step h hb
  replace hxr := hxr.kept hb
  replace hya := hya.kept hb
  clear hb
  obtain ⟨ahxr, bhxr⟩ := hxr.two
  have lhxr := hxr.lt
  obtain ⟨ahya, bhya⟩ := hya.two
  have lhya := hya.lt
  have f0 := hxr.free 0
  have f1 := hxr.free 1
  go_wp2_with fail
  refine bodyPost_ret (v := .tuple #[.agg #[.int .i64 (0), .int .i64 (0)], .bool false]) (by simp [results, Tryd.results18, go_sem, ahxr, bhxr]) rfl ⟨rfl, ?_⟩
  exact (h.setCell (by first | (simp; done) | (simp; omega)) _).setCell (by first | (simp; done) | (simp; omega)) _

set_option maxHeartbeats 3000000 in
theorem parseI_good2 (s : ByteArray) (w : World) (hs : s.size ≤ 1048576) (hE : EnvC w) (x y : ByteArray) (P Q : Int) (hx : Lib.cut s.data.toList [47] = (x.data.toList, y.data.toList, true)) (c1 : ∀ w : World, Calls Tryd.prog 50 #[.string x] w fun e w' => e = .returned (.int .i64 P) ∧ Below w.heap.size w w') (c2 : ∀ w : World, Calls Tryd.prog 50 #[.string y] w fun e w' => e = .returned (.int .i64 Q) ∧ Below w.heap.size w w') (cT : ∀ w : World, Env w → Calls Tryd.prog 7 #[.agg #[.int .i64 P, .int .i64 Q]] w (GivesSB w s true)) :
    Calls Tryd.prog 18 #[.string s] w (GivesFB w P Q true) := by
  have cC := cut_any s hs
  rw [hx] at cC
  replace cC := Lib.hid cC
  replace c1 := Lib.hid c1
  replace cT := Lib.hid cT
  clear hx
  replace c2 := Lib.hid c2
  have h := Below.refl w.heap.size w
  have hA := below_alloc1 w (.cells #[.int .i64 0, .int .i64 0] 24)
  replace h := Below.step h hA
  have hxr := Box.new w 24 #[.int .i64 0, .int .i64 0]
  clear hA
  go_enter Tryd.func18, Tryd.ntmps18
  go_wp2_with fail
  refine (cC.out _ (by exact (hE.kept h).2)).mono ?_
  rintro e w1 ⟨rfl, hb⟩
  replace h := Below.step h hb
  replace hxr := hxr.kept hb
  clear hb
  obtain ⟨ahxr, bhxr⟩ := hxr.two
  have lhxr := hxr.lt
  go_wp2_with fail
  refine (c1.out _).mono ?_
  rintro e w2 ⟨rfl, hb⟩
  replace h := Below.step h hb
  replace hxr := hxr.kept hb
  clear hb ahxr bhxr lhxr
  obtain ⟨ahxr, bhxr⟩ := hxr.two
  have lhxr := hxr.lt
  go_wp2_with fail
  have hA := below_alloc1 w2 (.cells #[.int .i64 P, .int .i64 1] 24)
  have hya := Box.new w2 24 #[.int .i64 P, .int .i64 1]
  replace h := Below.step h hA
  replace hxr := hxr.kept hA
  have hya0 : w.heap.size < w2.heap.size := lhxr
  clear hA ahxr bhxr lhxr
  generalize w2.alloc (.cells #[.int .i64 P, .int .i64 1] 24) = w3 at *
  generalize w2.heap.size = ga at hya hya0 ⊢
  refine (c2.out _).mono ?_
  rintro e w4 ⟨rfl, hb⟩
  replace h := Below.step h hb
  replace hxr := hxr.kept hb
  replace hya := hya.kept hb
  clear hb
  obtain ⟨ahxr, bhxr⟩ := hxr.two
  have lhxr := hxr.lt
  obtain ⟨ahya, bhya⟩ := hya.two
  have lhya := hya.lt
  have fa0 := hya.free 1
  go_wp2_with fail
  have hya2 := hya.set 1 (.int .i64 Q)
  have hxr2 : Box (w4.setCell ⟨ga, 1, none⟩ (.int .i64 Q)) w.heap.size 24 #[.int .i64 0, .int .i64 0] := box_apartI hxr (by omega) _ _
  have hb2 : Below w.heap.size w (w4.setCell ⟨ga, 1, none⟩ (.int .i64 Q)) := h.setCell (by simp; omega) _
  clear ahxr bhxr lhxr ahya bhya lhya fa0
  replace hya := hya2
  replace hxr := hxr2
  replace h := hb2
  clear hya2 hxr2 hb2
  have hya : Box (w4.setCell ⟨ga, 1, none⟩ (.int .i64 Q)) ga 24 #[.int .i64 P, .int .i64 Q] := hya
  generalize w4.setCell ⟨ga, 1, none⟩ (.int .i64 Q) = w5 at *
  refine (cT.out _ (by exact (hE.kept h).1)).mono ?_
  rintro e w6 ⟨rfl, hb⟩
  replace h := Below.step h hb
  replace hxr := hxr.kept hb
  replace hya := hya.kept hb
  clear hb
  obtain ⟨ahxr, bhxr⟩ := hxr.two
  have lhxr := hxr.lt
  obtain ⟨ahya, bhya⟩ := hya.two
  have lhya := hya.lt
  have f0 := hxr.free 0
  have f1 := hxr.free 1
  go_wp2_with fail
  refine bodyPost_ret (v := .tuple #[.agg #[.int .i64 (P), .int .i64 (Q)], .bool true]) (by simp [results, Tryd.results18, go_sem, ahxr, bhxr]) rfl ⟨rfl, ?_⟩
  exact (h.setCell (by first | (simp; done) | (simp; omega)) _).setCell (by first | (simp; done) | (simp; omega)) _

end Go.Proofs.YtchglkcfolannabDoor
