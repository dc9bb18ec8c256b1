/- ecParse, ParseCurve of the model (written by wip/gen/ecpars.py). -/
import Derived.Test.YtoekhkppjccceaaDoorTxParseS
import Derived.Test.YtoekhkppjccceaaDoorEcSig
import Derived.Deep.RegionHeld3
import Derived.Deep.DeepCutAuto
namespace Go.Proofs.YtoekhkppjccceaaDoor
open Go.RowKit Go.Joins

theorem Box.drew {w : World} {g : Nat} {t : TypeId} {cs : Array Value} (h : Box w g t cs) : Box w.drew g t cs := h

set_option maxHeartbeats 1000000 in
theorem ecParse_long (s : ByteArray) (w : World) (hs : s.size ≤ 1048576) (hl : 12 < s.size) : Calls Tryd.prog 15 #[.string s] w (GivesFB w 0 0 false) := by
  have c0 := fun W => splitN s hs W
  obtain ⟨n, hn'⟩ : ∃ n, n = (splitAll s 32).length := ⟨_, rfl⟩
  rw [← hn'] at c0
  have d1 : 12 < (s.size : Int) := by omega
  clear hn'
  replace c0 := Lib.hid c0
  have h := Below.refl w.heap.size w
  have hA := below_alloc1 w (.cells #[.int .i64 0, .int .i64 0] 26)
  have hxr := Box.new w 26 #[.int .i64 0, .int .i64 0]
  replace h := Below.step h hA
  clear hA
  obtain ⟨kr0, kr1⟩ := hxr.two
  have lr := hxr.lt
  go_enter Tryd.func15, Tryd.ntmps15
  go_wp2_with fail
  refine (c0.out _).mono ?_
  rintro e w1 ⟨A, c, rfl, hb⟩
  replace h := Below.step h hb
  replace hxr := hxr.kept hb
  clear hb kr0 kr1 lr
  obtain ⟨kr0, kr1⟩ := hxr.two
  have lr := hxr.lt
  have fr0 := hxr.free 0
  have fr1 := hxr.free 1
  obtain ⟨sr0, sr1⟩ := ((hxr.set 0 (.int .i64 (0))).set 1 (.int .i64 (0))).two
  go_wp2_with fail
  refine bodyPost_ret (v := .tuple #[.agg #[.int .i64 (0), .int .i64 (0)], .bool false]) (by simp [results, Tryd.results15, go_sem, sr0, sr1]) (by rfl) ⟨by rfl, ?_⟩
  exact below_sets2 h (Nat.le_refl _) _ _


set_option maxHeartbeats 1000000 in
theorem ecParse_parts (s : ByteArray) (w : World) (hs : s.size ≤ 1048576) (hl : s.size ≤ 12) (hn : (splitAll s 32).length ≠ 2) : Calls Tryd.prog 15 #[.string s] w (GivesFB w 0 0 false) := by
  have c0 := fun W => splitN s hs W
  obtain ⟨n, hn'⟩ : ∃ n, n = (splitAll s 32).length := ⟨_, rfl⟩
  rw [← hn'] at c0 hn
  have d1 : ¬ 12 < (s.size : Int) := by omega
  have d2 : ((n : Int) != 2) = true := by rw [bne_iff_ne]; omega
  clear hn'
  replace c0 := Lib.hid c0
  have h := Below.refl w.heap.size w
  have hA := below_alloc1 w (.cells #[.int .i64 0, .int .i64 0] 26)
  have hxr := Box.new w 26 #[.int .i64 0, .int .i64 0]
  replace h := Below.step h hA
  clear hA
  obtain ⟨kr0, kr1⟩ := hxr.two
  have lr := hxr.lt
  go_enter Tryd.func15, Tryd.ntmps15
  go_wp2_with fail
  refine (c0.out _).mono ?_
  rintro e w1 ⟨A, c, rfl, hb⟩
  replace h := Below.step h hb
  replace hxr := hxr.kept hb
  clear hb kr0 kr1 lr
  obtain ⟨kr0, kr1⟩ := hxr.two
  have lr := hxr.lt
  have fr0 := hxr.free 0
  have fr1 := hxr.free 1
  obtain ⟨sr0, sr1⟩ := ((hxr.set 0 (.int .i64 (0))).set 1 (.int .i64 (0))).two
  go_wp2_with fail
  refine bodyPost_ret (v := .tuple #[.agg #[.int .i64 (0), .int .i64 (0)], .bool false]) (by simp [results, Tryd.results15, go_sem, sr0, sr1]) (by rfl) ⟨by rfl, ?_⟩
  exact below_sets2 h (Nat.le_refl _) _ _


set_option maxHeartbeats 3000000 in
theorem ecParse_bad (s a b : ByteArray) (p q : Int) (w : World) (hs : s.size ≤ 1048576) (hl : s.size ≤ 12) (hp : splitAll s 32 = [a, b]) (ca : ∀ w : World, Calls Tryd.prog 24 #[.string a] w fun e w' => e = .returned (.int .i64 p) ∧ w = w') (cb : ∀ w : World, Calls Tryd.prog 24 #[.string b] w fun e w' => e = .returned (.int .i64 q) ∧ w = w') (g : ¬ EcG p q) : Calls Tryd.prog 15 #[.string s] w (GivesFB w 0 0 false) := by
  have c0 := split2 s a b hs hp
  have d1 : ¬ 12 < (s.size : Int) := by omega
  replace c0 := Lib.hid c0
  replace ca := Lib.hid ca
  replace cb := Lib.hid cb
  clear hp
  have h := Below.refl w.heap.size w
  have hA := below_alloc1 w (.cells #[.int .i64 0, .int .i64 0] 26)
  have hxr := Box.new w 26 #[.int .i64 0, .int .i64 0]
  replace h := Below.step h hA
  clear hA
  obtain ⟨kr0, kr1⟩ := hxr.two
  have lr := hxr.lt
  go_enter Tryd.func15, Tryd.ntmps15
  go_wp2_with fail
  refine (c0.out _).mono ?_
  rintro e w1 ⟨g0, c, rfl, hg0, hk0, hk1, hb⟩
  replace h := Below.step h hb
  replace hxr := hxr.kept hb
  clear hb kr0 kr1 lr
  obtain ⟨kr0, kr1⟩ := hxr.two
  have lr := hxr.lt
  obtain ⟨lk0, qk0⟩ := id hk0
  obtain ⟨lk1, qk1⟩ := id hk1
  go_upto_region 4 with fail
  have KM : ∀ (W : World), Below w1.heap.size w1 W → (W.cell? ⟨g0, 0, none⟩ = some (.string a) ∧ W.cell? ⟨g0, 1, none⟩ = some (.string b) ∧ Below w1.heap.size w1 W) := fun W hW => ⟨(hk0.kept hW).2, (hk1.kept hW).2, hW⟩
  have KA : ∀ (W : World) (o : Obj), (W.cell? ⟨g0, 0, none⟩ = some (.string a) ∧ W.cell? ⟨g0, 1, none⟩ = some (.string b) ∧ Below w1.heap.size w1 W) → ((W.alloc o).cell? ⟨g0, 0, none⟩ = some (.string a) ∧ (W.alloc o).cell? ⟨g0, 1, none⟩ = some (.string b) ∧ Below w1.heap.size w1 (W.alloc o)) := fun W o ⟨_, _, hW⟩ => KM _ (Below.step hW (below_alloc1 _ _))
  have KD : ∀ (W : World), (W.cell? ⟨g0, 0, none⟩ = some (.string a) ∧ W.cell? ⟨g0, 1, none⟩ = some (.string b) ∧ Below w1.heap.size w1 W) → (W.drew.cell? ⟨g0, 0, none⟩ = some (.string a) ∧ W.drew.cell? ⟨g0, 1, none⟩ = some (.string b) ∧ Below w1.heap.size w1 W.drew) := fun W ⟨_, _, hW⟩ => KM _ (Below.drewN' hW 1)
  have KB : ∀ (W : World), (W.cell? ⟨g0, 0, none⟩ = some (.string a) ∧ W.cell? ⟨g0, 1, none⟩ = some (.string b) ∧ Below w1.heap.size w1 W) → Below w1.heap.size w1 W := fun W ⟨_, _, hW⟩ => hW
  have KM0 := KM w1.drew ⟨rfl, rfl, rfl, Nat.le_refl _, fun _ _ => rfl⟩
  have KM00 := KM _ (Below.refl _ _)
  replace KA := Lib.hid KA
  replace KD := Lib.hid KD
  replace KB := Lib.hid KB
  clear KM hk0 hk1 qk0 qk1 kr0 kr1 lr
  go_cut [5] (fun s5 wx => ∃ gx, s5 = .pointer (some ⟨gx, 0, none⟩) ∧ Box wx gx 26 #[.int .i64 p, .int .i64 q] ∧ Below w1.heap.size w1 wx)
  case first =>
    go_region_held3 (fun w' => w'.cell? ⟨g0, 0, none⟩ = some (.string a) ∧ w'.cell? ⟨g0, 1, none⟩ = some (.string b) ∧ Below w1.heap.size w1 w') ((first | (with_reducible assumption) | ((with_reducible refine KD.out _ ?_); (first | (with_reducible assumption) | ((with_reducible refine KA.out _ _ ?_); (with_reducible assumption)))) | ((with_reducible refine KA.out _ _ ?_); (first | (with_reducible assumption) | ((with_reducible refine KD.out _ ?_); (with_reducible assumption))))))
      (first
        | (go_at_call 24; (with_reducible refine (ca.out _).mono ?_); rintro e wC ⟨rfl, rfl⟩)
        | (go_at_call 24; (with_reducible refine (cb.out _).mono ?_); rintro e wC ⟨rfl, rfl⟩))
    all_goals (go_wp2_with fail; go_meet)
    all_goals refine ⟨_, rfl, ?_, KB.out _ ?_⟩
    all_goals (first | (with_reducible assumption) | (with_reducible exact Box.new _ _ _) | (with_reducible exact (Box.new _ _ _).drew) | ((with_reducible refine KD.out _ ?_); (first | (with_reducible assumption) | ((with_reducible refine KA.out _ _ ?_); (with_reducible assumption)))) | ((with_reducible refine KA.out _ _ ?_); (first | (with_reducible assumption) | ((with_reducible refine KD.out _ ?_); (with_reducible assumption)))))
  case rest =>
  obtain ⟨gx, rfl, hxc, hb⟩ := hcut
  clear KM0 KM00 KA KD KB
  replace h := Below.step h hb
  replace hxr := hxr.kept hb
  clear hb
  obtain ⟨kr0, kr1⟩ := hxr.two
  have lr := hxr.lt
  clear kr0 kr1 lr
  obtain ⟨kr0, kr1⟩ := hxr.two
  have lr := hxr.lt
  obtain ⟨kc0, kc1⟩ := hxc.two
  have lc := hxc.lt
  go_wp2_with fail
  refine (ecGood_no p q _ g).mono ?_
  rintro e w2 ⟨rfl, hb⟩
  replace h := Below.step h hb
  replace hxr := hxr.kept hb
  replace hxc := hxc.kept hb
  clear hb kr0 kr1 lr kc0 kc1 lc
  obtain ⟨kr0, kr1⟩ := hxr.two
  have lr := hxr.lt
  obtain ⟨kc0, kc1⟩ := hxc.two
  have lc := hxc.lt
  have fr0 := hxr.free 0
  have fr1 := hxr.free 1
  obtain ⟨sr0, sr1⟩ := ((hxr.set 0 (.int .i64 (0))).set 1 (.int .i64 (0))).two
  go_wp2_with fail
  refine bodyPost_ret (v := .tuple #[.agg #[.int .i64 (0), .int .i64 (0)], .bool false]) (by simp [results, Tryd.results15, go_sem, sr0, sr1]) (by rfl) ⟨by rfl, ?_⟩
  exact below_sets2 h (Nat.le_refl _) _ _


set_option maxHeartbeats 3000000 in
theorem ecParse_other (s a b : ByteArray) (p q : Int) (w : World) (hs : s.size ≤ 1048576) (hl : s.size ≤ 12) (hp : splitAll s 32 = [a, b]) (ca : ∀ w : World, Calls Tryd.prog 24 #[.string a] w fun e w' => e = .returned (.int .i64 p) ∧ w = w') (cb : ∀ w : World, Calls Tryd.prog 24 #[.string b] w fun e w' => e = .returned (.int .i64 q) ∧ w = w') (T : ByteArray) (g : EcG p q) (hT : ecTB p q = T) (hne : T ≠ s) : Calls Tryd.prog 15 #[.string s] w (GivesFB w 0 0 false) := by
  have c0 := split2 s a b hs hp
  have d1 : ¬ 12 < (s.size : Int) := by omega
  replace c0 := Lib.hid c0
  replace ca := Lib.hid ca
  replace cb := Lib.hid cb
  have key := fun W => ecText_any p q T W g hT
  replace key := Lib.hid key
  have ene : (T.toList == s.toList) = false := by rw [beq_eq_false_iff_ne]; exact fun e => hne (ba_inj e)
  clear hp hT
  have h := Below.refl w.heap.size w
  have hA := below_alloc1 w (.cells #[.int .i64 0, .int .i64 0] 26)
  have hxr := Box.new w 26 #[.int .i64 0, .int .i64 0]
  replace h := Below.step h hA
  clear hA
  obtain ⟨kr0, kr1⟩ := hxr.two
  have lr := hxr.lt
  go_enter Tryd.func15, Tryd.ntmps15
  go_wp2_with fail
  refine (c0.out _).mono ?_
  rintro e w1 ⟨g0, c, rfl, hg0, hk0, hk1, hb⟩
  replace h := Below.step h hb
  replace hxr := hxr.kept hb
  clear hb kr0 kr1 lr
  obtain ⟨kr0, kr1⟩ := hxr.two
  have lr := hxr.lt
  obtain ⟨lk0, qk0⟩ := id hk0
  obtain ⟨lk1, qk1⟩ := id hk1
  go_upto_region 4 with fail
  have KM : ∀ (W : World), Below w1.heap.size w1 W → (W.cell? ⟨g0, 0, none⟩ = some (.string a) ∧ W.cell? ⟨g0, 1, none⟩ = some (.string b) ∧ Below w1.heap.size w1 W) := fun W hW => ⟨(hk0.kept hW).2, (hk1.kept hW).2, hW⟩
  have KA : ∀ (W : World) (o : Obj), (W.cell? ⟨g0, 0, none⟩ = some (.string a) ∧ W.cell? ⟨g0, 1, none⟩ = some (.string b) ∧ Below w1.heap.size w1 W) → ((W.alloc o).cell? ⟨g0, 0, none⟩ = some (.string a) ∧ (W.alloc o).cell? ⟨g0, 1, none⟩ = some (.string b) ∧ Below w1.heap.size w1 (W.alloc o)) := fun W o ⟨_, _, hW⟩ => KM _ (Below.step hW (below_alloc1 _ _))
  have KD : ∀ (W : World), (W.cell? ⟨g0, 0, none⟩ = some (.string a) ∧ W.cell? ⟨g0, 1, none⟩ = some (.string b) ∧ Below w1.heap.size w1 W) → (W.drew.cell? ⟨g0, 0, none⟩ = some (.string a) ∧ W.drew.cell? ⟨g0, 1, none⟩ = some (.string b) ∧ Below w1.heap.size w1 W.drew) := fun W ⟨_, _, hW⟩ => KM _ (Below.drewN' hW 1)
  have KB : ∀ (W : World), (W.cell? ⟨g0, 0, none⟩ = some (.string a) ∧ W.cell? ⟨g0, 1, none⟩ = some (.string b) ∧ Below w1.heap.size w1 W) → Below w1.heap.size w1 W := fun W ⟨_, _, hW⟩ => hW
  have KM0 := KM w1.drew ⟨rfl, rfl, rfl, Nat.le_refl _, fun _ _ => rfl⟩
  have KM00 := KM _ (Below.refl _ _)
  replace KA := Lib.hid KA
  replace KD := Lib.hid KD
  replace KB := Lib.hid KB
  clear KM hk0 hk1 qk0 qk1 kr0 kr1 lr
  go_cut [5] (fun s5 wx => ∃ gx, s5 = .pointer (some ⟨gx, 0, none⟩) ∧ Box wx gx 26 #[.int .i64 p, .int .i64 q] ∧ Below w1.heap.size w1 wx)
  case first =>
    go_region_held3 (fun w' => w'.cell? ⟨g0, 0, none⟩ = some (.string a) ∧ w'.cell? ⟨g0, 1, none⟩ = some (.string b) ∧ Below w1.heap.size w1 w') ((first | (with_reducible assumption) | ((with_reducible refine KD.out _ ?_); (first | (with_reducible assumption) | ((with_reducible refine KA.out _ _ ?_); (with_reducible assumption)))) | ((with_reducible refine KA.out _ _ ?_); (first | (with_reducible assumption) | ((with_reducible refine KD.out _ ?_); (with_reducible assumption))))))
      (first
        | (go_at_call 24; (with_reducible refine (ca.out _).mono ?_); rintro e wC ⟨rfl, rfl⟩)
        | (go_at_call 24; (with_reducible refine (cb.out _).mono ?_); rintro e wC ⟨rfl, rfl⟩))
    all_goals (go_wp2_with fail; go_meet)
    all_goals refine ⟨_, rfl, ?_, KB.out _ ?_⟩
    all_goals (first | (with_reducible assumption) | (with_reducible exact Box.new _ _ _) | (with_reducible exact (Box.new _ _ _).drew) | ((with_reducible refine KD.out _ ?_); (first | (with_reducible assumption) | ((with_reducible refine KA.out _ _ ?_); (with_reducible assumption)))) | ((with_reducible refine KA.out _ _ ?_); (first | (with_reducible assumption) | ((with_reducible refine KD.out _ ?_); (with_reducible assumption)))))
  case rest =>
  obtain ⟨gx, rfl, hxc, hb⟩ := hcut
  clear KM0 KM00 KA KD KB
  replace h := Below.step h hb
  replace hxr := hxr.kept hb
  clear hb
  obtain ⟨kr0, kr1⟩ := hxr.two
  have lr := hxr.lt
  clear kr0 kr1 lr
  obtain ⟨kr0, kr1⟩ := hxr.two
  have lr := hxr.lt
  obtain ⟨kc0, kc1⟩ := hxc.two
  have lc := hxc.lt
  go_wp2_with fail
  refine (ecGood_yes p q _ g).mono ?_
  rintro e w2 ⟨rfl, hb⟩
  replace h := Below.step h hb
  replace hxr := hxr.kept hb
  replace hxc := hxc.kept hb
  clear hb kr0 kr1 lr kc0 kc1 lc
  obtain ⟨kr0, kr1⟩ := hxr.two
  have lr := hxr.lt
  obtain ⟨kc0, kc1⟩ := hxc.two
  have lc := hxc.lt
  go_wp2_with fail
  refine (key.out _).mono ?_
  rintro e w3 ⟨rfl, hb⟩
  replace h := Below.step h hb
  replace hxr := hxr.kept hb
  replace hxc := hxc.kept hb
  clear hb kr0 kr1 lr kc0 kc1 lc
  obtain ⟨kr0, kr1⟩ := hxr.two
  have lr := hxr.lt
  obtain ⟨kc0, kc1⟩ := hxc.two
  have lc := hxc.lt
  have fr0 := hxr.free 0
  have fr1 := hxr.free 1
  obtain ⟨sr0, sr1⟩ := ((hxr.set 0 (.int .i64 (0))).set 1 (.int .i64 (0))).two
  go_wp2_with fail
  refine bodyPost_ret (v := .tuple #[.agg #[.int .i64 (0), .int .i64 (0)], .bool false]) (by simp [results, Tryd.results15, go_sem, sr0, sr1]) (by rfl) ⟨by rfl, ?_⟩
  exact below_sets2 h (Nat.le_refl _) _ _


set_option maxHeartbeats 3000000 in
theorem ecParse_good (s a b : ByteArray) (p q : Int) (w : World) (hs : s.size ≤ 1048576) (hl : s.size ≤ 12) (hp : splitAll s 32 = [a, b]) (ca : ∀ w : World, Calls Tryd.prog 24 #[.string a] w fun e w' => e = .returned (.int .i64 p) ∧ w = w') (cb : ∀ w : World, Calls Tryd.prog 24 #[.string b] w fun e w' => e = .returned (.int .i64 q) ∧ w = w') (T : ByteArray) (g : EcG p q) (hT : ecTB p q = T) (hTs : T = s) : Calls Tryd.prog 15 #[.string s] w (GivesFB w p q true) := by
  have c0 := split2 s a b hs hp
  have d1 : ¬ 12 < (s.size : Int) := by omega
  replace c0 := Lib.hid c0
  replace ca := Lib.hid ca
  replace cb := Lib.hid cb
  have key := fun W => ecText_any p q T W g hT
  replace key := Lib.hid key
  subst hTs
  clear hp hT
  have h := Below.refl w.heap.size w
  have hA := below_alloc1 w (.cells #[.int .i64 0, .int .i64 0] 26)
  have hxr := Box.new w 26 #[.int .i64 0, .int .i64 0]
  replace h := Below.step h hA
  clear hA
  obtain ⟨kr0, kr1⟩ := hxr.two
  have lr := hxr.lt
  go_enter Tryd.func15, Tryd.ntmps15
  go_wp2_with fail
  refine (c0.out _).mono ?_
  rintro e w1 ⟨g0, c, rfl, hg0, hk0, hk1, hb⟩
  replace h := Below.step h hb
  replace hxr := hxr.kept hb
  clear hb kr0 kr1 lr
  obtain ⟨kr0, kr1⟩ := hxr.two
  have lr := hxr.lt
  obtain ⟨lk0, qk0⟩ := id hk0
  obtain ⟨lk1, qk1⟩ := id hk1
  go_upto_region 4 with fail
  have KM : ∀ (W : World), Below w1.heap.size w1 W → (W.cell? ⟨g0, 0, none⟩ = some (.string a) ∧ W.cell? ⟨g0, 1, none⟩ = some (.string b) ∧ Below w1.heap.size w1 W) := fun W hW => ⟨(hk0.kept hW).2, (hk1.kept hW).2, hW⟩
  have KA : ∀ (W : World) (o : Obj), (W.cell? ⟨g0, 0, none⟩ = some (.string a) ∧ W.cell? ⟨g0, 1, none⟩ = some (.string b) ∧ Below w1.heap.size w1 W) → ((W.alloc o).cell? ⟨g0, 0, none⟩ = some (.string a) ∧ (W.alloc o).cell? ⟨g0, 1, none⟩ = some (.string b) ∧ Below w1.heap.size w1 (W.alloc o)) := fun W o ⟨_, _, hW⟩ => KM _ (Below.step hW (below_alloc1 _ _))
  have KD : ∀ (W : World), (W.cell? ⟨g0, 0, none⟩ = some (.string a) ∧ W.cell? ⟨g0, 1, none⟩ = some (.string b) ∧ Below w1.heap.size w1 W) → (W.drew.cell? ⟨g0, 0, none⟩ = some (.string a) ∧ W.drew.cell? ⟨g0, 1, none⟩ = some (.string b) ∧ Below w1.heap.size w1 W.drew) := fun W ⟨_, _, hW⟩ => KM _ (Below.drewN' hW 1)
  have KB : ∀ (W : World), (W.cell? ⟨g0, 0, none⟩ = some (.string a) ∧ W.cell? ⟨g0, 1, none⟩ = some (.string b) ∧ Below w1.heap.size w1 W) → Below w1.heap.size w1 W := fun W ⟨_, _, hW⟩ => hW
  have KM0 := KM w1.drew ⟨rfl, rfl, rfl, Nat.le_refl _, fun _ _ => rfl⟩
  have KM00 := KM _ (Below.refl _ _)
  replace KA := Lib.hid KA
  replace KD := Lib.hid KD
  replace KB := Lib.hid KB
  clear KM hk0 hk1 qk0 qk1 kr0 kr1 lr
  go_cut [5] (fun s5 wx => ∃ gx, s5 = .pointer (some ⟨gx, 0, none⟩) ∧ Box wx gx 26 #[.int .i64 p, .int .i64 q] ∧ Below w1.heap.size w1 wx)
  case first =>
    go_region_held3 (fun w' => w'.cell? ⟨g0, 0, none⟩ = some (.string a) ∧ w'.cell? ⟨g0, 1, none⟩ = some (.string b) ∧ Below w1.heap.size w1 w') ((first | (with_reducible assumption) | ((with_reducible refine KD.out _ ?_); (first | (with_reducible assumption) | ((with_reducible refine KA.out _ _ ?_); (with_reducible assumption)))) | ((with_reducible refine KA.out _ _ ?_); (first | (with_reducible assumption) | ((with_reducible refine KD.out _ ?_); (with_reducible assumption))))))
      (first
        | (go_at_call 24; (with_reducible refine (ca.out _).mono ?_); rintro e wC ⟨rfl, rfl⟩)
        | (go_at_call 24; (with_reducible refine (cb.out _).mono ?_); rintro e wC ⟨rfl, rfl⟩))
    all_goals (go_wp2_with fail; go_meet)
    all_goals refine ⟨_, rfl, ?_, KB.out _ ?_⟩
    all_goals (first | (with_reducible assumption) | (with_reducible exact Box.new _ _ _) | (with_reducible exact (Box.new _ _ _).drew) | ((with_reducible refine KD.out _ ?_); (first | (with_reducible assumption) | ((with_reducible refine KA.out _ _ ?_); (with_reducible assumption)))) | ((with_reducible refine KA.out _ _ ?_); (first | (with_reducible assumption) | ((with_reducible refine KD.out _ ?_); (with_reducible assumption)))))
  case rest =>
  obtain ⟨gx, rfl, hxc, hb⟩ := hcut
  clear KM0 KM00 KA KD KB
  replace h := Below.step h hb
  replace hxr := hxr.kept hb
  clear hb
  obtain ⟨kr0, kr1⟩ := hxr.two
  have lr := hxr.lt
  clear kr0 kr1 lr
  obtain ⟨kr0, kr1⟩ := hxr.two
  have lr := hxr.lt
  obtain ⟨kc0, kc1⟩ := hxc.two
  have lc := hxc.lt
  go_wp2_with fail
  refine (ecGood_yes p q _ g).mono ?_
  rintro e w2 ⟨rfl, hb⟩
  replace h := Below.step h hb
  replace hxr := hxr.kept hb
  replace hxc := hxc.kept hb
  clear hb kr0 kr1 lr kc0 kc1 lc
  obtain ⟨kr0, kr1⟩ := hxr.two
  have lr := hxr.lt
  obtain ⟨kc0, kc1⟩ := hxc.two
  have lc := hxc.lt
  go_wp2_with fail
  refine (key.out _).mono ?_
  rintro e w3 ⟨rfl, hb⟩
  replace h := Below.step h hb
  replace hxr := hxr.kept hb
  replace hxc := hxc.kept hb
  clear hb kr0 kr1 lr kc0 kc1 lc
  obtain ⟨kr0, kr1⟩ := hxr.two
  have lr := hxr.lt
  obtain ⟨kc0, kc1⟩ := hxc.two
  have lc := hxc.lt
  have fr0 := hxr.free 0
  have fr1 := hxr.free 1
  obtain ⟨sr0, sr1⟩ := ((hxr.set 0 (.int .i64 (p))).set 1 (.int .i64 (q))).two
  go_wp2_with fail
  refine bodyPost_ret (v := .tuple #[.agg #[.int .i64 (p), .int .i64 (q)], .bool true]) (by simp [results, Tryd.results15, go_sem, sr0, sr1]) (by rfl) ⟨by rfl, ?_⟩
  exact below_sets2 h (Nat.le_refl _) _ _


set_option maxHeartbeats 1000000 in
theorem parseS_wrap (s : ByteArray) (P Q : Int) (B : Bool) (w : World) (cF : ∀ W : World, Calls Tryd.prog 15 #[.string s] W (GivesFB W P Q B)) : Calls Tryd.prog 8 #[.string s] w (GivesFB w P Q B) := by
  replace cF := Lib.hid cF
  have h := Below.refl w.heap.size w
  have hA := below_alloc1 w (.cells #[.int .i64 0, .int .i64 0] 26)
  have hxr := Box.new w 26 #[.int .i64 0, .int .i64 0]
  replace h := Below.step h hA
  clear hA
  obtain ⟨kr0, kr1⟩ := hxr.two
  have lr := hxr.lt
  go_enter Tryd.func8, Tryd.ntmps8
  go_wp2_with fail
  refine (cF.out _).mono ?_
  rintro e w1 ⟨rfl, hb⟩
  replace h := Below.step h hb
  replace hxr := hxr.kept hb
  clear hb kr0 kr1 lr
  obtain ⟨kr0, kr1⟩ := hxr.two
  have lr := hxr.lt
  have fr0 := hxr.free 0
  have fr1 := hxr.free 1
  obtain ⟨sr0, sr1⟩ := ((hxr.set 0 (.int .i64 P)).set 1 (.int .i64 Q)).two
  go_wp2_with fail
  refine bodyPost_ret (v := .tuple #[.agg #[.int .i64 P, .int .i64 Q], .bool B]) (by simp [results, Tryd.results8, go_sem, sr0, sr1]) (by rfl) ⟨by rfl, ?_⟩
  exact below_sets2 h (Nat.le_refl _) _ _

end Go.Proofs.YtoekhkppjccceaaDoor
