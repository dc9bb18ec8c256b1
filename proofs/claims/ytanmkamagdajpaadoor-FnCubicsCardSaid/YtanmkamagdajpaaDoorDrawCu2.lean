/- cubic, anyCubic and the draws out of them: loose contracts (written by wip/gen/drawcu.py). -/
import Derived.Test.YtanmkamagdajpaaDoorDrawCu
import Derived.RegionTactic
import Derived.ChangeAlike
import Derived.Deep.RegionWith
namespace Go.Proofs.YtanmkamagdajpaaDoor
open Go.RowKit Go.Joins

set_option maxHeartbeats 8000000 in
theorem anyCubic_any (g : Nat) (A : Option Addr) (n c T : Nat) (w : World) (hc : Cur w g A n c T) (hT : T + 44 ≤ 1000000) (hn : n ≤ 9223372036854775807) (hr : RdB w g A n) : Calls Tryd.prog 21 #[.pointer (some ⟨g, 0, none⟩)] w (GivesDrawC w g A n c (T + 44)) := by
  have hd := Dg.start hc hr
  have hgl := hc.lt
  have hA := below_alloc1 w (.cells #[.int .i64 0, .int .i64 0, .int .i64 0, .int .i64 0] 24)
  have hxr := Box.new w 24 #[.int .i64 0, .int .i64 0, .int .i64 0, .int .i64 0]
  replace hd := hd.kept hA
  clear hA
  have nr : w.heap.size ≠ g := by omega
  clear hc hr
  go_enter Tryd.func21, Tryd.ntmps21
  go_wp2_with fail
  refine (cubic_any g A n c (T + 0) _ hd.cur (by omega) hn hd.rd).mono ?_
  rintro e w1 ⟨a0, a1, a2, a3, h0, h1, h2, h3, rfl, hc1, hg1⟩
  replace hd := hd.on hc1 hg1
  replace hxr := hxr.on hg1 nr
  clear hc1 hg1
  go_wp2_with fail
  have hA := below_alloc1 w1 (.cells #[.int .i64 a0, .int .i64 a1, .int .i64 a2, .int .i64 a3] 24)
  have hxf := Box.new w1 24 #[.int .i64 a0, .int .i64 a1, .int .i64 a2, .int .i64 a3]
  have sf : w.heap.size ≤ w1.heap.size := hd.gr.size
  have nf : w1.heap.size ≠ g := by omega
  have orf := hxr.lt
  replace hd := hd.kept hA
  replace hxr := hxr.kept hA
  clear hA
  generalize w1.alloc (.cells #[.int .i64 a0, .int .i64 a1, .int .i64 a2, .int .i64 a3] 24) = w2 at *
  obtain ⟨gf, ef⟩ : ∃ x, x = w1.heap.size := ⟨_, rfl⟩
  rw [← ef] at hxf sf nf orf ⊢
  clear ef
  refine (pick_any g A n c (T + 40) 30 _ hd.cur (by omega) hn hd.rd (by omega) (by omega)).mono ?_
  rintro e w3 ⟨k, ⟨kl, kh⟩, rfl, hc1, hg1⟩
  replace hd := hd.on hc1 hg1
  replace hxr := hxr.on hg1 nr
  replace hxf := hxf.on hg1 nf
  clear hc1 hg1
  by_cases e0 : k = 0
  · subst e0
    go_wp2_with fail
    have hrw := Box.new w3 3 #[.int .i64 0, .int .i64 1001, .int .i64 (-9223372036854775808)]
    have hA := below_alloc1 w3 (.cells #[.int .i64 0, .int .i64 1001, .int .i64 (-9223372036854775808)] 3)
    have nrw : w3.heap.size ≠ g := by have := hd.gr.size; omega
    replace hd := hd.kept hA
    replace hxr := hxr.kept hA
    replace hxf := hxf.kept hA
    clear hA
    have hri := row_of (lo := -9223372036854775808) (hi := 1001) hrw (fun k hk => by
      have hk' : k < 3 := hk
      rcases k with _ | _ | _ | k
      all_goals first | exact ⟨_, rfl, by omega, by omega⟩ | omega)
    refine (among_any g _ A n c (T + 42) 3 _ (-9223372036854775808) (1001) _ hd.cur (by omega) hn hd.rd (by omega) (by omega) hri nrw).mono ?_
    rintro e w5 ⟨z, ⟨zl, zh⟩, rfl, hc1, hg1⟩
    replace hd := hd.on hc1 hg1
    replace hxr := hxr.on hg1 nr
    replace hxf := hxf.on hg1 nf
    clear hc1 hg1
    clear hri hrw nrw
    obtain ⟨kf0, kf1, kf2, kf3⟩ := hxf.four
    have ff0 := hxf.free 0
    have ff1 := hxf.free 1
    have ff2 := hxf.free 2
    have ff3 := hxf.free 3
    have lf := hxf.lt
    obtain ⟨kr0, kr1, kr2, kr3⟩ := hxr.four
    have fr0 := hxr.free 0
    have fr1 := hxr.free 1
    have fr2 := hxr.free 2
    have fr3 := hxr.free 3
    have lr := hxr.lt
    go_wp2_with fail
    clear kf0 kf1 kf2 kf3 ff0 ff1 ff2 ff3 lf kr0 kr1 kr2 kr3 fr0 fr1 fr2 fr3 lr
    replace hxr := hxr.apart (show w.heap.size ≠ gf from by omega) 0 (.int .i64 z)
    replace hxf := hxf.set 0 (.int .i64 z)
    replace hd := hd.set hgl (sf) 0 (.int .i64 z)
    have hbx := ((((hxr.set 0 (.int .i64 (z))).set 1 (.int .i64 (a1))).set 2 (.int .i64 (a2))).set 3 (.int .i64 (a3)))
    obtain ⟨q0, q1, q2, q3⟩ := hbx.four
    refine bodyPost_ret (v := .agg #[.int .i64 (z), .int .i64 (a1), .int .i64 (a2), .int .i64 (a3)]) (by simp [results, Tryd.results21, go_sem, q0, q1, q2, q3]) rfl ?_
    have hf := Dg.set (Dg.set (Dg.set (Dg.set (hd.more (show T + 44 ≤ T + 44 by omega)) hgl (Nat.le_refl _) 0 (.int .i64 (z))) hgl (Nat.le_refl _) 1 (.int .i64 (a1))) hgl (Nat.le_refl _) 2 (.int .i64 (a2))) hgl (Nat.le_refl _) 3 (.int .i64 (a3))
    exact ⟨z, a1, a2, a3, ⟨by omega, by omega⟩, ⟨by omega, by omega⟩, ⟨by omega, by omega⟩, ⟨by omega, by omega⟩, rfl, hf.cur, hf.gr⟩
  · have f0 : (k == 0) = false := beq_eq_false_iff_ne.2 e0
    by_cases e1 : k = 1
    · subst e1
      go_wp2_with fail
      have hrw := Box.new w3 3 #[.int .i64 1000, .int .i64 1001, .int .i64 (-1001)]
      have hA := below_alloc1 w3 (.cells #[.int .i64 1000, .int .i64 1001, .int .i64 (-1001)] 3)
      have nrw : w3.heap.size ≠ g := by have := hd.gr.size; omega
      replace hd := hd.kept hA
      replace hxr := hxr.kept hA
      replace hxf := hxf.kept hA
      clear hA
      have hri := row_of (lo := -1001) (hi := 1001) hrw (fun k hk => by
        have hk' : k < 3 := hk
        rcases k with _ | _ | _ | k
        all_goals first | exact ⟨_, rfl, by omega, by omega⟩ | omega)
      refine (among_any g _ A n c (T + 42) 3 _ (-1001) (1001) _ hd.cur (by omega) hn hd.rd (by omega) (by omega) hri nrw).mono ?_
      rintro e w5 ⟨z, ⟨zl, zh⟩, rfl, hc1, hg1⟩
      replace hd := hd.on hc1 hg1
      replace hxr := hxr.on hg1 nr
      replace hxf := hxf.on hg1 nf
      clear hc1 hg1
      clear hri hrw nrw
      obtain ⟨kf0, kf1, kf2, kf3⟩ := hxf.four
      have ff0 := hxf.free 0
      have ff1 := hxf.free 1
      have ff2 := hxf.free 2
      have ff3 := hxf.free 3
      have lf := hxf.lt
      obtain ⟨kr0, kr1, kr2, kr3⟩ := hxr.four
      have fr0 := hxr.free 0
      have fr1 := hxr.free 1
      have fr2 := hxr.free 2
      have fr3 := hxr.free 3
      have lr := hxr.lt
      go_wp2_with fail
      clear kf0 kf1 kf2 kf3 ff0 ff1 ff2 ff3 lf kr0 kr1 kr2 kr3 fr0 fr1 fr2 fr3 lr
      replace hxr := hxr.apart (show w.heap.size ≠ gf from by omega) 2 (.int .i64 z)
      replace hxf := hxf.set 2 (.int .i64 z)
      replace hd := hd.set hgl (sf) 2 (.int .i64 z)
      have hbx := ((((hxr.set 0 (.int .i64 (a0))).set 1 (.int .i64 (a1))).set 2 (.int .i64 (z))).set 3 (.int .i64 (a3)))
      obtain ⟨q0, q1, q2, q3⟩ := hbx.four
      refine bodyPost_ret (v := .agg #[.int .i64 (a0), .int .i64 (a1), .int .i64 (z), .int .i64 (a3)]) (by simp [results, Tryd.results21, go_sem, q0, q1, q2, q3]) rfl ?_
      have hf := Dg.set (Dg.set (Dg.set (Dg.set (hd.more (show T + 44 ≤ T + 44 by omega)) hgl (Nat.le_refl _) 0 (.int .i64 (a0))) hgl (Nat.le_refl _) 1 (.int .i64 (a1))) hgl (Nat.le_refl _) 2 (.int .i64 (z))) hgl (Nat.le_refl _) 3 (.int .i64 (a3))
      exact ⟨a0, a1, z, a3, ⟨by omega, by omega⟩, ⟨by omega, by omega⟩, ⟨by omega, by omega⟩, ⟨by omega, by omega⟩, rfl, hf.cur, hf.gr⟩
    · have f1 : (k == 1) = false := beq_eq_false_iff_ne.2 e1
      by_cases e2 : k = 2
      · subst e2
        go_wp2_with fail
        have hrw := Box.new w3 3 #[.int .i64 1001, .int .i64 9223372036854775807]
        have hA := below_alloc1 w3 (.cells #[.int .i64 1001, .int .i64 9223372036854775807] 3)
        have nrw : w3.heap.size ≠ g := by have := hd.gr.size; omega
        replace hd := hd.kept hA
        replace hxr := hxr.kept hA
        replace hxf := hxf.kept hA
        clear hA
        have hri := row_of (lo := 1001) (hi := 9223372036854775807) hrw (fun k hk => by
          have hk' : k < 2 := hk
          rcases k with _ | _ | k
          all_goals first | exact ⟨_, rfl, by omega, by omega⟩ | omega)
        refine (among_any g _ A n c (T + 42) 2 _ (1001) (9223372036854775807) _ hd.cur (by omega) hn hd.rd (by omega) (by omega) hri nrw).mono ?_
        rintro e w5 ⟨z, ⟨zl, zh⟩, rfl, hc1, hg1⟩
        replace hd := hd.on hc1 hg1
        replace hxr := hxr.on hg1 nr
        replace hxf := hxf.on hg1 nf
        clear hc1 hg1
        clear hri hrw nrw
        obtain ⟨kf0, kf1, kf2, kf3⟩ := hxf.four
        have ff0 := hxf.free 0
        have ff1 := hxf.free 1
        have ff2 := hxf.free 2
        have ff3 := hxf.free 3
        have lf := hxf.lt
        obtain ⟨kr0, kr1, kr2, kr3⟩ := hxr.four
        have fr0 := hxr.free 0
        have fr1 := hxr.free 1
        have fr2 := hxr.free 2
        have fr3 := hxr.free 3
        have lr := hxr.lt
        go_wp2_with fail
        clear kf0 kf1 kf2 kf3 ff0 ff1 ff2 ff3 lf kr0 kr1 kr2 kr3 fr0 fr1 fr2 fr3 lr
        replace hxr := hxr.apart (show w.heap.size ≠ gf from by omega) 3 (.int .i64 z)
        replace hxf := hxf.set 3 (.int .i64 z)
        replace hd := hd.set hgl (sf) 3 (.int .i64 z)
        have hbx := ((((hxr.set 0 (.int .i64 (a0))).set 1 (.int .i64 (a1))).set 2 (.int .i64 (a2))).set 3 (.int .i64 (z)))
        obtain ⟨q0, q1, q2, q3⟩ := hbx.four
        refine bodyPost_ret (v := .agg #[.int .i64 (a0), .int .i64 (a1), .int .i64 (a2), .int .i64 (z)]) (by simp [results, Tryd.results21, go_sem, q0, q1, q2, q3]) rfl ?_
        have hf := Dg.set (Dg.set (Dg.set (Dg.set (hd.more (show T + 44 ≤ T + 44 by omega)) hgl (Nat.le_refl _) 0 (.int .i64 (a0))) hgl (Nat.le_refl _) 1 (.int .i64 (a1))) hgl (Nat.le_refl _) 2 (.int .i64 (a2))) hgl (Nat.le_refl _) 3 (.int .i64 (z))
        exact ⟨a0, a1, a2, z, ⟨by omega, by omega⟩, ⟨by omega, by omega⟩, ⟨by omega, by omega⟩, ⟨by omega, by omega⟩, rfl, hf.cur, hf.gr⟩
      · have f2 : (k == 2) = false := beq_eq_false_iff_ne.2 e2
        clear e0 e1 e2
        obtain ⟨kf0, kf1, kf2, kf3⟩ := hxf.four
        have ff0 := hxf.free 0
        have ff1 := hxf.free 1
        have ff2 := hxf.free 2
        have ff3 := hxf.free 3
        have lf := hxf.lt
        obtain ⟨kr0, kr1, kr2, kr3⟩ := hxr.four
        have fr0 := hxr.free 0
        have fr1 := hxr.free 1
        have fr2 := hxr.free 2
        have fr3 := hxr.free 3
        have lr := hxr.lt
        go_wp2_with fail
        have hbx := ((((hxr.set 0 (.int .i64 (a0))).set 1 (.int .i64 (a1))).set 2 (.int .i64 (a2))).set 3 (.int .i64 (a3)))
        obtain ⟨q0, q1, q2, q3⟩ := hbx.four
        refine bodyPost_ret (v := .agg #[.int .i64 (a0), .int .i64 (a1), .int .i64 (a2), .int .i64 (a3)]) (by simp [results, Tryd.results21, go_sem, q0, q1, q2, q3]) rfl ?_
        have hf := Dg.set (Dg.set (Dg.set (Dg.set (hd.more (show T + 42 ≤ T + 44 by omega)) hgl (Nat.le_refl _) 0 (.int .i64 (a0))) hgl (Nat.le_refl _) 1 (.int .i64 (a1))) hgl (Nat.le_refl _) 2 (.int .i64 (a2))) hgl (Nat.le_refl _) 3 (.int .i64 (a3))
        exact ⟨a0, a1, a2, a3, ⟨by omega, by omega⟩, ⟨by omega, by omega⟩, ⟨by omega, by omega⟩, ⟨by omega, by omega⟩, rfl, hf.cur, hf.gr⟩

def GivesC0 (w : World) (e : Ending) (w' : World) : Prop := ∃ x y z u : Int, (-9223372036854775808 ≤ x ∧ x ≤ 9223372036854775807) ∧ (-9223372036854775808 ≤ y ∧ y ≤ 9223372036854775807) ∧ (-9223372036854775808 ≤ z ∧ z ≤ 9223372036854775807) ∧ (-9223372036854775808 ≤ u ∧ u ≤ 9223372036854775807) ∧ e = .returned (.agg #[.int .i64 x, .int .i64 y, .int .i64 z, .int .i64 u]) ∧ Below w.heap.size w w'
def GivesC1 (w : World) (e : Ending) (w' : World) : Prop := ∃ x y z u k : Int, (-9223372036854775808 ≤ x ∧ x ≤ 9223372036854775807) ∧ (-9223372036854775808 ≤ y ∧ y ≤ 9223372036854775807) ∧ (-9223372036854775808 ≤ z ∧ z ≤ 9223372036854775807) ∧ (-9223372036854775808 ≤ u ∧ u ≤ 9223372036854775807) ∧ (-9223372036854775808 ≤ k ∧ k ≤ 9223372036854775807) ∧ e = .returned (.tuple #[.agg #[.int .i64 x, .int .i64 y, .int .i64 z, .int .i64 u], .int .i64 k]) ∧ Below w.heap.size w w'
def GivesC2 (w : World) (e : Ending) (w' : World) : Prop := ∃ x y z u p q : Int, (-9223372036854775808 ≤ x ∧ x ≤ 9223372036854775807) ∧ (-9223372036854775808 ≤ y ∧ y ≤ 9223372036854775807) ∧ (-9223372036854775808 ≤ z ∧ z ≤ 9223372036854775807) ∧ (-9223372036854775808 ≤ u ∧ u ≤ 9223372036854775807) ∧ (-9223372036854775808 ≤ p ∧ p ≤ 9223372036854775807) ∧ (-9223372036854775808 ≤ q ∧ q ≤ 9223372036854775807) ∧ e = .returned (.tuple #[.agg #[.int .i64 x, .int .i64 y, .int .i64 z, .int .i64 u], .agg #[.int .i64 p, .int .i64 q]]) ∧ Below w.heap.size w w'

set_option maxHeartbeats 4000000 in
theorem drawShiftCubic_any (A : Option Addr) (n c : Nat) (w : World) (hn : n ≤ 9223372036854775807) (hr : RdB w w.heap.size A n) : Calls Tryd.prog 4 #[.slice A n c] w (GivesC1 w) := by
  have hbw := Below.refl w.heap.size w
  have hA := below_alloc1 w (.cells #[.int .i64 0, .int .i64 0, .int .i64 0, .int .i64 0] 24)
  have hxr := Box.new w 24 #[.int .i64 0, .int .i64 0, .int .i64 0, .int .i64 0]
  replace hbw := Below.step hbw hA
  clear hA
  have hcur := cur_new (w.alloc (.cells #[.int .i64 0, .int .i64 0, .int .i64 0, .int .i64 0] 24)) A n c
  rw [show (w.alloc (.cells #[.int .i64 0, .int .i64 0, .int .i64 0, .int .i64 0] 24)).heap.size = w.heap.size + 1 from by simp] at hcur
  have hA := below_alloc1 (w.alloc (.cells #[.int .i64 0, .int .i64 0, .int .i64 0, .int .i64 0] 24)) (.cells #[.slice A n c, .int .i64 0, .int .u64 0] 47)
  replace hbw := Below.step hbw hA
  replace hxr := hxr.kept hA
  clear hA
  have hrd := (hr.below hbw).more (show w.heap.size ≤ w.heap.size + 1 by omega)
  have hd := Dg.start hcur hrd
  have hgl := hcur.lt
  clear hcur hrd hr
  go_enter Tryd.func4, Tryd.ntmps4
  go_wp2_with fail
  obtain ⟨g, eg⟩ : ∃ x, x = w.heap.size + 1 := ⟨_, rfl⟩
  have hgle : w.heap.size ≤ g := by omega
  have nr : w.heap.size ≠ g := by omega
  rw [← eg] at hd hgl ⊢
  clear eg
  generalize (w.alloc (.cells #[.int .i64 0, .int .i64 0, .int .i64 0, .int .i64 0] 24)).alloc (.cells #[.slice A n c, .int .i64 0, .int .u64 0] 47) = w0 at *
  refine (anyCubic_any g A n c (0 + 0) _ hd.cur (by omega) hn hd.rd).mono ?_
  rintro e w1 ⟨a0, a1, a2, a3, h0, h1, h2, h3, rfl, hc1, hg1⟩
  replace hd := hd.on hc1 hg1
  replace hxr := hxr.on hg1 nr
  clear hc1 hg1
  go_wp2_with fail
  have hrw := Box.new w1 3 #[.int .i64 11, .int .i64 (-11)]
  have hA := below_alloc1 w1 (.cells #[.int .i64 11, .int .i64 (-11)] 3)
  have nrw : w1.heap.size ≠ g := by have := hd.gr.size; omega
  replace hd := hd.kept hA
  replace hxr := hxr.kept hA
  clear hA
  have hri := row_of (lo := -11) (hi := 11) hrw (fun k hk => by
    have hk' : k < 2 := hk
    rcases k with _ | _ | k
    all_goals first | exact ⟨_, rfl, by omega, by omega⟩ | omega)
  refine (among_any g _ A n c (0 + 44) 2 _ (-11) (11) _ hd.cur (by omega) hn hd.rd (by omega) (by omega) hri nrw).mono ?_
  rintro e w3 ⟨z1, ⟨z1l, z1h⟩, rfl, hc1, hg1⟩
  replace hd := hd.on hc1 hg1
  replace hxr := hxr.on hg1 nr
  clear hc1 hg1
  clear hri hrw nrw
  go_wp2_with fail
  have hrw := Box.new w3 3 #[.int .i64 0, .int .i64 1, .int .i64 (-1), .int .i64 2, .int .i64 (-3), .int .i64 10, .int .i64 (-10), .int .i64 z1]
  have hA := below_alloc1 w3 (.cells #[.int .i64 0, .int .i64 1, .int .i64 (-1), .int .i64 2, .int .i64 (-3), .int .i64 10, .int .i64 (-10), .int .i64 z1] 3)
  have nrw : w3.heap.size ≠ g := by have := hd.gr.size; omega
  replace hd := hd.kept hA
  replace hxr := hxr.kept hA
  clear hA
  have hri := row_of (lo := -11) (hi := 11) hrw (fun k hk => by
    have hk' : k < 8 := hk
    rcases k with _ | _ | _ | _ | _ | _ | _ | _ | k
    all_goals first | exact ⟨_, rfl, by omega, by omega⟩ | omega)
  refine (among_any g _ A n c (0 + 46) 8 _ (-11) (11) _ hd.cur (by omega) hn hd.rd (by omega) (by omega) hri nrw).mono ?_
  rintro e w5 ⟨z2, ⟨z2l, z2h⟩, rfl, hc1, hg1⟩
  replace hd := hd.on hc1 hg1
  replace hxr := hxr.on hg1 nr
  clear hc1 hg1
  clear hri hrw nrw
  obtain ⟨kr0, kr1, kr2, kr3⟩ := hxr.four
  have fr0 := hxr.free 0
  have fr1 := hxr.free 1
  have fr2 := hxr.free 2
  have fr3 := hxr.free 3
  have lr := hxr.lt
  go_wp2_with fail
  clear kr0 kr1 kr2 kr3 fr0 fr1 fr2 fr3 lr
  have hbf := hd.below hbw hgle
  replace hxr := hxr.set 0 (.int .i64 a0)
  replace hbf := hbf.setCell (p := ⟨w.heap.size, 0, none⟩) (show w.heap.size ≤ w.heap.size from by omega) (.int .i64 a0)
  replace hxr := hxr.set 1 (.int .i64 a1)
  replace hbf := hbf.setCell (p := ⟨w.heap.size, 1, none⟩) (show w.heap.size ≤ w.heap.size from by omega) (.int .i64 a1)
  replace hxr := hxr.set 2 (.int .i64 a2)
  replace hbf := hbf.setCell (p := ⟨w.heap.size, 2, none⟩) (show w.heap.size ≤ w.heap.size from by omega) (.int .i64 a2)
  replace hxr := hxr.set 3 (.int .i64 a3)
  replace hbf := hbf.setCell (p := ⟨w.heap.size, 3, none⟩) (show w.heap.size ≤ w.heap.size from by omega) (.int .i64 a3)
  obtain ⟨qr0, qr1, qr2, qr3⟩ := hxr.four
  refine bodyPost_ret (v := .tuple #[.agg #[.int .i64 a0, .int .i64 a1, .int .i64 a2, .int .i64 a3], .int .i64 z2]) (by simp [results, Tryd.results4, go_sem, qr0, qr1, qr2, qr3]) (by rfl) ⟨a0, a1, a2, a3, z2, h0, h1, h2, h3, ⟨by omega, by omega⟩, by rfl, ?_⟩
  first | exact hbf | exact Below.drewN' hbf 1

set_option maxHeartbeats 4000000 in
theorem drawCubicAt_any (A : Option Addr) (n c : Nat) (w : World) (hn : n ≤ 9223372036854775807) (hr : RdB w w.heap.size A n) : Calls Tryd.prog 17 #[.slice A n c] w (GivesC1 w) := by
  have hbw := Below.refl w.heap.size w
  have hA := below_alloc1 w (.cells #[.int .i64 0, .int .i64 0, .int .i64 0, .int .i64 0] 24)
  have hxr := Box.new w 24 #[.int .i64 0, .int .i64 0, .int .i64 0, .int .i64 0]
  replace hbw := Below.step hbw hA
  clear hA
  have hcur := cur_new (w.alloc (.cells #[.int .i64 0, .int .i64 0, .int .i64 0, .int .i64 0] 24)) A n c
  rw [show (w.alloc (.cells #[.int .i64 0, .int .i64 0, .int .i64 0, .int .i64 0] 24)).heap.size = w.heap.size + 1 from by simp] at hcur
  have hA := below_alloc1 (w.alloc (.cells #[.int .i64 0, .int .i64 0, .int .i64 0, .int .i64 0] 24)) (.cells #[.slice A n c, .int .i64 0, .int .u64 0] 47)
  replace hbw := Below.step hbw hA
  replace hxr := hxr.kept hA
  clear hA
  have hrd := (hr.below hbw).more (show w.heap.size ≤ w.heap.size + 1 by omega)
  have hd := Dg.start hcur hrd
  have hgl := hcur.lt
  clear hcur hrd hr
  go_enter Tryd.func17, Tryd.ntmps17
  go_wp2_with fail
  obtain ⟨g, eg⟩ : ∃ x, x = w.heap.size + 1 := ⟨_, rfl⟩
  have hgle : w.heap.size ≤ g := by omega
  have nr : w.heap.size ≠ g := by omega
  rw [← eg] at hd hgl ⊢
  clear eg
  generalize (w.alloc (.cells #[.int .i64 0, .int .i64 0, .int .i64 0, .int .i64 0] 24)).alloc (.cells #[.slice A n c, .int .i64 0, .int .u64 0] 47) = w0 at *
  refine (anyCubic_any g A n c (0 + 0) _ hd.cur (by omega) hn hd.rd).mono ?_
  rintro e w1 ⟨a0, a1, a2, a3, h0, h1, h2, h3, rfl, hc1, hg1⟩
  replace hd := hd.on hc1 hg1
  replace hxr := hxr.on hg1 nr
  clear hc1 hg1
  go_wp2_with fail
  refine (pick_any g A n c (0 + 44) 201 _ hd.cur (by omega) hn hd.rd (by omega) (by omega)).mono ?_
  rintro e w2 ⟨x1, ⟨x1l, x1h⟩, rfl, hc1, hg1⟩
  replace hd := hd.on hc1 hg1
  replace hxr := hxr.on hg1 nr
  clear hc1 hg1
  go_wp2_with fail
  have hrw := Box.new w2 3 #[.int .i64 10001, .int .i64 (-10001)]
  have hA := below_alloc1 w2 (.cells #[.int .i64 10001, .int .i64 (-10001)] 3)
  have nrw : w2.heap.size ≠ g := by have := hd.gr.size; omega
  replace hd := hd.kept hA
  replace hxr := hxr.kept hA
  clear hA
  have hri := row_of (lo := -10001) (hi := 10001) hrw (fun k hk => by
    have hk' : k < 2 := hk
    rcases k with _ | _ | k
    all_goals first | exact ⟨_, rfl, by omega, by omega⟩ | omega)
  refine (among_any g _ A n c (0 + 46) 2 _ (-10001) (10001) _ hd.cur (by omega) hn hd.rd (by omega) (by omega) hri nrw).mono ?_
  rintro e w4 ⟨z1, ⟨z1l, z1h⟩, rfl, hc1, hg1⟩
  replace hd := hd.on hc1 hg1
  replace hxr := hxr.on hg1 nr
  clear hc1 hg1
  clear hri hrw nrw
  go_wp2_with fail
  have hrw := Box.new w4 3 #[.int .i64 0, .int .i64 1, .int .i64 (-1), .int .i64 2, .int .i64 (x1 - 100), .int .i64 10000, .int .i64 (-10000), .int .i64 z1]
  have hA := below_alloc1 w4 (.cells #[.int .i64 0, .int .i64 1, .int .i64 (-1), .int .i64 2, .int .i64 (x1 - 100), .int .i64 10000, .int .i64 (-10000), .int .i64 z1] 3)
  have nrw : w4.heap.size ≠ g := by have := hd.gr.size; omega
  replace hd := hd.kept hA
  replace hxr := hxr.kept hA
  clear hA
  have hri := row_of (lo := -10001) (hi := 10001) hrw (fun k hk => by
    have hk' : k < 8 := hk
    rcases k with _ | _ | _ | _ | _ | _ | _ | _ | k
    all_goals first | exact ⟨_, rfl, by omega, by omega⟩ | omega)
  refine (among_any g _ A n c (0 + 48) 8 _ (-10001) (10001) _ hd.cur (by omega) hn hd.rd (by omega) (by omega) hri nrw).mono ?_
  rintro e w6 ⟨z2, ⟨z2l, z2h⟩, rfl, hc1, hg1⟩
  replace hd := hd.on hc1 hg1
  replace hxr := hxr.on hg1 nr
  clear hc1 hg1
  clear hri hrw nrw
  obtain ⟨kr0, kr1, kr2, kr3⟩ := hxr.four
  have fr0 := hxr.free 0
  have fr1 := hxr.free 1
  have fr2 := hxr.free 2
  have fr3 := hxr.free 3
  have lr := hxr.lt
  go_wp2_with fail
  clear kr0 kr1 kr2 kr3 fr0 fr1 fr2 fr3 lr
  have hbf := hd.below hbw hgle
  replace hxr := hxr.set 0 (.int .i64 a0)
  replace hbf := hbf.setCell (p := ⟨w.heap.size, 0, none⟩) (show w.heap.size ≤ w.heap.size from by omega) (.int .i64 a0)
  replace hxr := hxr.set 1 (.int .i64 a1)
  replace hbf := hbf.setCell (p := ⟨w.heap.size, 1, none⟩) (show w.heap.size ≤ w.heap.size from by omega) (.int .i64 a1)
  replace hxr := hxr.set 2 (.int .i64 a2)
  replace hbf := hbf.setCell (p := ⟨w.heap.size, 2, none⟩) (show w.heap.size ≤ w.heap.size from by omega) (.int .i64 a2)
  replace hxr := hxr.set 3 (.int .i64 a3)
  replace hbf := hbf.setCell (p := ⟨w.heap.size, 3, none⟩) (show w.heap.size ≤ w.heap.size from by omega) (.int .i64 a3)
  obtain ⟨qr0, qr1, qr2, qr3⟩ := hxr.four
  refine bodyPost_ret (v := .tuple #[.agg #[.int .i64 a0, .int .i64 a1, .int .i64 a2, .int .i64 a3], .int .i64 z2]) (by simp [results, Tryd.results17, go_sem, qr0, qr1, qr2, qr3]) (by rfl) ⟨a0, a1, a2, a3, z2, h0, h1, h2, h3, ⟨by omega, by omega⟩, by rfl, ?_⟩
  first | exact hbf | exact Below.drewN' hbf 1

set_option maxHeartbeats 4000000 in
theorem drawContentOf_any (A : Option Addr) (n c : Nat) (w : World) (hn : n ≤ 9223372036854775807) (hr : RdB w w.heap.size A n) : Calls Tryd.prog 7 #[.slice A n c] w (GivesC0 w) := by
  have hbw := Below.refl w.heap.size w
  have hA := below_alloc1 w (.cells #[.int .i64 0, .int .i64 0, .int .i64 0, .int .i64 0] 24)
  have hxr := Box.new w 24 #[.int .i64 0, .int .i64 0, .int .i64 0, .int .i64 0]
  replace hbw := Below.step hbw hA
  clear hA
  have hcur := cur_new (w.alloc (.cells #[.int .i64 0, .int .i64 0, .int .i64 0, .int .i64 0] 24)) A n c
  rw [show (w.alloc (.cells #[.int .i64 0, .int .i64 0, .int .i64 0, .int .i64 0] 24)).heap.size = w.heap.size + 1 from by simp] at hcur
  have hA := below_alloc1 (w.alloc (.cells #[.int .i64 0, .int .i64 0, .int .i64 0, .int .i64 0] 24)) (.cells #[.slice A n c, .int .i64 0, .int .u64 0] 47)
  replace hbw := Below.step hbw hA
  replace hxr := hxr.kept hA
  clear hA
  have hrd := (hr.below hbw).more (show w.heap.size ≤ w.heap.size + 1 by omega)
  have hd := Dg.start hcur hrd
  have hgl := hcur.lt
  clear hcur hrd hr
  go_enter Tryd.func7, Tryd.ntmps7
  go_wp2_with fail
  obtain ⟨g, eg⟩ : ∃ x, x = w.heap.size + 1 := ⟨_, rfl⟩
  have hgle : w.heap.size ≤ g := by omega
  have nr : w.heap.size ≠ g := by omega
  rw [← eg] at hd hgl ⊢
  clear eg
  generalize (w.alloc (.cells #[.int .i64 0, .int .i64 0, .int .i64 0, .int .i64 0] 24)).alloc (.cells #[.slice A n c, .int .i64 0, .int .u64 0] 47) = w0 at *
  refine (anyCubic_any g A n c (0 + 0) _ hd.cur (by omega) hn hd.rd).mono ?_
  rintro e w1 ⟨a0, a1, a2, a3, h0, h1, h2, h3, rfl, hc1, hg1⟩
  replace hd := hd.on hc1 hg1
  replace hxr := hxr.on hg1 nr
  clear hc1 hg1
  go_wp2_with fail
  have hA := below_alloc1 w1 (.cells #[.int .i64 a0, .int .i64 a1, .int .i64 a2, .int .i64 a3] 24)
  have hxf := Box.new w1 24 #[.int .i64 a0, .int .i64 a1, .int .i64 a2, .int .i64 a3]
  have sf : w0.heap.size ≤ w1.heap.size := hd.gr.size
  have nf : w1.heap.size ≠ g := by omega
  have orf := hxr.lt
  replace hd := hd.kept hA
  replace hxr := hxr.kept hA
  clear hA
  generalize w1.alloc (.cells #[.int .i64 a0, .int .i64 a1, .int .i64 a2, .int .i64 a3] 24) = w2 at *
  obtain ⟨gf, ef⟩ : ∃ x, x = w1.heap.size := ⟨_, rfl⟩
  rw [← ef] at hxf sf nf orf ⊢
  clear ef
  obtain ⟨kf0, kf1, kf2, kf3⟩ := hxf.four
  have ff0 := hxf.free 0
  have ff1 := hxf.free 1
  have ff2 := hxf.free 2
  have ff3 := hxf.free 3
  have lf := hxf.lt
  refine (pick_any g A n c (0 + 44) 4 _ hd.cur (by omega) hn hd.rd (by omega) (by omega)).mono ?_
  rintro e w3 ⟨k, ⟨kl, kh⟩, rfl, hc1, hg1⟩
  replace hd := hd.on hc1 hg1
  replace hxr := hxr.on hg1 nr
  replace hxf := hxf.on hg1 nf
  clear hc1 hg1
  go_wp2_with fail
  clear kf0 kf1 kf2 kf3 ff0 ff1 ff2 ff3 lf
  refine (one_any g A n c (0 + 46) 2 _ hd.cur (by omega) hn hd.rd (by omega) (by omega)).mono ?_
  rintro e w4 ⟨bo, rfl, hc1, hg1⟩
  replace hd := hd.on hc1 hg1
  replace hxr := hxr.on hg1 nr
  replace hxf := hxf.on hg1 nf
  clear hc1 hg1
  cases bo with
  | false =>
    obtain ⟨kf0, kf1, kf2, kf3⟩ := hxf.four
    have ff0 := hxf.free 0
    have ff1 := hxf.free 1
    have ff2 := hxf.free 2
    have ff3 := hxf.free 3
    have lf := hxf.lt
    obtain ⟨kr0, kr1, kr2, kr3⟩ := hxr.four
    have fr0 := hxr.free 0
    have fr1 := hxr.free 1
    have fr2 := hxr.free 2
    have fr3 := hxr.free 3
    have lr := hxr.lt
    go_wp2_with fail
    clear kf0 kf1 kf2 kf3 ff0 ff1 ff2 ff3 lf kr0 kr1 kr2 kr3 fr0 fr1 fr2 fr3 lr
    have hbf := hd.below hbw hgle
    replace hxr := hxr.set 0 (.int .i64 a0)
    replace hbf := hbf.setCell (p := ⟨w.heap.size, 0, none⟩) (show w.heap.size ≤ w.heap.size from by omega) (.int .i64 a0)
    replace hxr := hxr.set 1 (.int .i64 a1)
    replace hbf := hbf.setCell (p := ⟨w.heap.size, 1, none⟩) (show w.heap.size ≤ w.heap.size from by omega) (.int .i64 a1)
    replace hxr := hxr.set 2 (.int .i64 a2)
    replace hbf := hbf.setCell (p := ⟨w.heap.size, 2, none⟩) (show w.heap.size ≤ w.heap.size from by omega) (.int .i64 a2)
    replace hxr := hxr.set 3 (.int .i64 a3)
    replace hbf := hbf.setCell (p := ⟨w.heap.size, 3, none⟩) (show w.heap.size ≤ w.heap.size from by omega) (.int .i64 a3)
    obtain ⟨qr0, qr1, qr2, qr3⟩ := hxr.four
    refine bodyPost_ret (v := .agg #[.int .i64 a0, .int .i64 a1, .int .i64 a2, .int .i64 a3]) (by simp [results, Tryd.results7, go_sem, qr0, qr1, qr2, qr3]) (by rfl) ⟨a0, a1, a2, a3, h0, h1, h2, h3, by rfl, ?_⟩
    first | exact hbf | exact Below.drewN' hbf 1
  | true =>
    obtain ⟨kf0, kf1, kf2, kf3⟩ := hxf.four
    have ff0 := hxf.free 0
    have ff1 := hxf.free 1
    have ff2 := hxf.free 2
    have ff3 := hxf.free 3
    have lf := hxf.lt
    go_wp2_with fail
    by_cases hg : CuG a0 a1 a2 a3
    · refine (cuGood_yes a0 a1 a2 a3 _ hg).mono ?_
      rintro e w5 ⟨rfl, hb⟩
      replace hd := hd.kept hb
      replace hxr := hxr.kept hb
      replace hxf := hxf.kept hb
      clear hb kf0 kf1 kf2 kf3 ff0 ff1 ff2 ff3 lf
      obtain ⟨kf0, kf1, kf2, kf3⟩ := hxf.four
      have ff0 := hxf.free 0
      have ff1 := hxf.free 1
      have ff2 := hxf.free 2
      have ff3 := hxf.free 3
      have lf := hxf.lt
      go_wp2_with fail
      have hrw := Box.new w5 3 #[.int .i64 a0, .int .i64 a1, .int .i64 a2, .int .i64 a3]
      have hA := below_alloc1 w5 (.cells #[.int .i64 a0, .int .i64 a1, .int .i64 a2, .int .i64 a3] 3)
      replace hd := hd.kept hA
      replace hxr := hxr.kept hA
      replace hxf := hxf.kept hA
      clear hA kf0 kf1 kf2 kf3 ff0 ff1 ff2 ff3 lf
      by_cases hq : (-150 ≤ a0 ∧ a0 ≤ 150) ∧ (-150 ≤ a1 ∧ a1 ≤ 150) ∧ (-150 ≤ a2 ∧ a2 ≤ 150) ∧ (-150 ≤ a3 ∧ a3 ≤ 150)
      · refine (l1All_four _ _ a0 a1 a2 a3 (-150) 150 _ hrw true (decide_eq_true hq).symm).mono ?_
        rintro e w6 ⟨rfl, rfl⟩
        clear hrw
        have p0 := fr_mul_bd (a := 2 + k) (b := a0) (M := 5) (N := 150) (by omega) (by omega) (by omega) (by omega)
        have p1 := fr_mul_bd (a := 2 + k) (b := a1) (M := 5) (N := 150) (by omega) (by omega) (by omega) (by omega)
        have p2 := fr_mul_bd (a := 2 + k) (b := a2) (M := 5) (N := 150) (by omega) (by omega) (by omega) (by omega)
        have p3 := fr_mul_bd (a := 2 + k) (b := a3) (M := 5) (N := 150) (by omega) (by omega) (by omega) (by omega)
        obtain ⟨kf0, kf1, kf2, kf3⟩ := hxf.four
        have ff0 := hxf.free 0
        have ff1 := hxf.free 1
        have ff2 := hxf.free 2
        have ff3 := hxf.free 3
        have lf := hxf.lt
        obtain ⟨kr0, kr1, kr2, kr3⟩ := hxr.four
        have fr0 := hxr.free 0
        have fr1 := hxr.free 1
        have fr2 := hxr.free 2
        have fr3 := hxr.free 3
        have lr := hxr.lt
        go_wp2_with fail
        clear kf0 kf1 kf2 kf3 ff0 ff1 ff2 ff3 lf kr0 kr1 kr2 kr3 fr0 fr1 fr2 fr3 lr
        have hbf := hd.below hbw hgle
        replace hxr := hxr.set 0 (.int .i64 ((2 + k) * a0))
        replace hbf := hbf.setCell (p := ⟨w.heap.size, 0, none⟩) (show w.heap.size ≤ w.heap.size from by omega) (.int .i64 ((2 + k) * a0))
        replace hxr := hxr.set 1 (.int .i64 ((2 + k) * a1))
        replace hbf := hbf.setCell (p := ⟨w.heap.size, 1, none⟩) (show w.heap.size ≤ w.heap.size from by omega) (.int .i64 ((2 + k) * a1))
        replace hxr := hxr.set 2 (.int .i64 ((2 + k) * a2))
        replace hbf := hbf.setCell (p := ⟨w.heap.size, 2, none⟩) (show w.heap.size ≤ w.heap.size from by omega) (.int .i64 ((2 + k) * a2))
        replace hxr := hxr.set 3 (.int .i64 ((2 + k) * a3))
        replace hbf := hbf.setCell (p := ⟨w.heap.size, 3, none⟩) (show w.heap.size ≤ w.heap.size from by omega) (.int .i64 ((2 + k) * a3))
        obtain ⟨qr0, qr1, qr2, qr3⟩ := hxr.four
        refine bodyPost_ret (v := .agg #[.int .i64 ((2 + k) * a0), .int .i64 ((2 + k) * a1), .int .i64 ((2 + k) * a2), .int .i64 ((2 + k) * a3)]) (by simp [results, Tryd.results7, go_sem, qr0, qr1, qr2, qr3]) (by rfl) ⟨(2 + k) * a0, (2 + k) * a1, (2 + k) * a2, (2 + k) * a3, ⟨by omega, by omega⟩, ⟨by omega, by omega⟩, ⟨by omega, by omega⟩, ⟨by omega, by omega⟩, by rfl, ?_⟩
        first | exact hbf | exact Below.drewN' hbf 1
      · refine (l1All_four _ _ a0 a1 a2 a3 (-150) 150 _ hrw false (decide_eq_false hq).symm).mono ?_
        rintro e w6 ⟨rfl, rfl⟩
        clear hrw
        obtain ⟨kf0, kf1, kf2, kf3⟩ := hxf.four
        have ff0 := hxf.free 0
        have ff1 := hxf.free 1
        have ff2 := hxf.free 2
        have ff3 := hxf.free 3
        have lf := hxf.lt
        obtain ⟨kr0, kr1, kr2, kr3⟩ := hxr.four
        have fr0 := hxr.free 0
        have fr1 := hxr.free 1
        have fr2 := hxr.free 2
        have fr3 := hxr.free 3
        have lr := hxr.lt
        go_wp2_with fail
        clear kf0 kf1 kf2 kf3 ff0 ff1 ff2 ff3 lf kr0 kr1 kr2 kr3 fr0 fr1 fr2 fr3 lr
        have hbf := hd.below hbw hgle
        replace hxr := hxr.set 0 (.int .i64 a0)
        replace hbf := hbf.setCell (p := ⟨w.heap.size, 0, none⟩) (show w.heap.size ≤ w.heap.size from by omega) (.int .i64 a0)
        replace hxr := hxr.set 1 (.int .i64 a1)
        replace hbf := hbf.setCell (p := ⟨w.heap.size, 1, none⟩) (show w.heap.size ≤ w.heap.size from by omega) (.int .i64 a1)
        replace hxr := hxr.set 2 (.int .i64 a2)
        replace hbf := hbf.setCell (p := ⟨w.heap.size, 2, none⟩) (show w.heap.size ≤ w.heap.size from by omega) (.int .i64 a2)
        replace hxr := hxr.set 3 (.int .i64 a3)
        replace hbf := hbf.setCell (p := ⟨w.heap.size, 3, none⟩) (show w.heap.size ≤ w.heap.size from by omega) (.int .i64 a3)
        obtain ⟨qr0, qr1, qr2, qr3⟩ := hxr.four
        refine bodyPost_ret (v := .agg #[.int .i64 a0, .int .i64 a1, .int .i64 a2, .int .i64 a3]) (by simp [results, Tryd.results7, go_sem, qr0, qr1, qr2, qr3]) (by rfl) ⟨a0, a1, a2, a3, h0, h1, h2, h3, by rfl, ?_⟩
        first | exact hbf | exact Below.drewN' hbf 1
    · refine (cuGood_no a0 a1 a2 a3 _ hg).mono ?_
      rintro e w5 ⟨rfl, hb⟩
      replace hd := hd.kept hb
      replace hxr := hxr.kept hb
      replace hxf := hxf.kept hb
      clear hb kf0 kf1 kf2 kf3 ff0 ff1 ff2 ff3 lf
      obtain ⟨kf0, kf1, kf2, kf3⟩ := hxf.four
      have ff0 := hxf.free 0
      have ff1 := hxf.free 1
      have ff2 := hxf.free 2
      have ff3 := hxf.free 3
      have lf := hxf.lt
      obtain ⟨kr0, kr1, kr2, kr3⟩ := hxr.four
      have fr0 := hxr.free 0
      have fr1 := hxr.free 1
      have fr2 := hxr.free 2
      have fr3 := hxr.free 3
      have lr := hxr.lt
      go_wp2_with fail
      clear kf0 kf1 kf2 kf3 ff0 ff1 ff2 ff3 lf kr0 kr1 kr2 kr3 fr0 fr1 fr2 fr3 lr
      have hbf := hd.below hbw hgle
      replace hxr := hxr.set 0 (.int .i64 a0)
      replace hbf := hbf.setCell (p := ⟨w.heap.size, 0, none⟩) (show w.heap.size ≤ w.heap.size from by omega) (.int .i64 a0)
      replace hxr := hxr.set 1 (.int .i64 a1)
      replace hbf := hbf.setCell (p := ⟨w.heap.size, 1, none⟩) (show w.heap.size ≤ w.heap.size from by omega) (.int .i64 a1)
      replace hxr := hxr.set 2 (.int .i64 a2)
      replace hbf := hbf.setCell (p := ⟨w.heap.size, 2, none⟩) (show w.heap.size ≤ w.heap.size from by omega) (.int .i64 a2)
      replace hxr := hxr.set 3 (.int .i64 a3)
      replace hbf := hbf.setCell (p := ⟨w.heap.size, 3, none⟩) (show w.heap.size ≤ w.heap.size from by omega) (.int .i64 a3)
      obtain ⟨qr0, qr1, qr2, qr3⟩ := hxr.four
      refine bodyPost_ret (v := .agg #[.int .i64 a0, .int .i64 a1, .int .i64 a2, .int .i64 a3]) (by simp [results, Tryd.results7, go_sem, qr0, qr1, qr2, qr3]) (by rfl) ⟨a0, a1, a2, a3, h0, h1, h2, h3, by rfl, ?_⟩
      first | exact hbf | exact Below.drewN' hbf 1
end Go.Proofs.YtanmkamagdajpaaDoor
