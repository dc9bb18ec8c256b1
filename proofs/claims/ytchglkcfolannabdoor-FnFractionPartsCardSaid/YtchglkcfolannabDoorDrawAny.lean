/- anyFraction, DrawSumOf, DrawFractionOf: loose contracts (written by wip/gen/anyfr.py). -/
import Derived.Test.YtchglkcfolannabDoorDrawFr
import Derived.RegionTactic
import Derived.ChangeAlike
import Derived.Deep.RegionWith
namespace Go.Proofs.YtchglkcfolannabDoor
open Go.RowKit Go.Joins

theorem Dg.set {w0 w : World} {g b n c T : Nat} {A : Option Addr} (h : Dg w0 w g A n c T) (hg : g < w0.heap.size) (hb : w0.heap.size ≤ b) (i : Nat) (u : Value) : Dg w0 (w.setCell ⟨b, i, none⟩ u) g A n c T :=
  h.keptB hg ((Below.refl _ _).setCell (p := ⟨b, i, none⟩) hb u)
theorem Box.apart {w : World} {b b' : Nat} {t : TypeId} {cs : Array Value} (h : Box w b t cs) (hne : b ≠ b') (i : Nat) (u : Value) : Box (w.setCell ⟨b', i, none⟩ u) b t cs :=
  (Below.heap_setCell w ⟨b', i, none⟩ u b hne).trans h

set_option maxHeartbeats 4000000 in
theorem anyFraction_any (g : Nat) (A : Option Addr) (n c T : Nat) (w : World) (hc : Cur w g A n c T) (hT : T + 18 ≤ 1000000) (hn : n ≤ 9223372036854775807) (hr : RdB w g A n) :
    Calls Tryd.prog 32 #[.pointer (some ⟨g, 0, none⟩)] w (GivesDrawF w g A n c (T + 18) (-9223372036854775808) 9223372036854775807) := by
  have hd := Dg.start hc hr
  have hA := below_alloc1 w (.cells #[.int .i64 0, .int .i64 0] 24)
  have hxr := Box.new w 24 #[.int .i64 0, .int .i64 0]
  replace hd := hd.kept hA
  have hrg : w.heap.size ≠ g := by have := hc.lt; omega
  have hgl := hc.lt
  clear hA hc
  go_enter Tryd.func32, Tryd.ntmps32
  go_wp2_with fail
  refine (fraction_any g A n c T _ hd.cur (by omega) hn hd.rd).mono ?_
  rintro e w1 ⟨p, q, ⟨a1, a2⟩, ⟨b1, b2⟩, rfl, hc1, hg1⟩
  replace hd := hd.on hc1 hg1
  replace hxr := hxr.on hg1 hrg
  clear hc1 hg1
  have hxa := Box.new w1 24 #[.int .i64 p, .int .i64 q]
  have hA := below_alloc1 w1 (.cells #[.int .i64 p, .int .i64 q] 24)
  have hal : w.heap.size < w1.heap.size := hxr.lt
  replace hd := hd.kept hA
  replace hxr := hxr.kept hA
  go_wp2_with fail
  generalize w1.alloc (.cells #[.int .i64 p, .int .i64 q] 24) = w2 at *
  obtain ⟨b, hbw⟩ : ∃ b, b = w1.heap.size := ⟨_, rfl⟩
  rw [← hbw] at hxa hal ⊢
  clear hA hbw
  have hbg : b ≠ g := by omega
  have hbr : w.heap.size ≠ b := by omega
  refine (pick_any g A n c (T + 12) 36 _ hd.cur (by omega) hn hd.rd (by omega) (by omega)).mono ?_
  rintro e w3 ⟨r, ⟨r1, r2⟩, rfl, hc3, hg3⟩
  replace hd := hd.on hc3 hg3
  replace hxr := hxr.on hg3 hrg
  replace hxa := hxa.on hg3 hbg
  clear hc3 hg3
  by_cases h0 : r = 0
  · subst h0
    go_wp2_with fail
    have hrow : RowIn (w3.alloc (.cells #[.int .i64 0, .int .i64 (-1), .int .i64 1000000001] 3)) w3.heap.size 3 (-1) (1000000001) := row_of (Box.new w3 3 #[.int .i64 0, .int .i64 (-1), .int .i64 1000000001]) (fun k hk => by
      have hk' : k < 3 := hk
      rcases k with _ | _ | _ | k
      all_goals first | exact ⟨_, rfl, by omega, by omega⟩ | omega)
    have hne : w3.heap.size ≠ g := by have := hd.cur.lt; omega
    replace hd := hd.kept (below_alloc1 w3 (.cells #[.int .i64 0, .int .i64 (-1), .int .i64 1000000001] 3))
    replace hxr := hxr.kept (below_alloc1 w3 (.cells #[.int .i64 0, .int .i64 (-1), .int .i64 1000000001] 3))
    replace hxa := hxa.kept (below_alloc1 w3 (.cells #[.int .i64 0, .int .i64 (-1), .int .i64 1000000001] 3))
    refine (among_any g w3.heap.size A n c (T + 12 + 2) 3 _ (-1) (1000000001) _ hd.cur (by omega) hn hd.rd (by omega) (by omega) hrow hne).mono ?_
    rintro e w4 ⟨z, ⟨za, zb⟩, rfl, hc4, hg4⟩
    replace hd := hd.on hc4 hg4
    replace hxr := hxr.on hg4 hrg
    replace hxa := hxa.on hg4 hbg
    clear hrow hne hc4 hg4
    obtain ⟨ahx, bhx⟩ := hxr.two
    have fx0 := hxr.free 0
    have fx1 := hxr.free 1
    have lhx := hxr.lt
    obtain ⟨aha, bha⟩ := hxa.two
    have fa0 := hxa.free 0
    have fa1 := hxa.free 1
    have lha := hxa.lt
    go_wp2_with fail
    clear ahx bhx fx0 fx1 lhx aha bha fa0 fa1 lha
    replace hxr := hxr.apart hbr 1 (.int .i64 z)
    replace hxa := hxa.set 1 (.int .i64 z)
    replace hd := hd.set hgl (Nat.le_of_lt hal) 1 (.int .i64 z)
    have hxa' : Box (w4.setCell ⟨b, 1, none⟩ (.int .i64 z)) b 24 #[.int .i64 p, .int .i64 z] := hxa
    have hbx : Box (((w4.setCell ⟨b, 1, none⟩ (.int .i64 z)).setCell ⟨w.heap.size, 0, none⟩ (.int .i64 p)).setCell ⟨w.heap.size, 1, none⟩ (.int .i64 z)) w.heap.size 24 #[.int .i64 p, .int .i64 z] := (hxr.set 0 (.int .i64 p)).set 1 (.int .i64 z)
    obtain ⟨k0, k1⟩ := hbx.two
    refine bodyPost_ret (v := .agg #[.int .i64 p, .int .i64 z]) (by simp [results, Tryd.results32, go_sem, k0, k1]) rfl ?_
    refine (fun (hf : Dg w _ g A n c (T + 18)) => ⟨p, z, by omega, by omega, rfl, hf.cur, hf.gr⟩) ((hd.more (by omega)).keptB hgl ?_)
    exact below_sets (Nat.le_refl _) _ _ _ _
  · have e0 : (r == 0) = false := beq_eq_false_iff_ne.2 h0
    by_cases h1 : r = 1
    · subst h1
      go_wp2_with fail
      have hrow : RowIn (w3.alloc (.cells #[.int .i64 1000000001, .int .i64 (-1000000001), .int .i64 (-9223372036854775808)] 3)) w3.heap.size 3 (-9223372036854775808) (1000000001) := row_of (Box.new w3 3 #[.int .i64 1000000001, .int .i64 (-1000000001), .int .i64 (-9223372036854775808)]) (fun k hk => by
        have hk' : k < 3 := hk
        rcases k with _ | _ | _ | k
        all_goals first | exact ⟨_, rfl, by omega, by omega⟩ | omega)
      have hne : w3.heap.size ≠ g := by have := hd.cur.lt; omega
      replace hd := hd.kept (below_alloc1 w3 (.cells #[.int .i64 1000000001, .int .i64 (-1000000001), .int .i64 (-9223372036854775808)] 3))
      replace hxr := hxr.kept (below_alloc1 w3 (.cells #[.int .i64 1000000001, .int .i64 (-1000000001), .int .i64 (-9223372036854775808)] 3))
      replace hxa := hxa.kept (below_alloc1 w3 (.cells #[.int .i64 1000000001, .int .i64 (-1000000001), .int .i64 (-9223372036854775808)] 3))
      refine (among_any g w3.heap.size A n c (T + 12 + 2) 3 _ (-9223372036854775808) (1000000001) _ hd.cur (by omega) hn hd.rd (by omega) (by omega) hrow hne).mono ?_
      rintro e w4 ⟨z, ⟨za, zb⟩, rfl, hc4, hg4⟩
      replace hd := hd.on hc4 hg4
      replace hxr := hxr.on hg4 hrg
      replace hxa := hxa.on hg4 hbg
      clear hrow hne hc4 hg4
      obtain ⟨ahx, bhx⟩ := hxr.two
      have fx0 := hxr.free 0
      have fx1 := hxr.free 1
      have lhx := hxr.lt
      obtain ⟨aha, bha⟩ := hxa.two
      have fa0 := hxa.free 0
      have fa1 := hxa.free 1
      have lha := hxa.lt
      go_wp2_with fail
      clear ahx bhx fx0 fx1 lhx aha bha fa0 fa1 lha
      replace hxr := hxr.apart hbr 0 (.int .i64 z)
      replace hxa := hxa.set 0 (.int .i64 z)
      replace hd := hd.set hgl (Nat.le_of_lt hal) 0 (.int .i64 z)
      have hbx : Box (((w4.setCell ⟨b, 0, none⟩ (.int .i64 z)).setCell ⟨w.heap.size, 0, none⟩ (.int .i64 z)).setCell ⟨w.heap.size, 1, none⟩ (.int .i64 q)) w.heap.size 24 #[.int .i64 z, .int .i64 q] := (hxr.set 0 (.int .i64 z)).set 1 (.int .i64 q)
      obtain ⟨k0, k1⟩ := hbx.two
      refine bodyPost_ret (v := .agg #[.int .i64 z, .int .i64 q]) (by simp [results, Tryd.results32, go_sem, k0, k1]) rfl ?_
      refine (fun (hf : Dg w _ g A n c (T + 18)) => ⟨z, q, by omega, by omega, rfl, hf.cur, hf.gr⟩) ((hd.more (by omega)).keptB hgl ?_)
      exact below_sets (Nat.le_refl _) _ _ _ _
    · have e1 : (r == 1) = false := beq_eq_false_iff_ne.2 h1
      by_cases h2 : r = 2
      · subst h2
        go_wp2_with fail
        have hrow : RowIn (w3.alloc (.cells #[.int .i64 2, .int .i64 0, .int .i64 (-6)] 3)) w3.heap.size 3 (-6) (2) := row_of (Box.new w3 3 #[.int .i64 2, .int .i64 0, .int .i64 (-6)]) (fun k hk => by
          have hk' : k < 3 := hk
          rcases k with _ | _ | _ | k
          all_goals first | exact ⟨_, rfl, by omega, by omega⟩ | omega)
        have hne : w3.heap.size ≠ g := by have := hd.cur.lt; omega
        replace hd := hd.kept (below_alloc1 w3 (.cells #[.int .i64 2, .int .i64 0, .int .i64 (-6)] 3))
        replace hxr := hxr.kept (below_alloc1 w3 (.cells #[.int .i64 2, .int .i64 0, .int .i64 (-6)] 3))
        replace hxa := hxa.kept (below_alloc1 w3 (.cells #[.int .i64 2, .int .i64 0, .int .i64 (-6)] 3))
        refine (among_any g w3.heap.size A n c (T + 12 + 2) 3 _ (-6) (2) _ hd.cur (by omega) hn hd.rd (by omega) (by omega) hrow hne).mono ?_
        rintro e w4 ⟨z, ⟨za, zb⟩, rfl, hc4, hg4⟩
        replace hd := hd.on hc4 hg4
        replace hxr := hxr.on hg4 hrg
        replace hxa := hxa.on hg4 hbg
        clear hrow hne hc4 hg4
        go_wp2_with fail
        have hrow : RowIn (w4.alloc (.cells #[.int .i64 2, .int .i64 4, .int .i64 9] 3)) w4.heap.size 3 (2) (9) := row_of (Box.new w4 3 #[.int .i64 2, .int .i64 4, .int .i64 9]) (fun k hk => by
          have hk' : k < 3 := hk
          rcases k with _ | _ | _ | k
          all_goals first | exact ⟨_, rfl, by omega, by omega⟩ | omega)
        have hne : w4.heap.size ≠ g := by have := hd.cur.lt; omega
        replace hd := hd.kept (below_alloc1 w4 (.cells #[.int .i64 2, .int .i64 4, .int .i64 9] 3))
        replace hxr := hxr.kept (below_alloc1 w4 (.cells #[.int .i64 2, .int .i64 4, .int .i64 9] 3))
        replace hxa := hxa.kept (below_alloc1 w4 (.cells #[.int .i64 2, .int .i64 4, .int .i64 9] 3))
        refine (among_any g w4.heap.size A n c (T + 12 + 2 + 2) 3 _ (2) (9) _ hd.cur (by omega) hn hd.rd (by omega) (by omega) hrow hne).mono ?_
        rintro e w5 ⟨y, ⟨ya, yb⟩, rfl, hc4, hg4⟩
        replace hd := hd.on hc4 hg4
        replace hxr := hxr.on hg4 hrg
        replace hxa := hxa.on hg4 hbg
        clear hrow hne hc4 hg4
        obtain ⟨ahx, bhx⟩ := hxr.two
        have fx0 := hxr.free 0
        have fx1 := hxr.free 1
        have lhx := hxr.lt
        obtain ⟨aha, bha⟩ := hxa.two
        have fa0 := hxa.free 0
        have fa1 := hxa.free 1
        have lha := hxa.lt
        go_wp2_with fail
        clear ahx bhx fx0 fx1 lhx aha bha fa0 fa1 lha
        replace hxr := hxr.apart hbr 0 (.int .i64 z)
        replace hxa := hxa.set 0 (.int .i64 z)
        replace hd := hd.set hgl (Nat.le_of_lt hal) 0 (.int .i64 z)
        replace hxr := hxr.apart hbr 1 (.int .i64 y)
        replace hxa := hxa.set 1 (.int .i64 y)
        replace hd := hd.set hgl (Nat.le_of_lt hal) 1 (.int .i64 y)
        have hbx : Box ((((w5.setCell ⟨b, 0, none⟩ (.int .i64 z)).setCell ⟨b, 1, none⟩ (.int .i64 y)).setCell ⟨w.heap.size, 0, none⟩ (.int .i64 z)).setCell ⟨w.heap.size, 1, none⟩ (.int .i64 y)) w.heap.size 24 #[.int .i64 z, .int .i64 y] := (hxr.set 0 (.int .i64 z)).set 1 (.int .i64 y)
        obtain ⟨k0, k1⟩ := hbx.two
        refine bodyPost_ret (v := .agg #[.int .i64 z, .int .i64 y]) (by simp [results, Tryd.results32, go_sem, k0, k1]) rfl ?_
        refine (fun (hf : Dg w _ g A n c (T + 18)) => ⟨z, y, by omega, by omega, rfl, hf.cur, hf.gr⟩) ((hd.more (by omega)).keptB hgl ?_)
        exact below_sets (Nat.le_refl _) _ _ _ _
      · have e2 : (r == 2) = false := beq_eq_false_iff_ne.2 h2
        obtain ⟨ahx, bhx⟩ := hxr.two
        have fx0 := hxr.free 0
        have fx1 := hxr.free 1
        have lhx := hxr.lt
        obtain ⟨aha, bha⟩ := hxa.two
        have fa0 := hxa.free 0
        have fa1 := hxa.free 1
        have lha := hxa.lt
        go_wp2_with fail
        clear ahx bhx fx0 fx1 lhx aha bha fa0 fa1 lha
        have hbx : Box ((w3.setCell ⟨w.heap.size, 0, none⟩ (.int .i64 p)).setCell ⟨w.heap.size, 1, none⟩ (.int .i64 q)) w.heap.size 24 #[.int .i64 p, .int .i64 q] := (hxr.set 0 (.int .i64 p)).set 1 (.int .i64 q)
        obtain ⟨k0, k1⟩ := hbx.two
        refine bodyPost_ret (v := .agg #[.int .i64 p, .int .i64 q]) (by simp [results, Tryd.results32, go_sem, k0, k1]) rfl ?_
        refine (fun (hf : Dg w _ g A n c (T + 18)) => ⟨p, q, by omega, by omega, rfl, hf.cur, hf.gr⟩) ((hd.more (by omega)).keptB hgl ?_)
        exact below_sets (Nat.le_refl _) _ _ _ _
end Go.Proofs.YtchglkcfolannabDoor
