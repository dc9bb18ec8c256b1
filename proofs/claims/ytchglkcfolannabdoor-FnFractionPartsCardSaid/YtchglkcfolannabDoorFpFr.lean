/- fraction: a valid fraction comes back (written by wip/gen/fpfr.py). -/
import Derived.Test.YtchglkcfolannabDoorDrawFr
namespace Go.Proofs.YtchglkcfolannabDoor
open Go.RowKit Go.Joins

theorem lowR_good {n d : Int} (h1 : -1000000000 ≤ n) (h2 : n ≤ 1000000000) (h3 : 1 ≤ d) (h4 : d ≤ 1000000000) : lowB n d = true ∧ FrG (lowRP n d) (lowRQ n d) := by
  have a := lowP_le (n := n) (d := d)
  have b := lowQ_le (n := n) (d := d)
  have hB : lowB n d = true := decide_eq_true ⟨by omega, by omega, by omega, by omega⟩
  refine ⟨hB, ?_⟩
  unfold lowRP lowRQ
  rw [if_pos hB, if_pos hB]
  exact (lowB_good hB).2

/-- What a draw of a valid fraction hands back. -/
def GivesDrawG (w : World) (g : Nat) (A : Option Addr) (n c T : Nat) (e : Ending) (w' : World) : Prop :=
  ∃ p q : Int, FrG p q ∧ e = .returned (.agg #[.int .i64 p, .int .i64 q]) ∧ Cur w' g A n c T ∧ w.grownBy w' (some g)

set_option maxHeartbeats 2000000 in
theorem fraction_good (g : Nat) (A : Option Addr) (n c T : Nat) (w : World) (hc : Cur w g A n c T) (hT : T + 12 ≤ 1000000) (hn : n ≤ 9223372036854775807) (hr : RdB w g A n) :
    Calls Tryd.prog 45 #[.pointer (some ⟨g, 0, none⟩)] w (GivesDrawG w g A n c (T + 12)) := by
  have hd := Dg.start hc hr
  have hA := below_alloc1 w (.cells #[.int .i64 0, .int .i64 0] 24)
  have hxr := Box.new w 24 #[.int .i64 0, .int .i64 0]
  replace hd := hd.kept hA
  have hrg : w.heap.size ≠ g := by have := hc.lt; omega
  have hgl := hc.lt
  clear hA hc
  go_enter Tryd.func45, Tryd.ntmps45
  go_wp2_with fail
  refine (pick_any g A n c T 41 _ hd.cur (by omega) hn hd.rd (by omega) (by omega)).mono ?_
  rintro e w1 ⟨r1, ⟨a1, a2⟩, rfl, hc1, hg1⟩
  replace hd := hd.on hc1 hg1
  replace hxr := hxr.on hg1 hrg
  go_wp2_with fail
  refine (pick_any g A n c (T + 2) 2001 _ hd.cur (by omega) hn hd.rd (by omega) (by omega)).mono ?_
  rintro e w2 ⟨r2, ⟨b1, b2⟩, rfl, hc2, hg2⟩
  replace hd := hd.on hc2 hg2
  replace hxr := hxr.on hg2 hrg
  go_wp2_with fail
  have hrow1 : RowIn (w2.alloc (.cells #[.int .i64 0, .int .i64 1, .int .i64 (-1), .int .i64 2, .int .i64 3, .int .i64 (-5), .int .i64 (r1 - 20), .int .i64 (r2 - 1000), .int .i64 1000000000, .int .i64 (-1000000000)] 3)) w2.heap.size 10 (-1000000000) 1000000000 :=
    row_of (Box.new w2 3 #[.int .i64 0, .int .i64 1, .int .i64 (-1), .int .i64 2, .int .i64 3, .int .i64 (-5), .int .i64 (r1 - 20), .int .i64 (r2 - 1000), .int .i64 1000000000, .int .i64 (-1000000000)]) (fun k hk => by
      have hk' : k < 10 := hk
      rcases k with _ | _ | _ | _ | _ | _ | _ | _ | _ | _ | k
      all_goals first | exact ⟨_, rfl, by omega, by omega⟩ | omega)
  have hne1 : w2.heap.size ≠ g := by have := hd.cur.lt; omega
  replace hd := hd.kept (below_alloc1 w2 (.cells #[.int .i64 0, .int .i64 1, .int .i64 (-1), .int .i64 2, .int .i64 3, .int .i64 (-5), .int .i64 (r1 - 20), .int .i64 (r2 - 1000), .int .i64 1000000000, .int .i64 (-1000000000)] 3))
  replace hxr := hxr.kept (below_alloc1 w2 (.cells #[.int .i64 0, .int .i64 1, .int .i64 (-1), .int .i64 2, .int .i64 3, .int .i64 (-5), .int .i64 (r1 - 20), .int .i64 (r2 - 1000), .int .i64 1000000000, .int .i64 (-1000000000)] 3))
  refine (among_any g w2.heap.size A n c (T + 2 + 2) 10 _ (-1000000000) 1000000000 _ hd.cur (by omega) hn hd.rd (by omega) (by omega) hrow1 hne1).mono ?_
  rintro e w3 ⟨z1, ⟨c1, c2⟩, rfl, hc3, hg3⟩
  replace hd := hd.on hc3 hg3
  replace hxr := hxr.on hg3 hrg
  clear hrow1 hne1 hc1 hg1 hc2 hg2 hc3 hg3
  go_wp2_with fail
  refine (pick_any g A n c (T + 2 + 2 + 2) 20 _ hd.cur (by omega) hn hd.rd (by omega) (by omega)).mono ?_
  rintro e w4 ⟨r3, ⟨d1, d2⟩, rfl, hc4, hg4⟩
  replace hd := hd.on hc4 hg4
  replace hxr := hxr.on hg4 hrg
  go_wp2_with fail
  refine (pick_any g A n c (T + 2 + 2 + 2 + 2) 1000 _ hd.cur (by omega) hn hd.rd (by omega) (by omega)).mono ?_
  rintro e w5 ⟨r4, ⟨e1, e2⟩, rfl, hc5, hg5⟩
  replace hd := hd.on hc5 hg5
  replace hxr := hxr.on hg5 hrg
  clear hc4 hg4 hc5 hg5
  go_wp2_with fail
  have hrow2 : RowIn (w5.alloc (.cells #[.int .i64 1, .int .i64 1, .int .i64 2, .int .i64 3, .int .i64 4, .int .i64 9, .int .i64 (1 + r3), .int .i64 (1 + r4), .int .i64 1000000000, .int .i64 999999999] 3)) w5.heap.size 10 1 1000000000 :=
    row_of (Box.new w5 3 #[.int .i64 1, .int .i64 1, .int .i64 2, .int .i64 3, .int .i64 4, .int .i64 9, .int .i64 (1 + r3), .int .i64 (1 + r4), .int .i64 1000000000, .int .i64 999999999]) (fun k hk => by
      have hk' : k < 10 := hk
      rcases k with _ | _ | _ | _ | _ | _ | _ | _ | _ | _ | k
      all_goals first | exact ⟨_, rfl, by omega, by omega⟩ | omega)
  have hne2 : w5.heap.size ≠ g := by have := hd.cur.lt; omega
  replace hd := hd.kept (below_alloc1 w5 (.cells #[.int .i64 1, .int .i64 1, .int .i64 2, .int .i64 3, .int .i64 4, .int .i64 9, .int .i64 (1 + r3), .int .i64 (1 + r4), .int .i64 1000000000, .int .i64 999999999] 3))
  replace hxr := hxr.kept (below_alloc1 w5 (.cells #[.int .i64 1, .int .i64 1, .int .i64 2, .int .i64 3, .int .i64 4, .int .i64 9, .int .i64 (1 + r3), .int .i64 (1 + r4), .int .i64 1000000000, .int .i64 999999999] 3))
  refine (among_any g w5.heap.size A n c (T + 2 + 2 + 2 + 2 + 2) 10 _ 1 1000000000 _ hd.cur (by omega) hn hd.rd (by omega) (by omega) hrow2 hne2).mono ?_
  rintro e w6 ⟨z2, ⟨f1, f2⟩, rfl, hc6, hg6⟩
  replace hd := hd.on hc6 hg6
  replace hxr := hxr.on hg6 hrg
  clear hrow2 hne2 hc6 hg6
  go_wp2_with fail
  refine (frMake_any z1 z2 _ (by omega) (by omega) (by omega) (by omega)).mono ?_
  rintro e w7 ⟨rfl, hb⟩
  replace hd := hd.kept hb
  replace hxr := hxr.kept hb
  clear hb
  obtain ⟨P, hP⟩ : ∃ P, P = lowRP z1 z2 := ⟨_, rfl⟩
  obtain ⟨Q, hQ⟩ : ∃ Q, Q = lowRQ z1 z2 := ⟨_, rfl⟩
  obtain ⟨B, hB⟩ : ∃ B, B = lowB z1 z2 := ⟨_, rfl⟩
  obtain ⟨bB, bG⟩ := lowR_good (n := z1) (d := z2) (by omega) (by omega) (by omega) (by omega)
  rw [← hP] at bG ⊢
  rw [← hQ] at bG ⊢
  rw [← hB] at bB ⊢
  clear hP hQ hB
  obtain ⟨ahx, bhx⟩ := hxr.two
  have fx0 := hxr.free 0
  have fx1 := hxr.free 1
  have lhx := hxr.lt
  have hsz : w.heap.size ≤ w7.heap.size := by omega
  cases B with
  | false => cases bB
  | true =>
    go_wp2_with fail
    have hbx : Box (((w7.setCell ⟨w.heap.size, 0, none⟩ (.int .i64 P)).setCell ⟨w.heap.size, 1, none⟩ (.int .i64 Q)).alloc (.cells #[.int .i64 P, .int .i64 Q] 24)) w.heap.size 24 #[.int .i64 P, .int .i64 Q] :=
      ((hxr.set 0 (.int .i64 P)).set 1 (.int .i64 Q)).kept (below_alloc1 _ _)
    obtain ⟨k0, k1⟩ := hbx.two
    refine bodyPost_ret (v := .agg #[.int .i64 P, .int .i64 Q]) (by simp [results, Tryd.results45, go_sem, k0, k1]) rfl ?_
    refine (fun (hf : Dg w _ g A n c (T + 12)) => ⟨P, Q, bG, rfl, hf.cur, hf.gr⟩) ((hd.more (by omega)).keptB hgl ?_)
    exact below_sets_alloc (Nat.le_refl _) hsz _ _ _ _ _
end Go.Proofs.YtchglkcfolannabDoor
