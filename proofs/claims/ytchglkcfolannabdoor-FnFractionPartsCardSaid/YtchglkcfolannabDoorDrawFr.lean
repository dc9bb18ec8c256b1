/- The draws of fractions: fraction, anyFraction, DrawSumOf, DrawFractionOf: something comes back whose parts are ints, and nothing that was there has turned. -/
import Derived.Test.YtchglkcfolannabDoorDraw
import Derived.Test.YtchglkcfolannabDoorFrMake
import Derived.Test.YtchglkcfolannabDoorFrInt
namespace Go.Proofs.YtchglkcfolannabDoor
open Go.RowKit Go.Joins

/-- A draw under way: from w0 to w only the cursor and what is new has turned. -/
structure Dg (w0 w : World) (g : Nat) (A : Option Addr) (n c T : Nat) : Prop where
  gr : w0.grownBy w (some g)
  cur : Cur w g A n c T
  rd : RdB w g A n
theorem Dg.start {w : World} {g n c T : Nat} {A : Option Addr} (hc : Cur w g A n c T) (hr : RdB w g A n) : Dg w w g A n c T := ⟨World.grownBy.refl _ _, hc, hr⟩
theorem Dg.kept {w0 w w' : World} {g n c T : Nat} {A : Option Addr} (h : Dg w0 w g A n c T) (hb : Below w.heap.size w w') : Dg w0 w' g A n c T :=
  ⟨grown_on h.gr (grown_below hb), h.cur.kept hb, h.rd.grown (grown_below hb)⟩
theorem Dg.on {w0 w w' : World} {g n c T T' : Nat} {A : Option Addr} (h : Dg w0 w g A n c T) (hc : Cur w' g A n c T') (hg : w.grownBy w' (some g)) : Dg w0 w' g A n c T' :=
  ⟨grown_on h.gr hg, hc, h.rd.grown hg⟩

theorem Dg.keptB {w0 w w' : World} {g n c T : Nat} {A : Option Addr} (h : Dg w0 w g A n c T) (hg : g < w0.heap.size) (hb : Below w0.heap.size w w') : Dg w0 w' g A n c T := by
  refine ⟨⟨hb.os.trans h.gr.os, hb.tape.trans h.gr.tape, hb.output.trans h.gr.output, Nat.le_trans h.gr.size hb.size, fun k hk hne => (hb.block k hk).trans (h.gr.block k hk hne)⟩, ?_, h.rd.below (hb.mono (Nat.le_of_lt hg))⟩
  obtain ⟨t, s, h1, h2, h3, h4⟩ := h.cur
  exact ⟨t, s, h1.keep hb hg, h2, h3, h4⟩
theorem Dg.more {w0 w : World} {g n c T T' : Nat} {A : Option Addr} (h : Dg w0 w g A n c T) (hT : T ≤ T') : Dg w0 w g A n c T' := ⟨h.gr, h.cur.more hT, h.rd⟩

theorem below_sets {w : World} {B b : Nat} (hb : B ≤ b) (i j : Nat) (u v : Value) : Below B w ((w.setCell ⟨b, i, none⟩ u).setCell ⟨b, j, none⟩ v) :=
  ((Below.refl B w).setCell (p := ⟨b, i, none⟩) hb u).setCell (p := ⟨b, j, none⟩) hb v
theorem below_sets_alloc {w : World} {B b : Nat} (hb : B ≤ b) (hs : B ≤ w.heap.size) (i j : Nat) (u v : Value) (o : Obj) : Below B w (((w.setCell ⟨b, i, none⟩ u).setCell ⟨b, j, none⟩ v).alloc o) :=
  (below_sets hb i j u v).alloc (Nat.le_trans hs (below_sets (B := B) hb i j u v).size) o

theorem Box.on {w w' : World} {b g : Nat} {t : TypeId} {cs : Array Value} (h : Box w b t cs) (hg : w.grownBy w' (some g)) (hne : b ≠ g) : Box w' b t cs :=
  (hg.block b h.lt (fun e => hne (Option.some.inj e))).trans h

theorem row_of {w : World} {b : Nat} {cs : Array Value} {lo hi : Int} (h : Box w b 3 cs) (hc : ∀ k : Nat, k < cs.size → ∃ z : Int, cs[k]? = some (.int .i64 z) ∧ lo ≤ z ∧ z ≤ hi) : RowIn w b cs.size lo hi := by
  intro k hk
  obtain ⟨z, h1, h2⟩ := hc k hk
  exact ⟨z, (h.cell k).trans h1, h2⟩

/-- What a draw of a fraction hands back. -/
def GivesDrawF (w : World) (g : Nat) (A : Option Addr) (n c T : Nat) (lo hi : Int) (e : Ending) (w' : World) : Prop :=
  ∃ p q : Int, (lo ≤ p ∧ p ≤ hi) ∧ (lo ≤ q ∧ q ≤ hi) ∧ e = .returned (.agg #[.int .i64 p, .int .i64 q]) ∧ Cur w' g A n c T ∧ w.grownBy w' (some g)

theorem low_bd (n d : Int) : (-1000000000 ≤ lowRP n d ∧ lowRP n d ≤ 1000000000) ∧ (-1000000000 ≤ lowRQ n d ∧ lowRQ n d ≤ 1000000000) := by
  unfold lowRP lowRQ
  by_cases h : lowB n d = true
  · have g := (lowB_good h).2
    rw [if_pos h, if_pos h]
    exact ⟨⟨g.2.2.1, g.2.2.2.1⟩, by have := g.1; omega, g.2.1⟩
  · rw [if_neg h, if_neg h]
    omega

set_option maxHeartbeats 2000000 in
theorem fraction_any (g : Nat) (A : Option Addr) (n c T : Nat) (w : World) (hc : Cur w g A n c T) (hT : T + 12 ≤ 1000000) (hn : n ≤ 9223372036854775807) (hr : RdB w g A n) :
    Calls Tryd.prog 45 #[.pointer (some ⟨g, 0, none⟩)] w (GivesDrawF w g A n c (T + 12) (-1000000000) 1000000000) := by
  have hd := Dg.start hc hr
  have hA := below_alloc1 w (.cells #[.int .i64 0, .int .i64 0] 24)
  have hxr := Box.new w 24 #[.int .i64 0, .int .i64 0]
  replace hd := hd.kept hA
  have hrg : w.heap.size ≠ g := by have := hc.lt; omega
  have hgl := hc.lt
  clear hA hc
  go_enter Tryd.func45, Tryd.ntmps45
  go_wp2_with fail
  refine (pick_any g A n c T 41 _ hd.cur (by omega) hn hd.rd (by omega) (by omega)).mono ?_
  rintro e w1 ⟨r1, ⟨a1, a2⟩, rfl, hc1, hg1⟩
  replace hd := hd.on hc1 hg1
  replace hxr := hxr.on hg1 hrg
  go_wp2_with fail
  refine (pick_any g A n c (T + 2) 2001 _ hd.cur (by omega) hn hd.rd (by omega) (by omega)).mono ?_
  rintro e w2 ⟨r2, ⟨b1, b2⟩, rfl, hc2, hg2⟩
  replace hd := hd.on hc2 hg2
  replace hxr := hxr.on hg2 hrg
  go_wp2_with fail
  have hrow1 : RowIn (w2.alloc (.cells #[.int .i64 0, .int .i64 1, .int .i64 (-1), .int .i64 2, .int .i64 3, .int .i64 (-5), .int .i64 (r1 - 20), .int .i64 (r2 - 1000), .int .i64 1000000000, .int .i64 (-1000000000)] 3)) w2.heap.size 10 (-1000000000) 1000000000 :=
    row_of (Box.new w2 3 #[.int .i64 0, .int .i64 1, .int .i64 (-1), .int .i64 2, .int .i64 3, .int .i64 (-5), .int .i64 (r1 - 20), .int .i64 (r2 - 1000), .int .i64 1000000000, .int .i64 (-1000000000)]) (fun k hk => by
      have hk' : k < 10 := hk
      rcases k with _ | _ | _ | _ | _ | _ | _ | _ | _ | _ | k
      all_goals first | exact ⟨_, rfl, by omega, by omega⟩ | omega)
  have hne1 : w2.heap.size ≠ g := by have := hd.cur.lt; omega
  replace hd := hd.kept (below_alloc1 w2 (.cells #[.int .i64 0, .int .i64 1, .int .i64 (-1), .int .i64 2, .int .i64 3, .int .i64 (-5), .int .i64 (r1 - 20), .int .i64 (r2 - 1000), .int .i64 1000000000, .int .i64 (-1000000000)] 3))
  replace hxr := hxr.kept (below_alloc1 w2 (.cells #[.int .i64 0, .int .i64 1, .int .i64 (-1), .int .i64 2, .int .i64 3, .int .i64 (-5), .int .i64 (r1 - 20), .int .i64 (r2 - 1000), .int .i64 1000000000, .int .i64 (-1000000000)] 3))
  refine (among_any g w2.heap.size A n c (T + 2 + 2) 10 _ (-1000000000) 1000000000 _ hd.cur (by omega) hn hd.rd (by omega) (by omega) hrow1 hne1).mono ?_
  rintro e w3 ⟨z1, ⟨c1, c2⟩, rfl, hc3, hg3⟩
  replace hd := hd.on hc3 hg3
  replace hxr := hxr.on hg3 hrg
  clear hrow1 hne1 hc1 hg1 hc2 hg2 hc3 hg3
  go_wp2_with fail
  refine (pick_any g A n c (T + 2 + 2 + 2) 20 _ hd.cur (by omega) hn hd.rd (by omega) (by omega)).mono ?_
  rintro e w4 ⟨r3, ⟨d1, d2⟩, rfl, hc4, hg4⟩
  replace hd := hd.on hc4 hg4
  replace hxr := hxr.on hg4 hrg
  go_wp2_with fail
  refine (pick_any g A n c (T + 2 + 2 + 2 + 2) 1000 _ hd.cur (by omega) hn hd.rd (by omega) (by omega)).mono ?_
  rintro e w5 ⟨r4, ⟨e1, e2⟩, rfl, hc5, hg5⟩
  replace hd := hd.on hc5 hg5
  replace hxr := hxr.on hg5 hrg
  clear hc4 hg4 hc5 hg5
  go_wp2_with fail
  have hrow2 : RowIn (w5.alloc (.cells #[.int .i64 1, .int .i64 1, .int .i64 2, .int .i64 3, .int .i64 4, .int .i64 9, .int .i64 (1 + r3), .int .i64 (1 + r4), .int .i64 1000000000, .int .i64 999999999] 3)) w5.heap.size 10 1 1000000000 :=
    row_of (Box.new w5 3 #[.int .i64 1, .int .i64 1, .int .i64 2, .int .i64 3, .int .i64 4, .int .i64 9, .int .i64 (1 + r3), .int .i64 (1 + r4), .int .i64 1000000000, .int .i64 999999999]) (fun k hk => by
      have hk' : k < 10 := hk
      rcases k with _ | _ | _ | _ | _ | _ | _ | _ | _ | _ | k
      all_goals first | exact ⟨_, rfl, by omega, by omega⟩ | omega)
  have hne2 : w5.heap.size ≠ g := by have := hd.cur.lt; omega
  replace hd := hd.kept (below_alloc1 w5 (.cells #[.int .i64 1, .int .i64 1, .int .i64 2, .int .i64 3, .int .i64 4, .int .i64 9, .int .i64 (1 + r3), .int .i64 (1 + r4), .int .i64 1000000000, .int .i64 999999999] 3))
  replace hxr := hxr.kept (below_alloc1 w5 (.cells #[.int .i64 1, .int .i64 1, .int .i64 2, .int .i64 3, .int .i64 4, .int .i64 9, .int .i64 (1 + r3), .int .i64 (1 + r4), .int .i64 1000000000, .int .i64 999999999] 3))
  refine (among_any g w5.heap.size A n c (T + 2 + 2 + 2 + 2 + 2) 10 _ 1 1000000000 _ hd.cur (by omega) hn hd.rd (by omega) (by omega) hrow2 hne2).mono ?_
  rintro e w6 ⟨z2, ⟨f1, f2⟩, rfl, hc6, hg6⟩
  replace hd := hd.on hc6 hg6
  replace hxr := hxr.on hg6 hrg
  clear hrow2 hne2 hc6 hg6
  go_wp2_with fail
  refine (frMake_any z1 z2 _ (by omega) (by omega) (by omega) (by omega)).mono ?_
  rintro e w7 ⟨rfl, hb⟩
  replace hd := hd.kept hb
  replace hxr := hxr.kept hb
  clear hb
  obtain ⟨P, hP⟩ : ∃ P, P = lowRP z1 z2 := ⟨_, rfl⟩
  obtain ⟨Q, hQ⟩ : ∃ Q, Q = lowRQ z1 z2 := ⟨_, rfl⟩
  obtain ⟨B, hB⟩ : ∃ B, B = lowB z1 z2 := ⟨_, rfl⟩
  obtain ⟨bp, bq⟩ := low_bd z1 z2
  rw [← hP] at bp ⊢
  rw [← hQ] at bq ⊢
  rw [← hB]
  clear hP hQ hB
  obtain ⟨ahx, bhx⟩ := hxr.two
  have fx0 := hxr.free 0
  have fx1 := hxr.free 1
  have lhx := hxr.lt
  have hsz : w.heap.size ≤ w7.heap.size := by omega
  cases B with
  | false =>
    go_wp2_with fail
    have hA := below_alloc1 w7 (.cells #[.int .i64 P, .int .i64 Q] 24)
    replace hd := hd.kept hA
    replace hxr := hxr.kept hA
    clear hA ahx bhx fx0 fx1 lhx
    refine (frInt_any 1 _).mono ?_
    rintro e w8 ⟨rfl, hb⟩
    replace hd := hd.kept hb
    replace hxr := hxr.kept hb
    obtain ⟨ahx, bhx⟩ := hxr.two
    have fx0 := hxr.free 0
    have fx1 := hxr.free 1
    clear hb
    go_wp2_with fail
    have hbx : Box ((w8.setCell ⟨w.heap.size, 0, none⟩ (.int .i64 1)).setCell ⟨w.heap.size, 1, none⟩ (.int .i64 1)) w.heap.size 24 #[.int .i64 1, .int .i64 1] := (hxr.set 0 (.int .i64 1)).set 1 (.int .i64 1)
    obtain ⟨k0, k1⟩ := hbx.two
    refine bodyPost_ret (v := .agg #[.int .i64 1, .int .i64 1]) (by simp [results, Tryd.results45, go_sem, k0, k1]) rfl ?_
    refine (fun (hf : Dg w _ g A n c (T + 12)) => ⟨1, 1, by omega, by omega, rfl, hf.cur, hf.gr⟩) ((hd.more (by omega)).keptB hgl ?_)
    exact below_sets (Nat.le_refl _) _ _ _ _
  | true =>
    go_wp2_with fail
    have hbx : Box (((w7.setCell ⟨w.heap.size, 0, none⟩ (.int .i64 P)).setCell ⟨w.heap.size, 1, none⟩ (.int .i64 Q)).alloc (.cells #[.int .i64 P, .int .i64 Q] 24)) w.heap.size 24 #[.int .i64 P, .int .i64 Q] :=
      ((hxr.set 0 (.int .i64 P)).set 1 (.int .i64 Q)).kept (below_alloc1 _ _)
    obtain ⟨k0, k1⟩ := hbx.two
    refine bodyPost_ret (v := .agg #[.int .i64 P, .int .i64 Q]) (by simp [results, Tryd.results45, go_sem, k0, k1]) rfl ?_
    refine (fun (hf : Dg w _ g A n c (T + 12)) => ⟨P, Q, bp, bq, rfl, hf.cur, hf.gr⟩) ((hd.more (by omega)).keptB hgl ?_)
    exact below_sets_alloc (Nat.le_refl _) hsz _ _ _ _ _
end Go.Proofs.YtchglkcfolannabDoor
