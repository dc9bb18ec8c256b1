/- cubic, anyCubic and the draws out of them: loose contracts (written by wip/gen/drawcu.py). -/
import Derived.Test.YtanmkamagdajpaaDoorDrawSum
import Derived.Test.YtanmkamagdajpaaDoorCuGood
import Derived.RegionTactic
import Derived.ChangeAlike
import Derived.Deep.RegionWith
namespace Go.Proofs.YtanmkamagdajpaaDoor
open Go.RowKit Go.Joins

/-- What a draw of a cubic hands back. -/
def GivesDrawC (w : World) (g : Nat) (A : Option Addr) (n c T : Nat) (e : Ending) (w' : World) : Prop :=
  ∃ x y z u : Int, (-9223372036854775808 ≤ x ∧ x ≤ 9223372036854775807) ∧ (-9223372036854775808 ≤ y ∧ y ≤ 9223372036854775807) ∧ (-9223372036854775808 ≤ z ∧ z ≤ 9223372036854775807) ∧ (-9223372036854775808 ≤ u ∧ u ≤ 9223372036854775807) ∧ e = .returned (.agg #[.int .i64 x, .int .i64 y, .int .i64 z, .int .i64 u]) ∧ Cur w' g A n c T ∧ w.grownBy w' (some g)

set_option maxHeartbeats 8000000 in
theorem cubic_any (g : Nat) (A : Option Addr) (n c T : Nat) (w : World) (hc : Cur w g A n c T) (hT : T + 40 ≤ 1000000) (hn : n ≤ 9223372036854775807) (hr : RdB w g A n) : Calls Tryd.prog 42 #[.pointer (some ⟨g, 0, none⟩)] w (GivesDrawC w g A n c (T + 40)) := by
  have hd := Dg.start hc hr
  have hgl := hc.lt
  have hA := below_alloc1 w (.cells #[.int .i64 0, .int .i64 0, .int .i64 0, .int .i64 0] 24)
  have hxr := Box.new w 24 #[.int .i64 0, .int .i64 0, .int .i64 0, .int .i64 0]
  replace hd := hd.kept hA
  clear hA
  have nr : w.heap.size ≠ g := by omega
  clear hc hr
  go_enter Tryd.func42, Tryd.ntmps42
  go_wp2_with fail
  refine (pick_any g A n c (T + 0) 4 _ hd.cur (by omega) hn hd.rd (by omega) (by omega)).mono ?_
  rintro e w1 ⟨r0, ⟨r0l, r0h⟩, rfl, hc1, hg1⟩
  replace hd := hd.on hc1 hg1
  replace hxr := hxr.on hg1 nr
  clear hc1 hg1
  by_cases h0 : r0 = 0
  · subst h0
    go_wp2_with fail
    refine (pick_any g A n c (T + 2) 13 _ hd.cur (by omega) hn hd.rd (by omega) (by omega)).mono ?_
    rintro e w2 ⟨xp, ⟨xpl, xph⟩, rfl, hc1, hg1⟩
    replace hd := hd.on hc1 hg1
    replace hxr := hxr.on hg1 nr
    clear hc1 hg1
    obtain ⟨p, rfl⟩ : ∃ z, xp = z + 6 := ⟨xp - 6, by omega⟩
    go_wp2_with fail
    refine (pick_any g A n c (T + 4) 13 _ hd.cur (by omega) hn hd.rd (by omega) (by omega)).mono ?_
    rintro e w3 ⟨xq, ⟨xql, xqh⟩, rfl, hc1, hg1⟩
    replace hd := hd.on hc1 hg1
    replace hxr := hxr.on hg1 nr
    clear hc1 hg1
    obtain ⟨q, rfl⟩ : ∃ z, xq = z + 6 := ⟨xq - 6, by omega⟩
    go_wp2_with fail
    refine (pick_any g A n c (T + 6) 9 _ hd.cur (by omega) hn hd.rd (by omega) (by omega)).mono ?_
    rintro e w4 ⟨xr, ⟨xrl, xrh⟩, rfl, hc1, hg1⟩
    replace hd := hd.on hc1 hg1
    replace hxr := hxr.on hg1 nr
    clear hc1 hg1
    obtain ⟨r, rfl⟩ : ∃ z, xr = z + 4 := ⟨xr - 4, by omega⟩
    go_wp2_with fail
    refine (pick_any g A n c (T + 8) 3 _ hd.cur (by omega) hn hd.rd (by omega) (by omega)).mono ?_
    rintro e w5 ⟨xa, ⟨xal, xah⟩, rfl, hc1, hg1⟩
    replace hd := hd.on hc1 hg1
    replace hxr := hxr.on hg1 nr
    clear hc1 hg1
    go_wp2_with fail
    obtain ⟨a, ea⟩ : ∃ z, 1 + xa = z := ⟨_, rfl⟩
    rw [ea]
    refine (pick_any g A n c (T + 10) 2 _ hd.cur (by omega) hn hd.rd (by omega) (by omega)).mono ?_
    rintro e w6 ⟨xb, ⟨xbl, xbh⟩, rfl, hc1, hg1⟩
    replace hd := hd.on hc1 hg1
    replace hxr := hxr.on hg1 nr
    clear hc1 hg1
    obtain ⟨b, eb⟩ : ∃ z, 1 + xb = z := ⟨_, rfl⟩
    have hp : -6 ≤ p ∧ p ≤ 6 := by omega
    have hq : -6 ≤ q ∧ q ≤ 6 := by omega
    have hr4 : -4 ≤ r ∧ r ≤ 4 := by omega
    have ha : 1 ≤ a ∧ a ≤ 3 := by omega
    have hb : 1 ≤ b ∧ b ≤ 2 := by omega
    have m1 := fr_mul_bd (M := 3) (N := 2) (show -3 ≤ a by omega) ha.2 (show -2 ≤ b by omega) hb.2
    have m1b := fr_mul_bd (M := 3) (N := 2) (show -3 ≤ -a by omega) (show -a ≤ 3 by omega) (show -2 ≤ b by omega) hb.2
    have m2 := fr_mul_bd (M := 6) (N := 4) (a := -a * b) (by omega) (by omega) hr4.1 hr4.2
    have m8b := fr_mul_bd (M := 6) (N := 6) (show -6 ≤ -p by omega) (show -p ≤ 6 by omega) hq.1 hq.2
    have m3 := fr_mul_bd (M := 3) (N := 6) (show -3 ≤ a by omega) ha.2 hq.1 hq.2
    have m4 := fr_mul_bd (M := 2) (N := 6) (show -2 ≤ b by omega) hb.2 hp.1 hp.2
    have m5 := fr_mul_bd (M := 6) (N := 6) hp.1 hp.2 hq.1 hq.2
    have m6 := fr_mul_bd (M := 18) (N := 4) (a := a * q) (by omega) (by omega) hr4.1 hr4.2
    have m7 := fr_mul_bd (M := 12) (N := 4) (a := b * p) (by omega) (by omega) hr4.1 hr4.2
    have m8 := fr_mul_bd (M := 36) (N := 4) (a := -p * q) (by omega) (by omega) hr4.1 hr4.2
    clear hp hq hr4 ha hb
    go_wp2_with fail
    have b0 : -1000 ≤ a * b ∧ a * b ≤ 1000 := by omega
    have b1 : -1000 ≤ -a * b * r - a * q - b * p ∧ -a * b * r - a * q - b * p ≤ 1000 := by omega
    have b2 : -1000 ≤ p * q + a * q * r + b * p * r ∧ p * q + a * q * r + b * p * r ≤ 1000 := by omega
    have b3 : -1000 ≤ -p * q * r ∧ -p * q * r ≤ 1000 := by omega
    obtain ⟨v1, ev1⟩ : ∃ z, -a * b * r - a * q - b * p = z := ⟨_, rfl⟩
    rw [ev1] at b1 ⊢
    obtain ⟨v2, ev2⟩ : ∃ z, p * q + a * q * r + b * p * r = z := ⟨_, rfl⟩
    rw [ev2] at b2 ⊢
    obtain ⟨v3, ev3⟩ : ∃ z, -p * q * r = z := ⟨_, rfl⟩
    rw [ev3] at b3 ⊢
    obtain ⟨v0, ev0⟩ : ∃ z, a * b = z := ⟨_, rfl⟩
    rw [ev0] at b0 ⊢
    clear ev0 ev1 ev2 ev3 m1 m1b m2 m3 m4 m5 m6 m7 m8 m8b ea eb
    have hA := below_alloc1 w6 (.cells #[.int .i64 v0, .int .i64 v1, .int .i64 v2, .int .i64 v3] 24)
    have hxf := Box.new w6 24 #[.int .i64 v0, .int .i64 v1, .int .i64 v2, .int .i64 v3]
    have sf : w.heap.size ≤ w6.heap.size := hd.gr.size
    have nf : w6.heap.size ≠ g := by omega
    have orf := hxr.lt
    replace hd := hd.kept hA
    replace hxr := hxr.kept hA
    clear hA
    generalize w6.alloc (.cells #[.int .i64 v0, .int .i64 v1, .int .i64 v2, .int .i64 v3] 24) = w7 at *
    obtain ⟨gf, ef⟩ : ∃ x, x = w6.heap.size := ⟨_, rfl⟩
    rw [← ef] at hxf sf nf orf ⊢
    clear ef
    by_cases hg : CuG v0 v1 v2 v3
    · refine (cuGood_yes v0 v1 v2 v3 _ hg).mono ?_
      rintro e w8 ⟨rfl, hb⟩
      replace hd := hd.kept hb
      replace hxr := hxr.kept hb
      replace hxf := hxf.kept hb
      clear hb hg
      obtain ⟨kf0, kf1, kf2, kf3⟩ := hxf.four
      have ff0 := hxf.free 0
      have ff1 := hxf.free 1
      have ff2 := hxf.free 2
      have ff3 := hxf.free 3
      have lf := hxf.lt
      obtain ⟨kr0, kr1, kr2, kr3⟩ := hxr.four
      have fr0 := hxr.free 0
      have fr1 := hxr.free 1
      have fr2 := hxr.free 2
      have fr3 := hxr.free 3
      have lr := hxr.lt
      go_wp2_with fail
      have hbx := ((((hxr.set 0 (.int .i64 (v0))).set 1 (.int .i64 (v1))).set 2 (.int .i64 (v2))).set 3 (.int .i64 (v3)))
      obtain ⟨q0, q1, q2, q3⟩ := hbx.four
      refine bodyPost_ret (v := .agg #[.int .i64 (v0), .int .i64 (v1), .int .i64 (v2), .int .i64 (v3)]) (by simp [results, Tryd.results42, go_sem, q0, q1, q2, q3]) rfl ?_
      have hf := Dg.set (Dg.set (Dg.set (Dg.set (hd.more (show T + 12 ≤ T + 40 by omega)) hgl (Nat.le_refl _) 0 (.int .i64 (v0))) hgl (Nat.le_refl _) 1 (.int .i64 (v1))) hgl (Nat.le_refl _) 2 (.int .i64 (v2))) hgl (Nat.le_refl _) 3 (.int .i64 (v3))
      exact ⟨v0, v1, v2, v3, ⟨by omega, by omega⟩, ⟨by omega, by omega⟩, ⟨by omega, by omega⟩, ⟨by omega, by omega⟩, rfl, hf.cur, hf.gr⟩
    · refine (cuGood_no v0 v1 v2 v3 _ hg).mono ?_
      rintro e w8 ⟨rfl, hb⟩
      replace hd := hd.kept hb
      replace hxr := hxr.kept hb
      replace hxf := hxf.kept hb
      clear hb hg
      go_wp2_with fail
      clear hxf nf sf orf
      refine (pick_any g A n c (T + 12) 41 _ hd.cur (by omega) hn hd.rd (by omega) (by omega)).mono ?_
      rintro e w9 ⟨x1, ⟨x1l, x1h⟩, rfl, hc1, hg1⟩
      replace hd := hd.on hc1 hg1
      replace hxr := hxr.on hg1 nr
      clear hc1 hg1
      go_wp2_with fail
      refine (pick_any g A n c (T + 14) 2001 _ hd.cur (by omega) hn hd.rd (by omega) (by omega)).mono ?_
      rintro e w10 ⟨x2, ⟨x2l, x2h⟩, rfl, hc1, hg1⟩
      replace hd := hd.on hc1 hg1
      replace hxr := hxr.on hg1 nr
      clear hc1 hg1
      go_wp2_with fail
      have hA := below_alloc1 w10 (.cells #[.int .i64 0, .int .i64 1, .int .i64 (-1), .int .i64 2, .int .i64 (-3), .int .i64 6, .int .i64 (x1 - 20), .int .i64 (x2 - 1000)] 3)
      have hxl := Box.new w10 3 #[.int .i64 0, .int .i64 1, .int .i64 (-1), .int .i64 2, .int .i64 (-3), .int .i64 6, .int .i64 (x1 - 20), .int .i64 (x2 - 1000)]
      have sl : w.heap.size ≤ w10.heap.size := hd.gr.size
      have nl : w10.heap.size ≠ g := by omega
      have orl := hxr.lt
      replace hd := hd.kept hA
      replace hxr := hxr.kept hA
      clear hA
      generalize w10.alloc (.cells #[.int .i64 0, .int .i64 1, .int .i64 (-1), .int .i64 2, .int .i64 (-3), .int .i64 6, .int .i64 (x1 - 20), .int .i64 (x2 - 1000)] 3) = w11 at *
      obtain ⟨gl, el⟩ : ∃ x, x = w10.heap.size := ⟨_, rfl⟩
      rw [← el] at hxl sl nl orl ⊢
      clear el
      have hri := row_of (lo := -1000) (hi := 1000) hxl (fun k hk => by
        have hk' : k < 8 := hk
        rcases k with _ | _ | _ | _ | _ | _ | _ | _ | k
        all_goals first | exact ⟨_, rfl, by omega, by omega⟩ | omega)
      refine (among_any g _ A n c (T + 16) 8 _ (-1000) (1000) _ hd.cur (by omega) hn hd.rd (by omega) (by omega) hri nl).mono ?_
      rintro e w12 ⟨ya, ⟨yal, yah⟩, rfl, hc1, hg1⟩
      replace hd := hd.on hc1 hg1
      replace hxr := hxr.on hg1 nr
      replace hxl := hxl.on hg1 nl
      clear hc1 hg1
      clear hri
      go_wp2_with fail
      have hri := row_of (lo := -1000) (hi := 1000) hxl (fun k hk => by
        have hk' : k < 8 := hk
        rcases k with _ | _ | _ | _ | _ | _ | _ | _ | k
        all_goals first | exact ⟨_, rfl, by omega, by omega⟩ | omega)
      refine (among_any g _ A n c (T + 18) 8 _ (-1000) (1000) _ hd.cur (by omega) hn hd.rd (by omega) (by omega) hri nl).mono ?_
      rintro e w13 ⟨yb, ⟨ybl, ybh⟩, rfl, hc1, hg1⟩
      replace hd := hd.on hc1 hg1
      replace hxr := hxr.on hg1 nr
      replace hxl := hxl.on hg1 nl
      clear hc1 hg1
      clear hri
      go_wp2_with fail
      have hri := row_of (lo := -1000) (hi := 1000) hxl (fun k hk => by
        have hk' : k < 8 := hk
        rcases k with _ | _ | _ | _ | _ | _ | _ | _ | k
        all_goals first | exact ⟨_, rfl, by omega, by omega⟩ | omega)
      refine (among_any g _ A n c (T + 20) 8 _ (-1000) (1000) _ hd.cur (by omega) hn hd.rd (by omega) (by omega) hri nl).mono ?_
      rintro e w14 ⟨yc, ⟨ycl, ych⟩, rfl, hc1, hg1⟩
      replace hd := hd.on hc1 hg1
      replace hxr := hxr.on hg1 nr
      replace hxl := hxl.on hg1 nl
      clear hc1 hg1
      clear hri
      go_wp2_with fail
      have hri := row_of (lo := -1000) (hi := 1000) hxl (fun k hk => by
        have hk' : k < 8 := hk
        rcases k with _ | _ | _ | _ | _ | _ | _ | _ | k
        all_goals first | exact ⟨_, rfl, by omega, by omega⟩ | omega)
      refine (among_any g _ A n c (T + 22) 8 _ (-1000) (1000) _ hd.cur (by omega) hn hd.rd (by omega) (by omega) hri nl).mono ?_
      rintro e w15 ⟨yd, ⟨ydl, ydh⟩, rfl, hc1, hg1⟩
      replace hd := hd.on hc1 hg1
      replace hxr := hxr.on hg1 nr
      replace hxl := hxl.on hg1 nl
      clear hc1 hg1
      clear hri
      clear hxl nl sl orl
      by_cases hz : ya = 0
      · subst hz
        go_wp2_with fail
        have hA := below_alloc1 w15 (.cells #[.int .i64 0, .int .i64 yb, .int .i64 yc, .int .i64 yd] 24)
        have hxf := Box.new w15 24 #[.int .i64 0, .int .i64 yb, .int .i64 yc, .int .i64 yd]
        have sf : w.heap.size ≤ w15.heap.size := hd.gr.size
        have nf : w15.heap.size ≠ g := by omega
        have orf := hxr.lt
        replace hd := hd.kept hA
        replace hxr := hxr.kept hA
        have zf : (w15.alloc (.cells #[.int .i64 0, .int .i64 yb, .int .i64 yc, .int .i64 yd] 24)).heap.size = w15.heap.size + 1 := by simp
        clear hA
        generalize w15.alloc (.cells #[.int .i64 0, .int .i64 yb, .int .i64 yc, .int .i64 yd] 24) = w16 at *
        obtain ⟨gf, ef⟩ : ∃ x, x = w15.heap.size := ⟨_, rfl⟩
        rw [← ef] at hxf sf nf orf zf ⊢
        clear ef
        have hrw := Box.new w16 3 #[.int .i64 1, .int .i64 1000, .int .i64 (-1000)]
        have hA := below_alloc1 w16 (.cells #[.int .i64 1, .int .i64 1000, .int .i64 (-1000)] 3)
        have nrw : w16.heap.size ≠ g := by have := hd.gr.size; omega
        replace hd := hd.kept hA
        replace hxr := hxr.kept hA
        replace hxf := hxf.kept hA
        clear hA
        rw [zf] at hrw nrw
        clear zf
        have hri := row_of (lo := -1000) (hi := 1000) hrw (fun k hk => by
          have hk' : k < 3 := hk
          rcases k with _ | _ | _ | k
          all_goals first | exact ⟨_, rfl, by omega, by omega⟩ | omega)
        refine (among_any g _ A n c (T + 24) 3 _ (-1000) (1000) _ hd.cur (by omega) hn hd.rd (by omega) (by omega) hri nrw).mono ?_
        rintro e w18 ⟨za, ⟨zal, zah⟩, rfl, hc1, hg1⟩
        replace hd := hd.on hc1 hg1
        replace hxr := hxr.on hg1 nr
        replace hxf := hxf.on hg1 nf
        clear hc1 hg1
        clear hri hrw nrw
        obtain ⟨kf0, kf1, kf2, kf3⟩ := hxf.four
        have ff0 := hxf.free 0
        have ff1 := hxf.free 1
        have ff2 := hxf.free 2
        have ff3 := hxf.free 3
        have lf := hxf.lt
        go_wp2_with fail
        clear kf0 kf1 kf2 kf3 ff0 ff1 ff2 ff3 lf
        replace hxr := hxr.apart (show w.heap.size ≠ gf from by omega) 0 (.int .i64 za)
        replace hxf := hxf.set 0 (.int .i64 za)
        replace hd := hd.set hgl (sf) 0 (.int .i64 za)
        generalize (w18.setCell ⟨gf, 0, none⟩ (.int .i64 za)) = w19 at *
        obtain ⟨kf0, kf1, kf2, kf3⟩ := hxf.four
        have ff0 := hxf.free 0
        have ff1 := hxf.free 1
        have ff2 := hxf.free 2
        have ff3 := hxf.free 3
        have lf := hxf.lt
        refine (one_any g A n c (T + 26) 12 _ hd.cur (by omega) hn hd.rd (by omega) (by omega)).mono ?_
        rintro e w20 ⟨bo, rfl, hc1, hg1⟩
        replace hd := hd.on hc1 hg1
        replace hxr := hxr.on hg1 nr
        replace hxf := hxf.on hg1 nf
        clear hc1 hg1
        cases bo with
        | false =>
          clear kf0 kf1 kf2 kf3 ff0 ff1 ff2 ff3 lf
          obtain ⟨kf0, kf1, kf2, kf3⟩ := hxf.four
          have ff0 := hxf.free 0
          have ff1 := hxf.free 1
          have ff2 := hxf.free 2
          have ff3 := hxf.free 3
          have lf := hxf.lt
          clear kf0 kf1 kf2 kf3 ff0 ff1 ff2 ff3 lf
          obtain ⟨kf0, kf1, kf2, kf3⟩ := hxf.four
          have ff0 := hxf.free 0
          have ff1 := hxf.free 1
          have ff2 := hxf.free 2
          have ff3 := hxf.free 3
          have lf := hxf.lt
          obtain ⟨kr0, kr1, kr2, kr3⟩ := hxr.four
          have fr0 := hxr.free 0
          have fr1 := hxr.free 1
          have fr2 := hxr.free 2
          have fr3 := hxr.free 3
          have lr := hxr.lt
          go_wp2_with fail
          have hbx := ((((hxr.set 0 (.int .i64 (za))).set 1 (.int .i64 (yb))).set 2 (.int .i64 (yc))).set 3 (.int .i64 (yd)))
          obtain ⟨q0, q1, q2, q3⟩ := hbx.four
          refine bodyPost_ret (v := .agg #[.int .i64 (za), .int .i64 (yb), .int .i64 (yc), .int .i64 (yd)]) (by simp [results, Tryd.results42, go_sem, q0, q1, q2, q3]) rfl ?_
          have hf := Dg.set (Dg.set (Dg.set (Dg.set (hd.more (show T + 28 ≤ T + 40 by omega)) hgl (Nat.le_refl _) 0 (.int .i64 (za))) hgl (Nat.le_refl _) 1 (.int .i64 (yb))) hgl (Nat.le_refl _) 2 (.int .i64 (yc))) hgl (Nat.le_refl _) 3 (.int .i64 (yd))
          exact ⟨za, yb, yc, yd, ⟨by omega, by omega⟩, ⟨by omega, by omega⟩, ⟨by omega, by omega⟩, ⟨by omega, by omega⟩, rfl, hf.cur, hf.gr⟩
        | true =>
          clear kf0 kf1 kf2 kf3 ff0 ff1 ff2 ff3 lf
          obtain ⟨kf0, kf1, kf2, kf3⟩ := hxf.four
          have ff0 := hxf.free 0
          have ff1 := hxf.free 1
          have ff2 := hxf.free 2
          have ff3 := hxf.free 3
          have lf := hxf.lt
          go_wp2_with fail
          have hrw := Box.new w20 3 #[.int .i64 1000, .int .i64 (-1000)]
          have hA := below_alloc1 w20 (.cells #[.int .i64 1000, .int .i64 (-1000)] 3)
          have nrw : w20.heap.size ≠ g := by have := hd.gr.size; omega
          replace hd := hd.kept hA
          replace hxr := hxr.kept hA
          replace hxf := hxf.kept hA
          clear hA
          have hri := row_of (lo := -1000) (hi := 1000) hrw (fun k hk => by
            have hk' : k < 2 := hk
            rcases k with _ | _ | k
            all_goals first | exact ⟨_, rfl, by omega, by omega⟩ | omega)
          refine (among_any g _ A n c (T + 28) 2 _ (-1000) (1000) _ hd.cur (by omega) hn hd.rd (by omega) (by omega) hri nrw).mono ?_
          rintro e w22 ⟨zd, ⟨zdl, zdh⟩, rfl, hc1, hg1⟩
          replace hd := hd.on hc1 hg1
          replace hxr := hxr.on hg1 nr
          replace hxf := hxf.on hg1 nf
          clear hc1 hg1
          clear hri hrw nrw
          clear kf0 kf1 kf2 kf3 ff0 ff1 ff2 ff3 lf
          obtain ⟨kf0, kf1, kf2, kf3⟩ := hxf.four
          have ff0 := hxf.free 0
          have ff1 := hxf.free 1
          have ff2 := hxf.free 2
          have ff3 := hxf.free 3
          have lf := hxf.lt
          obtain ⟨kr0, kr1, kr2, kr3⟩ := hxr.four
          have fr0 := hxr.free 0
          have fr1 := hxr.free 1
          have fr2 := hxr.free 2
          have fr3 := hxr.free 3
          have lr := hxr.lt
          go_wp2_with fail
          clear kf0 kf1 kf2 kf3 ff0 ff1 ff2 ff3 lf kr0 kr1 kr2 kr3 fr0 fr1 fr2 fr3 lr
          replace hxr := hxr.apart (show w.heap.size ≠ gf from by omega) 3 (.int .i64 zd)
          replace hxf := hxf.set 3 (.int .i64 zd)
          replace hd := hd.set hgl (sf) 3 (.int .i64 zd)
          have hbx := ((((hxr.set 0 (.int .i64 (za))).set 1 (.int .i64 (yb))).set 2 (.int .i64 (yc))).set 3 (.int .i64 (zd)))
          obtain ⟨q0, q1, q2, q3⟩ := hbx.four
          refine bodyPost_ret (v := .agg #[.int .i64 (za), .int .i64 (yb), .int .i64 (yc), .int .i64 (zd)]) (by simp [results, Tryd.results42, go_sem, q0, q1, q2, q3]) rfl ?_
          have hf := Dg.set (Dg.set (Dg.set (Dg.set (hd.more (show T + 30 ≤ T + 40 by omega)) hgl (Nat.le_refl _) 0 (.int .i64 (za))) hgl (Nat.le_refl _) 1 (.int .i64 (yb))) hgl (Nat.le_refl _) 2 (.int .i64 (yc))) hgl (Nat.le_refl _) 3 (.int .i64 (zd))
          exact ⟨za, yb, yc, zd, ⟨by omega, by omega⟩, ⟨by omega, by omega⟩, ⟨by omega, by omega⟩, ⟨by omega, by omega⟩, rfl, hf.cur, hf.gr⟩
      · have ez : (ya == 0) = false := beq_eq_false_iff_ne.2 hz
        clear hz
        go_wp2_with fail
        have hA := below_alloc1 w15 (.cells #[.int .i64 ya, .int .i64 yb, .int .i64 yc, .int .i64 yd] 24)
        have hxf := Box.new w15 24 #[.int .i64 ya, .int .i64 yb, .int .i64 yc, .int .i64 yd]
        have sf : w.heap.size ≤ w15.heap.size := hd.gr.size
        have nf : w15.heap.size ≠ g := by omega
        have orf := hxr.lt
        replace hd := hd.kept hA
        replace hxr := hxr.kept hA
        clear hA
        generalize w15.alloc (.cells #[.int .i64 ya, .int .i64 yb, .int .i64 yc, .int .i64 yd] 24) = w16 at *
        obtain ⟨gf, ef⟩ : ∃ x, x = w15.heap.size := ⟨_, rfl⟩
        rw [← ef] at hxf sf nf orf ⊢
        clear ef
        obtain ⟨kf0, kf1, kf2, kf3⟩ := hxf.four
        have ff0 := hxf.free 0
        have ff1 := hxf.free 1
        have ff2 := hxf.free 2
        have ff3 := hxf.free 3
        have lf := hxf.lt
        refine (one_any g A n c (T + 24) 12 _ hd.cur (by omega) hn hd.rd (by omega) (by omega)).mono ?_
        rintro e w17 ⟨bo, rfl, hc1, hg1⟩
        replace hd := hd.on hc1 hg1
        replace hxr := hxr.on hg1 nr
        replace hxf := hxf.on hg1 nf
        clear hc1 hg1
        cases bo with
        | false =>
          clear kf0 kf1 kf2 kf3 ff0 ff1 ff2 ff3 lf
          obtain ⟨kf0, kf1, kf2, kf3⟩ := hxf.four
          have ff0 := hxf.free 0
          have ff1 := hxf.free 1
          have ff2 := hxf.free 2
          have ff3 := hxf.free 3
          have lf := hxf.lt
          clear kf0 kf1 kf2 kf3 ff0 ff1 ff2 ff3 lf
          obtain ⟨kf0, kf1, kf2, kf3⟩ := hxf.four
          have ff0 := hxf.free 0
          have ff1 := hxf.free 1
          have ff2 := hxf.free 2
          have ff3 := hxf.free 3
          have lf := hxf.lt
          obtain ⟨kr0, kr1, kr2, kr3⟩ := hxr.four
          have fr0 := hxr.free 0
          have fr1 := hxr.free 1
          have fr2 := hxr.free 2
          have fr3 := hxr.free 3
          have lr := hxr.lt
          go_wp2_with fail
          have hbx := ((((hxr.set 0 (.int .i64 (ya))).set 1 (.int .i64 (yb))).set 2 (.int .i64 (yc))).set 3 (.int .i64 (yd)))
          obtain ⟨q0, q1, q2, q3⟩ := hbx.four
          refine bodyPost_ret (v := .agg #[.int .i64 (ya), .int .i64 (yb), .int .i64 (yc), .int .i64 (yd)]) (by simp [results, Tryd.results42, go_sem, q0, q1, q2, q3]) rfl ?_
          have hf := Dg.set (Dg.set (Dg.set (Dg.set (hd.more (show T + 26 ≤ T + 40 by omega)) hgl (Nat.le_refl _) 0 (.int .i64 (ya))) hgl (Nat.le_refl _) 1 (.int .i64 (yb))) hgl (Nat.le_refl _) 2 (.int .i64 (yc))) hgl (Nat.le_refl _) 3 (.int .i64 (yd))
          exact ⟨ya, yb, yc, yd, ⟨by omega, by omega⟩, ⟨by omega, by omega⟩, ⟨by omega, by omega⟩, ⟨by omega, by omega⟩, rfl, hf.cur, hf.gr⟩
        | true =>
          clear kf0 kf1 kf2 kf3 ff0 ff1 ff2 ff3 lf
          obtain ⟨kf0, kf1, kf2, kf3⟩ := hxf.four
          have ff0 := hxf.free 0
          have ff1 := hxf.free 1
          have ff2 := hxf.free 2
          have ff3 := hxf.free 3
          have lf := hxf.lt
          go_wp2_with fail
          have hrw := Box.new w17 3 #[.int .i64 1000, .int .i64 (-1000)]
          have hA := below_alloc1 w17 (.cells #[.int .i64 1000, .int .i64 (-1000)] 3)
          have nrw : w17.heap.size ≠ g := by have := hd.gr.size; omega
          replace hd := hd.kept hA
          replace hxr := hxr.kept hA
          replace hxf := hxf.kept hA
          clear hA
          have hri := row_of (lo := -1000) (hi := 1000) hrw (fun k hk => by
            have hk' : k < 2 := hk
            rcases k with _ | _ | k
            all_goals first | exact ⟨_, rfl, by omega, by omega⟩ | omega)
          refine (among_any g _ A n c (T + 26) 2 _ (-1000) (1000) _ hd.cur (by omega) hn hd.rd (by omega) (by omega) hri nrw).mono ?_
          rintro e w19 ⟨zd, ⟨zdl, zdh⟩, rfl, hc1, hg1⟩
          replace hd := hd.on hc1 hg1
          replace hxr := hxr.on hg1 nr
          replace hxf := hxf.on hg1 nf
          clear hc1 hg1
          clear hri hrw nrw
          clear kf0 kf1 kf2 kf3 ff0 ff1 ff2 ff3 lf
          obtain ⟨kf0, kf1, kf2, kf3⟩ := hxf.four
          have ff0 := hxf.free 0
          have ff1 := hxf.free 1
          have ff2 := hxf.free 2
          have ff3 := hxf.free 3
          have lf := hxf.lt
          obtain ⟨kr0, kr1, kr2, kr3⟩ := hxr.four
          have fr0 := hxr.free 0
          have fr1 := hxr.free 1
          have fr2 := hxr.free 2
          have fr3 := hxr.free 3
          have lr := hxr.lt
          go_wp2_with fail
          clear kf0 kf1 kf2 kf3 ff0 ff1 ff2 ff3 lf kr0 kr1 kr2 kr3 fr0 fr1 fr2 fr3 lr
          replace hxr := hxr.apart (show w.heap.size ≠ gf from by omega) 3 (.int .i64 zd)
          replace hxf := hxf.set 3 (.int .i64 zd)
          replace hd := hd.set hgl (sf) 3 (.int .i64 zd)
          have hbx := ((((hxr.set 0 (.int .i64 (ya))).set 1 (.int .i64 (yb))).set 2 (.int .i64 (yc))).set 3 (.int .i64 (zd)))
          obtain ⟨q0, q1, q2, q3⟩ := hbx.four
          refine bodyPost_ret (v := .agg #[.int .i64 (ya), .int .i64 (yb), .int .i64 (yc), .int .i64 (zd)]) (by simp [results, Tryd.results42, go_sem, q0, q1, q2, q3]) rfl ?_
          have hf := Dg.set (Dg.set (Dg.set (Dg.set (hd.more (show T + 28 ≤ T + 40 by omega)) hgl (Nat.le_refl _) 0 (.int .i64 (ya))) hgl (Nat.le_refl _) 1 (.int .i64 (yb))) hgl (Nat.le_refl _) 2 (.int .i64 (yc))) hgl (Nat.le_refl _) 3 (.int .i64 (zd))
          exact ⟨ya, yb, yc, zd, ⟨by omega, by omega⟩, ⟨by omega, by omega⟩, ⟨by omega, by omega⟩, ⟨by omega, by omega⟩, rfl, hf.cur, hf.gr⟩
  · have e0 : (r0 == 0) = false := beq_eq_false_iff_ne.2 h0
    by_cases h1 : r0 = 1
    · subst h1
      go_wp2_with fail
      refine (pick_any g A n c (T + 2) 41 _ hd.cur (by omega) hn hd.rd (by omega) (by omega)).mono ?_
      rintro e w2 ⟨x1, ⟨x1l, x1h⟩, rfl, hc1, hg1⟩
      replace hd := hd.on hc1 hg1
      replace hxr := hxr.on hg1 nr
      clear hc1 hg1
      go_wp2_with fail
      have hrw := Box.new w2 3 #[.int .i64 (-16), .int .i64 (-1), .int .i64 0, .int .i64 (-25), .int .i64 (x1 - 20)]
      have hA := below_alloc1 w2 (.cells #[.int .i64 (-16), .int .i64 (-1), .int .i64 0, .int .i64 (-25), .int .i64 (x1 - 20)] 3)
      have nrw : w2.heap.size ≠ g := by have := hd.gr.size; omega
      replace hd := hd.kept hA
      replace hxr := hxr.kept hA
      clear hA
      have hri := row_of (lo := -25) (hi := 20) hrw (fun k hk => by
        have hk' : k < 5 := hk
        rcases k with _ | _ | _ | _ | _ | k
        all_goals first | exact ⟨_, rfl, by omega, by omega⟩ | omega)
      refine (among_any g _ A n c (T + 4) 5 _ (-25) (20) _ hd.cur (by omega) hn hd.rd (by omega) (by omega) hri nrw).mono ?_
      rintro e w4 ⟨y1, ⟨y1l, y1h⟩, rfl, hc1, hg1⟩
      replace hd := hd.on hc1 hg1
      replace hxr := hxr.on hg1 nr
      clear hc1 hg1
      clear hri hrw nrw
      go_wp2_with fail
      refine (pick_any g A n c (T + 6) 41 _ hd.cur (by omega) hn hd.rd (by omega) (by omega)).mono ?_
      rintro e w5 ⟨x2, ⟨x2l, x2h⟩, rfl, hc1, hg1⟩
      replace hd := hd.on hc1 hg1
      replace hxr := hxr.on hg1 nr
      clear hc1 hg1
      go_wp2_with fail
      have hrw := Box.new w5 3 #[.int .i64 16, .int .i64 0, .int .i64 1, .int .i64 (x2 - 20)]
      have hA := below_alloc1 w5 (.cells #[.int .i64 16, .int .i64 0, .int .i64 1, .int .i64 (x2 - 20)] 3)
      have nrw : w5.heap.size ≠ g := by have := hd.gr.size; omega
      replace hd := hd.kept hA
      replace hxr := hxr.kept hA
      clear hA
      have hri := row_of (lo := -20) (hi := 20) hrw (fun k hk => by
        have hk' : k < 4 := hk
        rcases k with _ | _ | _ | _ | k
        all_goals first | exact ⟨_, rfl, by omega, by omega⟩ | omega)
      refine (among_any g _ A n c (T + 8) 4 _ (-20) (20) _ hd.cur (by omega) hn hd.rd (by omega) (by omega) hri nrw).mono ?_
      rintro e w7 ⟨y2, ⟨y2l, y2h⟩, rfl, hc1, hg1⟩
      replace hd := hd.on hc1 hg1
      replace hxr := hxr.on hg1 nr
      clear hc1 hg1
      clear hri hrw nrw
      obtain ⟨kr0, kr1, kr2, kr3⟩ := hxr.four
      have fr0 := hxr.free 0
      have fr1 := hxr.free 1
      have fr2 := hxr.free 2
      have fr3 := hxr.free 3
      have lr := hxr.lt
      go_wp2_with fail
      have hbx := ((((hxr.set 0 (.int .i64 (1))).set 1 (.int .i64 (0))).set 2 (.int .i64 (y1))).set 3 (.int .i64 (y2)))
      obtain ⟨q0, q1, q2, q3⟩ := hbx.four
      refine bodyPost_ret (v := .agg #[.int .i64 (1), .int .i64 (0), .int .i64 (y1), .int .i64 (y2)]) (by simp [results, Tryd.results42, go_sem, q0, q1, q2, q3]) rfl ?_
      have hf := Dg.set (Dg.set (Dg.set (Dg.set (hd.more (show T + 10 ≤ T + 40 by omega)) hgl (Nat.le_refl _) 0 (.int .i64 (1))) hgl (Nat.le_refl _) 1 (.int .i64 (0))) hgl (Nat.le_refl _) 2 (.int .i64 (y1))) hgl (Nat.le_refl _) 3 (.int .i64 (y2))
      exact ⟨1, 0, y1, y2, ⟨by omega, by omega⟩, ⟨by omega, by omega⟩, ⟨by omega, by omega⟩, ⟨by omega, by omega⟩, rfl, hf.cur, hf.gr⟩
    · have e1 : (r0 == 1) = false := beq_eq_false_iff_ne.2 h1
      clear h0 h1
      go_wp2_with fail
      refine (pick_any g A n c (T + 2) 41 _ hd.cur (by omega) hn hd.rd (by omega) (by omega)).mono ?_
      rintro e w2 ⟨x1, ⟨x1l, x1h⟩, rfl, hc1, hg1⟩
      replace hd := hd.on hc1 hg1
      replace hxr := hxr.on hg1 nr
      clear hc1 hg1
      go_wp2_with fail
      refine (pick_any g A n c (T + 4) 2001 _ hd.cur (by omega) hn hd.rd (by omega) (by omega)).mono ?_
      rintro e w3 ⟨x2, ⟨x2l, x2h⟩, rfl, hc1, hg1⟩
      replace hd := hd.on hc1 hg1
      replace hxr := hxr.on hg1 nr
      clear hc1 hg1
      go_wp2_with fail
      have hA := below_alloc1 w3 (.cells #[.int .i64 0, .int .i64 1, .int .i64 (-1), .int .i64 2, .int .i64 (-3), .int .i64 6, .int .i64 (x1 - 20), .int .i64 (x2 - 1000)] 3)
      have hxl := Box.new w3 3 #[.int .i64 0, .int .i64 1, .int .i64 (-1), .int .i64 2, .int .i64 (-3), .int .i64 6, .int .i64 (x1 - 20), .int .i64 (x2 - 1000)]
      have sl : w.heap.size ≤ w3.heap.size := hd.gr.size
      have nl : w3.heap.size ≠ g := by omega
      have orl := hxr.lt
      replace hd := hd.kept hA
      replace hxr := hxr.kept hA
      clear hA
      generalize w3.alloc (.cells #[.int .i64 0, .int .i64 1, .int .i64 (-1), .int .i64 2, .int .i64 (-3), .int .i64 6, .int .i64 (x1 - 20), .int .i64 (x2 - 1000)] 3) = w4 at *
      obtain ⟨gl, el⟩ : ∃ x, x = w3.heap.size := ⟨_, rfl⟩
      rw [← el] at hxl sl nl orl ⊢
      clear el
      have hri := row_of (lo := -1000) (hi := 1000) hxl (fun k hk => by
        have hk' : k < 8 := hk
        rcases k with _ | _ | _ | _ | _ | _ | _ | _ | k
        all_goals first | exact ⟨_, rfl, by omega, by omega⟩ | omega)
      refine (among_any g _ A n c (T + 6) 8 _ (-1000) (1000) _ hd.cur (by omega) hn hd.rd (by omega) (by omega) hri nl).mono ?_
      rintro e w5 ⟨ya, ⟨yal, yah⟩, rfl, hc1, hg1⟩
      replace hd := hd.on hc1 hg1
      replace hxr := hxr.on hg1 nr
      replace hxl := hxl.on hg1 nl
      clear hc1 hg1
      clear hri
      go_wp2_with fail
      have hri := row_of (lo := -1000) (hi := 1000) hxl (fun k hk => by
        have hk' : k < 8 := hk
        rcases k with _ | _ | _ | _ | _ | _ | _ | _ | k
        all_goals first | exact ⟨_, rfl, by omega, by omega⟩ | omega)
      refine (among_any g _ A n c (T + 8) 8 _ (-1000) (1000) _ hd.cur (by omega) hn hd.rd (by omega) (by omega) hri nl).mono ?_
      rintro e w6 ⟨yb, ⟨ybl, ybh⟩, rfl, hc1, hg1⟩
      replace hd := hd.on hc1 hg1
      replace hxr := hxr.on hg1 nr
      replace hxl := hxl.on hg1 nl
      clear hc1 hg1
      clear hri
      go_wp2_with fail
      have hri := row_of (lo := -1000) (hi := 1000) hxl (fun k hk => by
        have hk' : k < 8 := hk
        rcases k with _ | _ | _ | _ | _ | _ | _ | _ | k
        all_goals first | exact ⟨_, rfl, by omega, by omega⟩ | omega)
      refine (among_any g _ A n c (T + 10) 8 _ (-1000) (1000) _ hd.cur (by omega) hn hd.rd (by omega) (by omega) hri nl).mono ?_
      rintro e w7 ⟨yc, ⟨ycl, ych⟩, rfl, hc1, hg1⟩
      replace hd := hd.on hc1 hg1
      replace hxr := hxr.on hg1 nr
      replace hxl := hxl.on hg1 nl
      clear hc1 hg1
      clear hri
      go_wp2_with fail
      have hri := row_of (lo := -1000) (hi := 1000) hxl (fun k hk => by
        have hk' : k < 8 := hk
        rcases k with _ | _ | _ | _ | _ | _ | _ | _ | k
        all_goals first | exact ⟨_, rfl, by omega, by omega⟩ | omega)
      refine (among_any g _ A n c (T + 12) 8 _ (-1000) (1000) _ hd.cur (by omega) hn hd.rd (by omega) (by omega) hri nl).mono ?_
      rintro e w8 ⟨yd, ⟨ydl, ydh⟩, rfl, hc1, hg1⟩
      replace hd := hd.on hc1 hg1
      replace hxr := hxr.on hg1 nr
      replace hxl := hxl.on hg1 nl
      clear hc1 hg1
      clear hri
      clear hxl nl sl orl
      by_cases hz : ya = 0
      · subst hz
        go_wp2_with fail
        have hA := below_alloc1 w8 (.cells #[.int .i64 0, .int .i64 yb, .int .i64 yc, .int .i64 yd] 24)
        have hxf := Box.new w8 24 #[.int .i64 0, .int .i64 yb, .int .i64 yc, .int .i64 yd]
        have sf : w.heap.size ≤ w8.heap.size := hd.gr.size
        have nf : w8.heap.size ≠ g := by omega
        have orf := hxr.lt
        replace hd := hd.kept hA
        replace hxr := hxr.kept hA
        have zf : (w8.alloc (.cells #[.int .i64 0, .int .i64 yb, .int .i64 yc, .int .i64 yd] 24)).heap.size = w8.heap.size + 1 := by simp
        clear hA
        generalize w8.alloc (.cells #[.int .i64 0, .int .i64 yb, .int .i64 yc, .int .i64 yd] 24) = w9 at *
        obtain ⟨gf, ef⟩ : ∃ x, x = w8.heap.size := ⟨_, rfl⟩
        rw [← ef] at hxf sf nf orf zf ⊢
        clear ef
        have hrw := Box.new w9 3 #[.int .i64 1, .int .i64 1000, .int .i64 (-1000)]
        have hA := below_alloc1 w9 (.cells #[.int .i64 1, .int .i64 1000, .int .i64 (-1000)] 3)
        have nrw : w9.heap.size ≠ g := by have := hd.gr.size; omega
        replace hd := hd.kept hA
        replace hxr := hxr.kept hA
        replace hxf := hxf.kept hA
        clear hA
        rw [zf] at hrw nrw
        clear zf
        have hri := row_of (lo := -1000) (hi := 1000) hrw (fun k hk => by
          have hk' : k < 3 := hk
          rcases k with _ | _ | _ | k
          all_goals first | exact ⟨_, rfl, by omega, by omega⟩ | omega)
        refine (among_any g _ A n c (T + 14) 3 _ (-1000) (1000) _ hd.cur (by omega) hn hd.rd (by omega) (by omega) hri nrw).mono ?_
        rintro e w11 ⟨za, ⟨zal, zah⟩, rfl, hc1, hg1⟩
        replace hd := hd.on hc1 hg1
        replace hxr := hxr.on hg1 nr
        replace hxf := hxf.on hg1 nf
        clear hc1 hg1
        clear hri hrw nrw
        obtain ⟨kf0, kf1, kf2, kf3⟩ := hxf.four
        have ff0 := hxf.free 0
        have ff1 := hxf.free 1
        have ff2 := hxf.free 2
        have ff3 := hxf.free 3
        have lf := hxf.lt
        go_wp2_with fail
        clear kf0 kf1 kf2 kf3 ff0 ff1 ff2 ff3 lf
        replace hxr := hxr.apart (show w.heap.size ≠ gf from by omega) 0 (.int .i64 za)
        replace hxf := hxf.set 0 (.int .i64 za)
        replace hd := hd.set hgl (sf) 0 (.int .i64 za)
        generalize (w11.setCell ⟨gf, 0, none⟩ (.int .i64 za)) = w12 at *
        obtain ⟨kf0, kf1, kf2, kf3⟩ := hxf.four
        have ff0 := hxf.free 0
        have ff1 := hxf.free 1
        have ff2 := hxf.free 2
        have ff3 := hxf.free 3
        have lf := hxf.lt
        refine (one_any g A n c (T + 16) 12 _ hd.cur (by omega) hn hd.rd (by omega) (by omega)).mono ?_
        rintro e w13 ⟨bo, rfl, hc1, hg1⟩
        replace hd := hd.on hc1 hg1
        replace hxr := hxr.on hg1 nr
        replace hxf := hxf.on hg1 nf
        clear hc1 hg1
        cases bo with
        | false =>
          clear kf0 kf1 kf2 kf3 ff0 ff1 ff2 ff3 lf
          obtain ⟨kf0, kf1, kf2, kf3⟩ := hxf.four
          have ff0 := hxf.free 0
          have ff1 := hxf.free 1
          have ff2 := hxf.free 2
          have ff3 := hxf.free 3
          have lf := hxf.lt
          clear kf0 kf1 kf2 kf3 ff0 ff1 ff2 ff3 lf
          obtain ⟨kf0, kf1, kf2, kf3⟩ := hxf.four
          have ff0 := hxf.free 0
          have ff1 := hxf.free 1
          have ff2 := hxf.free 2
          have ff3 := hxf.free 3
          have lf := hxf.lt
          obtain ⟨kr0, kr1, kr2, kr3⟩ := hxr.four
          have fr0 := hxr.free 0
          have fr1 := hxr.free 1
          have fr2 := hxr.free 2
          have fr3 := hxr.free 3
          have lr := hxr.lt
          go_wp2_with fail
          have hbx := ((((hxr.set 0 (.int .i64 (za))).set 1 (.int .i64 (yb))).set 2 (.int .i64 (yc))).set 3 (.int .i64 (yd)))
          obtain ⟨q0, q1, q2, q3⟩ := hbx.four
          refine bodyPost_ret (v := .agg #[.int .i64 (za), .int .i64 (yb), .int .i64 (yc), .int .i64 (yd)]) (by simp [results, Tryd.results42, go_sem, q0, q1, q2, q3]) rfl ?_
          have hf := Dg.set (Dg.set (Dg.set (Dg.set (hd.more (show T + 18 ≤ T + 40 by omega)) hgl (Nat.le_refl _) 0 (.int .i64 (za))) hgl (Nat.le_refl _) 1 (.int .i64 (yb))) hgl (Nat.le_refl _) 2 (.int .i64 (yc))) hgl (Nat.le_refl _) 3 (.int .i64 (yd))
          exact ⟨za, yb, yc, yd, ⟨by omega, by omega⟩, ⟨by omega, by omega⟩, ⟨by omega, by omega⟩, ⟨by omega, by omega⟩, rfl, hf.cur, hf.gr⟩
        | true =>
          clear kf0 kf1 kf2 kf3 ff0 ff1 ff2 ff3 lf
          obtain ⟨kf0, kf1, kf2, kf3⟩ := hxf.four
          have ff0 := hxf.free 0
          have ff1 := hxf.free 1
          have ff2 := hxf.free 2
          have ff3 := hxf.free 3
          have lf := hxf.lt
          go_wp2_with fail
          have hrw := Box.new w13 3 #[.int .i64 1000, .int .i64 (-1000)]
          have hA := below_alloc1 w13 (.cells #[.int .i64 1000, .int .i64 (-1000)] 3)
          have nrw : w13.heap.size ≠ g := by have := hd.gr.size; omega
          replace hd := hd.kept hA
          replace hxr := hxr.kept hA
          replace hxf := hxf.kept hA
          clear hA
          have hri := row_of (lo := -1000) (hi := 1000) hrw (fun k hk => by
            have hk' : k < 2 := hk
            rcases k with _ | _ | k
            all_goals first | exact ⟨_, rfl, by omega, by omega⟩ | omega)
          refine (among_any g _ A n c (T + 18) 2 _ (-1000) (1000) _ hd.cur (by omega) hn hd.rd (by omega) (by omega) hri nrw).mono ?_
          rintro e w15 ⟨zd, ⟨zdl, zdh⟩, rfl, hc1, hg1⟩
          replace hd := hd.on hc1 hg1
          replace hxr := hxr.on hg1 nr
          replace hxf := hxf.on hg1 nf
          clear hc1 hg1
          clear hri hrw nrw
          clear kf0 kf1 kf2 kf3 ff0 ff1 ff2 ff3 lf
          obtain ⟨kf0, kf1, kf2, kf3⟩ := hxf.four
          have ff0 := hxf.free 0
          have ff1 := hxf.free 1
          have ff2 := hxf.free 2
          have ff3 := hxf.free 3
          have lf := hxf.lt
          obtain ⟨kr0, kr1, kr2, kr3⟩ := hxr.four
          have fr0 := hxr.free 0
          have fr1 := hxr.free 1
          have fr2 := hxr.free 2
          have fr3 := hxr.free 3
          have lr := hxr.lt
          go_wp2_with fail
          clear kf0 kf1 kf2 kf3 ff0 ff1 ff2 ff3 lf kr0 kr1 kr2 kr3 fr0 fr1 fr2 fr3 lr
          replace hxr := hxr.apart (show w.heap.size ≠ gf from by omega) 3 (.int .i64 zd)
          replace hxf := hxf.set 3 (.int .i64 zd)
          replace hd := hd.set hgl (sf) 3 (.int .i64 zd)
          have hbx := ((((hxr.set 0 (.int .i64 (za))).set 1 (.int .i64 (yb))).set 2 (.int .i64 (yc))).set 3 (.int .i64 (zd)))
          obtain ⟨q0, q1, q2, q3⟩ := hbx.four
          refine bodyPost_ret (v := .agg #[.int .i64 (za), .int .i64 (yb), .int .i64 (yc), .int .i64 (zd)]) (by simp [results, Tryd.results42, go_sem, q0, q1, q2, q3]) rfl ?_
          have hf := Dg.set (Dg.set (Dg.set (Dg.set (hd.more (show T + 20 ≤ T + 40 by omega)) hgl (Nat.le_refl _) 0 (.int .i64 (za))) hgl (Nat.le_refl _) 1 (.int .i64 (yb))) hgl (Nat.le_refl _) 2 (.int .i64 (yc))) hgl (Nat.le_refl _) 3 (.int .i64 (zd))
          exact ⟨za, yb, yc, zd, ⟨by omega, by omega⟩, ⟨by omega, by omega⟩, ⟨by omega, by omega⟩, ⟨by omega, by omega⟩, rfl, hf.cur, hf.gr⟩
      · have ez : (ya == 0) = false := beq_eq_false_iff_ne.2 hz
        clear hz
        go_wp2_with fail
        have hA := below_alloc1 w8 (.cells #[.int .i64 ya, .int .i64 yb, .int .i64 yc, .int .i64 yd] 24)
        have hxf := Box.new w8 24 #[.int .i64 ya, .int .i64 yb, .int .i64 yc, .int .i64 yd]
        have sf : w.heap.size ≤ w8.heap.size := hd.gr.size
        have nf : w8.heap.size ≠ g := by omega
        have orf := hxr.lt
        replace hd := hd.kept hA
        replace hxr := hxr.kept hA
        clear hA
        generalize w8.alloc (.cells #[.int .i64 ya, .int .i64 yb, .int .i64 yc, .int .i64 yd] 24) = w9 at *
        obtain ⟨gf, ef⟩ : ∃ x, x = w8.heap.size := ⟨_, rfl⟩
        rw [← ef] at hxf sf nf orf ⊢
        clear ef
        obtain ⟨kf0, kf1, kf2, kf3⟩ := hxf.four
        have ff0 := hxf.free 0
        have ff1 := hxf.free 1
        have ff2 := hxf.free 2
        have ff3 := hxf.free 3
        have lf := hxf.lt
        refine (one_any g A n c (T + 14) 12 _ hd.cur (by omega) hn hd.rd (by omega) (by omega)).mono ?_
        rintro e w10 ⟨bo, rfl, hc1, hg1⟩
        replace hd := hd.on hc1 hg1
        replace hxr := hxr.on hg1 nr
        replace hxf := hxf.on hg1 nf
        clear hc1 hg1
        cases bo with
        | false =>
          clear kf0 kf1 kf2 kf3 ff0 ff1 ff2 ff3 lf
          obtain ⟨kf0, kf1, kf2, kf3⟩ := hxf.four
          have ff0 := hxf.free 0
          have ff1 := hxf.free 1
          have ff2 := hxf.free 2
          have ff3 := hxf.free 3
          have lf := hxf.lt
          clear kf0 kf1 kf2 kf3 ff0 ff1 ff2 ff3 lf
          obtain ⟨kf0, kf1, kf2, kf3⟩ := hxf.four
          have ff0 := hxf.free 0
          have ff1 := hxf.free 1
          have ff2 := hxf.free 2
          have ff3 := hxf.free 3
          have lf := hxf.lt
          obtain ⟨kr0, kr1, kr2, kr3⟩ := hxr.four
          have fr0 := hxr.free 0
          have fr1 := hxr.free 1
          have fr2 := hxr.free 2
          have fr3 := hxr.free 3
          have lr := hxr.lt
          go_wp2_with fail
          have hbx := ((((hxr.set 0 (.int .i64 (ya))).set 1 (.int .i64 (yb))).set 2 (.int .i64 (yc))).set 3 (.int .i64 (yd)))
          obtain ⟨q0, q1, q2, q3⟩ := hbx.four
          refine bodyPost_ret (v := .agg #[.int .i64 (ya), .int .i64 (yb), .int .i64 (yc), .int .i64 (yd)]) (by simp [results, Tryd.results42, go_sem, q0, q1, q2, q3]) rfl ?_
          have hf := Dg.set (Dg.set (Dg.set (Dg.set (hd.more (show T + 16 ≤ T + 40 by omega)) hgl (Nat.le_refl _) 0 (.int .i64 (ya))) hgl (Nat.le_refl _) 1 (.int .i64 (yb))) hgl (Nat.le_refl _) 2 (.int .i64 (yc))) hgl (Nat.le_refl _) 3 (.int .i64 (yd))
          exact ⟨ya, yb, yc, yd, ⟨by omega, by omega⟩, ⟨by omega, by omega⟩, ⟨by omega, by omega⟩, ⟨by omega, by omega⟩, rfl, hf.cur, hf.gr⟩
        | true =>
          clear kf0 kf1 kf2 kf3 ff0 ff1 ff2 ff3 lf
          obtain ⟨kf0, kf1, kf2, kf3⟩ := hxf.four
          have ff0 := hxf.free 0
          have ff1 := hxf.free 1
          have ff2 := hxf.free 2
          have ff3 := hxf.free 3
          have lf := hxf.lt
          go_wp2_with fail
          have hrw := Box.new w10 3 #[.int .i64 1000, .int .i64 (-1000)]
          have hA := below_alloc1 w10 (.cells #[.int .i64 1000, .int .i64 (-1000)] 3)
          have nrw : w10.heap.size ≠ g := by have := hd.gr.size; omega
          replace hd := hd.kept hA
          replace hxr := hxr.kept hA
          replace hxf := hxf.kept hA
          clear hA
          have hri := row_of (lo := -1000) (hi := 1000) hrw (fun k hk => by
            have hk' : k < 2 := hk
            rcases k with _ | _ | k
            all_goals first | exact ⟨_, rfl, by omega, by omega⟩ | omega)
          refine (among_any g _ A n c (T + 16) 2 _ (-1000) (1000) _ hd.cur (by omega) hn hd.rd (by omega) (by omega) hri nrw).mono ?_
          rintro e w12 ⟨zd, ⟨zdl, zdh⟩, rfl, hc1, hg1⟩
          replace hd := hd.on hc1 hg1
          replace hxr := hxr.on hg1 nr
          replace hxf := hxf.on hg1 nf
          clear hc1 hg1
          clear hri hrw nrw
          clear kf0 kf1 kf2 kf3 ff0 ff1 ff2 ff3 lf
          obtain ⟨kf0, kf1, kf2, kf3⟩ := hxf.four
          have ff0 := hxf.free 0
          have ff1 := hxf.free 1
          have ff2 := hxf.free 2
          have ff3 := hxf.free 3
          have lf := hxf.lt
          obtain ⟨kr0, kr1, kr2, kr3⟩ := hxr.four
          have fr0 := hxr.free 0
          have fr1 := hxr.free 1
          have fr2 := hxr.free 2
          have fr3 := hxr.free 3
          have lr := hxr.lt
          go_wp2_with fail
          clear kf0 kf1 kf2 kf3 ff0 ff1 ff2 ff3 lf kr0 kr1 kr2 kr3 fr0 fr1 fr2 fr3 lr
          replace hxr := hxr.apart (show w.heap.size ≠ gf from by omega) 3 (.int .i64 zd)
          replace hxf := hxf.set 3 (.int .i64 zd)
          replace hd := hd.set hgl (sf) 3 (.int .i64 zd)
          have hbx := ((((hxr.set 0 (.int .i64 (ya))).set 1 (.int .i64 (yb))).set 2 (.int .i64 (yc))).set 3 (.int .i64 (zd)))
          obtain ⟨q0, q1, q2, q3⟩ := hbx.four
          refine bodyPost_ret (v := .agg #[.int .i64 (ya), .int .i64 (yb), .int .i64 (yc), .int .i64 (zd)]) (by simp [results, Tryd.results42, go_sem, q0, q1, q2, q3]) rfl ?_
          have hf := Dg.set (Dg.set (Dg.set (Dg.set (hd.more (show T + 18 ≤ T + 40 by omega)) hgl (Nat.le_refl _) 0 (.int .i64 (ya))) hgl (Nat.le_refl _) 1 (.int .i64 (yb))) hgl (Nat.le_refl _) 2 (.int .i64 (yc))) hgl (Nat.le_refl _) 3 (.int .i64 (zd))
          exact ⟨ya, yb, yc, zd, ⟨by omega, by omega⟩, ⟨by omega, by omega⟩, ⟨by omega, by omega⟩, ⟨by omega, by omega⟩, rfl, hf.cur, hf.gr⟩

end Go.Proofs.YtanmkamagdajpaaDoor
