/- of, spoilt, DrawParseFraction: loose contracts: some short string comes back (own work). -/
import Derived.Test.YtchglkcfolannabDoorFpDraw
import Derived.Test.YtchglkcfolannabDoorTxText
namespace Go.Proofs.YtchglkcfolannabDoor
open Go.RowKit Go.Joins

/-- A row of short strings. -/
def RowStr (w : World) (b n : Nat) : Prop := ∀ k : Nat, k < n → ∃ s : ByteArray, w.cell? ⟨b, k, none⟩ = some (.string s) ∧ s.size ≤ 64
theorem RowStr.grown {w w' : World} {g b n : Nat} (h : RowStr w b n) (hg : w.grownBy w' (some g)) (hb : b ≠ g) : RowStr w' b n := by
  intro k hk
  obtain ⟨z, h1, h2⟩ := h k hk
  exact ⟨z, (World.cell?_of_block (w := w) (hg.block b (World.block_lt_of_cell? w _ h1) (fun e => hb (Option.some.inj e)))).trans h1, h2⟩
theorem row_str {w : World} {b : Nat} {cs : Array Value} (h : Box w b 9 cs) (hc : ∀ k : Nat, k < cs.size → ∃ s : ByteArray, cs[k]? = some (.string s) ∧ s.size ≤ 64) : RowStr w b cs.size := by
  intro k hk
  obtain ⟨z, h1, h2⟩ := hc k hk
  exact ⟨z, (h.cell k).trans h1, h2⟩

/-- What a draw of a string hands back. -/
def GivesDrawT (w : World) (g : Nat) (A : Option Addr) (n c T : Nat) (e : Ending) (w' : World) : Prop :=
  ∃ s : ByteArray, s.size ≤ 64 ∧ e = .returned (.string s) ∧ Cur w' g A n c T ∧ w.grownBy w' (some g)

set_option maxHeartbeats 1000000 in
theorem of_any (g b : Nat) (A : Option Addr) (n c T m cap : Nat) (w : World) (hc : Cur w g A n c T) (hT : T + 2 ≤ 1000000) (hn : n ≤ 9223372036854775807) (hr : RdB w g A n) (hm1 : 1 ≤ m) (hm : m ≤ 1000000)
    (hl : RowStr w b m) (hbg : b ≠ g) :
    Calls Tryd.prog 48 #[.pointer (some ⟨g, 0, none⟩), .slice (some ⟨b, 0, none⟩) m cap] w (GivesDrawT w g A n c (T + 2)) := by
  have cn := pick_any g A n c T m w hc hT hn hr hm1 hm
  replace cn := Lib.hid cn
  replace hl := Lib.hid hl
  clear hc
  go_enter Tryd.func48, Tryd.ntmps48
  go_wp2_with fail
  refine (cn.out).mono ?_
  rintro e w1 ⟨r1, hr1, rfl, hc1, hg1⟩
  obtain ⟨r, rfl⟩ : ∃ r : Nat, r1 = r := ⟨r1.toNat, by omega⟩
  obtain ⟨z, hz, hz2⟩ := hl.out.grown hg1 hbg r (by omega)
  have hrm : r < m := by omega
  clear hr1
  go_wp2_with fail
  go_ret
  exact ⟨z, hz2, rfl, hc1, hg1⟩

theorem size_cut (s : ByteArray) (a b : Nat) (h1 : a ≤ b) (h2 : b ≤ s.size) : (s.extract a b).size = b - a := by
  rw [ByteArray.size_extract]; omega

set_option maxHeartbeats 4000000 in
theorem spoilt_any (g : Nat) (A : Option Addr) (n c T : Nat) (s0 u : ByteArray) (w : World) (hc : Cur w g A n c T) (hT : T + 14 ≤ 1000000) (hn : n ≤ 9223372036854775807) (hr : RdB w g A n) (hs0 : s0.size ≤ 60) (hu1 : 1 ≤ u.size) (hu : u.size ≤ 1000) :
    Calls Tryd.prog 47 #[.pointer (some ⟨g, 0, none⟩), .string s0, .string u] w (GivesDrawT w g A n c (T + 14)) := by
  have hd := Dg.start hc hr
  clear hc hr
  go_enter Tryd.func47, Tryd.ntmps47
  go_wp2_with fail
  refine (pick_any g A n c T 2 _ hd.cur (by omega) hn hd.rd (by omega) (by omega)).mono ?_
  rintro e w1 ⟨r, ⟨r1, r2⟩, rfl, hc1, hg1⟩
  obtain ⟨k, rfl⟩ : ∃ k : Nat, r = k := ⟨r.toNat, by omega⟩
  replace hd := hd.on hc1 hg1
  clear hc1 hg1
  go_wp2_with fail
  go_loopw [1, 7] (fun t q wr => ∃ (s : ByteArray) (m T1 : Nat), m ≤ 2 ∧ s.size + m ≤ 62 ∧ T1 + 6 * m ≤ T + 14 ∧ t = .string s ∧ q = .int .i64 m ∧ Dg w wr g A n c T1) (fun _ q _ => (intOf q).toNat)
  case atStart => exact ⟨s0, 1 + k, T + 2, by omega, by omega, by omega, rfl, by simp, hd⟩
  case round =>
    obtain ⟨s, m, T1, hm, hsm, hTm, rfl, rfl, hd⟩ := hrel
    by_cases h0 : 0 < m
    · by_cases h1 : 0 < s.size
      · go_wp2_with fail
        refine (pick_any g A n c T1 s.size _ hd.cur (by omega) hn hd.rd (by omega) (by omega)).mono ?_
        rintro e w2 ⟨r, ⟨i1, i2⟩, rfl, hc1, hg1⟩
        obtain ⟨i, rfl⟩ : ∃ k : Nat, r = k := ⟨r.toNat, by omega⟩
        replace hd := hd.on hc1 hg1
        have hi : i < s.size := by omega
        clear hc1 hg1 i1 i2
        go_wp2_with fail
        refine (pick_any g A n c (T1 + 2) u.size _ hd.cur (by omega) hn hd.rd (by omega) (by omega)).mono ?_
        rintro e w3 ⟨r, ⟨i1, i2⟩, rfl, hc1, hg1⟩
        obtain ⟨j, rfl⟩ : ∃ k : Nat, r = k := ⟨r.toNat, by omega⟩
        replace hd := hd.on hc1 hg1
        have hj : j < u.size := by omega
        clear hc1 hg1 i1 i2
        have hcv := conv1 (w3.alloc (.cells #[.int .u8 (u[j].toNat : Int)] 5)) w3.heap.size (u[j].toNat : Int) ((Box.new w3 5 #[.int .u8 (u[j].toNat : Int)]).cell 0)
        replace hd := hd.kept (below_alloc1 w3 (.cells #[.int .u8 (u[j].toNat : Int)] 5))
        go_wp2_with fail
        refine (pick_any g A n c (T1 + 2 + 2) 3 _ hd.cur (by omega) hn hd.rd (by omega) (by omega)).mono ?_
        rintro e w4 ⟨r, ⟨i1, i2⟩, rfl, hc1, hg1⟩
        replace hd := hd.on hc1 hg1
        clear hc1 hg1 hcv
        obtain ⟨y, hy⟩ : ∃ y, y = oneStr (u[j].toNat : Int) := ⟨_, rfl⟩
        rw [← hy]
        have hys : y.size = 1 := by rw [hy]; rfl
        clear hy
        have z1 := size_cut s 0 i (by omega) (by omega)
        have z2 := size_cut s i s.size (by omega) (by omega)
        have z3 := size_cut s (i + 1) s.size (by omega) (by omega)
        have z4 : (s.extract 0 i ++ y).size = i + 1 := by rw [ByteArray.size_append]; omega
        have y1 : (s.extract 0 i ++ y ++ s.extract i s.size).size = s.size + 1 := by rw [ByteArray.size_append]; omega
        have y2 : (s.extract 0 i ++ y ++ s.extract (i + 1) s.size).size = s.size := by rw [ByteArray.size_append]; omega
        have y3 : (s.extract 0 i ++ s.extract (i + 1) s.size).size = s.size - 1 := by rw [ByteArray.size_append]; omega
        have hadd1 := fun (W : World) => run_string_add_sum (P := Tryd.prog) W (s.extract 0 i) y (by omega)
        have hadd2 := fun (W : World) => run_string_add_sum (P := Tryd.prog) W (s.extract 0 i ++ y) (s.extract i s.size) (by omega)
        have hadd3 := fun (W : World) => run_string_add_sum (P := Tryd.prog) W (s.extract 0 i ++ y) (s.extract (i + 1) s.size) (by omega)
        have hadd4 := fun (W : World) => run_string_add_sum (P := Tryd.prog) W (s.extract 0 i) (s.extract (i + 1) s.size) (by omega)
        clear z1 z2 z3 z4
        have hdd : Dg w w4.drew g A n c (T1 + 2 + 2 + 2) := hd.kept ⟨rfl, rfl, rfl, Nat.le_refl _, fun _ _ => rfl⟩
        have hi2 : i ≤ s.size := by omega
        have hi3 : i + 1 ≤ s.size := by omega
        by_cases c0 : r = 0
        · subst c0
          go_wp2_with fail
          go_region
          all_goals go_wp2_with fail
          all_goals exact ⟨⟨_, m - 1, T1 + 2 + 2 + 2, by omega, by omega, by omega, rfl, by simp; omega, by assumption⟩, by simp [intOf]; omega⟩
        · have e0 : (r == 0) = false := beq_eq_false_iff_ne.2 c0
          by_cases c1 : r = 1
          · subst c1
            go_wp2_with fail
            go_region
            all_goals go_wp2_with fail
            all_goals exact ⟨⟨_, m - 1, T1 + 2 + 2 + 2, by omega, by omega, by omega, rfl, by simp; omega, by assumption⟩, by simp [intOf]; omega⟩
          · have e1 : (r == 1) = false := beq_eq_false_iff_ne.2 c1
            go_wp2_with fail
            go_region
            all_goals go_wp2_with fail
            all_goals exact ⟨⟨_, m - 1, T1 + 2 + 2 + 2, by omega, by omega, by omega, rfl, by simp; omega, by assumption⟩, by simp [intOf]; omega⟩
      · go_wp2_with fail
        go_ret
        exact ⟨s, by omega, rfl, (hd.more (by omega)).cur, hd.gr⟩
    · go_wp2_with fail
      go_ret
      exact ⟨s, by omega, rfl, (hd.more (by omega)).cur, hd.gr⟩
end Go.Proofs.YtchglkcfolannabDoor
