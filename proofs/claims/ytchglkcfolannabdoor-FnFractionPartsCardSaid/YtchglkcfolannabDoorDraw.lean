/- The cursor that draws are made of: next, pick, one, among: something within bounds comes back, and nothing but the cursor's block has turned (own work). -/
import Derived.Test.YtchglkcfolannabDoorFrBox
import Derived.Deep.QuietTactic
import Derived.BigQuiet
import Derived.IntWalk
import Derived.Laws.BitsLemmas
namespace Go.Proofs.YtchglkcfolannabDoor
open Go.RowKit Go.Joins

/-- Bytes that are read, below B. -/
def RdB (w : World) (B : Nat) (A : Option Addr) (n : Nat) : Prop :=
  0 < n → ∃ b o, A = some ⟨b, o, none⟩ ∧ b < B ∧ ∀ k, k < n → ∃ x : Nat, w.cell? ⟨b, o + k, none⟩ = some (.int .u8 x) ∧ x ≤ 255
/-- A cursor over the bytes, at most T steps on. -/
def Cur (w : World) (g : Nat) (A : Option Addr) (n c T : Nat) : Prop :=
  ∃ (t : Nat) (s : Int), Box w g 50 #[.slice A n c, .int .i64 (t : Int), .int .u64 s] ∧ t ≤ T ∧ 0 ≤ s ∧ s < 18446744073709551616

theorem RdB.grown {w w' : World} {g n : Nat} {A : Option Addr} (h : RdB w g A n) (hg : w.grownBy w' (some g)) : RdB w' g A n := by
  intro hn
  obtain ⟨b, o, rfl, hb, hc⟩ := h hn
  refine ⟨b, o, rfl, hb, fun k hk => ?_⟩
  obtain ⟨x, h1, h2⟩ := hc k hk
  have hlt := World.block_lt_of_cell? w _ h1
  exact ⟨x, (World.cell?_of_block (w := w) (hg.block b hlt (fun e => by have := Option.some.inj e; omega))).trans h1, h2⟩
theorem RdB.below {w w' : World} {B n : Nat} {A : Option Addr} (h : RdB w B A n) (hb : Below B w w') : RdB w' B A n := by
  intro hn
  obtain ⟨b, o, rfl, hB, hc⟩ := h hn
  refine ⟨b, o, rfl, hB, fun k hk => ?_⟩
  obtain ⟨x, h1, h2⟩ := hc k hk
  exact ⟨x, (hb.cell (p := ⟨b, o + k, none⟩) hB).trans h1, h2⟩
theorem RdB.more {w : World} {B B' n : Nat} {A : Option Addr} (h : RdB w B A n) (hB : B ≤ B') : RdB w B' A n := by
  intro hn
  obtain ⟨b, o, rfl, hb, hc⟩ := h hn
  exact ⟨b, o, rfl, by omega, hc⟩
theorem Cur.kept {w w' : World} {g n c T : Nat} {A : Option Addr} (h : Cur w g A n c T) (hb : Below w.heap.size w w') : Cur w' g A n c T := by
  obtain ⟨t, s, h1, h2, h3, h4⟩ := h
  exact ⟨t, s, h1.kept hb, h2, h3, h4⟩
theorem Cur.lt {w : World} {g n c T : Nat} {A : Option Addr} (h : Cur w g A n c T) : g < w.heap.size := by
  obtain ⟨t, s, h1, _⟩ := h
  exact h1.lt
theorem Cur.more {w : World} {g n c T T' : Nat} {A : Option Addr} (h : Cur w g A n c T) (hT : T ≤ T') : Cur w g A n c T' := by
  obtain ⟨t, s, h1, h2, h3, h4⟩ := h
  exact ⟨t, s, h1, by omega, h3, h4⟩

theorem grown_on {a b c : World} {g : Nat} (h : a.grownBy b (some g)) (k : b.grownBy c (some g)) : a.grownBy c (some g) :=
  ⟨k.os.trans h.os, k.tape.trans h.tape, k.output.trans h.output, Nat.le_trans h.size k.size, fun i hi hne => (k.block i (Nat.lt_of_lt_of_le hi h.size) hne).trans (h.block i hi hne)⟩
theorem grown_below {a b : World} {g : Nat} (h : Below a.heap.size a b) : a.grownBy b (some g) := ⟨h.os, h.tape, h.output, h.size, fun i hi _ => h.block i hi⟩

/-- What a draw hands back. -/
def GivesDraw (w : World) (g : Nat) (A : Option Addr) (n c T : Nat) (P : Int → Prop) (e : Ending) (w' : World) : Prop :=
  ∃ r : Int, P r ∧ e = .returned (.int .i64 r) ∧ Cur w' g A n c T ∧ w.grownBy w' (some g)

theorem grown_drawn {a b : World} {row : Option Nat} (h : a.grownBy b row) (n : Nat) : a.grownBy (b.drewN n) row := ⟨h.os, h.tape, h.output, h.size, h.block⟩
theorem u64_bd (x : Int) : 0 ≤ IntKind.u64.wrap x ∧ IntKind.u64.wrap x < 18446744073709551616 := by rw [IntKind.wrap_u64]; omega
theorem low_byte {x : Int} (h0 : 0 ≤ x) (h1 : x < 16777216) : 0 ≤ wrap64 (bits .and .u64 x 255) ∧ wrap64 (bits .and .u64 x 255) ≤ 255 := by
  have h := bits_mask .u64 24 (by decide) (fun n a b => by rw [IntKind.wrap_u64]; have e : ((2 : Int) ^ 24) = 16777216 := by decide
                                                           rw [e] at b; omega) 8 (by decide) x h0 (by have e : ((2 : Int) ^ 24) = 16777216 := by decide
                                                                                                      rw [e]; exact h1)
  have e : ((2 : Int) ^ 8 - 1) = 255 := by decide
  have e2 : ((2 : Int) ^ 8) = 256 := by decide
  rw [e, e2] at h
  rw [h]
  have h2 : wrap64 (x % 256) = x % 256 := by unfold wrap64; omega
  rw [h2]
  omega
/-- The world behind the two stores of next. -/
theorem next_world {w : World} {g t : Nat} {v : Value} {s : Int} (hx : Box w g 50 #[v, .int .i64 (t : Int), .int .u64 s]) (m : Nat) (S : Int) :
    let W := ((w.drewN m).setCell ⟨g, 1, none⟩ (.int .i64 ((t : Int) + 1))).setCell ⟨g, 2, none⟩ (.int .u64 S)
    Box W g 50 #[v, .int .i64 ((t : Int) + 1), .int .u64 S] ∧ w.grownBy W (some g) := by
  intro W
  refine ⟨Box.set (Box.set (show Box (w.drewN m) g _ _ from hx) 1 (.int .i64 ((t : Int) + 1))) 2 (.int .u64 S), ?_⟩
  exact ⟨rfl, rfl, rfl, by simp [W, World.setCell], fun k hk hne => by
    have hkg : k ≠ g := fun e => hne (by rw [e])
    show (((w.drewN m).setCell ⟨g, 1, none⟩ _).setCell ⟨g, 2, none⟩ _).heap[k]? = w.heap[k]?
    rw [Below.heap_setCell _ _ _ _ hkg, Below.heap_setCell _ _ _ _ hkg]
    rfl⟩

set_option maxHeartbeats 1000000 in
theorem next_any (g : Nat) (A : Option Addr) (n c T : Nat) (w : World) (hc : Cur w g A n c T) (hT : T ≤ 1000000) (hn : n ≤ 9223372036854775807) (hr : RdB w g A n) :
    Calls Tryd.prog 60 #[.pointer (some ⟨g, 0, none⟩)] w (GivesDraw w g A n c (T + 1) (fun r => 0 ≤ r ∧ r ≤ 255)) := by
  obtain ⟨t, s, hx, ht, hs0, hs1⟩ := hc
  have k0 := hx.cell 0
  have k1 := hx.cell 1
  have k2 := hx.cell 2
  have f1 := hx.free 1
  have f2 := hx.free 2
  have hg := hx.lt
  by_cases hlt : t < n
  · obtain ⟨b, o, rfl, hb, hcl⟩ := hr (by omega)
    obtain ⟨x, hx1, hx2⟩ := hcl t hlt
    have hbw : b < w.heap.size := by omega
    have hw := next_world hx
    replace hw := Lib.hid hw
    clear hcl hr
    go_enter Tryd.func60, Tryd.ntmps60
    go_wp2_with fail
    go_quiet (fail)
    go_wp2_with fail
    go_quiet (fail)
    go_wp2_with fail
    rename_i _ m1 _ _ _ _
    obtain ⟨h1, h2⟩ := hw.out (m1 + nq) (IntKind.u64.wrap (IntKind.u64.wrap (IntKind.u64.wrap (s * 6364136223846793005) + x) + 1442695040888963407))
    have hS := u64_bd (IntKind.u64.wrap (IntKind.u64.wrap (s * 6364136223846793005) + x) + 1442695040888963407)
    generalize IntKind.u64.wrap (IntKind.u64.wrap (IntKind.u64.wrap (s * 6364136223846793005) + (x : Int)) + 1442695040888963407) = S at *
    generalize ((w.drewN (m1 + nq)).setCell ⟨g, 1, none⟩ (.int .i64 ((t : Int) + 1))).setCell ⟨g, 2, none⟩ (.int .u64 S) = W at *
    clear k0 k1 k2 f1 f2 hx hx1 hw
    have k0 := h1.cell 0
    have k1 := h1.cell 1
    have d1 : (t : Int) + 1 ≤ n := by omega
    go_quiet (fail)
    go_wp2_with fail
    go_ret
    exact ⟨x, ⟨by omega, by omega⟩, rfl, ⟨t + 1, S, h1, by omega, hS.1, hS.2⟩, grown_drawn h2 _⟩
  · have hw := next_world hx
    replace hw := Lib.hid hw
    have d0 : ¬ (t : Int) < n := by omega
    clear hr
    go_enter Tryd.func60, Tryd.ntmps60
    go_wp2_with fail
    go_quiet (fail)
    go_wp2_with fail
    obtain ⟨h1, h2⟩ := hw.out nq (IntKind.u64.wrap (IntKind.u64.wrap (IntKind.u64.wrap (s * 6364136223846793005)) + 1442695040888963407))
    have hS := u64_bd (IntKind.u64.wrap (IntKind.u64.wrap (s * 6364136223846793005)) + 1442695040888963407)
    generalize IntKind.u64.wrap (IntKind.u64.wrap (IntKind.u64.wrap (s * 6364136223846793005)) + 1442695040888963407) = S at *
    generalize ((w.drewN nq).setCell ⟨g, 1, none⟩ (.int .i64 ((t : Int) + 1))).setCell ⟨g, 2, none⟩ (.int .u64 S) = W at *
    clear k0 k1 k2 f1 f2 hx hw
    have k0 := h1.cell 0
    have k1 := h1.cell 1
    have k2 := h1.cell 2
    have d1 : ¬ (t : Int) + 1 ≤ n := by omega
    go_quiet (fail)
    go_wp2_with fail
    go_ret
    exact ⟨_, low_byte (by omega) (by omega), rfl, ⟨t + 1, S, h1, by omega, hS.1, hS.2⟩, grown_drawn h2 _⟩

set_option maxHeartbeats 1000000 in
theorem pick_any (g : Nat) (A : Option Addr) (n c T m : Nat) (w : World) (hc : Cur w g A n c T) (hT : T + 2 ≤ 1000000) (hn : n ≤ 9223372036854775807) (hr : RdB w g A n) (hm1 : 1 ≤ m) (hm : m ≤ 1000000) :
    Calls Tryd.prog 46 #[.pointer (some ⟨g, 0, none⟩), .int .i64 (m : Int)] w (GivesDraw w g A n c (T + 2) (fun r => 0 ≤ r ∧ r < m)) := by
  by_cases h1 : m = 1
  · have hc2 := Lib.hid (hc.more (T' := T + 2) (by omega))
    subst h1
    clear hc hr
    go_enter Tryd.func46, Tryd.ntmps46
    go_wp2_with fail
    go_ret
    exact ⟨0, ⟨by omega, by omega⟩, rfl, hc2.out, World.grownBy.refl _ _⟩
  · have cn := next_any g A n c T w hc (by omega) hn hr
    have cn2 := fun W (hc : Cur W g A n c (T + 1)) (hr : RdB W g A n) => next_any g A n c (T + 1) W hc (by omega) hn hr
    replace cn := Lib.hid cn
    replace cn2 := Lib.hid cn2
    have p1 : (m : Int) ≠ 0 := by omega
    have p2 : ¬ (m : Int) ≤ 1 := by omega
    clear hc
    by_cases h2 : 200 < m
    · go_enter Tryd.func46, Tryd.ntmps46
      go_wp2_with fail
      refine (cn.out).mono ?_
      rintro e w1 ⟨r1, hr1, rfl, hc1, hg1⟩
      obtain ⟨a1, a2⟩ := hr1
      have hrd := hr.grown hg1
      go_wp2_with fail
      refine (cn2.out _ hc1 hrd).mono ?_
      rintro e w2 ⟨r2, hr2, rfl, hc2, hg2⟩
      obtain ⟨b1, b2⟩ := hr2
      go_wp2_with fail
      go_ret
      exact ⟨_, ⟨Int.emod_nonneg _ p1, Int.emod_lt_of_pos _ (by omega)⟩, rfl, hc2, grown_on hg1 hg2⟩
    · go_enter Tryd.func46, Tryd.ntmps46
      go_wp2_with fail
      refine (cn.out).mono ?_
      rintro e w1 ⟨r1, hr1, rfl, hc1, hg1⟩
      obtain ⟨a1, a2⟩ := hr1
      go_wp2_with fail
      go_ret
      exact ⟨_, ⟨Int.emod_nonneg _ p1, Int.emod_lt_of_pos _ (by omega)⟩, rfl, hc1.more (by omega), hg1⟩

/-- A list of ints within bounds, in a block of its own. -/
def RowIn (w : World) (b n : Nat) (lo hi : Int) : Prop := ∀ k : Nat, k < n → ∃ z : Int, w.cell? ⟨b, k, none⟩ = some (.int .i64 z) ∧ lo ≤ z ∧ z ≤ hi
theorem RowIn.grown {w w' : World} {g b n : Nat} {lo hi : Int} (h : RowIn w b n lo hi) (hg : w.grownBy w' (some g)) (hb : b ≠ g) : RowIn w' b n lo hi := by
  intro k hk
  obtain ⟨z, h1, h2⟩ := h k hk
  exact ⟨z, (World.cell?_of_block (w := w) (hg.block b (World.block_lt_of_cell? w _ h1) (fun e => hb (Option.some.inj e)))).trans h1, h2⟩

set_option maxHeartbeats 1000000 in
theorem among_any (g b : Nat) (A : Option Addr) (n c T m cap : Nat) (lo hi : Int) (w : World) (hc : Cur w g A n c T) (hT : T + 2 ≤ 1000000) (hn : n ≤ 9223372036854775807) (hr : RdB w g A n) (hm1 : 1 ≤ m) (hm : m ≤ 1000000)
    (hl : RowIn w b m lo hi) (hbg : b ≠ g) :
    Calls Tryd.prog 38 #[.pointer (some ⟨g, 0, none⟩), .slice (some ⟨b, 0, none⟩) m cap] w (GivesDraw w g A n c (T + 2) (fun r => lo ≤ r ∧ r ≤ hi)) := by
  have cn := pick_any g A n c T m w hc hT hn hr hm1 hm
  replace cn := Lib.hid cn
  replace hl := Lib.hid hl
  clear hc
  go_enter Tryd.func38, Tryd.ntmps38
  go_wp2_with fail
  refine (cn.out).mono ?_
  rintro e w1 ⟨r1, hr1, rfl, hc1, hg1⟩
  obtain ⟨r, rfl⟩ : ∃ r : Nat, r1 = r := ⟨r1.toNat, by omega⟩
  obtain ⟨z, hz, hz2⟩ := hl.out.grown hg1 hbg r (by omega)
  have hrm : r < m := by omega
  clear hr1
  go_wp2_with fail
  go_ret
  exact ⟨z, hz2, rfl, hc1, hg1⟩

/-- What 'one' hands back. -/
def GivesOne (w : World) (g : Nat) (A : Option Addr) (n c T : Nat) (e : Ending) (w' : World) : Prop :=
  ∃ b : Bool, e = .returned (.bool b) ∧ Cur w' g A n c T ∧ w.grownBy w' (some g)

set_option maxHeartbeats 1000000 in
theorem one_any (g : Nat) (A : Option Addr) (n c T m : Nat) (w : World) (hc : Cur w g A n c T) (hT : T + 2 ≤ 1000000) (hn : n ≤ 9223372036854775807) (hr : RdB w g A n) (hm1 : 1 ≤ m) (hm : m ≤ 1000000) :
    Calls Tryd.prog 34 #[.pointer (some ⟨g, 0, none⟩), .int .i64 (m : Int)] w (GivesOne w g A n c (T + 2)) := by
  have cn := pick_any g A n c T m w hc hT hn hr hm1 hm
  replace cn := Lib.hid cn
  clear hc
  go_enter Tryd.func34, Tryd.ntmps34
  go_wp2_with fail
  refine (cn.out).mono ?_
  rintro e w1 ⟨r1, hr1, rfl, hc1, hg1⟩
  go_wp2_with fail
  go_ret
  exact ⟨_, rfl, hc1, hg1⟩
end Go.Proofs.YtchglkcfolannabDoor
