/- DrawParseFraction: a loose contract: some short string comes back (own work). -/
import Derived.Test.YtchglkcfolannabDoorFpText
import Derived.Test.YtchglkcfolannabDoorFpParse
namespace Go.Proofs.YtchglkcfolannabDoor
open Go.RowKit Go.Joins

/-- A short string. -/
def GivesDrawStr (w : World) (e : Ending) (w' : World) : Prop := ∃ s : ByteArray, s.size ≤ 64 ∧ e = .returned (.string s) ∧ Below w.heap.size w w'

set_option maxHeartbeats 4000000 in
theorem drawParse_any (A : Option Addr) (n c : Nat) (w : World) (hn : n ≤ 9223372036854775807) (hr : RdB w w.heap.size A n) :
    Calls Tryd.prog 17 #[.slice A n c] w (GivesDrawStr w) := by
  have hcur := cur_new w A n c
  have b3 := below_alloc1 w (.cells #[.slice A n c, .int .i64 0, .int .u64 0] 50)
  have hrd := (hr.below b3)
  have hd := Dg.start hcur hrd
  have hgl := hcur.lt
  obtain ⟨w1, hw1⟩ : ∃ x, x = w.alloc (.cells #[.slice A n c, .int .i64 0, .int .u64 0] 50) := ⟨_, rfl⟩
  obtain ⟨g, hg⟩ : ∃ g, g = w.heap.size := ⟨_, rfl⟩
  rw [← hw1] at hd b3 hgl
  rw [← hg] at hd hgl
  have hgle : w.heap.size ≤ g := by omega
  clear hcur hrd hr
  go_enter Tryd.func17, Tryd.ntmps17
  go_wp2_with fail
  rw [← hw1, ← hg]
  clear hw1 hg
  refine (fraction_good g A n c 0 _ hd.cur (by omega) hn hd.rd).mono ?_
  rintro e w2 ⟨p, q, hG, rfl, hc1, hg1⟩
  replace hd := hd.on hc1 hg1
  clear hc1 hg1
  go_wp2_with fail
  refine (frText_any p q _ hG).mono ?_
  rintro e w3 ⟨rfl, hb⟩
  replace hd := hd.kept hb
  have hsz := frB_size hG
  obtain ⟨s, hs⟩ : ∃ s, s = frB p q := ⟨_, rfl⟩
  rw [← hs] at hsz ⊢
  clear hb hG hs
  go_wp2_with fail
  refine (pick_any g A n c (0 + 12) 6 _ hd.cur (by omega) hn hd.rd (by omega) (by omega)).mono ?_
  rintro e w4 ⟨r, ⟨r1, r2⟩, rfl, hc1, hg1⟩
  replace hd := hd.on hc1 hg1
  clear hc1 hg1
  by_cases c0 : r = 0
  · subst c0
    go_wp2_with fail
    refine (spoilt_any g A n c (0 + 12 + 2) s _ _ hd.cur (by omega) hn hd.rd (by omega) (by decide) (by decide)).mono ?_
    rintro e w5 ⟨t, ht, rfl, hc1, hg1⟩
    replace hd := hd.on hc1 hg1
    clear hc1 hg1
    go_wp2_with fail
    go_ret
    exact ⟨t, ht, rfl, hd.below b3 hgle⟩
  · have e0 : (r == 0) = false := beq_eq_false_iff_ne.2 c0
    by_cases c1 : r = 1
    · subst c1
      go_wp2_with fail
      refine (spoilt_any g A n c (0 + 12 + 2) s _ _ hd.cur (by omega) hn hd.rd (by omega) (by decide) (by decide)).mono ?_
      rintro e w5 ⟨t, ht, rfl, hc1, hg1⟩
      replace hd := hd.on hc1 hg1
      clear hc1 hg1
      go_wp2_with fail
      go_ret
      exact ⟨t, ht, rfl, hd.below b3 hgle⟩
    · have e1 : (r == 1) = false := beq_eq_false_iff_ne.2 c1
      by_cases c2 : r = 2
      · subst c2
        go_wp2_with fail
        have hrow : RowStr (w4.alloc (.cells #[.string ⟨#[]⟩, .string ⟨#[45]⟩, .string ⟨#[48]⟩, .string ⟨#[45, 48]⟩, .string ⟨#[49, 47, 49]⟩, .string ⟨#[50, 47, 52]⟩, .string ⟨#[47, 50]⟩, .string ⟨#[49, 48, 48, 48, 48, 48, 48, 48, 48, 48]⟩, .string ⟨#[49, 48, 48, 48, 48, 48, 48, 48, 48, 49]⟩, .string ⟨#[49, 47, 45, 50]⟩] 9)) w4.heap.size 10 :=
          row_str (Box.new w4 9 _) (fun k hk => by
            have hk' : k < 10 := hk
            rcases k with _ | _ | _ | _ | _ | _ | _ | _ | _ | _ | k
            all_goals first | exact ⟨_, rfl, by decide⟩ | omega)
        have hne : w4.heap.size ≠ g := by have := hd.cur.lt; omega
        replace hd := hd.kept (below_alloc1 w4 (.cells #[.string ⟨#[]⟩, .string ⟨#[45]⟩, .string ⟨#[48]⟩, .string ⟨#[45, 48]⟩, .string ⟨#[49, 47, 49]⟩, .string ⟨#[50, 47, 52]⟩, .string ⟨#[47, 50]⟩, .string ⟨#[49, 48, 48, 48, 48, 48, 48, 48, 48, 48]⟩, .string ⟨#[49, 48, 48, 48, 48, 48, 48, 48, 48, 49]⟩, .string ⟨#[49, 47, 45, 50]⟩] 9))
        refine (of_any g w4.heap.size A n c (0 + 12 + 2) 10 _ _ hd.cur (by omega) hn hd.rd (by omega) (by omega) hrow hne).mono ?_
        rintro e w5 ⟨t, ht, rfl, hc1, hg1⟩
        replace hd := hd.on hc1 hg1
        clear hc1 hg1 hrow
        go_wp2_with fail
        go_ret
        exact ⟨t, ht, rfl, hd.below b3 hgle⟩
      · have e2 : (r == 2) = false := beq_eq_false_iff_ne.2 c2
        go_wp2_with fail
        go_ret
        exact ⟨s, by omega, rfl, hd.below b3 hgle⟩
end Go.Proofs.YtchglkcfolannabDoor
