/- FnFractionParts: what its calls hand back, and what is had of it (written by wip/gen/fpok.py). -/
import Derived.Test.YtchglkcfolannabDoorFpSimp
import Derived.Test.YtchglkcfolannabDoorFpSqrt
import Derived.Test.YtchglkcfolannabDoorFpParse
import Derived.Test.YtchglkcfolannabDoorFrUniq
namespace Go.Proofs.YtchglkcfolannabDoor
open Go.RowKit Go.Joins

structure PartsOk (p q fl rp rq : Int) (ok : Bool) (tx : ByteArray) (ht : Int) : Prop where
  fI : ∀ W, Lim W → Calls Tryd.prog 5 #[.agg #[.int .i64 p, .int .i64 q]] W (GivesIFB W fl rp rq ok)
  fS : ∀ W, Calls Tryd.prog 6 #[.agg #[.int .i64 p, .int .i64 q]] W (GivesIFB W fl rp rq ok)
  tI : ∀ W, EnvC W → Calls Tryd.prog 7 #[.agg #[.int .i64 p, .int .i64 q]] W (GivesSB W tx ok)
  tS : ∀ W, Calls Tryd.prog 8 #[.agg #[.int .i64 p, .int .i64 q]] W (GivesSB W tx ok)
  hI : ∀ W, Lim W → Calls Tryd.prog 9 #[.agg #[.int .i64 p, .int .i64 q]] W (GivesIB W ht ok)
  hS : ∀ W, Calls Tryd.prog 10 #[.agg #[.int .i64 p, .int .i64 q]] W (GivesIB W ht ok)
  isI : ∀ W, Lim W → Calls Tryd.prog 20 #[.agg #[.int .i64 p, .int .i64 q]] W (GivesB W ok)
  back : ok = true → ∀ W, EnvC W → Calls Tryd.prog 18 #[.string tx] W (GivesFB W p q true)
  sum : ok = true → ∀ W, Lim W → Calls Tryd.prog 23 #[.agg #[.int .i64 fl, .int .i64 1], .agg #[.int .i64 rp, .int .i64 rq]] W (GivesFB W p q true)
  rest : ok = true → 0 ≤ rp ∧ rp < rq ∧ q ≤ ht
structure RootOk (p q sp sq : Int) (ok : Bool) : Prop where
  rI : ∀ W, Lim W → Calls Tryd.prog 12 #[.agg #[.int .i64 p, .int .i64 q]] W (GivesFB W sp sq ok)
  rS : ∀ W, Calls Tryd.prog 13 #[.agg #[.int .i64 p, .int .i64 q]] W (GivesFB W sp sq ok)
  times : ok = true → ∀ W, Lim W → Calls Tryd.prog 21 #[.agg #[.int .i64 sp, .int .i64 sq], .agg #[.int .i64 sp, .int .i64 sq]] W (GivesFB W p q true)
  pos : ok = true → 0 ≤ sp
structure SimpOk (x0 x1 y0 y1 ip iq : Int) (ok : Bool) : Prop where
  sI : ∀ W, Lim W → Calls Tryd.prog 15 #[.agg #[.int .i64 x0, .int .i64 x1], .agg #[.int .i64 y0, .int .i64 y1]] W (GivesFB W ip iq ok)
  sS : ∀ W, Calls Tryd.prog 16 #[.agg #[.int .i64 x0, .int .i64 x1], .agg #[.int .i64 y0, .int .i64 y1]] W (GivesFB W ip iq ok)
  low : ok = true → ∀ W, Calls Tryd.prog 22 #[.agg #[.int .i64 ip, .int .i64 iq], .agg #[.int .i64 x0, .int .i64 x1]] W (GivesB W false)
  high : ok = true → ∀ W, Calls Tryd.prog 22 #[.agg #[.int .i64 y0, .int .i64 y1], .agg #[.int .i64 ip, .int .i64 iq]] W (GivesB W false)
  den : ok = true → iq ≤ 1000 ∧ iq ≤ x1 ∧ iq ≤ y1
structure ReadOk (s : ByteArray) (p q : Int) (ok : Bool) : Prop where
  pI : ∀ W, EnvC W → Calls Tryd.prog 18 #[.string s] W (GivesFB W p q ok)
  pS : ∀ W, Calls Tryd.prog 19 #[.string s] W (GivesFB W p q ok)

theorem lowR_of {n d p q : Int} (h : lowP n d = p ∧ lowQ n d = q ∧ lowB n d = true) : lowRP n d = p ∧ lowRQ n d = q ∧ lowB n d = true := by
  unfold lowRP lowRQ
  rw [if_pos h.2.2, if_pos h.2.2]
  exact h

set_option maxHeartbeats 1000000 in
theorem qLess_ge (p0 q0 p1 q1 : Int) (w : World) (g0 : FrG p0 q0) (g1 : FrG p1 q1) (hlt : ¬ p0 * q1 < p1 * q0) : Calls Tryd.prog 22 #[.agg #[.int .i64 p0, .int .i64 q0], .agg #[.int .i64 p1, .int .i64 q1]] w (GivesB w false) := by
  obtain ⟨a1, a2, a3, a4, -⟩ := g0
  obtain ⟨b1, b2, b3, b4, -⟩ := g1
  obtain ⟨m1a, m1b⟩ := fr_mul_1e18 (a := p0) (b := q1) (by omega) (by omega) (by omega) (by omega)
  obtain ⟨m2a, m2b⟩ := fr_mul_1e18 (a := p1) (b := q0) (by omega) (by omega) (by omega) (by omega)
  have h := Below.refl w.heap.size w
  have hA := below_alloc1 w (.cells #[.int .i64 p0, .int .i64 q0] 24)
  replace h := Below.step h hA
  have hx0 := Box.new w 24 #[.int .i64 p0, .int .i64 q0]
  clear hA
  have hA := below_alloc1 (w.alloc (.cells #[.int .i64 p0, .int .i64 q0] 24)) (.cells #[.int .i64 p1, .int .i64 q1] 24)
  replace h := Below.step h hA
  replace hx0 := hx0.kept hA
  have hx1 := Box.new (w.alloc (.cells #[.int .i64 p0, .int .i64 q0] 24)) 24 #[.int .i64 p1, .int .i64 q1]
  rw [show (w.alloc (.cells #[.int .i64 p0, .int .i64 q0] 24)).heap.size = w.heap.size + 1 from by simp] at hx1
  clear hA
  go_enter Tryd.func22, Tryd.ntmps22
  go_wp2_with fail
  go_ret
  exact ⟨rfl, h⟩

theorem height_yes (p q : Int) (g : FrG p q) : ∃ ht, q ≤ ht ∧ (∀ W, Lim W → Calls Tryd.prog 9 #[.agg #[.int .i64 p, .int .i64 q]] W (GivesIB W ht true)) ∧ (∀ W, Calls Tryd.prog 10 #[.agg #[.int .i64 p, .int .i64 q]] W (GivesIB W ht true)) := by
  by_cases h0 : 0 ≤ p
  · by_cases h1 : q < p
    · exact ⟨p, by omega, fun W hL => heightI_pp p q W hL g h0 h1, fun W => heightS_pp p q W g h0 h1⟩
    · exact ⟨q, by omega, fun W hL => heightI_pq p q W hL g h0 (by omega), fun W => heightS_pq p q W g h0 (by omega)⟩
  · by_cases h1 : q < -p
    · exact ⟨-p, by omega, fun W hL => heightI_nn p q W hL g (by omega) h1, fun W => heightS_nn p q W g (by omega) h1⟩
    · exact ⟨q, by omega, fun W hL => heightI_nq p q W hL g (by omega) (by omega), fun W => heightS_nq p q W g (by omega) (by omega)⟩

theorem floor_good {p q : Int} (g : FrG p q) : FrG (p / q) 1 ∧ FrG (p - p / q * q) q ∧ 0 ≤ p - p / q * q ∧ p - p / q * q < q := by
  obtain ⟨h1, h2, h3, h4, h5⟩ := g
  have e : p - p / q * q = p % q := by rw [Int.emod_def, Int.mul_comm]
  have m0 := Int.emod_nonneg p (show q ≠ 0 by omega)
  have m1 := Int.emod_lt_of_pos p (show 0 < q by omega)
  have a1 : -1000000000 ≤ p / q := by
    rw [Int.le_ediv_iff_mul_le (by omega)]
    have := Int.mul_le_mul_of_nonneg_left h1 (show (0 : Int) ≤ 1000000000 by omega)
    omega
  have a2 : p / q ≤ 1000000000 := by
    have := Int.ediv_le_self (a := p) q
    by_cases hp : 0 ≤ p
    · have := Int.ediv_le_self q hp; omega
    · have : p / q < 0 := Int.ediv_neg_of_neg_of_pos (by omega) (by omega)
      omega
  refine ⟨⟨by omega, by omega, a1, a2, Nat.gcd_one_right _⟩, ⟨h1, h2, by omega, by omega, ?_⟩, by omega, by omega⟩
  exact (Int.gcd_sub_mul_right_left q p (p / q)).trans h5

theorem parts_any (p q : Int) : ∃ fl rp rq ok tx ht, PartsOk p q fl rp rq ok tx ht := by
  by_cases g : FrG p q
  · obtain ⟨ht, e0, e1, e2⟩ := height_yes p q g
    obtain ⟨g1, g2, r0, r1⟩ := floor_good g
    refine ⟨p / q, p - p / q * q, q, true, frB p q, ht, fun W hL => floorRestI_yes p q W hL g, fun W => floorRestS_yes p q W g, fun W hE => textI_yes p q W hE.1.1 hE.1.2 g, fun W => textS_yes p q W g, e1, e2, fun W hL => isFractionI_yes p q W hL g,
      fun _ W hE => parseI_yes p q _ W (by have := frB_size g; omega) hE g rfl, fun _ W hL => ?_, fun _ => ⟨r0, r1, e0⟩⟩
    have c := sumI_yes (p / q) 1 (p - p / q * q) q W hL g1 g2
    obtain ⟨u1, u2, u3⟩ := lowR_of (low_unique g (n := p / q * q + (p - p / q * q) * 1) (d := 1 * q) (by have := g.1; omega) (by rw [Int.mul_one, Int.one_mul, show p / q * q + (p - p / q * q) = p from by omega]))
    rw [u1, u2, u3] at c
    exact c
  · exact ⟨0, 0, 0, false, ⟨#[]⟩, 0, fun W hL => floorRestI_no p q W hL g, fun W => floorRestS_no p q W g, fun W hE => textI_no p q W hE.1.1 g, fun W => textS_no p q W g, fun W hL => heightI_no p q W hL g, fun W => heightS_no p q W g, fun W hL => isFractionI_no p q W hL g,
      fun h => (by cases h), fun h => (by cases h), fun h => (by cases h)⟩

theorem root_good {n d A D : Nat} (g : FrG (n : Int) (d : Int)) (eA : A * A = n) (eD : D * D = d) : FrG (A : Int) (D : Int) := by
  obtain ⟨h1, h2, h3, h4, h5⟩ := g
  have hA : A ≤ 1000000000 := by
    apply Nat.le_of_not_lt; intro h
    have := Nat.mul_le_mul (Nat.le_of_lt h) (Nat.le_of_lt h)
    omega
  have hD : D ≤ 1000000000 := by
    apply Nat.le_of_not_lt; intro h
    have := Nat.mul_le_mul (Nat.le_of_lt h) (Nat.le_of_lt h)
    omega
  have hD1 : 1 ≤ D := by
    apply Nat.pos_of_ne_zero; intro h; subst h; omega
  refine ⟨by omega, by omega, by omega, by omega, ?_⟩
  simp only [Int.natAbs_natCast] at h5 ⊢
  have a1 : Nat.gcd A D ∣ n := by rw [← eA]; exact Nat.dvd_trans (Nat.gcd_dvd_left _ _) (Nat.dvd_mul_right _ _)
  have a2 : Nat.gcd A D ∣ d := by rw [← eD]; exact Nat.dvd_trans (Nat.gcd_dvd_right _ _) (Nat.dvd_mul_right _ _)
  have a3 := Nat.dvd_gcd a1 a2
  rw [h5] at a3
  exact Nat.dvd_one.1 a3

theorem root_any (p q : Int) : ∃ sp sq ok, RootOk p q sp sq ok := by
  by_cases g : FrG p q
  · by_cases hneg : p < 0
    · exact ⟨0, 0, false, fun W hL => sqrtI_neg p q W hL g hneg, fun W => sqrtS_neg p q W g hneg, fun h => (by cases h), fun h => (by cases h)⟩
    · obtain ⟨n, rfl⟩ : ∃ n : Nat, p = (n : Int) := ⟨p.toNat, by omega⟩
      obtain ⟨d, rfl⟩ : ∃ d : Nat, q = (d : Int) := ⟨q.toNat, by have := g.1; omega⟩
      have hA := rootOf_spec n
      have hC := rootOf_spec d
      by_cases eA : rootOf n * rootOf n = n
      · by_cases eC : rootOf d * rootOf d = d
        · refine ⟨_, _, true, fun W hL => sqrtI_yes n d _ _ W hL g hA hC (sq_beq.trans (decide_eq_true eA)) (sq_beq.trans (decide_eq_true eC)), fun W => sqrtS_yes n d _ _ W g hA hC eA eC, fun _ W hL => ?_, fun _ => by omega⟩
          have gr := root_good g eA eC
          have c := productI_yes _ _ _ _ W hL gr gr
          have hd : ((rootOf d : Nat) : Int) * (rootOf d : Nat) = (d : Int) := by rw [← Int.natCast_mul, eC]
          have hn : ((rootOf n : Nat) : Int) * (rootOf n : Nat) = (n : Int) := by rw [← Int.natCast_mul, eA]
          rw [hd, hn] at c
          obtain ⟨u1, u2, u3⟩ := lowR_of (low_unique g (n := (n : Int)) (d := (d : Int)) (by have := g.1; omega) rfl)
          rw [u1, u2, u3] at c
          exact c
        · exact ⟨0, 0, false, fun W hL => sqrtI_no2 n d _ _ W hL g hA hC (sq_beq.trans (decide_eq_true eA)) (sq_beq.trans (decide_eq_false eC)), fun W => sqrtS_no2 n d _ _ W g eA hC eC, fun h => (by cases h), fun h => (by cases h)⟩
      · exact ⟨0, 0, false, fun W hL => sqrtI_no1 n d _ _ _ W hL g hA hC (sq_beq.trans (decide_eq_false eA)) rfl, fun W => sqrtS_no1 n d _ W g hA eA, fun h => (by cases h), fun h => (by cases h)⟩
  · exact ⟨0, 0, false, fun W hL => sqrtI_bad p q W hL g, fun W => sqrtS_bad p q W g, fun h => (by cases h), fun h => (by cases h)⟩

theorem simp_any (p0 q0 p1 q1 : Int) : ∃ ip iq ok, SimpOk p0 q0 p1 q1 ip iq ok := by
  by_cases g : FrG p0 q0 ∧ FrG p1 q1
  · by_cases hle : p1 * q0 < p0 * q1
    · exact ⟨0, 0, false, fun W hL => simpI_wrong p0 q0 p1 q1 W hL g.1 g.2 hle, fun W => simpS_wrong p0 q0 p1 q1 W g.1 g.2 hle, fun h => (by cases h), fun h => (by cases h), fun h => (by cases h)⟩
    · rcases first_k p0 q0 p1 q1 1001 with ⟨K, h1, h2, h3, h4⟩ | h
      · have b0 : 0 < q0 := by have := g.1.1; omega
        have b1 : 0 < q1 := by have := g.2.1; omega
        have hl := simple_le b0 b1 (by omega) h3
        have hg := simple_good g.1 g.2 (by omega) h1 (by omega) h3 h4
        have hlo : loK p0 q0 K ≤ numK (loK p0 q0 K) (hiK p1 q1 K) := by unfold numK; omega
        have hhi : numK (loK p0 q0 K) (hiK p1 q1 K) ≤ hiK p1 q1 K := by unfold numK; omega
        have hlo2 := (loK_le b0).1 hlo
        have hhi2 := (le_hiK b1).1 hhi
        exact ⟨_, _, true, fun W hL => simpI_found p0 q0 p1 q1 W hL g.1 g.2 hle K h1 (by omega) h3 h4, fun W => simpS_found p0 q0 p1 q1 W g.1 g.2 hle K h1 (by omega) h3 h4,
          fun _ W => qLess_ge _ _ p0 q0 W hg g.1 (by omega), fun _ W => qLess_ge p1 q1 _ _ W g.2 hg (by omega), fun _ => ⟨by omega, hl.1, hl.2⟩⟩
      · exact ⟨0, 0, false, fun W hL => simpI_none p0 q0 p1 q1 W hL g.1 g.2 hle h, fun W => simpS_none p0 q0 p1 q1 W g.1 g.2 hle h, fun h => (by cases h), fun h => (by cases h), fun h => (by cases h)⟩
  · exact ⟨0, 0, false, fun W hL => simpI_bad p0 q0 p1 q1 W hL g, fun W => simpS_bad p0 q0 p1 q1 W g, fun h => (by cases h), fun h => (by cases h), fun h => (by cases h)⟩

theorem read_any (s : ByteArray) (hs : s.size ≤ 64) : ∃ p q ok, ReadOk s p q ok := by
  by_cases h : ∃ p q, FrG p q ∧ frB p q = s
  · obtain ⟨p, q, g, e⟩ := h
    exact ⟨p, q, true, fun W hE => parseI_yes p q s W (by omega) hE g e, fun W => parseS_wrap s p q true W (fun W => frParse_yes p q s W (by omega) g e)⟩
  · have hno : ∀ p q, FrG p q → frB p q ≠ s := fun p q g e => h ⟨p, q, g, e⟩
    exact ⟨0, 0, false, fun W hE => parseI_no s W (by omega) hE hno, fun W => parseS_wrap s 0 0 false W (fun W => frParse_no s W (by omega) hno)⟩
end Go.Proofs.YtchglkcfolannabDoor
