/- What the calls of FnCubics hand back, and what is had of it (written by wip/gen/cbok.py). -/
import Derived.Test.YtanmkamagdajpaaDoorCiShiftS
import Derived.Test.YtanmkamagdajpaaDoorCiShiftI
import Derived.Test.YtanmkamagdajpaaDoorCiCont
import Derived.Test.YtanmkamagdajpaaDoorCtText
import Derived.Test.YtanmkamagdajpaaDoorCfAt
namespace Go.Proofs.YtanmkamagdajpaaDoor
open Go.RowKit Go.Joins

structure ShOk (a b c d y sa sb sc sd : Int) (ok : Bool) : Prop where
  sI : ∀ W, Calls Tryd.prog 5 #[.agg #[.int .i64 a, .int .i64 b, .int .i64 c, .int .i64 d], .int .i64 y] W (GivesCB W sa sb sc sd ok)
  sS : ∀ W, Calls Tryd.prog 6 #[.agg #[.int .i64 a, .int .i64 b, .int .i64 c, .int .i64 d], .int .i64 y] W (GivesCB W sa sb sc sd ok)
  yb : ok = true → -10 ≤ y ∧ y ≤ 10
  back : ok = true → ∀ W, Calls Tryd.prog 5 #[.agg #[.int .i64 sa, .int .i64 sb, .int .i64 sc, .int .i64 sd], .int .i64 (-y)] W (GivesCB W a b c d true)
  at_ : ok = true → ∀ k : Int, -3 ≤ k → k ≤ 3 → ∃ V, (∀ W, Calls Tryd.prog 18 #[.agg #[.int .i64 sa, .int .i64 sb, .int .i64 sc, .int .i64 sd], .int .i64 k] W (GivesIB W V true)) ∧ (∀ W, Calls Tryd.prog 18 #[.agg #[.int .i64 a, .int .i64 b, .int .i64 c, .int .i64 d], .int .i64 (k + y)] W (GivesIB W V true)) ∧ (∀ W, Calls Tryd.prog 19 #[.agg #[.int .i64 a, .int .i64 b, .int .i64 c, .int .i64 d], .int .i64 (k + y)] W (GivesIB W V true))
theorem cu_shift_val (a b c d y k : Int) : cuVal a (3 * a * y + b) (3 * a * y * y + 2 * b * y + c) (cuVal a b c d y 1) k 1 = cuVal a b c d (k + y) 1 := by unfold cuVal; grind
theorem shOk_any (a b c d y : Int) : ∃ sa sb sc sd ok, ShOk a b c d y sa sb sc sd ok := by
  by_cases g : CuG a b c d
  · by_cases hy : -10 ≤ y ∧ y ≤ 10
    · obtain ⟨B, hB⟩ : ∃ B, 3 * a * y + b = B := ⟨_, rfl⟩
      obtain ⟨E, hE⟩ : ∃ E, 3 * a * y * y + 2 * b * y + c = E := ⟨_, rfl⟩
      obtain ⟨V, hV⟩ : ∃ V, cuVal a b c d y 1 = V := ⟨_, rfl⟩
      have hE2 : (3 * a * y + 2 * b) * y + c = E := by rw [← hE]; grind
      by_cases g2 : CuG a B E V
      · refine ⟨a, B, E, V, true, ⟨fun W => shiftI_yes a b c d y B E V W g hy.1 hy.2 hB hE2 hV g2, fun W => shiftS_yes a b c d y B E V W g hy.1 hy.2 hB hE hV g2, fun _ => hy, fun _ W => ?_, fun _ k h1 h2 => ?_⟩⟩
        · exact shiftI_yes a B E V (-y) b c d W g2 (by omega) (by omega) (by rw [← hB]; grind) (by rw [← hB, ← hE]; grind) (by rw [← hB, ← hE, ← hV, cu_shift_val]; unfold cuVal; grind) g
        · have e := cu_shift_val a b c d y k
          rw [hB, hE, hV] at e
          exact ⟨_, fun W => cubicAtI_yes a B E V k W g2 (by omega) (by omega) _ e, fun W => cubicAtI_yes a b c d (k + y) W g (by omega) (by omega) _ rfl, fun W => cubicAtS_yes a b c d (k + y) W g (by omega) (by omega) _ rfl⟩
      · exact ⟨0, 0, 0, 0, false, ⟨fun W => shiftI_no a b c d y B E V W g hy.1 hy.2 hB hE2 hV g2, fun W => shiftS_no a b c d y B E V W g hy.1 hy.2 hB hE hV g2, fun h => (by cases h), fun h => (by cases h), fun h => (by cases h)⟩⟩
    · refine ⟨0, 0, 0, 0, false, ⟨fun W => ?_, fun W => shiftS_out a b c d y W g (by omega), fun h => (by cases h), fun h => (by cases h), fun h => (by cases h)⟩⟩
      by_cases h1 : y < -10
      · exact shiftI_low a b c d y W g h1
      · exact shiftI_high a b c d y W g (by omega)
  · exact ⟨0, 0, 0, 0, false, ⟨fun W => shiftI_bad a b c d y W g, fun W => shiftS_bad a b c d y W g, fun h => (by cases h), fun h => (by cases h), fun h => (by cases h)⟩⟩

structure CoOk (a b c d n ca cb cc cd : Int) (one : Bool) (ra rb rc rd : Int) (three : Bool) (T : ByteArray) : Prop where
  cI : ∀ W, Calls Tryd.prog 8 #[.agg #[.int .i64 a, .int .i64 b, .int .i64 c, .int .i64 d]] W (GivesICB W n ca cb cc cd one)
  cS : ∀ W, Calls Tryd.prog 9 #[.agg #[.int .i64 a, .int .i64 b, .int .i64 c, .int .i64 d]] W (GivesICB W n ca cb cc cd one)
  rI : ∀ W, Calls Tryd.prog 10 #[.agg #[.int .i64 a, .int .i64 b, .int .i64 c, .int .i64 d]] W (GivesCB W ra rb rc rd three)
  rS : ∀ W, Calls Tryd.prog 11 #[.agg #[.int .i64 a, .int .i64 b, .int .i64 c, .int .i64 d]] W (GivesCB W ra rb rc rd three)
  tI : ∀ W, Pow W → Calls Tryd.prog 12 #[.agg #[.int .i64 a, .int .i64 b, .int .i64 c, .int .i64 d]] W (GivesSB W T one)
  tS : ∀ W, Calls Tryd.prog 13 #[.agg #[.int .i64 a, .int .i64 b, .int .i64 c, .int .i64 d]] W (GivesSB W T one)
  isI : ∀ W, Calls Tryd.prog 20 #[.agg #[.int .i64 a, .int .i64 b, .int .i64 c, .int .i64 d]] W (GivesB W one)
  again : one = true → ∀ W, Calls Tryd.prog 8 #[.agg #[.int .i64 ca, .int .i64 cb, .int .i64 cc, .int .i64 cd]] W (GivesICB W 1 ca cb cc cd true)
  n1 : one = true → 1 ≤ n
  eA : one = true → ca * n = a ∧ -1000 ≤ a ∧ a ≤ 1000
  eD : one = true → cd * n = d ∧ -1000 ≤ d ∧ d ≤ 1000
  back : three = true → ∀ W, Calls Tryd.prog 10 #[.agg #[.int .i64 ra, .int .i64 rb, .int .i64 rc, .int .i64 rd]] W (GivesCB W a b c d true)
  imp : three = true → one = true
theorem gcd_quot {x y G : Nat} (h1 : G ∣ x) (h2 : G ∣ y) : Nat.gcd (x / G) (y / G) = Nat.gcd x y / G := Nat.gcd_div h1 h2
theorem tdiv_nat (x : Int) (G : Nat) : (x.tdiv (G : Int)).natAbs = x.natAbs / G := by rw [Int.natAbs_tdiv]; rfl
theorem gc4_quot {a b c d : Int} (ha : a ≠ 0) : gc4 (a.tdiv (gc4 a b c d : Int)) (b.tdiv (gc4 a b c d : Int)) (c.tdiv (gc4 a b c d : Int)) (d.tdiv (gc4 a b c d : Int)) = 1 := by
  obtain ⟨G, hG⟩ : ∃ G, gc4 a b c d = G := ⟨_, rfl⟩
  have hp : 0 < G := by rw [← hG]; exact gc4_pos ha
  have h0 : Nat.gcd (Nat.gcd a.natAbs b.natAbs) (Nat.gcd c.natAbs d.natAbs) = G := hG
  have e1 : G ∣ Nat.gcd a.natAbs b.natAbs := h0 ▸ Nat.gcd_dvd_left _ _
  have e2 : G ∣ Nat.gcd c.natAbs d.natAbs := h0 ▸ Nat.gcd_dvd_right _ _
  rw [hG]
  unfold gc4
  rw [tdiv_nat, tdiv_nat, tdiv_nat, tdiv_nat, gcd_quot (Nat.dvd_trans e1 (Nat.gcd_dvd_left _ _)) (Nat.dvd_trans e1 (Nat.gcd_dvd_right _ _)), gcd_quot (Nat.dvd_trans e2 (Nat.gcd_dvd_left _ _)) (Nat.dvd_trans e2 (Nat.gcd_dvd_right _ _)), gcd_quot e1 e2, h0]
  exact Nat.div_self hp
theorem quot_bd {x : Int} {G : Nat} (h1 : -1000 ≤ x) (h2 : x ≤ 1000) : -1000 ≤ x.tdiv (G : Int) ∧ x.tdiv (G : Int) ≤ 1000 := by
  have := Nat.div_le_self x.natAbs G
  rw [← tdiv_nat] at this
  omega
theorem coOk_any (a b c d : Int) : ∃ n ca cb cc cd one ra rb rc rd three T, CoOk a b c d n ca cb cc cd one ra rb rc rd three T := by
  by_cases g : CuG a b c d
  · obtain ⟨G, hG⟩ : ∃ G, gc4 a b c d = G := ⟨_, rfl⟩
    have hp : 0 < G := by rw [← hG]; exact gc4_pos g.1
    obtain ⟨d1, d2, d3, d4⟩ := gc4_dvd a b c d
    rw [hG] at d1 d2 d3 d4
    have q := gc4_quot (b := b) (c := c) (d := d) g.1
    rw [hG] at q
    have g2 : CuG (a.tdiv (G : Int)) (b.tdiv (G : Int)) (c.tdiv (G : Int)) (d.tdiv (G : Int)) := by
      obtain ⟨g0, ⟨a1, a2⟩, ⟨b1, b2⟩, ⟨c1, c2⟩, ⟨e1, e2⟩⟩ := g
      refine ⟨fun e => g0 ?_, quot_bd a1 a2, quot_bd b1 b2, quot_bd c1 c2, quot_bd e1 e2⟩
      rw [← Int.tdiv_mul_cancel d1, e, Int.zero_mul]
    have ag := fun W => contI_yes (a.tdiv (G : Int)) (b.tdiv (G : Int)) (c.tdiv (G : Int)) (d.tdiv (G : Int)) W g2 _ _ _ _ 1 q (Int.tdiv_one _) (Int.tdiv_one _) (Int.tdiv_one _) (Int.tdiv_one _)
    have mk : ∀ (ra rb rc rd : Int) (three : Bool), (∀ W, Calls Tryd.prog 10 #[.agg #[.int .i64 a, .int .i64 b, .int .i64 c, .int .i64 d]] W (GivesCB W ra rb rc rd three)) → (∀ W, Calls Tryd.prog 11 #[.agg #[.int .i64 a, .int .i64 b, .int .i64 c, .int .i64 d]] W (GivesCB W ra rb rc rd three)) → (three = true → ∀ W, Calls Tryd.prog 10 #[.agg #[.int .i64 ra, .int .i64 rb, .int .i64 rc, .int .i64 rd]] W (GivesCB W a b c d true)) →
        ∃ n ca cb cc cd one ra rb rc rd three T, CoOk a b c d n ca cb cc cd one ra rb rc rd three T := fun ra rb rc rd three r1 r2 r3 =>
      ⟨G, a.tdiv (G : Int), b.tdiv (G : Int), c.tdiv (G : Int), d.tdiv (G : Int), true, ra, rb, rc, rd, three, cuB a b c d, ⟨fun W => contI_yes a b c d W g _ _ _ _ G hG rfl rfl rfl rfl, fun W => contS_yes a b c d W g _ _ _ _ G hG rfl rfl rfl rfl, r1, r2, fun W h => cuTextI_yes a b c d W h g, fun W => cuTextS_yes a b c d W g, fun W => isCubicI_yes a b c d W g, fun _ => ag, fun _ => by omega, fun _ => ⟨Int.tdiv_mul_cancel d1, g.2.1⟩, fun _ => ⟨Int.tdiv_mul_cancel d4, g.2.2.2.2⟩, r3, fun _ => rfl⟩⟩
    by_cases hd : d = 0
    · exact mk 0 0 0 0 false (fun W => revI_zero a b c d W g (fun k => k.1 hd)) (fun W => revS_zero a b c d W g hd) (fun h => (by cases h))
    · have gr : CuG d c b a := ⟨hd, g.2.2.2.2, g.2.2.2.1, g.2.2.1, g.2.1⟩
      exact mk d c b a true (fun W => revI_yes a b c d W g gr) (fun W => revS_yes a b c d W g hd) (fun _ W => revI_yes d c b a W gr g)
  · exact ⟨0, 0, 0, 0, 0, false, 0, 0, 0, 0, false, ⟨#[]⟩, ⟨fun W => contI_bad a b c d W g, fun W => contS_bad a b c d W g, fun W => revI_bad a b c d W g, fun W => revS_bad a b c d W g, fun W _ => cuTextI_bad a b c d W g, fun W => cuTextS_bad a b c d W g, fun W => isCubicI_no a b c d W g, fun h => (by cases h), fun h => (by cases h), fun h => (by cases h), fun h => (by cases h), fun h => (by cases h), fun h => (by cases h)⟩⟩

structure FqOk (a b c d p q S : Int) (seven : Bool) : Prop where
  fI : ∀ W, Lim W → Calls Tryd.prog 15 #[.agg #[.int .i64 a, .int .i64 b, .int .i64 c, .int .i64 d], .agg #[.int .i64 p, .int .i64 q]] W (GivesIB W S seven)
  fS : ∀ W, Calls Tryd.prog 16 #[.agg #[.int .i64 a, .int .i64 b, .int .i64 c, .int .i64 d], .agg #[.int .i64 p, .int .i64 q]] W (GivesIB W S seven)
  at_ : seven = true → q = 1 → ∃ V, (∀ W, Calls Tryd.prog 18 #[.agg #[.int .i64 a, .int .i64 b, .int .i64 c, .int .i64 d], .int .i64 p] W (GivesIB W V true)) ∧ ((0 < V ∧ S = 1) ∨ (V < 0 ∧ S = -1) ∨ (V = 0 ∧ S = 0))
theorem fqOk_any (a b c d p q : Int) : ∃ S seven, FqOk a b c d p q S seven := by
  refine ⟨cfR a b c d p q, decide (CfG a b c d p q), ⟨fun W h => cfAtI_any a b c d p q W h, fun W => cfAtS_any a b c d p q W, fun h hq => ?_⟩⟩
  have k : CfG a b c d p q := of_decide_eq_true h
  subst hq
  refine ⟨_, fun W => cubicAtI_yes a b c d p W k.1 k.2.2.1.1 k.2.2.1.2 _ rfl, ?_⟩
  rw [show cfR a b c d p 1 = sgn (cuVal a b c d p 1) from if_pos k]
  unfold sgn
  by_cases h1 : 0 < cuVal a b c d p 1
  · exact .inl ⟨h1, if_pos h1⟩
  · by_cases h2 : cuVal a b c d p 1 < 0
    · exact .inr (.inl ⟨h2, by rw [if_neg h1, if_pos h2]⟩)
    · exact .inr (.inr ⟨by omega, by rw [if_neg h1, if_neg h2]⟩)

structure AtOk (a b c d x V : Int) (nine : Bool) : Prop where
  vI : ∀ W, Calls Tryd.prog 18 #[.agg #[.int .i64 a, .int .i64 b, .int .i64 c, .int .i64 d], .int .i64 x] W (GivesIB W V nine)
  vS : ∀ W, Calls Tryd.prog 19 #[.agg #[.int .i64 a, .int .i64 b, .int .i64 c, .int .i64 d], .int .i64 x] W (GivesIB W V nine)
theorem atOk_any (a b c d x : Int) : ∃ V nine, AtOk a b c d x V nine := by
  by_cases g : CuG a b c d
  · by_cases h : x < -10000 ∨ 10000 < x
    · exact ⟨0, false, ⟨fun W => cubicAtI_out a b c d x W g h, fun W => cubicAtS_out a b c d x W g h⟩⟩
    · exact ⟨_, true, ⟨fun W => cubicAtI_yes a b c d x W g (by omega) (by omega) _ rfl, fun W => cubicAtS_yes a b c d x W g (by omega) (by omega) _ rfl⟩⟩
  · exact ⟨0, false, ⟨fun W => cubicAtI_bad a b c d x W g, fun W => cubicAtS_bad a b c d x W g⟩⟩
end Go.Proofs.YtanmkamagdajpaaDoor
