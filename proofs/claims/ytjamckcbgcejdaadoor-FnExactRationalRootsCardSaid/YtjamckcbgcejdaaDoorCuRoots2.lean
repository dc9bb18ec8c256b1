/- cuRoots of the model, the other cases; RationalRoots, IsIrreducibleCubic of the model (written by wip/gen/curoots.py). -/
import Derived.Test.YtjamckcbgcejdaaDoorCuRoots
import Derived.Test.YtjamckcbgcejdaaDoorCfOut
namespace Go.Proofs.YtjamckcbgcejdaaDoor
open Go.RowKit Go.Joins

set_option maxHeartbeats 8000000 in
set_option maxRecDepth 100000 in
theorem cuRoots_2 (a b : Int) (w : World) (g : CuG a b 0 0) (h0 : b ≠ 0) (M : List (Int × Int)) (hM : RL a b 0 0 M) : Calls Tryd.prog 32 #[.agg #[.int .i64 a, .int .i64 b, .int .i64 0, .int .i64 0]] w (GivesFRow w M) := by
  obtain ⟨N, hN⟩ : ∃ N, b.natAbs = N := ⟨_, rfl⟩
  obtain ⟨D, hD⟩ : ∃ D, a.natAbs = D := ⟨_, rfl⟩
  obtain ⟨hA0, ⟨a1, a2⟩, ⟨b1, b2⟩, ⟨c1, c2⟩, ⟨d1, d2⟩⟩ := id g
  have hlast : lastOf a b 0 0 = b := by unfold lastOf; simp [h0]
  have hN1 : 1 ≤ N := by omega
  have hN2 : N ≤ 1000 := by omega
  have hD1 : 1 ≤ D := by omega
  have hD2 : D ≤ 1000 := by omega
  have la := fun W => l1Abs_any b W (by omega) (by omega)
  have lb := fun W => l1Abs_any a W (by omega) (by omega)
  rw [hN] at la
  rw [hD] at lb
  have ka := fun W => cuDivisors_any N W hN1 hN2
  have kb := fun W => cuDivisors_any D W hD1 hD2
  have hpx := fun (k : Nat) (hk : k < (DV N N).length) => DV_pos hk
  have hpy := fun (k : Nat) (hk : k < (DV D D).length) => DV_pos hk
  have hall := fun L (h : Inv a b 0 0 (fun n _ => DoneI (DV N N) (DV N N).length n) L) => done_all hA0 (by rw [hlast]; exact hN) hN1 hM h
  have hden := fun x (hx : RootF a b 0 0 x) => den_has hA0 hD hx
  have hxl := DV_len N N
  have hyl := DV_len D D
  obtain ⟨xs, hxs⟩ : ∃ xs, xs = DV N N := ⟨_, rfl⟩
  obtain ⟨ys, hys⟩ : ∃ ys, ys = DV D D := ⟨_, rfl⟩
  rw [← hxs] at ka hpx hall hxl
  rw [← hys] at kb hpy hden hyl
  have kv := fun (n m V : Int) (hn : -1000 ≤ n ∧ n ≤ 1000) (hm : 1 ≤ m ∧ m ≤ 1000) (hV : cuVal a b 0 0 n m = V) (W : World) => cuValue_any a b 0 0 n m W g.2.1 g.2.2.1 g.2.2.2.1 g.2.2.2.2 (by omega) (by omega) V hV
  have kf := fun (n m : Int) (hn : -1000 ≤ n ∧ n ≤ 1000) (hm : 1 ≤ m ∧ m ≤ 1000) (W : World) => frMake_any n m W (by omega) (by omega) (by omega) (by omega)
  have kp := fun L A cc w0 (p q : Int) (hL : RS a b 0 0 L) (hx : RootF a b 0 0 (p, q)) W => cuPut_any a b 0 0 g L A cc w0 W p q hL hx
  replace la := Lib.hid la
  replace lb := Lib.hid lb
  replace ka := Lib.hid ka
  replace kb := Lib.hid kb
  replace kv := Lib.hid kv
  replace kf := Lib.hid kf
  replace kp := Lib.hid kp
  replace hpx := Lib.hid hpx
  replace hpy := Lib.hid hpy
  replace hall := Lib.hid hall
  replace hden := Lib.hid hden
  have e0 : (b == 0) = false := beq_eq_false_iff_ne.2 h0
  have hst : Hid (Inv a b 0 0 (fun _ _ => False) [(0, 1)]) := Inv.zero rfl
  clear hlast hN hD hxs hys hM h0 g hA0 a1 a2 b1 b2 c1 c2 d1 d2
  have h := below_alloc1 w (.cells #[.int .i64 a, .int .i64 b, .int .i64 0, .int .i64 0] 28)
  have hx0 := Box.new w 28 #[.int .i64 a, .int .i64 b, .int .i64 0, .int .i64 0]
  obtain ⟨k0, k1, k2, k3⟩ := hx0.four
  go_enter Tryd.func32, Tryd.ntmps32
  go_wp2_with fail
  refine (frInt_any 0 _).mono ?_
  rintro e w0 ⟨rfl, hb⟩
  replace h := Below.step h hb
  replace hx0 := hx0.kept hb
  clear hb k0 k1 k2 k3
  obtain ⟨k0, k1, k2, k3⟩ := hx0.four
  have hsz0 := h.size
  have hrd := rdF_new w0 (0, 1)
  have hsz : w.heap.size ≤ (w0.alloc (.cells #[.int .i64 0, .int .i64 1] 30)).heap.size := by have := h.size; simp; omega
  have hba := Below.step h (below_alloc1 w0 (.cells #[.int .i64 0, .int .i64 1] 30))
  have hx2 := hx0.kept (below_alloc1 w0 (.cells #[.int .i64 0, .int .i64 1] 30))
  have hg0 : w.heap.size < (w0.alloc (.cells #[.int .i64 0, .int .i64 1] 30)).heap.size := hx2.lt
  clear h hx0
  go_wp2_with (first
    | (at_builtin; refine wpList_append_F _ rfl _ _ 33 rfl Tryd.underlying33 (w0.heap.size) _ [] rfl (ownF_nil _ _) _ _ _ _ [(0, 1)] rfl hrd (by simp) (by simp) ?_; intro A0 c0 w1 ho0 hg1; have hx0 : Box w1 w.heap.size 28 #[.int .i64 a, .int .i64 b, .int .i64 0, .int .i64 0] := hx2.grown hg1 (by show some _ ≠ (Value.slice none 0 0).ownBlock; simp [Value.ownBlock]); obtain ⟨k0, k1, k2, k3⟩ := hx0.four)
    | fail)
  have h : Below w.heap.size w w1 := below_ownF hba (ownF_nil _ w.heap.size) (Nat.le_refl _) hg1
  replace ho0 : OwnF w1 w.heap.size (.slice A0 ([] ++ [(0, 1)] : List (Int × Int)).length c0) [(0, 1)] := ho0.le hsz0
  have hst2 : Hid (Inv a b 0 0 (fun _ _ => False) [(0, 1)] ∧ (([(0, 1)] : List (Int × Int)) = [] → A0 = none ∧ c0 = 0)) := ⟨hst.out, fun h => by simp at h⟩
  clear hst hba hx2 hrd hsz hg1 hg0 hsz0
  refine (la.out _).mono ?_
  rintro e w2 ⟨rfl, rfl⟩
  go_wp2_with fail
  refine (ka.out _).mono ?_
  rintro e wn ⟨Ax, cx, rfl, hox, hb⟩
  have hrx := hox.rd
  replace ho0 := ho0.kept hb
  replace h := Below.step h hb
  replace hx0 := hx0.kept hb
  clear hb k0 k1 k2 k3
  obtain ⟨k0, k1, k2, k3⟩ := hx0.four
  clear hox la ka k0 k1 k2 k3
  go_wp2_with fail
  go_loopg [3, 34] xs.length (fun g v i wr => ∃ (k : Nat) (L : List (Int × Int)) (A : Option Addr) (cc : Nat), k ≤ xs.length ∧ g = xs.length - k ∧ i = .int .i64 k ∧ v = .slice A L.length cc ∧ Hid (Inv a b 0 0 (fun n _ => DoneI xs k n) L ∧ (L = [] → A = none ∧ cc = 0)) ∧ OwnF wr w.heap.size (.slice A L.length cc) L ∧ Below wn.heap.size wn wr)
  case atStart => exact ⟨0, _, A0, c0, Nat.zero_le _, rfl, rfl, rfl, ⟨hst2.out.1.imp (fun x _ hh => by obtain ⟨k, hk, _⟩ := hh; omega), hst2.out.2⟩, ho0, Below.refl _ _⟩
  case round =>
    obtain ⟨k, L, A, cc, hk, rfl, rfl, rfl, hI, hown, hbn⟩ := hrel
    clear hst2 ho0
    by_cases hlt : k < xs.length
    · obtain ⟨n0, hn0⟩ : ∃ n0, n0 = xs[k]?.getD 0 := ⟨_, rfl⟩
      have hnb := hpx.out k hlt
      rw [← hn0] at hnb
      obtain ⟨nb1, nb2⟩ := hnb
      have hn2 : n0 ≤ 1000 := by omega
      obtain ⟨bx, ox, rfl, hbx, hcx⟩ := hrx.2 (by omega)
      have hread : wr.cell? ⟨bx, ox + k, none⟩ = some (.int .i64 n0) := by rw [hn0]; exact (hbn.cell (p := ⟨bx, ox + k, none⟩) hbx).trans (hcx k hlt)
      have hx1 := hx0.kept hbn
      obtain ⟨k0, k1, k2, k3⟩ := hx1.four
      clear hcx
      have hn0' := Lib.hid hn0
      clear hn0
      have hkk : (k : Int) < xs.length := by omega
      go_wp2_with fail
      refine (lb.out _).mono ?_
      rintro e w4 ⟨rfl, rfl⟩
      go_wp2_with fail
      refine (kb.out _).mono ?_
      rintro e wm ⟨Ay, cy, rfl, hoy, hb⟩
      have hry := hoy.rd
      replace hown := hown.kept hb
      replace hbn := Below.step hbn hb
      replace hx1 := hx1.kept hb
      clear hb hoy hread k0 k1 k2 k3
      have hJ : Hid (Inv a b 0 0 (DoneJ xs ys k 0) L ∧ (L = [] → A = none ∧ cc = 0)) := ⟨hI.out.1.imp (fun x _ hh => done_j0 hh), hI.out.2⟩
      clear hI
      go_wp2_with fail
      go_loopg [3, 43] ys.length (fun g v i wr => ∃ (j : Nat) (L : List (Int × Int)) (A : Option Addr) (cc : Nat), j ≤ ys.length ∧ g = ys.length - j ∧ i = .int .i64 j ∧ v = .slice A L.length cc ∧ Hid (Inv a b 0 0 (DoneJ xs ys k j) L ∧ (L = [] → A = none ∧ cc = 0)) ∧ OwnF wr w.heap.size (.slice A L.length cc) L ∧ Below wm.heap.size wm wr)
      case atStart => exact ⟨0, L, A, cc, Nat.zero_le _, rfl, rfl, rfl, hJ, hown, Below.refl _ _⟩
      case round =>
        clear hJ hown
        obtain ⟨j, L, A, cc, hj, rfl, rfl, rfl, hJ, hown, hbm⟩ := hrel
        by_cases hjt : j < ys.length
        · obtain ⟨m0, hm0⟩ : ∃ m0, m0 = ys[j]?.getD 0 := ⟨_, rfl⟩
          have hmb := hpy.out j hjt
          rw [← hm0] at hmb
          obtain ⟨mb1, mb2⟩ := hmb
          have hm2 : m0 ≤ 1000 := by omega
          obtain ⟨by', oy, rfl, hby, hcy⟩ := hry.2 (by omega)
          have hread : wr.cell? ⟨by', oy + j, none⟩ = some (.int .i64 m0) := by rw [hm0]; exact (hbm.cell (p := ⟨by', oy + j, none⟩) hby).trans (hcy j hjt)
          clear hcy
          have hx2 := hx1.kept hbm
          have hS : Hid (Inv a b 0 0 (DoneS xs ys k j 0) L ∧ (L = [] → A = none ∧ cc = 0)) := ⟨hJ.out.1.imp (fun x _ hh => done_s0 hh), hJ.out.2⟩
          have hm0' := Lib.hid hm0
          clear hJ hm0
          have hjj : (j : Int) < ys.length := by omega
          have hgar := Box.new wr 3 #[.int .i64 n0, .int .i64 (-n0)]
          have hba := below_alloc1 wr (.cells #[.int .i64 n0, .int .i64 (-n0)] 3)
          replace hx2 := hx2.kept hba
          replace hown := hown.kept hba
          replace hbm := Below.step hbm hba
          obtain ⟨ga, hga⟩ : ∃ ga, ga = wr.heap.size := ⟨_, rfl⟩
          rw [← hga] at hgar
          go_wp2_with fail
          rw [← hga]
          obtain ⟨w5, hw5⟩ : ∃ w5, w5 = wr.alloc (.cells #[.int .i64 n0, .int .i64 (-n0)] 3) := ⟨_, rfl⟩
          rw [← hw5] at hgar hx2 hown hbm ⊢
          clear hga hw5 hba hread
          go_loopg [3, 52] 2 (fun g v i wr => ∃ (s : Nat) (L : List (Int × Int)) (A : Option Addr) (cc : Nat), s ≤ 2 ∧ g = 2 - s ∧ i = .int .i64 s ∧ v = .slice A L.length cc ∧ Hid (Inv a b 0 0 (DoneS xs ys k j s) L ∧ (L = [] → A = none ∧ cc = 0)) ∧ OwnF wr w.heap.size (.slice A L.length cc) L ∧ Below w5.heap.size w5 wr)
          case atStart => exact ⟨0, L, A, cc, by omega, rfl, rfl, rfl, hS, hown, Below.refl _ _⟩
          case round =>
            clear hS hown
            obtain ⟨s, L, A, cc, hs, rfl, rfl, rfl, hS, hown, hb5⟩ := hrel
            have hx3 := hx2.kept hb5
            have hg3 := hgar.kept hb5
            have hwb : w.heap.size ≤ wr.heap.size := by have := hx3.lt; omega
            obtain ⟨k0, k1, k2, k3⟩ := hx3.four
            obtain ⟨j0, j1⟩ := hg3.two
            by_cases hst : s < 2
            · have key : ∃ (n1 : Int), wr.cell? ⟨ga, s, none⟩ = some (.int .i64 n1) ∧ (-1000 ≤ n1 ∧ n1 ≤ 1000) ∧ Hid (∀ u v : Int, DoneS xs ys k j (s + 1) u v → DoneS xs ys k j s u v ∨ (u = n1 ∧ v = m0)) := by
                obtain rfl | rfl : s = 0 ∨ s = 1 := by omega
                · exact ⟨n0, j0, by omega, fun u v hh => by rw [hn0'.out, hm0'.out]; exact done_s1 hh⟩
                · exact ⟨-n0, j1, by omega, fun u v hh => by rw [hn0'.out, hm0'.out]; exact done_s2 hh⟩
              obtain ⟨n1, hc1, ⟨nl, nr⟩, hstep⟩ := key
              obtain ⟨V, hV⟩ : ∃ V, cuVal a b 0 0 n1 m0 = V := ⟨_, rfl⟩
              have kv1 := fun W => kv.out n1 m0 V ⟨nl, nr⟩ ⟨mb1, hm2⟩ hV W
              replace kv1 := Lib.hid kv1
              have hss : (s : Int) < 2 := by omega
              clear j0 j1
              by_cases hz : V = 0
              · subst hz
                have hroot := root_low (show 0 < m0 by omega) hV
                have hlb := low_bd ⟨nl, nr⟩ ⟨mb1, hm2⟩
                have kf1 := fun W => kf.out n1 m0 ⟨nl, nr⟩ ⟨mb1, hm2⟩ W
                have eP : lowRP n1 m0 = lowP n1 m0 := by unfold lowRP; rw [if_pos hlb]
                have eQ : lowRQ n1 m0 = lowQ n1 m0 := by unfold lowRQ; rw [if_pos hlb]
                rw [eP, eQ, hlb] at kf1
                replace kf1 := Lib.hid kf1
                have hhit := fun M (hM : RS a b 0 0 M) (hmem : ∀ y, y ∈ M ↔ y = (lowP n1 m0, lowQ n1 m0) ∨ y ∈ L) => (hS.out.1.hit (by omega) hM hmem).imp (fun x _ hh => hstep.out x.1 x.2 hh)
                have kp1 := fun W ho hbase => kp.out L A cc w.heap.size (lowP n1 m0) (lowQ n1 m0) hS.out.1.rs hroot W ho hS.out.2 hbase
                obtain ⟨P, hP⟩ : ∃ P, P = lowP n1 m0 := ⟨_, rfl⟩
                obtain ⟨Q, hQ⟩ : ∃ Q, Q = lowQ n1 m0 := ⟨_, rfl⟩
                rw [← hP, ← hQ] at kf1 hhit kp1
                replace hhit := Lib.hid hhit
                replace kp1 := Lib.hid kp1
                clear hP hQ eP eQ hroot hlb hV hS
                go_wp2_with fail
                refine (kv1.out _).mono ?_
                rintro e w6 ⟨rfl, hb⟩
                replace hb5 := Below.step hb5 hb
                replace hown := hown.kept hb
                replace hwb := Nat.le_trans hwb hb.size
                clear hb k0 k1 k2 k3 hc1
                go_wp2_with fail
                refine (kf1.out _).mono ?_
                rintro e w7 ⟨rfl, hb⟩
                replace hb5 := Below.step hb5 hb
                replace hown := hown.kept hb
                replace hwb := Nat.le_trans hwb hb.size
                clear hb
                have hba := below_alloc1 w7 (.cells #[.int .i64 P, .int .i64 Q] 30)
                have hxp := Box.new w7 30 #[.int .i64 P, .int .i64 Q]
                replace hb5 := Below.step hb5 hba
                replace hown := hown.kept hba
                replace hwb := Nat.le_trans hwb hba.size
                obtain ⟨k0, k1⟩ := hxp.two
                go_wp2_with fail
                refine (kp1.out _ hown hwb).mono ?_
                rintro e w8 ⟨M', A', c', rfl, hown', hnil, hM', hmem, hb⟩
                go_wp2_with fail
                go_roundg (2 - (s + 1))
                case measure => omega
                case rel => exact ⟨s + 1, M', A', c', by omega, rfl, by go_num, rfl, ⟨hhit.out M' hM' hmem, hnil⟩, hown', Below.step hb5 hb⟩
              · have ez : (V == 0) = false := beq_eq_false_iff_ne.2 hz
                have hmiss : Hid (Inv a b 0 0 (DoneS xs ys k j (s + 1)) L ∧ (L = [] → A = none ∧ cc = 0)) := ⟨(hS.out.1.miss (by rw [hV]; exact hz)).imp (fun x _ hh => hstep.out x.1 x.2 hh), hS.out.2⟩
                clear hV hz hS
                go_wp2_with fail
                refine (kv1.out _).mono ?_
                rintro e w6 ⟨rfl, hb⟩
                go_wp2_with fail
                go_roundg (2 - (s + 1))
                case measure => omega
                case rel => exact ⟨s + 1, L, A, cc, by omega, rfl, by go_num, rfl, hmiss, hown.kept hb, Below.step hb5 hb⟩
            · obtain rfl : s = 2 := by omega
              have hJ2 : Hid (Inv a b 0 0 (DoneJ xs ys k (j + 1)) L ∧ (L = [] → A = none ∧ cc = 0)) := ⟨hS.out.1.imp (fun x _ hh => done_next_j hh), hS.out.2⟩
              clear hS
              go_wp2_with fail
              go_roundg (ys.length - (j + 1))
              case measure => omega
              case rel => exact ⟨j + 1, L, A, cc, by omega, rfl, by go_num, rfl, hJ2, hown, Below.step hbm hb5⟩
        · obtain rfl : j = ys.length := by omega
          have hI2 : Hid (Inv a b 0 0 (fun n _ => DoneI xs (k + 1) n) L ∧ (L = [] → A = none ∧ cc = 0)) := ⟨hJ.out.1.imp (fun x hr hh => done_next_i hh (hden.out x hr)), hJ.out.2⟩
          have hjj : ¬ (ys.length : Int) < ys.length := Int.lt_irrefl _
          clear hJ hjt
          go_wp2_with fail
          go_roundg (xs.length - (k + 1))
          case measure => omega
          case rel => exact ⟨k + 1, L, A, cc, by omega, rfl, by go_num, rfl, hI2, hown, Below.step hbn hbm⟩
    · obtain rfl : k = xs.length := by omega
      have hfin := hall.out L hI.out.1
      subst hfin
      have hkk : ¬ (xs.length : Int) < xs.length := Int.lt_irrefl _
      replace h := Below.step h hbn
      clear hI hlt
      go_wp2_with fail
      go_ret
      exact ⟨A, cc, rfl, hown, h⟩

set_option maxHeartbeats 2000000 in
theorem cuRoots_3 (a : Int) (w : World) (ha : a ≠ 0) (M : List (Int × Int)) (hM : RL a 0 0 0 M) : Calls Tryd.prog 32 #[.agg #[.int .i64 a, .int .i64 0, .int .i64 0, .int .i64 0]] w (GivesFRow w M) := by
  have hI := Inv.zero (a := a) (b := 0) (c := 0) (d := 0) rfl
  have hMe : [(0, 1)] = M := RL.unique (hI.rs.rl fun x hx => hI.has x hx (.inl (by
    have h1 := hx.2.2
    have h2 : a * x.1 * x.1 * x.1 = 0 := by unfold cuVal at h1; grind
    rcases Int.mul_eq_zero.1 h2 with h2 | h2
    · rcases Int.mul_eq_zero.1 h2 with h2 | h2
      · rcases Int.mul_eq_zero.1 h2 with h2 | h2
        · exact absurd h2 ha
        · exact h2
      · exact h2
    · exact h2))) hM
  subst hMe
  clear hM hI
  have h := below_alloc1 w (.cells #[.int .i64 a, .int .i64 0, .int .i64 0, .int .i64 0] 28)
  have hx0 := Box.new w 28 #[.int .i64 a, .int .i64 0, .int .i64 0, .int .i64 0]
  obtain ⟨k0, k1, k2, k3⟩ := hx0.four
  go_enter Tryd.func32, Tryd.ntmps32
  go_wp2_with fail
  refine (frInt_any 0 _).mono ?_
  rintro e w0 ⟨rfl, hb⟩
  replace h := Below.step h hb
  replace hx0 := hx0.kept hb
  clear hb k0 k1 k2 k3
  obtain ⟨k0, k1, k2, k3⟩ := hx0.four
  have hsz0 := h.size
  have hrd := rdF_new w0 (0, 1)
  have hba := Below.step h (below_alloc1 w0 (.cells #[.int .i64 0, .int .i64 1] 30))
  have hx2 := hx0.kept (below_alloc1 w0 (.cells #[.int .i64 0, .int .i64 1] 30))
  clear h hx0
  go_wp2_with (first
    | (at_builtin; refine wpList_append_F _ rfl _ _ 33 rfl Tryd.underlying33 (w0.heap.size) _ [] rfl (ownF_nil _ _) _ _ _ _ [(0, 1)] rfl hrd (by simp) (by simp) ?_; intro A0 c0 w1 ho0 hg1; have hx0 : Box w1 w.heap.size 28 #[.int .i64 a, .int .i64 0, .int .i64 0, .int .i64 0] := hx2.grown hg1 (by show some _ ≠ (Value.slice none 0 0).ownBlock; simp [Value.ownBlock]); obtain ⟨k0, k1, k2, k3⟩ := hx0.four)
    | fail)
  have h : Below w.heap.size w w1 := below_ownF hba (ownF_nil _ w.heap.size) (Nat.le_refl _) hg1
  replace ho0 : OwnF w1 w.heap.size (.slice A0 ([] ++ [(0, 1)] : List (Int × Int)).length c0) [(0, 1)] := ho0.le hsz0
  go_ret
  exact ⟨A0, c0, rfl, ho0, h⟩

theorem cuRoots_any (a b c d : Int) (w : World) (g : CuG a b c d) (M : List (Int × Int)) (hM : RL a b c d M) : Calls Tryd.prog 32 #[.agg #[.int .i64 a, .int .i64 b, .int .i64 c, .int .i64 d]] w (GivesFRow w M) := by
  by_cases hd : d = 0
  · subst hd
    by_cases hc : c = 0
    · subst hc
      by_cases hb : b = 0
      · subst hb
        exact cuRoots_3 a w g.1 M hM
      · exact cuRoots_2 a b w g hb M hM
    · exact cuRoots_1 a b c w g hc M hM
  · exact cuRoots_0 a b c d w g hd M hM

set_option maxHeartbeats 1000000 in
theorem rootsS_yes (a b c d : Int) (w : World) (g : CuG a b c d) (M : List (Int × Int)) (hM : RL a b c d M) : Calls Tryd.prog 12 #[.agg #[.int .i64 a, .int .i64 b, .int .i64 c, .int .i64 d]] w (GivesFRowOk w M true) := by
  have key := fun W => cuRoots_any a b c d W g M hM
  replace key := Lib.hid key
  clear hM
  have h := below_alloc1 w (.cells #[.int .i64 a, .int .i64 b, .int .i64 c, .int .i64 d] 28)
  have hx0 := Box.new w 28 #[.int .i64 a, .int .i64 b, .int .i64 c, .int .i64 d]
  obtain ⟨k0, k1, k2, k3⟩ := hx0.four
  go_enter Tryd.func12, Tryd.ntmps12
  go_wp2_with fail
  refine (cuGood_yes a b c d _ g).mono ?_
  rintro e w1 ⟨rfl, hb⟩
  replace h := Below.step h hb
  replace hx0 := hx0.kept hb
  clear hb k0 k1 k2 k3
  obtain ⟨k0, k1, k2, k3⟩ := hx0.four
  go_wp2_with fail
  refine (key.out _).mono ?_
  rintro e w2 ⟨A', c', rfl, ho, hb⟩
  have hsz := h.size
  replace h := Below.step h hb
  clear k0 k1 k2 k3
  go_wp2_with fail
  go_ret2
  exact ⟨A', c', rfl, ho.le hsz, h⟩

set_option maxHeartbeats 1000000 in
theorem rootsS_bad (a b c d : Int) (w : World) (g : ¬ CuG a b c d) : Calls Tryd.prog 12 #[.agg #[.int .i64 a, .int .i64 b, .int .i64 c, .int .i64 d]] w (GivesFRowOk w [] false) := by
  have h := below_alloc1 w (.cells #[.int .i64 a, .int .i64 b, .int .i64 c, .int .i64 d] 28)
  have hx0 := Box.new w 28 #[.int .i64 a, .int .i64 b, .int .i64 c, .int .i64 d]
  obtain ⟨k0, k1, k2, k3⟩ := hx0.four
  go_enter Tryd.func12, Tryd.ntmps12
  go_wp2_with fail
  refine (cuGood_no a b c d _ g).mono ?_
  rintro e w1 ⟨rfl, hb⟩
  replace h := Below.step h hb
  go_wp2_with fail
  go_ret2
  exact ⟨none, 0, rfl, ownF_nil _ _, h⟩

set_option maxHeartbeats 1000000 in
theorem irrS_bad (a b c d : Int) (w : World) (g : ¬ CuG a b c d) : Calls Tryd.prog 19 #[.agg #[.int .i64 a, .int .i64 b, .int .i64 c, .int .i64 d]] w (GivesBB w false false) := by
  have h := below_alloc1 w (.cells #[.int .i64 a, .int .i64 b, .int .i64 c, .int .i64 d] 28)
  have hx0 := Box.new w 28 #[.int .i64 a, .int .i64 b, .int .i64 c, .int .i64 d]
  obtain ⟨k0, k1, k2, k3⟩ := hx0.four
  go_enter Tryd.func19, Tryd.ntmps19
  go_wp2_with fail
  refine (cuGood_no a b c d _ g).mono ?_
  rintro e w1 ⟨rfl, hb⟩
  replace h := Below.step h hb
  go_wp2_with fail
  go_ret2
  exact ⟨rfl, h⟩

set_option maxHeartbeats 1000000 in
theorem irrS_yes (a b c d : Int) (w : World) (g : CuG a b c d) (M : List (Int × Int)) (hM : RL a b c d M) (ok : Bool) (hok : ((M.length : Int) == 0) = ok) : Calls Tryd.prog 19 #[.agg #[.int .i64 a, .int .i64 b, .int .i64 c, .int .i64 d]] w (GivesBB w ok true) := by
  have key := fun W => cuRoots_any a b c d W g M hM
  replace key := Lib.hid key
  clear hM
  have h := below_alloc1 w (.cells #[.int .i64 a, .int .i64 b, .int .i64 c, .int .i64 d] 28)
  have hx0 := Box.new w 28 #[.int .i64 a, .int .i64 b, .int .i64 c, .int .i64 d]
  obtain ⟨k0, k1, k2, k3⟩ := hx0.four
  obtain ⟨n, hn⟩ : ∃ n, n = M.length := ⟨_, rfl⟩
  rw [← hn] at hok
  replace hok := Lib.hid hok
  go_enter Tryd.func19, Tryd.ntmps19
  go_wp2_with fail
  refine (cuGood_yes a b c d _ g).mono ?_
  rintro e w1 ⟨rfl, hb⟩
  replace h := Below.step h hb
  replace hx0 := hx0.kept hb
  clear hb k0 k1 k2 k3
  obtain ⟨k0, k1, k2, k3⟩ := hx0.four
  go_wp2_with fail
  refine (key.out _).mono ?_
  rintro e w2 ⟨A', c', rfl, ho, hb⟩
  rw [← hn]
  replace h := Below.step h hb
  clear k0 k1 k2 k3 ho hn
  go_wp2_with fail
  go_ret2
  exact ⟨congrArg (fun z => Ending.returned (.tuple #[.bool z, .bool true])) hok.out, h⟩
end Go.Proofs.YtjamckcbgcejdaaDoor
