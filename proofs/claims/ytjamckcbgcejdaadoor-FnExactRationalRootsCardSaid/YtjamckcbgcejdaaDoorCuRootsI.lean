/- impl.RationalRoots (written by wip/gen/curootsi.py). -/
import Derived.Test.YtjamckcbgcejdaaDoorRtAll
import Derived.Test.YtjamckcbgcejdaaDoorCuSortA
import Derived.Test.YtjamckcbgcejdaaDoorDvs
import Derived.Test.YtjamckcbgcejdaaDoorCuRoots2
namespace Go.Proofs.YtjamckcbgcejdaaDoor
open Go.RowKit Go.Joins

set_option maxHeartbeats 8000000 in
set_option maxRecDepth 100000 in
theorem rootsI_else (a b c d : Int) (w : World) (hL : Lim w) (g : CuG a b c d) (h0 : d ≠ 0) (M : List (Int × Int)) (hM : RL a b c d M) : Calls Tryd.prog 13 #[.agg #[.int .i64 a, .int .i64 b, .int .i64 c, .int .i64 d]] w (GivesFRowOk w M true) := by
  obtain ⟨V, hV⟩ : ∃ V, lastOf a b c d = V := ⟨_, rfl⟩
  obtain ⟨N, hN⟩ : ∃ N, V.natAbs = N := ⟨_, rfl⟩
  obtain ⟨D, hD⟩ : ∃ D, a.natAbs = D := ⟨_, rfl⟩
  obtain ⟨hA0, ⟨a1, a2⟩, ⟨b1, b2⟩, ⟨c1, c2⟩, ⟨d1, d2⟩⟩ := id g
  have hNb : 1 ≤ N ∧ N ≤ 1000 := by
    unfold lastOf at hV
    split at hV
    · omega
    · first | omega | (split at hV <;> first | omega | (split at hV <;> omega))
  obtain ⟨hN1, hN2⟩ := hNb
  have hD1 : 1 ≤ D := by omega
  have hD2 : D ≤ 1000 := by omega
  have kor := fun (gg : Nat) (W : World) hx => cmpOr_any gg d c b a W hx hA0 V hV
  have ka := fun W => divisorsOf_any V N hN W hN1 hN2
  have kb := fun W => divisorsOf_any a D hD W hD1 hD2
  have hpx := fun (k : Nat) (hk : k < (DV N N).length) => DV_pos hk
  have hpy := fun (k : Nat) (hk : k < (DV D D).length) => DV_pos hk
  have hdone := rt_done (a := a) (b := b) (c := c) (d := d) g (by rw [hV]; exact hN) hN1 hD
  have hxl := Nat.le_trans (DV_len N N) hN2
  have hyl := Nat.le_trans (DV_len D D) hD2
  obtain ⟨xs, hxs⟩ : ∃ xs, xs = DV N N := ⟨_, rfl⟩
  obtain ⟨ys, hys⟩ : ∃ ys, ys = DV D D := ⟨_, rfl⟩
  rw [← hxs] at ka hpx hdone hxl
  rw [← hys] at kb hpy hdone hyl
  rw [← rt_end] at hdone
  have kr := fun p q W hL => isRootOf_any a b c d p q W hL
  have kg := fun W => isCubicI_yes a b c d W g
  have ks := fun W base A cc L h1 h2 h3 => sort_rl a b c d W base A cc L M g hM h1 h2 h3
  have rs := fun k j s n m => rt_s a b c d xs ys k j s n m
  have rj := fun k j hj => rt_j a b c d xs ys k j hj
  have rk := fun k hk => rt_k a b c d xs ys k hk
  have hst0 : RT a b c d xs ys 0 0 0 = [] := by rw [rt_start]; unfold zr; simp [h0]
  have hst : Hid (([] : List (Int × Int)) = RT a b c d xs ys 0 0 0 ∧ (([] : List (Int × Int)) : List (Int × Int)).length ≤ 1 + 2000 * 0) := ⟨hst0.symm, by simp⟩
  obtain ⟨F, hF⟩ : ∃ F, F = RT a b c d xs ys := ⟨_, rfl⟩
  rw [← hF] at hst rs rj rk hdone
  replace kor := Lib.hid kor
  replace ka := Lib.hid ka
  replace kb := Lib.hid kb
  replace kr := Lib.hid kr
  replace kg := Lib.hid kg
  replace ks := Lib.hid ks
  replace rs := Lib.hid rs
  replace rj := Lib.hid rj
  replace rk := Lib.hid rk
  replace hpx := Lib.hid hpx
  replace hpy := Lib.hid hpy
  replace hdone := Lib.hid hdone
  replace hL := Lib.hid hL
  have ix0 : ∀ (W : World) (n m : Int), (Instr.index 58 (.agg #[.int .i64 n, .int .i64 m, .int .i64 (-n), .int .i64 m]) (.int .i64 0)).run Tryd.prog W = .ok (.agg #[.int .i64 n, .int .i64 m]) W := fun _ _ _ => by kernel_rfl
  have ix1 : ∀ (W : World) (n m : Int), (Instr.index 58 (.agg #[.int .i64 n, .int .i64 m, .int .i64 (-n), .int .i64 m]) (.int .i64 1)).run Tryd.prog W = .ok (.agg #[.int .i64 (-n), .int .i64 m]) W := fun _ _ _ => by kernel_rfl
  clear hst0 hF hN hD hV hxs hys hM g hA0 a1 a2 b1 b2 c1 c2 d1 d2
  have e0 : (d == 0) = false := beq_eq_false_iff_ne.2 h0
  clear h0
  have h := below_alloc1 w (.cells #[.int .i64 a, .int .i64 b, .int .i64 c, .int .i64 d] 28)
  have hx0 := Box.new w 28 #[.int .i64 a, .int .i64 b, .int .i64 c, .int .i64 d]
  obtain ⟨k0, k1, k2, k3⟩ := hx0.four
  go_enter Tryd.func13, Tryd.ntmps13
  go_wp2_with fail
  refine (kg.out _).mono ?_
  rintro e w0 ⟨rfl, hb⟩
  replace h := Below.step h hb
  replace hx0 := hx0.kept hb
  clear hb k0 k1 k2 k3
  obtain ⟨k0, k1, k2, k3⟩ := hx0.four
  have hor := Box.new w0 3 #[.int .i64 d, .int .i64 c, .int .i64 b, .int .i64 a]
  have ho0 : OwnF w0 w.heap.size (.slice none 0 0) [] := ownF_nil _ _
  go_wp2_with fail
  have hba := below_alloc1 w0 (.cells #[.int .i64 d, .int .i64 c, .int .i64 b, .int .i64 a] 3)
  refine (kor.out _ _ hor).mono ?_
  rintro e w2 ⟨rfl, rfl⟩
  replace h := Below.step h hba
  replace hx0 := hx0.kept hba
  replace ho0 := ho0.kept hba
  clear hba k0 k1 k2 k3 hor
  obtain ⟨k0, k1, k2, k3⟩ := hx0.four
  go_wp2_with fail
  refine (ka.out _).mono ?_
  rintro e w3 ⟨Ax, cx, rfl, hox, hb⟩
  have hrx := hox.rd
  replace ho0 := ho0.kept hb
  replace h := Below.step h hb
  replace hx0 := hx0.kept hb
  clear hb k0 k1 k2 k3 hox
  obtain ⟨k0, k1, k2, k3⟩ := hx0.four
  go_wp2_with fail
  refine (kb.out _).mono ?_
  rintro e wn ⟨Ay, cy, rfl, hoy, hb⟩
  have hry := hoy.rd
  replace hrx := hrx.kept hb
  replace ho0 := ho0.kept hb
  replace h := Below.step h hb
  replace hx0 := hx0.kept hb
  clear hb k0 k1 k2 k3 hoy
  go_wp2_with fail
  go_loopg [4, 37] ys.length (fun g v i wr => ∃ (k : Nat) (L : List (Int × Int)) (A : Option Addr) (cc : Nat), k ≤ ys.length ∧ g = ys.length - k ∧ i = .int .i64 k ∧ v = .slice A L.length cc ∧ Hid (L = F k 0 0 ∧ L.length ≤ 1 + 2000 * k) ∧ OwnF wr wn.heap.size (.slice A L.length cc) L ∧ Below wn.heap.size wn wr)
  case atStart => exact ⟨0, ([] : List (Int × Int)), none, 0, Nat.zero_le _, rfl, rfl, rfl, hst, ownF_nil _ _, Below.refl _ _⟩
  case round =>
    obtain ⟨k, L, A, cc, hk, rfl, rfl, rfl, hI, hown, hbn⟩ := hrel
    clear hst ho0
    by_cases hlt : k < ys.length
    · obtain ⟨m0, hm0⟩ : ∃ m0, m0 = ys[k]?.getD 0 := ⟨_, rfl⟩
      obtain ⟨bY, oY, rfl, hbY, hcY⟩ := hry.2 (by omega)
      have hread : wr.cell? ⟨bY, oY + k, none⟩ = some (.int .i64 m0) := by rw [hm0]; exact (hbn.cell (p := ⟨bY, oY + k, none⟩) hbY).trans (hcY k hlt)
      have hmb := hpy.out k hlt
      rw [← hm0] at hmb
      obtain ⟨mb1, mb2⟩ := hmb
      have hm0' := Lib.hid hm0
      clear hm0 hcY
      have hkk : (k : Int) < ys.length := by omega
      have hkN := Lib.hid hlt
      have hrx1 := hrx.below hbn
      have hx1 := hx0.kept hbn
      go_wp2_with fail
      go_loopg [4, 43] xs.length (fun g v i ws => ∃ (j : Nat) (L : List (Int × Int)) (A : Option Addr) (cc : Nat), j ≤ xs.length ∧ g = xs.length - j ∧ i = .int .i64 j ∧ v = .slice A L.length cc ∧ Hid (L = F k j 0 ∧ L.length ≤ 1 + 2000 * k + 2 * j) ∧ OwnF ws wn.heap.size (.slice A L.length cc) L ∧ Below wn.heap.size wn ws)
      case atStart => exact ⟨0, L, A, cc, Nat.zero_le _, rfl, rfl, rfl, ⟨hI.out.1, by have := hI.out.2; omega⟩, hown, hbn⟩
      case round =>
        clear hI hown hread hrx1 hx1 hbn
        obtain ⟨j, L, A, cc, hj, rfl, rfl, rfl, hJ, hown, hbn⟩ := hrel
        by_cases hjt : j < xs.length
        · obtain ⟨n0, hn0⟩ : ∃ n0, n0 = xs[j]?.getD 0 := ⟨_, rfl⟩
          obtain ⟨bX, oX, rfl, hbX, hcX⟩ := hrx.2 (by omega)
          have hread : wr.cell? ⟨bX, oX + j, none⟩ = some (.int .i64 n0) := by rw [hn0]; exact (hbn.cell (p := ⟨bX, oX + j, none⟩) hbX).trans (hcX j hjt)
          have hnb := hpx.out j hjt
          rw [← hn0] at hnb
          obtain ⟨nb1, nb2⟩ := hnb
          have hn0' := Lib.hid hn0
          clear hn0 hcX
          have hjj : (j : Int) < xs.length := by omega
          go_wp2_with fail
          go_loopg [4, 55] 2 (fun g v i ws => ∃ (s : Nat) (L : List (Int × Int)) (A : Option Addr) (cc : Nat), s ≤ 2 ∧ g = 2 - s ∧ i = .int .i64 s ∧ v = .slice A L.length cc ∧ Hid (L = F k j s ∧ L.length ≤ 1 + 2000 * k + 2 * j + s) ∧ OwnF ws wn.heap.size (.slice A L.length cc) L ∧ Below wn.heap.size wn ws)
          case atStart => exact ⟨0, L, A, cc, by omega, rfl, rfl, rfl, ⟨hJ.out.1, by have := hJ.out.2; omega⟩, hown, hbn⟩
          case round =>
            clear hJ hown hread hbn
            obtain ⟨s, L, A, cc, hs, rfl, rfl, rfl, hS, hown, hbn⟩ := hrel
            have hx3 := hx0.kept hbn
            obtain rfl | rfl | rfl : s = 0 ∨ s = 1 ∨ s = 2 := by omega
            · have hstep := rs.out k j 0 n0 m0 hm0'.out (by first | exact .inl ⟨rfl, hn0'.out⟩ | exact .inr ⟨rfl, by rw [hn0'.out]⟩)
              rw [← hS.out.1] at hstep
              have hlen := hS.out.2
              have hlen2 : L.length + 1 ≤ 1000000000000 := by omega
              have hbl := below_alloc1 wr (.cells #[.int .i64 n0, .int .i64 m0] 30)
              have hf3 := Box.new wr 30 #[.int .i64 n0, .int .i64 m0]
              replace hx3 := hx3.kept hbl
              replace hown := hown.kept hbl
              replace hbn := Below.step hbn hbl
              have hLi := Lib.hid ((hL.out).kept (Below.trans h (hbn.mono h.size)))
              obtain ⟨k0, k1, k2, k3⟩ := hx3.four
              obtain ⟨f0, f1⟩ := hf3.two
              have kr1 := fun W hL => kr.out n0 m0 W hL
              by_cases hr : CfRoot a b c d n0 m0
              · rw [decide_eq_true hr] at kr1
                rw [if_pos hr] at hstep
                have hnew : Hid (L ++ [(n0, m0)] = F k j (0 + 1) ∧ (L ++ [(n0, m0)]).length ≤ 1 + 2000 * k + 2 * j + (0 + 1)) := ⟨hstep.symm, by rw [List.length_append]; simp; omega⟩
                replace kr1 := Lib.hid kr1
                clear hr hS hstep hlen
                go_wp2_with fail
                refine (kr1.out _ hLi.out).mono ?_
                rintro e w6 ⟨rfl, hb⟩
                replace hbn := Below.step hbn hb
                replace hown := hown.kept hb
                replace hx3 := hx3.kept hb
                replace hf3 := hf3.kept hb
                clear hb k0 k1 k2 k3 f0 f1
                obtain ⟨f0, f1⟩ := hf3.two
                have hrd := rdF_new w6 (n0, m0)
                have hba := below_alloc1 w6 (.cells #[.int .i64 n0, .int .i64 m0] 30)
                replace hbn := Below.step hbn hba
                replace hown := hown.kept hba
                have hbase : wn.heap.size ≤ (w6.alloc (.cells #[.int .i64 n0, .int .i64 m0] 30)).heap.size := hbn.size
                clear hba hx3 hf3
                go_wp2_with (first
                  | (at_builtin; refine wpList_append_F _ rfl _ _ 33 rfl Tryd.underlying33 wn.heap.size _ L rfl hown _ _ _ _ [(n0, m0)] rfl hrd hlen2 hbase ?_; intro A' c' w8 ho' hg')
                  | fail)
                have hb8 : Below wn.heap.size wn w8 := below_ownF hbn hown (Nat.le_refl _) hg'
                clear hg' hown hrd hbn
                go_roundg (2 - (0 + 1))
                case measure => omega
                case rel => exact ⟨0 + 1, L ++ [(n0, m0)], A', c', by omega, rfl, by go_num, by rw [List.length_append]; rfl, hnew, ho', hb8⟩
              · rw [decide_eq_false hr] at kr1
                rw [if_neg hr, List.append_nil] at hstep
                have hnew : Hid (L = F k j (0 + 1) ∧ L.length ≤ 1 + 2000 * k + 2 * j + (0 + 1)) := ⟨hstep.symm, by omega⟩
                replace kr1 := Lib.hid kr1
                clear hr hS hstep hlen
                go_wp2_with fail
                refine (kr1.out _ hLi.out).mono ?_
                rintro e w6 ⟨rfl, hb⟩
                replace hbn := Below.step hbn hb
                replace hown := hown.kept hb
                clear hb
                go_wp2_with fail
                go_roundg (2 - (0 + 1))
                case measure => omega
                case rel => exact ⟨0 + 1, L, A, cc, by omega, rfl, by go_num, rfl, hnew, hown, hbn⟩
            · have hstep := rs.out k j 1 (-n0) m0 hm0'.out (by first | exact .inl ⟨rfl, hn0'.out⟩ | exact .inr ⟨rfl, by rw [hn0'.out]⟩)
              rw [← hS.out.1] at hstep
              have hlen := hS.out.2
              have hlen2 : L.length + 1 ≤ 1000000000000 := by omega
              have hbl := below_alloc1 wr (.cells #[.int .i64 (-n0), .int .i64 m0] 30)
              have hf3 := Box.new wr 30 #[.int .i64 (-n0), .int .i64 m0]
              replace hx3 := hx3.kept hbl
              replace hown := hown.kept hbl
              replace hbn := Below.step hbn hbl
              have hLi := Lib.hid ((hL.out).kept (Below.trans h (hbn.mono h.size)))
              obtain ⟨k0, k1, k2, k3⟩ := hx3.four
              obtain ⟨f0, f1⟩ := hf3.two
              have kr1 := fun W hL => kr.out (-n0) m0 W hL
              by_cases hr : CfRoot a b c d (-n0) m0
              · rw [decide_eq_true hr] at kr1
                rw [if_pos hr] at hstep
                have hnew : Hid (L ++ [((-n0), m0)] = F k j (1 + 1) ∧ (L ++ [((-n0), m0)]).length ≤ 1 + 2000 * k + 2 * j + (1 + 1)) := ⟨hstep.symm, by rw [List.length_append]; simp; omega⟩
                replace kr1 := Lib.hid kr1
                clear hr hS hstep hlen
                go_wp2_with fail
                refine (kr1.out _ hLi.out).mono ?_
                rintro e w6 ⟨rfl, hb⟩
                replace hbn := Below.step hbn hb
                replace hown := hown.kept hb
                replace hx3 := hx3.kept hb
                replace hf3 := hf3.kept hb
                clear hb k0 k1 k2 k3 f0 f1
                obtain ⟨f0, f1⟩ := hf3.two
                have hrd := rdF_new w6 ((-n0), m0)
                have hba := below_alloc1 w6 (.cells #[.int .i64 (-n0), .int .i64 m0] 30)
                replace hbn := Below.step hbn hba
                replace hown := hown.kept hba
                have hbase : wn.heap.size ≤ (w6.alloc (.cells #[.int .i64 (-n0), .int .i64 m0] 30)).heap.size := hbn.size
                clear hba hx3 hf3
                go_wp2_with (first
                  | (at_builtin; refine wpList_append_F _ rfl _ _ 33 rfl Tryd.underlying33 wn.heap.size _ L rfl hown _ _ _ _ [((-n0), m0)] rfl hrd hlen2 hbase ?_; intro A' c' w8 ho' hg')
                  | fail)
                have hb8 : Below wn.heap.size wn w8 := below_ownF hbn hown (Nat.le_refl _) hg'
                clear hg' hown hrd hbn
                go_roundg (2 - (1 + 1))
                case measure => omega
                case rel => exact ⟨1 + 1, L ++ [((-n0), m0)], A', c', by omega, rfl, by go_num, by rw [List.length_append]; rfl, hnew, ho', hb8⟩
              · rw [decide_eq_false hr] at kr1
                rw [if_neg hr, List.append_nil] at hstep
                have hnew : Hid (L = F k j (1 + 1) ∧ L.length ≤ 1 + 2000 * k + 2 * j + (1 + 1)) := ⟨hstep.symm, by omega⟩
                replace kr1 := Lib.hid kr1
                clear hr hS hstep hlen
                go_wp2_with fail
                refine (kr1.out _ hLi.out).mono ?_
                rintro e w6 ⟨rfl, hb⟩
                replace hbn := Below.step hbn hb
                replace hown := hown.kept hb
                clear hb
                go_wp2_with fail
                go_roundg (2 - (1 + 1))
                case measure => omega
                case rel => exact ⟨1 + 1, L, A, cc, by omega, rfl, by go_num, rfl, hnew, hown, hbn⟩
            · have hnew : Hid (L = F k (j + 1) 0 ∧ L.length ≤ 1 + 2000 * k + 2 * (j + 1)) := ⟨hS.out.1.trans (rj.out k j hjt), by have := hS.out.2; omega⟩
              clear hS hx3
              go_wp2_with fail
              go_roundg (xs.length - (j + 1))
              case measure => omega
              case rel => exact ⟨j + 1, L, A, cc, by omega, rfl, by go_num, rfl, hnew, hown, hbn⟩
        · obtain rfl : j = xs.length := by omega
          have hnew : Hid (L = F (k + 1) 0 0 ∧ L.length ≤ 1 + 2000 * (k + 1)) := ⟨hJ.out.1.trans (rk.out k hkN.out), by have := hJ.out.2; omega⟩
          have hjj : ¬ (xs.length : Int) < xs.length := Int.lt_irrefl _
          clear hJ hjt
          go_wp2_with fail
          go_roundg (ys.length - (k + 1))
          case measure => omega
          case rel => exact ⟨k + 1, L, A, cc, by omega, rfl, by go_num, rfl, hnew, hown, hbn⟩
    · obtain rfl : k = ys.length := by omega
      have hdn := hdone.out
      rw [← hI.out.1] at hdn
      have ks1 := fun W base A cc h3 => ks.out W base A cc L hdn.2 hdn.1 h3
      replace ks1 := Lib.hid ks1
      have hkk : ¬ (ys.length : Int) < ys.length := Int.lt_irrefl _
      have hown := hown.le h.size
      replace h := Below.trans h (hbn.mono h.size)
      clear hI hlt hdn
      go_wp2_with fail
      refine (ks1.out _ _ _ _ hown).mono ?_
      rintro e w9 ⟨rfl, hlM, ho, hb⟩
      go_wp2_with fail
      go_ret2
      exact ⟨A, cc, congrArg (fun z : Nat => Ending.returned (.tuple #[.slice A z cc, .bool true])) hlM.symm, ho, h.trans hb⟩
end Go.Proofs.YtjamckcbgcejdaaDoor
