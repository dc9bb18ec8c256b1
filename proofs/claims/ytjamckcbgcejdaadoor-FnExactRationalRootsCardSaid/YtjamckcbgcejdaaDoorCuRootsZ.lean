/- impl.RationalRoots, a last coefficient of 0 (written by wip/gen/curootsi.py). -/
import Derived.Test.YtjamckcbgcejdaaDoorRtAll
import Derived.Test.YtjamckcbgcejdaaDoorCuSortA
import Derived.Test.YtjamckcbgcejdaaDoorDvs
import Derived.Test.YtjamckcbgcejdaaDoorCuRoots2
import Derived.Maps.AppendAt
namespace Go.Proofs.YtjamckcbgcejdaaDoor
open Go.RowKit Go.Joins

/-- Apart from the row g0 nothing has changed since wn; the row v is g0 or a new one. -/
def OutOf (wn ws : World) (g0 : Nat) (v : Value) : Prop := wn.grownBy ws (some g0) ∧ ∃ blk, v.ownBlock = some blk ∧ (blk = g0 ∨ wn.heap.size ≤ blk)
theorem OutOf.start {wn : World} {g0 n c : Nat} : OutOf wn wn g0 (.slice (some ⟨g0, 0, none⟩) n c) := ⟨World.grownBy.refl _ _, g0, rfl, .inl rfl⟩
theorem OutOf.kept {wn ws ws' : World} {g0 : Nat} {v : Value} (h : OutOf wn ws g0 v) (hb : Below ws.heap.size ws ws') : OutOf wn ws' g0 v :=
  ⟨⟨hb.os.trans h.1.os, hb.tape.trans h.1.tape, hb.output.trans h.1.output, Nat.le_trans h.1.size hb.size, fun k hk hne => (hb.block k (by have := h.1.size; omega)).trans (h.1.block k hk hne)⟩, h.2⟩
theorem OutOf.app {wn ws ws' : World} {g0 : Nat} {v v' : Value} (h : OutOf wn ws g0 v) (hg : ws.grownBy ws' v.ownBlock) (hv : v'.ownBlock = v.ownBlock ∨ v'.ownBlock = some ws.heap.size) : OutOf wn ws' g0 v' := by
  obtain ⟨h1, blk, e, hb⟩ := h
  refine ⟨⟨hg.os.trans h1.os, hg.tape.trans h1.tape, hg.output.trans h1.output, Nat.le_trans h1.size hg.size, fun k hk hne => (hg.block k (by have := h1.size; omega) ?_).trans (h1.block k hk hne)⟩, ?_⟩
  · rw [e]
    intro e2
    injection e2 with e2
    subst e2
    rcases hb with hb | hb
    · exact hne (congrArg some hb)
    · omega
  · rcases hv with hv | hv
    · exact ⟨blk, hv.trans e, hb⟩
    · exact ⟨_, hv, .inr h1.size⟩
theorem wpList_append_F2 (w : World) {ops : Array Oper} {rest : List Oper} {o : Oper} {a : Act} {Q : Exit → Act → World → Prop} (hgd : o.guard = none) (s x : Operand) (t : TypeId)
    (ho : o.op = .call { callee := .builtin .append, args := #[s, x], argTypes := #[t, t] }) (ht : Tryd.prog.underlying t = some (.slice 30))
    (base : Nat) (v : Value) (L : List (Int × Int)) (hs : a.eval s = v) (hown : OwnF w base v L) (B : Nat) (ad : Addr) (m c : Nat) (M : List (Int × Int)) (hx : a.eval x = .slice (some ad) m c) (hr : RdF w B (some ad) m M)
    (hlen : L.length + m ≤ 1000000000000) (hbase : base ≤ w.heap.size)
    (h : ∀ A' c' w', OwnF w' base (.slice A' (L ++ M).length c') (L ++ M) → w.grownBy w' v.ownBlock → ((Value.slice A' (L ++ M).length c').ownBlock = v.ownBlock ∨ (Value.slice A' (L ++ M).length c').ownBlock = some w.heap.size) → wpList Tryd.prog ops Q rest (a.put o.dst (.slice A' (L ++ M).length c')) w') : wpList Tryd.prog ops Q (o :: rest) a w := by
  obtain ⟨i0, hi, hz0, hz1, hz2⟩ := info_parts Tryd.infoF
  have hcells : ∀ j u, ((flat M).map (Value.int .i64))[j]? = some u → w.cell? (ad.add j) = some u := by
    intro j u hu
    have hj : j < (flat M).length := by
      have := (List.getElem?_eq_some_iff.1 hu).1
      simpa using this
    rw [flat_len] at hj
    obtain ⟨b, off, he, _, hc⟩ := hr.2 (by have := hr.1; omega)
    obtain rfl := Option.some.inj he
    rw [Addr.add_lit, hc j (by have := hr.1; omega), ← hu, List.getElem?_map, List.getElem?_eq_getElem (by rw [flat_len]; exact hj)]
    rfl
  obtain ⟨v', w', hrun, r1, r2, _, r4⟩ := run_append_own_at (P := Tryd.prog) (w := w) base t o.type 30 i0 (.agg #[.int .i64 0, .int .i64 0]) 2 16 ht hi hz0 hz1 hz2 rfl (by decide) v L.length ((flat L).map (Value.int .i64)) hown ad m c ((flat M).map (Value.int .i64)) (by rw [List.length_map, flat_len, hr.1]) hcells
    (ints_oneCell _ _) (by unfold maxLen; omega) (by omega) hbase
  have h4 : OwnF w' base v' (L ++ M) := by
    unfold OwnF
    rw [flat_app, List.length_append, List.map_append, hr.1]
    exact r1
  obtain ⟨A', c', rfl, _, _⟩ := h4.form
  refine wpList_plain hgd fun K hK => ?_
  unfold Oper.wp execOp
  simp only [ho, resolve, invoke, builtin, Sem.run_bind, Sem.run_pure, Result.andThen_ok, List.map_toArray, List.map_cons, List.map_nil, hs, hx, hrun]
  exact hK _ _ (h A' c' w' h4 r2 r4)

set_option maxHeartbeats 8000000 in
set_option maxRecDepth 100000 in
theorem rootsI_zero (a b c : Int) (w : World) (hL : Lim w) (g : CuG a b c 0) (M : List (Int × Int)) (hM : RL a b c 0 M) : Calls Tryd.prog 13 #[.agg #[.int .i64 a, .int .i64 b, .int .i64 c, .int .i64 0]] w (GivesFRowOk w M true) := by
  obtain ⟨V, hV⟩ : ∃ V, lastOf a b c 0 = V := ⟨_, rfl⟩
  obtain ⟨N, hN⟩ : ∃ N, V.natAbs = N := ⟨_, rfl⟩
  obtain ⟨D, hD⟩ : ∃ D, a.natAbs = D := ⟨_, rfl⟩
  obtain ⟨hA0, ⟨a1, a2⟩, ⟨b1, b2⟩, ⟨c1, c2⟩, ⟨d1, d2⟩⟩ := id g
  have hNb : 1 ≤ N ∧ N ≤ 1000 := by
    unfold lastOf at hV
    split at hV
    · omega
    · first | omega | (split at hV <;> first | omega | (split at hV <;> omega))
  obtain ⟨hN1, hN2⟩ := hNb
  have hD1 : 1 ≤ D := by omega
  have hD2 : D ≤ 1000 := by omega
  have kor := fun (gg : Nat) (W : World) hx => cmpOr_any gg 0 c b a W hx hA0 V hV
  have ka := fun W => divisorsOf_any V N hN W hN1 hN2
  have kb := fun W => divisorsOf_any a D hD W hD1 hD2
  have hpx := fun (k : Nat) (hk : k < (DV N N).length) => DV_pos hk
  have hpy := fun (k : Nat) (hk : k < (DV D D).length) => DV_pos hk
  have hdone := rt_done (a := a) (b := b) (c := c) (d := 0) g (by rw [hV]; exact hN) hN1 hD
  have hxl := Nat.le_trans (DV_len N N) hN2
  have hyl := Nat.le_trans (DV_len D D) hD2
  obtain ⟨xs, hxs⟩ : ∃ xs, xs = DV N N := ⟨_, rfl⟩
  obtain ⟨ys, hys⟩ : ∃ ys, ys = DV D D := ⟨_, rfl⟩
  rw [← hxs] at ka hpx hdone hxl
  rw [← hys] at kb hpy hdone hyl
  rw [← rt_end] at hdone
  have kr := fun p q W hL => isRootOf_any a b c 0 p q W hL
  have kg := fun W => isCubicI_yes a b c 0 W g
  have ks := fun W base A cc L h1 h2 h3 => sort_rl a b c 0 W base A cc L M g hM h1 h2 h3
  have rs := fun k j s n m => rt_s a b c 0 xs ys k j s n m
  have rj := fun k j hj => rt_j a b c 0 xs ys k j hj
  have rk := fun k hk => rt_k a b c 0 xs ys k hk
  have hst0 : RT a b c 0 xs ys 0 0 0 = [(0, 1)] := by rw [rt_start]; unfold zr; simp
  have hst : Hid ([(0, 1)] = RT a b c 0 xs ys 0 0 0 ∧ ([(0, 1)] : List (Int × Int)).length ≤ 1 + 2000 * 0) := ⟨hst0.symm, by simp⟩
  obtain ⟨F, hF⟩ : ∃ F, F = RT a b c 0 xs ys := ⟨_, rfl⟩
  rw [← hF] at hst rs rj rk hdone
  replace kor := Lib.hid kor
  replace ka := Lib.hid ka
  replace kb := Lib.hid kb
  replace kr := Lib.hid kr
  replace kg := Lib.hid kg
  replace ks := Lib.hid ks
  replace rs := Lib.hid rs
  replace rj := Lib.hid rj
  replace rk := Lib.hid rk
  replace hpx := Lib.hid hpx
  replace hpy := Lib.hid hpy
  replace hdone := Lib.hid hdone
  replace hL := Lib.hid hL
  have ix0 : ∀ (W : World) (n m : Int), (Instr.index 58 (.agg #[.int .i64 n, .int .i64 m, .int .i64 (-n), .int .i64 m]) (.int .i64 0)).run Tryd.prog W = .ok (.agg #[.int .i64 n, .int .i64 m]) W := fun _ _ _ => by kernel_rfl
  have ix1 : ∀ (W : World) (n m : Int), (Instr.index 58 (.agg #[.int .i64 n, .int .i64 m, .int .i64 (-n), .int .i64 m]) (.int .i64 1)).run Tryd.prog W = .ok (.agg #[.int .i64 (-n), .int .i64 m]) W := fun _ _ _ => by kernel_rfl
  clear hst0 hF hN hD hV hxs hys hM g hA0 a1 a2 b1 b2 c1 c2 d1 d2
  have h := below_alloc1 w (.cells #[.int .i64 a, .int .i64 b, .int .i64 c, .int .i64 0] 28)
  have hx0 := Box.new w 28 #[.int .i64 a, .int .i64 b, .int .i64 c, .int .i64 0]
  obtain ⟨k0, k1, k2, k3⟩ := hx0.four
  go_enter Tryd.func13, Tryd.ntmps13
  go_wp2_with fail
  refine (kg.out _).mono ?_
  rintro e w0 ⟨rfl, hb⟩
  replace h := Below.step h hb
  replace hx0 := hx0.kept hb
  clear hb k0 k1 k2 k3
  obtain ⟨k0, k1, k2, k3⟩ := hx0.four
  have hsz0 := h.size
  have hrd := rdF_new w0 (0, 1)
  have hba := Below.step h (below_alloc1 w0 (.cells #[.int .i64 0, .int .i64 1] 30))
  have hlt0 := hx0.lt
  have hx2 := hx0.kept (below_alloc1 w0 (.cells #[.int .i64 0, .int .i64 1] 30))
  clear h hx0
  go_wp2_with (first
    | (at_builtin; refine wpList_append_F _ rfl _ _ 33 rfl Tryd.underlying33 (w0.heap.size) _ [] rfl (ownF_nil _ _) _ _ _ _ [(0, 1)] rfl hrd (by simp) (by simp) ?_; intro A0 c0 w1 ho0 hg1; have hx0 : Box w1 w.heap.size 28 #[.int .i64 a, .int .i64 b, .int .i64 c, .int .i64 0] := hx2.grown hg1 (by show some _ ≠ (Value.slice none 0 0).ownBlock; simp [Value.ownBlock]); obtain ⟨k0, k1, k2, k3⟩ := hx0.four; have hor := Box.new w1 3 #[.int .i64 0, .int .i64 c, .int .i64 b, .int .i64 a])
    | fail)
  have h : Below w.heap.size w w1 := below_ownF hba (ownF_nil _ w.heap.size) (Nat.le_refl _) hg1
  obtain ⟨g0, o0, hA0, hg0s, _⟩ := ho0.rd.2 (by simp)
  obtain ⟨_, _, he0, _⟩ := id ho0.form
  have ho0' := ho0
  subst hA0
  obtain rfl : o0 = 0 := by
    rcases ho0.2 with ⟨h1, _⟩ | ⟨g', cap', cur', h1, _⟩
    · cases h1
    · injection h1 with h1; injection h1 with h1; injection h1 with _ h1
  have hg0l : w0.heap.size ≤ g0 := (World.ownsRow.lt ho0 g0 rfl).1
  have hg0w : Hid (some w.heap.size ≠ some g0) := by
    show some w.heap.size ≠ some g0
    intro e
    injection e with e
    omega
  replace ho0 : OwnF w1 w.heap.size (.slice (some ⟨g0, 0, none⟩) ([] ++ [(0, 1)] : List (Int × Int)).length c0) [(0, 1)] := ho0.le hsz0
  clear hba hx2 hrd hg1 hsz0 he0 ho0'
  have hba := below_alloc1 w1 (.cells #[.int .i64 0, .int .i64 c, .int .i64 b, .int .i64 a] 3)
  refine (kor.out _ _ hor).mono ?_
  rintro e w2 ⟨rfl, rfl⟩
  have hsz1 := hba.size
  replace h := Below.step h hba
  replace hx0 := hx0.kept hba
  replace ho0 := ho0.kept hba
  clear hba k0 k1 k2 k3 hor
  obtain ⟨k0, k1, k2, k3⟩ := hx0.four
  go_wp2_with fail
  refine (ka.out _).mono ?_
  rintro e w3 ⟨Ax, cx, rfl, hox, hb⟩
  have hrx := hox.rd
  replace ho0 := ho0.kept hb
  replace h := Below.step h hb
  replace hx0 := hx0.kept hb
  have hXo : Hid (∀ b o, Ax = some ⟨b, o, none⟩ → some b ≠ some g0) := by
    intro b o e e2
    subst e
    injection e2 with e2
    have := (World.ownsRow.lt hox b rfl).1
    omega
  have hsz3 := hb.size
  clear hb k0 k1 k2 k3 hox
  obtain ⟨k0, k1, k2, k3⟩ := hx0.four
  go_wp2_with fail
  refine (kb.out _).mono ?_
  rintro e wn ⟨Ay, cy, rfl, hoy, hb⟩
  have hry := hoy.rd
  replace hrx := hrx.kept hb
  replace ho0 := ho0.kept hb
  replace h := Below.step h hb
  replace hx0 := hx0.kept hb
  have hYo : Hid (∀ b o, Ay = some ⟨b, o, none⟩ → some b ≠ some g0) := by
    intro b o e e2
    subst e
    injection e2 with e2
    have := (World.ownsRow.lt hoy b rfl).1
    omega
  clear hb k0 k1 k2 k3 hoy hsz1 hsz3 hg0l hg0s hlt0
  go_wp2_with fail
  go_loopg [4, 37] ys.length (fun g v i wr => ∃ (k : Nat) (L : List (Int × Int)) (A : Option Addr) (cc : Nat), k ≤ ys.length ∧ g = ys.length - k ∧ i = .int .i64 k ∧ v = .slice A L.length cc ∧ Hid (L = F k 0 0 ∧ L.length ≤ 1 + 2000 * k) ∧ OwnF wr w.heap.size (.slice A L.length cc) L ∧ Below w.heap.size w wr ∧ OutOf wn wr g0 (.slice A L.length cc))
  case atStart => exact ⟨0, [(0, 1)], some ⟨g0, 0, none⟩, c0, Nat.zero_le _, rfl, rfl, rfl, hst, ho0, h, OutOf.start⟩
  case round =>
    obtain ⟨k, L, A, cc, hk, rfl, rfl, rfl, hI, hown, hbn, hou⟩ := hrel
    clear hst ho0
    by_cases hlt : k < ys.length
    · obtain ⟨m0, hm0⟩ : ∃ m0, m0 = ys[k]?.getD 0 := ⟨_, rfl⟩
      obtain ⟨bY, oY, rfl, hbY, hcY⟩ := hry.2 (by omega)
      have hread : wr.cell? ⟨bY, oY + k, none⟩ = some (.int .i64 m0) := by rw [hm0]; exact hou.1.cell (hcY k hlt) (hYo.out bY oY rfl)
      have hmb := hpy.out k hlt
      rw [← hm0] at hmb
      obtain ⟨mb1, mb2⟩ := hmb
      have hm0' := Lib.hid hm0
      clear hm0 hcY
      have hkk : (k : Int) < ys.length := by omega
      have hkN := Lib.hid hlt
      have hx1 := hx0.grown hou.1 hg0w.out
      go_wp2_with fail
      go_loopg [4, 43] xs.length (fun g v i ws => ∃ (j : Nat) (L : List (Int × Int)) (A : Option Addr) (cc : Nat), j ≤ xs.length ∧ g = xs.length - j ∧ i = .int .i64 j ∧ v = .slice A L.length cc ∧ Hid (L = F k j 0 ∧ L.length ≤ 1 + 2000 * k + 2 * j) ∧ OwnF ws w.heap.size (.slice A L.length cc) L ∧ Below w.heap.size w ws ∧ OutOf wn ws g0 (.slice A L.length cc))
      case atStart => exact ⟨0, L, A, cc, Nat.zero_le _, rfl, rfl, rfl, ⟨hI.out.1, by have := hI.out.2; omega⟩, hown, hbn, hou⟩
      case round =>
        clear hI hown hread hx1 hbn hou
        obtain ⟨j, L, A, cc, hj, rfl, rfl, rfl, hJ, hown, hbn, hou⟩ := hrel
        by_cases hjt : j < xs.length
        · obtain ⟨n0, hn0⟩ : ∃ n0, n0 = xs[j]?.getD 0 := ⟨_, rfl⟩
          obtain ⟨bX, oX, rfl, hbX, hcX⟩ := hrx.2 (by omega)
          have hread : wr.cell? ⟨bX, oX + j, none⟩ = some (.int .i64 n0) := by rw [hn0]; exact hou.1.cell (hcX j hjt) (hXo.out bX oX rfl)
          have hnb := hpx.out j hjt
          rw [← hn0] at hnb
          obtain ⟨nb1, nb2⟩ := hnb
          have hn0' := Lib.hid hn0
          clear hn0 hcX
          have hx1 := hx0.grown hou.1 hg0w.out
          have hjj : (j : Int) < xs.length := by omega
          go_wp2_with fail
          go_loopg [4, 55] 2 (fun g v i ws => ∃ (s : Nat) (L : List (Int × Int)) (A : Option Addr) (cc : Nat), s ≤ 2 ∧ g = 2 - s ∧ i = .int .i64 s ∧ v = .slice A L.length cc ∧ Hid (L = F k j s ∧ L.length ≤ 1 + 2000 * k + 2 * j + s) ∧ OwnF ws w.heap.size (.slice A L.length cc) L ∧ Below w.heap.size w ws ∧ OutOf wn ws g0 (.slice A L.length cc))
          case atStart => exact ⟨0, L, A, cc, by omega, rfl, rfl, rfl, ⟨hJ.out.1, by have := hJ.out.2; omega⟩, hown, hbn, hou⟩
          case round =>
            clear hJ hown hread hbn hou hx1
            obtain ⟨s, L, A, cc, hs, rfl, rfl, rfl, hS, hown, hbn, hou⟩ := hrel
            have hx3 := hx0.grown hou.1 hg0w.out
            obtain rfl | rfl | rfl : s = 0 ∨ s = 1 ∨ s = 2 := by omega
            · have hstep := rs.out k j 0 n0 m0 hm0'.out (by first | exact .inl ⟨rfl, hn0'.out⟩ | exact .inr ⟨rfl, by rw [hn0'.out]⟩)
              rw [← hS.out.1] at hstep
              have hlen := hS.out.2
              have hlen2 : L.length + 1 ≤ 1000000000000 := by omega
              have hbl := below_alloc1 wr (.cells #[.int .i64 n0, .int .i64 m0] 30)
              have hf3 := Box.new wr 30 #[.int .i64 n0, .int .i64 m0]
              replace hx3 := hx3.kept hbl
              replace hown := hown.kept hbl
              replace hbn := Below.step hbn hbl
              replace hou := hou.kept hbl
              have hLi := Lib.hid ((hL.out).kept hbn)
              obtain ⟨k0, k1, k2, k3⟩ := hx3.four
              obtain ⟨f0, f1⟩ := hf3.two
              have kr1 := fun W hL => kr.out n0 m0 W hL
              by_cases hr : CfRoot a b c 0 n0 m0
              · rw [decide_eq_true hr] at kr1
                rw [if_pos hr] at hstep
                have hnew : Hid (L ++ [(n0, m0)] = F k j (0 + 1) ∧ (L ++ [(n0, m0)]).length ≤ 1 + 2000 * k + 2 * j + (0 + 1)) := ⟨hstep.symm, by rw [List.length_append]; simp; omega⟩
                replace kr1 := Lib.hid kr1
                clear hr hS hstep hlen
                go_wp2_with fail
                refine (kr1.out _ hLi.out).mono ?_
                rintro e w6 ⟨rfl, hb⟩
                replace hbn := Below.step hbn hb
                replace hou := hou.kept hb
                replace hown := hown.kept hb
                replace hx3 := hx3.kept hb
                replace hf3 := hf3.kept hb
                clear hb k0 k1 k2 k3 f0 f1
                obtain ⟨f0, f1⟩ := hf3.two
                have hrd := rdF_new w6 (n0, m0)
                have hba := below_alloc1 w6 (.cells #[.int .i64 n0, .int .i64 m0] 30)
                replace hbn := Below.step hbn hba
                replace hou := hou.kept hba
                replace hown := hown.kept hba
                have hbase : w.heap.size ≤ (w6.alloc (.cells #[.int .i64 n0, .int .i64 m0] 30)).heap.size := hbn.size
                clear hba hx3 hf3
                go_wp2_with (first
                  | (at_builtin; refine wpList_append_F2 _ rfl _ _ 33 rfl Tryd.underlying33 w.heap.size _ L rfl hown _ _ _ _ [(n0, m0)] rfl hrd hlen2 hbase ?_; intro A' c' w8 ho' hg' hv')
                  | fail)
                have hb8 : Below w.heap.size w w8 := below_ownF hbn hown (Nat.le_refl _) hg'
                have hou8 := hou.app hg' hv'
                clear hg' hown hrd hbn hou
                go_roundg (2 - (0 + 1))
                case measure => omega
                case rel => exact ⟨0 + 1, L ++ [(n0, m0)], A', c', by omega, rfl, by go_num, by rw [List.length_append]; rfl, hnew, ho', hb8, hou8⟩
              · rw [decide_eq_false hr] at kr1
                rw [if_neg hr, List.append_nil] at hstep
                have hnew : Hid (L = F k j (0 + 1) ∧ L.length ≤ 1 + 2000 * k + 2 * j + (0 + 1)) := ⟨hstep.symm, by omega⟩
                replace kr1 := Lib.hid kr1
                clear hr hS hstep hlen
                go_wp2_with fail
                refine (kr1.out _ hLi.out).mono ?_
                rintro e w6 ⟨rfl, hb⟩
                replace hbn := Below.step hbn hb
                replace hou := hou.kept hb
                replace hown := hown.kept hb
                clear hb
                go_wp2_with fail
                go_roundg (2 - (0 + 1))
                case measure => omega
                case rel => exact ⟨0 + 1, L, A, cc, by omega, rfl, by go_num, rfl, hnew, hown, hbn, hou⟩
            · have hstep := rs.out k j 1 (-n0) m0 hm0'.out (by first | exact .inl ⟨rfl, hn0'.out⟩ | exact .inr ⟨rfl, by rw [hn0'.out]⟩)
              rw [← hS.out.1] at hstep
              have hlen := hS.out.2
              have hlen2 : L.length + 1 ≤ 1000000000000 := by omega
              have hbl := below_alloc1 wr (.cells #[.int .i64 (-n0), .int .i64 m0] 30)
              have hf3 := Box.new wr 30 #[.int .i64 (-n0), .int .i64 m0]
              replace hx3 := hx3.kept hbl
              replace hown := hown.kept hbl
              replace hbn := Below.step hbn hbl
              replace hou := hou.kept hbl
              have hLi := Lib.hid ((hL.out).kept hbn)
              obtain ⟨k0, k1, k2, k3⟩ := hx3.four
              obtain ⟨f0, f1⟩ := hf3.two
              have kr1 := fun W hL => kr.out (-n0) m0 W hL
              by_cases hr : CfRoot a b c 0 (-n0) m0
              · rw [decide_eq_true hr] at kr1
                rw [if_pos hr] at hstep
                have hnew : Hid (L ++ [((-n0), m0)] = F k j (1 + 1) ∧ (L ++ [((-n0), m0)]).length ≤ 1 + 2000 * k + 2 * j + (1 + 1)) := ⟨hstep.symm, by rw [List.length_append]; simp; omega⟩
                replace kr1 := Lib.hid kr1
                clear hr hS hstep hlen
                go_wp2_with fail
                refine (kr1.out _ hLi.out).mono ?_
                rintro e w6 ⟨rfl, hb⟩
                replace hbn := Below.step hbn hb
                replace hou := hou.kept hb
                replace hown := hown.kept hb
                replace hx3 := hx3.kept hb
                replace hf3 := hf3.kept hb
                clear hb k0 k1 k2 k3 f0 f1
                obtain ⟨f0, f1⟩ := hf3.two
                have hrd := rdF_new w6 ((-n0), m0)
                have hba := below_alloc1 w6 (.cells #[.int .i64 (-n0), .int .i64 m0] 30)
                replace hbn := Below.step hbn hba
                replace hou := hou.kept hba
                replace hown := hown.kept hba
                have hbase : w.heap.size ≤ (w6.alloc (.cells #[.int .i64 (-n0), .int .i64 m0] 30)).heap.size := hbn.size
                clear hba hx3 hf3
                go_wp2_with (first
                  | (at_builtin; refine wpList_append_F2 _ rfl _ _ 33 rfl Tryd.underlying33 w.heap.size _ L rfl hown _ _ _ _ [((-n0), m0)] rfl hrd hlen2 hbase ?_; intro A' c' w8 ho' hg' hv')
                  | fail)
                have hb8 : Below w.heap.size w w8 := below_ownF hbn hown (Nat.le_refl _) hg'
                have hou8 := hou.app hg' hv'
                clear hg' hown hrd hbn hou
                go_roundg (2 - (1 + 1))
                case measure => omega
                case rel => exact ⟨1 + 1, L ++ [((-n0), m0)], A', c', by omega, rfl, by go_num, by rw [List.length_append]; rfl, hnew, ho', hb8, hou8⟩
              · rw [decide_eq_false hr] at kr1
                rw [if_neg hr, List.append_nil] at hstep
                have hnew : Hid (L = F k j (1 + 1) ∧ L.length ≤ 1 + 2000 * k + 2 * j + (1 + 1)) := ⟨hstep.symm, by omega⟩
                replace kr1 := Lib.hid kr1
                clear hr hS hstep hlen
                go_wp2_with fail
                refine (kr1.out _ hLi.out).mono ?_
                rintro e w6 ⟨rfl, hb⟩
                replace hbn := Below.step hbn hb
                replace hou := hou.kept hb
                replace hown := hown.kept hb
                clear hb
                go_wp2_with fail
                go_roundg (2 - (1 + 1))
                case measure => omega
                case rel => exact ⟨1 + 1, L, A, cc, by omega, rfl, by go_num, rfl, hnew, hown, hbn, hou⟩
            · have hnew : Hid (L = F k (j + 1) 0 ∧ L.length ≤ 1 + 2000 * k + 2 * (j + 1)) := ⟨hS.out.1.trans (rj.out k j hjt), by have := hS.out.2; omega⟩
              clear hS hx3
              go_wp2_with fail
              go_roundg (xs.length - (j + 1))
              case measure => omega
              case rel => exact ⟨j + 1, L, A, cc, by omega, rfl, by go_num, rfl, hnew, hown, hbn, hou⟩
        · obtain rfl : j = xs.length := by omega
          have hnew : Hid (L = F (k + 1) 0 0 ∧ L.length ≤ 1 + 2000 * (k + 1)) := ⟨hJ.out.1.trans (rk.out k hkN.out), by have := hJ.out.2; omega⟩
          have hjj : ¬ (xs.length : Int) < xs.length := Int.lt_irrefl _
          clear hJ hjt
          go_wp2_with fail
          go_roundg (ys.length - (k + 1))
          case measure => omega
          case rel => exact ⟨k + 1, L, A, cc, by omega, rfl, by go_num, rfl, hnew, hown, hbn, hou⟩
    · obtain rfl : k = ys.length := by omega
      have hdn := hdone.out
      rw [← hI.out.1] at hdn
      have ks1 := fun W base A cc h3 => ks.out W base A cc L hdn.2 hdn.1 h3
      replace ks1 := Lib.hid ks1
      have hkk : ¬ (ys.length : Int) < ys.length := Int.lt_irrefl _
      replace h := hbn
      clear hI hlt hdn hou
      go_wp2_with fail
      refine (ks1.out _ _ _ _ hown).mono ?_
      rintro e w9 ⟨rfl, hlM, ho, hb⟩
      go_wp2_with fail
      go_ret2
      exact ⟨A, cc, congrArg (fun z : Nat => Ending.returned (.tuple #[.slice A z cc, .bool true])) hlM.symm, ho, h.trans hb⟩
end Go.Proofs.YtjamckcbgcejdaaDoor
