/- The program's list of all points modulo a prime (written by wip/gen/fmi8.py). -/
import Derived.Test.YtbgoiflkpefckaaFmI7
import Derived.Test.YtbgoiflkpefckaaFmPl
import Derived.Test.YtbgoiflkpefckaaSSApp
import Derived.Deep.RegionHeld3
import Derived.Deep.DeepCutAuto
namespace Go.Proofs.Ytbgoiflkpefckaa
open Go.RowKit Go.Joins

theorem Box.ownF_far {w w' : World} {g lo : Nat} {t : TypeId} {cs : Array Value} {v : Value} {L : List FP} (h : Box w g t cs) (_h' : OwnF w lo v L) (hg : w.grownBy w' v.ownBlock) (hn : ∀ k, v.ownBlock = some k → k < g) : Box w' g t cs := by
  refine h.grown hg fun e => ?_
  have := hn g e.symm
  omega

set_option maxHeartbeats 2000000 in
set_option maxRecDepth 100000 in
theorem points_any {a b : Int} {p : Nat} (G : FG a b p) (w : World) : Calls Try.prog 52 #[.agg #[.int .i64 (rs p a : Int), .int .i64 (rs p b : Int), .int .i64 (p : Int)]] w (GivesFRow w (plist a b p p)) := by
  have h9 := G.le
  have h5 := G.five
  have hs9 : p * p + 1 ≤ 1000000 := by have := Nat.mul_le_mul h9 h9; omega
  have h := Below.refl w.heap.size w
  have hA := below_alloc1 w (.cells #[.int .i64 (rs p a : Int), .int .i64 (rs p b : Int), .int .i64 (p : Int)] 62)
  have hxf := Box.new w 62 #[.int .i64 (rs p a : Int), .int .i64 (rs p b : Int), .int .i64 (p : Int)]
  replace h := Below.step h hA
  clear hA
  obtain ⟨kf0, kf1, kf2⟩ := hxf.three
  have lf := hxf.lt
  go_enter Try.func52, Try.ntmps52
  go_wp2_with fail
  clear kf0 kf1 kf2 lf
  have hown : OwnF ((w.alloc (.cells #[.int .i64 (rs p a : Int), .int .i64 (rs p b : Int), .int .i64 (p : Int)] 62)).alloc (.cells #[.int .i64 0, .int .i64 0, .int .i64 0] 70)) (w.heap.size + 1) (.slice (some ⟨w.heap.size + 1, 0, none⟩) 1 1) [none] := by have h1 := ownF_one (w.alloc (.cells #[.int .i64 (rs p a : Int), .int .i64 (rs p b : Int), .int .i64 (p : Int)] 62)) (w.heap.size + 1) none (by simp); rw [show (w.alloc (.cells #[.int .i64 (rs p a : Int), .int .i64 (rs p b : Int), .int .i64 (p : Int)] 62)).heap.size = w.heap.size + 1 from by simp] at h1; exact h1
  have hA := below_alloc1 (w.alloc (.cells #[.int .i64 (rs p a : Int), .int .i64 (rs p b : Int), .int .i64 (p : Int)] 62)) (.cells #[.int .i64 0, .int .i64 0, .int .i64 0] 70)
  replace h := Below.step h hA
  replace hxf := hxf.kept hA
  clear hA
  generalize (w.alloc (.cells #[.int .i64 (rs p a : Int), .int .i64 (rs p b : Int), .int .i64 (p : Int)] 62)).alloc (.cells #[.int .i64 0, .int .i64 0, .int .i64 0] 70) = w1 at *
  go_loopw [3, 13] (fun o x wr => ∃ (k : Nat) (A : Option Addr) (c : Nat), k ≤ p ∧ o = .slice A (plist a b p k).length c ∧ x = .int .i64 k ∧ OwnF wr (w.heap.size + 1) (.slice A (plist a b p k).length c) (plist a b p k) ∧ Below w.heap.size w wr ∧ Box wr w.heap.size 62 #[.int .i64 (rs p a : Int), .int .i64 (rs p b : Int), .int .i64 (p : Int)]) (fun _ x _ => 1000 - (intOf x).toNat)
  case atStart => exact ⟨0, _, 1, by omega, rfl, rfl, hown, h, hxf⟩
  case round =>
    clear h hxf hown
    obtain ⟨k, A, c, hk, rfl, rfl, hown, h, hxf⟩ := hrel
    by_cases hlt : k < p
    · have c1 := fun W => at_any a b p k W h5 h9 hlt
      have hvp : fval a b p k < p := rs_lt (by omega) _
      have hpl := (plist_len a b p k).1
      have hpk := Nat.mul_le_mul (show k ≤ 996 by omega) h9
      have hll := Lib.hid (show (plist a b p k).length ≤ 1000000 by omega)
      replace c1 := Lib.hid c1
      clear hpl hpk
      by_cases hx : ∃ y, y < p ∧ y * y % p = fval a b p k
      · obtain ⟨y0, hy0, hy1⟩ := hx
        obtain ⟨y, b1, b2, b3⟩ := least_of (fun y => y * y % p = fval a b p k) y0 hy1
        have hyp : y < p := by omega
        obtain ⟨hpr, hopp⟩ := prs_on G hyp b2 b3
        have c2 := fun W => squareRoot_yes (fval a b p k : Int) p W ⟨by omega, by omega⟩ G.pr h9 (fval a b p k) y (nat_mod hvp) hyp b2 b3
        have c3 := fun W => opp_core (rs p a) (rs p b) p y (k : Int) 1 W h5 h9 hyp
        have hneg := rs_neg hyp
        obtain ⟨N, hN⟩ : ∃ N, N = rs p (-(y : Int)) := ⟨_, rfl⟩
        rw [← hN] at c3 hneg
        clear hN
        obtain ⟨L, hL⟩ : ∃ L, L = plist a b p k := ⟨_, rfl⟩
        have hL2 : plist a b p (k + 1) = L ++ (some (k, y) :: (if y = 0 then [] else [some (k, p - y)])) := by rw [plist, hpr, hL]
        rw [← hL] at hown hll ⊢
        generalize fval a b p k = V at *
        replace c2 := Lib.hid c2
        replace c3 := Lib.hid c3
        replace hL2 := Lib.hid hL2
        replace hneg := Lib.hid hneg
        replace hopp := Lib.hid hopp
        clear hL hpr b1 b2 b3 hy0 hy1 hvp
        obtain ⟨kf0, kf1, kf2⟩ := hxf.three
        have lf := hxf.lt
        go_upto_region 5 with fail
        have KM : ∀ (W : World), Below wr.heap.size wr W → (W.cell? ⟨w.heap.size, 0, none⟩ = some (.int .i64 (rs p a : Int)) ∧ W.cell? ⟨w.heap.size, 1, none⟩ = some (.int .i64 (rs p b : Int)) ∧ W.cell? ⟨w.heap.size, 2, none⟩ = some (.int .i64 (p : Int)) ∧ Below wr.heap.size wr W) := fun W hW => ⟨(hxf.kept hW).three.1, (hxf.kept hW).three.2.1, (hxf.kept hW).three.2.2, hW⟩
        have KC : ∀ (W W' : World), Below W.heap.size W W' → (W.cell? ⟨w.heap.size, 0, none⟩ = some (.int .i64 (rs p a : Int)) ∧ W.cell? ⟨w.heap.size, 1, none⟩ = some (.int .i64 (rs p b : Int)) ∧ W.cell? ⟨w.heap.size, 2, none⟩ = some (.int .i64 (p : Int)) ∧ Below wr.heap.size wr W) → (W'.cell? ⟨w.heap.size, 0, none⟩ = some (.int .i64 (rs p a : Int)) ∧ W'.cell? ⟨w.heap.size, 1, none⟩ = some (.int .i64 (rs p b : Int)) ∧ W'.cell? ⟨w.heap.size, 2, none⟩ = some (.int .i64 (p : Int)) ∧ Below wr.heap.size wr W') := fun W W' hb ⟨_, _, _, hW⟩ => KM _ (Below.step hW hb)
        have KA : ∀ (W : World) (o : Obj), (W.cell? ⟨w.heap.size, 0, none⟩ = some (.int .i64 (rs p a : Int)) ∧ W.cell? ⟨w.heap.size, 1, none⟩ = some (.int .i64 (rs p b : Int)) ∧ W.cell? ⟨w.heap.size, 2, none⟩ = some (.int .i64 (p : Int)) ∧ Below wr.heap.size wr W) → ((W.alloc o).cell? ⟨w.heap.size, 0, none⟩ = some (.int .i64 (rs p a : Int)) ∧ (W.alloc o).cell? ⟨w.heap.size, 1, none⟩ = some (.int .i64 (rs p b : Int)) ∧ (W.alloc o).cell? ⟨w.heap.size, 2, none⟩ = some (.int .i64 (p : Int)) ∧ Below wr.heap.size wr (W.alloc o)) := fun W o ⟨_, _, _, hW⟩ => KM _ (Below.step hW (below_alloc1 _ _))
        have KD : ∀ (W : World), (W.cell? ⟨w.heap.size, 0, none⟩ = some (.int .i64 (rs p a : Int)) ∧ W.cell? ⟨w.heap.size, 1, none⟩ = some (.int .i64 (rs p b : Int)) ∧ W.cell? ⟨w.heap.size, 2, none⟩ = some (.int .i64 (p : Int)) ∧ Below wr.heap.size wr W) → (W.drew.cell? ⟨w.heap.size, 0, none⟩ = some (.int .i64 (rs p a : Int)) ∧ W.drew.cell? ⟨w.heap.size, 1, none⟩ = some (.int .i64 (rs p b : Int)) ∧ W.drew.cell? ⟨w.heap.size, 2, none⟩ = some (.int .i64 (p : Int)) ∧ Below wr.heap.size wr W.drew) := fun W ⟨_, _, _, hW⟩ => KM _ (Below.drewN' hW 1)
        have KB : ∀ (W : World), (W.cell? ⟨w.heap.size, 0, none⟩ = some (.int .i64 (rs p a : Int)) ∧ W.cell? ⟨w.heap.size, 1, none⟩ = some (.int .i64 (rs p b : Int)) ∧ W.cell? ⟨w.heap.size, 2, none⟩ = some (.int .i64 (p : Int)) ∧ Below wr.heap.size wr W) → Below wr.heap.size wr W := fun W ⟨_, _, _, hW⟩ => hW
        have KM0 := KM wr.drew ⟨rfl, rfl, rfl, Nat.le_refl _, fun _ _ => rfl⟩
        have KM00 := KM _ (Below.refl _ _)
        have KE : ∀ (W : World), (W.cell? ⟨w.heap.size, 0, none⟩ = some (.int .i64 (rs p a : Int)) ∧ W.cell? ⟨w.heap.size, 1, none⟩ = some (.int .i64 (rs p b : Int)) ∧ W.cell? ⟨w.heap.size, 2, none⟩ = some (.int .i64 (p : Int)) ∧ Below wr.heap.size wr W) → Below w.heap.size w W := fun W ⟨_, _, _, hW⟩ => Below.step h hW
        replace KC := Lib.hid KC
        replace KA := Lib.hid KA
        replace KD := Lib.hid KD
        replace KB := Lib.hid KB
        replace KE := Lib.hid KE
        clear KM kf0 kf1 kf2 lf
        go_cut [5, 6] (fun s5 s6 wx => s5 = .int .i64 (y : Int) ∧ s6 = .bool true ∧ Below wr.heap.size wr wx)
        case first =>
          go_region_held3 (fun w' => w'.cell? ⟨w.heap.size, 0, none⟩ = some (.int .i64 (rs p a : Int)) ∧ w'.cell? ⟨w.heap.size, 1, none⟩ = some (.int .i64 (rs p b : Int)) ∧ w'.cell? ⟨w.heap.size, 2, none⟩ = some (.int .i64 (p : Int)) ∧ Below wr.heap.size wr w') ((first | (with_reducible assumption) | ((with_reducible refine KD.out _ ?_); (with_reducible assumption)) | ((with_reducible refine KA.out _ _ ?_); (first | (with_reducible assumption) | ((with_reducible refine KD.out _ ?_); (with_reducible assumption)))) | ((with_reducible refine KC.out _ _ ?_ ?_); (with_reducible assumption); (with_reducible assumption))))
            (first
              | (go_at_call 49; (with_reducible refine (c1.out _).mono ?_); rintro e wC0 ⟨rfl, hbC⟩; have hS0 : wC0.cell? ⟨w.heap.size, 0, none⟩ = some (.int .i64 (rs p a : Int)) ∧ wC0.cell? ⟨w.heap.size, 1, none⟩ = some (.int .i64 (rs p b : Int)) ∧ wC0.cell? ⟨w.heap.size, 2, none⟩ = some (.int .i64 (p : Int)) ∧ Below wr.heap.size wr wC0 := KC.out _ _ hbC (by assumption))
              | (go_at_call 74; (with_reducible refine (c2.out _).mono ?_); rintro e wC1 ⟨rfl, hbC⟩; have hS1 : wC1.cell? ⟨w.heap.size, 0, none⟩ = some (.int .i64 (rs p a : Int)) ∧ wC1.cell? ⟨w.heap.size, 1, none⟩ = some (.int .i64 (rs p b : Int)) ∧ wC1.cell? ⟨w.heap.size, 2, none⟩ = some (.int .i64 (p : Int)) ∧ Below wr.heap.size wr wC1 := KC.out _ _ hbC (by assumption)))
          all_goals (go_wp2_with fail; go_meet)
          all_goals refine ⟨rfl, rfl, KB.out _ ?_⟩
          all_goals (first | (with_reducible assumption) | ((with_reducible refine KD.out _ ?_); (with_reducible assumption)))
        case rest =>
        obtain ⟨rfl, rfl, hb⟩ := hcut
        clear KM0 KM00 KC KA KD KB KE
        rename World => wh1
        replace h := Below.step h hb
        replace hxf := hxf.kept hb
        replace hown := hown.kept hb
        clear hb
        obtain ⟨kf0, kf1, kf2⟩ := hxf.three
        have lf := hxf.lt
        have hA := below_alloc1 wh1 (.cells #[.int .i64 (k : Int), .int .i64 (y : Int), .int .i64 1] 70)
        have hxs := Box.new wh1 70 #[.int .i64 (k : Int), .int .i64 (y : Int), .int .i64 1]
        have hsl : w.heap.size + 1 ≤ wh1.heap.size := by have := hxf.lt; omega
        have hob := hown.alloc (.cells #[.int .i64 (k : Int), .int .i64 (y : Int), .int .i64 1] 70)
        have hxb := hxf.kept hA
        have h2 := Below.step h hA
        have hA2 := below_alloc1 (wh1.alloc (.cells #[.int .i64 (k : Int), .int .i64 (y : Int), .int .i64 1] 70)) (.cells #[.int .i64 (k : Int), .int .i64 (y : Int), .int .i64 1] 70)
        have hrd := rdF_new (wh1.alloc (.cells #[.int .i64 (k : Int), .int .i64 (y : Int), .int .i64 1] 70)) (some (k, y))
        rw [show (wh1.alloc (.cells #[.int .i64 (k : Int), .int .i64 (y : Int), .int .i64 1] 70)).heap.size = wh1.heap.size + 1 from by simp] at hrd
        have hoa := hob.alloc (.cells #[.int .i64 (k : Int), .int .i64 (y : Int), .int .i64 1] 70)
        have hxc := hxb.kept hA2
        have hxt := hxs.kept hA2
        have h3 := Below.step h2 hA2
        have hsz : w.heap.size + 1 ≤ ((wh1.alloc (.cells #[.int .i64 (k : Int), .int .i64 (y : Int), .int .i64 1] 70)).alloc (.cells #[.int .i64 (k : Int), .int .i64 (y : Int), .int .i64 1] 70)).heap.size := by have := hxc.lt; omega
        have hlen2 : L.length + 1 ≤ 1000000000000 := by have := hll.out; omega
        obtain ⟨j0, j1, j2⟩ := hxs.three
        clear hA hA2 hob hxb h2
        go_wp2_with (first
          | (at_builtin; refine wpList_append_F _ rfl _ _ 67 rfl Try.underlying67 (w.heap.size + 1) _ L rfl hoa _ _ _ _ [(some (k, y))] rfl hrd hlen2 hsz ?_; intro A1 c1' w7 hown7 hg7; have hxt7 := hxt.ownF_far hoa hg7 (by have := (World.ownsRow.lt hown); exact fun g hg => by have := (this g hg).2; omega); obtain ⟨i0, i1, i2⟩ := hxt7.three; have hxf7 := hxc.ownF_aside hoa hg7 (by omega); obtain ⟨q0, q1, q2⟩ := hxf7.three)
          | fail)
        have hb7 := below_ownF h3 hoa (by omega) hg7
        clear hown hxf hxs hoa hrd h3 hsz hlen2 hxc hxt h hg7 j0 j1 j2 i0 i1 i2 q0 q1 q2 kf0 kf1 kf2 lf
        have h := hb7
        have hxf := hxf7
        have hxs := hxt7
        have hown := hown7
        clear hb7 hxf7 hxt7 hown7
        generalize wh1.heap.size = gs at *
        obtain ⟨kf0, kf1, kf2⟩ := hxf.three
        have lf := hxf.lt
        obtain ⟨ks0, ks1, ks2⟩ := hxs.three
        have ls := hxs.lt
        refine (c3.out _).mono ?_
        rintro e w2 ⟨rfl, hb⟩
        replace h := Below.step h hb
        replace hxf := hxf.kept hb
        replace hxs := hxs.kept hb
        replace hown := hown.kept hb
        clear hb kf0 kf1 kf2 lf ks0 ks1 ks2 ls
        obtain ⟨kf0, kf1, kf2⟩ := hxf.three
        have lf := hxf.lt
        obtain ⟨ks0, ks1, ks2⟩ := hxs.three
        have ls := hxs.lt
        by_cases hy0 : y = 0
        · have hNy : N = y := by have := hneg.out; rw [if_pos hy0] at this; omega
          subst hNy
          have hL3 : L ++ [some (k, N)] = plist a b p (k + 1) := by rw [hL2.out, if_pos hy0]
          rw [hL3] at hown
          rw [show L.length + 1 = (plist a b p (k + 1)).length from by rw [← hL3, List.length_append]; rfl]
          clear hL3 hL2 hneg hopp hll hy0
          have hA := below_alloc1 w2 (.cells #[.int .i64 (k : Int), .int .i64 (N : Int), .int .i64 1] 70)
          have hxo := Box.new w2 70 #[.int .i64 (k : Int), .int .i64 (N : Int), .int .i64 1]
          obtain ⟨o0, o1, o2⟩ := hxo.three
          obtain ⟨s0, s1, s2⟩ := (hxs.kept hA).three
          replace h := Below.step h hA
          replace hxf := hxf.kept hA
          replace hown := hown.alloc (.cells #[.int .i64 (k : Int), .int .i64 (N : Int), .int .i64 1] 70)
          clear hA hxs kf0 kf1 kf2 lf ks0 ks1 ks2 ls
          go_wp2_with fail
          go_roundw
          case rel => exact ⟨k + 1, A1, c1', by omega, rfl, by go_num, hown, h, hxf⟩
          case measure => simp [intOf]; omega
        · have hNy : N = p - y := by have := hneg.out; rw [if_neg hy0] at this; exact this
          have hne := hopp.out hy0
          have hL3 : (L ++ [some (k, y)]) ++ [some (k, N)] = plist a b p (k + 1) := by rw [hL2.out, if_neg hy0, hNy, List.append_assoc]; rfl
          have eN : ((N : Int) == (y : Int)) = false := by rw [beq_nat]; exact decide_eq_false (by omega)
          have hlen3 := hll.out
          have hlL : (L ++ [some (k, y)]).length = L.length + 1 := by simp
          obtain ⟨M, hM⟩ : ∃ M, M = L ++ [some (k, y)] := ⟨_, rfl⟩
          rw [← hM] at hown hL3 hlL
          rw [show L.length + 1 = M.length from hlL.symm]
          replace hL3 := Lib.hid hL3
          have hlM : M.length + 1 ≤ 1000000000000 := by omega
          replace hlM := Lib.hid hlM
          clear hL2 hneg hopp hll hy0 hNy hne hM hlL hlen3
          have hA := below_alloc1 w2 (.cells #[.int .i64 (k : Int), .int .i64 (N : Int), .int .i64 1] 70)
          have hxo := Box.new w2 70 #[.int .i64 (k : Int), .int .i64 (N : Int), .int .i64 1]
          obtain ⟨o0, o1, o2⟩ := hxo.three
          obtain ⟨s0, s1, s2⟩ := (hxs.kept hA).three
          have hob := hown.alloc (.cells #[.int .i64 (k : Int), .int .i64 (N : Int), .int .i64 1] 70)
          have hxb := hxf.kept hA
          have h2 := Below.step h hA
          have hA2 := below_alloc1 (w2.alloc (.cells #[.int .i64 (k : Int), .int .i64 (N : Int), .int .i64 1] 70)) (.cells #[.int .i64 (k : Int), .int .i64 (N : Int), .int .i64 1] 70)
          have hrd := rdF_new (w2.alloc (.cells #[.int .i64 (k : Int), .int .i64 (N : Int), .int .i64 1] 70)) (some (k, N))
          rw [show (w2.alloc (.cells #[.int .i64 (k : Int), .int .i64 (N : Int), .int .i64 1] 70)).heap.size = w2.heap.size + 1 from by simp] at hrd
          have hoa := hob.alloc (.cells #[.int .i64 (k : Int), .int .i64 (N : Int), .int .i64 1] 70)
          have hxc := hxb.kept hA2
          have h3 := Below.step h2 hA2
          have hsz : w.heap.size + 1 ≤ ((w2.alloc (.cells #[.int .i64 (k : Int), .int .i64 (N : Int), .int .i64 1] 70)).alloc (.cells #[.int .i64 (k : Int), .int .i64 (N : Int), .int .i64 1] 70)).heap.size := by have := hxc.lt; omega
          clear hA hA2 hob hxb h2 hxs h hxf hown kf0 kf1 kf2 lf ks0 ks1 ks2 ls
          go_wp2_with (first
            | (at_builtin; refine wpList_append_F _ rfl _ _ 67 rfl Try.underlying67 (w.heap.size + 1) _ M rfl hoa _ _ _ _ [(some (k, N))] rfl hrd hlM.out hsz ?_; intro A2 c2' w9 hown9 hg9)
            | fail)
          have h := below_ownF h3 hoa (by omega) hg9
          have hxf := hxc.ownF_aside hoa hg9 (by omega)
          rw [hL3.out] at hown9
          rw [show M.length + 1 = (plist a b p (k + 1)).length from by rw [← hL3.out, List.length_append]; rfl]
          clear hrd hoa hxc h3 hg9 hL3 hlM
          go_wp2_with fail
          go_roundw
          case rel => exact ⟨k + 1, A2, c2', by omega, rfl, by go_num, hown9, h, hxf⟩
          case measure => simp [intOf]; omega
      · have hno : ∀ y, y < p → ¬ y * y % p = fval a b p k := fun y hy e => hx ⟨y, hy, e⟩
        have c2 := fun W => squareRoot_no (fval a b p k : Int) p W ⟨by omega, by omega⟩ G.pr h9 (fval a b p k) (nat_mod hvp) hno
        have hL3 : plist a b p k = plist a b p (k + 1) := by rw [plist, prs_off hno, List.append_nil]
        rw [hL3] at hown ⊢
        generalize fval a b p k = V at *
        replace c2 := Lib.hid c2
        clear hL3 hno hx hvp hll
        obtain ⟨kf0, kf1, kf2⟩ := hxf.three
        have lf := hxf.lt
        go_upto_region 5 with fail
        have KM : ∀ (W : World), Below wr.heap.size wr W → (W.cell? ⟨w.heap.size, 0, none⟩ = some (.int .i64 (rs p a : Int)) ∧ W.cell? ⟨w.heap.size, 1, none⟩ = some (.int .i64 (rs p b : Int)) ∧ W.cell? ⟨w.heap.size, 2, none⟩ = some (.int .i64 (p : Int)) ∧ Below wr.heap.size wr W) := fun W hW => ⟨(hxf.kept hW).three.1, (hxf.kept hW).three.2.1, (hxf.kept hW).three.2.2, hW⟩
        have KC : ∀ (W W' : World), Below W.heap.size W W' → (W.cell? ⟨w.heap.size, 0, none⟩ = some (.int .i64 (rs p a : Int)) ∧ W.cell? ⟨w.heap.size, 1, none⟩ = some (.int .i64 (rs p b : Int)) ∧ W.cell? ⟨w.heap.size, 2, none⟩ = some (.int .i64 (p : Int)) ∧ Below wr.heap.size wr W) → (W'.cell? ⟨w.heap.size, 0, none⟩ = some (.int .i64 (rs p a : Int)) ∧ W'.cell? ⟨w.heap.size, 1, none⟩ = some (.int .i64 (rs p b : Int)) ∧ W'.cell? ⟨w.heap.size, 2, none⟩ = some (.int .i64 (p : Int)) ∧ Below wr.heap.size wr W') := fun W W' hb ⟨_, _, _, hW⟩ => KM _ (Below.step hW hb)
        have KA : ∀ (W : World) (o : Obj), (W.cell? ⟨w.heap.size, 0, none⟩ = some (.int .i64 (rs p a : Int)) ∧ W.cell? ⟨w.heap.size, 1, none⟩ = some (.int .i64 (rs p b : Int)) ∧ W.cell? ⟨w.heap.size, 2, none⟩ = some (.int .i64 (p : Int)) ∧ Below wr.heap.size wr W) → ((W.alloc o).cell? ⟨w.heap.size, 0, none⟩ = some (.int .i64 (rs p a : Int)) ∧ (W.alloc o).cell? ⟨w.heap.size, 1, none⟩ = some (.int .i64 (rs p b : Int)) ∧ (W.alloc o).cell? ⟨w.heap.size, 2, none⟩ = some (.int .i64 (p : Int)) ∧ Below wr.heap.size wr (W.alloc o)) := fun W o ⟨_, _, _, hW⟩ => KM _ (Below.step hW (below_alloc1 _ _))
        have KD : ∀ (W : World), (W.cell? ⟨w.heap.size, 0, none⟩ = some (.int .i64 (rs p a : Int)) ∧ W.cell? ⟨w.heap.size, 1, none⟩ = some (.int .i64 (rs p b : Int)) ∧ W.cell? ⟨w.heap.size, 2, none⟩ = some (.int .i64 (p : Int)) ∧ Below wr.heap.size wr W) → (W.drew.cell? ⟨w.heap.size, 0, none⟩ = some (.int .i64 (rs p a : Int)) ∧ W.drew.cell? ⟨w.heap.size, 1, none⟩ = some (.int .i64 (rs p b : Int)) ∧ W.drew.cell? ⟨w.heap.size, 2, none⟩ = some (.int .i64 (p : Int)) ∧ Below wr.heap.size wr W.drew) := fun W ⟨_, _, _, hW⟩ => KM _ (Below.drewN' hW 1)
        have KB : ∀ (W : World), (W.cell? ⟨w.heap.size, 0, none⟩ = some (.int .i64 (rs p a : Int)) ∧ W.cell? ⟨w.heap.size, 1, none⟩ = some (.int .i64 (rs p b : Int)) ∧ W.cell? ⟨w.heap.size, 2, none⟩ = some (.int .i64 (p : Int)) ∧ Below wr.heap.size wr W) → Below wr.heap.size wr W := fun W ⟨_, _, _, hW⟩ => hW
        have KM0 := KM wr.drew ⟨rfl, rfl, rfl, Nat.le_refl _, fun _ _ => rfl⟩
        have KM00 := KM _ (Below.refl _ _)
        have KE : ∀ (W : World), (W.cell? ⟨w.heap.size, 0, none⟩ = some (.int .i64 (rs p a : Int)) ∧ W.cell? ⟨w.heap.size, 1, none⟩ = some (.int .i64 (rs p b : Int)) ∧ W.cell? ⟨w.heap.size, 2, none⟩ = some (.int .i64 (p : Int)) ∧ Below wr.heap.size wr W) → Below w.heap.size w W := fun W ⟨_, _, _, hW⟩ => Below.step h hW
        replace KC := Lib.hid KC
        replace KA := Lib.hid KA
        replace KD := Lib.hid KD
        replace KB := Lib.hid KB
        replace KE := Lib.hid KE
        clear KM kf0 kf1 kf2 lf
        go_cut [5, 6] (fun s5 s6 wx => s5 = .int .i64 0 ∧ s6 = .bool false ∧ Below wr.heap.size wr wx)
        case first =>
          go_region_held3 (fun w' => w'.cell? ⟨w.heap.size, 0, none⟩ = some (.int .i64 (rs p a : Int)) ∧ w'.cell? ⟨w.heap.size, 1, none⟩ = some (.int .i64 (rs p b : Int)) ∧ w'.cell? ⟨w.heap.size, 2, none⟩ = some (.int .i64 (p : Int)) ∧ Below wr.heap.size wr w') ((first | (with_reducible assumption) | ((with_reducible refine KD.out _ ?_); (with_reducible assumption)) | ((with_reducible refine KA.out _ _ ?_); (first | (with_reducible assumption) | ((with_reducible refine KD.out _ ?_); (with_reducible assumption)))) | ((with_reducible refine KC.out _ _ ?_ ?_); (with_reducible assumption); (with_reducible assumption))))
            (first
              | (go_at_call 49; (with_reducible refine (c1.out _).mono ?_); rintro e wC0 ⟨rfl, hbC⟩; have hS0 : wC0.cell? ⟨w.heap.size, 0, none⟩ = some (.int .i64 (rs p a : Int)) ∧ wC0.cell? ⟨w.heap.size, 1, none⟩ = some (.int .i64 (rs p b : Int)) ∧ wC0.cell? ⟨w.heap.size, 2, none⟩ = some (.int .i64 (p : Int)) ∧ Below wr.heap.size wr wC0 := KC.out _ _ hbC (by assumption))
              | (go_at_call 74; (with_reducible refine (c2.out _).mono ?_); rintro e wC1 ⟨rfl, hbC⟩; have hS1 : wC1.cell? ⟨w.heap.size, 0, none⟩ = some (.int .i64 (rs p a : Int)) ∧ wC1.cell? ⟨w.heap.size, 1, none⟩ = some (.int .i64 (rs p b : Int)) ∧ wC1.cell? ⟨w.heap.size, 2, none⟩ = some (.int .i64 (p : Int)) ∧ Below wr.heap.size wr wC1 := KC.out _ _ hbC (by assumption)))
          all_goals (go_wp2_with fail; go_meet)
          all_goals refine ⟨rfl, rfl, KB.out _ ?_⟩
          all_goals (first | (with_reducible assumption) | ((with_reducible refine KD.out _ ?_); (with_reducible assumption)))
        case rest =>
        obtain ⟨rfl, rfl, hb⟩ := hcut
        clear KM0 KM00 KC KA KD KB KE
        rename World => wh3
        replace h := Below.step h hb
        replace hxf := hxf.kept hb
        replace hown := hown.kept hb
        clear hb
        obtain ⟨kf0, kf1, kf2⟩ := hxf.three
        have lf := hxf.lt
        go_wp2_with fail
        go_roundw
        case rel => exact ⟨k + 1, A, c, by omega, rfl, by go_num, hown, h, hxf⟩
        case measure => simp [intOf]; omega
    · obtain rfl : k = p := by omega
      clear hlt
      go_wp2_with fail
      go_ret
      exact ⟨A, c, rfl, hown.le (by omega), h⟩

end Go.Proofs.Ytbgoiflkpefckaa
