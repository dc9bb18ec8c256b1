/- The program's rows of multiples of points modulo a prime (written by wip/gen/fmi4.py). -/
import Derived.Test.YtbgoiflkpefckaaFmI4
import Derived.Deep.RegionHeld3
import Derived.Deep.DeepCutAuto
namespace Go.Proofs.Ytbgoiflkpefckaa
open Go.RowKit Go.Joins

theorem OwnF.sets3 {w : World} {base g : Nat} {v : Value} {L : List FP} (h : OwnF w base v L) (hg : v.ownBlock ≠ some g) (x y z : Value) : OwnF (((w.setCell ⟨g, 0, none⟩ x).setCell ⟨g, 1, none⟩ y).setCell ⟨g, 2, none⟩ z) base v L := by
  have st : ∀ (w : World) (i : Nat) (u : Value), w.grownBy (w.setCell ⟨g, i, none⟩ u) (some g) := fun w i u => ⟨rfl, rfl, rfl, by simp, fun j hj hne => heap_setCell_other w ⟨g, i, none⟩ j u (fun e => hne (by rw [e]))⟩
  have ne : v.ownBlock = none ∨ v.ownBlock ≠ some g := .inr hg
  exact World.ownsRow.kept (World.ownsRow.kept (World.ownsRow.kept h (st _ _ _) ne) (st _ _ _) ne) (st _ _ _) ne
def sliceLen : Value → Nat
  | .slice _ n _ => n
  | _ => 0
theorem mulL_one (a : Int) (p : Nat) (s : FP) : mulL a p s 1 = [s] := rfl
theorem ownF_one (w : World) (base : Nat) (s : FP) (h : base ≤ w.heap.size) : OwnF (w.alloc (.cells #[.int .i64 (fpx s), .int .i64 (fpy s), .int .i64 (fpz s)] 70)) base (.slice (some ⟨w.heap.size, 0, none⟩) 1 1) [s] := by
  refine ⟨by simp [fflat], .inr ⟨w.heap.size, 1, #[.int .i64 (fpx s), .int .i64 (fpy s), .int .i64 (fpz s)], rfl, h, Box.new w _ _, by simp, by show 1 ≤ maxLen; decide, ?_⟩⟩
  simp [fflat]

set_option maxHeartbeats 2000000 in
set_option maxRecDepth 100000 in
theorem mults_any {a b : Int} {p : Nat} (G : FG a b p) (s : FP) (n : Nat) (w : World) (hs : FOn a b p s) (hn : FOrd a p s n) (hn2 : n ≤ 1000000) : Calls Try.prog 66 #[.agg #[.int .i64 (rs p a : Int), .int .i64 (rs p b : Int), .int .i64 (p : Int)], .agg #[.int .i64 (fpx s), .int .i64 (fpy s), .int .i64 (fpz s)]] w (GivesFRow w (mulL a p s n)) := by
  have hn1 := hn.1
  have h := Below.refl w.heap.size w
  have hA := below_alloc1 w (.cells #[.int .i64 (rs p a : Int), .int .i64 (rs p b : Int), .int .i64 (p : Int)] 62)
  have hxf := Box.new w 62 #[.int .i64 (rs p a : Int), .int .i64 (rs p b : Int), .int .i64 (p : Int)]
  replace h := Below.step h hA
  clear hA
  have hA := below_alloc1 (w.alloc (.cells #[.int .i64 (rs p a : Int), .int .i64 (rs p b : Int), .int .i64 (p : Int)] 62)) (.cells #[.int .i64 (fpx s), .int .i64 (fpy s), .int .i64 (fpz s)] 70)
  have hxs := Box.new (w.alloc (.cells #[.int .i64 (rs p a : Int), .int .i64 (rs p b : Int), .int .i64 (p : Int)] 62)) 70 #[.int .i64 (fpx s), .int .i64 (fpy s), .int .i64 (fpz s)]
  rw [show (w.alloc (.cells #[.int .i64 (rs p a : Int), .int .i64 (rs p b : Int), .int .i64 (p : Int)] 62)).heap.size = w.heap.size + 1 from by simp] at hxs
  replace h := Below.step h hA
  replace hxf := hxf.kept hA
  clear hA
  obtain ⟨kf0, kf1, kf2⟩ := hxf.three
  have lf := hxf.lt
  obtain ⟨ks0, ks1, ks2⟩ := hxs.three
  have ls := hxs.lt
  go_enter Try.func66, Try.ntmps66
  go_wp2_with fail
  clear kf0 kf1 kf2 lf ks0 ks1 ks2 ls
  have hsz : (((w.alloc (.cells #[.int .i64 (rs p a : Int), .int .i64 (rs p b : Int), .int .i64 (p : Int)] 62)).alloc (.cells #[.int .i64 (fpx s), .int .i64 (fpy s), .int .i64 (fpz s)] 70))).heap.size = w.heap.size + 2 := by simp
  generalize ((w.alloc (.cells #[.int .i64 (rs p a : Int), .int .i64 (rs p b : Int), .int .i64 (p : Int)] 62)).alloc (.cells #[.int .i64 (fpx s), .int .i64 (fpy s), .int .i64 (fpz s)] 70)) = w2 at *
  have hown : OwnF (w2.alloc (.cells #[.int .i64 (fpx s), .int .i64 (fpy s), .int .i64 (fpz s)] 70)) (w.heap.size + 2) (.slice (some ⟨w.heap.size + 2, 0, none⟩) 1 1) [s] := by have h1 := ownF_one w2 (w.heap.size + 2) s (by omega); rw [hsz] at h1; exact h1
  replace hown := hown.alloc (.cells #[.int .i64 (fpx s), .int .i64 (fpy s), .int .i64 (fpz s)] 70)
  have hxm : Box ((w2.alloc (.cells #[.int .i64 (fpx s), .int .i64 (fpy s), .int .i64 (fpz s)] 70)).alloc (.cells #[.int .i64 (fpx s), .int .i64 (fpy s), .int .i64 (fpz s)] 70)) (w.heap.size + 3) 70 #[.int .i64 (fpx s), .int .i64 (fpy s), .int .i64 (fpz s)] := by have h1 := Box.new (w2.alloc (.cells #[.int .i64 (fpx s), .int .i64 (fpy s), .int .i64 (fpz s)] 70)) 70 #[.int .i64 (fpx s), .int .i64 (fpy s), .int .i64 (fpz s)]; rw [show (w2.alloc (.cells #[.int .i64 (fpx s), .int .i64 (fpy s), .int .i64 (fpz s)] 70)).heap.size = w.heap.size + 3 from by simp [hsz]] at h1; exact h1
  have hA := Below.step (below_alloc1 w2 (.cells #[.int .i64 (fpx s), .int .i64 (fpy s), .int .i64 (fpz s)] 70)) (below_alloc1 _ (.cells #[.int .i64 (fpx s), .int .i64 (fpy s), .int .i64 (fpz s)] 70))
  replace h := Below.step h hA
  replace hxf := hxf.kept hA
  replace hxs := hxs.kept hA
  clear hA hsz
  generalize (w2.alloc (.cells #[.int .i64 (fpx s), .int .i64 (fpy s), .int .i64 (fpz s)] 70)).alloc (.cells #[.int .i64 (fpx s), .int .i64 (fpy s), .int .i64 (fpz s)] 70) = w3 at *
  go_loopw [5, 6] (fun v q wr => ∃ (k : Nat) (A : Option Addr) (c gm : Nat), 1 ≤ k ∧ k ≤ n ∧ v = .slice A (mulL a p s k).length c ∧ q = .pointer (some ⟨gm, 0, none⟩) ∧ OwnF wr (w.heap.size + 2) (.slice A (mulL a p s k).length c) (mulL a p s k) ∧ Below w.heap.size w wr ∧ Box wr w.heap.size 62 #[.int .i64 (rs p a : Int), .int .i64 (rs p b : Int), .int .i64 (p : Int)] ∧ Box wr (w.heap.size + 1) 70 #[.int .i64 (fpx s), .int .i64 (fpy s), .int .i64 (fpz s)] ∧ Box wr gm 70 #[.int .i64 (fpx (fmul a p k s)), .int .i64 (fpy (fmul a p k s)), .int .i64 (fpz (fmul a p k s))] ∧ w.heap.size + 2 ≤ gm ∧ (.slice A (mulL a p s k).length c : Value).ownBlock ≠ some gm) (fun v _ _ => n - sliceLen v)
  case atStart => exact ⟨1, _, 1, w.heap.size + 3, by omega, hn1, rfl, rfl, hown, h, hxf, hxs, hxm, by omega, by simp [Value.ownBlock]⟩
  case round =>
    clear h hxf hxs hxm hown
    obtain ⟨k, A, c, gm, hk1, hk2, rfl, rfl, hown, h, hxf, hxs, hxm, hgm, hne⟩ := hrel
    have hlen := mulL_len a p s k
    have on1 := G.mul_on hs k
    have hz := @fp_zero (fmul a p k s)
    by_cases hkn : k = n
    · subst hkn
      rw [hn.2.1] at hz hxm
      rw [show decide ((none : FP) = none) = true from rfl] at hz
      clear on1 hs hn
      obtain ⟨kf0, kf1, kf2⟩ := hxf.three
      have lf := hxf.lt
      obtain ⟨ks0, ks1, ks2⟩ := hxs.three
      have ls := hxs.lt
      obtain ⟨km0, km1, km2⟩ := hxm.three
      have lm := hxm.lt
      go_wp2_with fail
      go_ret
      exact ⟨A, c, rfl, hown.le (by omega), h⟩
    · have hnz : fmul a p k s ≠ none := hn.2.2 k hk1 (by omega)
      rw [decide_eq_false hnz] at hz
      have c1 := fun W => sum_any G (fmul a p k s) s W on1 hs
      obtain ⟨y, hy⟩ : ∃ y, y = fmul a p (k + 1) s := ⟨_, rfl⟩
      have hl2 : mulL a p s k ++ [y] = mulL a p s (k + 1) := by rw [hy]; rfl
      rw [show fadd a p (fmul a p k s) s = y from hy.symm] at c1
      generalize fmul a p k s = u at *
      obtain ⟨L, hL⟩ : ∃ L, L = mulL a p s k := ⟨_, rfl⟩
      rw [← hL] at hown hne hlen hl2 ⊢
      replace hlen := Lib.hid hlen
      replace c1 := Lib.hid c1
      replace hl2 := Lib.hid hl2
      replace hy := Lib.hid hy
      clear hL hn hnz on1 hs
      obtain ⟨kf0, kf1, kf2⟩ := hxf.three
      have lf := hxf.lt
      obtain ⟨ks0, ks1, ks2⟩ := hxs.three
      have ls := hxs.lt
      obtain ⟨km0, km1, km2⟩ := hxm.three
      have lm := hxm.lt
      go_wp2_with fail
      refine (c1.out _).mono ?_
      rintro e w1 ⟨rfl, hb⟩
      replace h := Below.step h hb
      replace hxf := hxf.kept hb
      replace hxs := hxs.kept hb
      replace hxm := hxm.kept hb
      replace hown := hown.kept hb
      clear hb kf0 kf1 kf2 lf ks0 ks1 ks2 ls km0 km1 km2 lm
      obtain ⟨kf0, kf1, kf2⟩ := hxf.three
      have lf := hxf.lt
      obtain ⟨ks0, ks1, ks2⟩ := hxs.three
      have ls := hxs.lt
      obtain ⟨km0, km1, km2⟩ := hxm.three
      have lm := hxm.lt
      have fm0 := hxm.free 0
      have fm1 := hxm.free 1
      have fm2 := hxm.free 2
      have h6 := below_sets3 (g := gm) h (by omega) (.int .i64 (fpx y)) (.int .i64 (fpy y)) (.int .i64 (fpz y))
      have hxf6 := hxf.off3 (show _ ≠ gm by omega) (.int .i64 (fpx y)) (.int .i64 (fpy y)) (.int .i64 (fpz y))
      have hxs6 := hxs.off3 (show _ ≠ gm by omega) (.int .i64 (fpx y)) (.int .i64 (fpy y)) (.int .i64 (fpz y))
      have hxm6 := hxm.set3 (.int .i64 (fpx y)) (.int .i64 (fpy y)) (.int .i64 (fpz y))
      have hown6 := hown.sets3 hne (.int .i64 (fpx y)) (.int .i64 (fpy y)) (.int .i64 (fpz y))
      obtain ⟨j0, j1, j2⟩ := hxm6.three
      have lm6 := hxm6.lt
      have hsz6 : (((w1.setCell ⟨gm, 0, none⟩ (.int .i64 (fpx y))).setCell ⟨gm, 1, none⟩ (.int .i64 (fpy y))).setCell ⟨gm, 2, none⟩ (.int .i64 (fpz y))).heap.size = w1.heap.size := by simp
      have hA := below_alloc1 (((w1.setCell ⟨gm, 0, none⟩ (.int .i64 (fpx y))).setCell ⟨gm, 1, none⟩ (.int .i64 (fpy y))).setCell ⟨gm, 2, none⟩ (.int .i64 (fpz y))) (.cells #[.int .i64 (fpx y), .int .i64 (fpy y), .int .i64 (fpz y)] 70)
      have hrd := rdF_new (((w1.setCell ⟨gm, 0, none⟩ (.int .i64 (fpx y))).setCell ⟨gm, 1, none⟩ (.int .i64 (fpy y))).setCell ⟨gm, 2, none⟩ (.int .i64 (fpz y))) y
      rw [hsz6] at hrd
      have hoa := hown6.alloc (.cells #[.int .i64 (fpx y), .int .i64 (fpy y), .int .i64 (fpz y)] 70)
      have hba := Below.step h6 hA
      have hxfa := hxf6.kept hA
      have hxsa := hxs6.kept hA
      have hxma := hxm6.kept hA
      have hsz : w.heap.size + 2 ≤ ((((w1.setCell ⟨gm, 0, none⟩ (.int .i64 (fpx y))).setCell ⟨gm, 1, none⟩ (.int .i64 (fpy y))).setCell ⟨gm, 2, none⟩ (.int .i64 (fpz y))).alloc (.cells #[.int .i64 (fpx y), .int .i64 (fpy y), .int .i64 (fpz y)] 70)).heap.size := by have := hxsa.lt; omega
      have hlen2 : L.length + 1 ≤ 1000000000000 := by have := hlen.out; omega
      clear hA hsz6 h6 hxf6 hxs6 hxm6 hown6
      go_wp2_with (first
        | (at_builtin; refine wpList_append_F _ rfl _ _ 67 rfl Try.underlying67 (w.heap.size + 2) _ L rfl hoa _ _ _ _ [y] rfl hrd hlen2 hsz ?_; intro A' c' w7 hown7 hg7; have hxm7 := hxma.grown hg7 (fun e => hne e.symm); obtain ⟨i0, i1, i2⟩ := hxm7.three)
        | fail)
      have hb7 := below_ownF hba hoa (by omega) hg7
      have hxf7 := hxfa.ownF_aside hoa hg7 (by omega)
      have hxs7 := hxsa.ownF_aside hoa hg7 (by omega)
      clear hrd hoa hba hxfa hxsa hxma
      rw [hl2.out] at hown7
      rw [show L.length + 1 = (mulL a p s (k + 1)).length from by rw [← hl2.out, List.length_append]; rfl]
      have hlt7 := World.ownsRow.lt hown7
      have hA := below_alloc1 w7 (.cells #[.int .i64 (fpx y), .int .i64 (fpy y), .int .i64 (fpz y)] 70)
      rw [hy.out] at hA ⊢
      go_roundw
      case rel => exact ⟨k + 1, A', c', w7.heap.size, by omega, by omega, rfl, rfl, hown7.alloc _, Below.step hb7 hA, hxf7.kept hA, hxs7.kept hA, Box.new w7 _ _, by have := hxs7.lt; omega, fun e => by have := (hlt7 _ e).2; omega⟩
      case measure => simp [sliceLen, mulL_len]; have := hlen.out; omega

end Go.Proofs.Ytbgoiflkpefckaa
