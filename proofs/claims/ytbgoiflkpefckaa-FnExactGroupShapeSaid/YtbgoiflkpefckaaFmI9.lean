/- The program's PointsModulo (written by wip/gen/fmi9.py). -/
import Derived.Test.YtbgoiflkpefckaaFmI8
import Derived.Test.YtbgoiflkpefckaaFmS5
import Derived.Deep.RegionHeld3
import Derived.Deep.DeepCutAuto
namespace Go.Proofs.Ytbgoiflkpefckaa
open Go.RowKit Go.Joins

theorem RdF.elem {w : World} {B n k : Nat} {A : Option Addr} {L : List FP} (h : RdF w B A n L) (hk : k < n) :
    ∃ b o, A = some ⟨b, o, none⟩ ∧ b < B ∧ w.cell? ⟨b, o + k * 3, none⟩ = some (.int .i64 (fpx (L[k]?.getD none))) ∧ w.cell? ⟨b, o + k * 3 + 1, none⟩ = some (.int .i64 (fpy (L[k]?.getD none))) ∧ w.cell? ⟨b, o + k * 3 + 2, none⟩ = some (.int .i64 (fpz (L[k]?.getD none))) := by
  obtain ⟨hl, h⟩ := h
  obtain ⟨b, o, rfl, hb, hc⟩ := h (by omega)
  have hf := fflat_at L k (by omega)
  rw [show 3 * k = k * 3 from by omega] at hf
  refine ⟨b, o, rfl, hb, ?_, ?_, ?_⟩
  · rw [hc (k * 3) (by omega), hf.1]
  · rw [Nat.add_assoc, hc (k * 3 + 1) (by omega), hf.2.1]
  · rw [Nat.add_assoc, hc (k * 3 + 2) (by omega), hf.2.2]
theorem take_snoc {L : List FP} {k : Nat} (h : k < L.length) : L.take (k + 1) = L.take k ++ [L[k]?.getD none] := by
  rw [List.take_succ_eq_append_getElem h, List.getElem?_eq_getElem h]; rfl

set_option maxHeartbeats 1000000 in
set_option maxRecDepth 100000 in
theorem ptsI_no (a b q : Int) (w : World) (g : ¬ Gd a b q 199) : Calls Try.prog 19 #[.agg #[.int .i64 a, .int .i64 b], .int .i64 q] w (GivesSSOk w [] false) := by
  have c1 := fun W => curveMod_no a b q 199 W g
  rw [show ((199 : Nat) : Int) = 199 from rfl] at c1
  replace c1 := Lib.hid c1
  clear g
  have h := Below.refl w.heap.size w
  have hA := below_alloc1 w (.cells #[.int .i64 a, .int .i64 b] 26)
  have hx0 := Box.new w 26 #[.int .i64 a, .int .i64 b]
  replace h := Below.step h hA
  clear hA
  obtain ⟨k00, k01⟩ := hx0.two
  have l0 := hx0.lt
  go_enter Try.func19, Try.ntmps19
  go_wp2_with fail
  refine (c1.out _).mono ?_
  rintro e w1 ⟨rfl, hb⟩
  replace h := Below.step h hb
  replace hx0 := hx0.kept hb
  clear hb k00 k01 l0
  obtain ⟨k00, k01⟩ := hx0.two
  have l0 := hx0.lt
  go_wp2_with fail
  go_ret2
  exact ⟨none, 0, [], rfl, SS.nil _ _, Below.step h (below_alloc1 _ _)⟩


set_option maxHeartbeats 2000000 in
set_option maxRecDepth 100000 in
theorem ptsI_yes {a b : Int} {p : Nat} (G : FG a b p) (hp : p ≤ 199) (w : World) : Calls Try.prog 19 #[.agg #[.int .i64 a, .int .i64 b], .int .i64 (p : Int)] w (GivesSSOk w ((plist a b p p).map fl) true) := by
  have c1 := fun W => curveMod_yes a b p 199 W G hp
  rw [show ((199 : Nat) : Int) = 199 from rfl] at c1
  replace c1 := Lib.hid c1
  have c2 := fun W => points_any G W
  have hpl := (plist_len a b p p).1
  have hpp := Nat.mul_le_mul hp hp
  have hlL := Lib.hid (show (plist a b p p).length ≤ 1000000 by omega)
  generalize plist a b p p = L at *
  replace c2 := Lib.hid c2
  clear hpl hpp G
  have h := Below.refl w.heap.size w
  have hA := below_alloc1 w (.cells #[.int .i64 a, .int .i64 b] 26)
  have hx0 := Box.new w 26 #[.int .i64 a, .int .i64 b]
  replace h := Below.step h hA
  clear hA
  obtain ⟨k00, k01⟩ := hx0.two
  have l0 := hx0.lt
  go_enter Try.func19, Try.ntmps19
  go_wp2_with fail
  refine (c1.out _).mono ?_
  rintro e w1 ⟨rfl, hb⟩
  replace h := Below.step h hb
  replace hx0 := hx0.kept hb
  clear hb k00 k01 l0
  obtain ⟨k00, k01⟩ := hx0.two
  have l0 := hx0.lt
  go_wp2_with fail
  have hA := below_alloc1 w1 (.cells #[.int .i64 (rs p a : Int), .int .i64 (rs p b : Int), .int .i64 (p : Int)] 62)
  have hxf := Box.new w1 62 #[.int .i64 (rs p a : Int), .int .i64 (rs p b : Int), .int .i64 (p : Int)]
  replace h := Below.step h hA
  replace hx0 := hx0.kept hA
  clear hA k00 k01 l0
  generalize w1.alloc (.cells #[.int .i64 (rs p a : Int), .int .i64 (rs p b : Int), .int .i64 (p : Int)] 62) = w2 at *
  generalize w1.heap.size = gf at hxf ⊢
  obtain ⟨k00, k01⟩ := hx0.two
  have l0 := hx0.lt
  obtain ⟨kf0, kf1, kf2⟩ := hxf.three
  have lf := hxf.lt
  have hsz0 := h.size
  refine (c2.out _).mono ?_
  rintro e w3 ⟨Ap, cp, rfl, hop, hb⟩
  replace h := Below.step h hb
  replace hx0 := hx0.kept hb
  replace hxf := hxf.kept hb
  clear hb k00 k01 l0 kf0 kf1 kf2 lf
  obtain ⟨k00, k01⟩ := hx0.two
  have l0 := hx0.lt
  obtain ⟨kf0, kf1, kf2⟩ := hxf.three
  have lf := hxf.lt
  obtain ⟨n, hn⟩ : ∃ n, n = L.length := ⟨_, rfl⟩
  have hrp := hop.rd
  rw [← hn] at hrp ⊢
  have hrdp : ∀ W, Below w3.heap.size w3 W → RdF W w3.heap.size Ap n L := fun W hW => hrp.below hW
  replace hrdp := Lib.hid hrdp
  have hn6 : n ≤ 1000000 := by rw [hn]; exact hlL.out
  have hn' := Lib.hid hn
  have hw3 : w.heap.size ≤ w3.heap.size := h.size
  clear hrp hop hx0 hxf hn hsz0 k00 k01 l0 kf0 kf1 kf2 lf
  go_wp2_with fail
  go_loopw [8, 22] (fun v x wr => ∃ (k : Nat) (A : Option Addr) (c : Nat) (vs : List Value), k ≤ n ∧ v = .slice A ((L.take k).map fl).length c ∧ x = .int .i64 k ∧ SS wr w3.heap.size (.slice A ((L.take k).map fl).length c) ((L.take k).map fl) vs ∧ Below w3.heap.size w3 wr) (fun _ x _ => n - (intOf x).toNat)
  case atStart => exact ⟨0, none, 0, [], by omega, rfl, rfl, SS.nil _ _, Below.refl _ _⟩
  case round =>
    obtain ⟨k, A, c, vs, hk, rfl, rfl, hss, hbl⟩ := hrel
    by_cases hlt : k < n
    · obtain ⟨b', o', rfl, hbb, r0, r1, r2⟩ := (hrdp.out _ hbl).elem hlt
      have hl2 : (L.take k).map fl ++ [fl (L[k]?.getD none)] = (L.take (k + 1)).map fl := by rw [take_snoc (by rw [← hn'.out]; exact hlt)]; exact (map_snoc fl _ _).symm
      have hlen2 : ((L.take k).map fl).length + 1 ≤ 4398046511104 := by rw [List.length_map, List.length_take]; have := hlL.out; omega
      generalize L[k]?.getD none = u at *
      have c3 := fun W => list_any u W
      replace c3 := Lib.hid c3
      obtain ⟨M, hM⟩ : ∃ M, M = (L.take k).map fl := ⟨_, rfl⟩
      rw [← hM] at hss hl2 hlen2 ⊢
      replace hl2 := Lib.hid hl2
      replace hlen2 := Lib.hid hlen2
      clear hM
      go_wp2_with fail
      have hA := below_alloc1 wr (.cells #[.int .i64 (fpx u), .int .i64 (fpy u), .int .i64 (fpz u)] 70)
      replace hss := hss.kept hA
      replace hbl := Below.step hbl hA
      clear hA r0 r1 r2
      generalize wr.alloc (.cells #[.int .i64 (fpx u), .int .i64 (fpy u), .int .i64 (fpz u)] 70) = w4 at *
      refine (c3.out _).mono ?_
      rintro e w5 ⟨A1, d1, rfl, ho1, hb⟩
      have hlo : w3.heap.size ≤ w4.heap.size := hbl.size
      have hA := below_alloc1 w5 (.cells #[.slice A1 (fl u).length d1] 36)
      have s1 := (hss.kept hb).kept hA
      have s2 : Own (w5.alloc (.cells #[.slice A1 (fl u).length d1] 36)) w3.heap.size (.slice A1 (fl u).length d1) (fl u) := (ho1.le hlo).alloc _
      have s3 : ∀ j : Nat, j < M.length → ∀ g, (vs[j]?.getD undef).ownBlock = some g → (Value.slice A1 (fl u).length d1).ownBlock ≠ some g := fun j hj g hg e => by
        have h1 := (World.ownsRow.lt (hss.inner j hj) g hg).2
        have h2 := (World.ownsRow.lt ho1 g e).1
        omega
      have s4 : (w5.alloc (.cells #[.slice A1 (fl u).length d1] 36)).cell? ((⟨w5.heap.size, 0, none⟩ : Addr).add 0) = some (.slice A1 (fl u).length d1) := by rw [Addr.add_zero']; exact (Box.new w5 36 #[.slice A1 (fl u).length d1]).cell 0
      have s6 := Below.step (Below.step hbl hb) hA
      have s5 : w3.heap.size ≤ (w5.alloc (.cells #[.slice A1 (fl u).length d1] 36)).heap.size := s6.size
      clear hA hss hbl hb ho1
      go_wp2_with (first
        | (at_builtin; refine wpList_append_ss _ rfl _ _ rfl w3.heap.size _ M vs rfl s1 _ (fl u) s2 s3 _ _ rfl s4 hlen2.out s5 ?_; intro A2 c2 w6 hs6 hg6)
        | fail)
      have hb6 := below_ss s6 s1 (Nat.le_refl _) hg6
      clear s1 s2 s3 s4 s5 s6 hg6
      have hle : M.length + 1 = ((L.take (k + 1)).map fl).length := by rw [← hl2.out, List.length_append]; rfl
      rw [hl2.out] at hs6
      rw [hle]
      clear hle hl2 hlen2
      go_wp2_with fail
      go_roundw
      case rel => exact ⟨k + 1, A2, c2, _, by omega, rfl, by go_num, hs6, hb6⟩
      case measure => simp [intOf]; omega
    · have hkn : k = n := by omega
      have hT : L.take k = L := by rw [List.take_of_length_le (by rw [← hn'.out]; omega)]
      rw [hT] at hss ⊢
      clear hT
      go_wp2_with fail
      go_ret2
      exact ⟨A, c, vs, rfl, hss.le hw3, h.trans (hbl.mono hw3)⟩

end Go.Proofs.Ytbgoiflkpefckaa
