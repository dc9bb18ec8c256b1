/- ecBad, BadPrimes of the model (written by wip/gen/ecbad.py). -/
import Derived.Test.YtmknmjkcnlennaaEcPut
import Derived.Test.YtmknmjkcnlennaaEcFac
import Derived.Test.YtmknmjkcnlennaaCiGcd
namespace Go.Proofs.Ytmknmjkcnlennaa
open Go.RowKit Go.Joins

theorem facL_get {F : List (Nat × Nat)} {j : Nat} (hj : j < F.length) : (facL F)[j]?.getD [] = [((F[j]?.getD (0, 0)).1 : Int), ((F[j]?.getD (0, 0)).2 : Int)] := by
  unfold facL
  rw [List.getElem?_map, List.getElem?_eq_getElem hj]
  rfl
theorem facs_at {w : World} {B n : Nat} {A : Option Addr} {F : List (Nat × Nat)} (h : RdSS w B A n (facL F)) {j : Nat} (hj : j < n) :
    ∃ b o b2 o2 c2, A = some ⟨b, o, none⟩ ∧ w.cell? ⟨b, o + j, none⟩ = some (.slice (some ⟨b2, o2, none⟩) 2 c2) ∧ w.cell? ⟨b2, o2, none⟩ = some (.int .i64 ((F[j]?.getD (0, 0)).1 : Int)) := by
  obtain ⟨b, o, rfl, hB, hc⟩ := h.2 (by omega)
  obtain ⟨A', c', h1, h2⟩ := hc j hj
  have hjF : j < F.length := by have := h.1; rw [facL_length] at this; omega
  rw [facL_get hjF] at h1 h2
  obtain ⟨b2, o2, rfl, hB2, hc2⟩ := h2.2 (by simp)
  have h3 := hc2 0 (by simp)
  exact ⟨b, o, b2, o2, c', rfl, h1, by simpa using h3⟩

set_option maxHeartbeats 4000000 in
theorem ecBad_any (a b : Int) (w : World) (F : List (Nat × Nat)) (g : EcG a b) (hF : Fac F (ecD a b).natAbs) (hn : F.length ≤ (ecD a b).natAbs) : Calls Try.prog 49 #[.agg #[.int .i64 a, .int .i64 b]] w (GivesRow w (bpL F F.length)) := by
  obtain ⟨D, hD⟩ : ∃ D, ecD a b = D := ⟨_, rfl⟩
  have hl := ecD_le g
  rw [hD] at hl hF hn
  have k1 := fun W => ecDisc_any a b W g.1 g.2.1 D hD
  have k2 := fun W => l1Abs_any D W (by omega) (by omega)
  have k3 := fun W => mdFactors_any D.natAbs W hl.1 (by omega) F hF hn
  have hN := hl.1
  have hFl : F.length ≤ 10000000000 := by omega
  obtain ⟨N, hNe⟩ : ∃ N, N = D.natAbs := ⟨_, rfl⟩
  rw [← hNe] at k2 k3 hF hN
  clear hNe hD hl hn
  replace k1 := Lib.hid k1
  replace k2 := Lib.hid k2
  replace k3 := Lib.hid k3
  replace hF := Lib.hid hF
  have h := Below.refl w.heap.size w
  have hA := below_alloc1 w (.cells #[.int .i64 a, .int .i64 b] 25)
  have hx0 := Box.new w 25 #[.int .i64 a, .int .i64 b]
  replace h := Below.step h hA
  clear hA
  have hA := below_alloc1 (w.alloc (.cells #[.int .i64 a, .int .i64 b] 25)) (.cells #[.int .i64 2] 3)
  have hxo := Box.new (w.alloc (.cells #[.int .i64 a, .int .i64 b] 25)) 3 #[.int .i64 2]
  rw [show (w.alloc (.cells #[.int .i64 a, .int .i64 b] 25)).heap.size = w.heap.size + 1 from by simp] at hxo
  replace h := Below.step h hA
  replace hx0 := hx0.kept hA
  clear hA
  obtain ⟨k00, k01⟩ := hx0.two
  have l0 := hx0.lt
  have ko0 := hxo.one
  have lo := hxo.lt
  clear k00 k01 l0 ko0 lo hxo
  have ho := own_lit1 (w.alloc (.cells #[.int .i64 a, .int .i64 b] 25)) 2 (base := w.heap.size) (by simp)
  rw [show (w.alloc (.cells #[.int .i64 a, .int .i64 b] 25)).heap.size = w.heap.size + 1 from by simp] at ho
  obtain ⟨k00, k01⟩ := hx0.two
  have l0 := hx0.lt
  go_enter Try.func49, Try.ntmps49
  go_wp2_with fail
  refine (k1.out _).mono ?_
  rintro e w1 ⟨rfl, hb⟩
  replace h := Below.step h hb
  replace hx0 := hx0.kept hb
  replace ho := ho.kept hb
  clear hb k00 k01 l0
  obtain ⟨k00, k01⟩ := hx0.two
  have l0 := hx0.lt
  go_wp2_with fail
  refine (k2.out _).mono ?_
  rintro e w2 ⟨rfl, rfl⟩
  go_wp2_with fail
  refine (k3.out _).mono ?_
  rintro e w3 ⟨Af, cf, vs, rfl, hs, hb⟩
  replace h := Below.step h hb
  replace hx0 := hx0.kept hb
  replace ho := ho.kept hb
  clear hb k00 k01 l0
  obtain ⟨k00, k01⟩ := hx0.two
  have l0 := hx0.lt
  have hrs := hs.rd
  rw [facL_length] at hrs ⊢
  clear hs k00 k01 l0 k1 k2 k3 hx0
  obtain ⟨n, hn⟩ : ∃ n, n = F.length := ⟨_, rfl⟩
  rw [← hn] at hrs hFl ⊢
  replace hn := Lib.hid hn
  go_wp2_with fail
  go_loopw [3, 12] (fun v x wr => ∃ (j : Nat) (A : Option Addr) (c : Nat), j ≤ n ∧ x = .int .i64 j ∧ v = .slice A (bpL F j).length c ∧ Own wr w.heap.size (.slice A (bpL F j).length c) (bpL F j) ∧ RdSS wr wr.heap.size Af n (facL F) ∧ Below w.heap.size w wr) (fun _ x _ => n - (intOf x).toNat)
  case atStart => exact ⟨0, _, _, Nat.zero_le _, rfl, rfl, ho, hrs, h⟩
  case round =>
    obtain ⟨j, A, c, hj, rfl, rfl, hown, hrw, hbw⟩ := hrel
    clear h ho hrs
    have hlen := bpL_len F j
    by_cases hlt : j < n
    · obtain ⟨b1, o1, b2, o2, c2, rfl, r1, r2⟩ := facs_at hrw hlt
      have hjF : j < F.length := by have := hn.out; omega
      have hq2 := Fac.ge hF.out hN hjF
      obtain ⟨q, hq⟩ : ∃ q, (F[j]?.getD (0, 0)).1 = q := ⟨_, rfl⟩
      rw [hq] at r2 hq2
      have hrd := hown.rd
      have hcap := hown.cap
      by_cases hbig : 2 < q
      · have hl := bpL_yes hq hbig
        have hlts := fun k hk => bpL_at hF.out hN hq hjF hbig k hk
        obtain ⟨L, hL⟩ : ∃ L, L = bpL F j := ⟨_, rfl⟩
        rw [← hL] at hown hlen hl hrd hcap hlts ⊢
        obtain ⟨b3, o3, rfl, -⟩ := hrd.2 (by omega)
        have k4 := l1Put_new b3 o3 L.length c (q : Int) L wr (by omega) (by omega) hcap hrd hlts
        have hbs := hbw.size
        replace hl := Lib.hid hl
        replace k4 := Lib.hid k4
        replace hq := Lib.hid hq
        clear hL hlts hrd hcap hbig hjF hF
        go_wp2_with fail
        refine (k4.out).mono ?_
        rintro e w5 ⟨A', c', rfl, hown', hb⟩
        replace hbw := Below.step hbw hb
        replace hrw := hrw.kept hb
        replace hown' := hown'.le hbs
        rw [hl.out] at hown' ⊢
        clear hown hb
        go_wp2_with fail
        go_roundw
        case rel => exact ⟨j + 1, A', c', by omega, by go_num, rfl, hown', hrw, hbw⟩
        case measure => simp [intOf]; omega
      · have hl := bpL_no hq hbig
        obtain ⟨hqq, h2L⟩ := bpL_first hF.out hN hjF (by rw [hq]; exact hbig)
        obtain rfl : q = 2 := by omega
        rw [h2L] at hown hrd hcap hl ⊢
        obtain ⟨b3, o3, rfl, -⟩ := hrd.2 (by simp)
        have k4 := l1Put_same b3 o3 1 c 2 [2] wr (by omega) (by omega) hrd rfl
        replace hl := Lib.hid hl
        replace k4 := Lib.hid k4
        replace hq := Lib.hid hq
        replace hown : Own wr w.heap.size (.slice (some ⟨b3, o3, none⟩) 1 c) [2] := hown
        clear h2L hrd hcap hbig hjF hF hqq
        go_wp2_with fail
        refine (k4.out).mono ?_
        rintro e w5 ⟨rfl, rfl⟩
        go_wp2_with fail
        go_roundw
        case rel => exact ⟨j + 1, some ⟨b3, o3, none⟩, c, by omega, by go_num, by rw [← hl.out]; rfl, by rw [← hl.out]; exact hown, hrw, hbw⟩
        case measure => simp [intOf]; omega
    · obtain rfl : j = n := by omega
      have hd : ¬ (j : Int) < j := by omega
      clear hlt
      rw [hn.out] at hown ⊢
      clear hF hrw
      go_wp2_with fail
      go_ret
      exact ⟨A, c, rfl, hown, hbw⟩


set_option maxHeartbeats 1000000 in
theorem badS_yes (a b : Int) (w : World) (F : List (Nat × Nat)) (g : EcG a b) (hF : Fac F (ecD a b).natAbs) (hn : F.length ≤ (ecD a b).natAbs) : Calls Try.prog 36 #[.agg #[.int .i64 a, .int .i64 b]] w (GivesRowOk w (bpL F F.length) true) := by
  have key := fun W => ecBad_any a b W F g hF hn
  obtain ⟨L, hL⟩ : ∃ L, L = bpL F F.length := ⟨_, rfl⟩
  rw [← hL] at key ⊢
  replace key := Lib.hid key
  clear hL hF hn
  have h := Below.refl w.heap.size w
  have hA := below_alloc1 w (.cells #[.int .i64 a, .int .i64 b] 25)
  have hx0 := Box.new w 25 #[.int .i64 a, .int .i64 b]
  replace h := Below.step h hA
  clear hA
  obtain ⟨k00, k01⟩ := hx0.two
  have l0 := hx0.lt
  go_enter Try.func36, Try.ntmps36
  go_wp2_with fail
  refine (ecGood_yes a b _ g).mono ?_
  rintro e w1 ⟨rfl, hb⟩
  replace h := Below.step h hb
  replace hx0 := hx0.kept hb
  clear hb k00 k01 l0
  obtain ⟨k00, k01⟩ := hx0.two
  have l0 := hx0.lt
  go_wp2_with fail
  have hsz := h.size
  refine (key.out _).mono ?_
  rintro e w2 ⟨A, c, rfl, hown, hb⟩
  replace h := Below.step h hb
  replace hx0 := hx0.kept hb
  clear hb k00 k01 l0
  obtain ⟨k00, k01⟩ := hx0.two
  have l0 := hx0.lt
  go_wp2_with fail
  go_ret2
  exact ⟨A, c, rfl, hown.le hsz, h⟩


set_option maxHeartbeats 1000000 in
theorem badS_bad (a b : Int) (w : World) (g : ¬ EcG a b) : Calls Try.prog 36 #[.agg #[.int .i64 a, .int .i64 b]] w (GivesRowOk w [] false) := by
  have h := Below.refl w.heap.size w
  have hA := below_alloc1 w (.cells #[.int .i64 a, .int .i64 b] 25)
  have hx0 := Box.new w 25 #[.int .i64 a, .int .i64 b]
  replace h := Below.step h hA
  clear hA
  obtain ⟨k00, k01⟩ := hx0.two
  have l0 := hx0.lt
  go_enter Try.func36, Try.ntmps36
  go_wp2_with fail
  refine (ecGood_no a b _ g).mono ?_
  rintro e w1 ⟨rfl, hb⟩
  replace h := Below.step h hb
  replace hx0 := hx0.kept hb
  clear hb k00 k01 l0
  obtain ⟨k00, k01⟩ := hx0.two
  have l0 := hx0.lt
  go_wp2_with fail
  go_ret2
  exact ⟨none, 0, rfl, own_nil _ _, h⟩

end Go.Proofs.Ytmknmjkcnlennaa
