/- BitLength: the model's and the program's. -/
import Derived.Test.YtlkdelhmjjnnnaaBits
import Derived.Test.YtlkdelhmjjnnnaaOver
namespace Go.Proofs.Ytlkdelhmjjnnnaa
open Go.RowKit Go.Joins

theorem digs_one {v : Nat} (h : (digs v).length ≤ 1) : (digs v)[0]?.getD 0 = (v : Int) ∧ v ≤ 9999 := by
  have h1 := digs_val v
  have h2 := digs_rng v
  match hd : digs v with
  | [] => rw [hd, val_nil] at h1; simp; omega
  | [d] =>
    rw [hd, val_cons, val_nil] at h1
    rw [hd] at h2
    have := h2.head
    simp
    omega
  | a :: b :: l => rw [hd] at h; simp at h
theorem digs_more {v : Nat} (h : ¬ (digs v).length ≤ 1) : 10000 ≤ v := by
  apply Nat.le_of_not_lt
  intro h2
  exact h (digs_len (k := 1) (by omega))
theorem digs_pos {v : Nat} (h : v ≠ 0) : 0 < (digs v).length := by
  rw [digs_step (by omega)]; simp
set_option maxHeartbeats 1000000 in
theorem blI_no (neg0 : Bool) (A0 : Option Addr) (c0 : Nat) (xs0 : List Int) (w : World) (_hl0 : xs0.length ≤ 1048576) (_hr0 : Rd w w.heap.size A0 xs0.length xs0)  (hg : ¬ Good neg0 xs0)  :
    Calls Try.prog 34 #[.agg #[.bool neg0, .slice A0 xs0.length c0]] w (GivesIntOk w 0 false) := by
  have h := Below.refl w.heap.size w
  have hA := below_alloc1 w (.cells #[.bool neg0, .slice A0 xs0.length c0] 27)
  replace h := Below.step h hA
  have hx0 := Box.new w 27 #[.bool neg0, .slice A0 xs0.length c0]
  clear hA
  go_enter Try.func34, Try.ntmps34
  go_wp2_with fail
  refine (isWholeI_no neg0 A0 _ c0 xs0 _ (by omega) (_hr0.kept h) hg).mono ?_
  rintro e w1 ⟨rfl, hb⟩
  replace h := Below.step h hb
  replace hx0 := hx0.kept hb
  clear hb
  obtain ⟨ahx0, bhx0⟩ := hx0.two
  have lhx0 := hx0.lt
  go_wp2_with fail
  go_ret2
  exact ⟨rfl, h⟩

set_option maxHeartbeats 1000000 in
theorem blS_no (neg0 : Bool) (A0 : Option Addr) (c0 : Nat) (xs0 : List Int) (w : World) (_hl0 : xs0.length ≤ 1048576) (_hr0 : Rd w w.heap.size A0 xs0.length xs0)  (hg : ¬ Good neg0 xs0)  :
    Calls Try.prog 33 #[.agg #[.bool neg0, .slice A0 xs0.length c0]] w (GivesIntOk w 0 false) := by
  have h := Below.refl w.heap.size w
  have hA := below_alloc1 w (.cells #[.bool neg0, .slice A0 xs0.length c0] 27)
  replace h := Below.step h hA
  have hx0 := Box.new w 27 #[.bool neg0, .slice A0 xs0.length c0]
  clear hA
  go_enter Try.func33, Try.ntmps33
  go_wp2_with fail
  refine (bgGood_no neg0 A0 _ c0 xs0 _ (by omega) (_hr0.kept h) hg).mono ?_
  rintro e w1 ⟨rfl, hb⟩
  replace h := Below.step h hb
  replace hx0 := hx0.kept hb
  clear hb
  obtain ⟨ahx0, bhx0⟩ := hx0.two
  have lhx0 := hx0.lt
  go_wp2_with fail
  go_ret2
  exact ⟨rfl, h⟩

set_option maxHeartbeats 400000 in
theorem blI_yes (neg0 : Bool) (A0 : Option Addr) (c0 : Nat) (xs0 : List Int) (w : World) (_hl0 : xs0.length ≤ 1048576) (_hr0 : Rd w w.heap.size A0 xs0.length xs0) (hg0 : Good neg0 xs0) :
    ∀ G, G = blog (val xs0).toNat → Calls Try.prog 34 #[.agg #[.bool neg0, .slice A0 xs0.length c0]] w (GivesIntOk w (G : Int) true) := by
  intro G hG
  have hGb : G ≤ 5600 := by rw [hG]; exact blog_val hg0.rng (by have := hg0.len; omega)
  obtain ⟨V, hV⟩ : ∃ V, V = (val xs0).toNat := ⟨_, rfl⟩
  have hxd : xs0 = digs V := by rw [hV]; exact digs_of hg0.rng hg0.trimmed
  have hVl : ∀ v : Nat, v ≤ V → (digs v).length ≤ 400 := fun v hv => Nat.le_trans (digs_len_all (k := xs0.length) (by have := val_lt hg0.rng; omega)) hg0.len
  rw [← hV] at hG
  replace hG := Lib.hid hG
  replace hVl := Lib.hid hVl
  replace hV := Lib.hid hV
  replace hxd := Lib.hid hxd
  have h := Below.refl w.heap.size w
  have hA := below_alloc1 w (.cells #[.bool neg0, .slice A0 xs0.length c0] 27)
  replace h := Below.step h hA
  have hx0 := Box.new w 27 #[.bool neg0, .slice A0 xs0.length c0]
  clear hA
  go_enter Try.func34, Try.ntmps34
  go_wp2_with fail
  refine (isWholeI_yes neg0 A0 _ c0 xs0 _ (_hr0.kept h) hg0).mono ?_
  rintro e w1 ⟨rfl, hb⟩
  replace h := Below.step h hb
  replace hx0 := hx0.kept hb
  clear hb
  obtain ⟨ahx0, bhx0⟩ := hx0.two
  have lhx0 := hx0.lt
  have hrd := _hr0.kept h
  rw [hxd.out] at hrd bhx0
  go_wp2_with fail
  go_loopg [4, 5, 6] V (fun g l r x wr => ∃ (v b : Nat) (A : Option Addr) (c : Nat) (ρ : Int), g = v ∧ l = .int .i64 b ∧ r = .int .i64 ρ ∧ x = .slice A (digs v).length c ∧ Hid (b + blog v = G ∧ v ≤ V ∧ (v = 0 → b = 0)) ∧ Rd wr wr.heap.size A (digs v).length (digs v) ∧ Below w.heap.size w wr)
  case atStart => exact ⟨V, 0, A0, c0, 0, rfl, rfl, rfl, rfl, ⟨by rw [hG.out]; omega, Nat.le_refl _, fun _ => rfl⟩, hrd, h⟩
  case round =>
    clear hrd h hx0 ahx0 bhx0 lhx0
    obtain ⟨v, b, A, c, ρ, hgv, rfl, rfl, rfl, hv, hrd, h⟩ := hrel
    obtain rfl : v = gk := hgv.symm
    have hlv := hVl.out v hv.out.2.1
    have hb5 : b ≤ 5600 := by have := hv.out.1; omega
    by_cases h0 : v = 0
    · subst h0
      have hb0 : b = 0 := hv.out.2.2 rfl
      have hG0 : G = 0 := by have := hv.out.1; rw [blog_zero] at this; omega
      subst hb0 hG0
      rw [digs_zero]
      clear hv
      go_wp2_with fail
      go_ret2
      exact ⟨rfl, h⟩
    · have hp := digs_pos h0
      have c0 := divideLimbs_any A (digs v).length c (digs v) 549755813888 wr (by omega) hrd (digs_rng v) (by omega) (by omega)
      obtain ⟨q, hq⟩ : ∃ q, q = v / 549755813888 := ⟨_, rfl⟩
      obtain ⟨r, hr⟩ : ∃ r, r = v % 549755813888 := ⟨_, rfl⟩
      have e1 : (val (digs v) / 549755813888).toNat = q := by rw [digs_val]; omega
      have e2 : val (digs v) % 549755813888 = (r : Int) := by rw [digs_val]; omega
      have hr2 : r < 549755813888 := by omega
      rw [e1, e2] at c0
      by_cases hq0 : q = 0
      · have hvr : v = r := by omega
        have hfin : b + blog r = G := by rw [← hvr]; exact hv.out.1
        have hbr : blog r ≤ 5600 := by omega
        have cb := fun W => Lib.hid (bitsLen_any r W hr2)
        rw [hq0, digs_zero] at c0
        clear hv hq hr e1 e2 hvr hq0
        replace c0 := Lib.hid c0
        replace hfin := Lib.hid hfin
        go_wp2_with fail
        refine (c0.out).mono ?_
        rintro e w3 ⟨D, d, ds, rfl, rfl, hod, hb⟩
        have h2 := Below.step h hb
        clear hb hod
        go_wp2_with fail
        refine ((cb w3).out).mono ?_
        rintro e w4 ⟨rfl, rfl⟩
        go_wp2_with fail
        go_ret2
        exact ⟨by rw [← hfin.out]; simp, h2⟩
      · have hv2 : Hid (b + 39 + blog q = G ∧ q ≤ V ∧ (q = 0 → b + 39 = 0)) := by
          have h1 : blog v = 39 + blog (v / 549755813888) := blog_shift 39 v (by omega)
          have h2 := hv.out.1
          have h3 := hv.out.2.1
          refine ⟨?_, by omega, fun h => absurd h hq0⟩
          rw [hq]
          rw [h1] at h2
          omega
        have hqp := digs_pos hq0
        have hqv : q < v := by omega
        clear hv hq hr e1 e2
        replace c0 := Lib.hid c0
        go_wp2_with fail
        refine (c0.out).mono ?_
        rintro e w3 ⟨D, d, ds, rfl, rfl, hod, hb⟩
        have h2 := Below.step h hb
        have hrd2 := hod.rd
        clear hb hod
        go_wp2_with fail
        go_roundg q
        case measure => omega
        case rel => exact ⟨q, b + 39, D, d, (r : Int), rfl, by go_num, rfl, rfl, hv2, hrd2, h2⟩

theorem GivesNum.nat {w : World} {V : Nat} {e : Ending} {w' : World} (h : GivesNum w (V : Int) e w') : ∃ A c, e = .returned (.agg #[.bool false, .slice A (digs V).length c]) ∧ Own w' w.heap.size (.slice A (digs V).length c) (digs V) ∧ Below w.heap.size w w' := by
  obtain ⟨A, c, he, ho, hb⟩ := h
  rw [show decide ((V : Int) < 0) = false from by simp] at he
  exact ⟨A, c, he, ho, hb⟩
theorem GivesNumInt.nat {w : World} {V : Nat} {m : Int} {e : Ending} {w' : World} (h : GivesNumInt w (V : Int) m e w') : ∃ A c, e = .returned (.tuple #[.agg #[.bool false, .slice A (digs V).length c], .int .i64 m]) ∧ Own w' w.heap.size (.slice A (digs V).length c) (digs V) ∧ Below w.heap.size w w' := by
  obtain ⟨A, c, he, ho, hb⟩ := h
  rw [show decide ((V : Int) < 0) = false from by simp] at he
  exact ⟨A, c, he, ho, hb⟩

set_option maxHeartbeats 1000000 in
theorem bgBits_any (neg0 : Bool) (A0 : Option Addr) (c0 : Nat) (xs0 : List Int) (w : World) (hl : xs0.length ≤ 400) (hcap : xs0.length ≤ c0) (hr0 : Rd w w.heap.size A0 xs0.length xs0) (hg0 : Rng 0 9999 xs0) :
    ∀ G, G = blog (val xs0).toNat → Calls Try.prog 62 #[.agg #[.bool neg0, .slice A0 xs0.length c0]] w (GivesInt w (G : Int)) := by
  intro G hG
  have hGb : G ≤ 5600 := by rw [hG]; exact blog_val hg0 (by omega)
  obtain ⟨V, hV⟩ : ∃ V, V = (val xs0).toNat := ⟨_, rfl⟩
  have hVl : ∀ v : Nat, v ≤ V → (digs v).length ≤ 400 := fun v hv => Nat.le_trans (digs_len_all (k := xs0.length) (by have := val_lt hg0; omega)) hl
  have hnv : num false xs0 = (V : Int) := by rw [hV]; show val xs0 = _; have := val_nonneg hg0; omega
  rw [← hV] at hG
  replace hG := Lib.hid hG
  replace hVl := Lib.hid hVl
  replace hV := Lib.hid hV
  replace hnv := Lib.hid hnv
  have h := below_alloc1 w (.cells #[.bool neg0, .slice A0 xs0.length c0] 27)
  have hx0 := Box.new w 27 #[.bool neg0, .slice A0 xs0.length c0]
  have cm := bgMake_any false A0 xs0.length c0 xs0 _ (by omega) hcap (hr0.kept h) hg0
  rw [hnv.out] at cm
  replace cm := Lib.hid cm
  obtain ⟨k0, k1⟩ := hx0.two
  go_enter Try.func62, Try.ntmps62
  go_wp2_with fail
  refine (cm.out).mono ?_
  rintro e w1 hgn
  obtain ⟨Aq, cq, rfl, hoq, hb⟩ := GivesNum.nat hgn
  clear hgn
  have h1 := Below.step h hb
  obtain ⟨gx, eg⟩ : ∃ g, g = w1.heap.size := ⟨_, rfl⟩
  have hgx : w.heap.size ≤ gx := by have := h1.size; omega
  have hyx := Box.new w1 27 #[.bool false, .slice Aq (digs V).length cq]
  have hoq2 := (hoq.le (base' := w.heap.size) h.size).alloc (.cells #[.bool false, .slice Aq (digs V).length cq] 27)
  have h2 := Below.step h1 (below_alloc1 w1 (.cells #[.bool false, .slice Aq (digs V).length cq] 27))
  clear hb k0 k1 hoq hx0
  replace hoq2 := Lib.hid hoq2
  go_wp2_with fail
  rw [← eg] at hyx ⊢
  clear eg h1 h
  generalize w1.alloc (.cells #[.bool false, .slice Aq (digs V).length cq] 27) = w2 at *
  go_loopg [3] V (fun g l wr => ∃ (v b : Nat) (A : Option Addr) (c : Nat), g = v ∧ l = .int .i64 b ∧ Hid (b + blog v = G ∧ v ≤ V) ∧ Hid (Own wr w.heap.size (.slice A (digs v).length c) (digs v)) ∧ Box wr gx 27 #[.bool false, .slice A (digs v).length c] ∧ Below w.heap.size w wr)
  case atStart => exact ⟨V, 0, Aq, cq, rfl, rfl, ⟨by rw [hG.out]; omega, Nat.le_refl _⟩, hoq2, hyx, h2⟩
  case round =>
    clear hoq2 hyx h2
    obtain ⟨v, b, A, c, hgv, rfl, hv, hoq, hyx, h⟩ := hrel
    obtain rfl : v = gk := hgv.symm
    have hlv := hVl.out v hv.out.2
    have hb5 : b ≤ 5600 := by have := hv.out.1; omega
    obtain ⟨k0, k1⟩ := hyx.two
    by_cases h0 : (digs v).length ≤ 1
    · obtain ⟨d1, d2⟩ := digs_one h0
      have cl := bgLimb_any A (digs v).length c _ (digs v) 0 wr (by omega) hoq.out.rd
      rw [d1, show ((0 : Nat) : Int) = 0 from rfl] at cl
      replace cl := Lib.hid cl
      replace d1 := Lib.hid d1
      have hvb := hv.out.1
      replace hvb := Lib.hid hvb
      clear hv
      go_wp2_with fail
      refine (cl.out).mono ?_
      rintro e w3 ⟨rfl, rfl⟩
      go_wp2_with fail
      go_loopg [3, 5] v (fun g l y w4 => ∃ (u b : Nat), g = u ∧ l = .int .i64 b ∧ y = .int .i64 u ∧ Hid (b + blog u = G) ∧ u ≤ 9999 ∧ w4 = wr)
      case atStart => exact ⟨v, b, rfl, rfl, rfl, hvb, d2, rfl⟩
      case round =>
        rename_i gk2 _ _ _ _
        obtain ⟨u, b2, hgu, rfl, rfl, hub, hu, rfl⟩ := hrel
        have hb6 : b2 ≤ 5600 := by have := hub.out; omega
        by_cases hu0 : u = 0
        · subst hu0
          have hfin : b2 = G := by have := hub.out; rw [blog_zero] at this; omega
          subst hfin
          go_wp2_with fail
          go_ret
          exact ⟨rfl, h⟩
        · have hst : Hid (b2 + 1 + blog (u / 2) = G) := by have h1 := hub.out; rw [blog_half hu0] at h1; show _ = G; omega
          clear hub
          go_wp2_with fail
          go_roundg (u / 2)
          case measure => omega
          case rel => exact ⟨u / 2, b2 + 1, rfl, by go_num, by go_num, hst, by omega, rfl⟩
    · have h1 := digs_more h0
      have co := bgOver_any false A c (digs v) 4096 wr (by omega) hoq.out.rd (digs_rng v) (by omega) (by omega) ((v / 4096 : Nat) : Int) _ (by show _ = val (digs v) / 4096; rw [digs_val]; omega) rfl
      have hv2 : Hid (b + 12 + blog (v / 4096) = G ∧ v / 4096 ≤ V) := by
        have h3 : blog v = 12 + blog (v / 4096) := blog_shift 12 v (by omega)
        have h2 := hv.out.1
        have h4 := hv.out.2
        exact ⟨by omega, by omega⟩
      obtain ⟨q, hq⟩ : ∃ q, q = v / 4096 := ⟨_, rfl⟩
      have hqv : q < v := by omega
      rw [← hq] at co hv2
      replace co := Lib.hid co
      replace hq := Lib.hid hq
      clear hv
      go_wp2_with fail
      refine (co.out).mono ?_
      rintro e w3 hgn
      obtain ⟨D, d, rfl, hod, hb⟩ := GivesNumInt.nat hgn
      clear hgn
      have hyx2 := hyx.kept hb
      have hod2 := hod.le (base' := w.heap.size) h.size
      have h5 := Below.step h hb
      obtain ⟨k2, k3⟩ := hyx2.two
      have k4 := hyx2.free 0
      have k5 := hyx2.free 1
      clear hb k0 k1 hod
      have hod3 : Hid (Own ((w3.setCell ⟨gx, 0, none⟩ (.bool false)).setCell ⟨gx, 1, none⟩ (.slice D (digs q).length d)) w.heap.size (.slice D (digs q).length d) (digs q)) := (hod2.set_box hyx2 (by decide)).set_box (hyx2.set 0 _) (by decide)
      have hyx3 : Box ((w3.setCell ⟨gx, 0, none⟩ (.bool false)).setCell ⟨gx, 1, none⟩ (.slice D (digs q).length d)) gx 27 #[.bool false, .slice D (digs q).length d] := (hyx2.set 0 _).set 1 _
      have h6 : Below w.heap.size w ((w3.setCell ⟨gx, 0, none⟩ (.bool false)).setCell ⟨gx, 1, none⟩ (.slice D (digs q).length d)) := (h5.setCell hgx _).setCell hgx _
      go_wp2_with fail
      go_roundg q
      case measure => omega
      case rel => exact ⟨q, b + 12, D, d, rfl, by go_num, hv2, hod3, hyx3, h6⟩

set_option maxHeartbeats 1000000 in
theorem blS_yes (neg0 : Bool) (A0 : Option Addr) (c0 : Nat) (xs0 : List Int) (w : World) (_hl0 : xs0.length ≤ 1048576) (_hr0 : Rd w w.heap.size A0 xs0.length xs0) (hcap : xs0.length ≤ c0) (hg0 : Good neg0 xs0) :
    ∀ G, G = blog (val xs0).toNat → Calls Try.prog 33 #[.agg #[.bool neg0, .slice A0 xs0.length c0]] w (GivesIntOk w (G : Int) true) := by
  intro G hG
  replace hG := Lib.hid hG
  have l0 := hg0.len
  have h := Below.refl w.heap.size w
  have hA := below_alloc1 w (.cells #[.bool neg0, .slice A0 xs0.length c0] 27)
  replace h := Below.step h hA
  have hx0 := Box.new w 27 #[.bool neg0, .slice A0 xs0.length c0]
  clear hA
  go_enter Try.func33, Try.ntmps33
  go_wp2_with fail
  refine (bgGood_yes neg0 A0 _ c0 xs0 _ (_hr0.kept h) hg0).mono ?_
  rintro e w1 ⟨rfl, hb⟩
  replace h := Below.step h hb
  replace hx0 := hx0.kept hb
  clear hb
  obtain ⟨ahx0, bhx0⟩ := hx0.two
  have lhx0 := hx0.lt
  go_wp2_with fail
  refine (bgBits_any neg0 A0 c0 xs0 _ (by omega) hcap (_hr0.kept h) hg0.rng G hG.out).mono ?_
  rintro e w2 ⟨rfl, hb⟩
  replace h := Below.step h hb
  replace hx0 := hx0.kept hb
  clear hb ahx0 bhx0 lhx0
  obtain ⟨ahx0, bhx0⟩ := hx0.two
  have lhx0 := hx0.lt
  go_wp2_with fail
  go_ret2
  exact ⟨rfl, h⟩

theorem lawBitLength_any (neg0 : Bool) (A0 : Option Addr) (n0 c0 : Nat) (xs0 : List Int) (w : World) (hm0 : n0 ≤ 9223372036854775807) (hr0 : Rd w w.heap.size A0 n0 xs0) :
    Calls Try.prog 10 #[.agg #[.bool neg0, .slice A0 n0 c0]] w fun e w' => e = .returned (.bool true) ∧ Below w.heap.size w w' := by
  by_cases hg0 : Good neg0 xs0
  · exact lawBitLength_core neg0 A0 n0 c0 xs0 w hm0 hr0 _ _ (fun h0 A0 c0 w r0 k0 => blS_yes neg0 A0 c0 xs0 w h0 r0 k0 hg0 _ rfl) (fun h0 A0 c0 w r0 _ => blI_yes neg0 A0 c0 xs0 w h0 r0 hg0 _ rfl)
  · exact lawBitLength_core neg0 A0 n0 c0 xs0 w hm0 hr0 _ _ (fun h0 A0 c0 w r0 _ => blS_no neg0 A0 c0 xs0 w h0 r0 hg0) (fun h0 A0 c0 w r0 _ => blI_no neg0 A0 c0 xs0 w h0 r0 hg0)
end Go.Proofs.Ytlkdelhmjjnnnaa
