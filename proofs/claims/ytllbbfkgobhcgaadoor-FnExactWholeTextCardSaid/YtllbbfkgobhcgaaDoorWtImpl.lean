/- The program's text of a whole. -/
import Derived.Test.YtllbbfkgobhcgaaDoorWtSpec
import Derived.Test.YtllbbfkgobhcgaaDoorWtBld
namespace Go.Proofs.YtllbbfkgobhcgaaDoor
open Go.RowKit Go.Joins

/-- The table of powers of ten reads as it was laid. -/
def Pow (w : World) : Prop := Lib.TabIs Tryd.prog w "internal/strconv.uint64pow10" .u64 Lib.pow10Tab
theorem Tryd.gPow : Tryd.prog.globalNamed "internal/strconv.uint64pow10" = some 0 := by kernel_rfl
theorem Pow.kept {w w' : World} (h : Pow w) (hb : Below w.heap.size w w') : Pow w' := by
  unfold Pow Lib.TabIs World.var? at h ⊢
  rw [Tryd.gPow] at h ⊢
  simp only [Option.bind_some] at h ⊢
  have hlt : 0 < w.heap.size := by
    rcases hh : w.heap[0]? with _ | o
    · rw [hh] at h; cases h
    · exact (Array.getElem?_eq_some_iff.1 hh).1
  rw [hb.block _ hlt]
  exact h
theorem below_grow (w : World) (k : Nat) (os : Array Obj) : Below w.heap.size w (Go.Sort.grow (w.drewN k) os) :=
  ⟨rfl, rfl, rfl, by show w.heap.size ≤ (w.heap ++ os).size; simp, fun i hi => by show (w.heap ++ os)[i]? = _; rw [Array.getElem?_append_left hi]⟩
theorem itoa_nat (d : Nat) (w : World) (hp : Pow w) (h1 : d ≤ 9223372036854775807) :
    Calls Tryd.prog 16 #[.int .i64 (d : Int)] w fun e w' => e = .returned (.string (numB d)) ∧ Below w.heap.size w w' :=
  (Tryd.strconv_Itoa (d : Int) (by omega) (by omega) w hp).mono fun e w' ⟨he, k, os, hw⟩ => ⟨by rw [he]; show _ = Ending.returned (Value.string (numB (d : Int).toNat)); rw [← intB_pos (by omega)]; rfl, by rw [hw]; exact below_grow w k os⟩
theorem ba_assoc (a b c : ByteArray) : a ++ b ++ c = a ++ (b ++ c) := by apply ByteArray.ext; simp
theorem signB_size (neg : Bool) : (signB neg).size ≤ 1 := by cases neg <;> decide
theorem app_empty (b : ByteArray) : b ++ (⟨#[]⟩ : ByteArray) = b := by apply ByteArray.ext; simp

set_option maxHeartbeats 1000000 in
theorem textI_no (neg : Bool) (A : Option Addr) (n c : Nat) (xs : List Int) (w : World) (hm : n ≤ 9223372036854775807) (h : Rd w w.heap.size A n xs) (hg : ¬ Good neg xs) :
    Calls Tryd.prog 7 #[.agg #[.bool neg, .slice A n c]] w (GivesSB w ⟨#[]⟩ false) := by
  have h1 : Below w.heap.size w (w.alloc (.cells #[.bool neg, .slice A n c] 28)) := below_alloc1 _ _
  have hx0 := Box.new w 28 #[.bool neg, .slice A n c]
  have c1 := fun (W : World) (hW : Below w.heap.size w W) => isWholeI_no neg A n c xs W hm ((h.below hW).more hW.size) hg
  replace c1 := Lib.hid c1
  clear h hg
  go_enter Tryd.func7, Tryd.ntmps7
  go_wp2_with fail
  refine (c1.out _ h1).mono ?_
  rintro e w1 ⟨rfl, hb⟩
  replace h1 := Below.step h1 hb
  go_wp2_with fail
  go_ret2
  exact ⟨rfl, h1⟩

set_option maxHeartbeats 1000000 in
theorem textI_zero (neg : Bool) (A : Option Addr) (c : Nat) (xs : List Int) (w : World) (h : Rd w w.heap.size A 0 xs) (hg : Good neg xs) :
    Calls Tryd.prog 7 #[.agg #[.bool neg, .slice A 0 c]] w (GivesSB w ⟨#[48]⟩ true) := by
  have h1 : Below w.heap.size w (w.alloc (.cells #[.bool neg, .slice A 0 c] 28)) := below_alloc1 _ _
  have hx0 := Box.new w 28 #[.bool neg, .slice A 0 c]
  have c1 := fun (W : World) (hW : Below w.heap.size w W) => isWholeI_yes neg A 0 c xs W ((h.below hW).more hW.size) hg
  replace c1 := Lib.hid c1
  clear h hg
  go_enter Tryd.func7, Tryd.ntmps7
  go_wp2_with fail
  refine (c1.out _ h1).mono ?_
  rintro e w1 ⟨rfl, hb⟩
  replace h1 := Below.step h1 hb
  replace hx0 := hx0.kept hb
  obtain ⟨k0, k1⟩ := hx0.two
  go_wp2_with fail
  go_ret2
  exact ⟨rfl, h1⟩

set_option maxHeartbeats 2000000 in
set_option maxRecDepth 100000 in
theorem textI_pos (neg : Bool) (A : Option Addr) (n c : Nat) (xs : List Int) (w : World) (hp : Pow w) (hpos : 0 < n) (hn : n ≤ 400) (h : Rd w w.heap.size A n xs) (hg : Good neg xs) :
    Calls Tryd.prog 7 #[.agg #[.bool neg, .slice A n c]] w (GivesSB w (signB neg ++ tx xs (n - 1)) true) := by
  have hl := h.1
  have hr := hg.2.1
  have h1 : Below w.heap.size w (w.alloc (.cells #[.bool neg, .slice A n c] 28)) := below_alloc1 _ _
  have hx0 := Box.new w 28 #[.bool neg, .slice A n c]
  have c1 := fun (W : World) (hW : Below w.heap.size w W) => isWholeI_yes neg A n c xs W ((h.below hW).more hW.size) hg
  replace c1 := Lib.hid c1
  obtain ⟨b, o, rfl, hbs, hc⟩ := h.2 hpos
  have hc' : Hid (∀ (W : World), Below w.heap.size w W → ∀ k, k < n → W.cell? ⟨b, o + k, none⟩ = some (.int .i64 (xs[k]?.getD 0))) := fun W hW k hk => (hW.cell (p := ⟨b, o + k, none⟩) hbs).trans (hc k hk)
  have hx9 := hr (n - 1) (by omega)
  obtain ⟨d, hd⟩ : ∃ d : Nat, xs[n - 1]?.getD 0 = (d : Int) := ⟨(xs[n - 1]?.getD 0).toNat, by omega⟩
  rw [hd] at hx9
  have c0 := fun W (hW : Below w.heap.size w W) => itoa_nat d W (hp.kept hW) (by omega)
  have hs0 : numB d = tx xs (n - 1 - (n - 1)) := by rw [Nat.sub_self, tx, hl, hd]; rfl
  have hd4 := numB_four d (by omega)
  obtain ⟨D0, hD0⟩ : ∃ D0, D0 = numB d := ⟨_, rfl⟩
  rw [← hD0] at c0 hs0 hd4
  have hrd1 : Hid (∀ (W : World), Below w.heap.size w W → W.cell? ⟨b, o + (n - 1), none⟩ = some (.int .i64 (d : Int))) := fun W hW => by rw [← hd]; exact hc'.out W hW (n - 1) (by omega)
  replace c0 := Lib.hid c0
  replace hs0 := Lib.hid hs0
  replace hD0 := Lib.hid hD0
  replace hd := Lib.hid hd
  have hnz : ((n : Int) == 0) = false := by simp; omega
  have hszs : Hid (∀ k : Nat, k < n → (signB neg ++ tx xs k).size ≤ 10000) := fun k hk => by
    have q := tx_size xs (fun k hk => hr k hk) k (by omega)
    have q2 := signB_size neg
    rw [ByteArray.size_append]; omega
  have hcN : Hid (∀ j : Nat, j < n → ∃ d : Nat, xs[j]?.getD 0 = (d : Int) ∧ d ≤ 9999) := fun j hj => by
    have := hr j (by omega)
    exact ⟨(xs[j]?.getD 0).toNat, by omega, by omega⟩
  have hp' := Lib.hid hp
  replace hl := Lib.hid hl
  clear hc hr hg h hp
  go_enter Tryd.func7, Tryd.ntmps7
  go_wp2_with fail
  refine (c1.out _ h1).mono ?_
  rintro e w1 ⟨rfl, hb⟩
  replace h1 := Below.step h1 hb
  replace hx0 := hx0.kept hb
  clear hb
  obtain ⟨gx, egx⟩ : ∃ g, g = w.heap.size := ⟨_, rfl⟩
  rw [← egx] at hx0 ⊢
  obtain ⟨k0, k1⟩ := hx0.two
  have hB := Bld.fresh w1
  have hbA := below_alloc1 w1 (.cells #[.pointer none, .slice none 0 0] 39)
  have h2 := Below.step h1 hbA
  have hx2 := hx0.kept hbA
  have hgx := hx0.lt
  obtain ⟨k02, k12⟩ := hx2.two
  have hw1 := h1.size
  obtain ⟨gb, egb⟩ : ∃ g, g = w1.heap.size := ⟨_, rfl⟩
  rw [← egb] at hB hgx hw1
  replace egx := Lib.hid egx
  clear hbA
  have hrd2 := hrd1.out _ h2
  cases neg
  case' true =>
    go_wp2_with fail
    rw [← egb]
    refine (bld_minus gb gb _ hB (by have := h2.size; simp; omega)).mono ?_
    rintro e w2 ⟨rfl, hBn, hb⟩
    replace h2 := h2.trans (hb.mono hw1)
    replace hx2 := hx2.keep hb hgx
    clear hB hb k0 k1 k02 k12 hrd2
    have hB : Bld gb gb (signB true) w2 := hBn
    clear hBn
    obtain ⟨k0, k1⟩ := hx2.two
    have hrd2 := hrd1.out _ h2
    go_wp2_with fail
    rw [← egb]
  case' false =>
    go_wp2_with fail
    rw [← egb]
    generalize w1.alloc (.cells #[.pointer none, .slice none 0 0] 39) = w2 at *
    replace hB : Bld gb gb (signB false) w2 := hB
    clear k02 k12
  case true =>
    clear hx0 egb k0 k1 hrd2
    refine (c0.out _ h2).mono ?_
    rintro e w3 ⟨rfl, hb⟩
    replace h2 := Below.step h2 hb
    replace hx2 := hx2.kept hb
    replace hB := hB.kept hb
    clear hb
    have hq1 := signB_size true
    go_wp2_with fail
    refine (bld_text gb gb _ D0 _ hB (by omega) (Nat.le_of_lt hB.lt)).mono ?_
    rintro e w4 ⟨rfl, hBn, hb⟩
    replace h2 := h2.trans (hb.mono hw1)
    replace hx2 := hx2.keep hb hgx
    clear hB hb hq1
    obtain ⟨S0, hS0e⟩ : ∃ S0, S0 = signB true ++ D0 := ⟨_, rfl⟩
    rw [← hS0e] at hBn
    have hS0 : Hid (S0 = signB true ++ tx xs (n - 1 - (n - 1))) := by show S0 = _; rw [hS0e, hs0.out]
    clear hS0e
    have q0 : IntKind.i64.wrap ((n : Int) - 1 - 1) = (n : Int) - 2 := by rw [IntWalk.i64_in _ (by omega)]; omega
    go_wp2_with fail
    go_loopg [6] (n - 1) (fun g i wr => ∃ (j : Nat) (z : Int) (S : ByteArray), j ≤ n - 1 ∧ g = 0 + j ∧ z = (j : Int) - 1 ∧ i = .int .i64 z ∧ Hid (S = signB true ++ tx xs (n - 1 - j)) ∧ Bld gb gb S wr ∧ Box wr gx 28 #[.bool true, .slice (some ⟨b, o, none⟩) n c] ∧ Below w.heap.size w wr)
    case atStart => exact ⟨n - 1, (n : Int) - 2, S0, Nat.le_refl _, by omega, by omega, by go_num, hS0, hBn, hx2, h2⟩
    case round =>
      clear hBn hx2 h2
      obtain ⟨j, z, S, hj, rfl, hz, rfl, hS, hB, hx2, h2⟩ := hrel
      obtain ⟨k0, k1⟩ := hx2.two
      rcases j with _ | j
      · obtain rfl : z = -1 := by simpa using hz
        clear hz
        have hS' : S = signB true ++ tx xs (n - 1) := hS.out
        have hsp : 0 < S.size := by
          rw [hS', ByteArray.size_append]
          have : 1 ≤ (tx xs (n - 1)).size := tx_pos xs (n - 1)
          omega
        replace hS' := Lib.hid hS'
        go_wp2_with fail
        refine (bld_string gb gb S _ hB hsp).mono ?_
        rintro e w5 ⟨rfl, hb⟩
        replace h2 := h2.trans (hb.mono hw1)
        go_wp2_with fail
        go_ret2
        exact ⟨by rw [← hS'.out]; rfl, h2⟩
      · obtain rfl : z = (j : Int) := by omega
        clear hz
        have hj1 : j < n := by omega
        have hread := hc'.out _ h2 j hj1
        obtain ⟨d, hd, hd9⟩ := hcN.out j hj1
        rw [hd] at hread
        have cI := fun W (hW : Below w.heap.size w W) => itoa_nat d W (hp'.out.kept hW) (by omega)
        have hd4 := numB_four d (by omega)
        have htx : signB true ++ tx xs (n - 1 - j) = S ++ pad4 d := by
          rw [hS.out, show n - 1 - j = (n - 1 - (j + 1)) + 1 from by omega, tx, hl.out, show n - 2 - (n - 1 - (j + 1)) = j from by omega, hd, ← ba_assoc]; rfl
        have hsz : S.size ≤ 10000 := by rw [hS.out]; exact hszs.out _ (by omega)
        obtain ⟨D, hD⟩ : ∃ D, D = numB d := ⟨_, rfl⟩
        rw [← hD] at cI hd4
        have eD : (4 : Int) - (D.size : Int) = ((4 - D.size : Nat) : Int) := by omega
        have cR := fun W => repeat_any (4 - D.size) W (by omega)
        rw [← eD] at cR
        obtain ⟨Z, hZ⟩ : ∃ Z, Z = zeros (4 - D.size) := ⟨_, rfl⟩
        have hZs : Z.size = 4 - D.size := by rw [hZ, zeros_size]
        rw [← hZ] at cR
        have hfin : signB true ++ tx xs (n - 1 - j) = S ++ Z ++ D := by rw [htx, ba_assoc]; unfold pad4; rw [hZ, ← hD]
        have q1 : IntKind.i64.wrap ((j : Int) - 1) = (j : Int) - 1 := IntWalk.i64_in _ (by omega)
        have q2 : IntKind.i64.wrap (4 - (D.size : Int)) = 4 - (D.size : Int) := IntWalk.i64_in _ (by omega)
        replace cI := Lib.hid cI
        replace cR := Lib.hid cR
        replace hd := Lib.hid hd
        replace hfin := Lib.hid hfin
        replace hD := Lib.hid hD
        replace hZ := Lib.hid hZ
        clear htx eD
        go_wp2_with fail
        refine (cI.out _ h2).mono ?_
        rintro e w5 ⟨rfl, hb⟩
        replace h2 := Below.step h2 hb
        replace hx2 := hx2.kept hb
        replace hB := hB.kept hb
        clear hb k0 k1 hread
        obtain ⟨k0, k1⟩ := hx2.two
        go_wp2_with fail
        refine (cR.out _).mono ?_
        rintro e w6 ⟨rfl, hb⟩
        replace h2 := Below.step h2 hb
        replace hx2 := hx2.kept hb
        replace hB := hB.kept hb
        clear hb k0 k1
        obtain ⟨k0, k1⟩ := hx2.two
        go_wp2_with fail
        refine (bld_text gb gb S Z _ hB (by omega) (Nat.le_of_lt hB.lt)).mono ?_
        rintro e w7 ⟨rfl, hBn, hb⟩
        replace h2 := h2.trans (hb.mono hw1)
        replace hx2 := hx2.keep hb hgx
        clear hB hb k0 k1
        obtain ⟨k0, k1⟩ := hx2.two
        have hsz2 : (S ++ Z).size ≤ 10004 := by rw [ByteArray.size_append]; omega
        obtain ⟨S2, hS2⟩ : ∃ S2, S2 = S ++ Z := ⟨_, rfl⟩
        rw [← hS2] at hBn hsz2
        have hfin2 : Hid (S2 ++ D = signB true ++ tx xs (n - 1 - j)) := by show S2 ++ D = _; rw [hfin.out, hS2]
        replace hS2 := Lib.hid hS2
        go_wp2_with fail
        refine (bld_text gb gb S2 D _ hBn (by omega) (Nat.le_of_lt hBn.lt)).mono ?_
        rintro e w8 ⟨rfl, hBm, hb⟩
        replace h2 := h2.trans (hb.mono hw1)
        replace hx2 := hx2.keep hb hgx
        clear hBn hb k0 k1
        go_wp2_with fail
        go_roundg (0 + j)
        case measure => omega
        case rel => exact ⟨j, (j : Int) - 1, S2 ++ D, by omega, rfl, rfl, by go_num, hfin2, hBm, hx2, h2⟩
  case false =>
    clear hx0 egb k0 k1 hrd2
    refine (c0.out _ h2).mono ?_
    rintro e w3 ⟨rfl, hb⟩
    replace h2 := Below.step h2 hb
    replace hx2 := hx2.kept hb
    replace hB := hB.kept hb
    clear hb
    have hq1 := signB_size false
    go_wp2_with fail
    refine (bld_text gb gb _ D0 _ hB (by omega) (Nat.le_of_lt hB.lt)).mono ?_
    rintro e w4 ⟨rfl, hBn, hb⟩
    replace h2 := h2.trans (hb.mono hw1)
    replace hx2 := hx2.keep hb hgx
    clear hB hb hq1
    obtain ⟨S0, hS0e⟩ : ∃ S0, S0 = signB false ++ D0 := ⟨_, rfl⟩
    rw [← hS0e] at hBn
    have hS0 : Hid (S0 = signB false ++ tx xs (n - 1 - (n - 1))) := by show S0 = _; rw [hS0e, hs0.out]
    clear hS0e
    have q0 : IntKind.i64.wrap ((n : Int) - 1 - 1) = (n : Int) - 2 := by rw [IntWalk.i64_in _ (by omega)]; omega
    go_wp2_with fail
    go_loopg [6] (n - 1) (fun g i wr => ∃ (j : Nat) (z : Int) (S : ByteArray), j ≤ n - 1 ∧ g = 0 + j ∧ z = (j : Int) - 1 ∧ i = .int .i64 z ∧ Hid (S = signB false ++ tx xs (n - 1 - j)) ∧ Bld gb gb S wr ∧ Box wr gx 28 #[.bool false, .slice (some ⟨b, o, none⟩) n c] ∧ Below w.heap.size w wr)
    case atStart => exact ⟨n - 1, (n : Int) - 2, S0, Nat.le_refl _, by omega, by omega, by go_num, hS0, hBn, hx2, h2⟩
    case round =>
      clear hBn hx2 h2
      obtain ⟨j, z, S, hj, rfl, hz, rfl, hS, hB, hx2, h2⟩ := hrel
      obtain ⟨k0, k1⟩ := hx2.two
      rcases j with _ | j
      · obtain rfl : z = -1 := by simpa using hz
        clear hz
        have hS' : S = signB false ++ tx xs (n - 1) := hS.out
        have hsp : 0 < S.size := by
          rw [hS', ByteArray.size_append]
          have : 1 ≤ (tx xs (n - 1)).size := tx_pos xs (n - 1)
          omega
        replace hS' := Lib.hid hS'
        go_wp2_with fail
        refine (bld_string gb gb S _ hB hsp).mono ?_
        rintro e w5 ⟨rfl, hb⟩
        replace h2 := h2.trans (hb.mono hw1)
        go_wp2_with fail
        go_ret2
        exact ⟨by rw [← hS'.out]; rfl, h2⟩
      · obtain rfl : z = (j : Int) := by omega
        clear hz
        have hj1 : j < n := by omega
        have hread := hc'.out _ h2 j hj1
        obtain ⟨d, hd, hd9⟩ := hcN.out j hj1
        rw [hd] at hread
        have cI := fun W (hW : Below w.heap.size w W) => itoa_nat d W (hp'.out.kept hW) (by omega)
        have hd4 := numB_four d (by omega)
        have htx : signB false ++ tx xs (n - 1 - j) = S ++ pad4 d := by
          rw [hS.out, show n - 1 - j = (n - 1 - (j + 1)) + 1 from by omega, tx, hl.out, show n - 2 - (n - 1 - (j + 1)) = j from by omega, hd, ← ba_assoc]; rfl
        have hsz : S.size ≤ 10000 := by rw [hS.out]; exact hszs.out _ (by omega)
        obtain ⟨D, hD⟩ : ∃ D, D = numB d := ⟨_, rfl⟩
        rw [← hD] at cI hd4
        have eD : (4 : Int) - (D.size : Int) = ((4 - D.size : Nat) : Int) := by omega
        have cR := fun W => repeat_any (4 - D.size) W (by omega)
        rw [← eD] at cR
        obtain ⟨Z, hZ⟩ : ∃ Z, Z = zeros (4 - D.size) := ⟨_, rfl⟩
        have hZs : Z.size = 4 - D.size := by rw [hZ, zeros_size]
        rw [← hZ] at cR
        have hfin : signB false ++ tx xs (n - 1 - j) = S ++ Z ++ D := by rw [htx, ba_assoc]; unfold pad4; rw [hZ, ← hD]
        have q1 : IntKind.i64.wrap ((j : Int) - 1) = (j : Int) - 1 := IntWalk.i64_in _ (by omega)
        have q2 : IntKind.i64.wrap (4 - (D.size : Int)) = 4 - (D.size : Int) := IntWalk.i64_in _ (by omega)
        replace cI := Lib.hid cI
        replace cR := Lib.hid cR
        replace hd := Lib.hid hd
        replace hfin := Lib.hid hfin
        replace hD := Lib.hid hD
        replace hZ := Lib.hid hZ
        clear htx eD
        go_wp2_with fail
        refine (cI.out _ h2).mono ?_
        rintro e w5 ⟨rfl, hb⟩
        replace h2 := Below.step h2 hb
        replace hx2 := hx2.kept hb
        replace hB := hB.kept hb
        clear hb k0 k1 hread
        obtain ⟨k0, k1⟩ := hx2.two
        go_wp2_with fail
        refine (cR.out _).mono ?_
        rintro e w6 ⟨rfl, hb⟩
        replace h2 := Below.step h2 hb
        replace hx2 := hx2.kept hb
        replace hB := hB.kept hb
        clear hb k0 k1
        obtain ⟨k0, k1⟩ := hx2.two
        go_wp2_with fail
        refine (bld_text gb gb S Z _ hB (by omega) (Nat.le_of_lt hB.lt)).mono ?_
        rintro e w7 ⟨rfl, hBn, hb⟩
        replace h2 := h2.trans (hb.mono hw1)
        replace hx2 := hx2.keep hb hgx
        clear hB hb k0 k1
        obtain ⟨k0, k1⟩ := hx2.two
        have hsz2 : (S ++ Z).size ≤ 10004 := by rw [ByteArray.size_append]; omega
        obtain ⟨S2, hS2⟩ : ∃ S2, S2 = S ++ Z := ⟨_, rfl⟩
        rw [← hS2] at hBn hsz2
        have hfin2 : Hid (S2 ++ D = signB false ++ tx xs (n - 1 - j)) := by show S2 ++ D = _; rw [hfin.out, hS2]
        replace hS2 := Lib.hid hS2
        go_wp2_with fail
        refine (bld_text gb gb S2 D _ hBn (by omega) (Nat.le_of_lt hBn.lt)).mono ?_
        rintro e w8 ⟨rfl, hBm, hb⟩
        replace h2 := h2.trans (hb.mono hw1)
        replace hx2 := hx2.keep hb hgx
        clear hBn hb k0 k1
        go_wp2_with fail
        go_roundg (0 + j)
        case measure => omega
        case rel => exact ⟨j, (j : Int) - 1, S2 ++ D, by omega, rfl, rfl, by go_num, hfin2, hBm, hx2, h2⟩
end Go.Proofs.YtllbbfkgobhcgaaDoor
