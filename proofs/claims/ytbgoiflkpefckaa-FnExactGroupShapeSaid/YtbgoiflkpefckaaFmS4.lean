/- The model's multiples and orders of points modulo a prime (written by wip/gen/fms4.py). -/
import Derived.Test.YtbgoiflkpefckaaFmS3
import Derived.Test.YtbgoiflkpefckaaFmMul
import Derived.Deep.RegionHeld3
import Derived.Deep.DeepCutAuto
namespace Go.Proofs.Ytbgoiflkpefckaa
open Go.RowKit Go.Joins

theorem fl_len {s : FP} (h : s ≠ none) : (fl s).length = 2 := by
  rcases s with _ | ⟨x, y⟩
  · exact absurd rfl h
  · rfl
theorem fl_le (s : FP) : (fl s).length ≤ 2 := by rcases s with _ | ⟨x, y⟩ <;> simp [fl]
theorem fl_inj {s t : FP} (h : fl s = fl t) : s = t := by
  rcases s with _ | ⟨x, y⟩ <;> rcases t with _ | ⟨u, v⟩
  · rfl
  · cases h
  · cases h
  · simp only [fl, List.cons.injEq, and_true] at h
    rw [show x = u by omega, show y = v by omega]

set_option maxHeartbeats 2000000 in
set_option maxRecDepth 100000 in
theorem timesS_any {a b : Int} {p : Nat} (G : FG a b p) (N : Nat) (s : FP) (hs : FOn a b p s) (hN : N ≤ 1000000000) (R : Option Addr) (n c : Nat) (w : World) (hr : Rd w w.heap.size R n (fl s)) : Calls Try.prog 63 #[.agg #[.int .i64 a, .int .i64 b], .int .i64 (p : Int), .int .i64 (N : Int), .slice R n c] w (GivesOwn w (fl (fmul a p N s))) := by
  have hl := hr.1
  subst hl
  have hN0 : (0 : Int) ≤ N := by omega
  have h := Below.refl w.heap.size w
  have hA := below_alloc1 w (.cells #[.int .i64 a, .int .i64 b] 26)
  have hx0 := Box.new w 26 #[.int .i64 a, .int .i64 b]
  replace h := Below.step h hA
  clear hA
  obtain ⟨k00, k01⟩ := hx0.two
  have l0 := hx0.lt
  have hr2 := (hr.below h).more h.size
  clear hr
  go_enter Try.func63, Try.ntmps63
  go_wp2_with fail
  clear k00 k01 l0
  go_loopw [2, 9, 10] (fun n out xv wr => ∃ (m : Nat) (o x : FP) (Ao Ax : Option Addr) (co cx : Nat), n = .int .i64 m ∧ m ≤ 1000000000 ∧ out = .slice Ao (fl o).length co ∧ xv = .slice Ax (fl x).length cx ∧ Hid (FOn a b p o ∧ FOn a b p x ∧ fadd a p o (fmul a p m x) = fmul a p N s) ∧ Own wr w.heap.size (.slice Ao (fl o).length co) (fl o) ∧ Rd wr wr.heap.size Ax (fl x).length (fl x) ∧ Below w.heap.size w wr ∧ Box wr w.heap.size 26 #[.int .i64 a, .int .i64 b]) (fun n _ _ _ => (intOf n).toNat)
  case atStart => exact ⟨N, none, s, none, R, 0, c, rfl, hN, rfl, rfl, ⟨trivial, hs, rfl⟩, own_nil _ _, hr2, h, hx0⟩
  case round =>
    clear h hx0 hr2
    obtain ⟨m, o, x, Ao, Ax, co, cx, rfl, hm, rfl, rfl, hi, hown, hrd, h, hx0⟩ := hrel
    obtain ⟨ho, hx, he⟩ := hi.out
    clear hi
    by_cases h0 : m = 0
    · subst h0
      have hr : Hid (o = fmul a p N s) := (fadd_zero a p o).symm.trans he
      clear he ho hx hs
      obtain ⟨k00, k01⟩ := hx0.two
      have l0 := hx0.lt
      go_wp2_with fail
      rw [← hr.out]
      go_ret
      exact ⟨Ao, co, rfl, hown, h⟩
    · have hm1 : (0 : Int) < m := by omega
      clear h0
      have c2 := fun W hR => addS_any G x x hx hx Ax Ax (fl x).length (fl x).length cx cx W hR hR
      have hx2 := G.add_on hx hx
      generalize hy : fadd a p x x = y at c2 hx2
      replace c2 := Lib.hid c2
      by_cases hodd : m % 2 = 1
      · have e1 : ((m : Int) % 2 == 1) = true := by rw [beq_iff_eq]; omega
        have c1 := fun W hR hS => addS_any G o x ho hx Ao Ax (fl o).length (fl x).length co cx W hR hS
        have ho2 := G.add_on ho hx
        have hi2 : Hid (FOn a b p (fadd a p o x) ∧ FOn a b p y ∧ fadd a p (fadd a p o x) (fmul a p (m / 2) y) = fmul a p N s) := ⟨ho2, hx2, by rw [← hy, G.odd_step ho hx hodd]; exact he⟩
        generalize fadd a p o x = o2 at c1 ho2 hi2
        replace c1 := Lib.hid c1
        clear ho2 hx2 he hodd hy ho hx hs
        obtain ⟨k00, k01⟩ := hx0.two
        have l0 := hx0.lt
        go_wp2_with fail
        have hsz := h.size
        refine (c1.out _ hown.rd hrd).mono ?_
        rintro e w1 ⟨A1, d1, rfl, ho1, hb⟩
        replace h := Below.step h hb
        replace hx0 := hx0.kept hb
        replace hown := hown.kept hb
        replace hrd := hrd.kept hb
        clear hb k00 k01 l0
        obtain ⟨k00, k01⟩ := hx0.two
        have l0 := hx0.lt
        replace hown := ho1.le hsz
        clear ho1 hsz
        go_wp2_with fail
        refine (c2.out _ hrd).mono ?_
        rintro e w2 ⟨A2, d2, rfl, ho2, hb⟩
        replace h := Below.step h hb
        replace hx0 := hx0.kept hb
        replace hown := hown.kept hb
        replace hrd := hrd.kept hb
        clear hb k00 k01 l0
        obtain ⟨k00, k01⟩ := hx0.two
        have l0 := hx0.lt
        clear k00 k01 l0
        replace hrd := ho2.rd
        clear ho2
        go_wp2_with fail
        go_roundw
        case rel => exact ⟨m / 2, o2, y, A1, A2, d1, d2, by go_num, by omega, rfl, rfl, hi2, hown, hrd, h, hx0⟩
        case measure => simp [intOf]; omega
      · have e1 : ((m : Int) % 2 == 1) = false := by rw [beq_eq_false_iff_ne]; omega
        have hi2 : Hid (FOn a b p o ∧ FOn a b p y ∧ fadd a p o (fmul a p (m / 2) y) = fmul a p N s) := ⟨ho, hx2, by rw [← hy, G.even hx (by omega)]; exact he⟩
        clear hx2 he hodd hy ho hx hs
        obtain ⟨k00, k01⟩ := hx0.two
        have l0 := hx0.lt
        go_wp2_with fail
        refine (c2.out _ hrd).mono ?_
        rintro e w3 ⟨A2, d2, rfl, ho2, hb⟩
        replace h := Below.step h hb
        replace hx0 := hx0.kept hb
        replace hown := hown.kept hb
        replace hrd := hrd.kept hb
        clear hb k00 k01 l0
        obtain ⟨k00, k01⟩ := hx0.two
        have l0 := hx0.lt
        clear k00 k01 l0
        replace hrd := ho2.rd
        clear ho2
        go_wp2_with fail
        go_roundw
        case rel => exact ⟨m / 2, o, y, Ao, A2, co, d2, by go_num, by omega, rfl, rfl, hi2, hown, hrd, h, hx0⟩
        case measure => simp [intOf]; omega


set_option maxHeartbeats 2000000 in
set_option maxRecDepth 100000 in
theorem orderS_any {a b : Int} {p : Nat} (G : FG a b p) (s : FP) (hs : FOn a b p s) (n0 : Nat) (hn : FOrd a p s n0) (hn2 : n0 ≤ 1000000) (R : Option Addr) (l c : Nat) (w : World) (hr : Rd w w.heap.size R l (fl s)) : Calls Try.prog 65 #[.agg #[.int .i64 a, .int .i64 b], .int .i64 (p : Int), .slice R l c] w (GivesI w n0) := by
  have hn1 := hn.1
  have h := Below.refl w.heap.size w
  have hA := below_alloc1 w (.cells #[.int .i64 a, .int .i64 b] 26)
  have hx0 := Box.new w 26 #[.int .i64 a, .int .i64 b]
  replace h := Below.step h hA
  clear hA
  obtain ⟨k00, k01⟩ := hx0.two
  have l0 := hx0.lt
  have hr2 := (hr.below h).more h.size
  go_enter Try.func65, Try.ntmps65
  go_wp2_with fail
  clear k00 k01 l0
  have hrs : ∀ W, Below w.heap.size w W → Rd W W.heap.size R l (fl s) := fun W hW => (hr.below hW).more hW.size
  replace hrs := Lib.hid hrs
  clear hr
  go_loopw [7, 8] (fun n xv wr => ∃ (j L : Nat) (Ax : Option Addr) (cx : Nat), n = .int .i64 j ∧ 1 ≤ j ∧ j ≤ n0 ∧ xv = .slice Ax L cx ∧ Rd wr wr.heap.size Ax L (fl (fmul a p j s)) ∧ Below w.heap.size w wr ∧ Box wr w.heap.size 26 #[.int .i64 a, .int .i64 b]) (fun n _ _ => n0 - (intOf n).toNat)
  case atStart => exact ⟨1, l, R, c, rfl, by omega, hn1, rfl, hr2, h, hx0⟩
  case round =>
    clear h hx0 hr2
    obtain ⟨j, L, Ax, cx, rfl, hj1, hj2, rfl, hrd, h, hx0⟩ := hrel
    have hu := G.mul_on hs j
    have hL := hrd.1
    by_cases hjn : j = n0
    · subst hjn
      rw [hn.2.1] at hL
      obtain rfl : 0 = L := hL
      clear hrd hu hs hn hrs
      obtain ⟨k00, k01⟩ := hx0.two
      have l0 := hx0.lt
      go_wp2_with fail
      go_ret
      exact ⟨rfl, h⟩
    · rw [fl_len (hn.2.2 j hj1 (by omega))] at hL
      subst hL
      have c1 := fun W hR hS => addS_any G (fmul a p j s) s hu hs Ax R 2 l cx c W hR hS
      rw [show fadd a p (fmul a p j s) s = fmul a p (j + 1) s from rfl] at c1
      generalize fmul a p j s = u at *
      obtain ⟨y, hy⟩ : ∃ y, y = fmul a p (j + 1) s := ⟨_, rfl⟩
      rw [← hy] at c1
      replace hy := Lib.hid hy
      replace c1 := Lib.hid c1
      clear hu hs hn
      obtain ⟨k00, k01⟩ := hx0.two
      have l0 := hx0.lt
      go_wp2_with fail
      refine (c1.out _ hrd (hrs.out _ h)).mono ?_
      rintro e w1 ⟨A1, d1, rfl, ho1, hb⟩
      replace h := Below.step h hb
      replace hx0 := hx0.kept hb
      replace hrd := hrd.kept hb
      clear hb k00 k01 l0
      obtain ⟨k00, k01⟩ := hx0.two
      have l0 := hx0.lt
      clear k00 k01 l0
      replace hrd := ho1.rd
      clear ho1
      go_wp2_with fail
      go_roundw
      case rel => exact ⟨j + 1, _, A1, d1, by go_num, by omega, by omega, rfl, by rw [← hy.out]; exact hrd, h, hx0⟩
      case measure => simp [intOf]; omega

end Go.Proofs.Ytbgoiflkpefckaa
