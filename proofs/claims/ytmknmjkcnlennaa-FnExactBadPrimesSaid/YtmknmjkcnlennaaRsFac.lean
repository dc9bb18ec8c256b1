/- FactorsOf: what the factors are; the model's mdFactors, the program's FactorsOf. -/
import Derived.Test.YtmknmjkcnlennaaRsVal
import Derived.Test.YtmknmjkcnlennaaSSApp
namespace Go.Proofs.Ytmknmjkcnlennaa
open Go.RowKit Go.Joins

/-- The primes of n, and how often each divides it. -/
def Fac : List (Nat × Nat) → Nat → Prop
  | [], n => n = 1
  | (q, k) :: F, n => Least q n ∧ 1 ≤ k ∧ ∃ m, n = m * q ^ k ∧ m % q ≠ 0 ∧ 1 ≤ m ∧ Fac F m

theorem nat_val (q : Nat) (hq : 2 ≤ q) : ∀ (b n : Nat), n ≤ b → 1 ≤ n → ∃ k m, n = m * q ^ k ∧ m % q ≠ 0 ∧ 1 ≤ m
  | 0, n, h, h1 => by omega
  | b + 1, n, h, h1 => by
    by_cases hd : n % q = 0
    · obtain ⟨c, rfl⟩ := Nat.dvd_of_mod_eq_zero hd
      have hc : 1 ≤ c := by
        rcases c with _ | c
        · simp at h1
        · omega
      have hcb : c ≤ b := by
        have := Nat.mul_le_mul hq (Nat.le_refl c)
        omega
      obtain ⟨k, m, e, h2, h3⟩ := nat_val q hq b c hcb hc
      exact ⟨k + 1, m, by rw [e, Nat.pow_succ, Nat.mul_comm q, Nat.mul_assoc], h2, h3⟩
    · exact ⟨0, n, by simp, hd, h1⟩
theorem lt_mul_pow {m q k : Nat} (hq : 2 ≤ q) (hk : 1 ≤ k) : 2 * m ≤ m * q ^ k ∧ m * q ≤ m * q ^ k := by
  have h1 : q ^ 1 ≤ q ^ k := Nat.pow_le_pow_right (by omega) hk
  rw [Nat.pow_one] at h1
  have h2 := Nat.mul_le_mul (Nat.le_refl m) h1
  have h3 := Nat.mul_le_mul (Nat.le_refl m) hq
  omega
theorem Fac.exist : ∀ (b n : Nat), n ≤ b → 1 ≤ n → ∃ F, Fac F n ∧ F.length ≤ n
  | 0, n, h, h1 => by omega
  | b + 1, n, h, h1 => by
    by_cases e1 : n = 1
    · exact ⟨[], e1, Nat.zero_le _⟩
    · obtain ⟨q, hq, _⟩ := Least.exist (n := n) (by omega)
      obtain ⟨k, m, e, h2, h3⟩ := nat_val q hq.1 n n (Nat.le_refl _) h1
      have hk : 1 ≤ k := by
        rcases k with _ | k
        · rw [Nat.pow_zero, Nat.mul_one] at e
          rw [e] at hq
          exact absurd hq.2.1 h2
        · omega
      have hlt := (lt_mul_pow (m := m) hq.1 hk).1
      obtain ⟨F, hF, hl⟩ := Fac.exist b m (by omega) h3
      exact ⟨(q, k) :: F, ⟨hq, hk, m, e, h2, h3, hF⟩, by simp only [List.length_cons]; omega⟩

def facL (F : List (Nat × Nat)) : List (List Int) := F.map fun x => [(x.1 : Int), (x.2 : Int)]
theorem facL_snoc (F : List (Nat × Nat)) (q k : Nat) : facL F ++ [[(q : Int), (k : Int)]] = facL (F ++ [(q, k)]) := by simp [facL]
theorem facL_length (F : List (Nat × Nat)) : (facL F).length = F.length := by simp [facL]
theorem tot_facL : ∀ F : List (Nat × Nat), tot (facL F) = 2 * F.length
  | [] => rfl
  | x :: F => by
    have := tot_facL F
    show 2 + tot (facL F) = _
    rw [this, List.length_cons]; omega
theorem facL_at (F : List (Nat × Nat)) (k : Nat) : ((facL F)[k]?.getD []).length ≤ 2 := by
  unfold facL
  rw [List.getElem?_map]
  cases F[k]? <;> simp

theorem Fac.bound {q k m n : Nat} (e : n = m * q ^ k) (hq : 2 ≤ q) (hm : 1 ≤ m) : k ≤ n := by
  have h1 : k < 2 ^ k := Nat.lt_two_pow_self
  have h2 : 2 ^ k ≤ q ^ k := Nat.pow_le_pow_left hq k
  have h3 := Nat.mul_le_mul hm (Nat.le_refl (q ^ k))
  omega
theorem Fac.val {q k m n : Nat} (e : n = m * q ^ k) (h : m % q ≠ 0) : Val (n : Int) (q : Int) k (m : Int) :=
  ⟨by rw [e, Int.natCast_mul, Int.natCast_pow], fun hd => h (Nat.mod_eq_zero_of_dvd (Int.natCast_dvd_natCast.1 hd))⟩
theorem Fac.noDiv {q k m n : Nat} (hl : Least q n) (e : n = m * q ^ k) (h : m % q ≠ 0) : NoDiv (q + 1) m := by
  refine NoDiv.succ (fun j h1 h2 h3 => ?_) h
  refine hl.2.2 j h1 h2 ?_
  rw [e, Nat.mul_mod, h3, Nat.zero_mul, Nat.zero_mod]
/-- What is left is greater than q, and q is small. -/
theorem Fac.small {q k m n : Nat} (hl : Least q n) (hk : 1 ≤ k) (e : n = m * q ^ k) (h : m % q ≠ 0) (hm : 1 < m) (hn : n ≤ 10000000000) : q + 1 ≤ m ∧ q ≤ 100000 := by
  have hnd := Fac.noDiv hl e h
  have h1 : q + 1 ≤ m := by
    apply Nat.le_of_not_lt; intro hlt
    exact hnd m (by omega) hlt (Nat.mod_self m)
  refine ⟨h1, ?_⟩
  have h2 := (lt_mul_pow (m := m) hl.1 hk).2
  apply Nat.le_of_not_lt; intro hlt
  have h3 := Nat.mul_le_mul (show 100001 ≤ m by omega) hlt
  omega

theorem Fac.done {F : List (Nat × Nat)} (h : Fac F 1) : F = [] := by
  rcases F with _ | ⟨⟨q, k⟩, F⟩
  · rfl
  · obtain ⟨hl, _⟩ := h
    have h1 := hl.2.1
    rw [Nat.mod_eq_of_lt (by have := hl.1; omega)] at h1
    omega

set_option maxHeartbeats 4000000 in
theorem factorsOf_yes (n : Nat) (w : World) (hn1 : 1 ≤ n) (hn : n ≤ 10000000000) : ∀ F : List (Nat × Nat), Fac F n → F.length ≤ n →
    Calls Try.prog 50 #[.int .i64 (n : Int)] w (GivesSSOk w (facL F) true) := by
  intro F hF hFn
  replace hF := Lib.hid hF
  go_enter Try.func50, Try.ntmps50
  go_wp2_with fail
  go_loopw [0, 4, 5] (fun x v y wr => ∃ (m p : Nat) (F1 F2 : List (Nat × Nat)) (A : Option Addr) (c : Nat) (vs : List Value), Hid (F1 ++ F2 = F ∧ Fac F2 m ∧ NoDiv p m) ∧ 1 ≤ m ∧ m ≤ 10000000000 ∧ 2 ≤ p ∧ (1 < m → p ≤ 100001) ∧ x = .int .i64 m ∧ y = .int .i64 p ∧
      v = .slice A (facL F1).length c ∧ SS wr w.heap.size (.slice A (facL F1).length c) (facL F1) vs ∧ Below w.heap.size w wr) (fun x _ _ _ => (intOf x).toNat)
  case atStart => exact ⟨n, 2, [], F, none, 0, [], ⟨rfl, hF.out, NoDiv.two n⟩, hn1, hn, by omega, fun _ => by omega, rfl, rfl, rfl, SS.nil _ _, Below.refl _ _⟩
  case round =>
    obtain ⟨m, p, F1, F2, A, c, vs, hi, hm1, hm, hp2, hp, rfl, rfl, rfl, hs, hb⟩ := hrel
    clear hF
    by_cases hgt : 1 < m
    · have hpl := hp hgt
      obtain ⟨e1, e2, e3⟩ := hi.out
      obtain ⟨q, k, F3, rfl⟩ : ∃ q k F3, F2 = (q, k) :: F3 := by
        rcases F2 with _ | ⟨⟨q, k⟩, F3⟩
        · have : m = 1 := e2
          omega
        · exact ⟨q, k, F3, rfl⟩
      obtain ⟨hl, hk, r, er, hr, hr1, hF3⟩ := e2
      have hq2 := hl.1
      have hqm : q ≤ m := Nat.le_of_dvd (by omega) (Nat.dvd_of_mod_eq_zero hl.2.1)
      have hkm := Fac.bound er hq2 hr1
      have c1 := fun W => leastFactor_any m p W (by omega) hm hp2 hpl e3 q hl
      have c2 := fun W => divideOut_any m q W ⟨by omega, by omega⟩ hq2 (by omega) k r (Fac.val er hr) (by omega)
      have hrm := (lt_mul_pow (m := r) hq2 hk).1
      have hrm2 : r < m := by omega
      have hnd : Hid (NoDiv q r) := fun j h1 h2 => Fac.noDiv hl er hr j h1 (by omega)
      have hsm : 1 < r → q ≤ 100001 := fun h => by have := (Fac.small hl hk er hr h hm).2; omega
      have hfin : Hid ((F1 ++ [(q, k)]) ++ F3 = F ∧ Fac F3 r ∧ NoDiv q r) := ⟨by rw [← e1]; simp, hF3, hnd.out⟩
      have hsn := facL_snoc F1 q k
      have hlen : (facL F1).length + 1 ≤ 4398046511104 := by
        rw [facL_length]
        have h1 : (F1 ++ (q, k) :: F3).length = F.length := by rw [e1]
        rw [List.length_append, List.length_cons] at h1
        omega
      replace c1 := Lib.hid c1
      replace c2 := Lib.hid c2
      replace hsn := Lib.hid hsn
      clear hi e1 e3 hl er hr hF3 hnd hrm hp
      obtain ⟨L, hL⟩ : ∃ L, L = facL F1 := ⟨_, rfl⟩
      rw [← hL] at hs hlen hsn ⊢
      clear hL
      obtain ⟨s1, s2, s3, s4, s5, s6⟩ := hs.pair hb hb.size (q : Int) (k : Int)
      clear hs
      go_wp2_with fail
      refine (c1.out _).mono ?_
      rintro e w' ⟨rfl, rfl⟩
      go_wp2_with fail
      refine (c2.out _).mono ?_
      rintro e w' ⟨rfl, rfl⟩
      go_wp2_with (first
        | (at_builtin; refine wpList_append_ss _ rfl _ _ rfl w.heap.size _ L vs rfl s1 _ [(q : Int), (k : Int)] s2 s3 _ _ rfl s4 hlen s5 ?_; intro A' c' w1 hs1 hg1)
        | fail)
      have hb1 := below_ss s6 s1 (Nat.le_refl _) hg1
      clear s1 s2 s3 s4 s5 s6 hg1
      have hll : L.length + 1 = (facL (F1 ++ [(q, k)])).length := by rw [← hsn.out, List.length_append]; rfl
      rw [hsn.out] at hs1
      rw [hll]
      clear hll
      go_roundw
      case rel => exact ⟨r, q, F1 ++ [(q, k)], F3, A', c', _, hfin, hr1, by omega, hq2, hsm, rfl, rfl, rfl, hs1, hb1⟩
      case measure => simp [intOf]; omega
    · have hmm : m = 1 := by omega
      have hFF : Hid (F1 = F) := by
        obtain ⟨e1, e2, _⟩ := hi.out
        rw [hmm] at e2
        have := e2.done
        subst this
        rw [List.append_nil] at e1
        exact e1
      rw [hFF.out] at hs ⊢
      clear hi
      subst hmm
      go_wp2_with fail
      go_ret2
      exact ⟨A, c, vs, rfl, hs, hb⟩

set_option maxHeartbeats 400000 in
theorem factorsOf_no (n : Int) (w : World) (h : n < 1 ∨ 10000000000 < n) :
    Calls Try.prog 50 #[.int .i64 n] w (GivesSSOk w [] false) := by
  by_cases h1 : n < 1
  · clear h
    go_enter Try.func50, Try.ntmps50
    go_wp2_with fail
    go_ret2
    exact ⟨none, 0, [], rfl, SS.nil _ _, Below.refl _ _⟩
  · have h2 : 10000000000 < n := by omega
    clear h
    go_enter Try.func50, Try.ntmps50
    go_wp2_with fail
    go_ret2
    exact ⟨none, 0, [], rfl, SS.nil _ _, Below.refl _ _⟩

end Go.Proofs.Ytmknmjkcnlennaa
