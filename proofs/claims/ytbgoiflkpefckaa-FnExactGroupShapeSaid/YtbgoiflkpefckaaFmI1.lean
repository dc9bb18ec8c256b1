/- The program's residues and values (written by wip/gen/fmi1.py). -/
import Derived.Test.YtbgoiflkpefckaaRsPow
import Derived.Test.YtbgoiflkpefckaaRsRoot
import Derived.Test.YtbgoiflkpefckaaEcI
import Derived.Test.YtbgoiflkpefckaaEcS
import Derived.Test.YtbgoiflkpefckaaFmAdd
import Derived.Test.YtbgoiflkpefckaaFmEq
import Derived.Deep.RegionHeld3
import Derived.Deep.DeepCutAuto
import Derived.BigQuiet
import Derived.BigGuard
import Derived.Laws.StructEq
import Derived.StillTailTactics
namespace Go.Proofs.Ytbgoiflkpefckaa
open Go.RowKit Go.Joins

theorem Box.three {w : World} {g : Nat} {t : TypeId} {a b c : Value} (h : Box w g t #[a, b, c]) : w.cell? ⟨g, 0, none⟩ = some a ∧ w.cell? ⟨g, 1, none⟩ = some b ∧ w.cell? ⟨g, 2, none⟩ = some c := ⟨h.cell 0, h.cell 1, h.cell 2⟩
def GivesP (w : World) (x y z : Int) (e : Ending) (w' : World) : Prop := e = .returned (.agg #[.int .i64 x, .int .i64 y, .int .i64 z]) ∧ Below w.heap.size w w'
def GivesPB (w : World) (x y z : Int) (ok : Bool) (e : Ending) (w' : World) : Prop := e = .returned (.tuple #[.agg #[.int .i64 x, .int .i64 y, .int .i64 z], .bool ok]) ∧ Below w.heap.size w w'
theorem below_sets3 {w0 w : World} {g : Nat} (h : Below w0.heap.size w0 w) (hg : w0.heap.size ≤ g) (u v z : Value) : Below w0.heap.size w0 (((w.setCell ⟨g, 0, none⟩ u).setCell ⟨g, 1, none⟩ v).setCell ⟨g, 2, none⟩ z) :=
  ((h.setCell hg _).setCell hg _).setCell hg _
theorem below_dr (w : World) (n : Nat) : Below w.heap.size w (w.drewN n) := Below.drewN' (Below.refl _ _) n
theorem qleft {P : Program} {f : FuncId} {args : Array Value} {w : World} {n : Nat} {v : Value}
    (h : Calls P f args (w.drewN n) fun e w' => e = .returned v ∧ w.drewN n = w') : Calls P f args (w.drewN n) fun e w'' => e = .returned v ∧ ∃ m, w'' = w.drewN m :=
  h.mono fun _ _ ⟨he, hm⟩ => ⟨he, n, hm.symm⟩
theorem sleft {P : Program} {f : FuncId} {args : Array Value} {w : World} {v : Value}
    (h : Calls P f args w fun e w' => e = .returned v ∧ w = w') : Calls P f args w fun e w'' => e = .returned v ∧ w'' = w :=
  h.mono fun _ _ ⟨he, hm⟩ => ⟨he, hm.symm⟩
theorem rmod_any (z : Int) (p : Nat) (w : World) (hz : IsA z) (h2 : 2 ≤ p) (h9 : p ≤ 997) : Calls Try.prog 73 #[.int .i64 z, .int .i64 (p : Int)] w fun e w' => e = .returned (.int .i64 (rs p z : Int)) ∧ w = w' :=
  residueModulo_any z p w hz h2 h9 (rs p z) (rs_cast (by omega) z)
theorem smod_any (z : Int) (p : Nat) (w : World) (hz : IsA z) (h2 : 2 ≤ p) (h9 : p ≤ 997) : Calls Try.prog 69 #[.int .i64 z, .int .i64 (p : Int)] w fun e w' => e = .returned (.int .i64 (rs p z : Int)) ∧ w = w' :=
  mdMod_any z p w hz h2 h9 (rs p z) (rs_cast (by omega) z)
theorem nmul {x y m n : Nat} (hx : x ≤ m) (hy : y ≤ n) : (0 : Int) ≤ (x : Int) * y ∧ (x : Int) * y ≤ (m : Int) * n := by
  have h1 : ((x * y : Nat) : Int) = (x : Int) * y := Int.natCast_mul _ _
  have h2 : ((m * n : Nat) : Int) = (m : Int) * n := Int.natCast_mul _ _
  have h3 := Nat.mul_le_mul hx hy
  omega
theorem nmul' {x y m n M : Nat} (hx : x ≤ m) (hy : y ≤ n) (hM : m * n = M) : (0 : Int) ≤ (x : Int) * y ∧ (x : Int) * y ≤ M := by
  have h0 := nmul hx hy
  have h1 : ((m * n : Nat) : Int) = (m : Int) * n := Int.natCast_mul _ _
  omega
theorem at_mod {a b : Int} {p x : Nat} (hp : 0 < p) : (((x : Int) * x + rs p a) * x + rs p b) % p = fval a b p x := by
  unfold fval
  rw [rs_cast hp, rs_cast hp, rs_cast hp]
  unfold ecV
  have e1 : (((x : Int) * x + a % p) * x + b % p) = x * x * x + a * x + b - p * (a / p * x + b / p) := by
    have h1 : a % (p : Int) = a - p * (a / p) := Int.emod_def a p
    have h2 : b % (p : Int) = b - p * (b / p) := Int.emod_def b p
    rw [h1, h2]; generalize a / (p : Int) = q; generalize b / (p : Int) = r; grind
  rw [e1, Int.sub_mul_emod_self_left]

set_option maxHeartbeats 1000000 in
set_option maxRecDepth 100000 in
theorem at_core (A B p x V : Nat) (w : World) (h5 : 5 ≤ p) (h9 : p ≤ 997) (hA : A < p) (hB : B < p) (hx : x < p) (hV : (((x : Int) * x + A) * x + B) % (p : Int) = V) : Calls Try.prog 49 #[.agg #[.int .i64 (A : Int), .int .i64 (B : Int), .int .i64 (p : Int)], .int .i64 (x : Int)] w (GivesI w V) := by
  have p0 : ((p : Int) == 0) = false := beq_eq_false_iff_ne.2 (by omega)
  have p1 : (p : Int) ≠ 0 := by omega
  have p2 : p ≠ 0 := by omega
  have m1 := nmul' (show x ≤ 996 by omega) (show x ≤ 996 by omega) (M := 992016) rfl
  obtain ⟨X, hX⟩ : ∃ X : Nat, x * x = X := ⟨_, rfl⟩
  have eX : (x : Int) * x = X := by rw [← hX, Int.natCast_mul]
  rw [eX] at m1 hV
  have m2 := nmul' (x := X + A) (y := x) (m := 993012) (n := 996) (by omega) (by omega) (M := 989039952) rfl
  rw [Int.natCast_add] at m2
  have q1 : (((X : Int) + A) * x + B).tmod p = V := by rw [Int.tmod_eq_emod_of_nonneg (by omega)]; exact hV
  replace q1 := Lib.hid q1
  clear hV hX
  have h := Below.refl w.heap.size w
  have hA := below_alloc1 w (.cells #[.int .i64 (A : Int), .int .i64 (B : Int), .int .i64 (p : Int)] 62)
  have hxf := Box.new w 62 #[.int .i64 (A : Int), .int .i64 (B : Int), .int .i64 (p : Int)]
  replace h := Below.step h hA
  clear hA
  obtain ⟨kf0, kf1, kf2⟩ := hxf.three
  have lf := hxf.lt
  go_enter Try.func49, Try.ntmps49
  go_wp2_with fail
  go_ret
  exact ⟨congrArg (fun z => Ending.returned (.int .i64 z)) q1.out, h⟩


theorem at_any (a b : Int) (p x : Nat) (w : World) (h5 : 5 ≤ p) (h9 : p ≤ 997) (hx : x < p) : Calls Try.prog 49 #[.agg #[.int .i64 (rs p a : Int), .int .i64 (rs p b : Int), .int .i64 (p : Int)], .int .i64 (x : Int)] w (GivesI w (fval a b p x)) :=
  at_core (rs p a) (rs p b) p x _ w h5 h9 (rs_lt (by omega) a) (rs_lt (by omega) b) hx (at_mod (by omega))

set_option maxHeartbeats 1000000 in
set_option maxRecDepth 100000 in
theorem opp_core (A B p y : Nat) (x v : Int) (w : World) (h5 : 5 ≤ p) (h9 : p ≤ 997) (hy : y < p) : Calls Try.prog 59 #[.agg #[.int .i64 (A : Int), .int .i64 (B : Int), .int .i64 (p : Int)], .agg #[.int .i64 x, .int .i64 (y : Int), .int .i64 v]] w (GivesP w x (rs p (-(y : Int))) v) := by
  have c1 := fun W => rmod_any (-(y : Int)) p W ⟨by omega, by omega⟩ (by omega) h9
  replace c1 := Lib.hid c1
  have ew : IntKind.i64.wrap (-(y : Int)) = -(y : Int) := IntWalk.i64_in _ (by omega)
  have h := Below.refl w.heap.size w
  have hA := below_alloc1 w (.cells #[.int .i64 (A : Int), .int .i64 (B : Int), .int .i64 (p : Int)] 62)
  have hxf := Box.new w 62 #[.int .i64 (A : Int), .int .i64 (B : Int), .int .i64 (p : Int)]
  replace h := Below.step h hA
  clear hA
  have hA := below_alloc1 (w.alloc (.cells #[.int .i64 (A : Int), .int .i64 (B : Int), .int .i64 (p : Int)] 62)) (.cells #[.int .i64 x, .int .i64 (y : Int), .int .i64 v] 70)
  have hxs := Box.new (w.alloc (.cells #[.int .i64 (A : Int), .int .i64 (B : Int), .int .i64 (p : Int)] 62)) 70 #[.int .i64 x, .int .i64 (y : Int), .int .i64 v]
  rw [show (w.alloc (.cells #[.int .i64 (A : Int), .int .i64 (B : Int), .int .i64 (p : Int)] 62)).heap.size = w.heap.size + 1 from by simp] at hxs
  replace h := Below.step h hA
  replace hxf := hxf.kept hA
  clear hA
  have hA := below_alloc1 ((w.alloc (.cells #[.int .i64 (A : Int), .int .i64 (B : Int), .int .i64 (p : Int)] 62)).alloc (.cells #[.int .i64 x, .int .i64 (y : Int), .int .i64 v] 70)) (.cells #[.int .i64 0, .int .i64 0, .int .i64 0] 70)
  have hxr := Box.new ((w.alloc (.cells #[.int .i64 (A : Int), .int .i64 (B : Int), .int .i64 (p : Int)] 62)).alloc (.cells #[.int .i64 x, .int .i64 (y : Int), .int .i64 v] 70)) 70 #[.int .i64 0, .int .i64 0, .int .i64 0]
  rw [show ((w.alloc (.cells #[.int .i64 (A : Int), .int .i64 (B : Int), .int .i64 (p : Int)] 62)).alloc (.cells #[.int .i64 x, .int .i64 (y : Int), .int .i64 v] 70)).heap.size = w.heap.size + 2 from by simp] at hxr
  replace h := Below.step h hA
  replace hxf := hxf.kept hA
  replace hxs := hxs.kept hA
  clear hA
  obtain ⟨kf0, kf1, kf2⟩ := hxf.three
  have lf := hxf.lt
  obtain ⟨ks0, ks1, ks2⟩ := hxs.three
  have ls := hxs.lt
  obtain ⟨kr0, kr1, kr2⟩ := hxr.three
  have lr := hxr.lt
  go_enter Try.func59, Try.ntmps59
  go_wp2_with fail
  generalize (((w.alloc (.cells #[.int .i64 (A : Int), .int .i64 (B : Int), .int .i64 (p : Int)] 62)).alloc (.cells #[.int .i64 x, .int .i64 (y : Int), .int .i64 v] 70)).alloc (.cells #[.int .i64 0, .int .i64 0, .int .i64 0] 70)) = w1 at *
  go_still_tail 11, (by kernel_rfl)
  still_call (sleft (c1.out _))
  repeat still_step
  refine wpStill_nil ?_
  clear kf0 kf1 kf2 lf ks0 ks1 ks2 ls kr0 kr1 kr2 lr
  have hb : Below w1.heap.size w1 w1.drew := ⟨rfl, rfl, rfl, Nat.le_refl _, fun _ _ => rfl⟩
  change wpList _ _ _ _ _ w1.drew
  generalize w1.drew = w2 at *
  replace h := Below.step h hb
  replace hxf := hxf.kept hb
  replace hxs := hxs.kept hb
  replace hxr := hxr.kept hb
  clear hb
  obtain ⟨kf0, kf1, kf2⟩ := hxf.three
  have lf := hxf.lt
  obtain ⟨ks0, ks1, ks2⟩ := hxs.three
  have ls := hxs.lt
  obtain ⟨kr0, kr1, kr2⟩ := hxr.three
  have lr := hxr.lt
  have fr0 := hxr.free 0
  have fr1 := hxr.free 1
  have fr2 := hxr.free 2
  obtain ⟨sr0, sr1, sr2⟩ := (((hxr.set 0 (.int .i64 x)).set 1 (.int .i64 (rs p (-(y : Int)) : Int))).set 2 (.int .i64 v)).three
  go_wp2_with fail
  refine bodyPost_ret (v := .agg #[.int .i64 x, .int .i64 (rs p (-(y : Int)) : Int), .int .i64 v]) (by simp [results, Try.results59, go_sem, sr0, sr1, sr2]) (by rfl) ⟨by rfl, ?_⟩
  exact below_sets3 h (by omega) _ _ _


def fpx : FP → Int
  | none => 0
  | some (x, _) => x
def fpy : FP → Int
  | none => 0
  | some (_, y) => y
def fpz : FP → Int
  | none => 0
  | some _ => 1
theorem opp_any (A B p : Nat) (s : FP) (w : World) (h5 : 5 ≤ p) (h9 : p ≤ 997) {a b : Int} (hs : FOn a b p s) : Calls Try.prog 59 #[.agg #[.int .i64 (A : Int), .int .i64 (B : Int), .int .i64 (p : Int)], .agg #[.int .i64 (fpx s), .int .i64 (fpy s), .int .i64 (fpz s)]] w (GivesP w (fpx (fneg p s)) (fpy (fneg p s)) (fpz (fneg p s))) := by
  rcases s with _ | ⟨x, y⟩
  · have h := opp_core A B p 0 0 0 w h5 h9 (by omega)
    rw [show rs p (-((0 : Nat) : Int)) = 0 from by simp [rs]] at h
    exact h
  · exact opp_core A B p y x 1 w h5 h9 hs.2.1
theorem inv_any (z : Int) (p : Nat) (w : World) (hz : IsA z) (hp : Pr p) (h9 : p ≤ 997) (h0 : rs p z ≠ 0) : Calls Try.prog 82 #[.int .i64 z, .int .i64 (p : Int)] w fun e w' => e = .returned (.tuple #[.int .i64 (ivn p z : Int), .bool true]) ∧ w = w' :=
  inverseOf_yes z p w hz hp h9 (rs p z) (ivn p z) (rs_cast (by have := hp.1; omega) z) (rs_lt (by have := hp.1; omega) z) h0 rfl

set_option maxHeartbeats 1000000 in
set_option maxRecDepth 100000 in
theorem slope_eq (A B p x y : Nat) (w : World) (h5 : 5 ≤ p) (h9 : p ≤ 997) (hp : Pr p) (hA : A < p) (hx : x < p) (hy : y < p) (h0 : rs p (2 * (y : Int)) ≠ 0) : Calls Try.prog 78 #[.agg #[.int .i64 (A : Int), .int .i64 (B : Int), .int .i64 (p : Int)], .agg #[.int .i64 (x : Int), .int .i64 (y : Int), .int .i64 1], .agg #[.int .i64 (x : Int), .int .i64 (y : Int), .int .i64 1]] w (GivesI w (rs p ((3 * (x : Int) * x + A) * ivn p (2 * (y : Int))))) := by
  have p0 : ((p : Int) == 0) = false := beq_eq_false_iff_ne.2 (by omega)
  have p1 : (p : Int) ≠ 0 := by omega
  have p2 : p ≠ 0 := by omega
  have c1 := fun W => inv_any (2 * (y : Int)) p W ⟨by omega, by omega⟩ hp h9 h0
  obtain ⟨I, hI⟩ : ∃ I, I = ivn p (2 * (y : Int)) := ⟨_, rfl⟩
  have hIp : I < p := by rw [hI]; exact ivn_lt (by omega) _
  rw [← hI] at c1 ⊢
  have m0 := nmul' (show 3 * x ≤ 2988 by omega) (show x ≤ 996 by omega) (M := 2976048) rfl
  rw [Int.natCast_mul] at m0
  have m0' : (0 : Int) ≤ 3 * (x : Int) * x ∧ 3 * (x : Int) * x ≤ 2976048 := by have := m0; omega
  clear m0
  obtain ⟨X, hX⟩ : ∃ X : Nat, (X : Int) = 3 * (x : Int) * x + A := ⟨(3 * (x : Int) * x + A).toNat, by omega⟩
  have m2 := nmul' (x := X) (y := I) (m := 2977044) (n := 996) (by omega) (by omega) (M := 2965135824) rfl
  have c2 := fun W => rmod_any ((3 * (x : Int) * x + A) * I) p W (by rw [← hX]; exact ⟨by omega, by omega⟩) (by omega) h9
  rw [hX] at m2
  replace c1 := Lib.hid c1
  replace c2 := Lib.hid c2
  clear hX hI h0 hp
  have h := Below.refl w.heap.size w
  have hA := below_alloc1 w (.cells #[.int .i64 (A : Int), .int .i64 (B : Int), .int .i64 (p : Int)] 62)
  have hxf := Box.new w 62 #[.int .i64 (A : Int), .int .i64 (B : Int), .int .i64 (p : Int)]
  replace h := Below.step h hA
  clear hA
  have hA := below_alloc1 (w.alloc (.cells #[.int .i64 (A : Int), .int .i64 (B : Int), .int .i64 (p : Int)] 62)) (.cells #[.int .i64 (x : Int), .int .i64 (y : Int), .int .i64 1] 70)
  have hxs := Box.new (w.alloc (.cells #[.int .i64 (A : Int), .int .i64 (B : Int), .int .i64 (p : Int)] 62)) 70 #[.int .i64 (x : Int), .int .i64 (y : Int), .int .i64 1]
  rw [show (w.alloc (.cells #[.int .i64 (A : Int), .int .i64 (B : Int), .int .i64 (p : Int)] 62)).heap.size = w.heap.size + 1 from by simp] at hxs
  replace h := Below.step h hA
  replace hxf := hxf.kept hA
  clear hA
  have hA := below_alloc1 ((w.alloc (.cells #[.int .i64 (A : Int), .int .i64 (B : Int), .int .i64 (p : Int)] 62)).alloc (.cells #[.int .i64 (x : Int), .int .i64 (y : Int), .int .i64 1] 70)) (.cells #[.int .i64 (x : Int), .int .i64 (y : Int), .int .i64 1] 70)
  have hxt := Box.new ((w.alloc (.cells #[.int .i64 (A : Int), .int .i64 (B : Int), .int .i64 (p : Int)] 62)).alloc (.cells #[.int .i64 (x : Int), .int .i64 (y : Int), .int .i64 1] 70)) 70 #[.int .i64 (x : Int), .int .i64 (y : Int), .int .i64 1]
  rw [show ((w.alloc (.cells #[.int .i64 (A : Int), .int .i64 (B : Int), .int .i64 (p : Int)] 62)).alloc (.cells #[.int .i64 (x : Int), .int .i64 (y : Int), .int .i64 1] 70)).heap.size = w.heap.size + 2 from by simp] at hxt
  replace h := Below.step h hA
  replace hxf := hxf.kept hA
  replace hxs := hxs.kept hA
  clear hA
  obtain ⟨kf0, kf1, kf2⟩ := hxf.three
  have lf := hxf.lt
  obtain ⟨ks0, ks1, ks2⟩ := hxs.three
  have ls := hxs.lt
  obtain ⟨kt0, kt1, kt2⟩ := hxt.three
  have lt := hxt.lt
  go_enter Try.func78, Try.ntmps78
  go_wp2_with fail
  generalize (((w.alloc (.cells #[.int .i64 (A : Int), .int .i64 (B : Int), .int .i64 (p : Int)] 62)).alloc (.cells #[.int .i64 (x : Int), .int .i64 (y : Int), .int .i64 1] 70)).alloc (.cells #[.int .i64 (x : Int), .int .i64 (y : Int), .int .i64 1] 70)) = w1 at *
  refine wp_region_still_lit (by kernel_rfl) (by kernel_rfl) ?_
  repeat still_step
  refine wpStill_nil ?_
  have hb : Below w1.heap.size w1 w1.drew := ⟨rfl, rfl, rfl, Nat.le_refl _, fun _ _ => rfl⟩
  change Exit.then _ _ _ _ w1.drew
  generalize w1.drew = w2 at *
  replace h := Below.step h hb
  replace hxf := hxf.kept hb
  replace hxs := hxs.kept hb
  replace hxt := hxt.kept hb
  clear hb kf0 kf1 kf2 lf ks0 ks1 ks2 ls kt0 kt1 kt2 lt
  obtain ⟨kf0, kf1, kf2⟩ := hxf.three
  have lf := hxf.lt
  obtain ⟨ks0, ks1, ks2⟩ := hxs.three
  have ls := hxs.lt
  obtain ⟨kt0, kt1, kt2⟩ := hxt.three
  have lt := hxt.lt
  go_wp2_with fail
  go_upto_region 3 with fail
  refine wp_region_still_lit (by kernel_rfl) (by kernel_rfl) ?_
  repeat still_step
  refine wpStill_nil ?_
  have hb : Below w2.heap.size w2 w2.drew := ⟨rfl, rfl, rfl, Nat.le_refl _, fun _ _ => rfl⟩
  change Exit.then _ _ _ _ w2.drew
  generalize w2.drew = w3 at *
  replace h := Below.step h hb
  replace hxf := hxf.kept hb
  replace hxs := hxs.kept hb
  replace hxt := hxt.kept hb
  clear hb kf0 kf1 kf2 lf ks0 ks1 ks2 ls kt0 kt1 kt2 lt
  obtain ⟨kf0, kf1, kf2⟩ := hxf.three
  have lf := hxf.lt
  obtain ⟨ks0, ks1, ks2⟩ := hxs.three
  have ls := hxs.lt
  obtain ⟨kt0, kt1, kt2⟩ := hxt.three
  have lt := hxt.lt
  go_wp2_with fail
  refine (c1.out _).mono ?_
  rintro e w4 ⟨rfl, rfl⟩
  go_wp2_with fail
  refine (c2.out _).mono ?_
  rintro e w5 ⟨rfl, rfl⟩
  go_wp2_with fail
  go_ret
  exact ⟨rfl, h⟩

end Go.Proofs.Ytbgoiflkpefckaa
