/- What the laws ask of slices of slices: eqIntSS, markIntSS, heldIntSS. -/
import Derived.Test.YtbgoiflkpefckaaSS
import Derived.Test.YtbgoiflkpefckaaEq
import Derived.Test.YtbgoiflkpefckaaMark
namespace Go.Proofs.Ytbgoiflkpefckaa
open Go.RowKit Go.Joins

theorem drawn_on {w wm : World} {m n : Nat} (h : wm = w.drewN m) : ∃ k, wm.drewN n = w.drewN k := ⟨m + n, by rw [h, World.drewN_drewN]⟩
theorem below_drawn {B : Nat} {w w' : World} (h : ∃ m, w' = w.drewN m) : Below B w w' := by
  obtain ⟨m, rfl⟩ := h
  exact below_drewN (Below.refl _ _) m

set_option maxHeartbeats 400000 in
/-- eqIntS of two rows alike: only draws. -/
theorem eqIntS_quiet (A B : Option Addr) (n c d : Nat) (xs : List Int) (w : World) (hn : n ≤ 9223372036854775807) (h : Rd w w.heap.size A n xs) (h' : Rd w w.heap.size B n xs) :
    Calls Try.prog 26 #[.slice A n c, .slice B n d] w fun e w' => e = .returned (.bool true) ∧ ∃ m, w' = w.drewN m := by
  have e0 : ((n : Int) != (n : Int)) = false := by simp
  go_enter Try.func26, Try.ntmps26
  go_wp2
  go_loopw [5] (fun i wr => ∃ k : Nat, k ≤ n ∧ i = .int .i64 k ∧ Hid (∃ m, wr = w.drewN m)) (fun i _ => n - (intOf i).toNat)
  case atStart => exact ⟨0, Nat.zero_le _, rfl, 0, rfl⟩
  case round =>
    obtain ⟨k, hk, rfl, hwm⟩ := hrel
    by_cases hlt : k < n
    · obtain ⟨b, o, rfl, hbs, hc⟩ := h.2 (by omega)
      obtain ⟨b', o', rfl, hbs', hc'⟩ := h'.2 (by omega)
      have hread : wr.cell? ⟨b, o + k, none⟩ = some (.int .i64 (xs[k]?.getD 0)) := by obtain ⟨m, hm⟩ := hwm.out; rw [hm]; exact hc k hlt
      have hread' : wr.cell? ⟨b', o' + k, none⟩ = some (.int .i64 (xs[k]?.getD 0)) := by obtain ⟨m, hm⟩ := hwm.out; rw [hm]; exact hc' k hlt
      have he1 : (xs[k]?.getD 0 != xs[k]?.getD 0) = false := by simp
      clear hc hc' h h'
      go_wp2
      go_quiet (fail)
      go_wp2
      go_roundw
      case rel => exact ⟨k + 1, by omega, by go_num, by obtain ⟨m, hm⟩ := hwm.out; exact drawn_on hm⟩
      case measure => simp [intOf]; omega
    · go_wp2
      go_ret
      exact ⟨rfl, hwm.out⟩

theorem quiet_drawn {P : Program} {f : FuncId} {args : Array Value} {w : World} {n : Nat} {v : Value} (h : Calls P f args (w.drewN n) fun e w' => e = .returned v ∧ ∃ m, w' = (w.drewN n).drewN m) :
    Calls P f args (w.drewN n) fun e w'' => e = .returned v ∧ ∃ m, w'' = w.drewN m := Calls.quiet_of h

set_option maxHeartbeats 1000000 in
theorem eqIntSS_yes (A B : Option Addr) (n c d : Nat) (L : List (List Int)) (w : World) (hn : n ≤ 9223372036854775807) (hl : ∀ k : Nat, (L[k]?.getD []).length ≤ 9223372036854775807) (h : RdSS w w.heap.size A n L) (h' : RdSS w w.heap.size B n L) :
    Calls Try.prog 20 #[.slice A n c, .slice B n d] w fun e w' => e = .returned (.bool true) ∧ Below w.heap.size w w' := by
  have e0 : ((n : Int) != (n : Int)) = false := by simp
  go_enter Try.func20, Try.ntmps20
  go_wp2
  go_loopw [5] (fun i wr => ∃ k : Nat, k ≤ n ∧ i = .int .i64 k ∧ Hid (∃ m, wr = w.drewN m)) (fun i _ => n - (intOf i).toNat)
  case atStart => exact ⟨0, Nat.zero_le _, rfl, 0, rfl⟩
  case round =>
    obtain ⟨k, hk, rfl, hwm⟩ := hrel
    by_cases hlt : k < n
    · obtain ⟨b, o, rfl, hbs, hc⟩ := h.2 (by omega)
      obtain ⟨b', o', rfl, hbs', hc'⟩ := h'.2 (by omega)
      obtain ⟨A1, c1, hr1, hd1⟩ := hc k hlt
      obtain ⟨A2, c2, hr2, hd2⟩ := hc' k hlt
      have hread : wr.cell? ⟨b, o + k, none⟩ = some (.slice A1 (L[k]?.getD []).length c1) := by obtain ⟨m, hm⟩ := hwm.out; rw [hm]; exact hr1
      have hread' : wr.cell? ⟨b', o' + k, none⟩ = some (.slice A2 (L[k]?.getD []).length c2) := by obtain ⟨m, hm⟩ := hwm.out; rw [hm]; exact hr2
      have cq : ∀ m, Calls Try.prog 26 #[.slice A1 (L[k]?.getD []).length c1, .slice A2 (L[k]?.getD []).length c2] (wr.drewN m) fun e w' => e = .returned (.bool true) ∧ ∃ j, w' = (wr.drewN m).drewN j := by
        intro m
        have hb : Below w.heap.size w (wr.drewN m) := by
          have := below_drawn (B := w.heap.size) hwm.out
          exact below_drewN this m
        exact eqIntS_quiet A1 A2 _ c1 c2 (L[k]?.getD []) _ (hl k) (hd1.kept hb) (hd2.kept hb)
      replace cq := Lib.hid cq
      obtain ⟨l, hlL⟩ : ∃ l, l = (L[k]?.getD []).length := ⟨_, rfl⟩
      rw [← hlL] at hread hread' cq
      clear hc hc' h h' hr1 hr2 hd1 hd2 hl hlL
      go_wp2
      go_quiet ((go_at_call 26; exact quiet_drawn (cq.out _)))
      go_wp2
      go_roundw
      case rel => exact ⟨k + 1, by omega, by go_num, by obtain ⟨m, hm⟩ := hwm.out; exact drawn_on hm⟩
      case measure => simp [intOf]; omega
    · go_wp2
      go_ret
      exact ⟨rfl, below_drawn hwm.out⟩

set_option maxHeartbeats 1000000 in
theorem markIntSS_any (A : Option Addr) (c base : Nat) (L : List (List Int)) (vs : List Value) (k : Int) (w : World) (hk0 : 0 ≤ k) (hkn : k + tot L ≤ 4611686018427387904) (hL : L.length ≤ 9223372036854775807) (hbase : base ≤ w.heap.size) (h : SS w base (.slice A L.length c) L vs) :
    Calls Try.prog 21 #[.slice A L.length c, .int .i64 k] w fun e w' => e = .returned (.int .i64 (k + tot L)) ∧ SS w' base (.slice A L.length c) (marksSS k L) vs ∧ Below base w w' := by
  have h' : SS w base (.slice A L.length c) (mkSS k L 0) vs := by rw [mkSS_zero]; exact h
  clear h
  obtain ⟨n, hn⟩ : ∃ n, n = L.length := ⟨_, rfl⟩
  have hn' : Hid (n = L.length) := hn
  rw [← hn] at h' hL ⊢
  clear hn
  have hall : Hid (mkSS k L n = marksSS k L ∧ tot (L.take n) = tot L) := by
    show _ ∧ _
    rw [hn'.out]
    exact ⟨mkSS_all k L, by rw [List.take_length]⟩
  go_enter Try.func21, Try.ntmps21
  go_wp2
  go_loopw [1, 5] (fun q i wr => ∃ (j : Nat) (T : Nat), j ≤ n ∧ Hid (T = tot (L.take j)) ∧ T ≤ tot L ∧ i = .int .i64 j ∧ q = .int .i64 (k + T) ∧ SS wr base (.slice A n c) (mkSS k L j) vs ∧ Below base w wr) (fun _ i _ => n - (intOf i).toNat)
  case atStart => exact ⟨0, 0, Nat.zero_le _, by simp [Hid, tot], Nat.zero_le _, rfl, by simp, h', Below.refl _ _⟩
  case round =>
    obtain ⟨j, T, hj, hT, hTt, rfl, rfl, hs, hb⟩ := hrel
    clear h'
    by_cases hlt : j < n
    · have hjL : j < L.length := by rw [← hn'.out]; exact hlt
      have hml : (mkSS k L j).length = n := by rw [mkSS_length k L j (by omega), hn'.out]
      obtain ⟨g, cap, hv⟩ := ownsRow_form hs.outer (by omega)
      simp only [Value.slice.injEq] at hv
      obtain ⟨rfl, -, rfl⟩ := hv
      have ho := hs.outer
      rw [hml] at ho
      have hin := hs.inner j (by omega)
      rw [mkSS_at k L j hjL] at hin
      obtain ⟨Aj, cj, ej, -⟩ := hin.form
      have hread : wr.cell? ⟨g, j, none⟩ = some (.slice Aj (L[j]?.getD []).length cj) := by
        have hv : j < vs.length := by rw [hs.len]; omega
        rw [ho.cellAt j (by omega), ← ej]
        simp [List.getElem?_eq_getElem hv]
      have htk := tot_take_succ L j hjL
      have htk2 := tot_take_le L (j + 1)
      have hset := mkSS_set k L j hjL
      have hin' := hin
      rw [ej] at hin'
      have cm := markIntS_any Aj cj base (L[j]?.getD []) (k + T) wr (by omega) (by have := hT.out; omega) hin'
      have hst : ∀ w', Own w' base (.slice Aj (L[j]?.getD []).length cj) (marks (k + T) (L[j]?.getD []).length) → wr.grownBy w' (Value.slice Aj (L[j]?.getD []).length cj).ownBlock → SS w' base (.slice (some ⟨g, 0, none⟩) n c) (mkSS k L (j + 1)) vs ∧ Below base w w' := by
        intro w' h1 h2
        rw [← ej] at h1 h2
        have h3 := hs.set j (by omega) h2 h1
        rw [hT.out, hset] at h3
        refine ⟨h3, hb.grown h2 (by have := hb.size; omega) (fun q hq => ?_)⟩
        exact (World.ownsRow.lt hin q hq).1
      have hT2 : Hid (T + (L[j]?.getD []).length = tot (L.take (j + 1))) := by show _ = _; rw [htk, hT.out]
      have hT3 : T + (L[j]?.getD []).length ≤ tot L := by rw [hT2.out]; exact htk2
      obtain ⟨l, hl⟩ : ∃ l, l = (L[j]?.getD []).length := ⟨_, rfl⟩
      rw [← hl] at hread cm hst hT2 hT3
      replace cm := Lib.hid cm
      replace hst := Lib.hid hst
      clear hl hset htk htk2 hin hin' ej ho hs hT hml hall
      go_wp2_with fail
      refine (cm.out).mono ?_
      rintro e w' ⟨rfl, hm1, hg1⟩
      obtain ⟨hs1, hb1⟩ := hst.out w' hm1 hg1
      go_wp2_with fail
      go_roundw
      case rel => exact ⟨j + 1, T + l, by omega, hT2, hT3, by go_num, by rw [show k + (T : Int) + (l : Int) = k + ((T + l : Nat) : Int) from by omega], hs1, hb1⟩
      case measure => simp [intOf]; omega
    · have hjn : Hid (j = n) := by show j = n; omega
      have hfin : Hid (k + (T : Int) = k + tot L) := by
        have := hT.out
        rw [hjn.out, hall.out.2] at this
        show k + (T : Int) = k + tot L
        omega
      rw [hjn.out, hall.out.1] at hs
      clear hT
      go_wp2
      go_ret
      exact ⟨by rw [hfin.out]; rfl, hs, hb⟩

set_option maxHeartbeats 1000000 in
theorem heldIntSS_any (A : Option Addr) (n c B : Nat) (L : List (List Int)) (k : Int) (w : World) (hk0 : 0 ≤ k) (hkn : k + tot L ≤ 4611686018427387904) (hn : n = L.length) (hnl : n ≤ 9223372036854775807) (h : RdSS w B A n (marksSS k L)) :
    Calls Try.prog 22 #[.slice A n c, .int .i64 k] w fun e w' => e = .returned (.int .i64 (k + tot L)) ∧ w = w' := by
  have hn' : Hid (n = L.length) := hn
  clear hn
  go_enter Try.func22, Try.ntmps22
  go_wp2
  go_loop [1, 5] (fun q i => ∃ (j : Nat) (T : Nat), j ≤ n ∧ Hid (T = tot (L.take j)) ∧ T ≤ tot L ∧ i = .int .i64 j ∧ q = .int .i64 (k + T)) (fun _ i => n - (intOf i).toNat)
  case atStart => exact ⟨0, 0, Nat.zero_le _, by simp [Hid, tot], Nat.zero_le _, rfl, by simp⟩
  case round =>
    obtain ⟨j, T, hj, hT, hTt, rfl, rfl⟩ := hrel
    by_cases hlt : j < n
    · have hjL : j < L.length := by rw [← hn'.out]; exact hlt
      obtain ⟨b, o, rfl, hbs, hc⟩ := h.2 (by omega)
      obtain ⟨A1, c1, hr1, hd1⟩ := hc j hlt
      have hat := marksSS_at L k j hjL
      rw [hat, marks_length] at hr1 hd1
      have htk := tot_take_succ L j hjL
      have htk2 := tot_take_le L (j + 1)
      rw [← hT.out] at hd1
      have cm := heldIntS_any A1 (L[j]?.getD []).length c1 B (k + T) w (by omega) (by have := hT.out; omega) hd1
      have hT2 : Hid (T + (L[j]?.getD []).length = tot (L.take (j + 1))) := by show _ = _; rw [htk, hT.out]
      have hT3 : T + (L[j]?.getD []).length ≤ tot L := by rw [hT2.out]; exact htk2
      obtain ⟨l, hl⟩ : ∃ l, l = (L[j]?.getD []).length := ⟨_, rfl⟩
      rw [← hl] at hr1 cm hT2 hT3
      replace cm := Lib.hid cm
      clear hl htk htk2 hd1 hc hT h hat
      go_wp2_with fail
      refine (cm.out).mono ?_
      rintro e w' ⟨rfl, rfl⟩
      have hneg : ¬ k + (T : Int) + (l : Int) < 0 := by omega
      go_wp2_with fail
      go_round
      case rel => exact ⟨j + 1, T + l, by omega, hT2, hT3, by go_num, by rw [show k + (T : Int) + (l : Int) = k + ((T + l : Nat) : Int) from by omega]⟩
      case measure => simp [intOf]; omega
    · have hfin : Hid (k + (T : Int) = k + tot L) := by
        have := hT.out
        rw [show j = L.length from by have := hn'.out; omega, List.take_length] at this
        show k + (T : Int) = k + tot L
        omega
      clear hT
      go_wp2
      go_ret
      exact ⟨by rw [hfin.out]; rfl, rfl⟩
end Go.Proofs.Ytbgoiflkpefckaa
