/- ParseWhole of the model (written by wip/gen/pws.py). -/
import Derived.Test.YtllbbfkgobhcgaaPwMath
import Derived.Test.YtllbbfkgobhcgaaPwShelf
import Derived.IntWalk
namespace Go.Proofs.Ytllbbfkgobhcgaa
open Go.RowKit Go.Joins

theorem ba_injG {a b : ByteArray} (h : a.toList = b.toList) : a = b := by
  rw [ByteArray.toList_eq, ByteArray.toList_eq] at h
  exact ByteArray.ext (Array.toList_inj.1 h)

set_option maxHeartbeats 1000000 in
set_option maxRecDepth 100000 in
theorem pwS_neg_good (s : ByteArray) (w : World) (hs : s.size ≤ 1048576) (t : ByteArray) (ht : s.extract 1 s.size = t) (htz : t.size + 1 = s.size) (hs0 : 0 < s.size) (hc : s[0].toNat = 45) (h1 : 1 ≤ t.size) (h2 : t.size ≤ 1600) (hd : ∀ k, k < t.size → dig t k) (V : Nat) (hV : valTo t t.size = V) (Z : Int) (hZ : (if true then -(V : Int) else (V : Int)) = Z) (nb : Bool) (hnb : nb = decide (Z < 0)) (D : List Int) (hD : D = digs Z.natAbs) (T : ByteArray) (cT : ∀ (A : Option Addr) (c : Nat) (W : World), Rd W W.heap.size A D.length D → Calls Try.prog 12 #[.agg #[.bool nb, .slice A D.length c]] W fun e w' => e = .returned (.string T) ∧ Below W.heap.size W w') (bb : Bool) (rn : Bool) (rs : List Int) (hyes : bb = true → T = s ∧ rn = nb ∧ rs = D) (hno : bb = false → T ≠ s ∧ rn = false ∧ rs = []) :
    Calls Try.prog 4 #[.string s] w (GivesWholeOk w rn rs bb) := by
  have c := fun W => l1In_yes (t.size : Int) 1 1600 W (by omega) (by omega)
  replace c := Lib.hid c
  obtain ⟨N, hN⟩ : ∃ N, N = t.size := ⟨_, rfl⟩
  have e45 : ((s[0].toNat : Int) == 45) = true := by rw [hc]; rfl
  have ha1 : 1 ≤ (s.size : Int) := by omega
  have ha0 : 0 < (s.size : Int) := by omega
  replace hc := Lib.hid hc
  have hts : (t.size : Int) < (s.size : Int) := by omega
  replace htz := Lib.hid htz
  have hb0 := below_alloc1 w (.cells #[.bool false, .slice none 0 0] 24)
  have hx0 := Box.new w 24 #[.bool false, .slice none 0 0]
  go_enter Try.func4, Try.ntmps4
  go_wp2_with fail
  refine (c.out _).mono ?_
  rintro e w1 ⟨rfl, rfl⟩
  go_wp2_with fail
  go_loopg [5, 6] (t.size) (fun g v q wr => ∃ (E : Nat) (z : Int) (A : Option Addr) (c L : Nat) (out : List Int), E ≤ t.size ∧ g = 0 + E ∧ q = .int .i64 z ∧ (z = E ∨ (E = 0 ∧ z ≤ 0 ∧ -4 ≤ z)) ∧ v = .slice A L c ∧ Hid (L = out.length) ∧ Own wr (w.heap.size + 1) (.slice A L c) out ∧ 4 * out.length + E ≤ 1604 ∧ Hid (valT out (valTo t E) = valTo t t.size ∧ Rng 0 9999 out) ∧ Hid (∀ j, E ≤ j → j < t.size → dig t j) ∧ Below w.heap.size w wr ∧ Box wr w.heap.size 24 #[.bool false, .slice none 0 0])
  case atStart => exact ⟨t.size, (t.size : Int), none, 0, 0, [], Nat.le_refl _, by omega, rfl, .inl rfl, rfl, rfl, World.ownsRow_nil _ _ _ _, by simp; omega, ⟨by simp [valT], Rng.nil _ _⟩, fun j h3 h4 => by omega, hb0, hx0⟩
  case round =>
    clear hb0 hx0
    obtain ⟨E, z, A, c, L, out, hE, rfl, rfl, hz, rfl, hL, hown, hlen, hval, hdg, hb, hx0⟩ := hrel
    obtain rfl : L = out.length := hL.out
    by_cases hpos : 0 < E
    · obtain rfl : z = (E : Int) := by omega
      clear hz
      obtain ⟨p, hp⟩ : ∃ p, p = E - 4 := ⟨_, rfl⟩
      have hp0 : Hid (p = 0 ∨ p + 4 = E) := by show _ ∨ _; omega
      have hpE : p ≤ E := by omega
      have hpE4 : E ≤ p + 4 := by omega
      replace hp := Lib.hid hp
      go_wp2_with fail
      refine (l1Most_any 0 ((E : Int) - 4) _).mono ?_
      rintro e w1 ⟨rfl, rfl⟩
      rw [show max 0 ((E : Int) - 4) = (p : Int) from by have := hp.out; omega]
      go_wp2_with fail
      go_loopg [7, 8] (E - p) (fun g x i wr2 => ∃ k : Nat, p + k ≤ E ∧ g = E - p - k ∧ x = .int .i64 ((sg t p k : Nat) : Int) ∧ i = .int .i64 ((p + k : Nat) : Int) ∧ Hid (∀ j, j < k → dig t (p + j)) ∧ wr2 = wr)
      case atStart => exact ⟨0, by omega, rfl, rfl, rfl, fun j hj => by omega, rfl⟩
      case round =>
        obtain ⟨k, hk, rfl, rfl, rfl, hdk, rfl⟩ := hrel
        obtain ⟨i, hi⟩ : ∃ i, i = p + k := ⟨_, rfl⟩
        rw [← hi]
        have hsk := sg_le t p k (by omega) hdk.out
        obtain ⟨x, hx⟩ : ∃ x, x = sg t p k := ⟨_, rfl⟩
        rw [← hx] at hsk ⊢
        by_cases hlt : i < E
        · have his : i < t.size := by omega
          by_cases hdi : dig t i
          · have hdk2 : Hid (∀ j, j < k + 1 → dig t (p + j)) := fun j hj => by
              by_cases ej : j = k
              · subst ej; rw [← hi]; exact hdi
              · exact hdk.out j (by omega)
            have hx2 : sg t p (k + 1) = 10 * x + (t[i].toNat - 48) := by
              rw [sg, ← hx, ← hi]; unfold dg; rw [get_data his]
            have hd2 := hdi
            unfold dig at hd2
            rw [get_data his] at hd2
            obtain ⟨d1, d2⟩ := hd2
            have d3 : 48 ≤ (t[i].toNat : Int) := by omega
            have d4 : (t[i].toNat : Int) ≤ 57 := by omega
            have hvi : Hid (((sg t p (k + 1) : Nat) : Int) = 10 * (x : Int) + ((t[i].toNat : Int) - 48)) := by show _ = _; rw [hx2]; omega
            have hi2 : Hid (p + (k + 1) = i + 1) := by show _ = _; omega
            replace hx := Lib.hid hx
            replace hx2 := Lib.hid hx2
            replace hi := Lib.hid hi
            clear hdi hdk
            go_wp2_with fail
            go_roundg (E - p - (k + 1))
            case measure => have := hi.out; omega
            case rel => exact ⟨k + 1, by have := hi2.out; omega, rfl, by rw [hvi.out], by rw [hi2.out]; go_num, hdk2, rfl⟩
          · exact absurd (hd i his) hdi
        · have hiE : i = E := by omega
          subst hiE
          have hkE : p + k = i := hi.symm
          have hd1 : Rd (wr.alloc (.cells #[.int .i64 (x : Int)] 3)) (wr.heap.size + 1) (some ⟨wr.heap.size, 0, none⟩) 1 [(x : Int)] := Rd.one wr (x : Int) wr.heap.size rfl
          have hown1 := hown.alloc (.cells #[.int .i64 (x : Int)] 3)
          have hxlt := hx0.lt
          have hval2 : Hid (valT (out ++ [(x : Int)]) (valTo t p) = valTo t t.size ∧ Rng 0 9999 (out ++ [(x : Int)])) := by
            obtain ⟨v1, v2⟩ := hval.out
            refine ⟨?_, v2.snoc (by omega)⟩
            rw [valT_snoc, ← v1]
            congr 1
            rcases hp0.out with e0 | e4
            · have e5 : valTo t i = x := by rw [hx, sg_zero, e0]; congr 1; omega
              rw [e5, e0]; simp [valTo]
            · have e5 : valTo t i = x + 10000 * valTo t p := by rw [hx, ← e4, sg_four, show k = 4 from by omega]
              rw [e5]; omega
          have hdg2 : Hid (∀ j, p ≤ j → j < t.size → dig t j) := fun j h3 h4 => by
            by_cases e6 : j < i
            · have := hdk.out (j - p) (by omega)
              rw [show p + (j - p) = j from by omega] at this
              exact this
            · exact hdg.out j (by omega) h4
          have hz2 : ((i : Int) - 4 = (p : Int) ∨ (p = 0 ∧ (i : Int) - 4 ≤ 0 ∧ -4 ≤ (i : Int) - 4)) := by have := hp0.out; omega
          have hlen0 : 4 * (out.length + 1) + p ≤ 1604 := by have := hp0.out; omega
          have q1 : IntKind.i64.wrap ((i : Int) - 4) = (i : Int) - 4 := IntWalk.i64_in _ (by omega)
          replace hz2 := Lib.hid hz2
          replace hx := Lib.hid hx
          replace hi := Lib.hid hi
          have hlen9 : out.length ≤ 401 := by omega
          have hpi : p < i := by have := hp0.out; omega
          go_wp2_with (at_builtin; refine wpList_append_rd _ rfl _ _ 22 rfl Try.underlying22 Try.info3 (w.heap.size + 1) _ out rfl hown1 _ _ _ _ [(x : Int)] rfl hd1 ?c1 ?c2 ?_)
          case c1 => (first | omega | (simp; omega))
          case c2 => (first | omega | (simp; omega))
          intro A' c' w2 hown2 hg
          have hrow : ∀ k, (Value.slice A out.length c).ownBlock = some k → w.heap.size + 1 ≤ k := fun k hk => (World.ownsRow.lt hown1 k hk).1
          have hb2 : Below w.heap.size w w2 := (Below.step hb (below_alloc1 wr (.cells #[.int .i64 (x : Int)] 3))).grown hg (by simp; omega) (fun k hk => by have := hrow k hk; omega)
          have hx2 : Box w2 w.heap.size 24 #[.bool false, .slice none 0 0] := (hx0.kept (below_alloc1 wr (.cells #[.int .i64 (x : Int)] 3))).grown hg (fun e => by have := hrow w.heap.size e.symm; omega)
          have hown3 : Hid (Own w2 (w.heap.size + 1) (.slice A' (out.length + 1) c') (out ++ [(x : Int)])) := hown2
          have hL3 : Hid (out.length + 1 = (out ++ [(x : Int)]).length) := by simp [Hid]
          have hlen3 : Hid (4 * (out ++ [(x : Int)]).length + p ≤ 1604) := by show _ ≤ _; rw [List.length_append, List.length_singleton]; exact hlen0
          clear hown2 hg hval hown hown1 hd1 hx0 hb hrow
          generalize out ++ [(x : Int)] = out2 at *
          go_wp2
          go_roundg (0 + p)
          case measure => omega
          case rel => exact ⟨p, (i : Int) - 4, A', c', out.length + 1, out2, by omega, rfl, by go_num, hz2.out, rfl, hL3, hown3.out, hlen3.out, hval2, hdg2, hb2, hx2⟩
    · obtain rfl : E = 0 := by omega
      have hz0 : z ≤ 0 := by omega
      have hz4 : -4 ≤ z := by omega
      clear hz
      obtain ⟨v1, v2⟩ := hval.out
      have ev : val out = (V : Int) := by rw [← hV]; exact v1
      have cm : Calls Try.prog 11 #[.bool true, .slice A out.length c] wr (GivesWhole wr nb D) := by
        have q := bgMake_any true A out.length c out wr (by omega) hown.cap hown.rd v2
        have e7 : num true out = Z := by unfold num; rw [ev]; exact hZ
        rw [e7] at q
        rw [hnb, hD]; exact q
      replace cm := Lib.hid cm
      replace cT := Lib.hid cT
      have hxl := hx0.lt
      clear ev v1 v2 hval hpos hnb hD hZ hV hd hown hdg
      go_wp2_with fail
      refine (cm.out).mono ?_
      rintro e w2 ⟨A', c', rfl, hown2, hb2⟩
      have hx2 := hx0.kept hb2
      have hb3 := Below.step hb hb2
      have hsz2 := hb2.size
      clear hb hb2 hx0
      have hA := below_alloc1 w2 (.cells #[.bool nb, .slice A' D.length c'] 24)
      have ho := Box.new w2 24 #[.bool nb, .slice A' D.length c']
      have hb4 := Below.step hb3 hA
      have hx4 := hx2.kept hA
      have hown4 := hown2.kept hA
      have hx2l := hx2.lt
      clear hA hb3 hx2 hown2
      go_wp2_with fail
      obtain ⟨go, ego⟩ : ∃ g, g = w2.heap.size := ⟨_, rfl⟩
      rw [← ego] at ho hx2l hsz2 ⊢
      replace ego := Lib.hid ego
      generalize w2.alloc (.cells #[.bool nb, .slice A' D.length c'] 24) = w3 at *
      refine (cT.out A' c' w3 hown4.rd).mono ?_
      rintro e w5 ⟨rfl, hb⟩
      have hb6 := Below.step hb4 hb
      have hx6 := hx4.kept hb
      have ho6 := ho.kept hb
      have hown6 := hown4.kept hb
      clear hb hb4 hx4 ho hown4
      obtain ⟨k0, k1⟩ := hx6.two
      have k2 := hx6.free 0
      have k3 := hx6.free 1
      have hsz6 := hx6.lt
      obtain ⟨k4, k5⟩ := ho6.two
      cases bb
      · obtain ⟨hne, rfl, rfl⟩ := hno rfl
        have e1 : (T.toList == s.toList) = false := by
          rw [beq_eq_false_iff_ne]
          intro e8
          exact hne (ba_injG e8)
        clear hyes hno
        go_wp2_with fail
        refine bodyPost_ret (v := .tuple #[.agg #[.bool false, .slice none 0 0], .bool false]) (by simp [results, Try.results4, go_sem, k0, k1]) rfl ⟨none, 0, rfl, World.ownsRow_nil _ _ _ _, ?_⟩
        exact (hb6.setCell (by simp) _).setCell (by simp) _
      · obtain ⟨rfl, rfl, rfl⟩ := hyes rfl
        clear hyes hno
        go_wp2_with fail
        refine bodyPost_ret (v := .tuple #[.agg #[.bool rn, .slice A' rs.length c'], .bool true]) (by simp [results, Try.results4, go_sem, k0, k1]) rfl ⟨A', c', rfl, ?_, ?_⟩
        · exact ((hown6.set_below (by simp; omega) _).set_below (by simp; omega) _).le (by omega)
        · exact (hb6.setCell (by simp) _).setCell (by simp) _

end Go.Proofs.Ytllbbfkgobhcgaa
