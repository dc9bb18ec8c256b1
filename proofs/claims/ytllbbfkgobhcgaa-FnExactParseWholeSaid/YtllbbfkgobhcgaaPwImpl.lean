/- The program's ParseWhole. -/
import Derived.Test.YtllbbfkgobhcgaaPwFill
import Derived.Test.YtllbbfkgobhcgaaPwIpd
import Derived.Lib.OthersKept
import Derived.Deep.LoopGhost
namespace Go.Proofs.Ytllbbfkgobhcgaa
open Go.RowKit Go.Joins

theorem Box.far {w : World} {g : Nat} {t : TypeId} {cs : Array Value} (h : Box w g t cs) {p : Addr} (hp : g ≠ p.block) (u : Value) : Box (w.setCell p u) g t cs := (Below.heap_setCell w p u g hp).trans h
theorem Own.set {w : World} {base g n c j : Nat} {xs : List Int} (h : Own w base (.slice (some ⟨g, 0, none⟩) n c) xs) (hl : xs.length = n) (d : Int) : Own (w.setCell ⟨g, j, none⟩ (.int .i64 d)) base (.slice (some ⟨g, 0, none⟩) n c) (xs.set j d) := by
  subst hl
  have h1 := (World.ownsRow.stored h j (.int .i64 d)).1
  unfold Own
  rw [List.length_set, List.map_set]
  exact h1
theorem Own.rd2 {w : World} {base g n c : Nat} {xs : List Int} (h : Own w base (.slice (some ⟨g, 0, none⟩) n c) xs) (hl : xs.length = n) (j : Nat) (hj : j < n) : w.cell? ⟨g, j, none⟩ = some (.int .i64 (xs[j]?.getD 0)) := by
  subst hl
  rw [World.ownsRow.cellAt h j (by omega), List.getElem?_map, List.getElem?_eq_getElem hj]
  simp
theorem Own.free2 {w : World} {base g n c : Nat} {xs : List Int} (h : Own w base (.slice (some ⟨g, 0, none⟩) n c) xs) (hl : xs.length = n) (j : Nat) : w.frozen? ⟨g, j, none⟩ = false := by
  subst hl
  exact World.ownsRow.frozenAt h j
theorem zeros_made (n : Nat) : (List.replicate n (0 : Int) ++ []).map (Value.int .i64) = (madeCells (Value.int .i64 0).cells (n * 1)).toList := by
  show _ = (madeCells #[Value.int .i64 0] (n * 1)).toList
  rw [toList_madeCells_one]
  simp
theorem Own.iter {w : World} {base : Nat} {v : Value} {xs : List Int} (h : Own w base v xs) {K : Nat} {t : ByteArray} {pos : Nat} (hk : w.heap[K]? = some (.stringIter t pos)) (p : Nat) : Own (w.iterAt K t p) base v xs := by
  refine ⟨h.1, ?_⟩
  rcases h.2 with h2 | ⟨g, cap, cur, hv, hg, hh, r⟩
  · exact .inl h2
  · exact .inr ⟨g, cap, cur, hv, hg, (Lib.iterAt_other w K g t p (fun e => by rw [e, hk] at hh; cases hh)).trans hh, r⟩
theorem Box.iter {w : World} {g : Nat} {ty : TypeId} {cs : Array Value} (h : Box w g ty cs) {K : Nat} {t : ByteArray} {pos : Nat} (hk : w.heap[K]? = some (.stringIter t pos)) (p : Nat) : Box (w.iterAt K t p) g ty cs :=
  (Lib.iterAt_other w K g t p (fun e => by unfold Box at h; rw [e, hk] at h; cases h)).trans h

theorem iterPos_of' {w : World} {k : Nat} {s : ByteArray} {p : Nat} (h : w.heap[k]? = some (.stringIter s p)) : w.iterPos k = p := by simp [World.iterPos, h]

set_option maxHeartbeats 4000000 in
set_option maxRecDepth 100000 in
theorem pwI_good (s t : ByteArray) (w : World) (ng : Bool) (hcut : ∀ W : World, Calls Try.prog 13 #[.string s, .string ⟨#[45]⟩] W fun e w' => e = .returned (.tuple #[.string t, .bool ng]) ∧ W = w') (h1 : 1 ≤ t.size) (h2 : t.size ≤ 1600) (hd : ∀ k, k < t.size → dig t k) (h48 : t[0].toNat ≠ 48) (Z : Int) (hZ : (if ng then -(valTo t t.size : Int) else (valTo t t.size : Int)) = Z) :
    Calls Try.prog 5 #[.string s] w (GivesWholeOk w (resNeg Z) (resDigs Z) (resOk Z)) := by
  obtain ⟨i0, hi, hi0, hi1, hi2⟩ := info_parts Try.info3
  have hz1 : (t.toList == [48]) = false := by
    rw [beq_eq_false_iff_ne, ByteArray.toList_eq]
    intro e
    have e2 : t.data.toList[0]? = some 48 := by rw [e]; rfl
    rw [Array.getElem?_toList, Array.getElem?_eq_getElem h1] at e2
    have e3 : t.data[0] = 48 := Option.some.inj e2
    have e4 : t[0] = t.data[0] := rfl
    exact h48 (by rw [e4, e3]; rfl)
  have cI := fun W => ipd_all t W h1 hd true (by rw [decide_eq_false h48]; rfl)
  replace cI := Lib.hid cI
  replace hcut := Lib.hid hcut
  replace hZ := Lib.hid hZ
  obtain ⟨M, hM⟩ : ∃ M, M = (t.size + 3) / 4 := ⟨_, rfl⟩
  have hst := St.start h1
  rw [← hM] at hst
  have hM1 : 1 ≤ M := by omega
  have hM2 : M ≤ 400 := by omega
  replace hst := Lib.hid hst
  replace hd := Lib.hid hd
  have qM : ((t.size : Int) + 4 - 1).tdiv 4 = (M : Int) := by rw [Int.tdiv_eq_ediv_of_nonneg (by omega)]; omega
  have qM2 : Hid (((t.size : Int) + 4 - 1) / 4 = (M : Int)) := by show _ = _; omega
  replace hM := Lib.hid hM
  have ha : ¬ 1600 < (t.size : Int) := by omega
  clear h48
  have hb0 := below_alloc1 w (.cells #[.bool false, .slice none 0 0] 24)
  have hx0 := Box.new w 24 #[.bool false, .slice none 0 0]
  go_enter Try.func5, Try.ntmps5
  go_wp2_with fail
  refine (hcut.out _).mono ?_
  rintro e w1 ⟨rfl, rfl⟩
  go_wp2_with fail
  refine (cI.out _).mono ?_
  rintro e w1 ⟨rfl, hb⟩
  have hb1 := Below.step hb0 hb
  have hx1 := hx0.kept hb
  have hx1l := hx1.lt
  clear hb hb0 hx0
  go_wp2_with (at_make; refine wpList_make_full _ rfl _ _ 22 rfl w1.heap.size 3 i0 (.int .i64 0) 1 Try.underlying22 hi hi0 hi1 .i64 .i64 _ _ M rfl rfl ?cL ?cC ?c1 ?c2 ?c3 ?_)
  case cL => first | exact qM2.out | exact qM | rfl
  case cC => first | exact qM2.out | exact qM | rfl
  case c1 => rw [hi2]; omega
  case c2 => unfold maxLen; omega
  case c3 => simp
  intro w2 hown1 hg1
  obtain ⟨R, eR⟩ : ∃ g, g = w1.heap.size := ⟨_, rfl⟩
  rw [← eR] at hown1 hx1l ⊢
  have h0 : Own w2 R (.slice (some ⟨R, 0, none⟩) M M) (List.replicate M 0 ++ []) := by
    unfold Own
    have hlz : (List.replicate M (0 : Int) ++ []).length = M := by simp
    rw [hlz, zeros_made]
    first | exact hown1 | (show World.ownsRow _ _ _ _ _ _ (madeCells #[Value.int .i64 0] (M * 1)).toList; rw [Nat.mul_one]; exact hown1)
  rw [List.append_nil] at h0
  have hbm : Below w1.heap.size w1 w2 := (Below.refl _ _).grown hg1 (by simp) (fun _ h => by cases h)
  have hb2 := Below.step hb1 hbm
  have hx2 := hx1.kept hbm
  have hR0 : w.heap.size ≤ R := by rw [eR]; exact hb1.size
  have hRl : R < w2.heap.size := (World.ownsRow.lt h0 R rfl).2
  clear hown1 hg1 hbm hb1 hx1 eR hi hi0 hi1 hi2
  go_wp2_with fail
  obtain ⟨K, eK⟩ : ∃ g, g = w2.heap.size := ⟨_, rfl⟩
  have hk0 : (w2.iter t 0).heap[K]? = some (.stringIter t 0) := by rw [eK]; exact heap_alloc_new w2 _
  have hbi : Below w2.heap.size w2 (w2.iter t 0) := below_alloc1 w2 (.stringIter t 0)
  have h03 : Own (w2.iter t 0) R (.slice (some ⟨R, 0, none⟩) M M) (List.replicate M 0) := h0.kept hbi
  have hx3 := hx2.kept hbi
  have hb3 := Below.step hb2 hbi
  rw [← eK] at hRl ⊢
  clear h0 hb2 hx2 hbi eK
  generalize w2.iter t 0 = w3 at *
  go_loopw [8] (fun _ wr => ∃ (k q : Nat) (L : List Int), k ≤ t.size ∧ Hid (St t k q L) ∧ Own wr R (.slice (some ⟨R, 0, none⟩) M M) L ∧ wr.heap[K]? = some (.stringIter t k) ∧ Box wr w.heap.size 24 #[.bool false, .slice none 0 0] ∧ Below w.heap.size w wr) (fun _ wr => t.size - wr.iterPos K)
  case atStart => exact ⟨0, _, _, by omega, hst, h03, hk0, hx3, hb3⟩
  case round =>
    clear h03 hk0 hx3 hb3 hst
    obtain ⟨k, q, L, hk, hst, hown, hkk, hx, hb⟩ := hrel
    have hLM : L.length = M := by rw [hM.out]; exact hst.out.1
    have hKl : K < wr.heap.size := (Array.getElem?_eq_some_iff.1 hkk).1
    by_cases hlt : k < t.size
    · obtain ⟨p, hp⟩ : ∃ p, p = (t.size - 1 - k) / 4 := ⟨_, rfl⟩
      obtain ⟨hpl, y0, y9, hst2⟩ := hst.out.at' hlt hd.out p hp
      have hpM : p < M := by omega
      obtain ⟨y, hy⟩ : ∃ y, y = L[p]?.getD 0 := ⟨_, rfl⟩
      have hdi := hd.out k hlt
      unfold dig at hdi
      rw [get_data hlt] at hdi
      obtain ⟨d1, d2⟩ := hdi
      have d3 : 48 ≤ (t[k].toNat : Int) := by omega
      have d4 : (t[k].toNat : Int) ≤ 57 := by omega
      have edg : (dg t k : Int) = (t[k].toNat : Int) - 48 := by unfold dg; rw [get_data hlt]; omega
      rw [← hy, edg] at y9 hst2
      rw [← hy] at y0
      have hnx : ∀ ty, (Instr.next (.pointer (some ⟨K, 0, none⟩)) true ty).run Try.prog wr = .ok (.tuple #[.bool true, .int .i64 k, .int .i32 t[k].toNat]) (wr.iterAt K t (k + 1)) := fun ty => Lib.run_next_ascii_at wr K t k ty hkk hlt (by omega)
      have hown3 := hown.iter hkk (k + 1)
      have hx3 := hx.iter hkk (k + 1)
      have hk3 := Lib.iterAt_heap wr K t k (k + 1) hkk
      have hb3 := Lib.below_iterAt hb (k := K) (by omega) t (k + 1)
      have hs3 := Lib.iterAt_size wr K t (k + 1)
      generalize wr.iterAt K t (k + 1) = w5 at *
      have hold : w5.cell? ⟨R, p, none⟩ = some (.int .i64 y) := by rw [hy]; exact hown3.rd2 hLM p hpM
      have hfr : w5.frozen? ⟨R, p, none⟩ = false := hown3.free2 hLM p
      have hown4 := hown3.set (j := p) hLM (10 * y + ((t[k].toNat : Int) - 48))
      have hx4 := hx3.far (p := ⟨R, p, none⟩) (by show w.heap.size ≠ R; omega) (.int .i64 (10 * y + ((t[k].toNat : Int) - 48)))
      have hb4 := hb3.setCell (p := ⟨R, p, none⟩) hR0 (.int .i64 (10 * y + ((t[k].toNat : Int) - 48)))
      have hk4 : (w5.setCell ⟨R, p, none⟩ (.int .i64 (10 * y + ((t[k].toNat : Int) - 48)))).heap[K]? = some (.stringIter t (k + 1)) := (Below.heap_setCell w5 ⟨R, p, none⟩ _ K (by show K ≠ R; omega)).trans hk3
      have qp : ((t.size : Int) - 1 - k).tdiv 4 = (p : Int) := by rw [Int.tdiv_eq_ediv_of_nonneg (by omega)]; omega
      have qp2 : ((t.size : Int) - 1 - k) / 4 = (p : Int) := by omega
      have q5 : IntKind.i32.wrap ((t[k].toNat : Int) - 48) = (t[k].toNat : Int) - 48 := by rw [IntKind.wrap_i32]; omega
      have hst3 : Hid (St t (k + 1) p (L.set p (10 * y + ((t[k].toNat : Int) - 48)))) := hst2
      have hkl : k + 1 ≤ t.size := by omega
      have hpos3 : w5.iterPos K = k + 1 := iterPos_of' hk3
      have hposr : wr.iterPos K = k := iterPos_of' hkk
      have hm3 : t.size - (w5.setCell ⟨R, p, none⟩ (.int .i64 (10 * y + ((t[k].toNat : Int) - 48)))).iterPos K < t.size - wr.iterPos K := by rw [iterPos_of' hk4, hposr]; omega
      replace hown4 := Lib.hid hown4
      replace hy := Lib.hid hy
      replace hp := Lib.hid hp
      replace hm3 := Lib.hid hm3
      clear hown hown3 hst hst2 hkk hx hb hk3 hx3 hb3 hpos3 hposr edg hpl hLM
      go_wp2_with fail
      go_roundw
      case rel => exact ⟨k + 1, p, _, hkl, hst3, hown4.out, hk4, hx4, hb4⟩
      case measure => exact hm3.out
    · obtain rfl : k = t.size := by omega
      have hnx : ∀ ty, (Instr.next (.pointer (some ⟨K, 0, none⟩)) true ty).run Try.prog wr = _ := fun ty => Lib.run_next_end_at wr K t t.size ty hkk hlt
      have hval := hst.out.done
      have hr := hst.out.2.2.2.2.2.2.2
      have ez : num ng L = Z := by unfold num; rw [hval]; exact hZ.out
      have hown' : Own wr R (.slice (some ⟨R, 0, none⟩) L.length M) L := by rw [hLM]; exact hown
      have cm := wholeWith_any ng (some ⟨R, 0, none⟩) M R L wr (by omega) hown' hr
      rw [ez, hLM] at cm
      replace cm := Lib.hid cm
      clear hval hr ez hown' hst hown hd hcut
      go_wp2_with fail
      refine (cm.out).mono ?_
      rintro e w6 ⟨A', c', rfl, hown6, hb6⟩
      have hx6 := hx.kept hb6
      have hb7 := Below.step hb hb6
      obtain ⟨k0, k1⟩ := hx6.two
      have k2 := hx6.free 0
      have k3 := hx6.free 1
      have hsz := hx6.lt
      clear hb hb6 hx hx6
      go_wp2_with fail
      refine bodyPost_ret (v := .tuple #[.agg #[.bool (resNeg Z), .slice A' (resDigs Z).length c'], .bool (resOk Z)]) (by simp [results, Try.results5, go_sem, k0, k1]) rfl ⟨A', c', rfl, ?_, ?_⟩
      · exact ((hown6.set_below (by show w.heap.size < R; omega) _).set_below (by show w.heap.size < R; omega) _).le hR0
      · exact (hb7.setCell (by simp) _).setCell (by simp) _
end Go.Proofs.Ytllbbfkgobhcgaa
