/- Numerals are read as what they are the text of. -/
import Derived.Test.YtchglkcfolannabDoorTxSigned
import Derived.Test.YtchglkcfolannabDoorTxSplit
namespace Go.Proofs.YtchglkcfolannabDoor
open Go.RowKit Go.Joins

/-- The value of a list of digits. -/
def valL (l : List UInt8) : Nat := l.foldl (fun a c => 10 * a + (c.toNat - 48)) 0
theorem valL_snoc (l : List UInt8) (c : UInt8) : valL (l ++ [c]) = 10 * valL l + (c.toNat - 48) := by unfold valL; rw [List.foldl_append]; rfl
theorem valTo_take (s : ByteArray) : ∀ i : Nat, i ≤ s.size → valTo s i = valL (s.data.toList.take i)
  | 0, _ => rfl
  | i + 1, h => by
    have hl : i < s.data.toList.length := by rw [Array.length_toList]; exact h
    rw [valTo, valTo_take s i (by omega), List.take_succ_eq_append_getElem hl, valL_snoc]
    have e : s.data[i]?.getD 0 = s.data.toList[i] := by
      rw [Array.getElem?_eq_getElem h]; rfl
    rw [e]
theorem valTo_all (s : ByteArray) : valTo s s.size = valL s.data.toList := by
  rw [valTo_take s s.size (Nat.le_refl _), List.take_of_length_le (by rw [Array.length_toList]; exact Nat.le_refl _)]

theorem ofNat_toNat {k : Nat} (h : k < 10) : (UInt8.ofNat (48 + k)).toNat = 48 + k := by
  rw [UInt8.toNat_ofNat']; omega
theorem dec_val (n : Nat) : valL (Lib.decDigits n) = n := by
  induction n using Nat.strongRecOn with
  | _ n ih =>
    by_cases h : n < 10
    · rw [Lib.decDigits_one h]
      show 10 * 0 + _ = n
      rw [ofNat_toNat h]; omega
    · rw [Lib.decDigits, dif_neg h, valL_snoc, ih (n / 10) (by omega), ofNat_toNat (by omega)]; omega
theorem dec_dig (n : Nat) : ∀ c ∈ Lib.decDigits n, 48 ≤ c.toNat ∧ c.toNat ≤ 57 := by
  induction n using Nat.strongRecOn with
  | _ n ih =>
    by_cases h : n < 10
    · rw [Lib.decDigits_one h]
      intro c hc
      obtain rfl := List.mem_singleton.1 hc
      rw [ofNat_toNat h]; omega
    · rw [Lib.decDigits, dif_neg h]
      intro c hc
      rcases List.mem_append.1 hc with hc | hc
      · exact ih (n / 10) (by omega) c hc
      · obtain rfl := List.mem_singleton.1 hc
        rw [ofNat_toNat (by omega)]; omega
theorem dec_head (n : Nat) (h0 : 1 ≤ n) : ∃ c l, Lib.decDigits n = c :: l ∧ c.toNat ≠ 48 := by
  induction n using Nat.strongRecOn with
  | _ n ih =>
    by_cases h : n < 10
    · exact ⟨_, _, Lib.decDigits_one h, by rw [ofNat_toNat h]; omega⟩
    · obtain ⟨c, l, e, hc⟩ := ih (n / 10) (by omega) (by omega)
      exact ⟨c, l ++ [UInt8.ofNat (48 + n % 10)], by rw [Lib.decDigits, dif_neg h, e]; rfl, hc⟩
theorem nd_le : ∀ (k u : Nat), 1 ≤ k → u < 10 ^ k → Lib.nDigits u ≤ k
  | 0, _, h, _ => by omega
  | k + 1, u, _, h => by
    by_cases h1 : u < 10
    · rw [Lib.nDigits_small h1]; omega
    · rw [Lib.nDigits, dif_neg h1]
      have hk : 1 ≤ k := by
        rcases Nat.eq_zero_or_pos k with e | e
        · subst e; omega
        · exact e
      have := nd_le k (u / 10) hk (by rw [Nat.pow_succ] at h; omega)
      omega
theorem numB_data (n : Nat) : (numB n).data.toList = Lib.decDigits n := rfl
theorem numB_len (n : Nat) : (numB n).size = (Lib.decDigits n).length := by show (Lib.decDigits n).toArray.size = _; simp
theorem numB_pos (n : Nat) : 1 ≤ (numB n).size := by rw [numB_len, Lib.decDigits_length]; exact Lib.nDigits_pos n
theorem numB_ten (n : Nat) (h : n ≤ 9999999999) : (numB n).size ≤ 10 := by rw [numB_len, Lib.decDigits_length]; exact nd_le 10 n (by omega) (by omega)
theorem numB_val (n : Nat) : valTo (numB n) (numB n).size = n := by rw [valTo_all, numB_data, dec_val]
theorem numB_dig (n : Nat) (k : Nat) (h : k < (numB n).size) : dig (numB n) k := by
  unfold dig
  rw [get_data h]
  have hm : (numB n)[k] ∈ (numB n).data.toList := Array.mem_toList_iff.2 (Array.getElem_mem (xs := (numB n).data) h)
  exact dec_dig n _ hm
theorem numB_first (n : Nat) : ((numB n)[0]'(numB_pos n)).toNat ≠ 48 ∨ (numB n).size = 1 := by
  rcases Nat.eq_zero_or_pos n with h | h
  · subst h; exact .inr (by rw [numB_len, Lib.decDigits_one (by omega)]; rfl)
  · obtain ⟨c, l, e, hc⟩ := dec_head n h
    refine .inl ?_
    have e2 : (numB n).data.toList = c :: l := by rw [numB_data, e]
    have e3 : (numB n)[0]'(numB_pos n) = c := by
      show (numB n).data[0]'_ = c
      rw [← Array.getElem_toList]
      simp [e2]
    rw [e3]; exact hc

/-- The model reads a numeral. -/
theorem frRead_num (n : Nat) (h : n ≤ 9999999999) (w : World) :
    Calls Tryd.prog 64 #[.string (numB n)] w fun e w' => e = .returned (.int .i64 (n : Int)) ∧ w = w' := by
  have c := frRead_good (numB n) (numB_pos n) (numB_ten n h) (numB_first n) (numB_dig n) w
  rw [numB_val] at c
  exact c

/-- The program reads digits. -/
theorem rdN_dig (t : ByteArray) (h : t.size ≤ 10) (hd : ∀ k, k < t.size → dig t k) : ∀ (b i : Nat), i + b = t.size → rdN t b i (valTo t i : Int) = (valTo t t.size : Int)
  | 0, i, e => by rw [rdN, show i = t.size from by omega]
  | b + 1, i, e => by
    have hi : i < t.size := by omega
    have h1 := hd i hi
    unfold dig at h1
    rw [get_data hi] at h1
    rw [rdN, if_pos hi, decode_ascii t i hi (by omega)]
    have hs : rdStep (valTo t i : Int) t[i].toNat = (valTo t (i + 1) : Int) := by
      have hb := valTo_le (s := t) (i := i + 1) (by omega) (fun k hk => hd k (by omega))
      rw [valTo, get_data hi] at hb ⊢
      unfold rdStep wrap64
      omega
    rw [hs]
    exact rdN_dig t h hd b (i + 1) (by omega)
theorem rdN_num (n : Nat) (h : n ≤ 9999999999) : rdN (numB n) (numB n).size 0 0 = (n : Int) := by
  have := rdN_dig (numB n) (numB_ten n h) (numB_dig n) (numB n).size 0 (by omega)
  rw [numB_val] at this
  exact this

theorem pre_num (n : Nat) : Lib.hasPrefix (Lib.decDigits n) [45] = false := by
  have h := dec_dig n
  unfold Lib.hasPrefix
  rcases hd : Lib.decDigits n with _ | ⟨c, l⟩
  · rfl
  · have hc := h c (by rw [hd]; simp)
    show ([45] : List UInt8).isPrefixOf (c :: l) = false
    rw [List.isPrefixOf_cons_cons]
    have : ((45 : UInt8) == c) = false := by
      rw [beq_eq_false_iff_ne]; rintro rfl; simp at hc
    rw [this]; rfl

/-- The program reads the text of an integer. -/
theorem readSigned_int (z : Int) (h0 : -9999999999 ≤ z) (h1 : z ≤ 9999999999) (w : World) :
    Calls Tryd.prog 50 #[.string (intB z)] w fun e w' => e = .returned (.int .i64 z) ∧ Below w.heap.size w w' := by
  by_cases h : z < 0
  · have hd : (intB z).data.toList = 45 :: Lib.decDigits z.natAbs := by unfold intB Lib.itoa; rw [if_pos h]
    have hp : Lib.hasPrefix (intB z).data.toList [45] = true := by rw [hd]; rfl
    refine readSigned_go (intB z) (numB z.natAbs) true (z.natAbs : Int) z w ?_ hp.symm (rdN_num z.natAbs (by omega)) (by rw [if_pos rfl]; unfold wrap64; omega)
    unfold Lib.trimPrefix
    rw [if_pos hp, hd]
    rfl
  · have hd : (intB z).data.toList = Lib.decDigits z.toNat := by unfold intB Lib.itoa; rw [if_neg h]
    have hp : Lib.hasPrefix (intB z).data.toList [45] = false := by rw [hd]; exact pre_num _
    refine readSigned_go (intB z) (numB z.toNat) false (z.toNat : Int) z w ?_ hp.symm (rdN_num z.toNat (by omega)) (by rw [if_neg (by decide)]; omega)
    unfold Lib.trimPrefix
    rw [hp, hd]
    rfl
end Go.Proofs.YtchglkcfolannabDoor
