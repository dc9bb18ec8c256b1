/- Texts cut at a slash, and split there; what the program's Cut hands back. -/
import Derived.Test.YtokhadhfjbecmaaDoorTxDig
import Derived.Test.YtokhadhfjbecmaaDoorTxText
namespace Go.Proofs.YtokhadhfjbecmaaDoor
open Go.RowKit Go.Joins

/-- No byte is a slash. -/
def NoSlC (s : ByteArray) : Prop := ∀ c ∈ s.data.toList, c ≠ 44
theorem noSl_numC (n : Nat) : NoSlC (numB n) := fun c hc e => by
  have := dec_dig n c hc
  subst e
  simp at this
theorem noSl_intC (z : Int) : NoSlC (intB z) := by
  intro c hc
  by_cases h : z < 0
  · have hd : (intB z).data.toList = 45 :: Lib.decDigits z.natAbs := by unfold intB Lib.itoa; rw [if_pos h]
    rw [hd] at hc
    rcases List.mem_cons.1 hc with rfl | hc
    · decide
    · exact noSl_numC _ c hc
  · rw [intB_pos (by omega)] at hc
    exact noSl_numC _ c hc

theorem index_noC : ∀ l : List UInt8, (∀ c ∈ l, c ≠ 44) → Lib.index l [44] = -1
  | [], _ => rfl
  | x :: l, h => by
    have hx : ((44 : UInt8) == x) = false := by rw [beq_eq_false_iff_ne]; exact fun e => h x (by simp) e.symm
    have ih := index_noC l (fun c hc => h c (by simp [hc]))
    unfold Lib.index
    rw [List.isPrefixOf_cons_cons, hx, ih]
    rfl
theorem index_atC : ∀ (l r : List UInt8), (∀ c ∈ l, c ≠ 44) → Lib.index (l ++ 44 :: r) [44] = (l.length : Int)
  | [], r, _ => by
    show Lib.index (44 :: r) [44] = 0
    unfold Lib.index
    simp
  | x :: l, r, h => by
    have hx : ((44 : UInt8) == x) = false := by rw [beq_eq_false_iff_ne]; exact fun e => h x (by simp) e.symm
    have ih := index_atC l r (fun c hc => h c (by simp [hc]))
    show Lib.index (x :: (l ++ 44 :: r)) [44] = _
    unfold Lib.index
    rw [List.isPrefixOf_cons_cons, hx, ih]
    have : (((l.length : Int)) == -1) = false := by rw [beq_eq_false_iff_ne]; omega
    simp [this]
theorem cut_noC (s : ByteArray) (h : NoSlC s) : Lib.cut s.data.toList [44] = (s.data.toList, [], false) := by
  unfold Lib.cut
  rw [index_noC _ h, if_neg (by omega)]
theorem cut_atC (a b : ByteArray) (h : NoSlC a) : Lib.cut (a ++ (⟨#[44]⟩ : ByteArray) ++ b).data.toList [44] = (a.data.toList, b.data.toList, true) := by
  have e : (a ++ (⟨#[44]⟩ : ByteArray) ++ b).data.toList = a.data.toList ++ 44 :: b.data.toList := by simp
  rw [e]
  unfold Lib.cut
  rw [index_atC _ _ h, if_pos (by omega)]
  have e2 : a.data.toList ++ 44 :: b.data.toList = (a.data.toList ++ [44]) ++ b.data.toList := by simp
  refine Prod.ext ?_ (Prod.ext ?_ rfl)
  · simp
  · show List.drop ((a.data.toList.length : Int).toNat + 1) _ = _
    rw [e2, Int.toNat_natCast]
    exact List.drop_left' (by simp)

theorem splitTo_noneC (s : ByteArray) (sep : UInt8) : ∀ i : Nat, (∀ k, k < i → s.data[k]? ≠ some sep) → splitTo s sep i = ([], 0)
  | 0, _ => rfl
  | i + 1, h => by rw [splitTo, if_neg (h i (by omega))]; exact splitTo_noneC s sep i (fun k hk => h k (by omega))
theorem extract_allC (s : ByteArray) : s.extract 0 s.size = s := by
  apply ByteArray.ext
  simp
theorem noSl_atC {s : ByteArray} (h : NoSlC s) (k : Nat) : s.data[k]? ≠ some 44 := by
  intro e
  have := Array.mem_of_getElem? e
  exact h 44 (Array.mem_toList_iff.2 this) rfl
theorem split_noC (s : ByteArray) (h : NoSlC s) : splitAll s 44 = [s] := by
  unfold splitAll
  rw [splitTo_noneC s 44 s.size (fun k _ => noSl_atC h k)]
  show [] ++ [s.extract 0 s.size] = _
  rw [extract_allC]; rfl
theorem app_getC (a b : ByteArray) (k : Nat) : (a ++ (⟨#[44]⟩ : ByteArray) ++ b).data[k]? = if k < a.size then a.data[k]? else if k = a.size then some 44 else b.data[k - a.size - 1]? := by
  have e : (a ++ (⟨#[44]⟩ : ByteArray) ++ b).data = a.data ++ (#[44] ++ b.data) := by simp [ByteArray.data_append]
  rw [e]
  split
  · rename_i h
    rw [Array.getElem?_append_left h]
  · rename_i h
    rw [Array.getElem?_append_right (by simpa using h)]
    split
    · rename_i h2
      subst h2
      have h4 : a.data.size = a.size := rfl
      rw [h4, Nat.sub_self, Array.getElem?_append_left (by simp)]
      rfl
    · rename_i h2
      have h3 : k - a.size = (k - a.size - 1) + 1 := by omega
      have h4 : a.data.size = a.size := rfl
      rw [h4, Array.getElem?_append_right (by simp; omega)]
      simp
theorem app_sizeC (a b : ByteArray) : (a ++ (⟨#[44]⟩ : ByteArray) ++ b).size = a.size + 1 + b.size := by
  rw [ByteArray.size_append, ByteArray.size_append]; rfl
theorem split_at_C (a b : ByteArray) (ha : NoSlC a) (hb : NoSlC b) : splitAll (a ++ (⟨#[44]⟩ : ByteArray) ++ b) 44 = [a, b] := by
  obtain ⟨s, hs⟩ : ∃ s, s = a ++ (⟨#[44]⟩ : ByteArray) ++ b := ⟨_, rfl⟩
  have hg := app_getC a b
  have hz := app_sizeC a b
  rw [← hs] at hg hz ⊢
  have h1 : splitTo s 44 a.size = ([], 0) := splitTo_noneC s 44 a.size (fun k hk => by rw [hg, if_pos hk]; exact noSl_atC ha k)
  have h2 : splitTo s 44 (a.size + 1) = ([s.extract 0 a.size], a.size + 1) := by
    rw [splitTo, if_pos (by rw [hg, if_neg (by omega), if_pos rfl]), h1]; rfl
  have h3 : ∀ j : Nat, splitTo s 44 (a.size + 1 + j) = ([s.extract 0 a.size], a.size + 1) := by
    intro j
    induction j with
    | zero => exact h2
    | succ j ih =>
      show splitTo s 44 ((a.size + 1 + j) + 1) = _
      rw [splitTo, if_neg (by rw [hg, if_neg (by omega), if_neg (by omega)]; exact noSl_atC hb _), ih]
  unfold splitAll
  rw [hz, h3 b.size]
  show [s.extract 0 a.size] ++ [s.extract (a.size + 1) (a.size + 1 + b.size)] = _
  have e1 : s.extract 0 a.size = a := by
    rw [hs]
    apply ByteArray.ext
    simp [ByteArray.data_append]
  have e2 : s.extract (a.size + 1) (a.size + 1 + b.size) = b := by
    apply ByteArray.ext
    apply Array.toList_inj.1
    have e3 : s.data.toList = (a.data.toList ++ [44]) ++ b.data.toList := by rw [hs]; simp
    rw [ByteArray.data_extract, Array.toList_extract, e3]
    unfold List.extract
    rw [List.drop_left' (by simp), List.take_of_length_le (by show b.data.toList.length ≤ _; rw [Array.length_toList]; show b.size ≤ _; omega)]
  rw [e1, e2]; rfl
end Go.Proofs.YtokhadhfjbecmaaDoor
