/- Texts cut at a slash, and split there; what the program's Cut hands back. -/
import Derived.Test.YtchglkcfolannabDoorTxDig
import Derived.Test.YtchglkcfolannabDoorTxText
namespace Go.Proofs.YtchglkcfolannabDoor
open Go.RowKit Go.Joins

/-- No byte is a slash. -/
def NoSl (s : ByteArray) : Prop := ∀ c ∈ s.data.toList, c ≠ 47
theorem noSl_num (n : Nat) : NoSl (numB n) := fun c hc e => by
  have := dec_dig n c hc
  subst e
  simp at this
theorem noSl_int (z : Int) : NoSl (intB z) := by
  intro c hc
  by_cases h : z < 0
  · have hd : (intB z).data.toList = 45 :: Lib.decDigits z.natAbs := by unfold intB Lib.itoa; rw [if_pos h]
    rw [hd] at hc
    rcases List.mem_cons.1 hc with rfl | hc
    · decide
    · exact noSl_num _ c hc
  · rw [intB_pos (by omega)] at hc
    exact noSl_num _ c hc

theorem index_no : ∀ l : List UInt8, (∀ c ∈ l, c ≠ 47) → Lib.index l [47] = -1
  | [], _ => rfl
  | x :: l, h => by
    have hx : ((47 : UInt8) == x) = false := by rw [beq_eq_false_iff_ne]; exact fun e => h x (by simp) e.symm
    have ih := index_no l (fun c hc => h c (by simp [hc]))
    unfold Lib.index
    rw [List.isPrefixOf_cons_cons, hx, ih]
    rfl
theorem index_at : ∀ (l r : List UInt8), (∀ c ∈ l, c ≠ 47) → Lib.index (l ++ 47 :: r) [47] = (l.length : Int)
  | [], r, _ => by
    show Lib.index (47 :: r) [47] = 0
    unfold Lib.index
    simp
  | x :: l, r, h => by
    have hx : ((47 : UInt8) == x) = false := by rw [beq_eq_false_iff_ne]; exact fun e => h x (by simp) e.symm
    have ih := index_at l r (fun c hc => h c (by simp [hc]))
    show Lib.index (x :: (l ++ 47 :: r)) [47] = _
    unfold Lib.index
    rw [List.isPrefixOf_cons_cons, hx, ih]
    have : (((l.length : Int)) == -1) = false := by rw [beq_eq_false_iff_ne]; omega
    simp [this]
theorem cut_no (s : ByteArray) (h : NoSl s) : Lib.cut s.data.toList [47] = (s.data.toList, [], false) := by
  unfold Lib.cut
  rw [index_no _ h, if_neg (by omega)]
theorem cut_at (a b : ByteArray) (h : NoSl a) : Lib.cut (a ++ (⟨#[47]⟩ : ByteArray) ++ b).data.toList [47] = (a.data.toList, b.data.toList, true) := by
  have e : (a ++ (⟨#[47]⟩ : ByteArray) ++ b).data.toList = a.data.toList ++ 47 :: b.data.toList := by simp
  rw [e]
  unfold Lib.cut
  rw [index_at _ _ h, if_pos (by omega)]
  have e2 : a.data.toList ++ 47 :: b.data.toList = (a.data.toList ++ [47]) ++ b.data.toList := by simp
  refine Prod.ext ?_ (Prod.ext ?_ rfl)
  · simp
  · show List.drop ((a.data.toList.length : Int).toNat + 1) _ = _
    rw [e2, Int.toNat_natCast]
    exact List.drop_left' (by simp)

theorem splitTo_none (s : ByteArray) (sep : UInt8) : ∀ i : Nat, (∀ k, k < i → s.data[k]? ≠ some sep) → splitTo s sep i = ([], 0)
  | 0, _ => rfl
  | i + 1, h => by rw [splitTo, if_neg (h i (by omega))]; exact splitTo_none s sep i (fun k hk => h k (by omega))
theorem extract_all (s : ByteArray) : s.extract 0 s.size = s := by
  apply ByteArray.ext
  simp
theorem noSl_at {s : ByteArray} (h : NoSl s) (k : Nat) : s.data[k]? ≠ some 47 := by
  intro e
  have := Array.mem_of_getElem? e
  exact h 47 (Array.mem_toList_iff.2 this) rfl
theorem split_no (s : ByteArray) (h : NoSl s) : splitAll s 47 = [s] := by
  unfold splitAll
  rw [splitTo_none s 47 s.size (fun k _ => noSl_at h k)]
  show [] ++ [s.extract 0 s.size] = _
  rw [extract_all]; rfl
theorem app_get (a b : ByteArray) (k : Nat) : (a ++ (⟨#[47]⟩ : ByteArray) ++ b).data[k]? = if k < a.size then a.data[k]? else if k = a.size then some 47 else b.data[k - a.size - 1]? := by
  have e : (a ++ (⟨#[47]⟩ : ByteArray) ++ b).data = a.data ++ (#[47] ++ b.data) := by simp [ByteArray.data_append]
  rw [e]
  split
  · rename_i h
    rw [Array.getElem?_append_left h]
  · rename_i h
    rw [Array.getElem?_append_right (by simpa using h)]
    split
    · rename_i h2
      subst h2
      have h4 : a.data.size = a.size := rfl
      rw [h4, Nat.sub_self, Array.getElem?_append_left (by simp)]
      rfl
    · rename_i h2
      have h3 : k - a.size = (k - a.size - 1) + 1 := by omega
      have h4 : a.data.size = a.size := rfl
      rw [h4, Array.getElem?_append_right (by simp; omega)]
      simp
theorem app_size (a b : ByteArray) : (a ++ (⟨#[47]⟩ : ByteArray) ++ b).size = a.size + 1 + b.size := by
  rw [ByteArray.size_append, ByteArray.size_append]; rfl
theorem split_at_ (a b : ByteArray) (ha : NoSl a) (hb : NoSl b) : splitAll (a ++ (⟨#[47]⟩ : ByteArray) ++ b) 47 = [a, b] := by
  obtain ⟨s, hs⟩ : ∃ s, s = a ++ (⟨#[47]⟩ : ByteArray) ++ b := ⟨_, rfl⟩
  have hg := app_get a b
  have hz := app_size a b
  rw [← hs] at hg hz ⊢
  have h1 : splitTo s 47 a.size = ([], 0) := splitTo_none s 47 a.size (fun k hk => by rw [hg, if_pos hk]; exact noSl_at ha k)
  have h2 : splitTo s 47 (a.size + 1) = ([s.extract 0 a.size], a.size + 1) := by
    rw [splitTo, if_pos (by rw [hg, if_neg (by omega), if_pos rfl]), h1]; rfl
  have h3 : ∀ j : Nat, splitTo s 47 (a.size + 1 + j) = ([s.extract 0 a.size], a.size + 1) := by
    intro j
    induction j with
    | zero => exact h2
    | succ j ih =>
      show splitTo s 47 ((a.size + 1 + j) + 1) = _
      rw [splitTo, if_neg (by rw [hg, if_neg (by omega), if_neg (by omega)]; exact noSl_at hb _), ih]
  unfold splitAll
  rw [hz, h3 b.size]
  show [s.extract 0 a.size] ++ [s.extract (a.size + 1) (a.size + 1 + b.size)] = _
  have e1 : s.extract 0 a.size = a := by
    rw [hs]
    apply ByteArray.ext
    simp [ByteArray.data_append]
  have e2 : s.extract (a.size + 1) (a.size + 1 + b.size) = b := by
    apply ByteArray.ext
    apply Array.toList_inj.1
    have e3 : s.data.toList = (a.data.toList ++ [47]) ++ b.data.toList := by rw [hs]; simp
    rw [ByteArray.data_extract, Array.toList_extract, e3]
    unfold List.extract
    rw [List.drop_left' (by simp), List.take_of_length_le (by show b.data.toList.length ≤ _; rw [Array.length_toList]; show b.size ≤ _; omega)]
  rw [e1, e2]; rfl
end Go.Proofs.YtchglkcfolannabDoor
