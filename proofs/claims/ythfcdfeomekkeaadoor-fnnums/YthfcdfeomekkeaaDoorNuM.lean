/-
  Numbers and texts put and got: what FnNums reads comes back, and what ends too early is short. Bytes alone. No condition.
-/
import Derived.Test.YthfcdfeomekkeaaDoorGetText
import Derived.Test.YthfcdfeomekkeaaDoorNumAt
import Derived.Test.YthfcdfeomekkeaaDoorPutTxt
namespace Go.Proofs.YthfcdfeomekkeaaDoor
open Go.ChangeShapes Go.WideShapes Go.ChangeAt Go.RowKit
set_option linter.unusedVariables false
namespace NuR
open GetR NumsR
open NumR (numB digs foldN)
theorem ext_mid (a b c : ByteArray) : (a ++ b ++ c).extract a.size (a.size + b.size) = b := by
  apply ByteArray.ext
  rw [ByteArray.data_extract, ByteArray.data_append, ByteArray.data_append]
  have h1 : a.size = a.data.size := rfl
  have h2 : b.size = b.data.size := rfl
  rw [h1, h2]
  apply Array.toList_inj.1
  have l1 : a.data.toList.length ≤ a.data.size := Nat.le_of_eq Array.length_toList
  have l2 : b.data.toList.length ≤ b.data.size := Nat.le_of_eq Array.length_toList
  simp
  have k1 : List.drop a.size a.data.toList = [] := List.drop_of_length_le l1
  have k2 : List.take b.size b.data.toList = b.data.toList := List.take_of_length_le l2
  rw [k1, k2, List.take_nil, List.nil_append]
theorem rd_of {s : ByteArray} {p : Nat} {n : Int} {q : Nat} (h : numAt s p = some (n, q)) : ∃ u c, rd s p 10 0 0 = (0, u, c) ∧ unz u = n ∧ p + c = q := by
  unfold numAt at h
  split at h
  · rename_i h0
    simp only [Option.some.injEq, Prod.mk.injEq] at h
    exact ⟨(rd s p 10 0 0).2.1, (rd s p 10 0 0).2.2, Prod.ext h0 rfl, h.1, h.2⟩
  · cases h
/-- The number's bytes ahead of what follows, behind what stands ahead. -/
theorem num_mid {a c : ByteArray} {n : Int} (hn : I64 n) : ∃ u k, rd (a ++ numB n ++ c) a.size 10 0 0 = (0, u, k) ∧ unz u = n ∧ a.size + k = a.size + (numB n).size := by
  refine rd_of (numAt_put hn ?_ (ext_mid a (numB n) c))
  simp only [ByteArray.size_append]
  omega
theorem numB_pos (n : Int) : 1 ≤ (numB n).size := by rw [numB_len]; exact digs_pos _
theorem str_take (l : List Int) (k : Nat) (hk : k ≤ l.length) : (strOfNums l).extract 0 k = strOfNums (l.take k) := by
  apply ByteArray.ext
  rw [ByteArray.data_extract]
  apply Array.toList_inj.1
  simp [strOfNums, List.map_take]
theorem cut_num {n : Int} (hn : I64 n) : rd ((numB n).extract 0 ((numB n).size - 1)) 0 10 0 0 = (4, 0, 0) := by
  have hz := NumR.numB_size hn
  have hb := NumR.fold_bd hn
  rw [numB_len] at hz ⊢
  obtain ⟨v, hv⟩ : ∃ v, v = (foldN n).toNat := ⟨_, rfl⟩
  have e : numB n = strOfNums (digs v) := by rw [hv]; rfl
  rw [e, ← hv, str_take _ _ (by omega)]
  rw [← hv] at hz
  have hp := digs_pos v
  have hl : ((digs v).take ((digs v).length - 1)).length = (digs v).length - 1 := by rw [List.length_take]; omega
  have hs : (strOfNums ((digs v).take ((digs v).length - 1))).size = (digs v).length - 1 := by rw [strOfNums_size, hl]
  refine rd_cut _ 0 10 v 0 0 ?_ ?_ hz rfl (by simp; omega)
  · refine at_of _ (0 + 0) _ (fun x hx => digs_bd v x (List.mem_of_mem_take hx)) (by rw [hl, hs]; omega) ?_
    rw [hl, show 0 + 0 + ((digs v).length - 1) = (strOfNums ((digs v).take ((digs v).length - 1))).size by rw [hs]; omega]
    apply ByteArray.ext
    rw [ByteArray.data_extract]
    exact Array.extract_size
  · rw [hs]; omega
theorem ext_end (a b : ByteArray) : (a ++ b).extract a.size (a.size + b.size) = b := by
  have h := ext_mid a b ⟨#[]⟩
  have e : a ++ b ++ ⟨#[]⟩ = a ++ b := by apply ByteArray.ext; simp
  rw [e] at h
  exact h
theorem ext_head (a b : ByteArray) (L : Nat) (hL : a.size ≤ L) : ((a ++ b).extract 0 L).extract 0 a.size = a := by
  apply ByteArray.ext
  rw [ByteArray.data_extract, ByteArray.data_extract, ByteArray.data_append]
  have h1 : a.size = a.data.size := rfl
  rw [h1] at hL ⊢
  apply Array.toList_inj.1
  have l1 : a.data.toList.length ≤ a.data.size := Nat.le_of_eq Array.length_toList
  have l2 : a.data.size ≤ a.data.toList.length := Nat.le_of_eq Array.length_toList.symm
  simp
  have k1 : min a.size L = a.size := Nat.min_eq_left hL
  rw [k1]
  have k2 : List.take a.size a.data.toList = a.data.toList := List.take_of_length_le l1
  rw [k2]
  simp
  exact .inl (.inl (by rw [h1]; omega))
/-- A text's bytes without the last one: the number still reads, and more is asked for than there is. -/
theorem txt_cut {t : ByteArray} (h : 0 < t.size) (ht : t.size ≤ 8000) (L : Nat) (hL : (numB (t.size : Int) ++ t).size = L + 1) : ∃ u k, rd ((numB (t.size : Int) ++ t).extract 0 L) 0 10 0 0 = (0, u, k) ∧ unz u = (t.size : Int) ∧ 0 + k = 0 + (numB (t.size : Int)).size := by
  rw [ByteArray.size_append] at hL
  have hn : I64 (t.size : Int) := ⟨by omega, by omega⟩
  refine rd_of (numAt_put hn ?_ ?_)
  · rw [ByteArray.size_extract, ByteArray.size_append]
    omega
  · rw [Nat.zero_add]
    exact ext_head _ _ _ (by omega)
end NuR
end Go.Proofs.YthfcdfeomekkeaaDoor
