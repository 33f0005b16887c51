/-
  What is got was put: a number that is read is spelled by just its bytes, and so is a text. Arithmetic and bytes alone. No condition.
-/
import Derived.Test.YthfcdfeomekkeaaDoorNumsMath
namespace Go.Proofs.YthfcdfeomekkeaaDoor
open Go.RowKit
set_option linter.unusedVariables false
namespace NumsR
open GetR NumR
theorem rd_back (s : ByteArray) (p : Nat) : ∀ (f i u U n : Nat), rd s p f i u = (0, U, n) → ∃ v : Nat, U = u + v * 2 ^ (7 * i) ∧ n = i + (digs v).length ∧ At s (p + i) (digs v) ∧ (0 < i → 0 < v)
  | 0, i, u, U, n, h => by simp [rd] at h
  | f + 1, i, u, U, n, h => by
    rw [rd] at h
    split at h
    · rename_i hp
      split at h
      · simp at h
      · split at h
        · rename_i h9 hc
          split at h
          · simp at h
          · rename_i hz
            simp only [Prod.mk.injEq, true_and] at h
            obtain ⟨h1, h2⟩ := h
            have hm : s[p + i].toNat % 128 = s[p + i].toNat := Nat.mod_eq_of_lt hc
            refine ⟨s[p + i].toNat, by rw [← h1, hm], by rw [digs_last hc]; simp; omega, ?_, fun hi => by omega⟩
            rw [digs_last hc]
            intro k hk
            obtain rfl : k = 0 := by simpa using hk
            exact ⟨by omega, by simp⟩
        · rename_i h9 hc
          obtain ⟨v, h1, h2, h3, h4⟩ := rd_back s p f (i + 1) _ U n h
          have hv := h4 (by omega)
          have hlt := s[p + i].toNat_lt
          refine ⟨s[p + i].toNat % 128 + 128 * v, ?_, ?_, ?_, fun _ => by omega⟩
          · rw [h1, ← step_sum u (s[p + i].toNat % 128 + 128 * v) i]
            rw [show (s[p + i].toNat % 128 + 128 * v) % 128 = s[p + i].toNat % 128 by omega, show (s[p + i].toNat % 128 + 128 * v) / 128 = v by omega]
          · rw [digs_more (by omega), show (s[p + i].toNat % 128 + 128 * v) / 128 = v by omega, h2]
            simp only [List.length_cons]
            omega
          · rw [digs_more (by omega), show (s[p + i].toNat % 128 + 128 * v) / 128 = v by omega]
            intro k hk
            cases k with
            | zero =>
              refine ⟨by omega, ?_⟩
              simp
              omega
            | succ k =>
              obtain ⟨g1, g2⟩ := h3 k (by simpa using hk)
              have e : p + i + (k + 1) = p + (i + 1) + k := by omega
              refine ⟨by omega, ?_⟩
              simp only [e, g2]
              simp [List.getD]
    · simp at h
theorem fold_unz {u : Nat} (h : u < 18446744073709551616) : (foldN (unz u)).toNat = u := by
  by_cases h1 : u % 2 = 1
  · rw [unz_odd h1, fold_neg (by omega)]; omega
  · rw [unz_even (by omega), fold_pos (by omega)]; omega
/-- Bytes at a place, as a text. -/
theorem at_extract (s : ByteArray) (p : Nat) (l : List Int) (hl : ∀ x ∈ l, 0 ≤ x ∧ x < 256) (h : At s p l) : s.extract p (p + l.length) = strOfNums l := by
  have hsz : p + l.length ≤ s.data.size ∨ l.length = 0 := by
    cases hn : l.length with
    | zero => exact .inr rfl
    | succ n =>
      obtain ⟨h1, _⟩ := h n (by omega)
      have e : s.data.size = s.size := rfl
      exact .inl (by omega)
  apply ByteArray.ext
  apply Array.toList_inj.1
  rw [strOfNums_data]
  apply List.ext_getElem
  · simp only [ByteArray.data_extract, Array.length_toList, Array.size_extract, List.length_map]
    omega
  · intro i h1 h2
    have hi : i < l.length := by simpa using h2
    obtain ⟨g1, g2⟩ := h i hi
    simp only [ByteArray.data_extract, Array.getElem_toList, Array.getElem_extract, List.getElem_map]
    have hx : l.getD i 0 = l[i] := by simp [List.getD, hi]
    have hb := hl l[i] (List.getElem_mem hi)
    apply UInt8.toNat_inj.1
    have e1 : ((s.data[p + i]'g1).toNat : Int) = l[i] := by rw [← hx]; exact g2
    rw [UInt8.toNat_ofNat']
    omega
end NumsR
end Go.Proofs.YthfcdfeomekkeaaDoor
