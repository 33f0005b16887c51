/-
  What a number's and a text's reading come to, as functions of the bytes: what is read is spelled by just its bytes, and what is spelled is read. Arithmetic and bytes alone. No condition.
-/
import Derived.Test.YthfcdfeomekkeaaDoorRdBack
namespace Go.Proofs.YthfcdfeomekkeaaDoor
open Go.RowKit
set_option linter.unusedVariables false
namespace NumsR
open GetR NumR
theorem rd_bd (s : ByteArray) (p : Nat) : ∀ f i u v n, i + f = 10 → u < 2 ^ (7 * i) → rd s p f i u = (0, v, n) → p + n ≤ s.size ∧ v < 18446744073709551616
  | 0, i, u, v, n, _, _, h => by simp [rd] at h
  | f + 1, i, u, v, n, hf, hu, h => by
    rw [rd] at h
    split at h
    · next hp =>
      split at h
      · simp at h
      · next h9 =>
        split at h
        · split at h
          · simp at h
          · simp only [Prod.mk.injEq, true_and] at h
            obtain ⟨rfl, rfl⟩ := h
            refine ⟨by omega, ?_⟩
            have hc : s[p + i].toNat % 128 ≤ 127 := by omega
            by_cases e : i = 9
            · subst e
              have h1 : u < 9223372036854775808 := hu
              have h2 : s[p + 9].toNat % 128 * 2 ^ (7 * 9) ≤ 1 * 9223372036854775808 := Nat.mul_le_mul (by omega) (Nat.le_refl _)
              omega
            · have := grow7 hu hc
              have := pow7 (show i + 1 ≤ 9 by omega)
              omega
        · exact rd_bd s p f _ _ v n (by omega) (grow7 hu (by omega)) h
    · simp at h
theorem unz_bd {u : Nat} (h : u < 18446744073709551616) : -9223372036854775808 ≤ unz u ∧ unz u ≤ 9223372036854775807 := by
  unfold unz; split <;> omega
theorem digs_bd (v : Nat) : ∀ x ∈ digs v, 0 ≤ x ∧ x < 256 := by
  induction v using Nat.strongRecOn with
  | _ v ih =>
    by_cases h : v < 128
    · rw [digs_last h]; intro x hx; simp at hx; omega
    · rw [digs_more (by omega)]
      intro x hx
      rcases List.mem_cons.1 hx with rfl | hx
      · omega
      · exact ih (v / 128) (by omega) x hx
/-- What is read as a number: it, and the place behind it. -/
def numAt (s : ByteArray) (p : Nat) : Option (Int × Nat) := if (rd s p 10 0 0).1 = 0 then some (unz (rd s p 10 0 0).2.1, p + (rd s p 10 0 0).2.2) else none
def I64 (n : Int) : Prop := -9223372036854775808 ≤ n ∧ n ≤ 9223372036854775807
theorem numAt_back {s : ByteArray} {p : Nat} {n : Int} {q : Nat} (h : numAt s p = some (n, q)) : I64 n ∧ p < q ∧ q ≤ s.size ∧ s.extract p q = numB n := by
  unfold numAt at h
  split at h
  · rename_i h0
    obtain ⟨U, k, hr⟩ : ∃ U k, rd s p 10 0 0 = (0, U, k) := ⟨(rd s p 10 0 0).2.1, (rd s p 10 0 0).2.2, Prod.ext h0 rfl⟩
    rw [hr] at h
    simp only [Option.some.injEq, Prod.mk.injEq] at h
    obtain ⟨rfl, rfl⟩ := h
    obtain ⟨b1, b2⟩ := rd_bd s p 10 0 0 U k rfl (by simp) hr
    obtain ⟨v, h1, h2, h3, _⟩ := rd_back s p 10 0 0 U k hr
    simp only [Nat.mul_zero, Nat.pow_zero, Nat.mul_one, Nat.zero_add] at h1 h2
    subst h1 h2
    have hd := digs_pos U
    refine ⟨unz_bd b2, by omega, b1, ?_⟩
    have := at_extract s p (digs U) (digs_bd U) h3
    rw [this]
    unfold numB
    rw [fold_unz b2]
  · simp at h
theorem at_of (s : ByteArray) (p : Nat) (l : List Int) (hl : ∀ x ∈ l, 0 ≤ x ∧ x < 256) (hs : p + l.length ≤ s.size) (h : s.extract p (p + l.length) = strOfNums l) : At s p l := by
  intro k hk
  refine ⟨by omega, ?_⟩
  have e := congrArg (fun b : ByteArray => b.data.toList[k]?) h
  simp only [strOfNums_data] at e
  have hsz : s.data.size = s.size := rfl
  rw [List.getElem?_eq_getElem (by simp [ByteArray.data_extract]; omega), List.getElem?_eq_getElem (by simpa using hk)] at e
  simp only [ByteArray.data_extract, Array.getElem_toList, Array.getElem_extract, List.getElem_map, Option.some.injEq] at e
  have hx : l.getD k 0 = l[k] := by simp [List.getD, hk]
  have hb := hl l[k] (List.getElem_mem hk)
  have e2 : (s[p + k]'(by omega)).toNat = (l[k]).toNat := by
    have e3 : s[p + k]'(by omega) = s.data[p + k]'(by omega) := rfl
    rw [e3, e, UInt8.toNat_ofNat']
    omega
  rw [hx, e2]
  omega
theorem numB_len (n : Int) : (numB n).size = (digs (foldN n).toNat).length := strOfNums_size _
theorem numAt_put {s : ByteArray} {p : Nat} {n : Int} (hn : I64 n) (hs : p + (numB n).size ≤ s.size) (h : s.extract p (p + (numB n).size) = numB n) : numAt s p = some (n, p + (numB n).size) := by
  have hz := numB_size hn
  rw [numB_len] at hs h hz
  have hb := fold_bd hn
  have hA := at_of s p _ (digs_bd _) hs h
  have hr := rd_digs s p 10 (foldN n).toNat 0 0 hA hz rfl (fun h => absurd h (by omega)) (by simp; omega)
  simp only [Nat.mul_zero, Nat.pow_zero, Nat.mul_one, Nat.zero_add] at hr
  unfold numAt
  rw [hr, if_pos rfl, numB_len, unz_fold hn]
end NumsR
end Go.Proofs.YthfcdfeomekkeaaDoor
