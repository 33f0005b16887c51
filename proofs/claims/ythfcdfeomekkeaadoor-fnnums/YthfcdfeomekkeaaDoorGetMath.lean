/-
  What is read of a text at a place as a number: the plain function ('rd': its code, the folded number, how many bytes), and its steps. No condition.
-/
import Derived.Test.YthfcdfeomekkeaaDoorJumps
namespace Go.Proofs.YthfcdfeomekkeaaDoor
open Go.RowKit
namespace GetR
theorem hid_intro {p : Prop} (h : p) : Hid p := h
def rd (s : ByteArray) (p : Nat) : Nat → Nat → Nat → Nat × Nat × Nat
  | 0, _, _ => (3, 0, 0)
  | f + 1, i, u =>
    if h : p + i < s.size then
      if i = 9 ∧ 1 < s[p + i].toNat then (3, 0, 0)
      else if s[p + i].toNat < 128 then (if s[p + i].toNat = 0 ∧ 0 < i then (3, 0, 0) else (0, u + s[p + i].toNat % 128 * 2 ^ (7 * i), i + 1))
      else rd s p f (i + 1) (u + s[p + i].toNat % 128 * 2 ^ (7 * i))
    else (4, 0, 0)
theorem rd_short {s : ByteArray} {p f i u : Nat} (h : s.size ≤ p + i) : rd s p (f + 1) i u = (4, 0, 0) := by
  rw [rd, dif_neg (by omega)]
theorem rd_nine {s : ByteArray} {p f i u : Nat} (h : p + i < s.size) (h9 : i = 9) (hc : 1 < s[p + i].toNat) : rd s p (f + 1) i u = (3, 0, 0) := by
  rw [rd, dif_pos h, if_pos ⟨h9, hc⟩]
theorem rd_zero {s : ByteArray} {p f i u : Nat} (h : p + i < s.size) (hc : s[p + i].toNat = 0) (hi : 0 < i) : rd s p (f + 1) i u = (3, 0, 0) := by
  rw [rd, dif_pos h, if_neg (by omega), if_pos (by omega), if_pos ⟨hc, hi⟩]
theorem rd_last {s : ByteArray} {p f i u : Nat} (h : p + i < s.size) (h9 : ¬ (i = 9 ∧ 1 < s[p + i].toNat)) (hc : s[p + i].toNat < 128) (hz : ¬ (s[p + i].toNat = 0 ∧ 0 < i)) :
    rd s p (f + 1) i u = (0, u + s[p + i].toNat % 128 * 2 ^ (7 * i), i + 1) := by
  rw [rd, dif_pos h, if_neg h9, if_pos hc, if_neg hz]
theorem rd_more {s : ByteArray} {p f i u : Nat} (h : p + i < s.size) (h9 : i ≠ 9) (hc : 128 ≤ s[p + i].toNat) :
    rd s p (f + 1) i u = rd s p f (i + 1) (u + s[p + i].toNat % 128 * 2 ^ (7 * i)) := by
  rw [rd, dif_pos h, if_neg (by omega), if_neg (by omega)]
/-- What is read in all, and what is still to be read behind k bytes, are one. -/
def RdI (s : ByteArray) (p k u : Nat) : Prop := k ≤ 9 ∧ u < 2 ^ (7 * k) ∧ rd s p 10 0 0 = rd s p (9 - k + 1) k u
theorem rdI_zero (s : ByteArray) (p : Nat) : RdI s p 0 0 := ⟨by omega, by simp, rfl⟩
theorem grow7 {u k c : Nat} (h : u < 2 ^ (7 * k)) (hc : c ≤ 127) : u + c * 2 ^ (7 * k) < 2 ^ (7 * (k + 1)) := by
  have e : 2 ^ (7 * (k + 1)) = 128 * 2 ^ (7 * k) := by rw [show 7 * (k + 1) = 7 * k + 7 from by omega, Nat.pow_add, Nat.mul_comm]
  have : c * 2 ^ (7 * k) ≤ 127 * 2 ^ (7 * k) := Nat.mul_le_mul_right _ hc
  omega
theorem pow7 {k : Nat} (h : k ≤ 9) : 2 ^ (7 * k) ≤ 9223372036854775808 := by
  have := Nat.pow_le_pow_right (show 0 < 2 by omega) (show 7 * k ≤ 63 by omega)
  exact this
theorem rdI_more {s : ByteArray} {p k u : Nat} (h : RdI s p k u) (hp : p + k < s.size) (h9 : k ≠ 9) (hc : 128 ≤ s[p + k].toNat) : RdI s p (k + 1) (u + s[p + k].toNat % 128 * 2 ^ (7 * k)) := by
  refine ⟨by have := h.1; omega, grow7 h.2.1 (by omega), ?_⟩
  rw [h.2.2, rd_more hp h9 hc]
  congr 1
  have := h.1
  omega
theorem top64 {s : ByteArray} {p k u : Nat} (h : RdI s p k u) (hp : p + k < s.size) (h9 : ¬ (k = 9 ∧ 1 < s[p + k].toNat)) : u + s[p + k].toNat % 128 * 2 ^ (7 * k) < 18446744073709551616 := by
  by_cases e : k = 9
  · subst e
    have h1 : u < 9223372036854775808 := h.2.1
    have h2 : s[p + 9].toNat % 128 * 2 ^ (7 * 9) ≤ 1 * 9223372036854775808 := Nat.mul_le_mul (by omega) (Nat.le_refl _)
    omega
  · have := grow7 h.2.1 (show s[p + k].toNat % 128 ≤ 127 by omega)
    have := pow7 (show k + 1 ≤ 9 by have := h.1; omega)
    omega
/-- A folded number, unfolded. -/
def unz (u : Nat) : Int := if u % 2 = 1 then -((u / 2 : Nat) : Int) - 1 else ((u / 2 : Nat) : Int)
theorem unz_odd {u : Nat} (h : u % 2 = 1) : unz u = -((u / 2 : Nat) : Int) - 1 := if_pos h
theorem unz_even {u : Nat} (h : u % 2 = 0) : unz u = ((u / 2 : Nat) : Int) := if_neg (by omega)
theorem u64wrap (n : Int) : IntKind.u64.wrap n = n % 18446744073709551616 := by simp [IntKind.wrap, IntKind.bits, IntKind.signed]
theorem xor_ones (x : Int) (h0 : 0 ≤ x) (h1 : x ≤ 18446744073709551615) : bits .xor .u64 IntKind.u64.max x = 18446744073709551615 - x := by
  have hm : BitVec.ofInt 64 IntKind.u64.max = BitVec.allOnes 64 := by decide
  have hx : (BitVec.ofInt 64 x).toNat = x.toNat := by
    rw [BitVec.toNat_ofInt]; congr 1; exact Int.emod_eq_of_lt h0 (by omega)
  show IntKind.u64.wrap ((BitVec.ofInt 64 IntKind.u64.max ^^^ BitVec.ofInt 64 x).toNat : Int) = _
  rw [hm, BitVec.allOnes_xor, BitVec.toNat_not, hx, u64wrap]
  omega
theorem and127 (c : Nat) (h : c < 256) : bits .and .u8 (c : Int) 127 = ((c % 128 : Nat) : Int) := by
  have := u8_and_nat c 127 (by omega) (by omega)
  rw [show ((127 : Nat) : Int) = 127 from rfl] at this
  rw [this]
  congr 1
  exact Nat.and_two_pow_sub_one_eq_mod c 7
/-- What the program's round adds: its 'or' is a plus. -/
theorem or_plus {s : ByteArray} {p k u : Nat} (h : RdI s p k u) (hp : p + k < s.size) (h9 : ¬ (k = 9 ∧ 1 < s[p + k].toNat)) :
    bits .or .u64 (u : Int) (IntKind.u64.wrap (IntKind.u64.wrap (bits .and .u8 (s[p + k].toNat : Int) 127) * 2 ^ (7 * k))) = ((u + s[p + k].toNat % 128 * 2 ^ (7 * k) : Nat) : Int) := by
  have ht := top64 h hp h9
  have hc : s[p + k].toNat < 256 := UInt8.toNat_lt s[p + k]
  obtain ⟨c, hcc⟩ : ∃ c, c = s[p + k].toNat := ⟨_, rfl⟩
  rw [← hcc] at ht hc ⊢
  rw [and127 c hc]
  obtain ⟨q, hq⟩ : ∃ q, q = 2 ^ (7 * k) := ⟨_, rfl⟩
  have e2 : ((2 : Int) ^ (7 * k)) = ((2 ^ (7 * k) : Nat) : Int) := by simp
  have hu := h.2.1
  rw [e2]
  rw [← hq] at ht ⊢
  have e3 : IntKind.u64.wrap ((c % 128 : Nat) : Int) = ((c % 128 : Nat) : Int) := by rw [u64wrap]; omega
  have e4 : ((c % 128 : Nat) : Int) * ((q : Nat) : Int) = ((c % 128 * q : Nat) : Int) := by simp
  have e5 : IntKind.u64.wrap ((c % 128 * q : Nat) : Int) = ((c % 128 * q : Nat) : Int) := by rw [u64wrap]; omega
  rw [e3, e4, e5]
  rw [u64_or_nat u (c % 128 * q) (by omega) (by omega)]
  congr 1
  rw [Nat.or_comm, nat_join (7 * k) (c % 128 * q) u (by rw [← hq]; exact Nat.mul_mod_left _ _) hu]
  omega
theorem or_plus9 {s : ByteArray} {p u : Nat} (h : RdI s p 9 u) (hp : p + 9 < s.size) (h9 : ¬ (1 < s[p + 9].toNat)) :
    bits .or .u64 (u : Int) (IntKind.u64.wrap (IntKind.u64.wrap (bits .and .u8 (s[p + 9].toNat : Int) 127) * 9223372036854775808)) = ((u + s[p + 9].toNat % 128 * 2 ^ (7 * 9) : Nat) : Int) :=
  or_plus h hp (by omega)
end GetR
end Go.Proofs.YthfcdfeomekkeaaDoor
