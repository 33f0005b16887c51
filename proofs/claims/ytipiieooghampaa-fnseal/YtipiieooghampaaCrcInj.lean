/-
  The CRC tells one byte from another: two texts that differ in one byte have different CRCs; a CRC goes on from text to text. No condition.
-/
import Derived.Test.YtipiieooghampaaUnseal
namespace Go.Proofs.Ytipiieooghampaa
open Go.RowKit
set_option linter.unusedVariables false
namespace CrcR
theorem xor_nat (a b : Nat) (ha : a < 4294967296) (hb : b < 4294967296) : bits .xor .u32 (a : Int) (b : Int) = ((a ^^^ b : Nat) : Int) := u32_xor_nat a b ha hb
/-- In range. -/
def In (x : Int) : Prop := 0 ≤ x ∧ x ≤ 4294967295
theorem In.nat {x : Int} (h : In x) : ∃ n : Nat, x = n ∧ n < 4294967296 := ⟨x.toNat, by have := h.1; omega, by have := h.2; omega⟩
theorem in_xor (x y : Int) : In (bits .xor .u32 x y) := xor_bd x y
theorem in_half {x : Int} (h : In x) : In (x / 2) := ⟨by have := h.1; omega, by have := h.2; have := h.1; omega⟩
theorem in_bit {x : Int} (h : In x) : In (crcBit x) := by unfold crcBit; split; exact in_xor _ _; exact in_half h
theorem in_bits : ∀ (k : Nat) {x : Int}, In x → In (crcBits k x)
  | 0, _, h => h
  | k + 1, _, h => in_bit (in_bits k h)
theorem in_byte (r b : Int) : In (crcByte r b) := in_bits 8 (in_xor r b)
theorem in_of : ∀ (l : List UInt8) {r : Int}, In r → In (crcOf l r)
  | [], _, h => h
  | c :: l, r, h => in_of l (in_byte r c.toNat)
theorem xor_cancel {x y z : Int} (hx : In x) (hy : In y) (hz : In z) (h : bits .xor .u32 x z = bits .xor .u32 y z) : x = y := by
  obtain ⟨a, rfl, ha⟩ := hx.nat
  obtain ⟨b, rfl, hb⟩ := hy.nat
  obtain ⟨c, rfl, hc⟩ := hz.nat
  rw [xor_nat a c ha hc, xor_nat b c hb hc] at h
  have h1 : a ^^^ c = b ^^^ c := by omega
  have h2 : (a ^^^ c) ^^^ c = (b ^^^ c) ^^^ c := by rw [h1]
  rw [Nat.xor_assoc, Nat.xor_assoc, Nat.xor_self, Nat.xor_zero, Nat.xor_zero] at h2
  omega
theorem xor_cancel_left {x y z : Int} (hx : In x) (hy : In y) (hz : In z) (h : bits .xor .u32 z x = bits .xor .u32 z y) : x = y := by
  obtain ⟨a, rfl, ha⟩ := hx.nat
  obtain ⟨b, rfl, hb⟩ := hy.nat
  obtain ⟨c, rfl, hc⟩ := hz.nat
  rw [xor_nat c a hc ha, xor_nat c b hc hb] at h
  have h1 : c ^^^ a = c ^^^ b := by omega
  have h2 : c ^^^ (c ^^^ a) = c ^^^ (c ^^^ b) := by rw [h1]
  rw [← Nat.xor_assoc, ← Nat.xor_assoc, Nat.xor_self, Nat.zero_xor, Nat.zero_xor] at h2
  omega
theorem xor_twice {x z : Int} (hx : In x) (hz : In z) : bits .xor .u32 (bits .xor .u32 x z) z = x := by
  obtain ⟨a, rfl, ha⟩ := hx.nat
  obtain ⟨c, rfl, hc⟩ := hz.nat
  rw [xor_nat a c ha hc]
  have h1 : a ^^^ c < 4294967296 := Nat.xor_lt_two_pow (n := 32) ha hc
  rw [xor_nat _ c h1 hc, Nat.xor_assoc, Nat.xor_self, Nat.xor_zero]
/-- The polynomial's top bit shows which way a bit went. -/
theorem top_set {x : Int} (h : 0 ≤ x ∧ x < 2147483648) : 2147483648 ≤ bits .xor .u32 x 3988292384 := by
  obtain ⟨a, rfl, ha⟩ : ∃ n : Nat, x = n ∧ n < 2147483648 := ⟨x.toNat, by omega, by omega⟩
  rw [show (3988292384 : Int) = ((3988292384 : Nat) : Int) from rfl, xor_nat a 3988292384 (by omega) (by omega)]
  have h1 : (a ^^^ 3988292384).testBit 31 = true := by
    rw [Nat.testBit_xor, Nat.testBit_lt_two_pow (show a < 2 ^ 31 from ha)]
    decide
  have := Nat.ge_two_pow_of_testBit h1
  omega
theorem and1 {x : Int} (h : In x) : bits .and .u32 x 1 = x % 2 := by
  obtain ⟨a, rfl, ha⟩ := h.nat
  rw [show (1 : Int) = ((1 : Nat) : Int) from rfl, u32_and_nat a 1 ha (by omega)]
  have : a &&& 1 = a % 2 := Nat.and_two_pow_sub_one_eq_mod a 1
  rw [this]
  omega
theorem bit_inj {x y : Int} (hx : In x) (hy : In y) (h : crcBit x = crcBit y) : x = y := by
  have ax := and1 hx
  have ay := and1 hy
  have px : In 3988292384 := ⟨by omega, by omega⟩
  obtain ⟨x0, x1⟩ := hx
  obtain ⟨y0, y1⟩ := hy
  have tx := top_set (x := x / 2) ⟨by omega, by omega⟩
  have ty := top_set (x := y / 2) ⟨by omega, by omega⟩
  have hhx : In (x / 2) := ⟨by omega, by omega⟩
  have hhy : In (y / 2) := ⟨by omega, by omega⟩
  unfold crcBit at h
  rw [ax, ay] at h
  by_cases ex : x % 2 = 1
  · by_cases ey : y % 2 = 1
    · rw [if_pos (by simpa using ex), if_pos (by simpa using ey)] at h
      have := xor_cancel hhx hhy px h
      omega
    · rw [if_pos (by simpa using ex), if_neg (by simpa using ey)] at h
      omega
  · by_cases ey : y % 2 = 1
    · rw [if_neg (by simpa using ex), if_pos (by simpa using ey)] at h
      omega
    · rw [if_neg (by simpa using ex), if_neg (by simpa using ey)] at h
      omega
theorem bits_inj : ∀ (k : Nat) {x y : Int}, In x → In y → crcBits k x = crcBits k y → x = y
  | 0, _, _, _, _, h => h
  | k + 1, _, _, hx, hy, h => bits_inj k hx hy (bit_inj (in_bits k hx) (in_bits k hy) h)
theorem in_u8 (c : UInt8) : In (c.toNat : Int) := ⟨by omega, by have := UInt8.toNat_lt c; omega⟩
theorem byte_inj {r r' : Int} {c : UInt8} (hr : In r) (hr' : In r') (h : crcByte r c.toNat = crcByte r' c.toNat) : r = r' :=
  xor_cancel hr hr' (in_u8 c) (bits_inj 8 (in_xor _ _) (in_xor _ _) h)
theorem byte_inj2 {r : Int} {c d : UInt8} (hr : In r) (h : crcByte r c.toNat = crcByte r d.toNat) : c = d := by
  have := xor_cancel_left (in_u8 c) (in_u8 d) hr (bits_inj 8 (in_xor _ _) (in_xor _ _) h)
  exact UInt8.toNat_inj.1 (by omega)
theorem of_inj : ∀ (l : List UInt8) {r r' : Int}, In r → In r' → crcOf l r = crcOf l r' → r = r'
  | [], _, _, _, _, h => h
  | c :: l, r, r', hr, hr', h => byte_inj hr hr' (of_inj l (in_byte r c.toNat) (in_byte r' c.toNat) h)
theorem of_append (a b : List UInt8) (r : Int) : crcOf (a ++ b) r = crcOf b (crcOf a r) := by unfold crcOf; rw [List.foldl_append]
/-- One byte turned: another register. -/
theorem of_turned (p q : List UInt8) (c d : UInt8) (hcd : c ≠ d) {r : Int} (hr : In r) : crcOf (p ++ c :: q) r ≠ crcOf (p ++ d :: q) r := by
  intro h
  rw [of_append, of_append] at h
  have hp := in_of p hr
  exact hcd (byte_inj2 hp (of_inj q (in_byte _ _) (in_byte _ _) h))
theorem in_ones : In 4294967295 := ⟨by omega, by omega⟩
theorem crcV_turned {s s' : ByteArray} (p q : List UInt8) (c d : UInt8) (hcd : c ≠ d) (hs : s.data.toList = p ++ c :: q) (hs' : s'.data.toList = p ++ d :: q) : crcV 0 s ≠ crcV 0 s' := by
  intro h
  unfold crcV at h
  rw [hs, hs'] at h
  have h1 : In (bits .xor .u32 0 4294967295) := in_xor _ _
  exact of_turned p q c d hcd h1 (xor_cancel (in_of _ h1) (in_of _ h1) in_ones h)
theorem crcV_more (t u : ByteArray) : crcV (crcV 0 t) u = crcV 0 (t ++ u) := by
  unfold crcV
  have h1 : In (bits .xor .u32 0 4294967295) := in_xor _ _
  rw [xor_twice (in_of _ h1) in_ones]
  congr 1
  rw [← of_append]
  congr 1
end CrcR
namespace SealR
open CrcR (In)
theorem four_inj {x y : Int} (hx : In x) (hy : In y) (h : four x = four y) : x = y := by
  obtain ⟨x0, x1⟩ := hx
  obtain ⟨y0, y1⟩ := hy
  have h1 : (four x).data.toList = (four y).data.toList := by rw [h]
  unfold four at h1
  rw [strOfNums_data, strOfNums_data] at h1
  simp only [List.map_cons, List.map_nil, List.cons.injEq, and_true] at h1
  obtain ⟨a, b, c, d⟩ := h1
  have key : ∀ m n : Int, 0 ≤ m → m ≤ 255 → 0 ≤ n → n ≤ 255 → UInt8.ofNat m.toNat = UInt8.ofNat n.toNat → m = n := by
    intro m n m0 m1 n0 n1 e
    have e2 : (UInt8.ofNat m.toNat).toNat = (UInt8.ofNat n.toNat).toNat := by rw [e]
    rw [UInt8.toNat_ofNat', UInt8.toNat_ofNat'] at e2
    omega
  have a' := key _ _ (by omega) (by omega) (by omega) (by omega) a
  have b' := key _ _ (by omega) (by omega) (by omega) (by omega) b
  have c' := key _ _ (by omega) (by omega) (by omega) (by omega) c
  have d' := key _ _ (by omega) (by omega) (by omega) (by omega) d
  omega
end SealR
namespace UnsealR
open SealR
theorem sealB_size (t : ByteArray) : (sealB t).size = t.size + 4 := by
  unfold sealB; rw [ByteArray.size_append, four_size]
theorem okU_seal (t : ByteArray) : okU (sealB t) = true := by
  rw [← okU_eq, sealB_size]
  have : (sealB t).extract 0 (t.size + 4 - 4) = t := by
    unfold sealB
    rw [Nat.add_sub_cancel]
    exact ByteArray.extract_append_eq_left rfl
  rw [this]
  simp
/-- A sealed text with one byte turned is none. -/
theorem okU_turned (t s' : ByteArray) (p q : List UInt8) (c d : UInt8) (hcd : c ≠ d) (hs : (sealB t).data.toList = p ++ c :: q) (hs' : s'.data.toList = p ++ d :: q) : okU s' = false := by
  cases hok : okU s' with
  | false => rfl
  | true =>
    exfalso
    rw [← okU_eq] at hok
    have hsz : s'.size = t.size + 4 := by
      have h1 : (sealB t).data.toList.length = s'.data.toList.length := by rw [hs, hs']; simp
      have h2 : (sealB t).data.toList.length = (sealB t).size := rfl
      have h3 : s'.data.toList.length = s'.size := rfl
      rw [h2, h3, sealB_size] at h1
      omega
    rw [hsz, Nat.add_sub_cancel] at hok
    obtain ⟨t', ht'⟩ : ∃ t', t' = s'.extract 0 t.size := ⟨_, rfl⟩
    rw [← ht'] at hok
    have heq : (sealB t').data.toList = s'.data.toList := by simpa [ByteArray.toList_eq] using hok
    unfold sealB at heq hs
    simp only [ByteArray.data_append, Array.toList_append] at heq hs
    have hl : t'.data.toList.length = t.data.toList.length := by
      have h1 : t'.size = t.size := by rw [ht']; simp; omega
      exact h1
    rw [hs'] at heq
    have same : t' = t → c = d := by
      intro e
      rw [e] at heq
      have := hs.symm.trans heq
      simpa using this
    rcases List.append_eq_append_iff.1 hs with ⟨zs, h1, h2⟩ | ⟨bs, h1, h2⟩
    · rw [h1, List.append_assoc] at heq
      have h3 := (List.append_inj heq hl).1
      exact hcd (same (ByteArray.ext (Array.toList_inj.1 h3)))
    · match bs, h1, h2 with
      | [], h1, h2 =>
        rw [List.append_nil] at h1
        rw [← h1] at heq
        have h3 := (List.append_inj heq hl).1
        exact hcd (same (ByteArray.ext (Array.toList_inj.1 h3)))
      | x :: q1, h1, h2 =>
        simp only [List.cons_append, List.cons.injEq] at h2
        obtain ⟨rfl, h2⟩ := h2
        rw [h2, ← List.cons_append, ← List.append_assoc] at heq
        have h3 := List.append_inj heq (by rw [hl, h1]; simp)
        have h4 : four (CrcR.crcV 0 t') = four (CrcR.crcV 0 t) := ByteArray.ext (Array.toList_inj.1 h3.2)
        have h5 := four_inj (CrcR.in_xor _ _) (CrcR.in_xor _ _) h4
        exact CrcR.crcV_turned p q1 c d hcd h1 h3.1 h5.symm
end UnsealR
end Go.Proofs.Ytipiieooghampaa
