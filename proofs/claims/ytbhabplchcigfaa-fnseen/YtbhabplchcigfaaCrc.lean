/-
  The CRC: what the model's loop and the program's two loops hand back is one function of the text, 'crcV' (the bits' operations as the model of Go has them). The conditions: the text has at most 1048576 bytes, the CRC that is gone on from is 0 to 4294967295.
-/
import Derived.Test.YtbhabplchcigfaaKit
namespace Go.Proofs.Ytbhabplchcigfaa
open Go.ChangeShapes Go.WideShapes Go.ChangeAt Go.RowKit
open Go.ChangeMaps (open_string shut_string)
set_option linter.unusedVariables false
namespace CrcR
def crcBit (y : Int) : Int := if (bits .and .u32 y 1 == 1) = true then bits .xor .u32 (y / 2) 3988292384 else y / 2
def crcBits : Nat → Int → Int
  | 0, y => y
  | k + 1, y => crcBit (crcBits k y)
def crcByte (r b : Int) : Int := crcBits 8 (bits .xor .u32 r b)
def crcOf (l : List UInt8) (r : Int) : Int := l.foldl (fun r c => crcByte r (c.toNat : Int)) r
theorem wrap_bd (n : Int) : 0 ≤ IntKind.u32.wrap n ∧ IntKind.u32.wrap n ≤ 4294967295 := by rw [IntKind.wrap_u32']; omega
theorem xor_bd (x y : Int) : 0 ≤ bits .xor .u32 x y ∧ bits .xor .u32 x y ≤ 4294967295 := wrap_bd _
def crcV (crc : Int) (s : ByteArray) : Int := bits .xor .u32 (crcOf s.data.toList (bits .xor .u32 crc 4294967295)) 4294967295
theorem wrap64_small {n : Int} (h : 0 ≤ n ∧ n ≤ 4294967295) : wrap64 n = n := by simp only [wrap64]; omega
theorem bit_yes {y : Int} (h : (bits .and .u32 y 1 == 1) = true) : crcBit y = bits .xor .u32 (y / 2) 3988292384 := if_pos h
theorem bit_no {y : Int} (h : (bits .and .u32 y 1 == 1) = false) : crcBit y = y / 2 := if_neg (by simp [h])
theorem take_snoc (s : ByteArray) (k : Nat) (h : k < s.size) : s.data.toList.take (k + 1) = s.data.toList.take k ++ [s[k]] := by
  rw [List.take_succ_eq_append_getElem (by simpa using h)]; rfl
theorem crcOf_snoc (s : ByteArray) (k : Nat) (h : k < s.size) (r : Int) : crcOf (s.data.toList.take (k + 1)) r = crcByte (crcOf (s.data.toList.take k) r) (s[k].toNat : Int) := by
  rw [take_snoc s k h]; unfold crcOf; rw [List.foldl_append]; rfl
theorem byte_bd (s : ByteArray) (k : Nat) (h : k < s.size) : (s[k].toNat : Int) ≤ 255 := by have := UInt8.toNat_lt s[k]; omega
theorem take_all (s : ByteArray) : s.data.toList.take s.size = s.data.toList := List.take_of_length_le (Nat.le_of_eq rfl)

theorem step_any (r b : Int) (w : World) (hb : 0 ≤ b ∧ b ≤ 255) :
    Calls Try.prog 71 #[.int .u32 r, .int .u8 b] w fun e w' => e = .returned (.int .u32 (crcByte r b)) ∧ w' = w := by
  go_enter Try.func71, Try.ntmps71
  go_wp2
  go_loop [0, 10] (fun x i => ∃ k : Nat, k ≤ 8 ∧ i = .int .i64 k ∧ x = .int .u32 (crcBits k (bits .xor .u32 r b))) (fun _ i => 8 - (intOf i).toNat)
  case atStart => exact ⟨0, by omega, rfl, rfl⟩
  case round =>
    obtain ⟨k, hk, rfl, rfl⟩ := hrel
    by_cases hlt : k < 8
    · obtain ⟨y, hy⟩ : ∃ y, y = crcBits k (bits .xor .u32 r b) := ⟨_, rfl⟩
      have HS : Hid (crcBits (k + 1) (bits .xor .u32 r b) = crcBit y) := by rw [hy]; rfl
      rw [← hy]
      clear hy
      go_wp2
      all_goals
        go_round
        case rel => exact ⟨k + 1, by omega, by go_num, by rw [HS.out]; first | rw [bit_yes (by assumption)] | rw [bit_no (by assumption)]⟩
        case measure => simp [intOf]; omega
    · have : k = 8 := by omega
      subst this
      go_wp2
      go_ret
      exact ⟨rfl, rfl⟩

set_option maxHeartbeats 1000000 in
theorem spec_l01 (crc : Int) (s : ByteArray) (w : World) (hc : 0 ≤ crc ∧ crc ≤ 4294967295) (hs : s.size ≤ 1048576) :
    Calls Try.prog 67 #[.int .i64 crc, .string s] w fun e w' => e = .returned (.int .i64 (crcV crc s)) ∧ w' = w := by
  obtain ⟨R, hR⟩ : ∃ R, R = bits .xor .u32 crc 4294967295 := ⟨_, rfl⟩
  have HR : Hid (R = bits .xor .u32 crc 4294967295) := hR
  go_enter Try.func67, Try.ntmps67
  go_wp2
  rw [← hR]
  clear hR
  go_loop [5, 6, 7] (fun x i _ => ∃ k : Nat, k ≤ s.size ∧ i = .int .i64 k ∧ x = .int .u32 (crcOf (s.data.toList.take k) R)) (fun _ i _ => s.size - (intOf i).toNat)
  case atStart => exact ⟨0, by omega, rfl, rfl⟩
  case round =>
    obtain ⟨k, hk, rfl, rfl⟩ := hrel
    by_cases hlt : k < s.size
    · obtain ⟨y, hy⟩ : ∃ y, y = crcOf (s.data.toList.take k) R := ⟨_, rfl⟩
      have HS : Hid (crcOf (s.data.toList.take (k + 1)) R = crcByte y (s[k].toNat : Int)) := by rw [hy]; exact crcOf_snoc s k hlt R
      rw [← hy]
      clear hy
      have hb := byte_bd s k hlt
      go_wp2
      go_loop [5, 7] (fun x j => ∃ m : Nat, m ≤ 8 ∧ j = .int .i64 m ∧ x = .int .u32 (crcBits m (bits .xor .u32 y (s[k].toNat : Int)))) (fun _ j => 8 - (intOf j).toNat)
      case atStart => exact ⟨0, by omega, rfl, rfl⟩
      case round =>
        obtain ⟨m, hm, rfl, rfl⟩ := hrel
        by_cases hlm : m < 8
        · obtain ⟨z, hz⟩ : ∃ z, z = crcBits m (bits .xor .u32 y (s[k].toNat : Int)) := ⟨_, rfl⟩
          have HZ : Hid (crcBits (m + 1) (bits .xor .u32 y (s[k].toNat : Int)) = crcBit z) := by rw [hz]; rfl
          rw [← hz]
          clear hz
          go_wp2
          all_goals
            go_round
            case rel => exact ⟨m + 1, by omega, by go_num, by rw [HZ.out]; first | rw [bit_yes (by assumption)] | rw [bit_no (by assumption)]⟩
            case measure => simp [intOf]; omega
        · have : m = 8 := by omega
          subst this
          go_wp2
          go_round
          case rel => exact ⟨k + 1, by omega, by go_num, by rw [HS.out]; rfl⟩
          case measure => simp [intOf]; omega
    · have : k = s.size := by omega
      subst this
      go_wp2
      go_ret
      exact ⟨ret_int (by unfold crcV; rw [← HR.out, take_all, wrap64_small (xor_bd _ _)]), rfl⟩

theorem spec_crc (s : ByteArray) (w : World) (hs : s.size ≤ 8000) :
    Calls Try.prog 54 #[.string s] w fun e w' => e = .returned (.int .i64 (crcV 0 s)) ∧ w' = w := by
  go_enter Try.func54, Try.ntmps54
  go_wp2_with (go_at_call 67; refine (spec_l01 0 s _ (by omega) (by omega)).mono ?_; rintro e w' ⟨rfl, rfl⟩)
  go_ret
  exact ⟨rfl, rfl⟩
theorem spec_crc_big (s : ByteArray) (w : World) (hs : 8000 < s.size) (hm : s.size ≤ 1048576) :
    Calls Try.prog 54 #[.string s] w fun e w' => e = .returned (.int .i64 0) ∧ w' = w := by
  go_enter Try.func54, Try.ntmps54
  go_wp2
  go_ret
  exact ⟨rfl, rfl⟩
def moreBad (crc : Int) (s : ByteArray) : Bool := decide (8000 < s.size ∨ crc < 0 ∨ 4294967295 < crc)
set_option maxHeartbeats 1000000 in
theorem impl_more (crc : Int) (s : ByteArray) (w : World) (hs : s.size ≤ 8000) (hc : 0 ≤ crc ∧ crc ≤ 4294967295) :
    Calls Try.prog 59 #[.int .i64 crc, .string s] w fun e w' => e = .returned (.int .i64 (crcV crc s)) ∧ w' = w := by
  obtain ⟨R, hR⟩ : ∃ R, R = bits .xor .u32 crc 4294967295 := ⟨_, rfl⟩
  have HR : Hid (R = bits .xor .u32 crc 4294967295) := hR
  go_enter Try.func59, Try.ntmps59
  go_wp2
  rw [← hR]
  clear hR
  go_loop [5, 6] (fun x i => ∃ k : Nat, k ≤ s.size ∧ i = .int .i64 k ∧ x = .int .u32 (crcOf (s.data.toList.take k) R)) (fun _ i => s.size - (intOf i).toNat)
  case atStart => exact ⟨0, by omega, rfl, rfl⟩
  case round =>
    obtain ⟨k, hk, rfl, rfl⟩ := hrel
    by_cases hlt : k < s.size
    · obtain ⟨y, hy⟩ : ∃ y, y = crcOf (s.data.toList.take k) R := ⟨_, rfl⟩
      have HS : Hid (crcOf (s.data.toList.take (k + 1)) R = crcByte y (s[k].toNat : Int)) := by rw [hy]; exact crcOf_snoc s k hlt R
      rw [← hy]
      clear hy
      have hb := byte_bd s k hlt
      go_wp2_with (go_at_call 71; refine (step_any y (s[k].toNat : Int) _ (by omega)).mono ?_; rintro e w' ⟨rfl, rfl⟩)
      go_round
      case rel => exact ⟨k + 1, by omega, by go_num, by rw [HS.out]⟩
      case measure => simp [intOf]; omega
    · have : k = s.size := by omega
      subst this
      go_wp2
      go_ret
      exact ⟨ret_int (by unfold crcV; rw [← HR.out, take_all, wrap64_small (xor_bd _ _)]), rfl⟩
theorem impl_more_bad (crc : Int) (s : ByteArray) (w : World) (hm : s.size ≤ 1048576) (hb : 8000 < s.size ∨ crc < 0 ∨ 4294967295 < crc) :
    Calls Try.prog 59 #[.int .i64 crc, .string s] w fun e w' => e = .returned (.int .i64 0) ∧ w' = w := by
  by_cases h1 : 8000 < s.size
  · go_enter Try.func59, Try.ntmps59
    go_wp2
    go_ret
    exact ⟨rfl, rfl⟩
  by_cases h2 : crc < 0
  · go_enter Try.func59, Try.ntmps59
    go_wp2
    go_ret
    exact ⟨rfl, rfl⟩
  · have h3 : 4294967295 < crc := by omega
    clear hb
    go_enter Try.func59, Try.ntmps59
    go_wp2
    go_ret
    exact ⟨rfl, rfl⟩
theorem impl_crc (s : ByteArray) (w : World) (hs : s.size ≤ 8000) :
    Calls Try.prog 47 #[.string s] w fun e w' => e = .returned (.int .i64 (crcV 0 s)) ∧ w' = w := by
  go_enter Try.func47, Try.ntmps47
  go_wp2_with (go_at_call 59; refine (impl_more 0 s _ (by omega) (by omega)).mono ?_; rintro e w' ⟨rfl, rfl⟩)
  go_ret
  exact ⟨rfl, rfl⟩
theorem impl_crc_big (s : ByteArray) (w : World) (hs : 8000 < s.size) (hm : s.size ≤ 1048576) :
    Calls Try.prog 47 #[.string s] w fun e w' => e = .returned (.int .i64 0) ∧ w' = w := by
  go_enter Try.func47, Try.ntmps47
  go_wp2_with (go_at_call 59; refine (impl_more_bad 0 s _ (by omega) (by omega)).mono ?_; rintro e w' ⟨rfl, rfl⟩)
  go_ret
  exact ⟨rfl, rfl⟩
end CrcR
end Go.Proofs.Ytbhabplchcigfaa
