/-
  math/bits.Len64, LeadingZeros64: how many bits a number has. No condition.
-/
import Derived.Test.YtpmimpenmphloaaDoorMul64
namespace Go.Proofs.YtpmimpenmphloaaDoor
open Go.ChangeShapes Go.WideShapes Go.ChangeAt Go.RowKit
set_option linter.unusedVariables false
namespace DivR
theorem hid_intro {p : Prop} (h : p) : Hid p := h
/-- So many bits has a number below 256, as the library's table says. -/
abbrev tab : ByteArray := { data := #[0, 1, 2, 2, 3, 3, 3, 3, 4, 4, 4, 4, 4, 4, 4, 4, 5, 5, 5, 5, 5, 5, 5, 5, 5, 5, 5, 5, 5, 5, 5, 5, 6, 6, 6, 6, 6, 6, 6, 6, 6, 6, 6, 6, 6, 6, 6, 6, 6, 6, 6, 6, 6, 6, 6, 6, 6, 6, 6, 6, 6, 6, 6, 6, 7, 7, 7, 7, 7, 7, 7, 7, 7, 7, 7, 7, 7, 7, 7, 7, 7, 7, 7, 7, 7, 7, 7, 7, 7, 7, 7, 7, 7, 7, 7, 7, 7, 7, 7, 7, 7, 7, 7, 7, 7, 7, 7, 7, 7, 7, 7, 7, 7, 7, 7, 7, 7, 7, 7, 7, 7, 7, 7, 7, 7, 7, 7, 7, 8, 8, 8, 8, 8, 8, 8, 8, 8, 8, 8, 8, 8, 8, 8, 8, 8, 8, 8, 8, 8, 8, 8, 8, 8, 8, 8, 8, 8, 8, 8, 8, 8, 8, 8, 8, 8, 8, 8, 8, 8, 8, 8, 8, 8, 8, 8, 8, 8, 8, 8, 8, 8, 8, 8, 8, 8, 8, 8, 8, 8, 8, 8, 8, 8, 8, 8, 8, 8, 8, 8, 8, 8, 8, 8, 8, 8, 8, 8, 8, 8, 8, 8, 8, 8, 8, 8, 8, 8, 8, 8, 8, 8, 8, 8, 8, 8, 8, 8, 8, 8, 8, 8, 8, 8, 8, 8, 8, 8, 8, 8, 8, 8, 8, 8, 8, 8, 8, 8, 8, 8, 8, 8, 8, 8, 8, 8, 8] }
/-- n bits are wanted for x, and no fewer. -/
def Bits (x n : Nat) : Prop := 1 ≤ n ∧ 2 ^ (n - 1) ≤ x ∧ x < 2 ^ n
theorem tab_all : (List.range 256).all (fun x => x == 0 || (decide (1 ≤ (tab.data.getD x 0).toNat) && decide ((tab.data.getD x 0).toNat ≤ 8) && decide (2 ^ ((tab.data.getD x 0).toNat - 1) ≤ x) && decide (x < 2 ^ (tab.data.getD x 0).toNat))) = true := by decide +kernel
theorem tab_bits (x : Nat) (h : x < tab.size) (h0 : x ≠ 0) : Bits x tab[x].toNat ∧ tab[x].toNat ≤ 8 := by
  have hs : tab.size = 256 := by decide +kernel
  have := List.all_eq_true.1 tab_all x (List.mem_range.2 (by omega))
  have e : tab.data.getD x 0 = tab[x] := by
    rw [Array.getD_eq_getD_getElem?, Array.getElem?_eq_getElem (show x < tab.data.size from h)]; rfl
  rw [e] at this
  simp [h0] at this
  exact ⟨⟨this.1.1.1, this.1.2, this.2⟩, this.1.1.2⟩
theorem tab_lt {x : Nat} (h : (x : Int) < 256) : x < tab.size := by
  have hs : tab.size = 256 := by decide +kernel
  omega
theorem bits_up (x m k : Nat) (h : Bits (x / 2 ^ k) m) : Bits x (k + m) := by
  obtain ⟨h1, h2, h3⟩ := h
  have hk : 0 < 2 ^ k := Nat.two_pow_pos k
  refine ⟨by omega, ?_, ?_⟩
  · rw [show k + m - 1 = (m - 1) + k by omega, Nat.pow_add]
    exact (Nat.le_div_iff_mul_le hk).1 h2
  · rw [Nat.pow_add, Nat.mul_comm]
    exact (Nat.div_lt_iff_lt_mul hk).1 h3
theorem nat_div {a b : Nat} {c : Nat} (h : (a : Int) / (c : Int) = b) : a / c = b := by
  have : ((a / c : Nat) : Int) = b := by rw [Int.natCast_ediv]; exact h
  omega
theorem w64d (x : Int) (h : -9223372036854775808 ≤ x ∧ x ≤ 9223372036854775807) : wrap64 x = x := by unfold wrap64; omega
theorem sum_len (N k : Nat) (hN : N ≤ 56) (hk : k ≤ 8) : wrap64 ((N : Int) + wrap64 (k : Int)) = ((N + k : Nat) : Int) := by
  rw [w64d (k : Int) (by omega), w64d _ (by omega)]; omega
theorem sum_zero (k : Nat) (hk : k ≤ 8) : wrap64 (wrap64 (k : Int)) = (k : Int) := by
  rw [w64d (k : Int) (by omega), w64d (k : Int) (by omega)]
theorem le_zero {k : Nat} (h : k ≤ 8) : k ≤ 64 := by omega
theorem le_len (N : Nat) {k : Nat} (hN : N ≤ 56) (h : k ≤ 8) : N + k ≤ 64 := by omega
theorem bits_more (c : Nat) {x y k : Nat} (e : (x : Int) / ((2 ^ c : Nat) : Int) = y) (h : Bits y k) : Bits x (c + k) := bits_up x k c (by rw [nat_div e]; exact h)
theorem assoc1 {x a k : Nat} (h : Bits x (a + k)) : Bits x (a + k) := h
theorem assoc2 {x a b k : Nat} (h : Bits x (a + (b + k))) : Bits x (a + b + k) := by rw [Nat.add_assoc]; exact h
theorem assoc3 {x a b c k : Nat} (h : Bits x (a + (b + (c + k)))) : Bits x (a + b + c + k) := by rw [show a + b + c + k = a + (b + (c + k)) by omega]; exact h
set_option maxRecDepth 100000 in
set_option maxHeartbeats 4000000 in
theorem len_inner (x x1 x2 x3 : Nat) (h1 : ((¬ (4294967296 : Int) ≤ x) ∧ x1 = x) ∨ ((4294967296 : Int) ≤ x ∧ (x : Int) / 4294967296 = x1)) (h2 : ((¬ (65536 : Int) ≤ x1) ∧ x2 = x1) ∨ ((65536 : Int) ≤ x1 ∧ (x1 : Int) / 65536 = x2)) (h3 : ((¬ (256 : Int) ≤ x2) ∧ x3 = x2) ∨ ((256 : Int) ≤ x2 ∧ (x2 : Int) / 256 = x3)) (hx3 : (x3 : Int) < 256) (h0 : x3 ≠ 0) (w : World) :
    Calls Tryd.prog 44 #[.int .u64 x] w fun e w' => (∃ n : Nat, e = .returned (.int .i64 (n : Int)) ∧ n ≤ 64 ∧ Bits x n) ∧ w' = w := by
  have H0 := hid_intro h0
  have HX := hid_intro hx3
  clear h0
  rcases h1 with ⟨a1, rfl⟩ | ⟨a1, e1⟩
  · rcases h2 with ⟨a2, rfl⟩ | ⟨a2, e2⟩
    · rcases h3 with ⟨a3, rfl⟩ | ⟨a3, e3⟩
      · go_enter Tryd.func44, Tryd.ntmps44
        go_wp2_with fail
        go_ret
        exact ⟨⟨_, ret_int (sum_zero _ (tab_bits _ (tab_lt HX.out) H0.out).2), le_zero (tab_bits _ (tab_lt HX.out) H0.out).2, (tab_bits _ (tab_lt HX.out) H0.out).1⟩, rfl⟩
      · go_enter Tryd.func44, Tryd.ntmps44
        go_wp2_with fail
        go_ret
        exact ⟨⟨_, ret_int (sum_len 8 _ (by omega) (tab_bits _ (tab_lt HX.out) H0.out).2), le_len 8 (by omega) (tab_bits _ (tab_lt HX.out) H0.out).2, assoc1 (bits_more 8 e3 (tab_bits _ (tab_lt HX.out) H0.out).1)⟩, rfl⟩
    · rcases h3 with ⟨a3, rfl⟩ | ⟨a3, e3⟩
      · go_enter Tryd.func44, Tryd.ntmps44
        go_wp2_with fail
        go_ret
        exact ⟨⟨_, ret_int (sum_len 16 _ (by omega) (tab_bits _ (tab_lt HX.out) H0.out).2), le_len 16 (by omega) (tab_bits _ (tab_lt HX.out) H0.out).2, assoc1 (bits_more 16 e2 (tab_bits _ (tab_lt HX.out) H0.out).1)⟩, rfl⟩
      · go_enter Tryd.func44, Tryd.ntmps44
        go_wp2_with fail
        go_ret
        exact ⟨⟨_, ret_int (sum_len 24 _ (by omega) (tab_bits _ (tab_lt HX.out) H0.out).2), le_len 24 (by omega) (tab_bits _ (tab_lt HX.out) H0.out).2, assoc2 (bits_more 16 e2 (bits_more 8 e3 (tab_bits _ (tab_lt HX.out) H0.out).1))⟩, rfl⟩
  · rcases h2 with ⟨a2, rfl⟩ | ⟨a2, e2⟩
    · rcases h3 with ⟨a3, rfl⟩ | ⟨a3, e3⟩
      · go_enter Tryd.func44, Tryd.ntmps44
        go_wp2_with fail
        go_ret
        exact ⟨⟨_, ret_int (sum_len 32 _ (by omega) (tab_bits _ (tab_lt HX.out) H0.out).2), le_len 32 (by omega) (tab_bits _ (tab_lt HX.out) H0.out).2, assoc1 (bits_more 32 e1 (tab_bits _ (tab_lt HX.out) H0.out).1)⟩, rfl⟩
      · go_enter Tryd.func44, Tryd.ntmps44
        go_wp2_with fail
        go_ret
        exact ⟨⟨_, ret_int (sum_len 40 _ (by omega) (tab_bits _ (tab_lt HX.out) H0.out).2), le_len 40 (by omega) (tab_bits _ (tab_lt HX.out) H0.out).2, assoc2 (bits_more 32 e1 (bits_more 8 e3 (tab_bits _ (tab_lt HX.out) H0.out).1))⟩, rfl⟩
    · rcases h3 with ⟨a3, rfl⟩ | ⟨a3, e3⟩
      · go_enter Tryd.func44, Tryd.ntmps44
        go_wp2_with fail
        go_ret
        exact ⟨⟨_, ret_int (sum_len 48 _ (by omega) (tab_bits _ (tab_lt HX.out) H0.out).2), le_len 48 (by omega) (tab_bits _ (tab_lt HX.out) H0.out).2, assoc2 (bits_more 32 e1 (bits_more 16 e2 (tab_bits _ (tab_lt HX.out) H0.out).1))⟩, rfl⟩
      · go_enter Tryd.func44, Tryd.ntmps44
        go_wp2_with fail
        go_ret
        exact ⟨⟨_, ret_int (sum_len 56 _ (by omega) (tab_bits _ (tab_lt HX.out) H0.out).2), le_len 56 (by omega) (tab_bits _ (tab_lt HX.out) H0.out).2, assoc3 (bits_more 32 e1 (bits_more 16 e2 (bits_more 8 e3 (tab_bits _ (tab_lt HX.out) H0.out).1)))⟩, rfl⟩
end DivR
end Go.Proofs.YtpmimpenmphloaaDoor
