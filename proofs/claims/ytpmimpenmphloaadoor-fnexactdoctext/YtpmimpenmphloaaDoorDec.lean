/-
  Numbers as digits, as the model writes them. No condition.
-/
import Derived.Test.YtpmimpenmphloaaDoorFmt4
namespace Go.Proofs.YtpmimpenmphloaaDoor
open Go.ChangeShapes Go.WideShapes Go.ChangeAt Go.RowKit
set_option linter.unusedVariables false
namespace DecR
/-- The digits of a number, the greatest first. -/
def digs : Nat → Nat → List Nat
  | 0, _ => []
  | f + 1, m => if m = 0 then [] else digs f (m / 10) ++ [m % 10]
theorem digs_zero (f : Nat) : digs f 0 = [] := by cases f <;> simp [digs]
theorem digs_step (f m : Nat) (h : m ≠ 0) : digs (f + 1) m = digs f (m / 10) ++ [m % 10] := by simp [digs, h]
theorem digT_cons (d : Nat) (l : List Nat) : digT [d] ++ digT l = digT (d :: l) := by
  apply ByteArray.ext
  simp [digT, strOfNums]
theorem digT_size (l : List Nat) : (digT l).size = l.length := by unfold digT; rw [strOfNums_size, List.length_map]
theorem digs_one (n : Nat) (h0 : n ≠ 0) (h : n < 10) : digs 5 n = [n] := by
  rw [digs_step 4 n h0, show n / 10 = 0 by omega, digs_zero, show n % 10 = n by omega]; rfl
theorem digs_two (n : Nat) (h0 : 10 ≤ n) (h : n < 100) : digs 5 n = [n / 10, n % 10] := by
  rw [digs_step 4 n (by omega), digs_step 3 (n / 10) (by omega), show n / 10 / 10 = 0 by omega, digs_zero, show n / 10 % 10 = n / 10 by omega]; rfl
theorem digs_four (n : Nat) (h0 : 1000 ≤ n) (h : n < 10000) : digs 5 n = [n / 100 / 10, n / 100 % 10, n % 100 / 10, n % 100 % 10] := by
  rw [digs_step 4 n (by omega), digs_step 3 (n / 10) (by omega), digs_step 2 (n / 10 / 10) (by omega), digs_step 1 (n / 10 / 10 / 10) (by omega), show n / 10 / 10 / 10 / 10 = 0 by omega, digs_zero]
  simp
  omega
theorem conv_one (w : World) (d : Nat) : (convert 54 9 (.slice (some ⟨w.heap.size, 0, none⟩) 1 1)).run Tryd.prog (w.alloc (Obj.cells #[.int .u8 (48 + (d : Int))] 5)) = .ok (.string (digT [d])) (w.alloc (Obj.cells #[.int .u8 (48 + (d : Int))] 5)) := by
  refine run_convert_bytes_arg _ 54 5 Tryd.underlying54 Tryd.underlying5 w.heap.size 0 1 1 _ rfl ?_ 9 Tryd.underlying9
  intro i hi
  match i, hi with
  | 0, _ => simp [go_sem]
set_option maxRecDepth 100000 in
set_option maxHeartbeats 4000000 in
theorem dec_any (N : Nat) (h0 : N ≠ 0) (h : N < 100000) (w : World) : Calls Tryd.prog 25 #[.int .i64 N] w fun e w' => e = .returned (.string (digT (digs 5 N))) ∧ Below w.heap.size w w' := by
  have h1 : (0 : Int) < (N : Int) := by omega
  have h2 : ¬ (N : Int) = 0 := by omega
  go_enter Tryd.func25, Tryd.ntmps25
  go_wp2_with fail
  go_loopw [0, 4] (fun x s wr => ∃ (f m : Nat) (l : List Nat), x = .int .i64 (m : Int) ∧ s = .string (digT l) ∧ m < 10 ^ f ∧ f ≤ 5 ∧ Hid (digs 5 N = digs f m ++ l) ∧ l.length + f = 5 ∧ Hid (Below w.heap.size w wr)) (fun x _ _ => (intOf x).toNat)
  case atStart => exact ⟨5, N, [], rfl, rfl, by omega, by omega, hid_intro (by simp), rfl, Below.refl _ _⟩
  case round =>
    obtain ⟨f, m, l, rfl, rfl, hm, hf, HD, hl, HB⟩ := hrel
    by_cases hm0 : m = 0
    · subst hm0
      have HO : Hid (digT l = digT (digs 5 N)) := hid_intro (by rw [HD.out, digs_zero, List.nil_append])
      clear HD
      generalize digT l = T at *
      go_wp2_with fail
      go_ret
      exact ⟨ret_str HO.out, HB.out⟩
    · obtain ⟨g, rfl⟩ : ∃ g, f = g + 1 := ⟨f - 1, by rcases f with _ | f; simp at hm; omega; omega⟩
      have hm2 : m / 10 < 10 ^ g := by rw [Nat.pow_succ] at hm; omega
      have HD2 : Hid (digs 5 N = digs g (m / 10) ++ (m % 10 :: l)) := hid_intro (by rw [HD.out, digs_step g m hm0, List.append_assoc]; rfl)
      have hmb : m < 100000 := by
        have : 10 ^ (g + 1) ≤ 10 ^ 5 := Nat.pow_le_pow_right (by omega) hf
        omega
      have hmi : ¬ (m : Int) = 0 := by omega
      have hmi2 : (0 : Int) < (m : Int) := by omega
      have e1 : (m : Int) % 10 = ((m % 10 : Nat) : Int) := by omega
      have e2 : (m : Int) / 10 = ((m / 10 : Nat) : Int) := by omega
      obtain ⟨d, hd⟩ : ∃ d, d = m % 10 := ⟨_, rfl⟩
      obtain ⟨q, hq⟩ : ∃ q, q = m / 10 := ⟨_, rfl⟩
      rw [← hd] at e1 HD2
      rw [← hq] at e2 HD2 hm2
      have hd10 : d < 10 := by omega
      have hdi : ¬ (d : Int) < 0 := by omega
      have hcv := conv_one wr d
      have HC := hid_intro (digT_cons d l)
      have hz1 : (digT [d]).size = 1 := digT_size [d]
      have hz2 : (digT l).size ≤ 5 := by rw [digT_size]; omega
      have HQ := hid_intro hq
      clear hm hd hq HD
      go_wp2_with fail
      go_roundw
      case rel => exact ⟨g, q, d :: l, rfl, by rw [HC.out], hm2, by omega, HD2, by simp only [List.length_cons]; omega, hid_intro (HB.out.alloc HB.out.size _)⟩
      case measure => simp [intOf]; have := HQ.out; omega
theorem two_dec (n : Nat) (h : n < 10) (w : World) (h0 : n ≠ 0) : Calls Tryd.prog 37 #[.int .i64 n] w fun e w' => e = .returned (.string (digT [0, n])) ∧ Below w.heap.size w w' := by
  have HD := hid_intro (dec_any n h0 (by omega) w)
  rw [digs_one n h0 h] at HD
  have hn : (n : Int) < 10 := by omega
  have hz1 : (digT [n]).size = 1 := digT_size [n]
  have HC : Hid (digT [0] ++ digT [n] = digT [0, n]) := hid_intro (digT_cons 0 [n])
  clear h h0
  generalize digT [n] = T at *
  go_enter Tryd.func37, Tryd.ntmps37
  go_wp2_with (go_at_call 25; refine HD.out.mono ?_; rintro e w1 ⟨rfl, hb⟩)
  go_ret
  exact ⟨ret_str HC.out, hb⟩
theorem two_dec2 (n : Nat) (h0 : 10 ≤ n) (h : n < 100) (w : World) : Calls Tryd.prog 37 #[.int .i64 n] w fun e w' => e = .returned (.string (digT [n / 10, n % 10])) ∧ Below w.heap.size w w' := by
  have HD := hid_intro (dec_any n (by omega) (by omega) w)
  rw [digs_two n h0 h] at HD
  have hn : ¬ (n : Int) < 10 := by omega
  generalize digT [n / 10, n % 10] = T at *
  clear h h0
  go_enter Tryd.func37, Tryd.ntmps37
  go_wp2_with (go_at_call 25; refine HD.out.mono ?_; rintro e w1 ⟨rfl, hb⟩)
  go_ret
  exact ⟨rfl, hb⟩
theorem two_any (n : Nat) (h0 : 1 ≤ n) (h : n < 100) (w : World) : Calls Tryd.prog 37 #[.int .i64 n] w fun e w' => e = .returned (.string (digT [n / 10, n % 10])) ∧ Below w.heap.size w w' := by
  by_cases h1 : n < 10
  · rw [show n / 10 = 0 by omega, show n % 10 = n by omega]
    exact two_dec n h1 w (by omega)
  · exact two_dec2 n (by omega) h w
/-- The program's two digits. -/
theorem itwo_any (n : Nat) (h : n < 100) (w : World) : Calls Tryd.prog 33 #[.int .i64 n] w fun e w' => e = .returned (.string (digT [n / 10, n % 10])) ∧ w' = w := by
  have e1 : (n : Int) / 10 = ((n / 10 : Nat) : Int) := by omega
  have e2 : (n : Int) % 10 = ((n % 10 : Nat) : Int) := by omega
  have H1 := hid_intro (fun w => fmt1 (n / 10) (by omega) w)
  have H2 := hid_intro (fun w => fmt1 (n % 10) (by omega) w)
  have HC := hid_intro (digT_cons (n / 10) [n % 10])
  generalize n / 10 = a at *
  generalize n % 10 = b at *
  have hz1 : (digT [a]).size = 1 := digT_size [a]
  have hz2 : (digT [b]).size = 1 := digT_size [b]
  generalize digT [a, b] = R at *
  have hn : (n : Int) < 100 := by omega
  go_enter Tryd.func33, Tryd.ntmps33
  go_wp2_with fail
  refine (H1.out _).mono ?_
  rintro e w1 ⟨rfl, rfl⟩
  go_wp2_with fail
  refine (H2.out _).mono ?_
  rintro e w2 ⟨rfl, rfl⟩
  go_wp2_with fail
  go_ret
  exact ⟨ret_str HC.out, rfl⟩
end DecR
end Go.Proofs.YtpmimpenmphloaaDoor
