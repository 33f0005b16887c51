/-
  A small number written out: some text of at most five letters. The condition: it is below 1000.
-/
import Derived.Test.YtbhabplchcigfaaDrawStr
import Derived.Test.YtbhabplchcigfaaJoin
namespace Go.Proofs.Ytbhabplchcigfaa
open Go.ChangeShapes Go.WideShapes Go.ChangeAt Go.RowKit
set_option linter.unusedVariables false
namespace DrawR
set_option maxRecDepth 100000 in
set_option maxHeartbeats 4000000 in
theorem dec_sz (N : Nat) (h : N < 1000) (w : World) : Calls Try.prog 40 #[.int .i64 N] w fun e w' => (∃ T : ByteArray, e = .returned (.string T) ∧ T.size ≤ 5) ∧ Below w.heap.size w w' := by
  by_cases h0 : N = 0
  · subst h0
    go_enter Try.func40, Try.ntmps40
    go_wp2_with fail
    go_ret
    exact ⟨⟨_, rfl, by decide⟩, Below.refl _ _⟩
  have h1 : (0 : Int) < (N : Int) := by omega
  have h2 : ¬ (N : Int) = 0 := by omega
  go_enter Try.func40, Try.ntmps40
  go_wp2_with fail
  go_loopw [0, 4] (fun x s wr => ∃ (f m : Nat) (T : ByteArray), x = .int .i64 (m : Int) ∧ s = .string T ∧ m < 10 ^ f ∧ f ≤ 5 ∧ T.size + f = 5 ∧ Hid (Below w.heap.size w wr)) (fun x _ _ => (intOf x).toNat)
  case atStart => exact ⟨5, N, ⟨#[]⟩, rfl, rfl, by omega, by omega, rfl, hid_intro (Below.refl _ _)⟩
  case round =>
    obtain ⟨f, m, T, rfl, rfl, hm, hf, hz, HB⟩ := hrel
    by_cases hm0 : m = 0
    · subst hm0
      have HT : Hid (T.size ≤ 5) := hid_intro (by omega)
      clear hz hm
      go_wp2_with fail
      go_ret
      exact ⟨⟨T, rfl, HT.out⟩, HB.out⟩
    · obtain ⟨g, rfl⟩ : ∃ g, f = g + 1 := ⟨f - 1, by rcases f with _ | f; simp at hm; omega; omega⟩
      have hm2 : m / 10 < 10 ^ g := by rw [Nat.pow_succ] at hm; omega
      have hmb : m < 100000 := by
        have : 10 ^ (g + 1) ≤ 10 ^ 5 := Nat.pow_le_pow_right (by omega) hf
        omega
      have hmi : ¬ (m : Int) = 0 := by omega
      have hmi2 : (0 : Int) < (m : Int) := by omega
      have e1 : (m : Int) % 10 = ((m % 10 : Nat) : Int) := by omega
      have e2 : (m : Int) / 10 = ((m / 10 : Nat) : Int) := by omega
      have e3 : (m : Int).tmod 10 = ((m % 10 : Nat) : Int) := by rw [Int.tmod_eq_emod_of_nonneg (by omega)]; omega
      have e4 : (m : Int).tdiv 10 = ((m / 10 : Nat) : Int) := by rw [Int.tdiv_eq_ediv_of_nonneg (by omega)]; omega
      have d10 : m % 10 < 10 := by omega
      have HDk : Hid (m / 10 < m) := hid_intro (by omega)
      have hC : (strOfNums [48 + ((m % 10 : Nat) : Int)]).size = 1 := strOfNums_size _
      have hcv := conv_any wr (48 + ((m % 10 : Nat) : Int))
      generalize m % 10 = d at *
      generalize m / 10 = q at *
      generalize strOfNums [48 + (d : Int)] = D at *
      have q1 : ¬ 9223372036854775807 < D.size + T.size := by omega
      clear hm
      go_wp2_with fail
      go_roundw
      case rel => exact ⟨g, q, D ++ T, rfl, rfl, hm2, by omega, by rw [ByteArray.size_append]; omega, hid_intro (HB.out.alloc HB.out.size _)⟩
      case measure => simp [intOf]; have := HDk.out; omega
end DrawR
end Go.Proofs.Ytbhabplchcigfaa
