/-
  A number in parts, the model's side: it rounds as the program does. No condition.
-/
import Derived.Test.YtaihfidbpkbnkaaDoorParts
import Derived.Test.YtaihfidbpkbnkaaDoorOuts
namespace Go.Proofs.YtaihfidbpkbnkaaDoor
open Go.ChangeShapes Go.WideShapes Go.ChangeAt Go.RowKit
set_option linter.unusedVariables false
namespace FixR
set_option maxHeartbeats 4000000 in
theorem l02Parts_any (a b mode : Int) (ha : In a) (hb : 1 ≤ b ∧ b ≤ 1000000000000000) (w : World) :
    Calls Tryd.prog 69 #[.int .i64 a, .int .i64 b, .int .i64 mode] w fun e w' => e = .returned (.int .i64 (a / b + up (a % b) b mode)) ∧ w' = w := by
  obtain ⟨f1, f2, f3, f4, f5, f6⟩ := div_facts a b ha hb
  have hb0 : ¬ b = 0 := by omega
  obtain ⟨Q, hQ⟩ : ∃ Q, Q = a.tdiv b := ⟨_, rfl⟩
  obtain ⟨R, hR⟩ : ∃ R, R = a.tmod b := ⟨_, rfl⟩
  rw [← hQ, ← hR] at f1 f2
  rw [← hQ] at f3
  rw [← hR] at f4
  have e1 : wrap64 Q = Q := w64 _ (by omega)
  have e2 : wrap64 R = R := w64 _ (by omega)
  have hQ' : a.tdiv b = Q := hQ.symm
  have hR' : a.tmod b = R := hR.symm
  have hu : up (a % b) b mode = if (mode = 1 ∧ 0 < a % b) ∨ (mode = 2 ∧ b ≤ 2 * (a % b)) then 1 else 0 := rfl
  rw [hu]
  generalize a / b = D at *
  generalize a % b = L at *
  have e5 : wrap64 (b - L) = b - L := w64 _ (by omega)
  have e6 : wrap64 (D + 1) = D + 1 := w64 _ (by omega)
  have key : (mode = 1 ∧ 0 < L) ∨ (mode = 1 ∧ ¬ 0 < L) ∨ (mode = 2 ∧ b - L ≤ L) ∨ (mode = 2 ∧ ¬ b - L ≤ L) ∨ ((mode == 1) = false ∧ (mode == 2) = false) := by
    by_cases m1 : mode = 1
    · omega
    by_cases m2 : mode = 2
    · omega
    right; right; right; right
    exact ⟨by simpa using m1, by simpa using m2⟩
  have V : ∀ x : Int, x = (if (mode = 1 ∧ 0 < L) ∨ (mode = 2 ∧ b ≤ 2 * L) then 1 else 0) → (x = 1 ∧ ((mode = 1 ∧ 0 < L) ∨ (mode = 2 ∧ b ≤ 2 * L))) ∨ (x = 0 ∧ ¬ ((mode = 1 ∧ 0 < L) ∨ (mode = 2 ∧ b ≤ 2 * L))) := by
    intro x hx
    split at hx
    · next c => exact .inl ⟨hx, c⟩
    · next c => exact .inr ⟨hx, c⟩
  obtain ⟨x, hx⟩ : ∃ x : Int, x = (if (mode = 1 ∧ 0 < L) ∨ (mode = 2 ∧ b ≤ 2 * L) then 1 else 0) := ⟨_, rfl⟩
  have VX := V x hx
  rw [← hx]
  clear hx V hu hQ hR
  by_cases h : R < 0
  · obtain ⟨g1, g2⟩ := f1 h
    subst g1
    subst g2
    have e3 : wrap64 (Q - 1) = Q - 1 := w64 _ (by omega)
    have e4 : wrap64 (R + b) = R + b := w64 _ (by omega)
    have HX := hid_intro VX
    clear f1 f2 f3 f4 f5 f6 ha hb VX
    rcases key with ⟨rfl, k⟩ | ⟨rfl, k⟩ | ⟨rfl, k⟩ | ⟨rfl, k⟩ | ⟨k1, k2⟩
    all_goals
      go_enter Tryd.func69, Tryd.ntmps69
      go_wp2
      go_ret
      refine ⟨ret_int ?_, rfl⟩
      have := HX.out
      simp at *
      omega
  · obtain ⟨g1, g2⟩ := f2 h
    subst g1
    subst g2
    have HX := hid_intro VX
    clear f1 f2 f3 f4 f5 f6 ha hb VX
    rcases key with ⟨rfl, k⟩ | ⟨rfl, k⟩ | ⟨rfl, k⟩ | ⟨rfl, k⟩ | ⟨k1, k2⟩
    all_goals
      go_enter Tryd.func69, Tryd.ntmps69
      go_wp2
      go_ret
      refine ⟨ret_int ?_, rfl⟩
      have := HX.out
      simp at *
      omega
theorem parts_within (a b mode : Int) (ha : In a) (hb : 1 ≤ b ∧ b ≤ 1000000000000000) : In (a / b + up (a % b) b mode) := by
  obtain ⟨f1, f2, f3, f4, f5, f6⟩ := div_facts a b ha hb
  obtain ⟨u0, u1⟩ := up_bd (a % b) b mode
  unfold In at *
  by_cases h1 : b = 1
  · subst h1
    have : up (a % 1) 1 mode = 0 := by unfold up; rw [if_neg (by omega)]
    omega
  · have : a / b ≤ 1000000000000000 / 2 := by
      apply Int.ediv_le_of_le_mul (by omega)
      have : 500000000000000 * 2 ≤ 500000000000000 * b := Int.mul_le_mul_of_nonneg_left (by omega) (by omega)
      omega
    omega
set_option maxHeartbeats 4000000 in
theorem spec_parts_bad (a b mode : Int) (h : partsBad a b mode) (w : World) :
    Calls Tryd.prog 17 #[.int .i64 a, .int .i64 b, .int .i64 mode] w fun e w' => e = .returned (out 0 1) ∧ Below w.heap.size w w' := by
  unfold partsBad In at h
  have key : (¬ -1000000000000000 ≤ a) ∨ (-1000000000000000 ≤ a ∧ ¬ a ≤ 1000000000000000) ∨ (-1000000000000000 ≤ a ∧ a ≤ 1000000000000000 ∧ ((¬ -1000000000000000 ≤ b) ∨ (-1000000000000000 ≤ b ∧ ¬ b ≤ 1000000000000000) ∨ (-1000000000000000 ≤ b ∧ b ≤ 1000000000000000 ∧ b < 1) ∨ (-1000000000000000 ≤ b ∧ ¬ b < 1 ∧ b ≤ 1000000000000000 ∧ ((¬ 0 ≤ mode) ∨ (0 ≤ mode ∧ ¬ mode ≤ 2))))) := by omega
  clear h
  rcases key with h1 | ⟨h1, h2⟩ | ⟨h1, h2, h3 | ⟨h3, h4⟩ | ⟨h3, h4, h5⟩ | ⟨h3, h4, h7, h5 | ⟨h5, h6⟩⟩⟩
  all_goals
    go_enter Tryd.func17, Tryd.ntmps17
    go_wp2_with (first | (go_at_call 72; go_in) | (go_at_call 64; go_in) | (go_at_call 68; go_in) | (go_at_call 65; refine (ill_any _ _).mono ?_; rintro e w2 ⟨rfl, hb⟩; unfold out; obtain ⟨hc, hz⟩ := bcell hb))
    refine bodyPost_ret (v := out 0 1) (by simp [out, results, Tryd.results17, go_sem, hc]) rfl ⟨rfl, ?_⟩
    exact (((bel_alloc hb).setCell (by simp) _).setCell (by simp) _).setCell (by simp) _
set_option maxHeartbeats 4000000 in
theorem spec_parts_in (a b mode : Int) (ha : In a) (hb : 1 ≤ b ∧ b ≤ 1000000000000000) (hm : 0 ≤ mode ∧ mode ≤ 2) (w : World) :
    Calls Tryd.prog 17 #[.int .i64 a, .int .i64 b, .int .i64 mode] w fun e w' => e = .returned (out (a / b + up (a % b) b mode) 0) ∧ Below w.heap.size w w' := by
  have hv := parts_within a b mode ha hb
  have hq := fun w => l02Parts_any a b mode ha hb w
  generalize a / b + up (a % b) b mode = v at *
  have ho := fun w => outS_in v hv w
  obtain ⟨a1, a2⟩ := ha
  obtain ⟨b1, b2⟩ := hb
  obtain ⟨m1, m2⟩ := hm
  have b3 : -1000000000000000 ≤ b := by omega
  have b4 : ¬ b < 1 := by omega
  clear hv
  go_enter Tryd.func17, Tryd.ntmps17
  go_wp2_with (first | (go_at_call 72; go_in) | (go_at_call 64; go_in) | (go_at_call 68; go_in) | (go_at_call 69; refine (hq _).mono ?_; rintro e w1 ⟨rfl, rfl⟩) | (go_at_call 66; refine (ho _).mono ?_; rintro e w2 ⟨rfl, hb⟩; unfold out; obtain ⟨hc, hz⟩ := bcell hb))
  refine bodyPost_ret (v := out v 0) (by simp [out, results, Tryd.results17, go_sem, hc]) rfl ⟨rfl, ?_⟩
  exact (((bel_alloc hb).setCell (by simp) _).setCell (by simp) _).setCell (by simp) _
end FixR
end Go.Proofs.YtaihfidbpkbnkaaDoor
