/-
  A number in hundredths: either side hands back what TimesParts of a hundred does. The condition: the program's own error stands in its variable.
-/
import Derived.Test.YtaihfidbpkbnkaaDoorTPartsT
namespace Go.Proofs.YtaihfidbpkbnkaaDoor
open Go.ChangeShapes Go.WideShapes Go.ChangeAt Go.RowKit
set_option linter.unusedVariables false
namespace FixR
theorem pc_key (p : Int) (h : p < 0 ∨ 1000 < p) : (¬ 0 ≤ p) ∨ (0 ≤ p ∧ ¬ p ≤ 1000) := by omega
set_option maxHeartbeats 4000000 in
theorem impl_percent_bad (a p : Int) (h : p < 0 ∨ 1000 < p) (w : World) :
    Calls Tryd.prog 25 #[.int .i64 a, .int .i64 p] w fun e w' => e = .returned (out 0 1) ∧ Below w.heap.size w w' := by
  rcases pc_key p h with h1 | ⟨h1, h2⟩
  all_goals
    clear h
    go_enter Tryd.func25, Tryd.ntmps25
    go_wp2
    refine bodyPost_ret (v := out 0 1) (by simp [out, results, Tryd.results25, go_sem]) rfl ⟨rfl, ?_⟩
    repeat' first | exact Below.refl _ _ | apply Below.setCell | apply Below.alloc
    all_goals first | omega | (simp; done) | (simp; omega)
set_option maxHeartbeats 4000000 in
theorem impl_percent_in (a p n code : Int) (h1 : 0 ≤ p) (h2 : p ≤ 1000) (w : World) (hL : Laid w) (ht : ∀ w, Laid w → Calls Tryd.prog 19 #[.int .i64 a, .int .i64 p, .int .i64 100, .int .i64 2] w fun e w' => e = .returned (out n code) ∧ Below w.heap.size w w') :
    Calls Tryd.prog 25 #[.int .i64 a, .int .i64 p] w fun e w' => e = .returned (out n code) ∧ Below w.heap.size w w' := by
  have HT := hid_intro ht
  have HL := hid_intro hL
  clear ht hL
  go_enter Tryd.func25, Tryd.ntmps25
  go_wp2_with (first | (go_at_call 60; go_in) | (go_at_call 19; refine (HT.out _ (HL.out.below ((Below.refl _ _).alloc (Nat.le_refl _) _))).mono ?_; rintro e w2 ⟨rfl, hb⟩; unfold out; obtain ⟨hc, hz⟩ := bcell hb))
  refine bodyPost_ret (v := out n code) (by simp [out, results, Tryd.results25, go_sem, hc]) rfl ⟨rfl, ?_⟩
  exact (((bel_alloc hb).setCell (by simp) _).setCell (by simp) _).setCell (by simp) _
set_option maxHeartbeats 4000000 in
theorem spec_percent_bad (a p : Int) (h : p < 0 ∨ 1000 < p) (w : World) :
    Calls Tryd.prog 26 #[.int .i64 a, .int .i64 p] w fun e w' => e = .returned (out 0 1) ∧ Below w.heap.size w w' := by
  rcases pc_key p h with h1 | ⟨h1, h2⟩
  all_goals
    clear h
    go_enter Tryd.func26, Tryd.ntmps26
    go_wp2_with (first | (go_at_call 72; go_in) | (go_at_call 65; refine (ill_any _ _).mono ?_; rintro e w2 ⟨rfl, hb⟩; unfold out; obtain ⟨hc, hz⟩ := bcell hb))
    refine bodyPost_ret (v := out 0 1) (by simp [out, results, Tryd.results26, go_sem, hc]) rfl ⟨rfl, ?_⟩
    exact (((bel_alloc hb).setCell (by simp) _).setCell (by simp) _).setCell (by simp) _
set_option maxHeartbeats 4000000 in
theorem spec_percent_in (a p n code : Int) (h1 : 0 ≤ p) (h2 : p ≤ 1000) (w : World) (ht : ∀ w, Calls Tryd.prog 23 #[.int .i64 a, .int .i64 p, .int .i64 100, .int .i64 2] w fun e w' => e = .returned (out n code) ∧ Below w.heap.size w w') :
    Calls Tryd.prog 26 #[.int .i64 a, .int .i64 p] w fun e w' => e = .returned (out n code) ∧ Below w.heap.size w w' := by
  have HT := hid_intro ht
  clear ht
  go_enter Tryd.func26, Tryd.ntmps26
  go_wp2_with (first | (go_at_call 72; go_in) | (go_at_call 23; refine (HT.out _).mono ?_; rintro e w2 ⟨rfl, hb⟩; unfold out; obtain ⟨hc, hz⟩ := bcell hb))
  refine bodyPost_ret (v := out n code) (by simp [out, results, Tryd.results26, go_sem, hc]) rfl ⟨rfl, ?_⟩
  exact (((bel_alloc hb).setCell (by simp) _).setCell (by simp) _).setCell (by simp) _
theorem pc_both (a p : Int) : ∃ n code : Int, (∀ w, Laid w → Calls Tryd.prog 25 #[.int .i64 a, .int .i64 p] w fun e w' => e = .returned (out n code) ∧ Below w.heap.size w w') ∧ (∀ w, Calls Tryd.prog 26 #[.int .i64 a, .int .i64 p] w fun e w' => e = .returned (out n code) ∧ Below w.heap.size w w') := by
  by_cases h : p < 0 ∨ 1000 < p
  · exact ⟨0, 1, fun w _ => impl_percent_bad a p h w, fun w => spec_percent_bad a p h w⟩
  · obtain ⟨n, code, h1, h2⟩ := tp_both a p 100 2
    exact ⟨n, code, fun w hL => impl_percent_in a p n code (by omega) (by omega) w hL h1, fun w => spec_percent_in a p n code (by omega) (by omega) w h2⟩
end FixR
end Go.Proofs.YtaihfidbpkbnkaaDoor
