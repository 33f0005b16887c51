/-
  FreeDay: either side tells the same. The condition: the list has at most 1048576 numbers.
-/
import Derived.Test.YtaihfidbpkbnkaaFreeS
namespace Go.Proofs.Ytaihfidbpkbnkaa
open Go.ChangeShapes Go.WideShapes Go.ChangeAt Go.RowKit
set_option linter.unusedVariables false
namespace DateR
open DateM
theorem weekend_any (d : Int) (w : World) : Calls Try.prog 12 #[.int .i64 d] w fun e w' => e = .returned (.bool (decide (5 ≤ wd d))) ∧ w' = w := by
  have hw := fun w => impl_wd d w
  generalize wd d = v at hw ⊢
  go_enter Try.func12, Try.ntmps12
  go_wp2_with (go_at_call 24; refine (hw _).mono ?_; rintro e w' ⟨rfl, rfl⟩)
  go_ret
  exact ⟨rfl, rfl⟩
/-- What FreeDay tells. -/
def freeDayB (d : Int) (zs : List Int) : Bool := decide (0 ≤ d ∧ d ≤ 100000) && freeB zs && isFreeB d zs
set_option maxHeartbeats 4000000 in
theorem impl_freeday (d : Int) (ao : Option Addr) (len cap : Nat) (zs : List Int) (w : World) (hlen : len ≤ 1048576) (hI : Ints ao len zs w) :
    Calls Try.prog 7 #[.int .i64 d, .slice ao len cap] w fun e w' => e = .returned (.bool (freeDayB d zs)) ∧ w' = w := by
  have h1 := fun w => isDay_any d w
  have h2 := impl_free ao len cap zs w hlen hI
  have h3 := contains_any d ao len cap zs w hlen hI
  have h4 := fun w => weekend_any d w
  have hv : freeDayB d zs = (decide (0 ≤ d ∧ d ≤ 100000) && freeB zs && (decide (d ∈ zs) || decide (5 ≤ wd d))) := rfl
  rw [hv]
  clear hv hI
  generalize decide (0 ≤ d ∧ d ≤ 100000) = q1 at h1 ⊢
  generalize freeB zs = q2 at h2 ⊢
  generalize decide (d ∈ zs) = q3 at h3 ⊢
  generalize decide (5 ≤ wd d) = q4 at h4 ⊢
  have H1 := hid_intro h1
  have H2 := hid_intro h2
  have H3 := hid_intro h3
  have H4 := hid_intro h4
  clear h1 h2 h3 h4
  cases q1 <;> cases q2 <;> cases q3 <;> cases q4
  all_goals
    go_enter Try.func7, Try.ntmps7
    go_wp2_with (first | (go_at_call 10; refine (H1.out _).mono ?_; rintro e w' ⟨rfl, rfl⟩) | (go_at_call 11; refine H2.out.mono ?_; rintro e w' ⟨rfl, rfl⟩) | (go_at_call 13; refine H3.out.mono ?_; rintro e w' ⟨rfl, rfl⟩) | (go_at_call 12; refine (H4.out _).mono ?_; rintro e w' ⟨rfl, rfl⟩))
    go_ret
    exact ⟨rfl, rfl⟩
set_option maxHeartbeats 8000000 in
theorem spec_freeday (d : Int) (ao : Option Addr) (len cap : Nat) (zs : List Int) (w : World) (hlen : len ≤ 1048576) (hI : Ints ao len zs w) :
    Calls Try.prog 8 #[.int .i64 d, .slice ao len cap] w fun e w' => e = .returned (.bool (freeDayB d zs)) ∧ Drawn w w' := by
  have h1 := fun w => sday_any d w
  have h2 := spec_free ao len cap zs w hlen hI
  have h3 := fun w' (h : Drawn w w') => spec_isfree d ao len cap zs w' hlen (h.ints hI)
  have hv : freeDayB d zs = (decide (0 ≤ d ∧ d ≤ 100000) && freeB zs && isFreeB d zs) := rfl
  have hz : zs.length = len := hI.1
  have hbig : 400 < len → freeB zs = false := fun h => by unfold freeB; rw [hz, decide_eq_false (show ¬ len ≤ 60 by omega)]; rfl
  rw [hv]
  clear hv hI hz
  generalize decide (0 ≤ d ∧ d ≤ 100000) = q1 at h1 ⊢
  generalize freeB zs = q2 at h2 hbig ⊢
  generalize isFreeB d zs = q3 at h3 ⊢
  have H1 := hid_intro h1
  have H2 := hid_intro h2
  have H3 := hid_intro h3
  clear h1 h2 h3
  by_cases hl : len ≤ 400
  · have hl2 : (len : Int) ≤ 400 := by omega
    clear hbig
    cases q1
    · go_enter Try.func8, Try.ntmps8
      go_wp2_with (go_at_call 14; refine (H1.out _).mono ?_; rintro e w' ⟨rfl, rfl⟩)
      go_ret
      exact ⟨rfl, 0, rfl⟩
    · cases q2 <;> cases q3
      all_goals
        go_enter Try.func8, Try.ntmps8
        go_wp2_with (first | (go_at_call 14; refine (H1.out _).mono ?_; rintro e w' ⟨rfl, rfl⟩) | (go_at_call 15; refine H2.out.mono ?_; rintro e w1 ⟨rfl, hd⟩; have HD := hid_intro hd; clear hd) | (go_at_call 17; refine (H3.out _ HD.out).mono ?_; rintro e w' ⟨rfl, rfl⟩))
        go_ret
        exact ⟨rfl, HD.out⟩
  · have hl2 : ¬ (len : Int) ≤ 400 := by omega
    obtain rfl := hbig (by omega)
    clear hbig
    go_enter Try.func8, Try.ntmps8
    go_wp2_with fail
    go_ret
    exact ⟨ret_bool (by simp), 0, rfl⟩
end DateR
end Go.Proofs.Ytaihfidbpkbnkaa
