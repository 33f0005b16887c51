/-
  A right minute's month: both sides hand back the same; whether an hour lies in a month. The condition: the program's table stands in its variable.
-/
import Derived.Test.YtalapnklmngoeaaDoorDateBoth
import Derived.Test.YtalapnklmngoeaaDoorWdM
namespace Go.Proofs.YtalapnklmngoeaaDoor
open Go.ChangeShapes Go.WideShapes Go.ChangeAt Go.RowKit
set_option linter.unusedVariables false
namespace WinR
open DateM DateR
theorem impl_month_in (n y m d : Int) (h1 : 0 ≤ n) (h2 : n ≤ 121000000) (hy1 : 1970 ≤ y) (hy2 : y ≤ 2200) (hm1 : 1 ≤ m) (hm2 : m ≤ 12) (w : World) (hL : Laid w)
    (hd : ∀ w, Laid w → Calls Tryd.prog 63 #[.int .i64 (n.tdiv 1440)] w fun e w' => e = .returned (date y m d) ∧ Below w.heap.size w w') :
    Calls Tryd.prog 59 #[.int .i64 n] w fun e w' => e = .returned (.int .i64 (12 * (y - 1970) + (m - 1))) ∧ Below w.heap.size w w' := by
  have hb : 0 ≤ n.tdiv 1440 ∧ n.tdiv 1440 ≤ 121000000 := by rw [Int.tdiv_eq_ediv_of_nonneg h1]; omega
  obtain ⟨b1, b2⟩ := hb
  generalize hq : n.tdiv 1440 = q at *
  have HD := hid_intro hd
  have HL := hid_intro hL
  clear hd hL
  unfold date at *
  go_enter Tryd.func59, Tryd.ntmps59
  go_wp2_with (first | (go_at_call 62; go_in) | (go_at_call 48; go_in) | (go_at_call 63; (try rw [hq]); refine (HD.out _ HL.out).mono ?_; rintro e w1 ⟨rfl, hb1⟩))
  go_ret
  exact ⟨ret_int (by omega), hb1.alloc hb1.size _⟩
theorem spec_month_in (n y m d : Int) (h1 : 0 ≤ n) (h2 : n ≤ 121000000) (hy1 : 1970 ≤ y) (hy2 : y ≤ 2200) (hm1 : 1 ≤ m) (hm2 : m ≤ 12) (w : World)
    (hd : ∀ w, Calls Tryd.prog 41 #[.int .i64 (n.tdiv 1440)] w fun e w' => e = .returned (date y m d) ∧ Below w.heap.size w w') :
    Calls Tryd.prog 34 #[.int .i64 n] w fun e w' => e = .returned (.int .i64 (12 * (y - 1970) + (m - 1))) ∧ Below w.heap.size w w' := by
  have hb : 0 ≤ n.tdiv 1440 ∧ n.tdiv 1440 ≤ 121000000 := by rw [Int.tdiv_eq_ediv_of_nonneg h1]; omega
  obtain ⟨b1, b2⟩ := hb
  generalize hq : n.tdiv 1440 = q at *
  have HD := hid_intro hd
  clear hd
  unfold date at *
  go_enter Tryd.func34, Tryd.ntmps34
  go_wp2_with (first | (go_at_call 41; (try rw [hq]); refine (HD.out _).mono ?_; rintro e w1 ⟨rfl, hb1⟩))
  go_ret
  exact ⟨ret_int (by omega), hb1.alloc hb1.size _⟩
theorem month_two (n : Int) (h1 : 0 ≤ n) (h2 : n ≤ 121000000) : ∃ k : Nat, k ≤ 2771 ∧ fd k ≤ n / 1440 ∧ n / 1440 < fd (k + 1) ∧ (∀ w, Laid w → Calls Tryd.prog 59 #[.int .i64 n] w fun e w' => e = .returned (.int .i64 (k : Int)) ∧ Below w.heap.size w w') ∧ (∀ w, Calls Tryd.prog 34 #[.int .i64 n] w fun e w' => e = .returned (.int .i64 (k : Int)) ∧ Below w.heap.size w w') := by
  obtain ⟨y, m, d, hd, hi, hs⟩ := dateof_both (n.tdiv 1440)
  have e : n.tdiv 1440 = n / 1440 := Int.tdiv_eq_ediv_of_nonneg h1
  have := ys_231
  rcases hd with ⟨_, _, hr, hn⟩ | ⟨hx, _⟩
  · obtain ⟨k, k1, k2, k3, k4⟩ := num_fd y m d hr
    obtain ⟨y1, y2, m1, m2, _, _⟩ := (right_iff y m d).1 hr
    exact ⟨k, k1, by omega, by omega, fun w hL => by rw [← k2]; exact impl_month_in n y m d h1 h2 y1 y2 m1 m2 w hL hi, fun w => by rw [← k2]; exact spec_month_in n y m d h1 h2 y1 y2 m1 m2 w hs⟩
  · omega
/-- Whether an hour lies in a month, the program's way. -/
theorem impl_hour_of (h mo : Int) (w : World) (hL : Laid w) :
    Calls Tryd.prog 53 #[.int .i64 h, .int .i64 mo] w fun e w' => e = .returned (.bool (hourIn h mo)) ∧ Below w.heap.size w w' := by
  rcases (show (¬ 0 ≤ h) ∨ (0 ≤ h ∧ ¬ h ≤ 2016666) ∨ (0 ≤ h ∧ h ≤ 2016666) by omega) with q | ⟨q, q2⟩ | ⟨q, q2⟩
  · rw [hour_far (fun x => q x.1)]
    clear hL
    go_enter Tryd.func53, Tryd.ntmps53
    go_wp2_with (go_at_call 48; go_in)
    go_ret
    exact ⟨rfl, Below.refl _ _⟩
  · rw [hour_far (fun x => q2 x.2)]
    clear hL
    go_enter Tryd.func53, Tryd.ntmps53
    go_wp2_with (go_at_call 48; go_in)
    go_ret
    exact ⟨rfl, Below.refl _ _⟩
  · obtain ⟨k, k1, f1, f2, hi, hs⟩ := month_two (60 * h) (by omega) (by omega)
    rw [hour_month q q2 k rfl f1 f2]
    have HI := hid_intro (hi w hL)
    clear hL hi hs f1 f2
    have hm : h * 60 = 60 * h := by omega
    generalize hq : 60 * h = n at *
    by_cases he : (k : Int) = mo
    · subst he
      rw [decide_eq_true rfl]
      go_enter Tryd.func53, Tryd.ntmps53
      go_wp2_with (first | (go_at_call 48; go_in) | (go_at_call 59; (try rw [hm]); refine HI.out.mono ?_; rintro e w1 ⟨rfl, hb1⟩))
      go_ret
      exact ⟨rfl, hb1⟩
    · rw [decide_eq_false he]
      have he2 : ((k : Int) == mo) = false := by simpa using he
      go_enter Tryd.func53, Tryd.ntmps53
      go_wp2_with (first | (go_at_call 48; go_in) | (go_at_call 59; (try rw [hm]); refine HI.out.mono ?_; rintro e w1 ⟨rfl, hb1⟩))
      go_ret
      exact ⟨ret_bool (by first | rfl | simpa using he), hb1⟩
end WinR
end Go.Proofs.YtalapnklmngoeaaDoor
