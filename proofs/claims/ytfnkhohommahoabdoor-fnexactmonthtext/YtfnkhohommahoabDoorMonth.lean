/-
  A minute's month and a month's first minute: both sides hand back the same. The condition: the program's table stands in its variable.
-/
import Derived.Test.YtfnkhohommahoabDoorDateBoth
import Derived.Test.YtfnkhohommahoabDoorMonthMath
namespace Go.Proofs.YtfnkhohommahoabDoor
open Go.ChangeShapes Go.WideShapes Go.ChangeAt Go.RowKit
set_option linter.unusedVariables false
namespace DateR
open DateM
theorem min_key (n : Int) : (0 ≤ n ∧ n ≤ 121000000) ∨ (¬ 0 ≤ n) ∨ (0 ≤ n ∧ ¬ n ≤ 121000000) := by omega
theorem mon_key (n : Int) : (0 ≤ n ∧ n ≤ 2760) ∨ (¬ 0 ≤ n) ∨ (0 ≤ n ∧ ¬ n ≤ 2760) := by omega
/-- What is known of a minute's month. -/
def MonthIs (n v : Int) : Prop := (0 ≤ n ∧ n ≤ 121000000 ∧ ∃ k : Nat, v = (k : Int) ∧ k ≤ 2771 ∧ fd k ≤ n / 1440 ∧ n / 1440 < fd (k + 1)) ∨ (¬ (0 ≤ n ∧ n ≤ 121000000) ∧ v = -1)
theorem impl_month_in (n y m d : Int) (h1 : 0 ≤ n) (h2 : n ≤ 121000000) (hy1 : 1970 ≤ y) (hy2 : y ≤ 2200) (hm1 : 1 ≤ m) (hm2 : m ≤ 12) (w : World) (hL : Laid w)
    (hd : ∀ w, Laid w → Calls Tryd.prog 15 #[.int .i64 (n.tdiv 1440)] w fun e w' => e = .returned (date y m d) ∧ Below w.heap.size w w') :
    Calls Tryd.prog 7 #[.int .i64 n] w fun e w' => e = .returned (.int .i64 (12 * (y - 1970) + (m - 1))) ∧ Below w.heap.size w w' := by
  have hb : 0 ≤ n.tdiv 1440 ∧ n.tdiv 1440 ≤ 121000000 := by rw [Int.tdiv_eq_ediv_of_nonneg h1]; omega
  obtain ⟨b1, b2⟩ := hb
  generalize hq : n.tdiv 1440 = q at *
  have HD := hid_intro hd
  have HL := hid_intro hL
  clear hd hL
  unfold date at *
  go_enter Tryd.func7, Tryd.ntmps7
  go_wp2_with (first | (go_at_call 14; go_in) | (go_at_call 28; go_in) | (go_at_call 15; (try rw [hq]); refine (HD.out _ HL.out).mono ?_; rintro e w1 ⟨rfl, hb1⟩))
  go_ret
  exact ⟨ret_int (by omega), hb1.alloc hb1.size _⟩
theorem spec_month_in (n y m d : Int) (h1 : 0 ≤ n) (h2 : n ≤ 121000000) (hy1 : 1970 ≤ y) (hy2 : y ≤ 2200) (hm1 : 1 ≤ m) (hm2 : m ≤ 12) (w : World)
    (hd : ∀ w, Calls Tryd.prog 27 #[.int .i64 (n.tdiv 1440)] w fun e w' => e = .returned (date y m d) ∧ Below w.heap.size w w') :
    Calls Tryd.prog 6 #[.int .i64 n] w fun e w' => e = .returned (.int .i64 (12 * (y - 1970) + (m - 1))) ∧ Below w.heap.size w w' := by
  have hb : 0 ≤ n.tdiv 1440 ∧ n.tdiv 1440 ≤ 121000000 := by rw [Int.tdiv_eq_ediv_of_nonneg h1]; omega
  obtain ⟨b1, b2⟩ := hb
  generalize hq : n.tdiv 1440 = q at *
  have HD := hid_intro hd
  clear hd
  unfold date at *
  go_enter Tryd.func6, Tryd.ntmps6
  go_wp2_with (first | (go_at_call 12; go_in) | (go_at_call 26; go_in) | (go_at_call 13; go_in) | (go_at_call 27; (try rw [hq]); refine (HD.out _).mono ?_; rintro e w1 ⟨rfl, hb1⟩))
  go_ret
  exact ⟨ret_int (by omega), hb1.alloc hb1.size _⟩
theorem impl_month_no (n : Int) (h : (¬ 0 ≤ n) ∨ (0 ≤ n ∧ ¬ n ≤ 121000000)) (w : World) : Calls Tryd.prog 7 #[.int .i64 n] w fun e w' => e = .returned (.int .i64 (-1)) ∧ Below w.heap.size w w' := by
  rcases h with h1 | ⟨h1, h2⟩
  all_goals
    go_enter Tryd.func7, Tryd.ntmps7
    go_wp2
    go_ret
    exact ⟨rfl, Below.refl _ _⟩
theorem spec_month_no (n : Int) (h : (¬ 0 ≤ n) ∨ (0 ≤ n ∧ ¬ n ≤ 121000000)) (w : World) : Calls Tryd.prog 6 #[.int .i64 n] w fun e w' => e = .returned (.int .i64 (-1)) ∧ Below w.heap.size w w' := by
  rcases h with h1 | ⟨h1, h2⟩
  all_goals
    go_enter Tryd.func6, Tryd.ntmps6
    go_wp2
    go_ret
    exact ⟨rfl, Below.refl _ _⟩
theorem month_both (n : Int) : ∃ v : Int, MonthIs n v ∧ (∀ w, Laid w → Calls Tryd.prog 7 #[.int .i64 n] w fun e w' => e = .returned (.int .i64 v) ∧ Below w.heap.size w w') ∧ (∀ w, Calls Tryd.prog 6 #[.int .i64 n] w fun e w' => e = .returned (.int .i64 v) ∧ Below w.heap.size w w') := by
  rcases min_key n with ⟨h1, h2⟩ | h
  · obtain ⟨y, m, d, hd, hi, hs⟩ := dateof_both (n.tdiv 1440)
    have e : n.tdiv 1440 = n / 1440 := Int.tdiv_eq_ediv_of_nonneg h1
    have := ys_231
    rcases hd with ⟨_, _, hr, hn⟩ | ⟨hx, _⟩
    · obtain ⟨k, k1, k2, k3, k4⟩ := num_fd y m d hr
      obtain ⟨y1, y2, m1, m2, _, _⟩ := (right_iff y m d).1 hr
      exact ⟨_, .inl ⟨h1, h2, k, k2, k1, by omega, by omega⟩, fun w hL => impl_month_in n y m d h1 h2 y1 y2 m1 m2 w hL hi, fun w => spec_month_in n y m d h1 h2 y1 y2 m1 m2 w hs⟩
    · omega
  · exact ⟨-1, .inr ⟨by omega, rfl⟩, fun w _ => impl_month_no n h w, fun w => spec_month_no n h w⟩
/-- What is known of a month's first minute. -/
def StartIs (m v : Int) : Prop := (∃ k : Nat, m = (k : Int) ∧ k ≤ 2760 ∧ v = fd k * 1440) ∨ (¬ (0 ≤ m ∧ m ≤ 2760) ∧ v = -1)
theorem mon_div (k : Nat) : (k : Int).tdiv 12 = ((k / 12 : Nat) : Int) ∧ (k : Int).tmod 12 = ((k % 12 : Nat) : Int) := by
  rw [Int.tdiv_eq_ediv_of_nonneg (by omega), Int.tmod_eq_emod_of_nonneg (by omega)]; omega
theorem first_any (k a b : Nat) (hk : k ≤ 2760) (ha : (k : Int).tdiv 12 = (a : Int)) (hb : (k : Int).tmod 12 = (b : Int)) (ha2 : a ≤ 230) (hb2 : b ≤ 11) (w : World) :
    Calls Tryd.prog 20 #[.int .i64 k] w fun e w' => e = .returned (date (1970 + (a : Int)) ((b : Int) + 1) 1) ∧ Below w.heap.size w w' := by
  go_enter Tryd.func20, Tryd.ntmps20
  go_wp2_with fail
  refine bodyPost_ret (v := date (1970 + (a : Int)) ((b : Int) + 1) 1) (by simp [date, results, Tryd.results20, go_sem]) rfl ⟨rfl, ?_⟩
  repeat' first | exact Below.refl _ _ | apply Below.setCell | apply Below.alloc
  all_goals first | omega | (simp; done) | (simp; omega)
theorem impl_start_in (k a b : Nat) (D : Int) (hk : k ≤ 2760) (ha : (k : Int).tdiv 12 = (a : Int)) (hb : (k : Int).tmod 12 = (b : Int)) (ha2 : a ≤ 230) (hb2 : b ≤ 11) (hD : 0 ≤ D) (hD2 : D ≤ 100000) (w : World) (hL : Laid w)
    (hd : ∀ w, Laid w → Calls Tryd.prog 19 #[date (1970 + (a : Int)) ((b : Int) + 1) 1] w fun e w' => e = .returned (.int .i64 D) ∧ Below w.heap.size w w') :
    Calls Tryd.prog 9 #[.int .i64 k] w fun e w' => e = .returned (.int .i64 (D * 1440)) ∧ Below w.heap.size w w' := by
  have HD := hid_intro hd
  have HL := hid_intro hL
  clear hd hL
  have k2 : (k : Int) ≤ 2760 := by omega
  have HF := hid_intro (fun w => first_any k a b hk ha hb ha2 hb2 w)
  unfold date at *
  go_enter Tryd.func9, Tryd.ntmps9
  go_wp2_with (first | (go_at_call 18; go_in) | (go_at_call 28; go_in) | (go_at_call 20; refine (HF.out _).mono ?_; rintro e w1 ⟨rfl, hb1⟩) | (go_at_call 19; refine (HD.out _ (HL.out.below hb1)).mono ?_; rintro e w2 ⟨rfl, hb2⟩))
  go_ret
  exact ⟨rfl, hb1.trans (hb2.mono hb1.size)⟩
theorem spec_start_in (k a b : Nat) (D : Int) (hk : k ≤ 2760) (ha : (k : Int).tdiv 12 = (a : Int)) (hb : (k : Int).tmod 12 = (b : Int)) (ha2 : a ≤ 230) (hb2 : b ≤ 11) (hD : 0 ≤ D) (hD2 : D ≤ 100000) (w : World)
    (hd : ∀ w, Calls Tryd.prog 32 #[date (1970 + (a : Int)) (1 + (b : Int)) 1] w fun e w' => e = .returned (.int .i64 D) ∧ Below w.heap.size w w') :
    Calls Tryd.prog 8 #[.int .i64 k] w fun e w' => e = .returned (.int .i64 (D * 1440)) ∧ Below w.heap.size w w' := by
  have HD := hid_intro hd
  clear hd
  have k2 : (k : Int) ≤ 2760 := by omega
  unfold date at *
  go_enter Tryd.func8, Tryd.ntmps8
  go_wp2_with (first | (go_at_call 16; go_in) | (go_at_call 26; go_in) | (go_at_call 17; go_in) | (go_at_call 32; refine (HD.out _).mono ?_; rintro e w1 ⟨rfl, hb1⟩))
  go_ret
  exact ⟨ret_int (by omega), hb1⟩
theorem impl_start_no (n : Int) (h : (¬ 0 ≤ n) ∨ (0 ≤ n ∧ ¬ n ≤ 2760)) (w : World) : Calls Tryd.prog 9 #[.int .i64 n] w fun e w' => e = .returned (.int .i64 (-1)) ∧ Below w.heap.size w w' := by
  rcases h with h1 | ⟨h1, h2⟩
  all_goals
    go_enter Tryd.func9, Tryd.ntmps9
    go_wp2
    go_ret
    exact ⟨rfl, Below.refl _ _⟩
theorem spec_start_no (n : Int) (h : (¬ 0 ≤ n) ∨ (0 ≤ n ∧ ¬ n ≤ 2760)) (w : World) : Calls Tryd.prog 8 #[.int .i64 n] w fun e w' => e = .returned (.int .i64 (-1)) ∧ Below w.heap.size w w' := by
  rcases h with h1 | ⟨h1, h2⟩
  all_goals
    go_enter Tryd.func8, Tryd.ntmps8
    go_wp2
    go_ret
    exact ⟨rfl, Below.refl _ _⟩
theorem start_both (m : Int) : ∃ v : Int, StartIs m v ∧ (∀ w, Laid w → Calls Tryd.prog 9 #[.int .i64 m] w fun e w' => e = .returned (.int .i64 v) ∧ Below w.heap.size w w') ∧ (∀ w, Calls Tryd.prog 8 #[.int .i64 m] w fun e w' => e = .returned (.int .i64 v) ∧ Below w.heap.size w w') := by
  rcases mon_key m with ⟨h1, h2⟩ | h
  · obtain ⟨k, rfl⟩ : ∃ k : Nat, m = k := ⟨m.toNat, by omega⟩
    have hr := right_first k (by omega)
    have hn := fd_num k
    have bd := fd_bd k
    rw [show (k : Int) / 12 = ((k / 12 : Nat) : Int) by omega, show (k : Int) % 12 = ((k % 12 : Nat) : Int) by omega] at hr hn
    obtain ⟨e1, e2⟩ := mon_div k
    have hi := fun w hL => impl_dayof_in (1970 + ((k / 12 : Nat) : Int)) (((k % 12 : Nat) : Int) + 1) 1 w hL hr
    have hs := fun w => spec_dayof_in (1970 + ((k / 12 : Nat) : Int)) (((k % 12 : Nat) : Int) + 1) 1 w hr
    rw [hn] at hi hs
    rw [Int.add_comm ((k % 12 : Nat) : Int) 1] at hs
    exact ⟨_, .inl ⟨k, rfl, by omega, rfl⟩, fun w hL => impl_start_in k (k / 12) (k % 12) (fd k) (by omega) e1 e2 (by omega) (by omega) (by omega) (by omega) w hL hi,
      fun w => spec_start_in k (k / 12) (k % 12) (fd k) (by omega) e1 e2 (by omega) (by omega) (by omega) (by omega) w hs⟩
  · exact ⟨-1, .inr ⟨by omega, rfl⟩, fun w _ => impl_start_no m h w, fun w => spec_start_no m h w⟩
end DateR
end Go.Proofs.YtfnkhohommahoabDoor
