/-
  Whether a date is right: either side tells the same. The condition: the program's table stands in its variable.
  A date's day: either side tells the same. The condition: the program's table stands in its variable.
  A day's date, the program's side. The condition: the program's table stands in its variable.
  A day's date, the model's side. No condition.
  A day's date: both sides hand back the same; of a day within the years it is a right date, whose day is that one. The condition: the program's table stands in its variable.
  A right minute's month: both sides hand back the same; whether an hour lies in a month. The condition: the program's table stands in its variable.
-/
import Derived.Test.YtcilbmhkhllmjaaGreatDoorB12
namespace Go.Proofs.YtcilbmhkhllmjaaGreatDoor
open Go.ChangeShapes Go.WideShapes Go.ChangeAt Go.RowKit
set_option linter.unusedVariables false
namespace DateR
open DateM
theorem right_cut (y m d X : Int) (hX : X = mdays y m) : (decide (1970 ≤ y ∧ y ≤ 2200) = false ∧ rightB y m d = false) ∨ (decide (1970 ≤ y ∧ y ≤ 2200) = true ∧ decide (1 ≤ m ∧ m ≤ 12) = false ∧ rightB y m d = false) ∨ (decide (1970 ≤ y ∧ y ≤ 2200) = true ∧ decide (1 ≤ m ∧ m ≤ 12) = true ∧ decide (1 ≤ d ∧ d ≤ X) = rightB y m d) := by
  have hr := right_iff y m d
  by_cases h1 : 1970 ≤ y ∧ y ≤ 2200
  · by_cases h2 : 1 ≤ m ∧ m ≤ 12
    · exact .inr (.inr ⟨decide_eq_true h1, decide_eq_true h2, by rw [hX]; rfl⟩)
    · refine .inr (.inl ⟨decide_eq_true h1, decide_eq_false h2, ?_⟩)
      cases h : rightB y m d
      · rfl
      · have := hr.1 h; exact absurd ⟨this.2.2.1, this.2.2.2.1⟩ h2
  · refine .inl ⟨decide_eq_false h1, ?_⟩
    cases h : rightB y m d
    · rfl
    · have := hr.1 h; exact absurd ⟨this.1, this.2.1⟩ h1
theorem is_any (n low high : Int) (w : World) :
    Calls Tryz.prog 69 #[.int .i64 n, .int .i64 low, .int .i64 high] w fun e w' => e = .returned (.bool (decide (low ≤ n ∧ n ≤ high))) ∧ w' = w := by
  by_cases h1 : low ≤ n
  · go_enter Tryz.func69, Tryz.ntmps69
    go_wp2
    go_ret
    exact ⟨ret_bool (by simp [h1]), rfl⟩
  · go_enter Tryz.func69, Tryz.ntmps69
    go_wp2
    go_ret
    exact ⟨ret_bool (by rw [decide_eq_false (show ¬ low ≤ n by omega)]; rfl), rfl⟩
theorem year_any (n : Int) (w : World) :
    Calls Tryz.prog 180 #[.int .i64 n] w fun e w' => e = .returned (.bool (decide (1970 ≤ n ∧ n ≤ 2200))) ∧ w' = w := by
  go_enter Tryz.func180, Tryz.ntmps180
  go_wp2_with (go_at_call 69; refine (is_any _ _ _ _).mono ?_; rintro e w' ⟨rfl, rfl⟩)
  go_ret
  exact ⟨ret_bool (by simp), rfl⟩
/-- What is held through the region: the date's own cells. -/
def Box (w : World) (B : Nat) (y m d : Int) (w' : World) : Prop := Below B w w' ∧ B < w'.heap.size ∧ w'.cell? ⟨B, 0, none⟩ = some (.int .i64 y) ∧ w'.cell? ⟨B, 1, none⟩ = some (.int .i64 m) ∧ w'.cell? ⟨B, 2, none⟩ = some (.int .i64 d)
theorem Box.below {w w1 w2 : World} {B : Nat} {y m d : Int} (h : Box w B y m d w1) (hb : Below w1.heap.size w1 w2) : Box w B y m d w2 :=
  ⟨h.1.trans (hb.mono (by have := h.2.1; omega)), by have := hb.size; have := h.2.1; omega, by rw [hb.cell (p := ⟨B, 0, none⟩) h.2.1]; exact h.2.2.1, by rw [hb.cell (p := ⟨B, 1, none⟩) h.2.1]; exact h.2.2.2.1, by rw [hb.cell (p := ⟨B, 2, none⟩) h.2.1]; exact h.2.2.2.2⟩
set_option maxHeartbeats 8000000 in
theorem spec_right (y m d : Int) (w : World) :
    Calls Tryz.prog 207 #[date y m d] w fun e w' => e = .returned (.bool (rightB y m d)) ∧ Below w.heap.size w w' := by
  unfold date
  obtain ⟨X, hX⟩ : ∃ X, X = mdays y m := ⟨_, rfl⟩
  have key := right_cut y m d X hX
  have HI := hid_intro (fun w => spec_md y m w)
  rw [← hX] at HI
  clear hX
  generalize rightB y m d = r at key ⊢
  have HB0 := hid_intro ((((Below.refl w.heap.size w).alloc (Nat.le_refl _) (Obj.cells #[.int .i64 y, .int .i64 m, .int .i64 d] 208))).drew)
  have key2 : ∃ q1 q2 : Bool, decide (1970 ≤ y ∧ y ≤ 2200) = q1 ∧ decide (1 ≤ m ∧ m ≤ 12) = q2 ∧ Hid ((q1 = false ∧ r = false) ∨ (q1 = true ∧ q2 = false ∧ r = false) ∨ (q1 = true ∧ q2 = true ∧ decide (1 ≤ d ∧ d ≤ X) = r)) := ⟨_, _, rfl, rfl, key⟩
  clear key
  obtain ⟨q1, q2, h1, h2, H3⟩ := key2
  cases q1
  · go_enter Tryz.func207, Tryz.ntmps207
    go_wp2
    go_quiet ((first | (go_at_call 180; exact Calls.quiet_of_same (year_any _ _)) | (go_at_call 69; exact Calls.quiet_of_same (is_any _ _ _ _))))
    go_wp2
    go_ret
    exact ⟨ret_bool (by rcases H3.out with h | h | h <;> simp_all), bel_drewN ((Below.refl _ _).alloc (Nat.le_refl _) _) _⟩
  cases q2
  · go_enter Tryz.func207, Tryz.ntmps207
    go_wp2
    go_quiet ((first | (go_at_call 180; exact Calls.quiet_of_same (year_any _ _)) | (go_at_call 69; exact Calls.quiet_of_same (is_any _ _ _ _))))
    go_wp2
    go_ret
    exact ⟨ret_bool (by rcases H3.out with h | h | h <;> simp_all), bel_drewN ((Below.refl _ _).alloc (Nat.le_refl _) _) _⟩
  · go_enter Tryz.func207, Tryz.ntmps207
    go_wp2
    go_region_held3 (fun w' => Below w.heap.size w w' ∧ w.heap.size < w'.heap.size ∧ w'.cell? ⟨w.heap.size, 0, none⟩ = some (.int .i64 y) ∧ w'.cell? ⟨w.heap.size, 1, none⟩ = some (.int .i64 m) ∧ w'.cell? ⟨w.heap.size, 2, none⟩ = some (.int .i64 d)) (first | assumption | (refine ⟨HB0.out, ?_⟩; go_keep; done) | (exact Box.below (w := w) (B := w.heap.size) (y := y) (m := m) (d := d) (by assumption) hb))
        (first | (go_at_call 180; refine (year_any _ _).mono ?_; rintro e w' ⟨rfl, rfl⟩) | (go_at_call 69; refine (is_any _ _ _ _).mono ?_; rintro e w' ⟨rfl, rfl⟩) | (go_at_call 181; refine (HI.out _).mono ?_; rintro e w' ⟨rfl, hb⟩))
    go_wp2
    rename_i hS
    go_ret
    exact ⟨ret_bool (by rcases H3.out with h | h | h <;> simp_all), hS.1⟩
end DateR
end Go.Proofs.YtcilbmhkhllmjaaGreatDoor
namespace Go.Proofs.YtcilbmhkhllmjaaGreatDoor
open Go.ChangeShapes Go.WideShapes Go.ChangeAt Go.RowKit
set_option linter.unusedVariables false
namespace DateR
open DateM
theorem impl_yd (y : Int) (w : World) : Calls Tryz.prog 212 #[.int .i64 y] w fun e w' => e = .returned (.int .i64 (yd y)) ∧ w' = w := by
  have hi := fun w => impl_leap y w
  unfold yd
  cases hl : leapB y
  all_goals
    rw [hl] at hi
    clear hl
    go_enter Tryz.func212, Tryz.ntmps212
    go_wp2_with (go_at_call 214; refine (hi _).mono ?_; rintro e w' ⟨rfl, rfl⟩)
    go_ret
    exact ⟨rfl, rfl⟩
theorem spec_yd (y : Int) (w : World) : Calls Tryz.prog 179 #[.int .i64 y] w fun e w' => e = .returned (.int .i64 (yd y)) ∧ w' = w := by
  have hi := fun w => spec_leap y w
  unfold yd
  cases hl : leapB y
  all_goals
    rw [hl] at hi
    clear hl
    go_enter Tryz.func179, Tryz.ntmps179
    go_wp2_with (go_at_call 202; refine (hi _).mono ?_; rintro e w' ⟨rfl, rfl⟩)
    go_ret
    exact ⟨rfl, rfl⟩
theorem add_year (D : Int) (k : Nat) (h1 : 0 ≤ D) (h2 : D ≤ 30) (hk : k ≤ 230) : wrap64 (D + ys k + yd (1970 + (k : Int))) = D + ys (k + 1) := by
  have a := ys_bd k
  have b := yd_bd (1970 + (k : Int))
  rw [ys_succ]
  unfold wrap64
  omega
theorem add_month (E y : Int) (k : Nat) (h1 : 0 ≤ E) (h2 : E ≤ 90000) (hk : k < 12) (y1 : 1970 ≤ y) (y2 : y ≤ 2200) : wrap64 (E + ms y k + mdays y ((k : Int) + 1)) = E + ms y (k + 1) := by
  have a := ms_bd y k
  have b := md_bd y ((k : Int) + 1)
  have c : mdays y ((k : Int) + 1) = md y ((k : Int) + 1) := if_pos (by omega)
  rw [c, ms_succ]
  unfold wrap64
  omega
theorem day_parts (y m d : Int) (h : rightB y m d = true) : ∃ K M : Nat, K ≤ 230 ∧ M ≤ 11 ∧ y - 1970 = (K : Int) ∧ m - 1 = (M : Int) ∧ 1 ≤ d ∧ d ≤ 31 ∧ Hid (num y m d = d - 1 + ys K + ms y M) ∧ 1970 ≤ y ∧ y ≤ 2200 ∧ 1 ≤ m ∧ m ≤ 12 := by
  obtain ⟨y1, y2, m1, m2, d1, d2⟩ := (right_iff y m d).1 h
  have b := md_bd y m
  refine ⟨(y - 1970).toNat, (m - 1).toNat, by omega, by omega, by omega, by omega, d1, by omega, rfl, y1, y2, m1, m2⟩
set_option maxHeartbeats 4000000 in
theorem spec_dayof_in (y m d : Int) (w : World) (h : rightB y m d = true) :
    Calls Tryz.prog 199 #[date y m d] w fun e w' => e = .returned (.int .i64 (num y m d)) ∧ Below w.heap.size w w' := by
  obtain ⟨K, M, hK, hM, eK, eM, d1, d2, HN, y1, y2, m1, m2⟩ := day_parts y m d h
  have eY : y = 1970 + (K : Int) := by omega
  have eM2 : m = (M : Int) + 1 := by omega
  have hr := fun w => spec_right y m d w
  rw [h] at hr
  have HB0 := hid_intro ((Below.refl w.heap.size w).alloc (Nat.le_refl _) (Obj.cells #[.int .i64 y, .int .i64 m, .int .i64 d] 208))
  clear h eK eM
  subst eY eM2
  unfold date at *
  go_enter Tryz.func199, Tryz.ntmps199
  go_wp2_with fail
  refine (hr _).mono ?_
  rintro e w1 ⟨rfl, hb1⟩
  have g0 := hb1.cell (p := ⟨w.heap.size, 0, none⟩) (by simp)
  have g1 := hb1.cell (p := ⟨w.heap.size, 1, none⟩) (by simp)
  have g2 := hb1.cell (p := ⟨w.heap.size, 2, none⟩) (by simp)
  have hsz : w.heap.size < w1.heap.size := by have := hb1.size; simp at this; omega
  simp [go_sem] at g0 g1 g2
  have HB := hid_intro (HB0.out.trans (hb1.mono (by simp)))
  clear hb1 HB0
  go_wp2_with fail
  go_loop [3, 4] (fun x z => ∃ k : Nat, k ≤ K ∧ z = .int .i64 (1970 + (k : Int)) ∧ x = .int .i64 (d - 1 + ys k)) (fun _ z => K + 1970 - (intOf z).toNat)
  case atStart => exact ⟨0, by omega, rfl, by simp [ys]⟩
  case round =>
    obtain ⟨k, hk, rfl, rfl⟩ := hrel
    by_cases hlt : k < K
    · have hs := hid_intro (add_year (d - 1) k (by omega) (by omega) (by omega))
      have hk2 : (k : Int) ≤ 230 := by omega
      have hlt2 : (1970 : Int) + k < 1970 + K := by omega
      go_wp2_with (go_at_call 179; refine (spec_yd _ _).mono ?_; rintro e w' ⟨rfl, rfl⟩)
      go_round
      case rel => exact ⟨k + 1, by omega, by go_num, by rw [hs.out]⟩
      case measure => simp [intOf]; omega
    · obtain rfl : k = K := by omega
      obtain ⟨E, hE⟩ : ∃ E, E = d - 1 + ys k := ⟨_, rfl⟩
      have hE2 : 0 ≤ E ∧ E ≤ 90000 := by have := ys_bd k; omega
      rw [← hE] at HN ⊢
      clear hE
      go_wp2_with fail
      go_loopw [3, 5] (fun x z wr => ∃ j : Nat, j ≤ M ∧ z = .int .i64 ((j : Int) + 1) ∧ x = .int .i64 (E + ms (1970 + (k : Int)) j) ∧ Hid (Below w1.heap.size w1 wr)) (fun _ z _ => M + 1 - (intOf z).toNat)
      case atStart => exact ⟨0, by omega, rfl, by simp [ms], Below.refl _ _⟩
      case round =>
        obtain ⟨j, hj, rfl, rfl, HR⟩ := hrel
        have q0 := (HR.out.cell (p := ⟨w.heap.size, 0, none⟩) hsz).trans g0
        have q1 := (HR.out.cell (p := ⟨w.heap.size, 1, none⟩) hsz).trans g1
        by_cases hlt2 : j < M
        · have hs := hid_intro (add_month E (1970 + (k : Int)) j hE2.1 hE2.2 (by omega) y1 y2)
          have hk2 : (j : Int) + 1 ≤ 12 := by omega
          have hlt3 : (j : Int) + 1 < (M : Int) + 1 := by omega
          go_wp2_with (go_at_call 181; refine (spec_md _ _ _).mono ?_; rintro e w' ⟨rfl, hb⟩)
          have HR2 := hid_intro (HR.out.trans (hb.mono HR.out.size))
          clear hb
          go_roundw
          case rel => exact ⟨j + 1, by omega, by go_num, by rw [hs.out], HR2⟩
          case measure => simp [intOf]; omega
        · obtain rfl : j = M := by omega
          go_wp2_with fail
          go_ret
          exact ⟨ret_int HN.out.symm, HB.out.trans (HR.out.mono HB.out.size)⟩
theorem spec_dayof (y m d : Int) (w : World) :
    Calls Tryz.prog 199 #[date y m d] w fun e w' => e = .returned (.int .i64 (if rightB y m d = true then num y m d else -1)) ∧ Below w.heap.size w w' := by
  cases h : rightB y m d
  · have hr := fun w => spec_right y m d w
    rw [h] at hr
    clear h
    unfold date at *
    go_enter Tryz.func199, Tryz.ntmps199
    go_wp2_with (go_at_call 207; refine (hr _).mono ?_; rintro e w1 ⟨rfl, hb1⟩)
    go_ret
    exact ⟨rfl, bel_alloc hb1⟩
  · rw [if_pos rfl]
    exact spec_dayof_in y m d w h
end DateR
end Go.Proofs.YtcilbmhkhllmjaaGreatDoor
namespace Go.Proofs.YtcilbmhkhllmjaaGreatDoor
open Go.ChangeShapes Go.WideShapes Go.ChangeAt Go.RowKit
set_option linter.unusedVariables false
namespace DateR
open DateM
theorem less_month (y left : Int) (j J : Nat) (h1 : ms y J ≤ left) (h2 : left < ms y (J + 1)) (hj : j ≤ J) (hJ : J < 12) (y1 : 1970 ≤ y) (y2 : y ≤ 2200) :
    ∃ L X : Int, L = left - ms y j ∧ X = mdays y ((j : Int) + 1) ∧ 0 ≤ L ∧ L ≤ 400 ∧ 28 ≤ X ∧ X ≤ 31 ∧ (j < J → ¬ L < X) ∧ (j = J → L < X) ∧ L - X = left - ms y (j + 1) := by
  have a := ms_mono y hj
  have b := ms_bd y (J + 1)
  have b2 := ms_bd y j
  have c : mdays y ((j : Int) + 1) = md y ((j : Int) + 1) := if_pos (by omega)
  have d := md_bd y ((j : Int) + 1)
  have e := ms_succ y j
  refine ⟨_, _, rfl, rfl, by omega, by omega, by omega, by omega, fun h => ?_, fun h => ?_, by omega⟩
  · have := ms_mono y (show j + 1 ≤ J from h)
    omega
  · subst h; omega
set_option maxRecDepth 100000 in
set_option maxHeartbeats 4000000 in
theorem iny (y left : Int) (J : Nat) (h1 : ms y J ≤ left) (h2 : left < ms y (J + 1)) (hJ : J < 12) (y1 : 1970 ≤ y) (y2 : y ≤ 2200) (w : World) (hL : Laid w) :
    Calls Tryz.prog 213 #[.int .i64 y, .int .i64 left] w fun e w' => e = .returned (date y ((J : Int) + 1) (left - ms y J + 1)) ∧ Below w.heap.size w w' := by
  have HB0 := hid_intro ((Below.refl w.heap.size w).alloc (Nat.le_refl _) (Obj.cells #[.int .i64 0, .int .i64 0, .int .i64 0] 208))
  have HL := hid_intro (hL.below HB0.out)
  have H := fun j hj => less_month y left j J h1 h2 hj hJ y1 y2
  have HH := hid_intro H
  clear H hL h1 h2
  go_enter Tryz.func213, Tryz.ntmps213
  go_wp2_with fail
  go_loop [1, 7] (fun x z => ∃ j : Nat, j ≤ J ∧ z = .int .i64 j ∧ x = .int .i64 (left - ms y j)) (fun _ z => J + 1 - (intOf z).toNat)
  case atStart => exact ⟨0, by omega, rfl, by simp [ms]⟩
  case round =>
    obtain ⟨j, hj, rfl, rfl⟩ := hrel
    obtain ⟨L, X, hLe, hX, l0, l1, x0, x1, f1, f2, f3⟩ := HH.out j hj
    have HI := hid_intro (impl_md y ((j : Int) + 1) _ HL.out)
    rw [← hX] at HI
    rw [← hLe]
    have HF := hid_intro f3
    have j2 : (j : Int) < 12 := by omega
    have HLe := hid_intro hLe
    clear hLe hX f3
    by_cases hlt : j < J
    · have hn := f1 hlt
      clear f1 f2
      go_wp2_with (go_at_call 215; refine HI.out.mono ?_; rintro e w' ⟨rfl, rfl⟩)
      go_round
      case rel => exact ⟨j + 1, by omega, by go_num, by rw [HF.out]⟩
      case measure => simp [intOf]; omega
    · obtain rfl : j = J := by omega
      have hn := f2 rfl
      clear f1 f2
      go_wp2_with (go_at_call 215; refine HI.out.mono ?_; rintro e w' ⟨rfl, rfl⟩)
      rw [← HLe.out]
      refine bodyPost_ret (v := date y ((j : Int) + 1) (L + 1)) (by simp [date, results, Tryz.results213, go_sem]) rfl ⟨rfl, ?_⟩
      repeat' first | exact HB0.out | apply Below.setCell
      all_goals first | exact Nat.le_refl _ | exact (Below.refl _ _).alloc (Nat.le_refl _) _
theorem less_year (day : Int) (j K : Nat) (h1 : ys K ≤ day) (h2 : day < ys (K + 1)) (hj : j ≤ K) (hd : day ≤ 100000) :
    ∃ L X : Int, L = day - ys j ∧ X = yd (1970 + (j : Int)) ∧ 0 ≤ L ∧ L ≤ 100000 ∧ 365 ≤ X ∧ X ≤ 366 ∧ (j < K → ¬ L < X) ∧ (j = K → L < X) ∧ L - X = day - ys (j + 1) := by
  have a := ys_mono hj
  have b2 := ys_bd j
  have d := yd_bd (1970 + (j : Int))
  have e := ys_succ j
  refine ⟨_, _, rfl, rfl, by omega, by omega, by omega, by omega, fun h => ?_, fun h => ?_, by omega⟩
  · have := ys_mono (show j + 1 ≤ K from h)
    omega
  · subst h; omega
set_option maxRecDepth 100000 in
set_option maxHeartbeats 4000000 in
theorem impl_dateof_in (day : Int) (K J : Nat) (d0 : 0 ≤ day) (d1 : day ≤ 100000) (h1 : ys K ≤ day) (h2 : day < ys (K + 1)) (hK : K ≤ 230) (m1 : ms (1970 + (K : Int)) J ≤ day - ys K) (m2 : day - ys K < ms (1970 + (K : Int)) (J + 1)) (hJ : J < 12) (w : World) (hL : Laid w) :
    Calls Tryz.prog 210 #[.int .i64 day] w fun e w' => e = .returned (date (1970 + (K : Int)) ((J : Int) + 1) (day - ys K - ms (1970 + (K : Int)) J + 1)) ∧ Below w.heap.size w w' := by
  have HB0 := hid_intro ((Below.refl w.heap.size w).alloc (Nat.le_refl _) (Obj.cells #[.int .i64 0, .int .i64 0, .int .i64 0] 208))
  have HL := hid_intro (hL.below HB0.out)
  have HH := hid_intro (fun j hj => less_year day j K h1 h2 hj d1)
  have HY := hid_intro (fun w hL => iny (1970 + (K : Int)) (day - ys K) J m1 m2 hJ (by omega) (by omega) w hL)
  clear hL h1 h2 m1 m2
  go_enter Tryz.func210, Tryz.ntmps210
  go_wp2_with (first | (go_at_call 211; go_in) | (go_at_call 66; go_in))
  go_loop [3, 11] (fun x z => ∃ j : Nat, j ≤ K ∧ z = .int .i64 j ∧ x = .int .i64 (day - ys j)) (fun _ z => K + 1 - (intOf z).toNat)
  case atStart => exact ⟨0, by omega, rfl, by simp [ys]⟩
  case round =>
    obtain ⟨j, hj, rfl, rfl⟩ := hrel
    obtain ⟨L, X, hLe, hX, l0, l1, x0, x1, f1, f2, f3⟩ := HH.out j hj
    have HI := hid_intro (fun w => impl_yd (1970 + (j : Int)) w)
    rw [← hX] at HI
    rw [← hLe]
    have HF := hid_intro f3
    have j2 : (j : Int) < 231 := by omega
    have HLe := hid_intro hLe
    clear hLe hX f3
    by_cases hlt : j < K
    · have hn := f1 hlt
      clear f1 f2
      go_wp2_with (go_at_call 212; refine (HI.out _).mono ?_; rintro e w' ⟨rfl, rfl⟩)
      go_round
      case rel => exact ⟨j + 1, by omega, by go_num, by rw [HF.out]⟩
      case measure => simp [intOf]; omega
    · obtain rfl : j = K := by omega
      have hn := f2 rfl
      rw [← HLe.out] at HY
      obtain ⟨D, hD⟩ : ∃ D, D = L - ms (1970 + (j : Int)) J + 1 := ⟨_, rfl⟩
      rw [← hD] at HY
      have HD := hid_intro hD
      clear f1 f2 hD HH
      unfold date at *
      go_wp2_with (first | (go_at_call 212; refine (HI.out _).mono ?_; rintro e w' ⟨rfl, rfl⟩) | (go_at_call 213; refine (HY.out _ HL.out).mono ?_; rintro e w2 ⟨rfl, hb⟩; obtain ⟨hc, hz⟩ := bcell hb))
      refine bodyPost_ret (v := date (1970 + (j : Int)) ((J : Int) + 1) D) (by simp [date, results, Tryz.results210, go_sem, hc]) rfl ⟨by rw [HD.out, HLe.out], ?_⟩
      exact (((bel_alloc hb).setCell (by simp) _).setCell (by simp) _).setCell (by simp) _
theorem past_year (day : Int) (j K : Nat) (h1 : ys K ≤ day) (hK : 231 ≤ K) (hj : j ≤ 231) (hd : day ≤ 100000) (d0 : 0 ≤ day) :
    ∃ L X : Int, L = day - ys j ∧ X = yd (1970 + (j : Int)) ∧ 0 ≤ L ∧ L ≤ 100000 ∧ 365 ≤ X ∧ X ≤ 366 ∧ (j < 231 → ¬ L < X) ∧ L - X = day - ys (j + 1) := by
  have a := ys_mono (show j ≤ K by omega)
  have b2 := ys_bd j
  have d := yd_bd (1970 + (j : Int))
  have e := ys_succ j
  refine ⟨_, _, rfl, rfl, by omega, by omega, by omega, by omega, fun h => ?_, by omega⟩
  have := ys_mono (show j + 1 ≤ K by omega)
  omega
set_option maxRecDepth 100000 in
set_option maxHeartbeats 4000000 in
theorem impl_dateof_past (day : Int) (K : Nat) (d0 : 0 ≤ day) (d1 : day ≤ 100000) (h1 : ys K ≤ day) (hK : 231 ≤ K) (w : World) :
    Calls Tryz.prog 210 #[.int .i64 day] w fun e w' => e = .returned (date 0 0 0) ∧ Below w.heap.size w w' := by
  have HB0 := hid_intro ((Below.refl w.heap.size w).alloc (Nat.le_refl _) (Obj.cells #[.int .i64 0, .int .i64 0, .int .i64 0] 208))
  have HH := hid_intro (fun j hj => past_year day j K h1 hK hj d1 d0)
  clear h1 hK
  go_enter Tryz.func210, Tryz.ntmps210
  go_wp2_with (first | (go_at_call 211; go_in) | (go_at_call 66; go_in))
  go_loop [3, 11] (fun x z => ∃ j : Nat, j ≤ 231 ∧ z = .int .i64 j ∧ x = .int .i64 (day - ys j)) (fun _ z => 232 - (intOf z).toNat)
  case atStart => exact ⟨0, by omega, rfl, by simp [ys]⟩
  case round =>
    obtain ⟨j, hj, rfl, rfl⟩ := hrel
    obtain ⟨L, X, hLe, hX, l0, l1, x0, x1, f1, f3⟩ := HH.out j hj
    have HI := hid_intro (fun w => impl_yd (1970 + (j : Int)) w)
    rw [← hX] at HI
    rw [← hLe]
    have HF := hid_intro f3
    clear hLe hX f3
    by_cases hlt : j < 231
    · have hn := f1 hlt
      have j2 : (j : Int) < 231 := by omega
      clear f1
      go_wp2_with (go_at_call 212; refine (HI.out _).mono ?_; rintro e w' ⟨rfl, rfl⟩)
      go_round
      case rel => exact ⟨j + 1, by omega, by go_num, by rw [HF.out]⟩
      case measure => simp [intOf]; omega
    · have j2 : ¬ (j : Int) < 231 := by omega
      clear f1
      go_wp2_with fail
      refine bodyPost_ret (v := date 0 0 0) (by simp [date, results, Tryz.results210, go_sem]) rfl ⟨rfl, ?_⟩
      repeat' first | exact HB0.out | apply Below.setCell
      all_goals first | exact Nat.le_refl _ | exact (Below.refl _ _).alloc (Nat.le_refl _) _
theorem impl_dateof_none (day : Int) (h : day < 0 ∨ 100000 < day) (w : World) :
    Calls Tryz.prog 210 #[.int .i64 day] w fun e w' => e = .returned (date 0 0 0) ∧ Below w.heap.size w w' := by
  have key : (¬ 0 ≤ day) ∨ (0 ≤ day ∧ ¬ day ≤ 100000) := by omega
  clear h
  rcases key with h1 | ⟨h1, h2⟩
  all_goals
    go_enter Tryz.func210, Tryz.ntmps210
    go_wp2
    refine bodyPost_ret (v := date 0 0 0) (by simp [date, results, Tryz.results210, go_sem]) rfl ⟨rfl, ?_⟩
    repeat' first | exact Below.refl _ _ | apply Below.setCell | apply Below.alloc
    all_goals first | omega | (simp; done) | (simp; omega)
end DateR
end Go.Proofs.YtcilbmhkhllmjaaGreatDoor
namespace Go.Proofs.YtcilbmhkhllmjaaGreatDoor
open Go.ChangeShapes Go.WideShapes Go.ChangeAt Go.RowKit
set_option linter.unusedVariables false
namespace DateR
open DateM
/-- The model's two blocks: what is handed back, and the date that is reckoned. -/
structure Two (w wr : World) (y m : Int) : Prop where
  bel : Below w.heap.size w wr
  lt : w.heap.size + 1 < wr.heap.size
  r0 : wr.cell? ⟨w.heap.size, 0, none⟩ = some (.int .i64 0)
  r1 : wr.cell? ⟨w.heap.size, 1, none⟩ = some (.int .i64 0)
  r2 : wr.cell? ⟨w.heap.size, 2, none⟩ = some (.int .i64 0)
  c0 : wr.cell? ⟨w.heap.size + 1, 0, none⟩ = some (.int .i64 y)
  c1 : wr.cell? ⟨w.heap.size + 1, 1, none⟩ = some (.int .i64 m)
  c2 : wr.cell? ⟨w.heap.size + 1, 2, none⟩ = some (.int .i64 0)
  f0 : wr.frozen? ⟨w.heap.size, 0, none⟩ = false
  f1 : wr.frozen? ⟨w.heap.size, 1, none⟩ = false
  f2 : wr.frozen? ⟨w.heap.size, 2, none⟩ = false
  g0 : wr.frozen? ⟨w.heap.size + 1, 0, none⟩ = false
  g1 : wr.frozen? ⟨w.heap.size + 1, 1, none⟩ = false
  g2 : wr.frozen? ⟨w.heap.size + 1, 2, none⟩ = false
theorem Two.start (w : World) : Two w ((w.alloc (Obj.cells #[.int .i64 0, .int .i64 0, .int .i64 0] 208)).alloc (Obj.cells #[.int .i64 1970, .int .i64 1, .int .i64 0] 208)) 1970 1 where
  bel := ((Below.refl _ _).alloc (Nat.le_refl _) _).alloc (by simp) _
  lt := by simp
  r0 := by simp [go_sem]
  r1 := by simp [go_sem]
  r2 := by simp [go_sem]
  c0 := by simp [go_sem]
  c1 := by simp [go_sem]
  c2 := by simp [go_sem]
  f0 := by simp [go_sem]
  f1 := by simp [go_sem]
  f2 := by simp [go_sem]
  g0 := by simp [go_sem]
  g1 := by simp [go_sem]
  g2 := by simp [go_sem]
theorem Two.below {w w1 w2 : World} {y m : Int} (h : Two w w1 y m) (hb : Below w1.heap.size w1 w2) : Two w w2 y m where
  bel := h.bel.trans (hb.mono h.bel.size)
  lt := by have := hb.size; have := h.lt; omega
  r0 := (hb.cell (p := ⟨w.heap.size, 0, none⟩) (by have := h.lt; simp only; omega)).trans h.r0
  r1 := (hb.cell (p := ⟨w.heap.size, 1, none⟩) (by have := h.lt; simp only; omega)).trans h.r1
  r2 := (hb.cell (p := ⟨w.heap.size, 2, none⟩) (by have := h.lt; simp only; omega)).trans h.r2
  c0 := (hb.cell (p := ⟨w.heap.size + 1, 0, none⟩) h.lt).trans h.c0
  c1 := (hb.cell (p := ⟨w.heap.size + 1, 1, none⟩) h.lt).trans h.c1
  c2 := (hb.cell (p := ⟨w.heap.size + 1, 2, none⟩) h.lt).trans h.c2
  f0 := (hb.frozen (p := ⟨w.heap.size, 0, none⟩) (by have := h.lt; simp only; omega)).trans h.f0
  f1 := (hb.frozen (p := ⟨w.heap.size, 1, none⟩) (by have := h.lt; simp only; omega)).trans h.f1
  f2 := (hb.frozen (p := ⟨w.heap.size, 2, none⟩) (by have := h.lt; simp only; omega)).trans h.f2
  g0 := (hb.frozen (p := ⟨w.heap.size + 1, 0, none⟩) h.lt).trans h.g0
  g1 := (hb.frozen (p := ⟨w.heap.size + 1, 1, none⟩) h.lt).trans h.g1
  g2 := (hb.frozen (p := ⟨w.heap.size + 1, 2, none⟩) h.lt).trans h.g2
theorem Two.year {w wr : World} {y m : Int} (h : Two w wr y m) (v : Int) : Two w (wr.setCell ⟨w.heap.size + 1, 0, none⟩ (.int .i64 v)) v m where
  bel := h.bel.setCell (by simp) _
  lt := by have := h.lt; simpa using this
  r0 := by simp [go_sem, h.r0]
  r1 := by simp [go_sem, h.r1]
  r2 := by simp [go_sem, h.r2]
  c0 := by simp [go_sem, h.c0]
  c1 := by simp [go_sem, h.c1]
  c2 := by simp [go_sem, h.c2]
  f0 := by simp [go_sem, h.f0]
  f1 := by simp [go_sem, h.f1]
  f2 := by simp [go_sem, h.f2]
  g0 := by simp [go_sem, h.g0]
  g1 := by simp [go_sem, h.g1]
  g2 := by simp [go_sem, h.g2]
theorem Two.month {w wr : World} {y m : Int} (h : Two w wr y m) (v : Int) : Two w (wr.setCell ⟨w.heap.size + 1, 1, none⟩ (.int .i64 v)) y v where
  bel := h.bel.setCell (by simp) _
  lt := by have := h.lt; simpa using this
  r0 := by simp [go_sem, h.r0]
  r1 := by simp [go_sem, h.r1]
  r2 := by simp [go_sem, h.r2]
  c0 := by simp [go_sem, h.c0]
  c1 := by simp [go_sem, h.c1]
  c2 := by simp [go_sem, h.c2]
  f0 := by simp [go_sem, h.f0]
  f1 := by simp [go_sem, h.f1]
  f2 := by simp [go_sem, h.f2]
  g0 := by simp [go_sem, h.g0]
  g1 := by simp [go_sem, h.g1]
  g2 := by simp [go_sem, h.g2]
/-- What the model hands back of a day. -/
def outOf (day : Int) (K J : Nat) : Value := if K ≤ 230 then date (1970 + (K : Int)) ((J : Int) + 1) (day - ys K - ms (1970 + (K : Int)) J + 1) else date 0 0 0
set_option maxRecDepth 100000 in
set_option maxHeartbeats 4000000 in
theorem spec_dateof_in (day : Int) (K J : Nat) (d0 : 0 ≤ day) (d1 : day ≤ 100000) (h1 : ys K ≤ day) (h2 : day < ys (K + 1)) (hm1 : ms (1970 + (K : Int)) J ≤ day - ys K) (hm2 : day - ys K < ms (1970 + (K : Int)) (J + 1)) (hJ : J < 12) (w : World) :
    Calls Tryz.prog 139 #[.int .i64 day] w fun e w' => e = .returned (outOf day K J) ∧ Below w.heap.size w w' := by
  have HH := hid_intro (fun j hj => less_year day j K h1 h2 hj d1)
  have hK : K ≤ 300 := by have := ys_bd K; omega
  have HM : Hid (K ≤ 230 → ∀ j, j ≤ J → _) := hid_intro (fun hK j hj => less_month (1970 + (K : Int)) (day - ys K) j J hm1 hm2 hj hJ (by omega) (by omega))
  clear h1 h2 hm1 hm2
  have hT := Two.start w
  obtain ⟨W, hW⟩ : ∃ W, W = (w.alloc (Obj.cells #[.int .i64 0, .int .i64 0, .int .i64 0] 208)).alloc (Obj.cells #[.int .i64 1970, .int .i64 1, .int .i64 0] 208) := ⟨_, rfl⟩
  rw [← hW] at hT
  have HT := hid_intro hT
  have HW := hid_intro hW
  clear hT hW
  go_enter Tryz.func139, Tryz.ntmps139
  go_wp2_with (first | (go_at_call 178; go_in) | (go_at_call 69; go_in))
  rw [← HW.out]
  go_loopw [0] (fun x wr => ∃ j : Nat, j ≤ K ∧ x = .int .i64 (day - ys j) ∧ Hid (Two w wr (1970 + (j : Int)) 1)) (fun x _ => (intOf x).toNat)
  case atStart => exact ⟨0, by omega, by simp [ys], HT⟩
  case round =>
    obtain ⟨j, hj, rfl, HR⟩ := hrel
    obtain ⟨L, X, hLe, hX, l0, l1, x0, x1, f1, f2, f3⟩ := HH.out j hj
    have hc0 := HR.out.c0
    have hg0 := HR.out.g0
    have HI := hid_intro (fun w => spec_yd (1970 + (j : Int)) w)
    rw [← hX] at HI
    rw [← hLe]
    have HF := hid_intro f3
    have HLe := hid_intro hLe
    have j2 : (j : Int) ≤ 300 := by omega
    clear hLe hX f3
    by_cases hlt : j < K
    · have hn := f1 hlt
      have hn2 : X ≤ L := by omega
      clear f1 f2
      go_wp2_with (go_at_call 179; refine (HI.out _).mono ?_; rintro e w' ⟨rfl, rfl⟩)
      go_roundw
      case rel => exact ⟨j + 1, by omega, by rw [HF.out], hid_intro (by have := HR.out.year (1970 + (j : Int) + 1); rw [show (1970 + ((j + 1 : Nat) : Int)) = 1970 + (j : Int) + 1 by omega]; exact this)⟩
      case measure => simp [intOf]; omega
    · obtain rfl : j = K := by omega
      have hn := f2 rfl
      have hn2 : ¬ X ≤ L := by omega
      clear f1 f2
      by_cases hp : j ≤ 230
      · have q1 : (1970 : Int) ≤ 1970 + (j : Int) := by omega
        have q2 : (1970 : Int) + (j : Int) ≤ 2200 := by omega
        go_wp2_with (first | (go_at_call 179; refine (HI.out _).mono ?_; rintro e w' ⟨rfl, rfl⟩) | (go_at_call 180; refine (year_any _ _).mono ?_; rintro e w' ⟨rfl, rfl⟩))
        have HMJ := hid_intro (HM.out hp)
        rw [← HLe.out] at HMJ
        have HO : Hid (date (1970 + (j : Int)) ((J : Int) + 1) (L - ms (1970 + (j : Int)) J + 1) = outOf day j J) := hid_intro (by rw [HLe.out]; exact (if_pos hp).symm)
        clear HM HLe HF HH hn hn2 hc0 hg0
        go_loopw [0] (fun x wr => ∃ i : Nat, i ≤ J ∧ x = .int .i64 (L - ms (1970 + (j : Int)) i) ∧ Hid (Two w wr (1970 + (j : Int)) ((i : Int) + 1))) (fun x _ => (intOf x).toNat)
        case atStart => exact ⟨0, by omega, by simp [ms], HR⟩
        case round =>
          obtain ⟨i, hi, rfl, HR2⟩ := hrel
          obtain ⟨Z, Y, hZe, hY, z0, z1, y0, y1, f1, f2, f3⟩ := HMJ.out i hi
          have hc0 := HR2.out.c0
          have hc1 := HR2.out.c1
          have hg1 := HR2.out.g1
          have HMD := hid_intro (fun w => spec_md (1970 + (j : Int)) ((i : Int) + 1) w)
          rw [← hY] at HMD
          rw [← hZe]
          have HF := hid_intro f3
          have HZe := hid_intro hZe
          have i2 : (i : Int) < 12 := by omega
          clear hZe hY f3
          by_cases hlt2 : i < J
          · have hn := f1 hlt2
            have hn2 : Y ≤ Z := by omega
            have i3 : (i : Int) + 1 < 12 := by omega
            clear f1 f2
            go_wp2_with fail
            refine (HMD.out _).mono ?_
            rintro e w2 ⟨rfl, hb2⟩
            have HR3 := hid_intro (HR2.out.below hb2)
            have hc0 := HR3.out.c0
            have hc1 := HR3.out.c1
            have hg1 := HR3.out.g1
            clear hb2
            go_wp2_with fail
            refine (HMD.out _).mono ?_
            rintro e w3 ⟨rfl, hb3⟩
            have HR4 := hid_intro (HR3.out.below hb3)
            have hc0 := HR4.out.c0
            have hc1 := HR4.out.c1
            have hg1 := HR4.out.g1
            clear hb3
            go_wp2_with fail
            go_roundw
            case rel => exact ⟨i + 1, by omega, by rw [HF.out], hid_intro (by have := HR4.out.month ((i : Int) + 1 + 1); rw [show (((i + 1 : Nat) : Int) + 1) = (i : Int) + 1 + 1 by omega]; exact this)⟩
            case measure => simp [intOf]; omega
          · obtain rfl : i = J := by omega
            have hn := f2 rfl
            have hn2 : ¬ Y ≤ Z := by omega
            clear f1 f2
            rw [← HZe.out] at HO
            by_cases hl : i = 11
            · subst hl
              have hc2 := HR2.out.c2
              have hg2 := HR2.out.g2
              have r0 := HR2.out.r0
              have r1 := HR2.out.r1
              have r2 := HR2.out.r2
              have e0 := HR2.out.f0
              have e1 := HR2.out.f1
              have e2 := HR2.out.f2
              go_wp2_with fail
              refine bodyPost_ret (v := date (1970 + (j : Int)) 12 (Z + 1)) (by simp [date, results, Tryz.results139, go_sem, r0, r1, r2]) rfl ⟨by rw [← HO.out]; rfl, ?_⟩
              repeat' first | exact HR2.out.bel | apply Below.setCell
              all_goals simp
            · have i3 : (i : Int) + 1 < 12 := by omega
              go_wp2_with fail
              refine (HMD.out _).mono ?_
              rintro e w2 ⟨rfl, hb2⟩
              have HR3 := hid_intro (HR2.out.below hb2)
              have hc0 := HR3.out.c0
              have hc1 := HR3.out.c1
              have hc2 := HR3.out.c2
              have hg2 := HR3.out.g2
              have r0 := HR3.out.r0
              have r1 := HR3.out.r1
              have r2 := HR3.out.r2
              have e0 := HR3.out.f0
              have e1 := HR3.out.f1
              have e2 := HR3.out.f2
              clear hb2
              go_wp2_with fail
              refine bodyPost_ret (v := date (1970 + (j : Int)) ((i : Int) + 1) (Z + 1)) (by simp [date, results, Tryz.results139, go_sem, r0, r1, r2]) rfl ⟨by rw [← HO.out], ?_⟩
              repeat' first | exact HR3.out.bel | apply Below.setCell
              all_goals simp
      · have q1 : (1970 : Int) ≤ 1970 + (j : Int) := by omega
        have q2 : ¬ (1970 : Int) + (j : Int) ≤ 2200 := by omega
        have q3 : decide ((1970 : Int) + (j : Int) ≤ 2200) = false := decide_eq_false q2
        have r0 := HR.out.r0
        have r1 := HR.out.r1
        have r2 := HR.out.r2
        have e0 := HR.out.f0
        have e1 := HR.out.f1
        have e2 := HR.out.f2
        have HO : Hid (date 0 0 0 = outOf day j J) := hid_intro (if_neg hp).symm
        go_wp2_with (first | (go_at_call 179; refine (HI.out _).mono ?_; rintro e w' ⟨rfl, rfl⟩) | (go_at_call 180; refine (year_any _ _).mono ?_; rintro e w' ⟨rfl, rfl⟩))
        refine bodyPost_ret (v := date 0 0 0) (by simp [date, results, Tryz.results139, go_sem, r0, r1, r2]) rfl ⟨by rw [HO.out], ?_⟩
        repeat' first | exact HR.out.bel | apply Below.setCell
        all_goals exact Nat.le_refl _
end DateR
end Go.Proofs.YtcilbmhkhllmjaaGreatDoor
namespace Go.Proofs.YtcilbmhkhllmjaaGreatDoor
open Go.ChangeShapes Go.WideShapes Go.ChangeAt Go.RowKit
set_option linter.unusedVariables false
namespace DateR
open DateM
theorem spec_dateof_none (day : Int) (h : day < 0 ∨ 100000 < day) (w : World) :
    Calls Tryz.prog 139 #[.int .i64 day] w fun e w' => e = .returned (date 0 0 0) ∧ Below w.heap.size w w' := by
  have key : (¬ 0 ≤ day) ∨ (0 ≤ day ∧ ¬ day ≤ 100000) := by omega
  clear h
  rcases key with h1 | ⟨h1, h2⟩
  all_goals
    go_enter Tryz.func139, Tryz.ntmps139
    go_wp2
    refine bodyPost_ret (v := date 0 0 0) (by simp [date, results, Tryz.results139, go_sem]) rfl ⟨rfl, ?_⟩
    repeat' first | exact Below.refl _ _ | apply Below.setCell | apply Below.alloc
    all_goals first | omega | (simp; done) | (simp; omega)
theorem num_of (day : Int) (K J : Nat) (hK : K ≤ 230) (hJ : J < 12) (m1 : ms (1970 + (K : Int)) J ≤ day - ys K) (m2 : day - ys K < ms (1970 + (K : Int)) (J + 1)) :
    rightB (1970 + (K : Int)) ((J : Int) + 1) (day - ys K - ms (1970 + (K : Int)) J + 1) = true ∧ num (1970 + (K : Int)) ((J : Int) + 1) (day - ys K - ms (1970 + (K : Int)) J + 1) = day := by
  have e := ms_succ (1970 + (K : Int)) J
  refine ⟨(right_iff _ _ _).2 ⟨by omega, by omega, by omega, by omega, by omega, by omega⟩, ?_⟩
  unfold num
  rw [show (1970 + (K : Int) - 1970).toNat = K by omega, show ((J : Int) + 1 - 1).toNat = J by omega]
  omega
/-- What is known of a day's date. -/
def DateOfIs (day y m d : Int) : Prop := (0 ≤ day ∧ day < ys 231 ∧ rightB y m d = true ∧ num y m d = day) ∨ (¬ (0 ≤ day ∧ day < ys 231) ∧ y = 0 ∧ m = 0 ∧ d = 0)
theorem ys231 : ys 231 ≤ 100000 := by have := ys_bd 231; omega
theorem dateof_both (day : Int) : ∃ y m d : Int, DateOfIs day y m d ∧ (∀ w, Laid w → Calls Tryz.prog 210 #[.int .i64 day] w fun e w' => e = .returned (date y m d) ∧ Below w.heap.size w w') ∧ (∀ w, Calls Tryz.prog 139 #[.int .i64 day] w fun e w' => e = .returned (date y m d) ∧ Below w.heap.size w w') := by
  by_cases h : day < 0 ∨ 100000 < day
  · have := ys231
    exact ⟨0, 0, 0, .inr ⟨by omega, rfl, rfl, rfl⟩, fun w _ => impl_dateof_none day h w, fun w => spec_dateof_none day h w⟩
  · have d0 : 0 ≤ day := by omega
    have d1 : day ≤ 100000 := by omega
    obtain ⟨K, h1, h2⟩ := year_is day d0
    obtain ⟨J, hJ, m1, m2⟩ := month_is (1970 + (K : Int)) (day - ys K) (by omega) (by have := ys_succ K; omega)
    have hs := fun w => spec_dateof_in day K J d0 d1 h1 h2 m1 m2 hJ w
    unfold outOf at hs
    by_cases hK : K ≤ 230
    · rw [if_pos hK] at hs
      obtain ⟨n1, n2⟩ := num_of day K J hK hJ m1 m2
      have := ys_mono (show K + 1 ≤ 231 by omega)
      exact ⟨_, _, _, .inl ⟨d0, by omega, n1, n2⟩, fun w hL => impl_dateof_in day K J d0 d1 h1 h2 hK m1 m2 hJ w hL, hs⟩
    · rw [if_neg hK] at hs
      have := ys_mono (show 231 ≤ K by omega)
      exact ⟨0, 0, 0, .inr ⟨by omega, rfl, rfl, rfl⟩, fun w _ => impl_dateof_past day K d0 d1 h1 (by omega) w, hs⟩
end DateR
end Go.Proofs.YtcilbmhkhllmjaaGreatDoor
namespace Go.Proofs.YtcilbmhkhllmjaaGreatDoor
open Go.ChangeShapes Go.WideShapes Go.ChangeAt Go.RowKit
set_option linter.unusedVariables false
namespace WinR
open DateM DateR
theorem impl_month_in (n y m d : Int) (h1 : 0 ≤ n) (h2 : n ≤ 121000000) (hy1 : 1970 ≤ y) (hy2 : y ≤ 2200) (hm1 : 1 ≤ m) (hm2 : m ≤ 12) (w : World) (hL : Laid w)
    (hd : ∀ w, Laid w → Calls Tryz.prog 210 #[.int .i64 (n.tdiv 1440)] w fun e w' => e = .returned (date y m d) ∧ Below w.heap.size w w') :
    Calls Tryz.prog 204 #[.int .i64 n] w fun e w' => e = .returned (.int .i64 (12 * (y - 1970) + (m - 1))) ∧ Below w.heap.size w w' := by
  have hb : 0 ≤ n.tdiv 1440 ∧ n.tdiv 1440 ≤ 121000000 := by rw [Int.tdiv_eq_ediv_of_nonneg h1]; omega
  obtain ⟨b1, b2⟩ := hb
  generalize hq : n.tdiv 1440 = q at *
  have HD := hid_intro hd
  have HL := hid_intro hL
  clear hd hL
  unfold date at *
  go_enter Tryz.func204, Tryz.ntmps204
  go_wp2_with (first | (go_at_call 209; go_in) | (go_at_call 66; go_in) | (go_at_call 210; (try rw [hq]); refine (HD.out _ HL.out).mono ?_; rintro e w1 ⟨rfl, hb1⟩))
  go_ret
  exact ⟨ret_int (by omega), hb1.alloc hb1.size _⟩
theorem spec_month_in (n y m d : Int) (h1 : 0 ≤ n) (h2 : n ≤ 121000000) (hy1 : 1970 ≤ y) (hy2 : y ≤ 2200) (hm1 : 1 ≤ m) (hm2 : m ≤ 12) (w : World)
    (hd : ∀ w, Calls Tryz.prog 139 #[.int .i64 (n.tdiv 1440)] w fun e w' => e = .returned (date y m d) ∧ Below w.heap.size w w') :
    Calls Tryz.prog 114 #[.int .i64 n] w fun e w' => e = .returned (.int .i64 (12 * (y - 1970) + (m - 1))) ∧ Below w.heap.size w w' := by
  have hb : 0 ≤ n.tdiv 1440 ∧ n.tdiv 1440 ≤ 121000000 := by rw [Int.tdiv_eq_ediv_of_nonneg h1]; omega
  obtain ⟨b1, b2⟩ := hb
  generalize hq : n.tdiv 1440 = q at *
  have HD := hid_intro hd
  clear hd
  unfold date at *
  go_enter Tryz.func114, Tryz.ntmps114
  go_wp2_with (first | (go_at_call 139; (try rw [hq]); refine (HD.out _).mono ?_; rintro e w1 ⟨rfl, hb1⟩))
  go_ret
  exact ⟨ret_int (by omega), hb1.alloc hb1.size _⟩
theorem month_two (n : Int) (h1 : 0 ≤ n) (h2 : n ≤ 121000000) : ∃ k : Nat, k ≤ 2771 ∧ fd k ≤ n / 1440 ∧ n / 1440 < fd (k + 1) ∧ (∀ w, Laid w → Calls Tryz.prog 204 #[.int .i64 n] w fun e w' => e = .returned (.int .i64 (k : Int)) ∧ Below w.heap.size w w') ∧ (∀ w, Calls Tryz.prog 114 #[.int .i64 n] w fun e w' => e = .returned (.int .i64 (k : Int)) ∧ Below w.heap.size w w') := by
  obtain ⟨y, m, d, hd, hi, hs⟩ := dateof_both (n.tdiv 1440)
  have e : n.tdiv 1440 = n / 1440 := Int.tdiv_eq_ediv_of_nonneg h1
  have := ys_231
  rcases hd with ⟨_, _, hr, hn⟩ | ⟨hx, _⟩
  · obtain ⟨k, k1, k2, k3, k4⟩ := num_fd y m d hr
    obtain ⟨y1, y2, m1, m2, _, _⟩ := (right_iff y m d).1 hr
    exact ⟨k, k1, by omega, by omega, fun w hL => by rw [← k2]; exact impl_month_in n y m d h1 h2 y1 y2 m1 m2 w hL hi, fun w => by rw [← k2]; exact spec_month_in n y m d h1 h2 y1 y2 m1 m2 w hs⟩
  · omega
/-- Whether an hour lies in a month, the program's way. -/
theorem impl_hour_of (h mo : Int) (w : World) (hL : Laid w) :
    Calls Tryz.prog 191 #[.int .i64 h, .int .i64 mo] w fun e w' => e = .returned (.bool (hourIn h mo)) ∧ Below w.heap.size w w' := by
  rcases (show (¬ 0 ≤ h) ∨ (0 ≤ h ∧ ¬ h ≤ 2016666) ∨ (0 ≤ h ∧ h ≤ 2016666) by omega) with q | ⟨q, q2⟩ | ⟨q, q2⟩
  · rw [hour_far (fun x => q x.1)]
    clear hL
    go_enter Tryz.func191, Tryz.ntmps191
    go_wp2_with (go_at_call 66; go_in)
    go_ret
    exact ⟨rfl, Below.refl _ _⟩
  · rw [hour_far (fun x => q2 x.2)]
    clear hL
    go_enter Tryz.func191, Tryz.ntmps191
    go_wp2_with (go_at_call 66; go_in)
    go_ret
    exact ⟨rfl, Below.refl _ _⟩
  · obtain ⟨k, k1, f1, f2, hi, hs⟩ := month_two (60 * h) (by omega) (by omega)
    rw [hour_month q q2 k rfl f1 f2]
    have HI := hid_intro (hi w hL)
    clear hL hi hs f1 f2
    have hm : h * 60 = 60 * h := by omega
    generalize hq : 60 * h = n at *
    by_cases he : (k : Int) = mo
    · subst he
      rw [decide_eq_true rfl]
      go_enter Tryz.func191, Tryz.ntmps191
      go_wp2_with (first | (go_at_call 66; go_in) | (go_at_call 204; (try rw [hm]); refine HI.out.mono ?_; rintro e w1 ⟨rfl, hb1⟩))
      go_ret
      exact ⟨rfl, hb1⟩
    · rw [decide_eq_false he]
      have he2 : ((k : Int) == mo) = false := by simpa using he
      go_enter Tryz.func191, Tryz.ntmps191
      go_wp2_with (first | (go_at_call 66; go_in) | (go_at_call 204; (try rw [hm]); refine HI.out.mono ?_; rintro e w1 ⟨rfl, hb1⟩))
      go_ret
      exact ⟨ret_bool (by first | rfl | simpa using he), hb1⟩
end WinR
end Go.Proofs.YtcilbmhkhllmjaaGreatDoor
