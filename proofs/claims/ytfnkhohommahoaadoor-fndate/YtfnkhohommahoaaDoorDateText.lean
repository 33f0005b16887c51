/-
  A date's text: either side tells the same. The condition: the program's and the library's tables stand in their variables.
-/
import Derived.Test.YtfnkhohommahoaaDoorDec
import Derived.Test.YtfnkhohommahoaaDoorRight
import Derived.Test.YtfnkhohommahoaaDoorJoin
namespace Go.Proofs.YtfnkhohommahoaaDoor
open Go.ChangeShapes Go.WideShapes Go.ChangeAt Go.RowKit
set_option linter.unusedVariables false
namespace DateR
open DateM
open DecR (digT digT_size Pows)
/-- The text of a date's numbers. -/
def dateT (y m d : Nat) : ByteArray := digT [y / 100 / 10, y / 100 % 10, y % 100 / 10, y % 100 % 10] ++ (⟨#[45]⟩ : ByteArray) ++ digT [m / 10, m % 10] ++ (⟨#[45]⟩ : ByteArray) ++ digT [d / 10, d % 10]
set_option maxHeartbeats 4000000 in
theorem spec_text_in (y m d : Nat) (h : rightB y m d = true) (w : World) :
    Calls Tryd.prog 14 #[date y m d] w fun e w' => e = .returned (.string (dateT y m d)) ∧ Below w.heap.size w w' := by
  obtain ⟨y1, y2, m1, m2, d1, d2⟩ := (right_iff _ _ _).1 h
  have db := md_bd (y : Int) m
  have hr := fun w => spec_right y m d w
  rw [h] at hr
  have HY := hid_intro (fun w => DecR.dec_any y (by omega) (by omega) w)
  rw [DecR.digs_four y (by omega) (by omega)] at HY
  have HM := hid_intro (fun w => DecR.two_any m (by omega) (by omega) w)
  have HD := hid_intro (fun w => DecR.two_any d (by omega) (by omega) w)
  have HT : Hid (dateT y m d = digT [y / 100 / 10, y / 100 % 10, y % 100 / 10, y % 100 % 10] ++ (⟨#[45]⟩ : ByteArray) ++ digT [m / 10, m % 10] ++ (⟨#[45]⟩ : ByteArray) ++ digT [d / 10, d % 10]) := rfl
  have z1 : (digT [y / 100 / 10, y / 100 % 10, y % 100 / 10, y % 100 % 10]).size = 4 := digT_size _
  have z2 : (digT [m / 10, m % 10]).size = 2 := digT_size _
  have z3 : (digT [d / 10, d % 10]).size = 2 := digT_size _
  generalize dateT y m d = R at *
  generalize digT [y / 100 / 10, y / 100 % 10, y % 100 / 10, y % 100 % 10] = T1 at *
  generalize digT [m / 10, m % 10] = T2 at *
  generalize digT [d / 10, d % 10] = T3 at *
  have HB0 := hid_intro ((Below.refl w.heap.size w).alloc (Nat.le_refl _) (Obj.cells #[.int .i64 y, .int .i64 m, .int .i64 d] 24))
  clear h db
  unfold date at *
  go_enter Tryd.func14, Tryd.ntmps14
  go_wp2_with fail
  refine (hr _).mono ?_
  rintro e w1 ⟨rfl, hb1⟩
  have g0 := hb1.cell (p := ⟨w.heap.size, 0, none⟩) (by simp)
  have g1 := hb1.cell (p := ⟨w.heap.size, 1, none⟩) (by simp)
  have g2 := hb1.cell (p := ⟨w.heap.size, 2, none⟩) (by simp)
  have hsz : w.heap.size < w1.heap.size := by have := hb1.size; simp at this; omega
  simp [go_sem] at g0 g1 g2
  have HB := hid_intro (HB0.out.trans (hb1.mono (by simp)))
  clear hb1 HB0
  have HS0 : Hid (Box w w.heap.size (y : Int) (m : Int) (d : Int) w1.drew) := hid_intro ⟨HB.out.drew, hsz, g0, g1, g2⟩
  go_wp2_with fail
  go_region_held3 (fun w' => Below w.heap.size w w' ∧ w.heap.size < w'.heap.size ∧ w'.cell? ⟨w.heap.size, 0, none⟩ = some (.int .i64 (y : Int)) ∧ w'.cell? ⟨w.heap.size, 1, none⟩ = some (.int .i64 (m : Int)) ∧ w'.cell? ⟨w.heap.size, 2, none⟩ = some (.int .i64 (d : Int))) (first | assumption | (exact HS0.out) | (exact Box.below (w := w) (B := w.heap.size) (y := (y : Int)) (m := (m : Int)) (d := (d : Int)) (by assumption) hb))
      (first | (go_at_call 52; refine (HY.out _).mono ?_; rintro e w' ⟨rfl, hb⟩) | (go_at_call_of 53 (Value.int IntKind.i64 (m : Int)); refine (HM.out _).mono ?_; rintro e w' ⟨rfl, hb⟩) | (go_at_call_of 53 (Value.int IntKind.i64 (d : Int)); refine (HD.out _).mono ?_; rintro e w' ⟨rfl, hb⟩))
  rename_i hS
  go_wp2_with fail
  go_ret
  exact ⟨ret_str HT.out.symm, hS.1⟩
theorem spec_text_no (y m d : Int) (h : rightB y m d = false) (w : World) :
    Calls Tryd.prog 14 #[date y m d] w fun e w' => e = .returned (.string ⟨#[]⟩) ∧ Below w.heap.size w w' := by
  have hr := fun w => spec_right y m d w
  rw [h] at hr
  clear h
  unfold date at *
  go_enter Tryd.func14, Tryd.ntmps14
  go_wp2_with (go_at_call 20; refine (hr _).mono ?_; rintro e w1 ⟨rfl, hb1⟩)
  go_ret
  exact ⟨rfl, bel_alloc hb1⟩
theorem join5 (a b c d e : ByteArray) (w : World) (ht : a.size + b.size + c.size + d.size + e.size ≤ 1099511627776) :
    Calls Tryd.prog 43 #[.slice (some ⟨w.heap.size, 0, none⟩) 5 5] (w.alloc (.cells #[.string a, .string b, .string c, .string d, .string e] 9)) fun r w' => r = .returned (.string (a ++ b ++ c ++ d ++ e)) ∧ Below (w.alloc (.cells #[.string a, .string b, .string c, .string d, .string e] 9)).heap.size (w.alloc (.cells #[.string a, .string b, .string c, .string d, .string e] 9)) w' := by
  refine (JoinR.join_any [a, b, c, d, e] w.heap.size 5 _ (Nat.le_refl _) (by omega) (by simp) (fun k h => JoinR.cell_new (by match k, h with | 0, _ => rfl | 1, _ => rfl | 2, _ => rfl | 3, _ => rfl | 4, _ => rfl)) (by simp [JoinR.jl]; have h1 : a.data.size = a.size := rfl; have h2 : b.data.size = b.size := rfl; have h3 : c.data.size = c.size := rfl; have h4 : d.data.size = d.size := rfl; have h5 : e.data.size = e.size := rfl; omega)).mono ?_
  rintro r w' ⟨rfl, hb⟩
  refine ⟨ret_str (ByteArray.ext (by unfold JoinR.joinB; simp)), hb⟩
theorem pows_box {w w' : World} {B : Nat} {y m d : Int} (hP : Pows w) (hB : B = w.heap.size) (h : Box w B y m d w') : Pows w' := by
  subst hB
  exact hP.below h.1
set_option maxHeartbeats 8000000 in
theorem impl_text_in (y m d : Nat) (h : rightB y m d = true) (w : World) (hL : Laid w) (hP : Pows w) :
    Calls Tryd.prog 8 #[date y m d] w fun e w' => e = .returned (.string (dateT y m d)) ∧ Below w.heap.size w w' := by
  obtain ⟨y1, y2, m1, m2, d1, d2⟩ := (right_iff _ _ _).1 h
  have db := md_bd (y : Int) m
  have hr := fun w hL => impl_right y m d w hL
  rw [h] at hr
  have HL0 := hid_intro (hL.below ((Below.refl _ _).alloc (Nat.le_refl _) (Obj.cells #[.int .i64 y, .int .i64 m, .int .i64 d] 24)))
  have HP := hid_intro hP
  have HY := hid_intro (fun w hP => DecR.fmt4 y (by omega) (by omega) w hP)
  have HM := hid_intro (fun w => DecR.itwo_any m (by omega) w)
  have HD := hid_intro (fun w => DecR.itwo_any d (by omega) w)
  have HT : Hid (dateT y m d = digT [y / 100 / 10, y / 100 % 10, y % 100 / 10, y % 100 % 10] ++ (⟨#[45]⟩ : ByteArray) ++ digT [m / 10, m % 10] ++ (⟨#[45]⟩ : ByteArray) ++ digT [d / 10, d % 10]) := rfl
  have z1 : (digT [y / 100 / 10, y / 100 % 10, y % 100 / 10, y % 100 % 10]).size = 4 := digT_size _
  have z2 : (digT [m / 10, m % 10]).size = 2 := digT_size _
  have z3 : (digT [d / 10, d % 10]).size = 2 := digT_size _
  generalize dateT y m d = R at *
  generalize digT [y / 100 / 10, y / 100 % 10, y % 100 / 10, y % 100 % 10] = T1 at *
  generalize digT [m / 10, m % 10] = T2 at *
  generalize digT [d / 10, d % 10] = T3 at *
  have HJ := hid_intro (fun w => join5 T1 ⟨#[45]⟩ T2 ⟨#[45]⟩ T3 w (by have : (⟨#[45]⟩ : ByteArray).size = 1 := rfl; omega))
  have HB0 := hid_intro ((Below.refl w.heap.size w).alloc (Nat.le_refl _) (Obj.cells #[.int .i64 y, .int .i64 m, .int .i64 d] 24))
  clear h db hL hP
  unfold date at *
  go_enter Tryd.func8, Tryd.ntmps8
  go_wp2_with fail
  refine (hr _ HL0.out).mono ?_
  rintro e w1 ⟨rfl, hb1⟩
  have g0 := hb1.cell (p := ⟨w.heap.size, 0, none⟩) (by simp)
  have g1 := hb1.cell (p := ⟨w.heap.size, 1, none⟩) (by simp)
  have g2 := hb1.cell (p := ⟨w.heap.size, 2, none⟩) (by simp)
  have hsz : w.heap.size < w1.heap.size := by have := hb1.size; simp at this; omega
  simp [go_sem] at g0 g1 g2
  have HB := hid_intro (HB0.out.trans (hb1.mono (by simp)))
  clear hb1 HB0 HL0
  have HS0 : Hid (Box w w.heap.size (y : Int) (m : Int) (d : Int) w1.drew) := hid_intro ⟨HB.out.drew, hsz, g0, g1, g2⟩
  go_wp2_with fail
  go_region_held3 (fun w' => Below w.heap.size w w' ∧ w.heap.size < w'.heap.size ∧ w'.cell? ⟨w.heap.size, 0, none⟩ = some (.int .i64 (y : Int)) ∧ w'.cell? ⟨w.heap.size, 1, none⟩ = some (.int .i64 (m : Int)) ∧ w'.cell? ⟨w.heap.size, 2, none⟩ = some (.int .i64 (d : Int))) (first | assumption | (exact HS0.out) | (exact Box.below (w := w) (B := w.heap.size) (y := (y : Int)) (m := (m : Int)) (d := (d : Int)) (by assumption) hb) | (exact Box.below (w := w) (B := w.heap.size) (y := (y : Int)) (m := (m : Int)) (d := (d : Int)) (by assumption) ((Below.refl _ _).alloc (Nat.le_refl _) _)))
      (first | (go_at_call 44; refine (HY.out _ (pows_box (B := w.heap.size) (y := (y : Int)) (m := (m : Int)) (d := (d : Int)) HP.out rfl (by assumption))).mono ?_; rintro e w' ⟨rfl, hb⟩) | (go_at_call_of 45 (Value.int IntKind.i64 (m : Int)); refine (HM.out _).mono ?_; rintro e w' ⟨rfl, rfl⟩) | (go_at_call_of 45 (Value.int IntKind.i64 (d : Int)); refine (HD.out _).mono ?_; rintro e w' ⟨rfl, rfl⟩) | (go_at_call 43; refine (HJ.out _).mono ?_; rintro e w' ⟨rfl, hb⟩))
  rename_i hS
  go_wp2_with fail
  go_ret
  exact ⟨ret_str HT.out.symm, hS.1⟩
theorem impl_text_no (y m d : Int) (h : rightB y m d = false) (w : World) (hL : Laid w) :
    Calls Tryd.prog 8 #[date y m d] w fun e w' => e = .returned (.string ⟨#[]⟩) ∧ Below w.heap.size w w' := by
  have hr := fun w hL => impl_right y m d w hL
  rw [h] at hr
  have HL0 := hid_intro (hL.below ((Below.refl _ _).alloc (Nat.le_refl _) (Obj.cells #[.int .i64 y, .int .i64 m, .int .i64 d] 24)))
  clear h hL
  unfold date at *
  go_enter Tryd.func8, Tryd.ntmps8
  go_wp2_with (go_at_call 19; refine (hr _ HL0.out).mono ?_; rintro e w1 ⟨rfl, hb1⟩)
  go_ret
  exact ⟨rfl, bel_alloc hb1⟩
/-- What DateText tells. -/
theorem text_both (y m d : Int) : ∃ T : ByteArray, (rightB y m d = true → ∃ y' m' d' : Nat, y = y' ∧ m = m' ∧ d = d' ∧ T = dateT y' m' d') ∧ (rightB y m d = false → T = ⟨#[]⟩) ∧ (∀ w, Laid w → Pows w → Calls Tryd.prog 8 #[date y m d] w fun e w' => e = .returned (.string T) ∧ Below w.heap.size w w') ∧ (∀ w, Calls Tryd.prog 14 #[date y m d] w fun e w' => e = .returned (.string T) ∧ Below w.heap.size w w') := by
  cases h : rightB y m d
  · exact ⟨⟨#[]⟩, (fun h => by cases h), fun _ => rfl, fun w hL _ => impl_text_no y m d h w hL, fun w => spec_text_no y m d h w⟩
  · obtain ⟨y1, y2, m1, m2, d1, d2⟩ := (right_iff _ _ _).1 h
    obtain ⟨y, rfl⟩ : ∃ n : Nat, y = n := ⟨y.toNat, by omega⟩
    obtain ⟨m, rfl⟩ : ∃ n : Nat, m = n := ⟨m.toNat, by omega⟩
    obtain ⟨d, rfl⟩ : ∃ n : Nat, d = n := ⟨d.toNat, by omega⟩
    exact ⟨_, fun _ => ⟨y, m, d, rfl, rfl, rfl, rfl⟩, (fun h => by cases h), fun w hL hP => impl_text_in y m d h w hL hP, fun w => spec_text_in y m d h w⟩
end DateR
end Go.Proofs.YtfnkhohommahoaaDoor
