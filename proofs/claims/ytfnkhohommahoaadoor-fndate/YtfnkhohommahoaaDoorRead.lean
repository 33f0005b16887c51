/-
  A date's text read, by both sides. Under way.
-/
import Derived.Test.YtfnkhohommahoaaDoorPart
import Derived.Test.YtfnkhohommahoaaDoorDigF
import Derived.Test.YtfnkhohommahoaaDoorDateText
import Derived.Deep.RegionWith
namespace Go.Proofs.YtfnkhohommahoaaDoor
open Go.ChangeShapes Go.WideShapes Go.ChangeAt Go.RowKit
set_option linter.unusedVariables false
namespace DateR
open DateM DecR
theorem cut_y (y m d : Nat) : (dateT y m d).extract 0 4 = digT [y / 100 / 10, y / 100 % 10, y % 100 / 10, y % 100 % 10] := by
  unfold dateT digT strOfNums
  apply ByteArray.ext
  simp [ByteArray.data_extract, ByteArray.data_append]
theorem cut_m (y m d : Nat) : (dateT y m d).extract 5 7 = digT [m / 10, m % 10] := by
  unfold dateT digT strOfNums
  apply ByteArray.ext
  simp [ByteArray.data_extract, ByteArray.data_append]
theorem cut_d (y m d : Nat) : (dateT y m d).extract 8 10 = digT [d / 10, d % 10] := by
  unfold dateT digT strOfNums
  apply ByteArray.ext
  simp [ByteArray.data_extract, ByteArray.data_append]
/-- What is handed back, as a value: a date and a code. -/
def dout (y m d c : Int) : Value := .agg #[.int .i64 y, .int .i64 m, .int .i64 d, .int .i64 c]
/-- What is right, in bounds. -/
theorem right_bd (y m d : Nat) (h : rightB y m d = true) : y < 10000 ∧ m < 100 ∧ d < 100 := by
  obtain ⟨y1, y2, m1, m2, d1, d2⟩ := (right_iff _ _ _).1 h
  have db := md_bd (y : Int) m
  omega
theorem dig_y (y m d : Nat) (h : y < 10000) : IsDig ((dateT y m d).extract 0 4) [y / 100 / 10, y / 100 % 10, y % 100 / 10, y % 100 % 10] := ⟨cut_y y m d, by
  intro x hx
  simp only [List.mem_cons, List.not_mem_nil, or_false] at hx
  omega⟩
theorem dig_m (y m d : Nat) (h : m < 100) : IsDig ((dateT y m d).extract 5 7) [m / 10, m % 10] := ⟨cut_m y m d, by
  intro x hx
  simp only [List.mem_cons, List.not_mem_nil, or_false] at hx
  omega⟩
theorem dig_d (y m d : Nat) (h : d < 100) : IsDig ((dateT y m d).extract 8 10) [d / 10, d % 10] := ⟨cut_d y m d, by
  intro x hx
  simp only [List.mem_cons, List.not_mem_nil, or_false] at hx
  omega⟩
theorem val_four (y : Nat) : valD [y / 100 / 10, y / 100 % 10, y % 100 / 10, y % 100 % 10] = y := by simp only [valD, List.foldl]; omega
theorem val_two (m : Nat) : valD [m / 10, m % 10] = m := by simp only [valD, List.foldl]; omega
/-- What three parts are, of a right date's text: that date. -/
theorem parts_of (s : ByteArray) (y m d : Nat) (h : rightB y m d = true) (hs : s = dateT y m d) (a b c : Int) (ha : ∀ ds, IsDig (s.extract 0 4) ds → a = (valD ds : Int)) (hb : ∀ ds, IsDig (s.extract 5 7) ds → b = (valD ds : Int)) (hc : ∀ ds, IsDig (s.extract 8 10) ds → c = (valD ds : Int)) : a = y ∧ b = m ∧ c = d := by
  obtain ⟨h1, h2, h3⟩ := right_bd y m d h
  subst hs
  refine ⟨?_, ?_, ?_⟩
  · rw [ha _ (dig_y y m d h1), val_four]
  · rw [hb _ (dig_m y m d h2), val_two]
  · rw [hc _ (dig_d y m d h3), val_two]
/-- What the text of three numbers is, of a text: that text, where it is a right date's and the numbers are its; else another. -/
theorem text_of (s : ByteArray) (hs : s.size = 10) (a b c : Int) (T : ByteArray) (h1 : rightB a b c = true → ∃ y' m' d' : Nat, a = y' ∧ b = m' ∧ c = d' ∧ T = dateT y' m' d') (h2 : rightB a b c = false → T = ⟨#[]⟩) (hn : ∀ y m d : Nat, rightB y m d = true → s ≠ dateT y m d) : T ≠ s := by
  intro h
  cases hr : rightB a b c
  · rw [h2 hr] at h
    rw [← h] at hs
    cases hs
  · obtain ⟨y, m, d, rfl, rfl, rfl, hT⟩ := h1 hr
    exact hn y m d hr (by rw [← h, hT])
set_option maxRecDepth 100000 in
set_option maxHeartbeats 8000000 in
theorem spec_read (s : ByteArray) (hs : s.size = 10) (T : ByteArray) (q : Bool) (hq : (T.toList == s.toList) = q) (w : World) (hT : ∀ w, Calls Tryd.prog 14 #[date (digV (s.extract 0 4)) (digV (s.extract 5 7)) (digV (s.extract 8 10))] w fun e w' => e = .returned (.string T) ∧ Below w.heap.size w w') : Calls Tryd.prog 16 #[.string s] w fun e w' => e = .returned (bif q then dout (digV (s.extract 0 4)) (digV (s.extract 5 7)) (digV (s.extract 8 10)) 0 else dout 0 0 0 3) ∧ Below w.heap.size w w' := by
  have HA := hid_intro (fun w => digits_fun (s.extract 0 4) (by rw [ByteArray.size_extract]; omega) w)
  have HB := hid_intro (fun w => digits_fun (s.extract 5 7) (by rw [ByteArray.size_extract]; omega) w)
  have HC := hid_intro (fun w => digits_fun (s.extract 8 10) (by rw [ByteArray.size_extract]; omega) w)
  have HT := hid_intro hT
  clear hT
  unfold date dout at *
  generalize digV (s.extract 0 4) = a at *
  generalize digV (s.extract 5 7) = b at *
  generalize digV (s.extract 8 10) = c at *
  go_enter Tryd.func16, Tryd.ntmps16
  go_wp2_with fail
  go_region_with (first | (go_at_call_of 55 (Value.string (s.extract 0 4)); refine (HA.out _).mono ?_; rintro e w' ⟨rfl, rfl⟩) | (go_at_call_of 55 (Value.string (s.extract 5 7)); refine (HB.out _).mono ?_; rintro e w' ⟨rfl, rfl⟩) | (go_at_call_of 55 (Value.string (s.extract 8 10)); refine (HC.out _).mono ?_; rintro e w' ⟨rfl, rfl⟩))
  all_goals go_wp2_with fail
  all_goals (
    refine (HT.out _).mono ?_
    rintro e w2 ⟨rfl, hb⟩
    have o0 := hb.cell (p := ⟨w.heap.size, 0, none⟩) (by simp; omega)
    have o1 := hb.cell (p := ⟨w.heap.size, 1, none⟩) (by simp; omega)
    have o2 := hb.cell (p := ⟨w.heap.size, 2, none⟩) (by simp; omega)
    have o3 := hb.cell (p := ⟨w.heap.size, 3, none⟩) (by simp; omega)
    have g0 := hb.cell (p := ⟨w.heap.size + 1, 0, none⟩) (by simp)
    have g1 := hb.cell (p := ⟨w.heap.size + 1, 1, none⟩) (by simp)
    have g2 := hb.cell (p := ⟨w.heap.size + 1, 2, none⟩) (by simp)
    have f0 := hb.frozen (p := ⟨w.heap.size, 0, none⟩) (by simp; omega)
    have f1 := hb.frozen (p := ⟨w.heap.size, 1, none⟩) (by simp; omega)
    have f2 := hb.frozen (p := ⟨w.heap.size, 2, none⟩) (by simp; omega)
    have f3 := hb.frozen (p := ⟨w.heap.size, 3, none⟩) (by simp; omega)
    simp [go_sem] at o0 o1 o2 o3 g0 g1 g2 f0 f1 f2 f3
    have HW : Hid (Below w.heap.size w w2) := hid_intro (by
      refine Below.trans ?_ (hb.mono (by simp; omega))
      repeat' first | exact Below.refl _ _ | apply Below.drew | apply Below.alloc
      all_goals simp)
    clear hb
    cases q
    · go_wp2_with fail
      refine bodyPost_ret (v := .agg #[.int .i64 0, .int .i64 0, .int .i64 0, .int .i64 3]) (by simp [results, Tryd.results16, go_sem, o0, o1, o2, o3]) rfl ⟨rfl, ?_⟩
      repeat' first | exact HW.out | apply Below.setCell
      all_goals simp
    · go_wp2_with fail
      refine bodyPost_ret (v := .agg #[.int .i64 a, .int .i64 b, .int .i64 c, .int .i64 0]) (by simp [results, Tryd.results16, go_sem, o0, o1, o2, o3]) rfl ⟨rfl, ?_⟩
      repeat' first | exact HW.out | apply Below.setCell
      all_goals simp)
/-- Text longer or shorter than a date's. -/
theorem spec_read_no (s : ByteArray) (hs : s.size ≠ 10) (hm : s.size ≤ 1048576) (w : World) : Calls Tryd.prog 16 #[.string s] w fun e w' => e = .returned (if 8000 < s.size then dout 0 0 0 2 else dout 0 0 0 3) ∧ Below w.heap.size w w' := by
  by_cases h : 8000 < s.size
  · rw [if_pos h]
    have h' : (8000 : Int) < (s.size : Int) := by omega
    go_enter Tryd.func16, Tryd.ntmps16
    go_wp2_with fail
    refine bodyPost_ret (v := dout 0 0 0 2) (by simp [dout, results, Tryd.results16, go_sem]) rfl ⟨rfl, ?_⟩
    repeat' first | exact Below.refl _ _ | apply Below.setCell | apply Below.alloc
    all_goals first | omega | (simp; done) | (simp; omega)
  · rw [if_neg h]
    have h' : ¬ (8000 : Int) < (s.size : Int) := by omega
    have h2 : ¬ (s.size : Int) = 10 := by omega
    go_enter Tryd.func16, Tryd.ntmps16
    go_wp2_with fail
    refine bodyPost_ret (v := dout 0 0 0 3) (by simp [dout, results, Tryd.results16, go_sem]) rfl ⟨rfl, ?_⟩
    repeat' first | exact Below.refl _ _ | apply Below.setCell | apply Below.alloc
    all_goals first | omega | (simp; done) | (simp; omega)
theorem impl_read_no (s : ByteArray) (hs : s.size ≠ 10) (hm : s.size ≤ 1048576) (w : World) : Calls Tryd.prog 15 #[.string s] w fun e w' => e = .returned (if 8000 < s.size then dout 0 0 0 2 else dout 0 0 0 3) ∧ Below w.heap.size w w' := by
  by_cases h : 8000 < s.size
  · rw [if_pos h]
    have h' : (8000 : Int) < (s.size : Int) := by omega
    go_enter Tryd.func15, Tryd.ntmps15
    go_wp2_with fail
    refine bodyPost_ret (v := dout 0 0 0 2) (by simp [dout, results, Tryd.results15, go_sem]) rfl ⟨rfl, ?_⟩
    repeat' first | exact Below.refl _ _ | apply Below.setCell | apply Below.alloc
    all_goals first | omega | (simp; done) | (simp; omega)
  · rw [if_neg h]
    have h' : ¬ (8000 : Int) < (s.size : Int) := by omega
    have h2 : ¬ (s.size : Int) = 10 := by omega
    go_enter Tryd.func15, Tryd.ntmps15
    go_wp2_with fail
    refine bodyPost_ret (v := dout 0 0 0 3) (by simp [dout, results, Tryd.results15, go_sem]) rfl ⟨rfl, ?_⟩
    repeat' first | exact Below.refl _ _ | apply Below.setCell | apply Below.alloc
    all_goals first | omega | (simp; done) | (simp; omega)
end DateR
end Go.Proofs.YtfnkhohommahoaaDoor
