/-
  A month's text, by the library's numeral: both sides hand back the same. The condition: the library's table stands in its variable.
-/
import Derived.Test.YtpmimpenmphloaaDoorDec
import Derived.Test.YtpmimpenmphloaaDoorDec2
import Derived.Test.YtpmimpenmphloaaDoorJoin
import Derived.Deep.RegionHeld3
namespace Go.Proofs.YtpmimpenmphloaaDoor
open Go.ChangeShapes Go.WideShapes Go.ChangeAt Go.RowKit
set_option linter.unusedVariables false
namespace MonX
open DecR Dec2
open RowG (hid_intro)
def date (y m d : Int) : Value := .agg #[.int .i64 y, .int .i64 m, .int .i64 d]
theorem mon_key (n : Int) : (0 ≤ n ∧ n ≤ 2760) ∨ (¬ 0 ≤ n) ∨ (0 ≤ n ∧ ¬ n ≤ 2760) := by omega
theorem mon_div (k : Nat) : (k : Int).tdiv 12 = ((k / 12 : Nat) : Int) ∧ (k : Int).tmod 12 = ((k % 12 : Nat) : Int) := by
  rw [Int.tdiv_eq_ediv_of_nonneg (by omega), Int.tmod_eq_emod_of_nonneg (by omega)]; omega
theorem first_any (k a b : Nat) (hk : k ≤ 2760) (ha : (k : Int).tdiv 12 = (a : Int)) (hb : (k : Int).tmod 12 = (b : Int)) (ha2 : a ≤ 230) (hb2 : b ≤ 11) (w : World) :
    Calls Tryd.prog 32 #[.int .i64 k] w fun e w' => e = .returned (date (1970 + (a : Int)) ((b : Int) + 1) 1) ∧ Below w.heap.size w w' := by
  go_enter Tryd.func32, Tryd.ntmps32
  go_wp2_with fail
  refine bodyPost_ret (v := date (1970 + (a : Int)) ((b : Int) + 1) 1) (by simp [date, results, Tryd.results32, go_sem]) rfl ⟨rfl, ?_⟩
  repeat' first | exact Below.refl _ _ | apply Below.setCell | apply Below.alloc
  all_goals first | omega | (simp; done) | (simp; omega)
def monT (y m : Nat) : ByteArray := itoaT (y : Int) ++ (⟨#[45]⟩ : ByteArray) ++ digT [m / 10, m % 10]
set_option maxHeartbeats 4000000 in
theorem spec_mtext_in (k a b : Nat) (hk : k ≤ 2760) (ha : (k : Int).tdiv 12 = (a : Int)) (hb : (k : Int).tmod 12 = (b : Int)) (ha2 : a ≤ 230) (hb2 : b ≤ 11) (w : World) :
    Calls Tryd.prog 24 #[.int .i64 k] w fun e w' => e = .returned (.string (monT (1970 + a) (b + 1))) ∧ Below w.heap.size w w' := by
  have HY := hid_intro (fun w => Dec2.dec_itoa ((1970 + a : Nat) : Int) (by omega) (by omega) w)
  have HM := hid_intro (fun w => DecR.two_any (b + 1) (by omega) (by omega) w)
  rw [show (((b + 1 : Nat)) : Int) = 1 + (b : Int) by omega] at HM
  unfold monT
  have z1 : (itoaT ((1970 + a : Nat) : Int)).size ≤ 20 := itoaT_size (by omega) (by omega)
  have z2 : (digT [(b + 1) / 10, (b + 1) % 10]).size = 2 := digT_size _
  generalize hT1 : itoaT ((1970 + a : Nat) : Int) = T1 at *
  clear hT1
  generalize digT [(b + 1) / 10, (b + 1) % 10] = T2 at *
  rw [show (((1970 + a : Nat)) : Int) = 1970 + (a : Int) by omega] at HY
  have k2 : (k : Int) ≤ 2760 := by omega
  have q1 : IntKind.i64.wrap (1970 + (a : Int)) = 1970 + (a : Int) := by simp [IntKind.wrap, IntKind.bits, IntKind.signed]; omega
  have q2 : IntKind.i64.wrap (1 + (b : Int)) = 1 + (b : Int) := by simp [IntKind.wrap, IntKind.bits, IntKind.signed]; omega
  have HB0 := hid_intro (Below.refl w.heap.size w)
  have HB1 := hid_intro (Below.refl w.heap.size w).drew
  go_enter Tryd.func24, Tryd.ntmps24
  go_wp2_with (first | (go_at_call 21; go_in) | (go_at_call 22; go_in))
  refine (HY.out _).mono ?_
  rintro e w1 ⟨rfl, hb1⟩
  go_wp2_with fail
  refine (HM.out _).mono ?_
  rintro e w2 ⟨rfl, hb2⟩
  go_wp2_with fail
  go_ret
  exact ⟨rfl, hb1.trans (hb2.mono hb1.size)⟩
theorem join3 (a b c : ByteArray) (w : World) (ht : a.size + b.size + c.size ≤ 1099511627776) :
    Calls Tryd.prog 17 #[.slice (some ⟨w.heap.size, 0, none⟩) 3 3] (w.alloc (.cells #[.string a, .string b, .string c] 9)) fun r w' => r = .returned (.string (a ++ b ++ c)) ∧ Below (w.alloc (.cells #[.string a, .string b, .string c] 9)).heap.size (w.alloc (.cells #[.string a, .string b, .string c] 9)) w' := by
  refine (JoinR.join_any [a, b, c] w.heap.size 3 _ (Nat.le_refl _) (by omega) (by simp) (fun k h => JoinR.cell_new (by match k, h with | 0, _ => rfl | 1, _ => rfl | 2, _ => rfl)) (by simp [JoinR.jl]; have h1 : a.data.size = a.size := rfl; have h2 : b.data.size = b.size := rfl; have h3 : c.data.size = c.size := rfl; omega)).mono ?_
  rintro r w' ⟨rfl, hb⟩
  refine ⟨ret_str (ByteArray.ext (by unfold JoinR.joinB; simp)), hb⟩
/-- What lies below, and a first day's date. -/
def BoxF (w : World) (B : Nat) (y m : Int) (w' : World) : Prop := Below w.heap.size w w' ∧ w.heap.size ≤ B ∧ B < w'.heap.size ∧ w'.cell? ⟨B, 0, none⟩ = some (.int .i64 y) ∧ w'.cell? ⟨B, 1, none⟩ = some (.int .i64 m) ∧ w'.cell? ⟨B, 2, none⟩ = some (.int .i64 1)
theorem BoxF.below {w w1 w2 : World} {B : Nat} {y m : Int} (h : BoxF w B y m w1) (hb : Below w1.heap.size w1 w2) : BoxF w B y m w2 := by
  obtain ⟨h0, h1, hl, c0, c1, c2⟩ := h
  have hs := hb.size
  have f := fun o => hb.cell (p := ⟨B, o, none⟩) hl
  exact ⟨h0.trans (hb.mono h0.size), h1, by omega, (f 0).trans c0, (f 1).trans c1, (f 2).trans c2⟩
theorem pows_boxF {w w' : World} {B : Nat} {y m : Int} (hP : PowT w) (h : BoxF w B y m w') : PowT w' := hP.below h.1
set_option maxHeartbeats 4000000 in
theorem impl_mtext_in (k a b : Nat) (hk : k ≤ 2760) (ha : (k : Int).tdiv 12 = (a : Int)) (hb : (k : Int).tmod 12 = (b : Int)) (ha2 : a ≤ 230) (hb2 : b ≤ 11) (w : World) (hFm : FmtOk) (hP : PowT w) :
    Calls Tryd.prog 14 #[.int .i64 k] w fun e w' => e = .returned (.string (monT (1970 + a) (b + 1))) ∧ Below w.heap.size w w' := by
  have HP := hid_intro hP
  have HF := hid_intro (fun w => first_any k a b hk ha hb ha2 hb2 w)
  have HY := hid_intro (fun w hP => hFm ((1970 + a : Nat) : Int) (by omega) (by omega) w hP)
  have HM := hid_intro (fun w => DecR.itwo_any (b + 1) (by omega) w)
  rw [show (((b + 1 : Nat)) : Int) = (b : Int) + 1 by omega] at HM
  unfold monT
  have z1 : (itoaT ((1970 + a : Nat) : Int)).size ≤ 20 := itoaT_size (by omega) (by omega)
  have z2 : (digT [(b + 1) / 10, (b + 1) % 10]).size = 2 := digT_size _
  generalize hT1 : itoaT ((1970 + a : Nat) : Int) = T1 at *
  clear hT1
  generalize digT [(b + 1) / 10, (b + 1) % 10] = T2 at *
  rw [show (((1970 + a : Nat)) : Int) = 1970 + (a : Int) by omega] at HY
  have HJ := hid_intro (fun w => join3 T1 ⟨#[45]⟩ T2 w (by have : (⟨#[45]⟩ : ByteArray).size = 1 := rfl; omega))
  have k2 : (k : Int) ≤ 2760 := by omega
  obtain ⟨Y, hY⟩ : ∃ Y, Y = 1970 + (a : Int) := ⟨_, rfl⟩
  obtain ⟨M, hM⟩ : ∃ M, M = (b : Int) + 1 := ⟨_, rfl⟩
  unfold date at *
  rw [← hY, ← hM] at HF
  rw [← hY] at HY
  rw [← hM] at HM
  clear hP ha hb hY hM hFm
  go_enter Tryd.func14, Tryd.ntmps14
  go_wp2_with (first | (go_at_call 29; go_in) | (go_at_call 30; go_in))
  refine (HF.out _).mono ?_
  rintro e w1 ⟨rfl, hb1⟩
  have HB0 := hid_intro hb1
  have HS0 := hid_intro (show BoxF w w1.heap.size Y M (w1.alloc (.cells #[.int .i64 Y, .int .i64 M, .int .i64 1] 52)) from ⟨hb1.alloc hb1.size _, hb1.size, by simp, by simp [go_sem], by simp [go_sem], by simp [go_sem]⟩)
  have HS1 := hid_intro (show BoxF w w1.heap.size Y M (w1.alloc (.cells #[.int .i64 Y, .int .i64 M, .int .i64 1] 52)).drew from ⟨(hb1.alloc hb1.size _).drew, hb1.size, by simp, by simp [go_sem], by simp [go_sem], by simp [go_sem]⟩)
  clear hb1
  go_wp2_with fail
  go_region_held3 (fun w' => Below w.heap.size w w' ∧ w.heap.size ≤ w1.heap.size ∧ w1.heap.size < w'.heap.size ∧ w'.cell? ⟨w1.heap.size, 0, none⟩ = some (.int .i64 Y) ∧ w'.cell? ⟨w1.heap.size, 1, none⟩ = some (.int .i64 M) ∧ w'.cell? ⟨w1.heap.size, 2, none⟩ = some (.int .i64 1)) (first | assumption | (exact HS0.out) | (exact HS1.out) | (exact BoxF.below (w := w) (B := w1.heap.size) (y := Y) (m := M) (by assumption) hb) | (exact BoxF.below (w := w) (B := w1.heap.size) (y := Y) (m := M) (by assumption) ((Below.refl _ _).alloc (Nat.le_refl _) _)))
      (first | (go_at_call 15; refine (HY.out _ (pows_boxF (B := w1.heap.size) (y := Y) (m := M) HP.out (by assumption))).mono ?_; rintro e w' ⟨rfl, hb⟩) | (go_at_call 33; refine (HM.out _).mono ?_; rintro e w' ⟨rfl, rfl⟩) | (go_at_call 17; refine (HJ.out _).mono ?_; rintro e w' ⟨rfl, hb⟩))
  rename_i hS
  go_wp2_with fail
  go_ret
  exact ⟨rfl, hS.1⟩
theorem impl_mtext_no (n : Int) (h : (¬ 0 ≤ n) ∨ (0 ≤ n ∧ ¬ n ≤ 2760)) (w : World) : Calls Tryd.prog 14 #[.int .i64 n] w fun e w' => e = .returned (.string ⟨#[]⟩) ∧ Below w.heap.size w w' := by
  rcases h with h1 | ⟨h1, h2⟩
  all_goals
    go_enter Tryd.func14, Tryd.ntmps14
    go_wp2
    go_ret
    exact ⟨rfl, Below.refl _ _⟩
theorem spec_mtext_no (n : Int) (h : (¬ 0 ≤ n) ∨ (0 ≤ n ∧ ¬ n ≤ 2760)) (w : World) : Calls Tryd.prog 24 #[.int .i64 n] w fun e w' => e = .returned (.string ⟨#[]⟩) ∧ Below w.heap.size w w' := by
  rcases h with h1 | ⟨h1, h2⟩
  all_goals
    go_enter Tryd.func24, Tryd.ntmps24
    go_wp2
    go_ret
    exact ⟨rfl, Below.refl _ _⟩
theorem mtext_both (hFm : FmtOk) (m : Int) : ∃ T : ByteArray, T.size ≤ 30 ∧ (∀ w, PowT w → Calls Tryd.prog 14 #[.int .i64 m] w fun e w' => e = .returned (.string T) ∧ Below w.heap.size w w') ∧ (∀ w, Calls Tryd.prog 24 #[.int .i64 m] w fun e w' => e = .returned (.string T) ∧ Below w.heap.size w w') := by
  rcases mon_key m with ⟨h1, h2⟩ | h
  · obtain ⟨k, rfl⟩ : ∃ k : Nat, m = k := ⟨m.toNat, by omega⟩
    obtain ⟨e1, e2⟩ := mon_div k
    refine ⟨_, ?_, fun w hP => impl_mtext_in k (k / 12) (k % 12) (by omega) e1 e2 (by omega) (by omega) w hFm hP, fun w => spec_mtext_in k (k / 12) (k % 12) (by omega) e1 e2 (by omega) (by omega) w⟩
    unfold monT
    rw [ByteArray.size_append, ByteArray.size_append, digT_size]
    have := itoaT_size (n := ((1970 + k / 12 : Nat) : Int)) (by omega) (by omega)
    have e : (⟨#[45]⟩ : ByteArray).size = 1 := rfl
    simp only [List.length_cons, List.length_nil]
    omega
  · exact ⟨⟨#[]⟩, by decide, fun w _ => impl_mtext_no m h w, fun w => spec_mtext_no m h w⟩
end MonX
end Go.Proofs.YtpmimpenmphloaaDoor
