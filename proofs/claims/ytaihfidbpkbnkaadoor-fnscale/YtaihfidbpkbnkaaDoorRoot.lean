/-
  The root: either side finds the greatest number whose square is no more. No condition.
-/
import Derived.Test.YtaihfidbpkbnkaaDoorKit
import Derived.Test.YtaihfidbpkbnkaaDoorFixMath
namespace Go.Proofs.YtaihfidbpkbnkaaDoor
open Go.ChangeShapes Go.WideShapes Go.ChangeAt Go.RowKit
set_option linter.unusedVariables false
namespace RootR
theorem hid_intro {p : Prop} (h : p) : Hid p := h
def out (n code : Int) : Value := .agg #[.int .i64 n, .int .i64 0, .int .i64 code]
theorem w64r (x : Int) (h : -9223372036854775808 ≤ x ∧ x ≤ 9223372036854775807) : wrap64 x = x := by unfold wrap64; omega
theorem pred_cast (m : Nat) (h1 : 1 ≤ m) (h2 : m ≤ 40000001) : wrap64 ((m : Int) - 1) = ((m - 1 : Nat) : Int) := by
  rw [w64r ((m : Int) - 1) (by omega)]
  omega
theorem sq_bd (m : Nat) (h : m ≤ 40000000) : m * m ≤ 1600000000000000 := Nat.mul_le_mul h h
theorem ill (w : World) : Calls Tryd.prog 65 #[.int .i64 1] w fun e w' => e = .returned (out 0 1) ∧ Below w.heap.size w w' := by
  go_enter Tryd.func65, Tryd.ntmps65
  go_wp2
  refine bodyPost_ret (v := out 0 1) (by simp [out, results, Tryd.results65, go_sem]) rfl ⟨rfl, ?_⟩
  repeat' first | exact Below.refl _ _ | apply Below.setCell | apply Below.alloc
  all_goals first | omega | (simp; done) | (simp; omega)
set_option maxHeartbeats 4000000 in
theorem impl_root_bad (n : Int) (h : n < 0 ∨ 1000000000000000 < n) (w : World) :
    Calls Tryd.prog 21 #[.int .i64 n] w fun e w' => e = .returned (out 0 1) ∧ Below w.heap.size w w' := by
  have key : (¬ 0 ≤ n) ∨ (0 ≤ n ∧ ¬ n ≤ 1000000000000000) := by omega
  clear h
  rcases key with h1 | ⟨h1, h2⟩
  all_goals
    go_enter Tryd.func21, Tryd.ntmps21
    go_wp2
    refine bodyPost_ret (v := out 0 1) (by simp [out, results, Tryd.results21, go_sem]) rfl ⟨rfl, ?_⟩
    repeat' first | exact Below.refl _ _ | apply Below.setCell | apply Below.alloc
    all_goals first | omega | (simp; done) | (simp; omega)
set_option maxHeartbeats 4000000 in
theorem impl_root (n r : Nat) (hn : n ≤ 1000000000000000) (h1 : r * r ≤ n) (h2 : n < (r + 1) * (r + 1)) (w : World) :
    Calls Tryd.prog 21 #[.int .i64 n] w fun e w' => e = .returned (out r 0) ∧ Below w.heap.size w w' := by
  have hr : r < 31622777 := FixM.sq_gt (m := 31622777) (n := n) (by omega) h1
  have H1 := hid_intro h1
  have H2 := hid_intro h2
  clear h1 h2
  have hn0 : (0 : Int) ≤ (n : Int) := by omega
  have hn1 : (n : Int) ≤ 1000000000000000 := by omega
  have HR := hid_intro hr
  go_enter Tryd.func21, Tryd.ntmps21
  go_wp2
  go_loop [3, 4, 5] (fun a b _ => ∃ l p : Nat, a = .int .i64 l ∧ b = .int .i64 p ∧ l ≤ r ∧ r < p ∧ p ≤ 31622777) (fun a b _ => ((intOf b) - (intOf a)).toNat)
  case atStart => exact ⟨0, 31622777, rfl, rfl, by omega, HR.out, by omega⟩
  case round =>
    obtain ⟨l, p, rfl, rfl, hl, hp, hp2⟩ := hrel
    have d1 : wrap64 ((p : Int) - l) = (p : Int) - l := w64r _ (by omega)
    have d2 : wrap64 ((l : Int) + p) = (l : Int) + p := w64r _ (by omega)
    by_cases hlt : 1 < (p : Int) - l
    · obtain ⟨m, hm⟩ : ∃ m : Nat, m = (l + p) / 2 := ⟨_, rfl⟩
      have hb := sq_bd m (by omega)
      have hm1 : ((l : Int) + p).tdiv 2 = (m : Int) := by rw [Int.tdiv_eq_ediv_of_nonneg (by omega)]; omega
      have hm2 : wrap64 (((l : Int) + p).tdiv 2) = (m : Int) := by rw [hm1]; exact w64r _ (by omega)
      have hm3 : wrap64 ((m : Int) * m) = ((m * m : Nat) : Int) := by rw [show (m : Int) * m = ((m * m : Nat) : Int) by simp]; exact w64r _ (by omega)
      have HM := hid_intro hm
      have HL := hid_intro (And.intro hl (And.intro hp hp2))
      have HM2 := hid_intro hm2
      have HM3 := hid_intro hm3
      clear hm hl hp hp2 hb hm1 hm2 hm3 hr hn hn0 hn1
      go_wp2
      all_goals
        rename_i h
        have hm := HM.out
        obtain ⟨hl, hp, hp2⟩ := HL.out
        rw [HM2.out] at h ⊢
        rw [HM3.out] at h
        clear HM HL HM2 HM3
      · have := FixM.sq_le (m := m) (n := n) (by omega) H2.out
        exact ⟨⟨m, p, rfl, rfl, this, hp, hp2⟩, by simp [intOf]; omega⟩
      · have := FixM.sq_gt (m := m) (n := n) (by omega) H1.out
        exact ⟨⟨l, m, rfl, rfl, hl, this, by omega⟩, by simp [intOf]; omega⟩
    · have e : l = r := by omega
      subst e
      clear hl hp hp2
      go_wp2
      refine bodyPost_ret (v := out l 0) (by simp [out, results, Tryd.results21, go_sem]) rfl ⟨rfl, ?_⟩
      repeat' first | exact Below.refl _ _ | apply Below.setCell | apply Below.alloc
      all_goals first | omega | (simp; done) | (simp; omega)
set_option maxHeartbeats 4000000 in
theorem spec_root_bad (n : Int) (h : n < 0 ∨ 1000000000000000 < n) (w : World) :
    Calls Tryd.prog 24 #[.int .i64 n] w fun e w' => e = .returned (out 0 1) ∧ Below w.heap.size w w' := by
  have key : (¬ 0 ≤ n) ∨ (0 ≤ n ∧ ¬ n ≤ 1000000000000000) := by omega
  clear h
  rcases key with h1 | ⟨h1, h2⟩
  all_goals
    go_enter Tryd.func24, Tryd.ntmps24
    go_wp2_with (first | (go_at_call 72; go_in) | (go_at_call 65; refine (ill _).mono ?_; rintro e w2 ⟨rfl, hb⟩; unfold out; obtain ⟨hc, hz⟩ := bcell hb))
    refine bodyPost_ret (v := out 0 1) (by simp [out, results, Tryd.results24, go_sem, hc]) rfl ⟨rfl, ?_⟩
    exact (((bel_alloc hb).setCell (by simp) _).setCell (by simp) _).setCell (by simp) _
set_option maxHeartbeats 4000000 in
theorem spec_root (n r : Nat) (hn : n ≤ 1000000000000000) (h1 : r * r ≤ n) (h2 : n < (r + 1) * (r + 1)) (w : World) :
    Calls Tryd.prog 24 #[.int .i64 n] w fun e w' => e = .returned (out r 0) ∧ Below w.heap.size w w' := by
  have hr : r < 31622777 := FixM.sq_gt (m := 31622777) (n := n) (by omega) h1
  have H1 := hid_intro h1
  have H2 := hid_intro h2
  clear h1 h2
  have hn0 : (0 : Int) ≤ (n : Int) := by omega
  have hn1 : (n : Int) ≤ 1000000000000000 := by omega
  have HR := hid_intro hr
  go_enter Tryd.func24, Tryd.ntmps24
  go_wp2
  go_loop [3, 4, 5] (fun a b _ => ∃ l p : Nat, a = .int .i64 l ∧ b = .int .i64 p ∧ l ≤ r ∧ r ≤ p ∧ p ≤ 40000000) (fun a b _ => ((intOf b) - (intOf a)).toNat)
  case atStart => exact ⟨0, 40000000, rfl, rfl, by omega, by have := HR.out; omega, by omega⟩
  case round =>
    obtain ⟨l, p, rfl, rfl, hl, hp, hp2⟩ := hrel
    have d1 : wrap64 ((l : Int) + p) = (l : Int) + p := w64r _ (by omega)
    have d2 : wrap64 ((l : Int) + p + 1) = (l : Int) + p + 1 := w64r _ (by omega)
    by_cases hlt : (l : Int) < p
    · obtain ⟨m, hm⟩ : ∃ m : Nat, m = (l + p + 1) / 2 := ⟨_, rfl⟩
      have hb := sq_bd m (by omega)
      have hm4 := pred_cast m (by omega) (by omega)
      have hm1 : ((l : Int) + p + 1).tdiv 2 = (m : Int) := by rw [Int.tdiv_eq_ediv_of_nonneg (by omega)]; omega
      have hm2 : wrap64 ((wrap64 (wrap64 ((l : Int) + p) + 1)).tdiv 2) = (m : Int) := by rw [d1, d2, hm1]; exact w64r _ (by omega)
      have hm3 : wrap64 ((m : Int) * m) = ((m * m : Nat) : Int) := by rw [show (m : Int) * m = ((m * m : Nat) : Int) by simp]; exact w64r _ (by omega)
      have HM := hid_intro hm
      have HL := hid_intro (And.intro hl (And.intro hp hp2))
      have HM2 := hid_intro hm2
      have HM3 := hid_intro hm3
      have HM4 := hid_intro hm4
      have HLT : Hid (l < p) := hid_intro (by omega)
      clear hm hl hp hp2 hb hm1 hm2 hm3 hm4 hr hn hn0 hn1 d1 d2
      go_wp2
      all_goals
        rename_i h
        have hm := HM.out
        have hlt' := HLT.out
        obtain ⟨hl, hp, hp2⟩ := HL.out
        rw [HM2.out] at h ⊢
        rw [HM3.out] at h
        try rw [HM4.out]
        clear HM HL HM2 HM3 HM4 HLT
      · have := FixM.sq_le (m := m) (n := n) (by omega) H2.out
        exact ⟨⟨m, p, rfl, rfl, this, hp, hp2⟩, by simp [intOf]; omega⟩
      · have := FixM.sq_gt (m := m) (n := n) (by omega) H1.out
        exact ⟨⟨l, m - 1, rfl, rfl, hl, by omega, by omega⟩, by simp [intOf]; omega⟩
    · have e : l = r := by omega
      subst e
      clear hl hp hp2
      go_wp2
      refine bodyPost_ret (v := out l 0) (by simp [out, results, Tryd.results24, go_sem]) rfl ⟨rfl, ?_⟩
      repeat' first | exact Below.refl _ _ | apply Below.setCell | apply Below.alloc
      all_goals first | omega | (simp; done) | (simp; omega)
end RootR
end Go.Proofs.YtaihfidbpkbnkaaDoor
