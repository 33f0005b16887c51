/-
  Rate and RateBetween: the model's faces. No condition.
-/
import Derived.Test.YtnhjodlcdfkpnaaDoorRtS
namespace Go.Proofs.YtnhjodlcdfkpnaaDoor
open Go.ChangeShapes Go.WideShapes Go.ChangeAt Go.RowKit
set_option linter.unusedVariables false
namespace CatR
open FixR (In out)
theorem used_S (u : Int) (w : World) : Calls Tryd.prog 18 #[.int .i64 u] w fun e w' => e = .returned (.bool (uB u)) ∧ w' = w := by
  rcases (show (¬ 0 ≤ u) ∨ (0 ≤ u ∧ ¬ u ≤ 1000000000000) ∨ (0 ≤ u ∧ u ≤ 1000000000000) by omega) with h | ⟨h1, h2⟩ | ⟨h1, h2⟩
  all_goals
    go_enter Tryd.func18, Tryd.ntmps18
    go_wp2_with (go_at_call 33; go_in)
    go_ret
    exact ⟨ret_bool (by unfold uB; first | (simp [*]; done) | (simp; omega)), rfl⟩
set_option maxRecDepth 100000 in
set_option maxHeartbeats 4000000 in
theorem spec_Rate (v : Value) (m : Me) (u : Int) (w : World) (hn : m.n.size ≤ 1048576) (hl : m.ts.length ≤ 1048576) (hM : IsMe v m w) :
    Calls Tryd.prog 7 #[v, .int .i64 u] w fun e w' => e = .returned (out (rateO m u).1 (rateO m u).2) ∧ Below w.heap.size w w' := by
  have HIL := hid_intro (fun w => FixR.ill_any 1 w)
  have HM0 := hid_intro hM
  obtain ⟨ta, tc, rfl, hT⟩ := hM
  obtain ⟨W, hW⟩ : ∃ W, W = (w.alloc (Obj.cells #[.string m.n, .int .i64 m.g, .bool m.wh, .int .i64 m.f, .int .i64 m.l, .slice ta m.ts.length tc] 31)).alloc (Obj.cells #[.int .i64 0, .int .i64 0, .int .i64 0] 27) := ⟨_, rfl⟩
  have HB0 : Hid (Below w.heap.size w W) := hid_intro (by rw [hW]; exact ((Below.refl _ _).alloc (by simp; try omega) _).alloc (by simp; try omega) _)
  have HK0 : Hid (Blk w.heap.size [.string m.n, .int .i64 m.g, .bool m.wh, .int .i64 m.f, .int .i64 m.l, .slice ta m.ts.length tc] W) := hid_intro (by rw [hW]; exact (Blk.new w _ _).alloc _)
  have HZ0 : Hid (Z3 (w.heap.size + 1) W) := hid_intro (by rw [hW]; have := Z3.new (w.alloc (Obj.cells #[.string m.n, .int .i64 m.g, .bool m.wh, .int .i64 m.f, .int .i64 m.l, .slice ta m.ts.length tc] 31)) 27; simpa using this)
  have H1 := hid_intro (fun W (hb : Below w.heap.size w W) => spec_meter _ m W hn hl (HM0.out.below hb))
  have H2 := hid_intro (fun w => used_S u w)
  have H3 := hid_intro (fun W (hb : Below w.heap.size w W) (hr : mB m = true) (hu : uB u = true) => spec_rate _ m u W (mB_iff.1 hr) (uB_iff.1 hu) (HM0.out.below hb))
  have HO : Hid (rateO m u = bif mB m && uB u then rO m u else (0, 1)) := rfl
  have HW := hid_intro hW
  generalize rateO m u = O at *
  generalize rO m u = O2 at *
  generalize mB m = r at *
  generalize uB u = q at *
  clear hT hn hl HM0
  obtain ⟨nm, g, wh, f, l, ts⟩ := m
  simp only at *
  generalize ts.length = tl at *
  clear hW
  cases r
  · have e := HO.out
    subst e
    go_enter Tryd.func7, Tryd.ntmps7
    go_wp2_with fail
    rw [← HW.out]
    refine (H1.out _ HB0.out).mono ?_
    rintro e w1 ⟨rfl, hb1⟩
    have HB1 := hid_intro (HB0.out.trans (hb1.mono HB0.out.size))
    have HZ1 := hid_intro (HZ0.out.below hb1)
    clear hb1
    go_wp2_with fail
    refine (HIL.out _).mono ?_
    rintro e w9 ⟨rfl, hb9⟩
    replace HB1 := hid_intro (HB1.out.trans (hb9.mono HB1.out.size))
    obtain ⟨hz, ⟨x0, d0⟩, ⟨x1, d1⟩, ⟨x2, d2⟩, y0, y1, y2⟩ := HZ1.out.below hb9
    clear hb9
    unfold out
    go_wp2_with fail
    refine bodyPost_ret (v := out 0 1) (by simp [out, results, Tryd.results7, go_sem, d0, d1, d2]) rfl ⟨rfl, ?_⟩
    exact below3 HB1.out (by omega) _ _ _
  cases q
  · have e := HO.out
    subst e
    go_enter Tryd.func7, Tryd.ntmps7
    go_wp2_with fail
    rw [← HW.out]
    refine (H1.out _ HB0.out).mono ?_
    rintro e w1 ⟨rfl, hb1⟩
    have HB1 := hid_intro (HB0.out.trans (hb1.mono HB0.out.size))
    have HZ1 := hid_intro (HZ0.out.below hb1)
    clear hb1
    go_wp2_with (go_at_call 18; refine (H2.out _).mono ?_; rintro e w2 ⟨rfl, rfl⟩)
    refine (HIL.out _).mono ?_
    rintro e w9 ⟨rfl, hb9⟩
    replace HB1 := hid_intro (HB1.out.trans (hb9.mono HB1.out.size))
    obtain ⟨hz, ⟨x0, d0⟩, ⟨x1, d1⟩, ⟨x2, d2⟩, y0, y1, y2⟩ := HZ1.out.below hb9
    clear hb9
    unfold out
    go_wp2_with fail
    refine bodyPost_ret (v := out 0 1) (by simp [out, results, Tryd.results7, go_sem, d0, d1, d2]) rfl ⟨rfl, ?_⟩
    exact below3 HB1.out (by omega) _ _ _
  obtain rfl : O = O2 := HO.out
  have H4 := hid_intro (fun W hb => H3.out W hb rfl rfl)
  go_enter Tryd.func7, Tryd.ntmps7
  go_wp2_with fail
  rw [← HW.out]
  refine (H1.out _ HB0.out).mono ?_
  rintro e w1 ⟨rfl, hb1⟩
  have HB1 := hid_intro (HB0.out.trans (hb1.mono HB0.out.size))
  have HZ1 := hid_intro (HZ0.out.below hb1)
  have HK1 := hid_intro (HK0.out.below hb1)
  clear hb1
  have hl1 := HK1.out.1
  have c0 : w1.cell? ⟨w.heap.size, 0, none⟩ = some (.string nm) := HK1.out.2 0 (by simp)
  have c1 : w1.cell? ⟨w.heap.size, 1, none⟩ = some (.int .i64 g) := HK1.out.2 1 (by simp)
  have c2 : w1.cell? ⟨w.heap.size, 2, none⟩ = some (.bool wh) := HK1.out.2 2 (by simp)
  have c3 : w1.cell? ⟨w.heap.size, 3, none⟩ = some (.int .i64 f) := HK1.out.2 3 (by simp)
  have c4 : w1.cell? ⟨w.heap.size, 4, none⟩ = some (.int .i64 l) := HK1.out.2 4 (by simp)
  have c5 : w1.cell? ⟨w.heap.size, 5, none⟩ = some (.slice ta tl tc) := HK1.out.2 5 (by simp)
  go_wp2_with (go_at_call 18; refine (H2.out _).mono ?_; rintro e w2 ⟨rfl, rfl⟩)
  refine (H4.out _ HB1.out).mono ?_
  rintro e w3 ⟨rfl, hb3⟩
  have HB3 := hid_intro (HB1.out.trans (hb3.mono HB1.out.size))
  obtain ⟨hz, ⟨x0, d0⟩, ⟨x1, d1⟩, ⟨x2, d2⟩, y0, y1, y2⟩ := HZ1.out.below hb3
  clear hb3 c0 c1 c2 c3 c4 c5 hl1
  obtain ⟨a, c⟩ := O
  unfold out
  go_wp2_with fail
  refine bodyPost_ret (v := out a c) (by simp [out, results, Tryd.results7, go_sem, d0, d1, d2]) rfl ⟨rfl, ?_⟩
  exact below3 HB3.out (by omega) _ _ _
set_option maxRecDepth 100000 in
set_option maxHeartbeats 4000000 in
theorem spec_RateBetween (v : Value) (m : Me) (lo hi : Int) (w : World) (hn : m.n.size ≤ 1048576) (hl : m.ts.length ≤ 1048576) (hM : IsMe v m w) :
    Calls Tryd.prog 12 #[v, .int .i64 lo, .int .i64 hi] w fun e w' => e = .returned (out (rbO m lo hi).1 (rbO m lo hi).2) ∧ Below w.heap.size w w' := by
  have HIL := hid_intro (fun w => FixR.ill_any 1 w)
  have HI12 := hid_intro (fun w => FixR.ill_any 12 w)
  have HM0 := hid_intro hM
  obtain ⟨ta, tc, rfl, hT⟩ := hM
  have hmf : ∀ (fn : Fn) (first cap : Array Value) (w : World), (Instr.makeFunc fn first cap).run Tryd.prog w = .ok (.func fn first cap) w := fun _ _ _ _ => rfl
  obtain ⟨W, hW⟩ : ∃ W, W = (w.alloc (Obj.cells #[.string m.n, .int .i64 m.g, .bool m.wh, .int .i64 m.f, .int .i64 m.l, .slice ta m.ts.length tc] 31)).alloc (Obj.cells #[.int .i64 0, .int .i64 0, .int .i64 0] 27) := ⟨_, rfl⟩
  have HB0 : Hid (Below w.heap.size w W) := hid_intro (by rw [hW]; exact ((Below.refl _ _).alloc (by simp; try omega) _).alloc (by simp; try omega) _)
  have HK0 : Hid (Blk w.heap.size [.string m.n, .int .i64 m.g, .bool m.wh, .int .i64 m.f, .int .i64 m.l, .slice ta m.ts.length tc] W) := hid_intro (by rw [hW]; exact (Blk.new w _ _).alloc _)
  have HZ0 : Hid (Z3 (w.heap.size + 1) W) := hid_intro (by rw [hW]; have := Z3.new (w.alloc (Obj.cells #[.string m.n, .int .i64 m.g, .bool m.wh, .int .i64 m.f, .int .i64 m.l, .slice ta m.ts.length tc] 31)) 27; simpa using this)
  have H1 := hid_intro (fun W (hb : Below w.heap.size w W) => spec_meter _ m W hn hl (HM0.out.below hb))
  have H2 := hid_intro (fun w => used_S lo w)
  have H2' := hid_intro (fun w => used_S hi w)
  have H3' := hid_intro (fun (hr : mB m = true) (hu : uB hi = true) W (hb : Below w.heap.size w W) => spec_rate _ m hi W (mB_iff.1 hr) (uB_iff.1 hu) (HM0.out.below hb))
  have H4' := hid_intro (fun (hr : mB m = true) (hu : uB lo = true) W (hb : Below w.heap.size w W) => spec_rate _ m lo W (mB_iff.1 hr) (uB_iff.1 hu) (HM0.out.below hb))
  have HO : Hid (rbO m lo hi = bif mB m && uB lo && uB hi && decide (lo ≤ hi) then (if rt m hi ≤ 1000000000000000 then (if rt m lo ≤ 1000000000000000 then (rt m hi - rt m lo, 0) else (0, 12)) else (0, 12)) else (0, 1)) := rfl
  have HR1 : Hid (mB m = true → uB hi = true → 0 ≤ rt m hi) := hid_intro (fun h1 h2 => (rt_bd (mB_iff.1 h1) (uB_iff.1 h2)).1)
  have HR2 : Hid (mB m = true → uB lo = true → 0 ≤ rt m lo) := hid_intro (fun h1 h2 => (rt_bd (mB_iff.1 h1) (uB_iff.1 h2)).1)
  have HQ1 : Hid (rO m hi = if rt m hi ≤ 1000000000000000 then (rt m hi, 0) else (0, 12)) := rfl
  have HQ2 : Hid (rO m lo = if rt m lo ≤ 1000000000000000 then (rt m lo, 0) else (0, 12)) := rfl
  have HW := hid_intro hW
  generalize rbO m lo hi = O at *
  generalize rO m hi = O1 at *
  generalize rO m lo = O2 at *
  generalize rt m hi = R1 at *
  generalize rt m lo = R2 at *
  generalize mB m = r at *
  generalize uB lo = q1 at *
  generalize uB hi = q2 at *
  clear hT hn hl HM0
  obtain ⟨nm, g, wh, f, l, ts⟩ := m
  simp only at *
  generalize ts.length = tl at *
  clear hW
  rcases (show r = false ∨ (r = true ∧ q1 = false) ∨ (r = true ∧ q1 = true ∧ q2 = false) ∨ (r = true ∧ q1 = true ∧ q2 = true) by cases r <;> cases q1 <;> cases q2 <;> simp) with rfl | ⟨rfl, rfl⟩ | ⟨rfl, rfl, rfl⟩ | ⟨rfl, rfl, rfl⟩
  · obtain rfl : O = (0, 1) := HO.out
    go_enter Tryd.func12, Tryd.ntmps12
    go_wp2_with fail
    rw [← HW.out]
    refine (H1.out _ HB0.out).mono ?_
    rintro e w1 ⟨rfl, hb1⟩
    have HB1 := hid_intro (HB0.out.trans (hb1.mono HB0.out.size))
    have HZ1 := hid_intro (HZ0.out.below hb1)
    clear hb1
    go_wp2_with (first | (go_at_call_of 18 (Value.int .i64 lo); refine (H2.out _).mono ?_; rintro e w2 ⟨rfl, rfl⟩) | (go_at_call_of 18 (Value.int .i64 hi); refine (H2'.out _).mono ?_; rintro e w2 ⟨rfl, rfl⟩))
    refine (HIL.out _).mono ?_
    rintro e w9 ⟨rfl, hb9⟩
    replace HB1 := hid_intro (HB1.out.trans (hb9.mono HB1.out.size))
    obtain ⟨hz, ⟨x0, d0⟩, ⟨x1, d1⟩, ⟨x2, d2⟩, y0, y1, y2⟩ := HZ1.out.below hb9
    clear hb9
    unfold out
    go_wp2_with fail
    refine bodyPost_ret (v := out 0 1) (by simp [out, results, Tryd.results12, go_sem, d0, d1, d2]) rfl ⟨rfl, ?_⟩
    exact below3 HB1.out (by omega) _ _ _
  · obtain rfl : O = (0, 1) := HO.out
    go_enter Tryd.func12, Tryd.ntmps12
    go_wp2_with fail
    rw [← HW.out]
    refine (H1.out _ HB0.out).mono ?_
    rintro e w1 ⟨rfl, hb1⟩
    have HB1 := hid_intro (HB0.out.trans (hb1.mono HB0.out.size))
    have HZ1 := hid_intro (HZ0.out.below hb1)
    clear hb1
    go_wp2_with (first | (go_at_call_of 18 (Value.int .i64 lo); refine (H2.out _).mono ?_; rintro e w2 ⟨rfl, rfl⟩) | (go_at_call_of 18 (Value.int .i64 hi); refine (H2'.out _).mono ?_; rintro e w2 ⟨rfl, rfl⟩))
    refine (HIL.out _).mono ?_
    rintro e w9 ⟨rfl, hb9⟩
    replace HB1 := hid_intro (HB1.out.trans (hb9.mono HB1.out.size))
    obtain ⟨hz, ⟨x0, d0⟩, ⟨x1, d1⟩, ⟨x2, d2⟩, y0, y1, y2⟩ := HZ1.out.below hb9
    clear hb9
    unfold out
    go_wp2_with fail
    refine bodyPost_ret (v := out 0 1) (by simp [out, results, Tryd.results12, go_sem, d0, d1, d2]) rfl ⟨rfl, ?_⟩
    exact below3 HB1.out (by omega) _ _ _
  · obtain rfl : O = (0, 1) := HO.out
    go_enter Tryd.func12, Tryd.ntmps12
    go_wp2_with fail
    rw [← HW.out]
    refine (H1.out _ HB0.out).mono ?_
    rintro e w1 ⟨rfl, hb1⟩
    have HB1 := hid_intro (HB0.out.trans (hb1.mono HB0.out.size))
    have HZ1 := hid_intro (HZ0.out.below hb1)
    clear hb1
    go_wp2_with (first | (go_at_call_of 18 (Value.int .i64 lo); refine (H2.out _).mono ?_; rintro e w2 ⟨rfl, rfl⟩) | (go_at_call_of 18 (Value.int .i64 hi); refine (H2'.out _).mono ?_; rintro e w2 ⟨rfl, rfl⟩))
    refine (HIL.out _).mono ?_
    rintro e w9 ⟨rfl, hb9⟩
    replace HB1 := hid_intro (HB1.out.trans (hb9.mono HB1.out.size))
    obtain ⟨hz, ⟨x0, d0⟩, ⟨x1, d1⟩, ⟨x2, d2⟩, y0, y1, y2⟩ := HZ1.out.below hb9
    clear hb9
    unfold out
    go_wp2_with fail
    refine bodyPost_ret (v := out 0 1) (by simp [out, results, Tryd.results12, go_sem, d0, d1, d2]) rfl ⟨rfl, ?_⟩
    exact below3 HB1.out (by omega) _ _ _
  by_cases hlh : lo ≤ hi
  rotate_left
  · obtain rfl : O = (0, 1) := by have e := HO.out; rw [decide_eq_false hlh] at e; exact e
    have hlh2 : hi < lo := by omega
    clear hlh
    go_enter Tryd.func12, Tryd.ntmps12
    go_wp2_with fail
    rw [← HW.out]
    refine (H1.out _ HB0.out).mono ?_
    rintro e w1 ⟨rfl, hb1⟩
    have HB1 := hid_intro (HB0.out.trans (hb1.mono HB0.out.size))
    have HZ1 := hid_intro (HZ0.out.below hb1)
    clear hb1
    go_wp2_with (first | (go_at_call_of 18 (Value.int .i64 lo); refine (H2.out _).mono ?_; rintro e w2 ⟨rfl, rfl⟩) | (go_at_call_of 18 (Value.int .i64 hi); refine (H2'.out _).mono ?_; rintro e w2 ⟨rfl, rfl⟩))
    refine (HIL.out _).mono ?_
    rintro e w9 ⟨rfl, hb9⟩
    replace HB1 := hid_intro (HB1.out.trans (hb9.mono HB1.out.size))
    obtain ⟨hz, ⟨x0, d0⟩, ⟨x1, d1⟩, ⟨x2, d2⟩, y0, y1, y2⟩ := HZ1.out.below hb9
    clear hb9
    unfold out
    go_wp2_with fail
    refine bodyPost_ret (v := out 0 1) (by simp [out, results, Tryd.results12, go_sem, d0, d1, d2]) rfl ⟨rfl, ?_⟩
    exact below3 HB1.out (by omega) _ _ _
  have H3 := hid_intro (H3'.out rfl rfl)
  have H4 := hid_intro (H4'.out rfl rfl)
  have HRA := hid_intro (HR1.out rfl rfl)
  have HRB := hid_intro (HR2.out rfl rfl)
  rw [decide_eq_true hlh] at HO
  have hlh2 : ¬ hi < lo := by omega
  clear H3' H4' hlh
  have HP : Hid ((O1 = (R1, 0) ∧ O2 = (R2, 0) ∧ O = (R1 - R2, 0) ∧ R1 ≤ 1000000000000000 ∧ R2 ≤ 1000000000000000) ∨ (O1 = (0, 12) ∧ O = (0, 12)) ∨ (O1 = (R1, 0) ∧ O2 = (0, 12) ∧ O = (0, 12))) := hid_intro (by
    by_cases h1 : R1 ≤ 1000000000000000
    · by_cases h2 : R2 ≤ 1000000000000000
      · exact .inl ⟨HQ1.out.trans (if_pos h1), HQ2.out.trans (if_pos h2), (HO.out.trans (if_pos h1)).trans (if_pos h2), h1, h2⟩
      · exact .inr (.inr ⟨HQ1.out.trans (if_pos h1), HQ2.out.trans (if_neg h2), (HO.out.trans (if_pos h1)).trans (if_neg h2)⟩)
    · exact .inr (.inl ⟨HQ1.out.trans (if_neg h1), HO.out.trans (if_neg h1)⟩))
  go_enter Tryd.func12, Tryd.ntmps12
  go_wp2_with fail
  rw [← HW.out]
  refine (H1.out _ HB0.out).mono ?_
  rintro e w1 ⟨rfl, hb1⟩
  have HB1 := hid_intro (HB0.out.trans (hb1.mono HB0.out.size))
  have HZ1 := hid_intro (HZ0.out.below hb1)
  have HK1 := hid_intro (HK0.out.below hb1)
  clear hb1
  have hl1 := HK1.out.1
  have c0 : w1.cell? ⟨w.heap.size, 0, none⟩ = some (.string nm) := HK1.out.2 0 (by simp)
  have c1 : w1.cell? ⟨w.heap.size, 1, none⟩ = some (.int .i64 g) := HK1.out.2 1 (by simp)
  have c2 : w1.cell? ⟨w.heap.size, 2, none⟩ = some (.bool wh) := HK1.out.2 2 (by simp)
  have c3 : w1.cell? ⟨w.heap.size, 3, none⟩ = some (.int .i64 f) := HK1.out.2 3 (by simp)
  have c4 : w1.cell? ⟨w.heap.size, 4, none⟩ = some (.int .i64 l) := HK1.out.2 4 (by simp)
  have c5 : w1.cell? ⟨w.heap.size, 5, none⟩ = some (.slice ta tl tc) := HK1.out.2 5 (by simp)
  go_wp2_with (first | (go_at_call_of 18 (Value.int .i64 lo); refine (H2.out _).mono ?_; rintro e w2 ⟨rfl, rfl⟩) | (go_at_call_of 18 (Value.int .i64 hi); refine (H2'.out _).mono ?_; rintro e w2 ⟨rfl, rfl⟩))
  refine (H3.out _ HB1.out).mono ?_
  rintro e w3 ⟨rfl, hb3⟩
  have HB3 := hid_intro (HB1.out.trans (hb3.mono HB1.out.size))
  have HZ3 := hid_intro (HZ1.out.below hb3)
  have hz3 := HZ3.out.1
  have HK3 := hid_intro ((HK1.out.below hb3).alloc (.cells #[.int .i64 O1.1, .int .i64 0, .int .i64 O1.2] 27))
  clear hb3 c0 c1 c2 c3 c4 c5 hl1
  unfold out
  obtain ⟨A1, C1⟩ := O1
  dsimp only at HK3
  have hl3 := HK3.out.1
  have k0 : (w3.alloc (.cells #[.int .i64 A1, .int .i64 0, .int .i64 C1] 27)).cell? ⟨w.heap.size, 0, none⟩ = some (.string nm) := HK3.out.2 0 (by simp)
  have k1 : (w3.alloc (.cells #[.int .i64 A1, .int .i64 0, .int .i64 C1] 27)).cell? ⟨w.heap.size, 1, none⟩ = some (.int .i64 g) := HK3.out.2 1 (by simp)
  have k2 : (w3.alloc (.cells #[.int .i64 A1, .int .i64 0, .int .i64 C1] 27)).cell? ⟨w.heap.size, 2, none⟩ = some (.bool wh) := HK3.out.2 2 (by simp)
  have k3 : (w3.alloc (.cells #[.int .i64 A1, .int .i64 0, .int .i64 C1] 27)).cell? ⟨w.heap.size, 3, none⟩ = some (.int .i64 f) := HK3.out.2 3 (by simp)
  have k4 : (w3.alloc (.cells #[.int .i64 A1, .int .i64 0, .int .i64 C1] 27)).cell? ⟨w.heap.size, 4, none⟩ = some (.int .i64 l) := HK3.out.2 4 (by simp)
  have k5 : (w3.alloc (.cells #[.int .i64 A1, .int .i64 0, .int .i64 C1] 27)).cell? ⟨w.heap.size, 5, none⟩ = some (.slice ta tl tc) := HK3.out.2 5 (by simp)
  go_wp2_with fail
  refine (H4.out _ (HB3.out.alloc HB3.out.size _)).mono ?_
  rintro e w4 ⟨rfl, hb4⟩
  have HB4' := hid_intro ((HB3.out.alloc HB3.out.size (.cells #[.int .i64 A1, .int .i64 0, .int .i64 C1] 27)).trans (hb4.mono (HB3.out.alloc HB3.out.size _).size))
  have HZ4' := hid_intro ((HZ3.out.below ((Below.refl _ _).alloc (Nat.le_refl _) _)).below hb4)
  have u0 := hb4.cell (p := ⟨w3.heap.size, 0, none⟩) (by simp)
  have u1 := hb4.cell (p := ⟨w3.heap.size, 1, none⟩) (by simp)
  have u2 := hb4.cell (p := ⟨w3.heap.size, 2, none⟩) (by simp)
  have hu4 : w3.heap.size < w4.heap.size := by have := hb4.size; simp at this; omega
  simp [go_sem] at u0 u1 u2
  obtain ⟨A2, C2⟩ := O2
  clear hb4 k0 k1 k2 k3 k4 k5
  unfold out
  dsimp only
  have HB4 := hid_intro (HB4'.out.alloc HB4'.out.size (.cells #[.int .i64 A2, .int .i64 0, .int .i64 C2] 27))
  have HZ4 := hid_intro (HZ4'.out.below ((Below.refl _ _).alloc (Nat.le_refl _) (.cells #[.int .i64 A2, .int .i64 0, .int .i64 C2] 27)))
  rcases HP.out with ⟨h1, h2, h3, b1, b2⟩ | ⟨h1, h3⟩ | ⟨h1, h2, h3⟩
  · cases h1; cases h2; subst h3
    obtain ⟨hz, ⟨x0, d0⟩, ⟨x1, d1⟩, ⟨x2, d2⟩, y0, y1, y2⟩ := HZ4'.out
    have hw : wrap64 (R1 - R2) = R1 - R2 := by have := HRA.out; have := HRB.out; unfold wrap64; omega
    go_wp2_with fail
    refine bodyPost_ret (v := out (R1 - R2) 0) (by simp [out, results, Tryd.results12, go_sem, d0, d1, d2, hz]) rfl ⟨rfl, ?_⟩
    exact (below3 HB4'.out (by omega) _ _ _).alloc (below3 HB4'.out (by omega) _ _ _).size _
  · cases h1; subst h3
    go_wp2_with fail
    refine (HI12.out _).mono ?_
    rintro e w5 ⟨rfl, hb5⟩
    have HB5 := hid_intro (HB4.out.trans (hb5.mono HB4.out.size))
    obtain ⟨hz, ⟨x0, d0⟩, ⟨x1, d1⟩, ⟨x2, d2⟩, y0, y1, y2⟩ := HZ4.out.below hb5
    clear hb5
    unfold out
    go_wp2_with fail
    refine bodyPost_ret (v := out 0 12) (by simp [out, results, Tryd.results12, go_sem, d0, d1, d2]) rfl ⟨rfl, ?_⟩
    exact below3 HB5.out (by omega) _ _ _
  · cases h1; cases h2; subst h3
    go_wp2_with fail
    refine (HI12.out _).mono ?_
    rintro e w5 ⟨rfl, hb5⟩
    have HB5 := hid_intro (HB4.out.trans (hb5.mono HB4.out.size))
    obtain ⟨hz, ⟨x0, d0⟩, ⟨x1, d1⟩, ⟨x2, d2⟩, y0, y1, y2⟩ := HZ4.out.below hb5
    clear hb5
    unfold out
    go_wp2_with fail
    refine bodyPost_ret (v := out 0 12) (by simp [out, results, Tryd.results12, go_sem, d0, d1, d2]) rfl ⟨rfl, ?_⟩
    exact below3 HB5.out (by omega) _ _ _
end CatR
end Go.Proofs.YtnhjodlcdfkpnaaDoor
