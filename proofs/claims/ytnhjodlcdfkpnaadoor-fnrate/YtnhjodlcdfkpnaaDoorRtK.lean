/-
  Rate and RateBetween: the program's faces. The condition: the program's own error stands in its variable.
-/
import Derived.Test.YtnhjodlcdfkpnaaDoorRtJ
import Derived.Test.YtnhjodlcdfkpnaaDoorMinus
namespace Go.Proofs.YtnhjodlcdfkpnaaDoor
open Go.ChangeShapes Go.WideShapes Go.ChangeAt Go.RowKit
set_option linter.unusedVariables false
namespace CatR
open FixR (In Laid Thrown out)
def uB (u : Int) : Bool := decide (0 ≤ u ∧ u ≤ 1000000000000)
theorem uB_iff {u : Int} : uB u = true ↔ 0 ≤ u ∧ u ≤ 1000000000000 := by unfold uB; exact decide_eq_true_iff
theorem is_used (u : Int) (w : World) : Calls Tryd.prog 23 #[.int .i64 u] w fun e w' => e = .returned (.bool (uB u)) ∧ w' = w := by
  rcases (show (¬ 0 ≤ u) ∨ (0 ≤ u ∧ ¬ u ≤ 1000000000000) ∨ (0 ≤ u ∧ u ≤ 1000000000000) by omega) with h | ⟨h1, h2⟩ | ⟨h1, h2⟩
  all_goals
    go_enter Tryd.func23, Tryd.ntmps23
    go_wp2_with (go_at_call 40; go_in)
    go_ret
    exact ⟨ret_bool (by unfold uB; first | (simp [*]; done) | (simp; omega)), rfl⟩
theorem below3 {w W : World} (hb : Below w.heap.size w W) {p : Nat} (hp : w.heap.size ≤ p) (x y z : Value) : Below w.heap.size w (((W.setCell ⟨p, 0, none⟩ x).setCell ⟨p, 1, none⟩ y).setCell ⟨p, 2, none⟩ z) :=
  ((hb.setCell (p := ⟨p, 0, none⟩) hp _).setCell (p := ⟨p, 1, none⟩) hp _).setCell (p := ⟨p, 2, none⟩) hp _
/-- Three cells that may be written. -/
def Z3 (p : Nat) (w : World) : Prop := p < w.heap.size ∧ (∃ x, w.cell? ⟨p, 0, none⟩ = some x) ∧ (∃ x, w.cell? ⟨p, 1, none⟩ = some x) ∧ (∃ x, w.cell? ⟨p, 2, none⟩ = some x) ∧ w.frozen? ⟨p, 0, none⟩ = false ∧ w.frozen? ⟨p, 1, none⟩ = false ∧ w.frozen? ⟨p, 2, none⟩ = false
theorem Z3.below {p : Nat} {w w' : World} (h : Z3 p w) (hb : Below w.heap.size w w') : Z3 p w' := by
  obtain ⟨hl, ⟨x0, h0⟩, ⟨x1, h1⟩, ⟨x2, h2⟩, z0, z1, z2⟩ := h
  have c := fun o => hb.cell (p := ⟨p, o, none⟩) hl
  have z := fun o => hb.frozen (p := ⟨p, o, none⟩) hl
  exact ⟨by have := hb.size; omega, ⟨x0, (c 0).trans h0⟩, ⟨x1, (c 1).trans h1⟩, ⟨x2, (c 2).trans h2⟩, (z 0).trans z0, (z 1).trans z1, (z 2).trans z2⟩
theorem Z3.new (w : World) (T : TypeId) : Z3 w.heap.size (w.alloc (Obj.cells #[.int .i64 0, .int .i64 0, .int .i64 0] T)) :=
  ⟨by simp, ⟨_, by simp [go_sem]; rfl⟩, ⟨_, by simp [go_sem]; rfl⟩, ⟨_, by simp [go_sem]; rfl⟩, by simp [go_sem], by simp [go_sem], by simp [go_sem]⟩
set_option maxRecDepth 100000 in
set_option maxHeartbeats 4000000 in
theorem impl_Rate (v : Value) (m : Me) (u : Int) (w : World) (hL : Laid w) (hn : m.n.size ≤ 1048576) (hl : m.ts.length ≤ 1048576) (hM : IsMe v m w) :
    Calls Tryd.prog 9 #[v, .int .i64 u] w fun e w' => e = .returned (out (rateO m u).1 (rateO m u).2) ∧ Below w.heap.size w w' := by
  have HM0 := hid_intro hM
  obtain ⟨ta, tc, rfl, hT⟩ := hM
  obtain ⟨W, hW⟩ : ∃ W, W = (w.alloc (Obj.cells #[.string m.n, .int .i64 m.g, .bool m.wh, .int .i64 m.f, .int .i64 m.l, .slice ta m.ts.length tc] 31)).alloc (Obj.cells #[.int .i64 0, .int .i64 0, .int .i64 0] 27) := ⟨_, rfl⟩
  have HB0 : Hid (Below w.heap.size w W) := hid_intro (by rw [hW]; exact ((Below.refl _ _).alloc (by simp; try omega) _).alloc (by simp; try omega) _)
  have HK0 : Hid (Blk w.heap.size [.string m.n, .int .i64 m.g, .bool m.wh, .int .i64 m.f, .int .i64 m.l, .slice ta m.ts.length tc] W) := hid_intro (by rw [hW]; exact (Blk.new w _ _).alloc _)
  have HZ0 : Hid (Z3 (w.heap.size + 1) W) := hid_intro (by rw [hW]; have := Z3.new (w.alloc (Obj.cells #[.string m.n, .int .i64 m.g, .bool m.wh, .int .i64 m.f, .int .i64 m.l, .slice ta m.ts.length tc] 31)) 27; simpa using this)
  have H1 := hid_intro (fun W (hb : Below w.heap.size w W) => impl_meter _ m W hn hl (HM0.out.below hb))
  have H2 := hid_intro (fun w => is_used u w)
  have H3 := hid_intro (fun W (hb : Below w.heap.size w W) (hr : mB m = true) (hu : uB u = true) => impl_rate _ m u W (hL.below hb) (mB_iff.1 hr) (uB_iff.1 hu) (HM0.out.below hb))
  have HO : Hid (rateO m u = bif mB m && uB u then rO m u else (0, 1)) := rfl
  have HW := hid_intro hW
  generalize rateO m u = O at *
  generalize rO m u = O2 at *
  generalize mB m = r at *
  generalize uB u = q at *
  clear hT hL hn hl HM0
  obtain ⟨nm, g, wh, f, l, ts⟩ := m
  simp only at *
  generalize ts.length = tl at *
  clear hW
  cases r
  · have e := HO.out
    subst e
    go_enter Tryd.func9, Tryd.ntmps9
    go_wp2_with fail
    rw [← HW.out]
    refine (H1.out _ HB0.out).mono ?_
    rintro e w1 ⟨rfl, hb1⟩
    have HB1 := hid_intro (HB0.out.trans (hb1.mono HB0.out.size))
    obtain ⟨hz, ⟨x0, d0⟩, ⟨x1, d1⟩, ⟨x2, d2⟩, y0, y1, y2⟩ := HZ0.out.below hb1
    clear hb1
    go_wp2_with fail
    refine bodyPost_ret (v := out 0 1) (by simp [out, results, Tryd.results9, go_sem, d0, d1, d2]) rfl ⟨rfl, ?_⟩
    exact below3 HB1.out (by omega) _ _ _
  cases q
  · have e := HO.out
    subst e
    go_enter Tryd.func9, Tryd.ntmps9
    go_wp2_with fail
    rw [← HW.out]
    refine (H1.out _ HB0.out).mono ?_
    rintro e w1 ⟨rfl, hb1⟩
    have HB1 := hid_intro (HB0.out.trans (hb1.mono HB0.out.size))
    obtain ⟨hz, ⟨x0, d0⟩, ⟨x1, d1⟩, ⟨x2, d2⟩, y0, y1, y2⟩ := HZ0.out.below hb1
    clear hb1
    go_wp2_with (go_at_call 23; refine (H2.out _).mono ?_; rintro e w2 ⟨rfl, rfl⟩)
    refine bodyPost_ret (v := out 0 1) (by simp [out, results, Tryd.results9, go_sem, d0, d1, d2]) rfl ⟨rfl, ?_⟩
    exact below3 HB1.out (by omega) _ _ _
  obtain rfl : O = O2 := HO.out
  have H4 := hid_intro (fun W hb => H3.out W hb rfl rfl)
  go_enter Tryd.func9, Tryd.ntmps9
  go_wp2_with fail
  rw [← HW.out]
  refine (H1.out _ HB0.out).mono ?_
  rintro e w1 ⟨rfl, hb1⟩
  have HB1 := hid_intro (HB0.out.trans (hb1.mono HB0.out.size))
  have HZ1 := hid_intro (HZ0.out.below hb1)
  have HK1 := hid_intro (HK0.out.below hb1)
  clear hb1
  have hl1 := HK1.out.1
  have c0 : w1.cell? ⟨w.heap.size, 0, none⟩ = some (.string nm) := HK1.out.2 0 (by simp)
  have c1 : w1.cell? ⟨w.heap.size, 1, none⟩ = some (.int .i64 g) := HK1.out.2 1 (by simp)
  have c2 : w1.cell? ⟨w.heap.size, 2, none⟩ = some (.bool wh) := HK1.out.2 2 (by simp)
  have c3 : w1.cell? ⟨w.heap.size, 3, none⟩ = some (.int .i64 f) := HK1.out.2 3 (by simp)
  have c4 : w1.cell? ⟨w.heap.size, 4, none⟩ = some (.int .i64 l) := HK1.out.2 4 (by simp)
  have c5 : w1.cell? ⟨w.heap.size, 5, none⟩ = some (.slice ta tl tc) := HK1.out.2 5 (by simp)
  go_wp2_with (go_at_call 23; refine (H2.out _).mono ?_; rintro e w2 ⟨rfl, rfl⟩)
  refine (H4.out _ HB1.out).mono ?_
  rintro e w3 ⟨rfl, hb3⟩
  have HB3 := hid_intro (HB1.out.trans (hb3.mono HB1.out.size))
  obtain ⟨hz, ⟨x0, d0⟩, ⟨x1, d1⟩, ⟨x2, d2⟩, y0, y1, y2⟩ := HZ1.out.below hb3
  clear hb3 c0 c1 c2 c3 c4 c5 hl1
  obtain ⟨a, c⟩ := O
  unfold out
  go_wp2_with fail
  refine bodyPost_ret (v := out a c) (by simp [out, results, Tryd.results9, go_sem, d0, d1, d2]) rfl ⟨rfl, ?_⟩
  exact below3 HB3.out (by omega) _ _ _
/-- What it costs from one number to another: a number and a code. -/
def rbO (m : Me) (lo hi : Int) : Int × Int := bif mB m && uB lo && uB hi && decide (lo ≤ hi) then (if rt m hi ≤ 1000000000000000 then (if rt m lo ≤ 1000000000000000 then (rt m hi - rt m lo, 0) else (0, 12)) else (0, 12)) else (0, 1)
set_option maxRecDepth 100000 in
set_option maxHeartbeats 4000000 in
theorem impl_RateBetween (v : Value) (m : Me) (lo hi : Int) (w : World) (hL : Laid w) (hn : m.n.size ≤ 1048576) (hl : m.ts.length ≤ 1048576) (hM : IsMe v m w) :
    Calls Tryd.prog 13 #[v, .int .i64 lo, .int .i64 hi] w fun e w' => e = .returned (out (rbO m lo hi).1 (rbO m lo hi).2) ∧ Below w.heap.size w w' := by
  have HM0 := hid_intro hM
  obtain ⟨ta, tc, rfl, hT⟩ := hM
  have hmf : ∀ (fn : Fn) (first cap : Array Value) (w : World), (Instr.makeFunc fn first cap).run Tryd.prog w = .ok (.func fn first cap) w := fun _ _ _ _ => rfl
  obtain ⟨W, hW⟩ : ∃ W, W = (w.alloc (Obj.cells #[.string m.n, .int .i64 m.g, .bool m.wh, .int .i64 m.f, .int .i64 m.l, .slice ta m.ts.length tc] 31)).alloc (Obj.cells #[.int .i64 0, .int .i64 0, .int .i64 0] 27) := ⟨_, rfl⟩
  have HB0 : Hid (Below w.heap.size w W) := hid_intro (by rw [hW]; exact ((Below.refl _ _).alloc (by simp; try omega) _).alloc (by simp; try omega) _)
  have HK0 : Hid (Blk w.heap.size [.string m.n, .int .i64 m.g, .bool m.wh, .int .i64 m.f, .int .i64 m.l, .slice ta m.ts.length tc] W) := hid_intro (by rw [hW]; exact (Blk.new w _ _).alloc _)
  have HZ0 : Hid (Z3 (w.heap.size + 1) W) := hid_intro (by rw [hW]; have := Z3.new (w.alloc (Obj.cells #[.string m.n, .int .i64 m.g, .bool m.wh, .int .i64 m.f, .int .i64 m.l, .slice ta m.ts.length tc] 31)) 27; simpa using this)
  have H1 := hid_intro (fun W (hb : Below w.heap.size w W) => impl_meter _ m W hn hl (HM0.out.below hb))
  have H2 := hid_intro (fun w => is_used lo w)
  have H2' := hid_intro (fun w => is_used hi w)
  have H3' := hid_intro (fun (hr : mB m = true) (hu : uB hi = true) W (hb : Below w.heap.size w W) => impl_rate _ m hi W (hL.below hb) (mB_iff.1 hr) (uB_iff.1 hu) (HM0.out.below hb))
  have H4' := hid_intro (fun (hr : mB m = true) (hu : uB lo = true) W (hb : Below w.heap.size w W) => impl_rate _ m lo W (hL.below hb) (mB_iff.1 hr) (uB_iff.1 hu) (HM0.out.below hb))
  have HO : Hid (rbO m lo hi = bif mB m && uB lo && uB hi && decide (lo ≤ hi) then (if rt m hi ≤ 1000000000000000 then (if rt m lo ≤ 1000000000000000 then (rt m hi - rt m lo, 0) else (0, 12)) else (0, 12)) else (0, 1)) := rfl
  have HR1 : Hid (mB m = true → uB hi = true → 0 ≤ rt m hi) := hid_intro (fun h1 h2 => (rt_bd (mB_iff.1 h1) (uB_iff.1 h2)).1)
  have HR2 : Hid (mB m = true → uB lo = true → 0 ≤ rt m lo) := hid_intro (fun h1 h2 => (rt_bd (mB_iff.1 h1) (uB_iff.1 h2)).1)
  have HQ1 : Hid (rO m hi = if rt m hi ≤ 1000000000000000 then (rt m hi, 0) else (0, 12)) := rfl
  have HQ2 : Hid (rO m lo = if rt m lo ≤ 1000000000000000 then (rt m lo, 0) else (0, 12)) := rfl
  have HW := hid_intro hW
  have HL := hid_intro hL
  generalize rbO m lo hi = O at *
  generalize rO m hi = O1 at *
  generalize rO m lo = O2 at *
  generalize rt m hi = R1 at *
  generalize rt m lo = R2 at *
  generalize mB m = r at *
  generalize uB lo = q1 at *
  generalize uB hi = q2 at *
  clear hT hL hn hl HM0
  obtain ⟨nm, g, wh, f, l, ts⟩ := m
  simp only at *
  generalize ts.length = tl at *
  clear hW
  rcases (show r = false ∨ (r = true ∧ q1 = false) ∨ (r = true ∧ q1 = true ∧ q2 = false) ∨ (r = true ∧ q1 = true ∧ q2 = true) by cases r <;> cases q1 <;> cases q2 <;> simp) with rfl | ⟨rfl, rfl⟩ | ⟨rfl, rfl, rfl⟩ | ⟨rfl, rfl, rfl⟩
  · obtain rfl : O = (0, 1) := HO.out
    go_enter Tryd.func13, Tryd.ntmps13
    go_wp2_with fail
    rw [← HW.out]
    refine (H1.out _ HB0.out).mono ?_
    rintro e w1 ⟨rfl, hb1⟩
    have HB1 := hid_intro (HB0.out.trans (hb1.mono HB0.out.size))
    obtain ⟨hz, ⟨x0, d0⟩, ⟨x1, d1⟩, ⟨x2, d2⟩, y0, y1, y2⟩ := HZ0.out.below hb1
    clear hb1
    go_wp2_with (first | (go_at_call_of 23 (Value.int .i64 lo); refine (H2.out _).mono ?_; rintro e w2 ⟨rfl, rfl⟩) | (go_at_call_of 23 (Value.int .i64 hi); refine (H2'.out _).mono ?_; rintro e w2 ⟨rfl, rfl⟩))
    refine bodyPost_ret (v := out 0 1) (by simp [out, results, Tryd.results13, go_sem, d0, d1, d2]) rfl ⟨rfl, ?_⟩
    exact below3 HB1.out (by omega) _ _ _
  · obtain rfl : O = (0, 1) := HO.out
    go_enter Tryd.func13, Tryd.ntmps13
    go_wp2_with fail
    rw [← HW.out]
    refine (H1.out _ HB0.out).mono ?_
    rintro e w1 ⟨rfl, hb1⟩
    have HB1 := hid_intro (HB0.out.trans (hb1.mono HB0.out.size))
    obtain ⟨hz, ⟨x0, d0⟩, ⟨x1, d1⟩, ⟨x2, d2⟩, y0, y1, y2⟩ := HZ0.out.below hb1
    clear hb1
    go_wp2_with (first | (go_at_call_of 23 (Value.int .i64 lo); refine (H2.out _).mono ?_; rintro e w2 ⟨rfl, rfl⟩) | (go_at_call_of 23 (Value.int .i64 hi); refine (H2'.out _).mono ?_; rintro e w2 ⟨rfl, rfl⟩))
    refine bodyPost_ret (v := out 0 1) (by simp [out, results, Tryd.results13, go_sem, d0, d1, d2]) rfl ⟨rfl, ?_⟩
    exact below3 HB1.out (by omega) _ _ _
  · obtain rfl : O = (0, 1) := HO.out
    go_enter Tryd.func13, Tryd.ntmps13
    go_wp2_with fail
    rw [← HW.out]
    refine (H1.out _ HB0.out).mono ?_
    rintro e w1 ⟨rfl, hb1⟩
    have HB1 := hid_intro (HB0.out.trans (hb1.mono HB0.out.size))
    obtain ⟨hz, ⟨x0, d0⟩, ⟨x1, d1⟩, ⟨x2, d2⟩, y0, y1, y2⟩ := HZ0.out.below hb1
    clear hb1
    go_wp2_with (first | (go_at_call_of 23 (Value.int .i64 lo); refine (H2.out _).mono ?_; rintro e w2 ⟨rfl, rfl⟩) | (go_at_call_of 23 (Value.int .i64 hi); refine (H2'.out _).mono ?_; rintro e w2 ⟨rfl, rfl⟩))
    refine bodyPost_ret (v := out 0 1) (by simp [out, results, Tryd.results13, go_sem, d0, d1, d2]) rfl ⟨rfl, ?_⟩
    exact below3 HB1.out (by omega) _ _ _
  by_cases hlh : lo ≤ hi
  rotate_left
  · obtain rfl : O = (0, 1) := by have e := HO.out; rw [decide_eq_false hlh] at e; exact e
    have hlh2 : hi < lo := by omega
    clear hlh
    go_enter Tryd.func13, Tryd.ntmps13
    go_wp2_with fail
    rw [← HW.out]
    refine (H1.out _ HB0.out).mono ?_
    rintro e w1 ⟨rfl, hb1⟩
    have HB1 := hid_intro (HB0.out.trans (hb1.mono HB0.out.size))
    obtain ⟨hz, ⟨x0, d0⟩, ⟨x1, d1⟩, ⟨x2, d2⟩, y0, y1, y2⟩ := HZ0.out.below hb1
    clear hb1
    go_wp2_with (first | (go_at_call_of 23 (Value.int .i64 lo); refine (H2.out _).mono ?_; rintro e w2 ⟨rfl, rfl⟩) | (go_at_call_of 23 (Value.int .i64 hi); refine (H2'.out _).mono ?_; rintro e w2 ⟨rfl, rfl⟩))
    refine bodyPost_ret (v := out 0 1) (by simp [out, results, Tryd.results13, go_sem, d0, d1, d2]) rfl ⟨rfl, ?_⟩
    exact below3 HB1.out (by omega) _ _ _
  have H3 := hid_intro (H3'.out rfl rfl)
  have H4 := hid_intro (H4'.out rfl rfl)
  have HR1 := hid_intro (HR1.out rfl rfl)
  have HR2 := hid_intro (HR2.out rfl rfl)
  rw [decide_eq_true hlh] at HO
  have hlh2 : ¬ hi < lo := by omega
  clear H3' H4' hlh
  by_cases hi1 : R1 ≤ 1000000000000000
  rotate_left
  · obtain rfl : O = (0, 12) := HO.out.trans (if_neg hi1)
    obtain rfl : O1 = (0, 12) := HQ1.out.trans (if_neg hi1)
    go_enter Tryd.func13, Tryd.ntmps13
    go_wp2_with fail
    rw [← HW.out]
    refine (H1.out _ HB0.out).mono ?_
    rintro e w1 ⟨rfl, hb1⟩
    have HB1 := hid_intro (HB0.out.trans (hb1.mono HB0.out.size))
    have HZ1 := hid_intro (HZ0.out.below hb1)
    have HK1 := hid_intro (HK0.out.below hb1)
    clear hb1
    have hl1 := HK1.out.1
    have c0 : w1.cell? ⟨w.heap.size, 0, none⟩ = some (.string nm) := HK1.out.2 0 (by simp)
    have c1 : w1.cell? ⟨w.heap.size, 1, none⟩ = some (.int .i64 g) := HK1.out.2 1 (by simp)
    have c2 : w1.cell? ⟨w.heap.size, 2, none⟩ = some (.bool wh) := HK1.out.2 2 (by simp)
    have c3 : w1.cell? ⟨w.heap.size, 3, none⟩ = some (.int .i64 f) := HK1.out.2 3 (by simp)
    have c4 : w1.cell? ⟨w.heap.size, 4, none⟩ = some (.int .i64 l) := HK1.out.2 4 (by simp)
    have c5 : w1.cell? ⟨w.heap.size, 5, none⟩ = some (.slice ta tl tc) := HK1.out.2 5 (by simp)
    go_wp2_with (first | (go_at_call_of 23 (Value.int .i64 lo); refine (H2.out _).mono ?_; rintro e w2 ⟨rfl, rfl⟩) | (go_at_call_of 23 (Value.int .i64 hi); refine (H2'.out _).mono ?_; rintro e w2 ⟨rfl, rfl⟩))
    refine (H3.out _ HB1.out).mono ?_
    rintro e w3 ⟨rfl, hb3⟩
    have HB3 := hid_intro (HB1.out.trans (hb3.mono HB1.out.size))
    have HZ3 := hid_intro (HZ1.out.below hb3)
    have hz3 := HZ3.out.1
    clear hb3 c0 c1 c2 c3 c4 c5 hl1
    unfold out
    obtain ⟨hz, ⟨x0, d0⟩, ⟨x1, d1⟩, ⟨x2, d2⟩, y0, y1, y2⟩ := HZ3.out
    go_wp2_with fail
    refine bodyPost_ret (v := out 0 12) (by simp [out, results, Tryd.results13, go_sem, d0, d1, d2, hz]) rfl ⟨rfl, ?_⟩
    exact (below3 HB3.out (by omega) _ _ _).alloc (below3 HB3.out (by omega) _ _ _).size _
  obtain rfl : O1 = (R1, 0) := HQ1.out.trans (if_pos hi1)
  by_cases hi2 : R2 ≤ 1000000000000000
  rotate_left
  · obtain rfl : O = (0, 12) := (HO.out.trans (if_pos hi1)).trans (if_neg hi2)
    obtain rfl : O2 = (0, 12) := HQ2.out.trans (if_neg hi2)
    go_enter Tryd.func13, Tryd.ntmps13
    go_wp2_with fail
    rw [← HW.out]
    refine (H1.out _ HB0.out).mono ?_
    rintro e w1 ⟨rfl, hb1⟩
    have HB1 := hid_intro (HB0.out.trans (hb1.mono HB0.out.size))
    have HZ1 := hid_intro (HZ0.out.below hb1)
    have HK1 := hid_intro (HK0.out.below hb1)
    clear hb1
    have hl1 := HK1.out.1
    have c0 : w1.cell? ⟨w.heap.size, 0, none⟩ = some (.string nm) := HK1.out.2 0 (by simp)
    have c1 : w1.cell? ⟨w.heap.size, 1, none⟩ = some (.int .i64 g) := HK1.out.2 1 (by simp)
    have c2 : w1.cell? ⟨w.heap.size, 2, none⟩ = some (.bool wh) := HK1.out.2 2 (by simp)
    have c3 : w1.cell? ⟨w.heap.size, 3, none⟩ = some (.int .i64 f) := HK1.out.2 3 (by simp)
    have c4 : w1.cell? ⟨w.heap.size, 4, none⟩ = some (.int .i64 l) := HK1.out.2 4 (by simp)
    have c5 : w1.cell? ⟨w.heap.size, 5, none⟩ = some (.slice ta tl tc) := HK1.out.2 5 (by simp)
    go_wp2_with (first | (go_at_call_of 23 (Value.int .i64 lo); refine (H2.out _).mono ?_; rintro e w2 ⟨rfl, rfl⟩) | (go_at_call_of 23 (Value.int .i64 hi); refine (H2'.out _).mono ?_; rintro e w2 ⟨rfl, rfl⟩))
    refine (H3.out _ HB1.out).mono ?_
    rintro e w3 ⟨rfl, hb3⟩
    have HB3 := hid_intro (HB1.out.trans (hb3.mono HB1.out.size))
    have HZ3 := hid_intro (HZ1.out.below hb3)
    have hz3 := HZ3.out.1
    clear hb3 c0 c1 c2 c3 c4 c5 hl1
    unfold out
    go_wp2_with fail
    refine (H4.out _ (HB3.out.alloc HB3.out.size _)).mono ?_
    rintro e w4 ⟨rfl, hb4⟩
    have HB4 := hid_intro ((HB3.out.alloc HB3.out.size _).trans (hb4.mono (HB3.out.alloc HB3.out.size _).size))
    have HZ4 := hid_intro ((HZ3.out.below ((Below.refl _ _).alloc (Nat.le_refl _) _)).below hb4)
    have u0 := hb4.cell (p := ⟨w3.heap.size, 0, none⟩) (by simp)
    have u1 := hb4.cell (p := ⟨w3.heap.size, 1, none⟩) (by simp)
    have u2 := hb4.cell (p := ⟨w3.heap.size, 2, none⟩) (by simp)
    have hu4 : w3.heap.size < w4.heap.size := by have := hb4.size; simp at this; omega
    simp [go_sem] at u0 u1 u2
    obtain ⟨hz, ⟨x0, d0⟩, ⟨x1, d1⟩, ⟨x2, d2⟩, y0, y1, y2⟩ := HZ4.out
    clear hb4
    unfold out
    go_wp2_with fail
    refine bodyPost_ret (v := out 0 12) (by simp [out, results, Tryd.results13, go_sem, d0, d1, d2, hz]) rfl ⟨rfl, ?_⟩
    exact (below3 HB4.out (by omega) _ _ _).alloc (below3 HB4.out (by omega) _ _ _).size _
  · obtain rfl : O = (R1 - R2, 0) := (HO.out.trans (if_pos hi1)).trans (if_pos hi2)
    obtain rfl : O2 = (R2, 0) := HQ2.out.trans (if_pos hi2)
    have HMI := hid_intro (fun W hL => FixR.impl_minus_ok R1 R2 (by unfold In; have := HR1.out; omega) (by unfold In; have := HR2.out; omega) (by unfold In; have := HR1.out; have := HR2.out; omega) W hL)
    generalize R1 - R2 = D at *
    go_enter Tryd.func13, Tryd.ntmps13
    go_wp2_with fail
    rw [← HW.out]
    refine (H1.out _ HB0.out).mono ?_
    rintro e w1 ⟨rfl, hb1⟩
    have HB1 := hid_intro (HB0.out.trans (hb1.mono HB0.out.size))
    have HZ1 := hid_intro (HZ0.out.below hb1)
    have HK1 := hid_intro (HK0.out.below hb1)
    clear hb1
    have hl1 := HK1.out.1
    have c0 : w1.cell? ⟨w.heap.size, 0, none⟩ = some (.string nm) := HK1.out.2 0 (by simp)
    have c1 : w1.cell? ⟨w.heap.size, 1, none⟩ = some (.int .i64 g) := HK1.out.2 1 (by simp)
    have c2 : w1.cell? ⟨w.heap.size, 2, none⟩ = some (.bool wh) := HK1.out.2 2 (by simp)
    have c3 : w1.cell? ⟨w.heap.size, 3, none⟩ = some (.int .i64 f) := HK1.out.2 3 (by simp)
    have c4 : w1.cell? ⟨w.heap.size, 4, none⟩ = some (.int .i64 l) := HK1.out.2 4 (by simp)
    have c5 : w1.cell? ⟨w.heap.size, 5, none⟩ = some (.slice ta tl tc) := HK1.out.2 5 (by simp)
    go_wp2_with (first | (go_at_call_of 23 (Value.int .i64 lo); refine (H2.out _).mono ?_; rintro e w2 ⟨rfl, rfl⟩) | (go_at_call_of 23 (Value.int .i64 hi); refine (H2'.out _).mono ?_; rintro e w2 ⟨rfl, rfl⟩))
    refine (H3.out _ HB1.out).mono ?_
    rintro e w3 ⟨rfl, hb3⟩
    have HB3 := hid_intro (HB1.out.trans (hb3.mono HB1.out.size))
    have HZ3 := hid_intro (HZ1.out.below hb3)
    have hz3 := HZ3.out.1
    clear hb3 c0 c1 c2 c3 c4 c5 hl1
    unfold out
    go_wp2_with fail
    refine (H4.out _ (HB3.out.alloc HB3.out.size _)).mono ?_
    rintro e w4 ⟨rfl, hb4⟩
    have HB4 := hid_intro ((HB3.out.alloc HB3.out.size _).trans (hb4.mono (HB3.out.alloc HB3.out.size _).size))
    have HZ4 := hid_intro ((HZ3.out.below ((Below.refl _ _).alloc (Nat.le_refl _) _)).below hb4)
    have u0 := hb4.cell (p := ⟨w3.heap.size, 0, none⟩) (by simp)
    have u1 := hb4.cell (p := ⟨w3.heap.size, 1, none⟩) (by simp)
    have u2 := hb4.cell (p := ⟨w3.heap.size, 2, none⟩) (by simp)
    have hu4 : w3.heap.size < w4.heap.size := by have := hb4.size; simp at this; omega
    simp [go_sem] at u0 u1 u2
    obtain ⟨hz, ⟨x0, d0⟩, ⟨x1, d1⟩, ⟨x2, d2⟩, y0, y1, y2⟩ := HZ4.out
    clear hb4
    unfold out
    have HBA := hid_intro (HB4.out.alloc HB4.out.size (.cells #[.int .i64 R2, .int .i64 0, .int .i64 0] 27))
    go_wp2_with fail
    refine (HMI.out _ (HL.out.below HBA.out)).mono ?_
    rintro e w5 ⟨rfl, hb5⟩
    have HB5 := hid_intro (HBA.out.trans (hb5.mono HBA.out.size))
    obtain ⟨hz, ⟨x0, d0⟩, ⟨x1, d1⟩, ⟨x2, d2⟩, y0, y1, y2⟩ := (HZ4.out.below ((Below.refl _ _).alloc (Nat.le_refl _) _)).below hb5
    clear hb5
    try unfold out
    go_wp2_with fail
    refine bodyPost_ret (v := out D 0) (by simp [out, results, Tryd.results13, go_sem, d0, d1, d2]) rfl ⟨rfl, ?_⟩
    exact below3 HB5.out (by omega) _ _ _
end CatR
end Go.Proofs.YtnhjodlcdfkpnaaDoor
