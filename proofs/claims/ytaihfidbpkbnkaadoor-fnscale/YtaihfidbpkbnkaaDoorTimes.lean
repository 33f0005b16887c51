/-
  Times: either side hands back the same, whether the product runs over or not. The condition: the program's own error stands in its variable.
-/
import Derived.Test.YtaihfidbpkbnkaaDoorOuts
namespace Go.Proofs.YtaihfidbpkbnkaaDoor
open Go.ChangeShapes Go.WideShapes Go.ChangeAt Go.RowKit
set_option linter.unusedVariables false
namespace FixR
theorem w64t (x : Int) (h : -9223372036854775808 ≤ x ∧ x ≤ 9223372036854775807) : wrap64 x = x := by unfold wrap64; omega
/-- The size of a number. -/
def abs (a : Int) : Int := if a < 0 then -a else a
theorem abs_bd (a : Int) (h : In a) (h0 : a ≠ 0) : 1 ≤ abs a ∧ abs a ≤ 1000000000000000 := by unfold abs; unfold In at h; split <;> omega
theorem most_bd (s : Int) (h : 1 ≤ s) : 0 ≤ (1000000000000000 : Int).tdiv s ∧ (1000000000000000 : Int).tdiv s ≤ 1000000000000000 := by
  rw [Int.tdiv_eq_ediv_of_nonneg (by omega)]
  constructor
  · exact Int.ediv_nonneg (by omega) (by omega)
  · apply Int.ediv_le_of_le_mul (by omega)
    have := Int.mul_le_mul_of_nonneg_left h (show (0 : Int) ≤ 1000000000000000 by omega)
    omega
theorem le_most (b s : Int) (h : 1 ≤ s) : b ≤ (1000000000000000 : Int).tdiv s ↔ b * s ≤ 1000000000000000 := by
  rw [Int.tdiv_eq_ediv_of_nonneg (by omega)]
  exact Int.le_ediv_iff_mul_le (by omega)
theorem in_prod (a b : Int) (h0 : a ≠ 0) (ha : In a) : In (a * b) ↔ (-(1000000000000000 : Int).tdiv (abs a) ≤ b ∧ b ≤ (1000000000000000 : Int).tdiv (abs a)) := by
  have h1 := (abs_bd a ha h0).1
  have e1 := le_most b (abs a) h1
  have e2 := le_most (-b) (abs a) h1
  have e3 : -(1000000000000000 : Int).tdiv (abs a) ≤ b ↔ -b ≤ (1000000000000000 : Int).tdiv (abs a) := by omega
  rw [e3, e1, e2]
  unfold In abs
  by_cases h : a < 0
  · rw [if_pos h]
    have f1 : b * -a = -(a * b) := by rw [Int.mul_neg, Int.mul_comm]
    have f2 : -b * -a = a * b := by rw [Int.neg_mul_neg, Int.mul_comm]
    rw [f1, f2]; omega
  · rw [if_neg h]
    have f1 : b * a = a * b := Int.mul_comm _ _
    have f2 : -b * a = -(a * b) := by rw [Int.neg_mul, Int.mul_comm]
    rw [f1, f2]; omega
theorem prod_facts (a b : Int) (h0 : a ≠ 0) (ha : In a) : ∃ s m : Int, s = abs a ∧ (1000000000000000 : Int).tdiv s = m ∧ ¬ s = 0 ∧ wrap64 m = m ∧ wrap64 (-m) = -m ∧ (In (a * b) ↔ (-m ≤ b ∧ b ≤ m)) := by
  have hs := (abs_bd a ha h0).1
  have hm := most_bd _ hs
  refine ⟨_, _, rfl, rfl, ?_, w64t _ ⟨?_, ?_⟩, w64t _ ⟨?_, ?_⟩, in_prod a b h0 ha⟩ <;> omega
theorem sizeOf_any (a : Int) (h : In a) (w : World) :
    Calls Tryd.prog 94 #[.int .i64 a] w fun e w' => e = .returned (.int .i64 (abs a)) ∧ w' = w := by
  have e : wrap64 (-a) = -a := w64t _ (by unfold In at h; omega)
  unfold abs
  clear h
  by_cases h : a < 0
  · rw [if_pos h]
    have h2 : -a > a := by omega
    go_enter Tryd.func94, Tryd.ntmps94
    go_wp2
    go_ret
    refine ⟨ret_int ?_, rfl⟩
    first | rfl | (split <;> omega) | omega
  · rw [if_neg h]
    have h2 : ¬ -a > a := by omega
    go_enter Tryd.func94, Tryd.ntmps94
    go_wp2
    go_ret
    refine ⟨ret_int ?_, rfl⟩
    first | rfl | (split <;> omega) | omega
set_option maxHeartbeats 4000000 in
theorem product_in (a b : Int) (ha : In a) (hb : In b) (hv : In (a * b)) (w : World) :
    Calls Tryd.prog 57 #[.int .i64 a, .int .i64 b] w fun e w' => e = .returned (.int .i64 (a * b)) ∧ w' = w := by
  by_cases h0 : a = 0
  · subst h0
    rw [Int.zero_mul]
    go_enter Tryd.func57, Tryd.ntmps57
    go_wp2
    go_ret
    exact ⟨rfl, rfl⟩
  · have hz : (a == 0) = false := by simpa using h0
    have hq := fun w => sizeOf_any a ha w
    obtain ⟨s, m, hs, ht, hs0, e1, e2, hi⟩ := prod_facts a b h0 ha
    rw [← hs] at hq
    have hd := fun w => held_in b (-m) m (hi.1 hv) w
    have e3 : wrap64 (a * b) = a * b := w64t _ (by unfold In at hv; omega)
    clear hv ha hb hs hi
    go_enter Tryd.func57, Tryd.ntmps57
    go_wp2_with (first | (go_at_call 94; refine (hq _).mono ?_; rintro e w1 ⟨rfl, rfl⟩) | (go_at_call 93; refine (hd _).mono ?_; rintro e w2 ⟨rfl, rfl⟩))
    go_ret
    exact ⟨ret_int e3, rfl⟩
set_option maxHeartbeats 4000000 in
theorem product_over (a b : Int) (ha : In a) (hb : In b) (hv : ¬ In (a * b)) (w : World) (hL : Laid w) :
    Calls Tryd.prog 57 #[.int .i64 a, .int .i64 b] w fun e w' => Thrown e ∧ w' = w := by
  by_cases h0 : a = 0
  · subst h0
    rw [Int.zero_mul] at hv
    exact absurd (show In 0 by unfold In; omega) hv
  · have hz : (a == 0) = false := by simpa using h0
    have hq := fun w => sizeOf_any a ha w
    obtain ⟨s, m, hs, ht, hs0, e1, e2, hi⟩ := prod_facts a b h0 ha
    rw [← hs] at hq
    have hn : b < -m ∨ m < b := by have := mt hi.2 hv; omega
    have hd := held_out b (-m) m hn w hL
    clear hv ha hb hs hL hi hn
    go_enter Tryd.func57, Tryd.ntmps57
    go_wp2_with (first | (go_at_call 94; refine (hq _).mono ?_; rintro e w1 ⟨rfl, rfl⟩) | (go_at_call 93; refine hd.mono ?_; rintro e w2 ⟨⟨u, x, rfl⟩, rfl⟩))
    exact ⟨rfl, ⟨u, x, rfl⟩, rfl⟩
theorem l02Abs_any (a : Int) (h : In a) (w : World) :
    Calls Tryd.prog 67 #[.int .i64 a] w fun e w' => e = .returned (.int .i64 (abs a)) ∧ w' = w := by
  have e : wrap64 (-a) = -a := w64t _ (by unfold In at h; omega)
  unfold abs
  clear h
  by_cases h : a < 0
  all_goals
    first | rw [if_pos h] | rw [if_neg h]
    go_enter Tryd.func67, Tryd.ntmps67
    go_wp2
    go_ret
    exact ⟨ret_int (by first | rfl | exact e), rfl⟩
theorem abs_over (a b : Int) (hb : In b) (h0 : b ≠ 0) : ∃ s m r : Int, s = abs b ∧ r = abs a ∧ (1000000000000000 : Int).tdiv s = m ∧ ¬ s = 0 ∧ wrap64 m = m ∧ (In (a * b) ↔ r ≤ m) := by
  have h1 := (abs_bd b hb h0).1
  have hm := most_bd _ h1
  refine ⟨_, _, _, rfl, rfl, rfl, by omega, w64t _ ⟨by omega, by omega⟩, ?_⟩
  have hp := in_prod b a h0 hb
  rw [Int.mul_comm a b, hp]
  clear hp
  obtain ⟨m, hM⟩ : ∃ m, m = (1000000000000000 : Int).tdiv (abs b) := ⟨_, rfl⟩
  rw [← hM] at hm ⊢
  unfold abs
  split <;> omega
set_option maxRecDepth 100000 in
set_option maxHeartbeats 4000000 in
theorem spec_times_zero (a : Int) (ha : In a) (w : World) :
    Calls Tryd.prog 16 #[.int .i64 a, .int .i64 0] w fun e w' => e = .returned (out 0 0) ∧ Below w.heap.size w w' := by
  obtain ⟨a1, a2⟩ := ha
  go_enter Tryd.func16, Tryd.ntmps16
  go_wp2_with (first | (go_at_call 72; go_in) | (go_at_call 64; go_in))
  refine bodyPost_ret (v := out 0 0) (by simp [out, results, Tryd.results16, go_sem]) rfl ⟨rfl, ?_⟩
  repeat' first | exact Below.refl _ _ | apply Below.setCell | apply Below.alloc
  all_goals first | omega | (simp; done) | (simp; omega)
set_option maxRecDepth 100000 in
set_option maxHeartbeats 4000000 in
theorem spec_times_ok (a b : Int) (ha : In a) (hb : In b) (hv : In (a * b)) (w : World) :
    Calls Tryd.prog 16 #[.int .i64 a, .int .i64 b] w fun e w' => e = .returned (out (a * b) 0) ∧ Below w.heap.size w w' := by
  by_cases h0 : b = 0
  · subst h0
    rw [Int.mul_zero]
    exact spec_times_zero a ha w
  · have e3 : wrap64 (a * b) = a * b := w64t _ (by unfold In at hv; omega)
    have qa := fun w => l02Abs_any a ha w
    have qb := fun w => l02Abs_any b hb w
    obtain ⟨s, m, r, hs, hr, ht, hs0, e1, hi⟩ := abs_over a b hb h0
    rw [← hs] at qb
    rw [← hr] at qa
    obtain ⟨a1, a2⟩ := ha
    obtain ⟨b1, b2⟩ := hb
    have hz : (b == 0) = false := by simpa using h0
    have hz2 : (b != 0) = true := by simpa using h0
    have hh : ¬ m < r := by have := hi.1 hv; omega
    obtain ⟨v, hv2⟩ : ∃ v, v = a * b := ⟨_, rfl⟩
    rw [← hv2]
    have e4 : wrap64 (a * b) = v := by rw [hv2]; exact e3
    clear hv hs hr hi hv2 e3
    go_enter Tryd.func16, Tryd.ntmps16
    go_wp2_with (first | (go_at_call 72; go_in) | (go_at_call 64; go_in) | (go_at_call 67; first | (refine (qa _).mono ?_; rintro e w1 ⟨rfl, rfl⟩) | (refine (qb _).mono ?_; rintro e w1 ⟨rfl, rfl⟩)))
    refine bodyPost_ret (v := out v 0) (by simp [out, results, Tryd.results16, go_sem, e4]) rfl ⟨rfl, ?_⟩
    repeat' first | exact Below.refl _ _ | apply Below.setCell | apply Below.alloc
    all_goals first | omega | (simp; done) | (simp; omega)
set_option maxRecDepth 100000 in
set_option maxHeartbeats 4000000 in
theorem spec_times_over (a b : Int) (ha : In a) (hb : In b) (hv : ¬ In (a * b)) (w : World) :
    Calls Tryd.prog 16 #[.int .i64 a, .int .i64 b] w fun e w' => e = .returned (out 0 12) ∧ Below w.heap.size w w' := by
  by_cases h0 : b = 0
  · subst h0
    rw [Int.mul_zero] at hv
    exact absurd (show In 0 by unfold In; omega) hv
  · have qa := fun w => l02Abs_any a ha w
    have qb := fun w => l02Abs_any b hb w
    obtain ⟨s, m, r, hs, hr, ht, hs0, e1, hi⟩ := abs_over a b hb h0
    rw [← hs] at qb
    rw [← hr] at qa
    obtain ⟨a1, a2⟩ := ha
    obtain ⟨b1, b2⟩ := hb
    have hz : (b == 0) = false := by simpa using h0
    have hz2 : (b != 0) = true := by simpa using h0
    have hh : m < r := by have := mt hi.2 hv; omega
    clear hv hs hr hi
    go_enter Tryd.func16, Tryd.ntmps16
    go_wp2_with (first | (go_at_call 72; go_in) | (go_at_call 64; go_in) | (go_at_call 67; first | (refine (qa _).mono ?_; rintro e w1 ⟨rfl, rfl⟩) | (refine (qb _).mono ?_; rintro e w1 ⟨rfl, rfl⟩)) | (go_at_call 65; refine (ill_any _ _).mono ?_; rintro e w2 ⟨rfl, hb⟩; unfold out; obtain ⟨hc, hz⟩ := bcell hb))
    refine bodyPost_ret (v := out 0 12) (by simp [out, results, Tryd.results16, go_sem, hc]) rfl ⟨rfl, ?_⟩
    exact (((bel_alloc hb).setCell (by simp) _).setCell (by simp) _).setCell (by simp) _
set_option maxHeartbeats 4000000 in
theorem impl_times_bad (a b : Int) (h : ¬ In a ∨ ¬ In b) (w : World) :
    Calls Tryd.prog 11 #[.int .i64 a, .int .i64 b] w fun e w' => e = .returned (out 0 1) ∧ Below w.heap.size w w' := by
  unfold In at h
  have key : (¬ -1000000000000000 ≤ a) ∨ (-1000000000000000 ≤ a ∧ ¬ a ≤ 1000000000000000) ∨ (-1000000000000000 ≤ a ∧ a ≤ 1000000000000000 ∧ ((¬ -1000000000000000 ≤ b) ∨ (-1000000000000000 ≤ b ∧ ¬ b ≤ 1000000000000000))) := by omega
  clear h
  rcases key with h1 | ⟨h1, h2⟩ | ⟨h1, h2, h3 | ⟨h3, h4⟩⟩
  all_goals
    go_enter Tryd.func11, Tryd.ntmps11
    go_wp2
    refine bodyPost_ret (v := out 0 1) (by simp [out, results, Tryd.results11, go_sem]) rfl ⟨rfl, ?_⟩
    repeat' first | exact Below.refl _ _ | apply Below.setCell | apply Below.alloc
    all_goals first | omega | (simp; done) | (simp; omega)
set_option maxHeartbeats 4000000 in
theorem spec_times_bad (a b : Int) (h : ¬ In a ∨ ¬ In b) (w : World) :
    Calls Tryd.prog 16 #[.int .i64 a, .int .i64 b] w fun e w' => e = .returned (out 0 1) ∧ Below w.heap.size w w' := by
  unfold In at h
  have key : (¬ -1000000000000000 ≤ a) ∨ (-1000000000000000 ≤ a ∧ ¬ a ≤ 1000000000000000) ∨ (-1000000000000000 ≤ a ∧ a ≤ 1000000000000000 ∧ ((¬ -1000000000000000 ≤ b) ∨ (-1000000000000000 ≤ b ∧ ¬ b ≤ 1000000000000000))) := by omega
  clear h
  rcases key with h1 | ⟨h1, h2⟩ | ⟨h1, h2, h3 | ⟨h3, h4⟩⟩
  all_goals
    go_enter Tryd.func16, Tryd.ntmps16
    go_wp2_with (first | (go_at_call 72; go_in) | (go_at_call 64; go_in) | (go_at_call 65; refine (ill_any _ _).mono ?_; rintro e w2 ⟨rfl, hb⟩; unfold out; obtain ⟨hc, hz⟩ := bcell hb))
    refine bodyPost_ret (v := out 0 1) (by simp [out, results, Tryd.results16, go_sem, hc]) rfl ⟨rfl, ?_⟩
    exact (((bel_alloc hb).setCell (by simp) _).setCell (by simp) _).setCell (by simp) _
set_option maxHeartbeats 1000000 in
theorem impl_times_ok (a b : Int) (ha : In a) (hb : In b) (hv : In (a * b)) (w : World) (hL : Laid w) :
    Calls Tryd.prog 11 #[.int .i64 a, .int .i64 b] w fun e w' => e = .returned (out (a * b) 0) ∧ Below w.heap.size w w' := by
  have hmf : ∀ (fn : Fn) (first cap : Array Value) (w : World), (Instr.makeFunc fn first cap).run Tryd.prog w = .ok (.func fn first cap) w := fun _ _ _ _ => rfl
  obtain ⟨W, hW⟩ : ∃ W, W = ((w.alloc (Obj.cells #[.int .i64 a] 2)).alloc (Obj.cells #[.int .i64 b] 2)).alloc (Obj.cells #[.int .i64 0, .int .i64 0, .int .i64 0] 26) := ⟨_, rfl⟩
  have hsz : W.heap.size = w.heap.size + 3 := by rw [hW]; simp
  have hb1 : Below w.heap.size w W := by rw [hW]; exact (((Below.refl _ _).alloc (by simp; try omega) _).alloc (by simp; try omega) _).alloc (by simp; try omega) _
  have p0 : W.cell? ⟨w.heap.size, 0, none⟩ = some (.int .i64 a) := by rw [hW]; simp [go_sem]
  have p1 : W.cell? ⟨w.heap.size + 1, 0, none⟩ = some (.int .i64 b) := by rw [hW]; simp [go_sem]
  have c0 : W.cell? ⟨w.heap.size + 1 + 1, 0, none⟩ = some (.int .i64 0) := by rw [hW]; simp [go_sem]
  have z0 : W.frozen? ⟨w.heap.size + 1 + 1, 0, none⟩ = false := by rw [hW]; simp [go_sem]
  have c1 : W.cell? ⟨w.heap.size + 1 + 1, 1, none⟩ = some (.int .i64 0) := by rw [hW]; simp [go_sem]
  have z1 : W.frozen? ⟨w.heap.size + 1 + 1, 1, none⟩ = false := by rw [hW]; simp [go_sem]
  have c2 : W.cell? ⟨w.heap.size + 1 + 1, 2, none⟩ = some (.int .i64 0) := by rw [hW]; simp [go_sem]
  have z2 : W.frozen? ⟨w.heap.size + 1 + 1, 2, none⟩ = false := by rw [hW]; simp [go_sem]
  have hf : ∀ w1, Below W.heap.size W w1 → Calls Tryd.prog 56 #[.pointer (some ⟨w.heap.size, 0, none⟩), .pointer (some ⟨w.heap.size + 1, 0, none⟩)] w1 fun e w2 => e = .returned (.int .i64 (a * b)) ∧ Below w1.heap.size w1 w2 := by
    intro w1 hb
    have q0 := hb.cell (p := ⟨w.heap.size, 0, none⟩) (by simp only; omega)
    rw [p0] at q0
    have q1 := hb.cell (p := ⟨w.heap.size + 1, 0, none⟩) (by simp only; omega)
    rw [p1] at q1
    clear p0 p1 c0 c1 c2 z0 z1 z2 hb hb1 hsz hW hL
    have hq := fun w => product_in a b ha hb hv w
    generalize a * b = v at *
    go_enter Tryd.func56, Tryd.ntmps56
    go_wp2_with (go_at_call 57; refine (hq _).mono ?_; rintro e w' ⟨rfl, rfl⟩)
    go_ret
    exact ⟨rfl, Below.refl _ _⟩
  have he : ∀ args w, (callFunc 56 args).run Tryd.prog w = .ok (.enter 56 args) w := fun args w => by simp [go_sem]
  have hr := reckoned_ok 56 #[.pointer (some ⟨w.heap.size, 0, none⟩), .pointer (some ⟨w.heap.size + 1, 0, none⟩)] _ hv W hf he
  have HW := hid_intro hW
  have HB1 := hid_intro hb1
  clear hf he hW hb1 hL hv p0 p1
  generalize a * b = v at hr ⊢
  obtain ⟨a1, a2⟩ := ha
  obtain ⟨b1, b2⟩ := hb
  go_enter Tryd.func11, Tryd.ntmps11
  go_wp2_with (first | (go_at_call 60; go_in) | (go_at_call 52; go_in))
  rw [← HW.out]
  refine hr.mono ?_
  rintro e w2 ⟨rfl, hb⟩
  have d0 := hb.cell (p := ⟨w.heap.size + 1 + 1, 0, none⟩) (by simp only; omega)
  have y0 := hb.frozen (p := ⟨w.heap.size + 1 + 1, 0, none⟩) (by simp only; omega)
  rw [c0] at d0; rw [z0] at y0
  have d1 := hb.cell (p := ⟨w.heap.size + 1 + 1, 1, none⟩) (by simp only; omega)
  have y1 := hb.frozen (p := ⟨w.heap.size + 1 + 1, 1, none⟩) (by simp only; omega)
  rw [c1] at d1; rw [z1] at y1
  have d2 := hb.cell (p := ⟨w.heap.size + 1 + 1, 2, none⟩) (by simp only; omega)
  have y2 := hb.frozen (p := ⟨w.heap.size + 1 + 1, 2, none⟩) (by simp only; omega)
  rw [c2] at d2; rw [z2] at y2
  have HB := hid_intro (HB1.out.trans (hb.mono (by omega)))
  clear hb c0 c1 c2 z0 z1 z2 hr HW HB1 hmf
  unfold out
  go_wp2
  refine bodyPost_ret (v := out v 0) (by simp [out, results, Tryd.results11, go_sem, d0, d1, d2]) rfl ⟨rfl, ?_⟩
  exact ((HB.out.setCell (by simp only; omega) _).setCell (by simp only; omega) _).setCell (by simp only; omega) _
set_option maxHeartbeats 1000000 in
theorem impl_times_over (a b : Int) (ha : In a) (hb : In b) (hv : ¬ In (a * b)) (w : World) (hL : Laid w) :
    Calls Tryd.prog 11 #[.int .i64 a, .int .i64 b] w fun e w' => e = .returned (out 0 12) ∧ Below w.heap.size w w' := by
  have hmf : ∀ (fn : Fn) (first cap : Array Value) (w : World), (Instr.makeFunc fn first cap).run Tryd.prog w = .ok (.func fn first cap) w := fun _ _ _ _ => rfl
  obtain ⟨W, hW⟩ : ∃ W, W = ((w.alloc (Obj.cells #[.int .i64 a] 2)).alloc (Obj.cells #[.int .i64 b] 2)).alloc (Obj.cells #[.int .i64 0, .int .i64 0, .int .i64 0] 26) := ⟨_, rfl⟩
  have hsz : W.heap.size = w.heap.size + 3 := by rw [hW]; simp
  have hb1 : Below w.heap.size w W := by rw [hW]; exact (((Below.refl _ _).alloc (by simp; try omega) _).alloc (by simp; try omega) _).alloc (by simp; try omega) _
  have p0 : W.cell? ⟨w.heap.size, 0, none⟩ = some (.int .i64 a) := by rw [hW]; simp [go_sem]
  have p1 : W.cell? ⟨w.heap.size + 1, 0, none⟩ = some (.int .i64 b) := by rw [hW]; simp [go_sem]
  have c0 : W.cell? ⟨w.heap.size + 1 + 1, 0, none⟩ = some (.int .i64 0) := by rw [hW]; simp [go_sem]
  have z0 : W.frozen? ⟨w.heap.size + 1 + 1, 0, none⟩ = false := by rw [hW]; simp [go_sem]
  have c1 : W.cell? ⟨w.heap.size + 1 + 1, 1, none⟩ = some (.int .i64 0) := by rw [hW]; simp [go_sem]
  have z1 : W.frozen? ⟨w.heap.size + 1 + 1, 1, none⟩ = false := by rw [hW]; simp [go_sem]
  have c2 : W.cell? ⟨w.heap.size + 1 + 1, 2, none⟩ = some (.int .i64 0) := by rw [hW]; simp [go_sem]
  have z2 : W.frozen? ⟨w.heap.size + 1 + 1, 2, none⟩ = false := by rw [hW]; simp [go_sem]
  have hf : ∀ w1, Below W.heap.size W w1 → Calls Tryd.prog 56 #[.pointer (some ⟨w.heap.size, 0, none⟩), .pointer (some ⟨w.heap.size + 1, 0, none⟩)] w1 fun e w2 => ((∃ v : Int, e = .returned (.int .i64 v) ∧ ¬ In v) ∨ Thrown e) ∧ Below w1.heap.size w1 w2 := by
    intro w1 hb
    have q0 := hb.cell (p := ⟨w.heap.size, 0, none⟩) (by simp only; omega)
    rw [p0] at q0
    have q1 := hb.cell (p := ⟨w.heap.size + 1, 0, none⟩) (by simp only; omega)
    rw [p1] at q1
    have HL1 := hid_intro ((hL.below hb1).below hb)
    clear p0 p1 c0 c1 c2 z0 z1 z2 hb hb1 hsz hW hL
    have hq := product_over a b ha hb hv w1 HL1.out
    go_enter Tryd.func56, Tryd.ntmps56
    go_wp2_with (go_at_call 57; refine hq.mono ?_; rintro e w' ⟨⟨u, x, rfl⟩, rfl⟩)
    exact ⟨rfl, .inr ⟨u, x, rfl⟩, Below.refl _ _⟩
  have he : ∀ args w, (callFunc 56 args).run Tryd.prog w = .ok (.enter 56 args) w := fun args w => by simp [go_sem]
  have hr := reckoned_over 56 #[.pointer (some ⟨w.heap.size, 0, none⟩), .pointer (some ⟨w.heap.size + 1, 0, none⟩)] W (hL.below hb1) hf he
  have HW := hid_intro hW
  have HB1 := hid_intro hb1
  clear hf he hW hb1 hL hv p0 p1
  obtain ⟨a1, a2⟩ := ha
  obtain ⟨b1, b2⟩ := hb
  go_enter Tryd.func11, Tryd.ntmps11
  go_wp2_with (first | (go_at_call 60; go_in) | (go_at_call 52; go_in))
  rw [← HW.out]
  refine hr.mono ?_
  rintro e w2 ⟨rfl, hb⟩
  have d0 := hb.cell (p := ⟨w.heap.size + 1 + 1, 0, none⟩) (by simp only; omega)
  have y0 := hb.frozen (p := ⟨w.heap.size + 1 + 1, 0, none⟩) (by simp only; omega)
  rw [c0] at d0; rw [z0] at y0
  have d1 := hb.cell (p := ⟨w.heap.size + 1 + 1, 1, none⟩) (by simp only; omega)
  have y1 := hb.frozen (p := ⟨w.heap.size + 1 + 1, 1, none⟩) (by simp only; omega)
  rw [c1] at d1; rw [z1] at y1
  have d2 := hb.cell (p := ⟨w.heap.size + 1 + 1, 2, none⟩) (by simp only; omega)
  have y2 := hb.frozen (p := ⟨w.heap.size + 1 + 1, 2, none⟩) (by simp only; omega)
  rw [c2] at d2; rw [z2] at y2
  have HB := hid_intro (HB1.out.trans (hb.mono (by omega)))
  clear hb c0 c1 c2 z0 z1 z2 hr HW HB1 hmf
  unfold out
  go_wp2
  refine bodyPost_ret (v := out 0 12) (by simp [out, results, Tryd.results11, go_sem, d0, d1, d2]) rfl ⟨rfl, ?_⟩
  exact ((HB.out.setCell (by simp only; omega) _).setCell (by simp only; omega) _).setCell (by simp only; omega) _
end FixR
end Go.Proofs.YtaihfidbpkbnkaaDoor
