/-
  Minus: either side hands back the same, whether the sum runs over or not. The condition: the program's own error stands in its variable.
-/
import Derived.Test.YtnhjodlcdfkpnaaDoorOuts
namespace Go.Proofs.YtnhjodlcdfkpnaaDoor
open Go.ChangeShapes Go.WideShapes Go.ChangeAt Go.RowKit
set_option linter.unusedVariables false
namespace FixR
theorem w64m (x : Int) (h : -9223372036854775808 ≤ x ∧ x ≤ 9223372036854775807) : wrap64 x = x := by unfold wrap64; omega
set_option maxHeartbeats 4000000 in
theorem impl_minus_bad (a b : Int) (h : ¬ In a ∨ ¬ In b) (w : World) :
    Calls Tryd.prog 26 #[.int .i64 a, .int .i64 b] w fun e w' => e = .returned (out 0 1) ∧ Below w.heap.size w w' := by
  unfold In at h
  have key : (¬ -1000000000000000 ≤ a) ∨ (-1000000000000000 ≤ a ∧ ¬ a ≤ 1000000000000000) ∨ (-1000000000000000 ≤ a ∧ a ≤ 1000000000000000 ∧ ((¬ -1000000000000000 ≤ b) ∨ (-1000000000000000 ≤ b ∧ ¬ b ≤ 1000000000000000))) := by omega
  clear h
  rcases key with h1 | ⟨h1, h2⟩ | ⟨h1, h2, h3 | ⟨h3, h4⟩⟩
  all_goals
    go_enter Tryd.func26, Tryd.ntmps26
    go_wp2
    refine bodyPost_ret (v := out 0 1) (by simp [out, results, Tryd.results26, go_sem]) rfl ⟨rfl, ?_⟩
    repeat' first | exact Below.refl _ _ | apply Below.setCell | apply Below.alloc
    all_goals first | omega | (simp; done) | (simp; omega)
set_option maxHeartbeats 1000000 in
theorem impl_minus_ok (a b : Int) (ha : In a) (hb : In b) (hv : In (a - b)) (w : World) (hL : Laid w) :
    Calls Tryd.prog 26 #[.int .i64 a, .int .i64 b] w fun e w' => e = .returned (out (a - b) 0) ∧ Below w.heap.size w w' := by
  have hmf : ∀ (fn : Fn) (first cap : Array Value) (w : World), (Instr.makeFunc fn first cap).run Tryd.prog w = .ok (.func fn first cap) w := fun _ _ _ _ => rfl
  obtain ⟨W, hW⟩ : ∃ W, W = ((w.alloc (Obj.cells #[.int .i64 a] 2)).alloc (Obj.cells #[.int .i64 b] 2)).alloc (Obj.cells #[.int .i64 0, .int .i64 0, .int .i64 0] 27) := ⟨_, rfl⟩
  have hsz : W.heap.size = w.heap.size + 3 := by rw [hW]; simp
  have hb1 : Below w.heap.size w W := by rw [hW]; exact (((Below.refl _ _).alloc (by simp; try omega) _).alloc (by simp; try omega) _).alloc (by simp; try omega) _
  have p0 : W.cell? ⟨w.heap.size, 0, none⟩ = some (.int .i64 a) := by rw [hW]; simp [go_sem]
  have p1 : W.cell? ⟨w.heap.size + 1, 0, none⟩ = some (.int .i64 b) := by rw [hW]; simp [go_sem]
  have c0 : W.cell? ⟨w.heap.size + 1 + 1, 0, none⟩ = some (.int .i64 0) := by rw [hW]; simp [go_sem]
  have z0 : W.frozen? ⟨w.heap.size + 1 + 1, 0, none⟩ = false := by rw [hW]; simp [go_sem]
  have c1 : W.cell? ⟨w.heap.size + 1 + 1, 1, none⟩ = some (.int .i64 0) := by rw [hW]; simp [go_sem]
  have z1 : W.frozen? ⟨w.heap.size + 1 + 1, 1, none⟩ = false := by rw [hW]; simp [go_sem]
  have c2 : W.cell? ⟨w.heap.size + 1 + 1, 2, none⟩ = some (.int .i64 0) := by rw [hW]; simp [go_sem]
  have z2 : W.frozen? ⟨w.heap.size + 1 + 1, 2, none⟩ = false := by rw [hW]; simp [go_sem]
  have hf : ∀ w1, Below W.heap.size W w1 → Calls Tryd.prog 47 #[.pointer (some ⟨w.heap.size, 0, none⟩), .pointer (some ⟨w.heap.size + 1, 0, none⟩)] w1 fun e w2 => e = .returned (.int .i64 (a - b)) ∧ Below w1.heap.size w1 w2 := by
    intro w1 hb
    have q0 := hb.cell (p := ⟨w.heap.size, 0, none⟩) (by simp only; omega)
    rw [p0] at q0
    have q1 := hb.cell (p := ⟨w.heap.size + 1, 0, none⟩) (by simp only; omega)
    rw [p1] at q1
    clear p0 p1 c0 c1 c2 z0 z1 z2 hb hb1 hsz hW hL
    have e1 : wrap64 (a - b) = a - b := w64m _ (by unfold In at *; omega)
    go_enter Tryd.func47, Tryd.ntmps47
    go_wp2
    go_ret
    exact ⟨ret_int e1, Below.refl _ _⟩
  have he : ∀ args w, (callFunc 47 args).run Tryd.prog w = .ok (.enter 47 args) w := fun args w => by simp [go_sem]
  have hr := reckoned_ok 47 #[.pointer (some ⟨w.heap.size, 0, none⟩), .pointer (some ⟨w.heap.size + 1, 0, none⟩)] _ hv W hf he
  have HW := hid_intro hW
  have HB1 := hid_intro hb1
  clear hf he hW hb1 hL hv p0 p1
  generalize a - b = v at hr ⊢
  obtain ⟨a1, a2⟩ := ha
  obtain ⟨b1, b2⟩ := hb
  go_enter Tryd.func26, Tryd.ntmps26
  go_wp2_with (first | (go_at_call 40; go_in) | (go_at_call 46; go_in))
  rw [← HW.out]
  refine hr.mono ?_
  rintro e w2 ⟨rfl, hb⟩
  have d0 := hb.cell (p := ⟨w.heap.size + 1 + 1, 0, none⟩) (by simp only; omega)
  have y0 := hb.frozen (p := ⟨w.heap.size + 1 + 1, 0, none⟩) (by simp only; omega)
  rw [c0] at d0; rw [z0] at y0
  have d1 := hb.cell (p := ⟨w.heap.size + 1 + 1, 1, none⟩) (by simp only; omega)
  have y1 := hb.frozen (p := ⟨w.heap.size + 1 + 1, 1, none⟩) (by simp only; omega)
  rw [c1] at d1; rw [z1] at y1
  have d2 := hb.cell (p := ⟨w.heap.size + 1 + 1, 2, none⟩) (by simp only; omega)
  have y2 := hb.frozen (p := ⟨w.heap.size + 1 + 1, 2, none⟩) (by simp only; omega)
  rw [c2] at d2; rw [z2] at y2
  have HB := hid_intro (HB1.out.trans (hb.mono (by omega)))
  clear hb c0 c1 c2 z0 z1 z2 hr HW HB1 hmf
  unfold out
  go_wp2
  refine bodyPost_ret (v := out v 0) (by simp [out, results, Tryd.results26, go_sem, d0, d1, d2]) rfl ⟨rfl, ?_⟩
  exact ((HB.out.setCell (by simp only; omega) _).setCell (by simp only; omega) _).setCell (by simp only; omega) _
set_option maxHeartbeats 1000000 in
theorem impl_minus_over (a b : Int) (ha : In a) (hb : In b) (hv : ¬ In (a - b)) (w : World) (hL : Laid w) :
    Calls Tryd.prog 26 #[.int .i64 a, .int .i64 b] w fun e w' => e = .returned (out 0 12) ∧ Below w.heap.size w w' := by
  have hmf : ∀ (fn : Fn) (first cap : Array Value) (w : World), (Instr.makeFunc fn first cap).run Tryd.prog w = .ok (.func fn first cap) w := fun _ _ _ _ => rfl
  obtain ⟨W, hW⟩ : ∃ W, W = ((w.alloc (Obj.cells #[.int .i64 a] 2)).alloc (Obj.cells #[.int .i64 b] 2)).alloc (Obj.cells #[.int .i64 0, .int .i64 0, .int .i64 0] 27) := ⟨_, rfl⟩
  have hsz : W.heap.size = w.heap.size + 3 := by rw [hW]; simp
  have hb1 : Below w.heap.size w W := by rw [hW]; exact (((Below.refl _ _).alloc (by simp; try omega) _).alloc (by simp; try omega) _).alloc (by simp; try omega) _
  have p0 : W.cell? ⟨w.heap.size, 0, none⟩ = some (.int .i64 a) := by rw [hW]; simp [go_sem]
  have p1 : W.cell? ⟨w.heap.size + 1, 0, none⟩ = some (.int .i64 b) := by rw [hW]; simp [go_sem]
  have c0 : W.cell? ⟨w.heap.size + 1 + 1, 0, none⟩ = some (.int .i64 0) := by rw [hW]; simp [go_sem]
  have z0 : W.frozen? ⟨w.heap.size + 1 + 1, 0, none⟩ = false := by rw [hW]; simp [go_sem]
  have c1 : W.cell? ⟨w.heap.size + 1 + 1, 1, none⟩ = some (.int .i64 0) := by rw [hW]; simp [go_sem]
  have z1 : W.frozen? ⟨w.heap.size + 1 + 1, 1, none⟩ = false := by rw [hW]; simp [go_sem]
  have c2 : W.cell? ⟨w.heap.size + 1 + 1, 2, none⟩ = some (.int .i64 0) := by rw [hW]; simp [go_sem]
  have z2 : W.frozen? ⟨w.heap.size + 1 + 1, 2, none⟩ = false := by rw [hW]; simp [go_sem]
  have hf : ∀ w1, Below W.heap.size W w1 → Calls Tryd.prog 47 #[.pointer (some ⟨w.heap.size, 0, none⟩), .pointer (some ⟨w.heap.size + 1, 0, none⟩)] w1 fun e w2 => ((∃ v : Int, e = .returned (.int .i64 v) ∧ ¬ In v) ∨ Thrown e) ∧ Below w1.heap.size w1 w2 := by
    intro w1 hb
    have q0 := hb.cell (p := ⟨w.heap.size, 0, none⟩) (by simp only; omega)
    rw [p0] at q0
    have q1 := hb.cell (p := ⟨w.heap.size + 1, 0, none⟩) (by simp only; omega)
    rw [p1] at q1
    have HL1 := hid_intro ((hL.below hb1).below hb)
    clear p0 p1 c0 c1 c2 z0 z1 z2 hb hb1 hsz hW hL
    have e1 : wrap64 (a - b) = a - b := w64m _ (by unfold In at *; omega)
    go_enter Tryd.func47, Tryd.ntmps47
    go_wp2
    go_ret
    exact ⟨.inl ⟨a - b, ret_int e1, hv⟩, Below.refl _ _⟩
  have he : ∀ args w, (callFunc 47 args).run Tryd.prog w = .ok (.enter 47 args) w := fun args w => by simp [go_sem]
  have hr := reckoned_over 47 #[.pointer (some ⟨w.heap.size, 0, none⟩), .pointer (some ⟨w.heap.size + 1, 0, none⟩)] W (hL.below hb1) hf he
  have HW := hid_intro hW
  have HB1 := hid_intro hb1
  clear hf he hW hb1 hL hv p0 p1
  obtain ⟨a1, a2⟩ := ha
  obtain ⟨b1, b2⟩ := hb
  go_enter Tryd.func26, Tryd.ntmps26
  go_wp2_with (first | (go_at_call 40; go_in) | (go_at_call 46; go_in))
  rw [← HW.out]
  refine hr.mono ?_
  rintro e w2 ⟨rfl, hb⟩
  have d0 := hb.cell (p := ⟨w.heap.size + 1 + 1, 0, none⟩) (by simp only; omega)
  have y0 := hb.frozen (p := ⟨w.heap.size + 1 + 1, 0, none⟩) (by simp only; omega)
  rw [c0] at d0; rw [z0] at y0
  have d1 := hb.cell (p := ⟨w.heap.size + 1 + 1, 1, none⟩) (by simp only; omega)
  have y1 := hb.frozen (p := ⟨w.heap.size + 1 + 1, 1, none⟩) (by simp only; omega)
  rw [c1] at d1; rw [z1] at y1
  have d2 := hb.cell (p := ⟨w.heap.size + 1 + 1, 2, none⟩) (by simp only; omega)
  have y2 := hb.frozen (p := ⟨w.heap.size + 1 + 1, 2, none⟩) (by simp only; omega)
  rw [c2] at d2; rw [z2] at y2
  have HB := hid_intro (HB1.out.trans (hb.mono (by omega)))
  clear hb c0 c1 c2 z0 z1 z2 hr HW HB1 hmf
  unfold out
  go_wp2
  refine bodyPost_ret (v := out 0 12) (by simp [out, results, Tryd.results26, go_sem, d0, d1, d2]) rfl ⟨rfl, ?_⟩
  exact ((HB.out.setCell (by simp only; omega) _).setCell (by simp only; omega) _).setCell (by simp only; omega) _
end FixR
end Go.Proofs.YtnhjodlcdfkpnaaDoor
