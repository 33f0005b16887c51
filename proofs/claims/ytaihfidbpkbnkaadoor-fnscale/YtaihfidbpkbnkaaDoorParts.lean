/-
  A number in parts: either side rounds the same way, and hands back the same. The condition: the program's own error stands in its variable.
-/
import Derived.Test.YtaihfidbpkbnkaaDoorReckon
import Derived.RegionTactic
import Derived.ChangeAlike
namespace Go.Proofs.YtaihfidbpkbnkaaDoor
open Go.ChangeShapes Go.WideShapes Go.ChangeAt Go.RowKit
set_option linter.unusedVariables false
namespace FixR
/-- What the rounding adds. -/
def up (left b mode : Int) : Int := if (mode = 1 ∧ 0 < left) ∨ (mode = 2 ∧ b ≤ 2 * left) then 1 else 0
theorem up_bd (left b mode : Int) : 0 ≤ up left b mode ∧ up left b mode ≤ 1 := by unfold up; split <;> omega
theorem w64 (x : Int) (h : -9223372036854775808 ≤ x ∧ x ≤ 9223372036854775807) : wrap64 x = x := by unfold wrap64; omega
theorem k64 (x : Int) (h : -9223372036854775808 ≤ x ∧ x ≤ 9223372036854775807) : IntKind.i64.wrap x = x := by rw [IntKind.wrap_i64]; omega
theorem roundedUp_any (left b mode : Int) (h : 0 ≤ left ∧ left ≤ 1000000000000000) (hb : b ≤ 1000000000000000) (w : World) :
    Calls Tryd.prog 95 #[.int .i64 left, .int .i64 b, .int .i64 mode] w fun e w' => e = .returned (.int .i64 (up left b mode)) ∧ w' = w := by
  obtain ⟨h0, h1⟩ := h
  have e2 : wrap64 (2 * left) = 2 * left := w64 _ (by omega)
  unfold up
  by_cases m1 : mode = 1
  · subst m1
    by_cases hl : 0 < left
    all_goals
      first | rw [if_pos (by omega)] | rw [if_neg (by omega)]
      go_enter Tryd.func95, Tryd.ntmps95
      go_wp2
      go_ret
      exact ⟨rfl, rfl⟩
  · have m1' : (mode == 1) = false := by simpa using m1
    by_cases m2 : mode = 2
    · subst m2
      by_cases hl : b ≤ 2 * left
      all_goals
        first | rw [if_pos (by omega)] | rw [if_neg (by omega)]
        go_enter Tryd.func95, Tryd.ntmps95
        go_wp2
        go_ret
        exact ⟨rfl, rfl⟩
    · have m2' : (mode == 2) = false := by simpa using m2
      rw [if_neg (by omega)]
      go_enter Tryd.func95, Tryd.ntmps95
      go_wp2
      go_ret
      exact ⟨rfl, rfl⟩
theorem div_facts (a b : Int) (ha : In a) (hb : 1 ≤ b ∧ b ≤ 1000000000000000) :
    (a.tmod b < 0 → a.tdiv b - 1 = a / b ∧ a.tmod b + b = a % b) ∧ (¬ a.tmod b < 0 → a.tdiv b = a / b ∧ a.tmod b = a % b) ∧ (-1000000000000000 ≤ a.tdiv b ∧ a.tdiv b ≤ 1000000000000000) ∧ (-b < a.tmod b ∧ a.tmod b < b) ∧ (0 ≤ a % b ∧ a % b < b) ∧ (-1000000000000000 ≤ a / b ∧ a / b ≤ 1000000000000000) := by
  obtain ⟨h1, h2⟩ := ha
  have e0 := Int.emod_nonneg a (show b ≠ 0 by omega)
  have e1 := Int.emod_lt_of_pos a (show 0 < b by omega)
  have e2 := Int.mul_ediv_add_emod a b
  have q1 : -1000000000000000 ≤ a / b := by
    apply Int.le_ediv_of_mul_le (by omega)
    have : 1000000000000000 * 1 ≤ 1000000000000000 * b := Int.mul_le_mul_of_nonneg_left hb.1 (by omega)
    omega
  have q2 : a / b ≤ 1000000000000000 := by
    apply Int.ediv_le_of_le_mul (by omega)
    have : 1000000000000000 * 1 ≤ 1000000000000000 * b := Int.mul_le_mul_of_nonneg_left hb.1 (by omega)
    omega
  have t2 := Int.mul_tdiv_add_tmod a b
  by_cases hn : 0 ≤ a
  · have t1 : a.tdiv b = a / b := Int.tdiv_eq_ediv_of_nonneg hn
    have t3 : a.tmod b = a % b := Int.tmod_eq_emod_of_nonneg hn
    rw [t1, t3]
    refine ⟨fun h => by omega, fun _ => ⟨rfl, rfl⟩, ⟨q1, q2⟩, ⟨by omega, e1⟩, ⟨e0, e1⟩, ⟨q1, q2⟩⟩
  · have t4 : -b < a.tmod b := by have := Int.lt_tmod_of_pos a (show 0 < b by omega); omega
    have t5 : a.tmod b ≤ 0 := by
      have h6 : (-a).tmod b = (-a) % b := Int.tmod_eq_emod_of_nonneg (by omega)
      have h7 := Int.emod_nonneg (-a) (show b ≠ 0 by omega)
      have h8 := Int.neg_tmod (a := a) (b := b)
      omega
    have key : ∀ k : Int, a.tmod b = a % b + b * k → a.tdiv b + k = a / b := by
      intro k hk
      have : b * (a.tdiv b + k) = b * (a / b) := by rw [Int.mul_add]; omega
      exact Int.eq_of_mul_eq_mul_left (by omega) this
    have hz : a.tmod b = a % b ∨ a.tmod b = a % b + b * (-1) := by
      have hd : (a.tmod b - a % b) = b * (a / b - a.tdiv b) := by rw [Int.mul_sub]; omega
      have h3 : -2 * b < a.tmod b - a % b := by omega
      have h4 : a.tmod b - a % b ≤ 0 := by omega
      generalize a / b - a.tdiv b = k at hd
      have k1 : k ≤ 0 := by
        apply Int.le_of_not_gt; intro hk
        have : 0 < b * k := Int.mul_pos (by omega) hk
        omega
      have k2 : -2 < k := by
        apply Int.lt_of_not_ge; intro hk
        have : b * k ≤ b * (-2) := Int.mul_le_mul_of_nonneg_left hk (by omega)
        omega
      rcases (show k = 0 ∨ k = -1 by omega) with rfl | rfl
      · left; omega
      · right; omega
    have qn : a / b < 0 := Int.ediv_neg_of_neg_of_pos (by omega) (by omega)
    rcases hz with hz | hz
    · have := key 0 (by omega)
      refine ⟨fun h => by omega, fun _ => ⟨by omega, hz⟩, by omega, by omega, ⟨e0, e1⟩, ⟨q1, q2⟩⟩
    · have := key (-1) hz
      refine ⟨fun h => ⟨by omega, by omega⟩, fun h => by omega, by omega, by omega, ⟨e0, e1⟩, ⟨q1, q2⟩⟩
theorem quotient_any (a b mode : Int) (ha : In a) (hb : 1 ≤ b ∧ b ≤ 1000000000000000) (w : World) :
    Calls Tryd.prog 63 #[.int .i64 a, .int .i64 b, .int .i64 mode] w fun e w' => e = .returned (.int .i64 (a / b + up (a % b) b mode)) ∧ Below w.heap.size w w' := by
  obtain ⟨f1, f2, f3, f4, f5, f6⟩ := div_facts a b ha hb
  obtain ⟨u0, u1⟩ := up_bd (a % b) b mode
  have hr := fun w => roundedUp_any (a % b) b mode (by omega) hb.2 w
  have hs : wrap64 (a / b + up (a % b) b mode) = a / b + up (a % b) b mode := w64 _ (by omega)
  have hb0 : ¬ b = 0 := by omega
  obtain ⟨Q, hQ⟩ : ∃ Q, Q = a.tdiv b := ⟨_, rfl⟩
  obtain ⟨R, hR⟩ : ∃ R, R = a.tmod b := ⟨_, rfl⟩
  rw [← hQ, ← hR] at f1 f2
  rw [← hQ] at f3
  rw [← hR] at f4
  have e1 : wrap64 Q = Q := w64 _ (by omega)
  have e2 : wrap64 R = R := w64 _ (by omega)
  have k1 : IntKind.i64.wrap Q = Q := k64 _ (by omega)
  have k2 : IntKind.i64.wrap R = R := k64 _ (by omega)
  generalize a / b = D at *
  generalize a % b = L at *
  generalize up L b mode = U at *
  have hQ' : a.tdiv b = Q := hQ.symm
  have hR' : a.tmod b = R := hR.symm
  clear hQ hR
  by_cases h : R < 0
  · obtain ⟨g1, g2⟩ := f1 h
    subst g1
    subst g2
    have e3 : wrap64 (Q - 1) = Q - 1 := w64 _ (by omega)
    have e4 : wrap64 (R + b) = R + b := w64 _ (by omega)
    clear f1 f2 f3 f4 f5 f6 ha hb u0 u1
    go_enter Tryd.func63, Tryd.ntmps63
    go_wp2_with (go_at_call 95; refine (hr _).mono ?_; rintro e w' ⟨rfl, rfl⟩)
    go_region
    go_wp2_with (go_at_call 95; refine (hr _).mono ?_; rintro e w' ⟨rfl, rfl⟩)
    go_ret
    exact ⟨ret_int hs, (Below.refl _ _).drew⟩
  · obtain ⟨g1, g2⟩ := f2 h
    subst g1
    subst g2
    clear f1 f2 f3 f4 f5 f6 ha hb u0 u1
    go_enter Tryd.func63, Tryd.ntmps63
    go_wp2_with (go_at_call 95; refine (hr _).mono ?_; rintro e w' ⟨rfl, rfl⟩)
    go_region
    go_wp2_with (go_at_call 95; refine (hr _).mono ?_; rintro e w' ⟨rfl, rfl⟩)
    go_ret
    exact ⟨ret_int hs, (Below.refl _ _).drew⟩
theorem cell_alloc_old {w : World} {o : Obj} {b off : Nat} (h : b < w.heap.size) : (w.alloc o).cell? ⟨b, off, none⟩ = w.cell? ⟨b, off, none⟩ := World.cell?_alloc_past _ _ _ h
/-- Is a call of it one that is refused? -/
def partsBad (a b mode : Int) : Prop := ¬ In a ∨ b < 1 ∨ 1000000000000000 < b ∨ mode < 0 ∨ 2 < mode
set_option maxHeartbeats 4000000 in
theorem impl_parts_bad (a b mode : Int) (h : partsBad a b mode) (w : World) :
    Calls Tryd.prog 13 #[.int .i64 a, .int .i64 b, .int .i64 mode] w fun e w' => e = .returned (out 0 1) ∧ Below w.heap.size w w' := by
  unfold partsBad In at h
  have key : (¬ -1000000000000000 ≤ a) ∨ (-1000000000000000 ≤ a ∧ ¬ a ≤ 1000000000000000) ∨ (-1000000000000000 ≤ a ∧ a ≤ 1000000000000000 ∧ ((¬ 1 ≤ b) ∨ (1 ≤ b ∧ ¬ b ≤ 1000000000000000) ∨ (1 ≤ b ∧ b ≤ 1000000000000000 ∧ ((¬ 0 ≤ mode) ∨ (0 ≤ mode ∧ ¬ mode ≤ 2))))) := by omega
  clear h
  rcases key with h1 | ⟨h1, h2⟩ | ⟨h1, h2, h3 | ⟨h3, h4⟩ | ⟨h3, h4, h5 | ⟨h5, h6⟩⟩⟩
  all_goals
    go_enter Tryd.func13, Tryd.ntmps13
    go_wp2
    refine bodyPost_ret (v := out 0 1) (by simp [out, results, Tryd.results13, go_sem]) rfl ⟨rfl, ?_⟩
    repeat' first | exact Below.refl _ _ | apply Below.setCell | apply Below.alloc
    all_goals first | omega | (simp; done) | (simp; omega)
set_option maxHeartbeats 1000000 in
theorem impl_parts_ok (a b mode : Int) (ha : In a) (hb : 1 ≤ b ∧ b ≤ 1000000000000000) (hm : 0 ≤ mode ∧ mode ≤ 2) (hv : In (a / b + up (a % b) b mode)) (w : World) (hL : Laid w) :
    Calls Tryd.prog 13 #[.int .i64 a, .int .i64 b, .int .i64 mode] w fun e w' => e = .returned (out (a / b + up (a % b) b mode) 0) ∧ Below w.heap.size w w' := by
  have hmf : ∀ (fn : Fn) (first cap : Array Value) (w : World), (Instr.makeFunc fn first cap).run Tryd.prog w = .ok (.func fn first cap) w := fun _ _ _ _ => rfl
  obtain ⟨W, hW⟩ : ∃ W, W = (((w.alloc (Obj.cells #[.int .i64 a] 2)).alloc (Obj.cells #[.int .i64 b] 2)).alloc (Obj.cells #[.int .i64 mode] 2)).alloc (Obj.cells #[.int .i64 0, .int .i64 0, .int .i64 0] 26) := ⟨_, rfl⟩
  have hsz : W.heap.size = w.heap.size + 4 := by rw [hW]; simp
  have hb1 : Below w.heap.size w W := by rw [hW]; exact ((((Below.refl _ _).alloc (by simp; try omega) _).alloc (by simp; try omega) _).alloc (by simp; try omega) _).alloc (by simp; try omega) _
  have p0 : W.cell? ⟨w.heap.size, 0, none⟩ = some (.int .i64 a) := by rw [hW]; simp [go_sem]
  have p1 : W.cell? ⟨w.heap.size + 1, 0, none⟩ = some (.int .i64 b) := by rw [hW]; simp [go_sem]
  have p2 : W.cell? ⟨w.heap.size + 1 + 1, 0, none⟩ = some (.int .i64 mode) := by rw [hW]; simp [go_sem]
  have c0 : W.cell? ⟨w.heap.size + 1 + 1 + 1, 0, none⟩ = some (.int .i64 0) := by rw [hW]; simp [go_sem]
  have z0 : W.frozen? ⟨w.heap.size + 1 + 1 + 1, 0, none⟩ = false := by rw [hW]; simp [go_sem]
  have c1 : W.cell? ⟨w.heap.size + 1 + 1 + 1, 1, none⟩ = some (.int .i64 0) := by rw [hW]; simp [go_sem]
  have z1 : W.frozen? ⟨w.heap.size + 1 + 1 + 1, 1, none⟩ = false := by rw [hW]; simp [go_sem]
  have c2 : W.cell? ⟨w.heap.size + 1 + 1 + 1, 2, none⟩ = some (.int .i64 0) := by rw [hW]; simp [go_sem]
  have z2 : W.frozen? ⟨w.heap.size + 1 + 1 + 1, 2, none⟩ = false := by rw [hW]; simp [go_sem]
  have hf : ∀ w1, Below W.heap.size W w1 → Calls Tryd.prog 62 #[.pointer (some ⟨w.heap.size, 0, none⟩), .pointer (some ⟨w.heap.size + 1, 0, none⟩), .pointer (some ⟨w.heap.size + 1 + 1, 0, none⟩)] w1 fun e w2 => e = .returned (.int .i64 (a / b + up (a % b) b mode)) ∧ Below w1.heap.size w1 w2 := by
    intro w1 hb
    have q0 := hb.cell (p := ⟨w.heap.size, 0, none⟩) (by simp only; omega)
    rw [p0] at q0
    have q1 := hb.cell (p := ⟨w.heap.size + 1, 0, none⟩) (by simp only; omega)
    rw [p1] at q1
    have q2 := hb.cell (p := ⟨w.heap.size + 1 + 1, 0, none⟩) (by simp only; omega)
    rw [p2] at q2
    clear p0 p1 p2 c0 c1 c2 z0 z1 z2 hb hb1 hsz hW hL
    have hq := fun w => quotient_any a b mode ha hb w
    generalize a / b + up (a % b) b mode = v at *
    go_enter Tryd.func62, Tryd.ntmps62
    go_wp2_with (go_at_call 63; refine (hq _).mono ?_; rintro e w' ⟨rfl, hb⟩)
    go_ret
    exact ⟨rfl, hb⟩
  have he : ∀ args w, (callFunc 62 args).run Tryd.prog w = .ok (.enter 62 args) w := fun args w => by simp [go_sem]
  have hr := reckoned_ok 62 #[.pointer (some ⟨w.heap.size, 0, none⟩), .pointer (some ⟨w.heap.size + 1, 0, none⟩), .pointer (some ⟨w.heap.size + 1 + 1, 0, none⟩)] _ hv W hf he
  have HW := hid_intro hW
  have HB1 := hid_intro hb1
  clear hf he hW hb1 hL hv p0 p1 p2
  generalize a / b + up (a % b) b mode = v at hr ⊢
  obtain ⟨a1, a2⟩ := ha
  obtain ⟨b1, b2⟩ := hb
  obtain ⟨m1, m2⟩ := hm
  go_enter Tryd.func13, Tryd.ntmps13
  go_wp2_with (first | (go_at_call 60; go_in) | (go_at_call 52; go_in) | (go_at_call 61; go_in))
  rw [← HW.out]
  refine hr.mono ?_
  rintro e w2 ⟨rfl, hb⟩
  have d0 := hb.cell (p := ⟨w.heap.size + 1 + 1 + 1, 0, none⟩) (by simp only; omega)
  have y0 := hb.frozen (p := ⟨w.heap.size + 1 + 1 + 1, 0, none⟩) (by simp only; omega)
  rw [c0] at d0; rw [z0] at y0
  have d1 := hb.cell (p := ⟨w.heap.size + 1 + 1 + 1, 1, none⟩) (by simp only; omega)
  have y1 := hb.frozen (p := ⟨w.heap.size + 1 + 1 + 1, 1, none⟩) (by simp only; omega)
  rw [c1] at d1; rw [z1] at y1
  have d2 := hb.cell (p := ⟨w.heap.size + 1 + 1 + 1, 2, none⟩) (by simp only; omega)
  have y2 := hb.frozen (p := ⟨w.heap.size + 1 + 1 + 1, 2, none⟩) (by simp only; omega)
  rw [c2] at d2; rw [z2] at y2
  have HB := hid_intro (HB1.out.trans (hb.mono (by omega)))
  clear hb c0 c1 c2 z0 z1 z2 hr HW HB1 hmf
  unfold out
  go_wp2
  refine bodyPost_ret (v := out v 0) (by simp [out, results, Tryd.results13, go_sem, d0, d1, d2]) rfl ⟨rfl, ?_⟩
  exact ((HB.out.setCell (by simp only; omega) _).setCell (by simp only; omega) _).setCell (by simp only; omega) _

end FixR
end Go.Proofs.YtaihfidbpkbnkaaDoor
