/-
  A product in parts: what the program's face hands back. The condition: the program's own error stands in its variable.
-/
import Derived.Test.YtaihfidbpkbnkaaDoorProdR
import Derived.Test.YtaihfidbpkbnkaaDoorOuts
namespace Go.Proofs.YtaihfidbpkbnkaaDoor
open Go.ChangeShapes Go.WideShapes Go.ChangeAt Go.RowKit
set_option linter.unusedVariables false
namespace FixR
/-- Is a call of it one that is refused? -/
def tpBad (a b c mode : Int) : Prop := a < 0 ∨ 1000000000000000 < a ∨ b < 0 ∨ 1000000000000000 < b ∨ c < 1 ∨ 1000000000000000 < c ∨ mode < 0 ∨ 2 < mode
theorem tp_key (a b c mode : Int) (h : tpBad a b c mode) : (¬ 0 ≤ a) ∨ (0 ≤ a ∧ ¬ a ≤ 1000000000000000) ∨ (0 ≤ a ∧ a ≤ 1000000000000000 ∧ ((¬ 0 ≤ b) ∨ (0 ≤ b ∧ ¬ b ≤ 1000000000000000) ∨ (0 ≤ b ∧ b ≤ 1000000000000000 ∧ ((¬ 1 ≤ c) ∨ (1 ≤ c ∧ ¬ c ≤ 1000000000000000) ∨ (1 ≤ c ∧ c ≤ 1000000000000000 ∧ ((¬ 0 ≤ mode) ∨ (0 ≤ mode ∧ ¬ mode ≤ 2))))))) := by unfold tpBad at h; omega
set_option maxHeartbeats 4000000 in
theorem impl_timesparts_bad (a b c mode : Int) (h : tpBad a b c mode) (w : World) :
    Calls Tryd.prog 19 #[.int .i64 a, .int .i64 b, .int .i64 c, .int .i64 mode] w fun e w' => e = .returned (out 0 1) ∧ Below w.heap.size w w' := by
  have key := tp_key a b c mode h
  clear h
  rcases key with h1 | ⟨h1, h2⟩ | ⟨h1, h2, h3 | ⟨h3, h4⟩ | ⟨h3, h4, h5 | ⟨h5, h6⟩ | ⟨h5, h6, h7 | ⟨h7, h8⟩⟩⟩⟩
  all_goals
    go_enter Tryd.func19, Tryd.ntmps19
    go_wp2
    refine bodyPost_ret (v := out 0 1) (by simp [out, results, Tryd.results19, go_sem]) rfl ⟨rfl, ?_⟩
    repeat' first | exact Below.refl _ _ | apply Below.setCell | apply Below.alloc
    all_goals first | omega | (simp; done) | (simp; omega)
set_option maxHeartbeats 1000000 in
theorem impl_timesparts_ok (a b c : Nat) (mode : Int) (ha : a ≤ 1000000000000000) (hb : b ≤ 1000000000000000) (hc : 1 ≤ c) (hc2 : c ≤ 1000000000000000) (hm : 0 ≤ mode ∧ mode ≤ 2) (hQ : a * b / c ≤ 1000000000000000) (hv : In (pq a b c mode)) (w : World) (hL : Laid w) :
    Calls Tryd.prog 19 #[.int .i64 a, .int .i64 b, .int .i64 c, .int .i64 mode] w fun e w' => e = .returned (out (pq a b c mode) 0) ∧ Below w.heap.size w w' := by
  have hmf : ∀ (fn : Fn) (first cap : Array Value) (w : World), (Instr.makeFunc fn first cap).run Tryd.prog w = .ok (.func fn first cap) w := fun _ _ _ _ => rfl
  obtain ⟨W, hW⟩ : ∃ W, W = ((((w.alloc (Obj.cells #[.int .i64 a] 2)).alloc (Obj.cells #[.int .i64 b] 2)).alloc (Obj.cells #[.int .i64 c] 2)).alloc (Obj.cells #[.int .i64 mode] 2)).alloc (Obj.cells #[.int .i64 0, .int .i64 0, .int .i64 0] 26) := ⟨_, rfl⟩
  have hsz : W.heap.size = w.heap.size + 5 := by rw [hW]; simp
  have hb1 : Below w.heap.size w W := by rw [hW]; exact (((((Below.refl _ _).alloc (by simp; try omega) _).alloc (by simp; try omega) _).alloc (by simp; try omega) _).alloc (by simp; try omega) _).alloc (by simp; try omega) _
  have p0 : W.cell? ⟨w.heap.size, 0, none⟩ = some (.int .i64 a) := by rw [hW]; simp [go_sem]
  have p1 : W.cell? ⟨w.heap.size + 1, 0, none⟩ = some (.int .i64 b) := by rw [hW]; simp [go_sem]
  have p2 : W.cell? ⟨w.heap.size + 1 + 1, 0, none⟩ = some (.int .i64 c) := by rw [hW]; simp [go_sem]
  have p3 : W.cell? ⟨w.heap.size + 1 + 1 + 1, 0, none⟩ = some (.int .i64 mode) := by rw [hW]; simp [go_sem]
  have c0 : W.cell? ⟨w.heap.size + 1 + 1 + 1 + 1, 0, none⟩ = some (.int .i64 0) := by rw [hW]; simp [go_sem]
  have z0 : W.frozen? ⟨w.heap.size + 1 + 1 + 1 + 1, 0, none⟩ = false := by rw [hW]; simp [go_sem]
  have c1 : W.cell? ⟨w.heap.size + 1 + 1 + 1 + 1, 1, none⟩ = some (.int .i64 0) := by rw [hW]; simp [go_sem]
  have z1 : W.frozen? ⟨w.heap.size + 1 + 1 + 1 + 1, 1, none⟩ = false := by rw [hW]; simp [go_sem]
  have c2 : W.cell? ⟨w.heap.size + 1 + 1 + 1 + 1, 2, none⟩ = some (.int .i64 0) := by rw [hW]; simp [go_sem]
  have z2 : W.frozen? ⟨w.heap.size + 1 + 1 + 1 + 1, 2, none⟩ = false := by rw [hW]; simp [go_sem]
  have hf : ∀ w1, Below W.heap.size W w1 → Calls Tryd.prog 70 #[.pointer (some ⟨w.heap.size, 0, none⟩), .pointer (some ⟨w.heap.size + 1, 0, none⟩), .pointer (some ⟨w.heap.size + 1 + 1, 0, none⟩), .pointer (some ⟨w.heap.size + 1 + 1 + 1, 0, none⟩)] w1 fun e w2 => e = .returned (.int .i64 (pq a b c mode)) ∧ Below w1.heap.size w1 w2 := by
    intro w1 hb
    have q0 := hb.cell (p := ⟨w.heap.size, 0, none⟩) (by simp only; omega)
    rw [p0] at q0
    have q1 := hb.cell (p := ⟨w.heap.size + 1, 0, none⟩) (by simp only; omega)
    rw [p1] at q1
    have q2 := hb.cell (p := ⟨w.heap.size + 1 + 1, 0, none⟩) (by simp only; omega)
    rw [p2] at q2
    have q3 := hb.cell (p := ⟨w.heap.size + 1 + 1 + 1, 0, none⟩) (by simp only; omega)
    rw [p3] at q3
    clear p0 p1 p2 p3 c0 c1 c2 z0 z1 z2 hb hb1 hsz hW hL
    have hq := fun w => pq_ok a b c mode ha hb hc hc2 hQ w
    clear hQ
    generalize pq a b c mode = v at *
    go_enter Tryd.func70, Tryd.ntmps70
    go_wp2_with (go_at_call 71; refine (hq _).mono ?_; rintro e w' ⟨rfl, hb⟩)
    go_ret
    exact ⟨rfl, hb⟩
  have he : ∀ args w, (callFunc 70 args).run Tryd.prog w = .ok (.enter 70 args) w := fun args w => by simp [go_sem]
  have hr := reckoned_ok 70 #[.pointer (some ⟨w.heap.size, 0, none⟩), .pointer (some ⟨w.heap.size + 1, 0, none⟩), .pointer (some ⟨w.heap.size + 1 + 1, 0, none⟩), .pointer (some ⟨w.heap.size + 1 + 1 + 1, 0, none⟩)] _ hv W hf he
  have HW := hid_intro hW
  have HB1 := hid_intro hb1
  clear hf he hW hb1 hL hv p0 p1 p2 p3
  generalize pq a b c mode = v at hr ⊢
  have a1 : (0 : Int) ≤ a := Int.natCast_nonneg _
  have a2 : (a : Int) ≤ 1000000000000000 := by omega
  have b1 : (0 : Int) ≤ b := Int.natCast_nonneg _
  have b2 : (b : Int) ≤ 1000000000000000 := by omega
  have c3 : (1 : Int) ≤ c := by omega
  have c4 : (c : Int) ≤ 1000000000000000 := by omega
  obtain ⟨m1, m2⟩ := hm
  clear ha hb hc hc2
  try clear hQ
  go_enter Tryd.func19, Tryd.ntmps19
  go_wp2_with (first | (go_at_call 60; go_in) | (go_at_call 52; go_in) | (go_at_call 61; go_in))
  rw [← HW.out]
  refine hr.mono ?_
  rintro e w2 ⟨rfl, hb⟩
  have d0 := hb.cell (p := ⟨w.heap.size + 1 + 1 + 1 + 1, 0, none⟩) (by simp only; omega)
  have y0 := hb.frozen (p := ⟨w.heap.size + 1 + 1 + 1 + 1, 0, none⟩) (by simp only; omega)
  rw [c0] at d0; rw [z0] at y0
  have d1 := hb.cell (p := ⟨w.heap.size + 1 + 1 + 1 + 1, 1, none⟩) (by simp only; omega)
  have y1 := hb.frozen (p := ⟨w.heap.size + 1 + 1 + 1 + 1, 1, none⟩) (by simp only; omega)
  rw [c1] at d1; rw [z1] at y1
  have d2 := hb.cell (p := ⟨w.heap.size + 1 + 1 + 1 + 1, 2, none⟩) (by simp only; omega)
  have y2 := hb.frozen (p := ⟨w.heap.size + 1 + 1 + 1 + 1, 2, none⟩) (by simp only; omega)
  rw [c2] at d2; rw [z2] at y2
  have HB := hid_intro (HB1.out.trans (hb.mono (by omega)))
  clear hb c0 c1 c2 z0 z1 z2 hr HW HB1 hmf
  unfold out
  go_wp2
  refine bodyPost_ret (v := out v 0) (by simp [out, results, Tryd.results19, go_sem, d0, d1, d2]) rfl ⟨rfl, ?_⟩
  exact ((HB.out.setCell (by simp only; omega) _).setCell (by simp only; omega) _).setCell (by simp only; omega) _
set_option maxHeartbeats 1000000 in
theorem impl_timesparts_over (a b c : Nat) (mode : Int) (ha : a ≤ 1000000000000000) (hb : b ≤ 1000000000000000) (hc : 1 ≤ c) (hc2 : c ≤ 1000000000000000) (hm : 0 ≤ mode ∧ mode ≤ 2) (hv : ¬ In (pq a b c mode)) (w : World) (hL : Laid w) :
    Calls Tryd.prog 19 #[.int .i64 a, .int .i64 b, .int .i64 c, .int .i64 mode] w fun e w' => e = .returned (out 0 12) ∧ Below w.heap.size w w' := by
  have hmf : ∀ (fn : Fn) (first cap : Array Value) (w : World), (Instr.makeFunc fn first cap).run Tryd.prog w = .ok (.func fn first cap) w := fun _ _ _ _ => rfl
  obtain ⟨W, hW⟩ : ∃ W, W = ((((w.alloc (Obj.cells #[.int .i64 a] 2)).alloc (Obj.cells #[.int .i64 b] 2)).alloc (Obj.cells #[.int .i64 c] 2)).alloc (Obj.cells #[.int .i64 mode] 2)).alloc (Obj.cells #[.int .i64 0, .int .i64 0, .int .i64 0] 26) := ⟨_, rfl⟩
  have hsz : W.heap.size = w.heap.size + 5 := by rw [hW]; simp
  have hb1 : Below w.heap.size w W := by rw [hW]; exact (((((Below.refl _ _).alloc (by simp; try omega) _).alloc (by simp; try omega) _).alloc (by simp; try omega) _).alloc (by simp; try omega) _).alloc (by simp; try omega) _
  have p0 : W.cell? ⟨w.heap.size, 0, none⟩ = some (.int .i64 a) := by rw [hW]; simp [go_sem]
  have p1 : W.cell? ⟨w.heap.size + 1, 0, none⟩ = some (.int .i64 b) := by rw [hW]; simp [go_sem]
  have p2 : W.cell? ⟨w.heap.size + 1 + 1, 0, none⟩ = some (.int .i64 c) := by rw [hW]; simp [go_sem]
  have p3 : W.cell? ⟨w.heap.size + 1 + 1 + 1, 0, none⟩ = some (.int .i64 mode) := by rw [hW]; simp [go_sem]
  have c0 : W.cell? ⟨w.heap.size + 1 + 1 + 1 + 1, 0, none⟩ = some (.int .i64 0) := by rw [hW]; simp [go_sem]
  have z0 : W.frozen? ⟨w.heap.size + 1 + 1 + 1 + 1, 0, none⟩ = false := by rw [hW]; simp [go_sem]
  have c1 : W.cell? ⟨w.heap.size + 1 + 1 + 1 + 1, 1, none⟩ = some (.int .i64 0) := by rw [hW]; simp [go_sem]
  have z1 : W.frozen? ⟨w.heap.size + 1 + 1 + 1 + 1, 1, none⟩ = false := by rw [hW]; simp [go_sem]
  have c2 : W.cell? ⟨w.heap.size + 1 + 1 + 1 + 1, 2, none⟩ = some (.int .i64 0) := by rw [hW]; simp [go_sem]
  have z2 : W.frozen? ⟨w.heap.size + 1 + 1 + 1 + 1, 2, none⟩ = false := by rw [hW]; simp [go_sem]
  have hf : ∀ w1, Below W.heap.size W w1 → Calls Tryd.prog 70 #[.pointer (some ⟨w.heap.size, 0, none⟩), .pointer (some ⟨w.heap.size + 1, 0, none⟩), .pointer (some ⟨w.heap.size + 1 + 1, 0, none⟩), .pointer (some ⟨w.heap.size + 1 + 1 + 1, 0, none⟩)] w1 fun e w2 => ((∃ v : Int, e = .returned (.int .i64 v) ∧ ¬ In v) ∨ Thrown e) ∧ Below w1.heap.size w1 w2 := by
    intro w1 hb
    have q0 := hb.cell (p := ⟨w.heap.size, 0, none⟩) (by simp only; omega)
    rw [p0] at q0
    have q1 := hb.cell (p := ⟨w.heap.size + 1, 0, none⟩) (by simp only; omega)
    rw [p1] at q1
    have q2 := hb.cell (p := ⟨w.heap.size + 1 + 1, 0, none⟩) (by simp only; omega)
    rw [p2] at q2
    have q3 := hb.cell (p := ⟨w.heap.size + 1 + 1 + 1, 0, none⟩) (by simp only; omega)
    rw [p3] at q3
    have HL1 := hid_intro ((hL.below hb1).below hb)
    clear p0 p1 p2 p3 c0 c1 c2 z0 z1 z2 hb hb1 hsz hW hL
    by_cases hQ : a * b / c ≤ 1000000000000000
    · have hq := fun w => pq_ok a b c mode ha hb hc hc2 hQ w
      have HV := hid_intro hv
      clear hv hQ
      generalize pq a b c mode = v at *
      go_enter Tryd.func70, Tryd.ntmps70
      go_wp2_with (go_at_call 71; refine (hq _).mono ?_; rintro e w' ⟨rfl, hb⟩)
      go_ret
      exact ⟨.inl ⟨v, rfl, HV.out⟩, hb⟩
    · have hq := pq_over a b c mode ha hb hc hc2 hQ w1 HL1.out
      clear hQ hv
      go_enter Tryd.func70, Tryd.ntmps70
      go_wp2_with (go_at_call 71; refine hq.mono ?_; rintro e w' ⟨⟨u, x, rfl⟩, hb⟩)
      try go_wp2
      exact ⟨rfl, .inr ⟨u, x, rfl⟩, hb⟩
  have he : ∀ args w, (callFunc 70 args).run Tryd.prog w = .ok (.enter 70 args) w := fun args w => by simp [go_sem]
  have hr := reckoned_over 70 #[.pointer (some ⟨w.heap.size, 0, none⟩), .pointer (some ⟨w.heap.size + 1, 0, none⟩), .pointer (some ⟨w.heap.size + 1 + 1, 0, none⟩), .pointer (some ⟨w.heap.size + 1 + 1 + 1, 0, none⟩)] W (hL.below hb1) hf he
  have HW := hid_intro hW
  have HB1 := hid_intro hb1
  clear hf he hW hb1 hL hv p0 p1 p2 p3
  have a1 : (0 : Int) ≤ a := Int.natCast_nonneg _
  have a2 : (a : Int) ≤ 1000000000000000 := by omega
  have b1 : (0 : Int) ≤ b := Int.natCast_nonneg _
  have b2 : (b : Int) ≤ 1000000000000000 := by omega
  have c3 : (1 : Int) ≤ c := by omega
  have c4 : (c : Int) ≤ 1000000000000000 := by omega
  obtain ⟨m1, m2⟩ := hm
  clear ha hb hc hc2
  try clear hQ
  go_enter Tryd.func19, Tryd.ntmps19
  go_wp2_with (first | (go_at_call 60; go_in) | (go_at_call 52; go_in) | (go_at_call 61; go_in))
  rw [← HW.out]
  refine hr.mono ?_
  rintro e w2 ⟨rfl, hb⟩
  have d0 := hb.cell (p := ⟨w.heap.size + 1 + 1 + 1 + 1, 0, none⟩) (by simp only; omega)
  have y0 := hb.frozen (p := ⟨w.heap.size + 1 + 1 + 1 + 1, 0, none⟩) (by simp only; omega)
  rw [c0] at d0; rw [z0] at y0
  have d1 := hb.cell (p := ⟨w.heap.size + 1 + 1 + 1 + 1, 1, none⟩) (by simp only; omega)
  have y1 := hb.frozen (p := ⟨w.heap.size + 1 + 1 + 1 + 1, 1, none⟩) (by simp only; omega)
  rw [c1] at d1; rw [z1] at y1
  have d2 := hb.cell (p := ⟨w.heap.size + 1 + 1 + 1 + 1, 2, none⟩) (by simp only; omega)
  have y2 := hb.frozen (p := ⟨w.heap.size + 1 + 1 + 1 + 1, 2, none⟩) (by simp only; omega)
  rw [c2] at d2; rw [z2] at y2
  have HB := hid_intro (HB1.out.trans (hb.mono (by omega)))
  clear hb c0 c1 c2 z0 z1 z2 hr HW HB1 hmf
  unfold out
  go_wp2
  refine bodyPost_ret (v := out 0 12) (by simp [out, results, Tryd.results19, go_sem, d0, d1, d2]) rfl ⟨rfl, ?_⟩
  exact ((HB.out.setCell (by simp only; omega) _).setCell (by simp only; omega) _).setCell (by simp only; omega) _
end FixR
end Go.Proofs.YtaihfidbpkbnkaaDoor
