/-
  The face of numbers that may run over: what a reckoning comes to, whether it returns, runs over or panics. The condition: the program's own error stands in its variable.
-/
import Derived.Test.YtnhjodlcdfkpnaaDoorKit
import Derived.Defers
import Derived.Recover
import Derived.Laws.Pointers
namespace Go.Proofs.YtnhjodlcdfkpnaaDoor
open Go.ChangeShapes Go.WideShapes Go.ChangeAt Go.RowKit
set_option linter.unusedVariables false
namespace FixR
theorem hid_intro {p : Prop} (h : p) : Hid p := h
/-- The variable holds an error. -/
def Laid (w : World) : Prop := 0 < w.heap.size ∧ ∃ (u : TypeId) (x : Value), w.cell? ⟨0, 0, none⟩ = some (.iface u x)
theorem Laid.below {w w' : World} (h : Laid w) (hb : Below w.heap.size w w') : Laid w' := by
  obtain ⟨h0, u, x, hc⟩ := h
  exact ⟨by have := hb.size; omega, u, x, by rw [hb.cell (p := ⟨0, 0, none⟩) h0]; exact hc⟩
/-- What is handed back. -/
def out (n code : Int) : Value := .agg #[.int .i64 n, .int .i64 0, .int .i64 code]
def In (n : Int) : Prop := -1000000000000000 ≤ n ∧ n ≤ 1000000000000000
theorem held_in (n low high : Int) (h : low ≤ n ∧ n ≤ high) (w : World) :
    Calls Tryd.prog 52 #[.int .i64 n, .int .i64 low, .int .i64 high] w fun e w' => e = .returned (.int .i64 n) ∧ w' = w := by
  obtain ⟨h1, h2⟩ := h
  go_enter Tryd.func52, Tryd.ntmps52
  go_wp2
  go_ret
  exact ⟨rfl, rfl⟩
def Thrown (e : Ending) : Prop := ∃ (u : TypeId) (x : Value), e = .panicked [{ v := .iface u x, recovered := false }]
theorem held_out (n low high : Int) (h : n < low ∨ high < n) (w : World) (hL : Laid w) :
    Calls Tryd.prog 52 #[.int .i64 n, .int .i64 low, .int .i64 high] w fun e w' => Thrown e ∧ w' = w := by
  obtain ⟨h0, u, x, hc⟩ := hL
  have hp : 0 < w.heap.size := h0
  rcases h with h | h
  · have h1 : ¬ low ≤ n := by omega
    go_enter Tryd.func52, Tryd.ntmps52
    go_wp2
    exact ⟨rfl, ⟨u, x, rfl⟩, rfl⟩
  · have h2 : ¬ n ≤ high := by omega
    by_cases h1 : low ≤ n
    all_goals
      go_enter Tryd.func52, Tryd.ntmps52
      go_wp2
      exact ⟨rfl, ⟨u, x, rfl⟩, rfl⟩
theorem catch_panicking (p : Nat) (x y z : Int) (u : TypeId) (pv : Value) (w : World) (h0 : w.cell? ⟨p, 0, none⟩ = some (.int .i64 x)) (h1 : w.cell? ⟨p, 1, none⟩ = some (.int .i64 y)) (h2 : w.cell? ⟨p, 2, none⟩ = some (.int .i64 z)) (z0 : w.frozen? ⟨p, 0, none⟩ = false) (z1 : w.frozen? ⟨p, 1, none⟩ = false) (z2 : w.frozen? ⟨p, 2, none⟩ = false) :
    CallsD Tryd.prog 51 #[.pointer (some ⟨p, 0, none⟩)] (.panicking [{ v := .iface u pv, recovered := false }]) w fun e u' w' =>
      e = .returned (.tuple #[]) ∧ u' = .panicking [{ v := .iface u pv, recovered := true }] ∧ w' = ((w.setCell ⟨p, 0, none⟩ (.int .i64 0)).setCell ⟨p, 1, none⟩ (.int .i64 0)).setCell ⟨p, 2, none⟩ (.int .i64 12) := by
  refine callsD_of_wpS Tryd.func51 rfl fun c₀ cs hu => ?_
  apply wpS_seq
  apply wpS_region
  simp [wpOpsS, go_sem, recoverD, hu, Tryd.ntmps51, Exit.thenS]
  refine wpS_cond (t := true) (by simp [Act.eval, Array.replicate]) ?_
  simp only [if_true]
  apply wpS_region
  simp [wpOpsS, go_sem, h0, h1, h2, z0, z1, z2, bodyPostS, results, Tryd.results51]
theorem catch_idle (p : Addr) (w : World) :
    CallsD Tryd.prog 51 #[.pointer (some p)] .returning w fun e u' w' => e = .returned (.tuple #[]) ∧ u' = .returning ∧ w' = w := by
  refine callsD_of_wpS Tryd.func51 rfl fun c₀ cs hu => ?_
  apply wpS_seq
  apply wpS_region
  simp [wpOpsS, go_sem, recoverD, hu, Tryd.ntmps51, Exit.thenS]
  refine wpS_cond (t := false) (by simp [Act.eval, Array.replicate]) ?_
  simp only [Bool.false_eq_true, if_false]
  refine wpS_of_wp (wp_skip ?_)
  cases c₀
  simp_all [bodyPostS, results, Tryd.results51]
theorem reckoned_ok (g : FuncId) (cap : Array Value) (v : Int) (hv : In v) (w : World)
    (hf : ∀ w1, Below w.heap.size w w1 → Calls Tryd.prog g cap w1 fun e w2 => e = .returned (.int .i64 v) ∧ Below w1.heap.size w1 w2) (he : ∀ args w, (callFunc g args).run Tryd.prog w = .ok (.enter g args) w) :
    Calls Tryd.prog 42 #[.func (.func g) #[] cap] w fun e w' => e = .returned (out v 0) ∧ Below w.heap.size w w' := by
  have hmf : ∀ (fn : Fn) (first cap : Array Value) (w : World), (Instr.makeFunc fn first cap).run Tryd.prog w = .ok (.func fn first cap) w := fun _ _ _ _ => rfl
  obtain ⟨W, hW⟩ : ∃ W, W = w.alloc (Obj.cells #[.int .i64 0, .int .i64 0, .int .i64 0] 27) := ⟨_, rfl⟩
  have hb1 : Below w.heap.size w W := by rw [hW]; exact (Below.refl _ _).alloc (Nat.le_refl _) _
  have hs1 : W.heap.size = w.heap.size + 1 := by rw [hW]; simp
  have c0 : W.cell? ⟨w.heap.size, 0, none⟩ = some (.int .i64 0) := by rw [hW]; simp [go_sem]
  have c1 : W.cell? ⟨w.heap.size, 1, none⟩ = some (.int .i64 0) := by rw [hW]; simp [go_sem]
  have c2 : W.cell? ⟨w.heap.size, 2, none⟩ = some (.int .i64 0) := by rw [hW]; simp [go_sem]
  have z0 : W.frozen? ⟨w.heap.size, 0, none⟩ = false := by rw [hW]; simp [go_sem]
  have z1 : W.frozen? ⟨w.heap.size, 1, none⟩ = false := by rw [hW]; simp [go_sem]
  have z2 : W.frozen? ⟨w.heap.size, 2, none⟩ = false := by rw [hW]; simp [go_sem]
  have HW := hid_intro hW
  have HB1 := hid_intro hb1
  have HF := hid_intro (hf W hb1)
  clear hf hW hb1
  go_enter_defers Tryd.func42, Tryd.ntmps42
  go_wp2
  rw [← HW.out]
  refine HF.out.mono ?_
  rintro e w2 ⟨rfl, hb⟩
  have d0 := hb.cell (p := ⟨w.heap.size, 0, none⟩) (by simp; omega)
  have d1 := hb.cell (p := ⟨w.heap.size, 1, none⟩) (by simp; omega)
  have d2 := hb.cell (p := ⟨w.heap.size, 2, none⟩) (by simp; omega)
  have y0 := hb.frozen (p := ⟨w.heap.size, 0, none⟩) (by simp; omega)
  have y1 := hb.frozen (p := ⟨w.heap.size, 1, none⟩) (by simp; omega)
  have y2 := hb.frozen (p := ⟨w.heap.size, 2, none⟩) (by simp; omega)
  rw [c0] at d0; rw [c1] at d1; rw [c2] at d2; rw [z0] at y0; rw [z1] at y1; rw [z2] at y2
  have HB := hid_intro (HB1.out.trans (hb.mono (by omega)))
  clear hb c0 c1 c2 z0 z1 z2 hs1 HW
  go_wp2_with (go_at_call 52; refine (held_in _ _ _ hv _).mono ?_; rintro e w' ⟨rfl, rfl⟩)
  refine leaves_cons (f := 51) (args := #[.pointer (some ⟨w.heap.size, 0, none⟩)]) (by simp) (by simp [go_sem]) ?_
  refine (catch_idle ⟨w.heap.size, 0, none⟩ _).mono ?_
  rintro e u' w'' ⟨rfl, rfl, rfl⟩
  simp [Leaves, settle, results, Tryd.results42, go_sem, d0, d1, d2]
  exact ⟨rfl, ((HB.out.setCell (Nat.le_refl _) _).setCell (Nat.le_refl _) _).setCell (Nat.le_refl _) _⟩
theorem reckoned_over (g : FuncId) (cap : Array Value) (w : World) (hL : Laid w)
    (hf : ∀ w1, Below w.heap.size w w1 → Calls Tryd.prog g cap w1 fun e w2 => ((∃ v : Int, e = .returned (.int .i64 v) ∧ ¬ In v) ∨ Thrown e) ∧ Below w1.heap.size w1 w2) (he : ∀ args w, (callFunc g args).run Tryd.prog w = .ok (.enter g args) w) :
    Calls Tryd.prog 42 #[.func (.func g) #[] cap] w fun e w' => e = .returned (out 0 12) ∧ Below w.heap.size w w' := by
  have hmf : ∀ (fn : Fn) (first cap : Array Value) (w : World), (Instr.makeFunc fn first cap).run Tryd.prog w = .ok (.func fn first cap) w := fun _ _ _ _ => rfl
  obtain ⟨W, hW⟩ : ∃ W, W = w.alloc (Obj.cells #[.int .i64 0, .int .i64 0, .int .i64 0] 27) := ⟨_, rfl⟩
  have hb1 : Below w.heap.size w W := by rw [hW]; exact (Below.refl _ _).alloc (Nat.le_refl _) _
  have hs1 : W.heap.size = w.heap.size + 1 := by rw [hW]; simp
  have c0 : W.cell? ⟨w.heap.size, 0, none⟩ = some (.int .i64 0) := by rw [hW]; simp [go_sem]
  have c1 : W.cell? ⟨w.heap.size, 1, none⟩ = some (.int .i64 0) := by rw [hW]; simp [go_sem]
  have c2 : W.cell? ⟨w.heap.size, 2, none⟩ = some (.int .i64 0) := by rw [hW]; simp [go_sem]
  have z0 : W.frozen? ⟨w.heap.size, 0, none⟩ = false := by rw [hW]; simp [go_sem]
  have z1 : W.frozen? ⟨w.heap.size, 1, none⟩ = false := by rw [hW]; simp [go_sem]
  have z2 : W.frozen? ⟨w.heap.size, 2, none⟩ = false := by rw [hW]; simp [go_sem]
  have HW := hid_intro hW
  have HB1 := hid_intro hb1
  have HF := hid_intro (hf W hb1)
  clear hf hW hb1
  go_enter_defers Tryd.func42, Tryd.ntmps42
  go_wp2
  rw [← HW.out]
  refine HF.out.mono ?_
  rintro e w2 ⟨hv, hb⟩
  have d0 := hb.cell (p := ⟨w.heap.size, 0, none⟩) (by simp; omega)
  have d1 := hb.cell (p := ⟨w.heap.size, 1, none⟩) (by simp; omega)
  have d2 := hb.cell (p := ⟨w.heap.size, 2, none⟩) (by simp; omega)
  have y0 := hb.frozen (p := ⟨w.heap.size, 0, none⟩) (by simp; omega)
  have y1 := hb.frozen (p := ⟨w.heap.size, 1, none⟩) (by simp; omega)
  have y2 := hb.frozen (p := ⟨w.heap.size, 2, none⟩) (by simp; omega)
  rw [c0] at d0; rw [c1] at d1; rw [c2] at d2; rw [z0] at y0; rw [z1] at y1; rw [z2] at y2
  have HB := hid_intro (HB1.out.trans (hb.mono (by omega)))
  have HL := hid_intro (hL.below HB.out)
  clear hL hb c0 c1 c2 z0 z1 z2 hs1 HW
  rcases hv with ⟨v, rfl, hv⟩ | ⟨u, x, rfl⟩
  · have hv' : v < -1000000000000000 ∨ 1000000000000000 < v := by unfold In at hv; omega
    go_wp2_with (go_at_call 52; refine (held_out _ _ _ hv' _ HL.out).mono ?_; rintro e w' ⟨⟨u, x, rfl⟩, rfl⟩)
    try go_wp2
    refine leaves_cons (f := 51) (args := #[.pointer (some ⟨w.heap.size, 0, none⟩)]) (by simp) (by simp [go_sem]) ?_
    refine (catch_panicking w.heap.size 0 0 0 _ _ _ d0 d1 d2 y0 y1 y2).mono ?_
    rintro e u' w'' ⟨rfl, rfl, rfl⟩
    simp [Leaves, settle, results, Tryd.results42, go_sem, d0, d1, d2]
    exact ⟨rfl, ((HB.out.setCell (Nat.le_refl _) _).setCell (Nat.le_refl _) _).setCell (Nat.le_refl _) _⟩
  · try go_wp2
    refine leaves_cons (f := 51) (args := #[.pointer (some ⟨w.heap.size, 0, none⟩)]) (by simp) (by simp [go_sem]) ?_
    refine (catch_panicking w.heap.size 0 0 0 _ _ _ d0 d1 d2 y0 y1 y2).mono ?_
    rintro e u' w'' ⟨rfl, rfl, rfl⟩
    simp [Leaves, settle, results, Tryd.results42, go_sem, d0, d1, d2]
    exact ⟨rfl, ((HB.out.setCell (Nat.le_refl _) _).setCell (Nat.le_refl _) _).setCell (Nat.le_refl _) _⟩
end FixR
end Go.Proofs.YtnhjodlcdfkpnaaDoor
