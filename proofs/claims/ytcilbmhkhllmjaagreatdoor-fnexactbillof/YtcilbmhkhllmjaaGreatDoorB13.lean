/-
  What a right meter costs, in numbers. No condition.
  The face of numbers that may run over: what a reckoning comes to, whether it returns, runs over or panics. The condition: the program's own error stands in its variable.
  The program's product, whether it runs over or not. The condition: the program's own error stands in its variable.
  What the program and the model call a right meter: they are one. The conditions: the name has at most 1048576 bytes, the tiers are at most 1048576.
  What a right meter costs: the program's side. The condition: the program's own error stands in its variable, the meter is right, so much can be rated.
  Rate and RateBetween: the program's side. The condition: the program's own error stands in its variable.
  'copy' between rows of things of k cells each, and such a copy as one step of a walk. No condition.
-/
import Derived.Defers
import Derived.Recover
import Derived.Laws.Pointers
import Derived.Deep.RegionHeld3
import Derived.Laws.CopyOwn
import Derived.Lib.AppendZerosOnto
import Derived.Lib.Overlaps
import Derived.Laws.NewBlocks
import Derived.Deep.RegionLaw
import Derived.Test.YtcilbmhkhllmjaaGreatDoorB12
namespace Go.Proofs.YtcilbmhkhllmjaaGreatDoor
open Go.RowKit
set_option linter.unusedVariables false
namespace CatR
open ClampR (clamp)
/-- The less of two, the greater of two. -/
def mn (a b : Int) : Int := if a < b then a else b
def mx (a b : Int) : Int := if a < b then b else a
/-- What costs. -/
def amt (m : Me) (u : Int) : Int := mx (u - m.f) 0
/-- The part of a tier, what the first tiers' parts cost. -/
def part (ts : List Ti) (n : Int) (i : Nat) : Int := clamp n (tA ts i) (tU ts i) - tA ts i
def ps (ts : List Ti) (n : Int) : Nat → Int
  | 0 => 0
  | k + 1 => ps ts n k + part ts n k * tP ts k
/-- All of it in one tier. -/
def wc (ts : List Ti) (n : Int) : Int := match ts.find? (fun t => decide (n ≤ t.u)) with
  | some t => n * t.p
  | none => 0
def bs (m : Me) (u : Int) : Int := bif m.wh then wc m.ts (amt m u) else ps m.ts (amt m u) m.ts.length
def rt (m : Me) (u : Int) : Int := if 0 < u then mx (bs m u) m.l else bs m u
def ltB : Int := 1000000000000
theorem part_bd {ts : List Ti} (h : TRight ts) {n : Int} (hn : 0 ≤ n) (i : Nat) (hi : i < ts.length) : 0 ≤ part ts n i ∧ part ts n i ≤ 1000000000000 ∧ part ts n i = mn n (tU ts i) - mn n (tA ts i) := by
  have h1 := h.upto i hi
  have h2 := (h.2.2.1 i hi).1
  have h3 := (h.2.2.1.rise i (by omega)).1
  unfold part clamp mn
  split <;> (try split) <;> (try split) <;> (try split) <;> omega
theorem pr_bd {ts : List Ti} (h : TRight ts) (i : Nat) (hi : i < ts.length) : 0 ≤ tP ts i ∧ tP ts i ≤ 1000000 := (h.2.2.1 i hi).2
theorem mul_bd {a p : Int} (ha : 0 ≤ a) (hp : 0 ≤ p ∧ p ≤ 1000000) : 0 ≤ a * p ∧ a * p ≤ 1000000 * a := by
  refine ⟨Int.mul_nonneg ha hp.1, ?_⟩
  have := Int.mul_le_mul_of_nonneg_left hp.2 ha
  omega
theorem ps_bd {ts : List Ti} (h : TRight ts) {n : Int} (hn : 0 ≤ n) : ∀ k, k ≤ ts.length → 0 ≤ ps ts n k ∧ ps ts n k ≤ 1000000 * mn n (tA ts k)
  | 0, _ => by simp only [ps, tA]; unfold mn; split <;> omega
  | k + 1, hk => by
    have h1 := ps_bd h hn k (by omega)
    have h2 := part_bd h hn k (by omega)
    have h3 := mul_bd h2.1 (pr_bd h k (by omega))
    have e : tA ts (k + 1) = tU ts k := rfl
    simp only [ps]
    rw [e]
    omega
theorem ps_mono {ts : List Ti} (h : TRight ts) {n : Int} (hn : 0 ≤ n) : ∀ k j, k ≤ ts.length → j ≤ k → ps ts n j ≤ ps ts n k
  | 0, j, _, hj => by obtain rfl : j = 0 := by omega
                      exact Int.le_refl _
  | k + 1, j, hk, hj => by
    by_cases e : j = k + 1
    · subst e; exact Int.le_refl _
    · have h1 := ps_mono h hn k j (by omega) (by omega)
      have h2 := part_bd h hn k (by omega)
      have h3 := mul_bd h2.1 (pr_bd h k (by omega))
      simp only [ps]
      omega
theorem ps_all {ts : List Ti} (h : TRight ts) {n : Int} (hn : 0 ≤ n ∧ n ≤ 1000000000000) (k : Nat) (hk : k ≤ ts.length) : 0 ≤ ps ts n k ∧ ps ts n k ≤ 1000000000000000000 := by
  have := ps_bd h hn.1 k hk
  have e : mn n (tA ts k) ≤ 1000000000000 := by unfold mn; split <;> omega
  omega
/-- The first tier that holds so much. -/
def At (ts : List Ti) (n : Int) (k : Nat) : Prop := k < ts.length ∧ (∀ i, i < k → tU ts i < n) ∧ n ≤ tU ts k
theorem wc_at {ts : List Ti} {n : Int} : ∀ {k : Nat}, At ts n k → wc ts n = n * tP ts k := by
  induction ts with
  | nil => intro k h; exact absurd h.1 (by simp)
  | cons t ts ih =>
    intro k h
    obtain ⟨h1, h2, h3⟩ := h
    cases k with
    | zero =>
      have e : n ≤ t.u := h3
      unfold wc
      rw [List.find?_cons_of_pos (by simpa using e)]
      rfl
    | succ k =>
      have e : t.u < n := h2 0 (by omega)
      have := ih (k := k) ⟨by simpa using h1, fun i hi => h2 (i + 1) (by omega), h3⟩
      unfold wc at this ⊢
      rw [List.find?_cons_of_neg (by simp; omega), this]
      rfl
theorem wc_bd {ts : List Ti} (h : TRight ts) {n : Int} (hn : 0 ≤ n ∧ n ≤ 1000000000000) {k : Nat} (hk : k < ts.length) : 0 ≤ n * tP ts k ∧ n * tP ts k ≤ 1000000000000000000 := by
  have := mul_bd hn.1 (pr_bd h k hk)
  omega
/-- Not all tiers are below. -/
theorem not_all {ts : List Ti} (h : TRight ts) {n : Int} (hn : n ≤ 1000000000000) {k : Nat} (hk : k ≤ ts.length) (ha : ∀ i, i < k → tU ts i < n) : k < ts.length := by
  by_cases e : k < ts.length
  · exact e
  · obtain rfl : k = ts.length := by omega
    obtain ⟨j, hj⟩ : ∃ j, ts.length = j + 1 := ⟨ts.length - 1, by have := h.1; omega⟩
    have h1 := ha j (by omega)
    have h2 := h.2.2.2
    rw [hj] at h2
    have e : tA ts (j + 1) = tU ts j := rfl
    omega
theorem at_ex {ts : List Ti} (h : TRight ts) {n : Int} (hn : n ≤ 1000000000000) : ∃ k, At ts n k := by
  have key : ∀ j, j ≤ ts.length → (∃ k, At ts n k) ∨ ∀ i, i < j → tU ts i < n := by
    intro j
    induction j with
    | zero => intro _; exact .inr (fun i hi => absurd hi (by omega))
    | succ j ih =>
      intro hj
      rcases ih (by omega) with h1 | h1
      · exact .inl h1
      · by_cases e : tU ts j < n
        · refine .inr (fun i hi => ?_)
          by_cases q : i = j
          · subst q; exact e
          · exact h1 i (by omega)
        · exact .inl ⟨j, by omega, h1, by omega⟩
  rcases key ts.length (Nat.le_refl _) with h1 | h1
  · exact h1
  · exact absurd (not_all h hn (Nat.le_refl _) h1) (by omega)
theorem amt_bd {m : Me} (hf : 0 ≤ m.f ∧ m.f ≤ 1000000000) {u : Int} (hu : 0 ≤ u ∧ u ≤ 1000000000000) : 0 ≤ amt m u ∧ amt m u ≤ 1000000000000 := by
  unfold amt mx
  split <;> omega
theorem bs_bd {m : Me} (h : MRight m) {u : Int} (hu : 0 ≤ u ∧ u ≤ 1000000000000) : 0 ≤ bs m u ∧ bs m u ≤ 1000000000000000000 := by
  obtain ⟨_, _, hf, _, ht⟩ := h
  have ha := amt_bd hf hu
  unfold bs
  cases m.wh
  · exact ps_all ht ha _ (Nat.le_refl _)
  · obtain ⟨k, hk⟩ := at_ex ht ha.2
    simp only [cond_true]
    rw [wc_at hk]
    exact wc_bd ht ha hk.1
theorem rt_bd {m : Me} (h : MRight m) {u : Int} (hu : 0 ≤ u ∧ u ≤ 1000000000000) : 0 ≤ rt m u ∧ rt m u ≤ 1000000000000000000 ∧ bs m u ≤ rt m u := by
  have h1 := bs_bd h hu
  have h2 := h.2.2.2.1
  unfold rt mx
  split <;> (try split) <;> omega
/-- What is handed back: a number and a code. -/
def rO (m : Me) (u : Int) : Int × Int := if rt m u ≤ 1000000000000000 then (rt m u, 0) else (0, 12)
def rateO (m : Me) (u : Int) : Int × Int := bif mB m && decide (0 ≤ u ∧ u ≤ 1000000000000) then rO m u else (0, 1)
theorem rB_iff {m : Me} : mB m = true ↔ MRight m := by unfold mB; exact @decide_eq_true_iff _ (MRightDec m)
end CatR
end Go.Proofs.YtcilbmhkhllmjaaGreatDoor
namespace Go.Proofs.YtcilbmhkhllmjaaGreatDoor
open Go.ChangeShapes Go.WideShapes Go.ChangeAt Go.RowKit
set_option linter.unusedVariables false
namespace FixR
theorem hid_intro {p : Prop} (h : p) : Hid p := h
/-- The variable holds an error. -/
def Laid (w : World) : Prop := 2 < w.heap.size ∧ ∃ (u : TypeId) (x : Value), w.cell? ⟨2, 0, none⟩ = some (.iface u x)
theorem Laid.below {w w' : World} (h : Laid w) (hb : Below w.heap.size w w') : Laid w' := by
  obtain ⟨h0, u, x, hc⟩ := h
  exact ⟨by have := hb.size; omega, u, x, by rw [hb.cell (p := ⟨2, 0, none⟩) h0]; exact hc⟩
/-- What is handed back. -/
def out (n code : Int) : Value := .agg #[.int .i64 n, .int .i64 0, .int .i64 code]
def In (n : Int) : Prop := -1000000000000000 ≤ n ∧ n ≤ 1000000000000000
theorem held_in (n low high : Int) (h : low ≤ n ∧ n ≤ high) (w : World) :
    Calls Tryz.prog 157 #[.int .i64 n, .int .i64 low, .int .i64 high] w fun e w' => e = .returned (.int .i64 n) ∧ w' = w := by
  obtain ⟨h1, h2⟩ := h
  go_enter Tryz.func157, Tryz.ntmps157
  go_wp2
  go_ret
  exact ⟨rfl, rfl⟩
def Thrown (e : Ending) : Prop := ∃ (u : TypeId) (x : Value), e = .panicked [{ v := .iface u x, recovered := false }]
theorem held_out (n low high : Int) (h : n < low ∨ high < n) (w : World) (hL : Laid w) :
    Calls Tryz.prog 157 #[.int .i64 n, .int .i64 low, .int .i64 high] w fun e w' => Thrown e ∧ w' = w := by
  obtain ⟨h0, u, x, hc⟩ := hL
  have hp : 2 < w.heap.size := h0
  rcases h with h | h
  · have h1 : ¬ low ≤ n := by omega
    go_enter Tryz.func157, Tryz.ntmps157
    go_wp2
    exact ⟨rfl, ⟨u, x, rfl⟩, rfl⟩
  · have h2 : ¬ n ≤ high := by omega
    by_cases h1 : low ≤ n
    all_goals
      go_enter Tryz.func157, Tryz.ntmps157
      go_wp2
      exact ⟨rfl, ⟨u, x, rfl⟩, rfl⟩
theorem catch_panicking (p : Nat) (x y z : Int) (u : TypeId) (pv : Value) (w : World) (h0 : w.cell? ⟨p, 0, none⟩ = some (.int .i64 x)) (h1 : w.cell? ⟨p, 1, none⟩ = some (.int .i64 y)) (h2 : w.cell? ⟨p, 2, none⟩ = some (.int .i64 z)) (z0 : w.frozen? ⟨p, 0, none⟩ = false) (z1 : w.frozen? ⟨p, 1, none⟩ = false) (z2 : w.frozen? ⟨p, 2, none⟩ = false) :
    CallsD Tryz.prog 156 #[.pointer (some ⟨p, 0, none⟩)] (.panicking [{ v := .iface u pv, recovered := false }]) w fun e u' w' =>
      e = .returned (.tuple #[]) ∧ u' = .panicking [{ v := .iface u pv, recovered := true }] ∧ w' = ((w.setCell ⟨p, 0, none⟩ (.int .i64 0)).setCell ⟨p, 1, none⟩ (.int .i64 0)).setCell ⟨p, 2, none⟩ (.int .i64 12) := by
  refine callsD_of_wpS Tryz.func156 rfl fun c₀ cs hu => ?_
  apply wpS_seq
  apply wpS_region
  simp [wpOpsS, go_sem, recoverD, hu, Tryz.ntmps156, Exit.thenS]
  refine wpS_cond (t := true) (by simp [Act.eval, Array.replicate]) ?_
  simp only [if_true]
  apply wpS_region
  simp [wpOpsS, go_sem, h0, h1, h2, z0, z1, z2, bodyPostS, results, Tryz.results156]
theorem catch_idle (p : Addr) (w : World) :
    CallsD Tryz.prog 156 #[.pointer (some p)] .returning w fun e u' w' => e = .returned (.tuple #[]) ∧ u' = .returning ∧ w' = w := by
  refine callsD_of_wpS Tryz.func156 rfl fun c₀ cs hu => ?_
  apply wpS_seq
  apply wpS_region
  simp [wpOpsS, go_sem, recoverD, hu, Tryz.ntmps156, Exit.thenS]
  refine wpS_cond (t := false) (by simp [Act.eval, Array.replicate]) ?_
  simp only [Bool.false_eq_true, if_false]
  refine wpS_of_wp (wp_skip ?_)
  cases c₀
  simp_all [bodyPostS, results, Tryz.results156]
theorem reckoned_ok (g : FuncId) (cap : Array Value) (v : Int) (hv : In v) (w : World)
    (hf : ∀ w1, Below w.heap.size w w1 → Calls Tryz.prog g cap w1 fun e w2 => e = .returned (.int .i64 v) ∧ Below w1.heap.size w1 w2) (he : ∀ args w, (callFunc g args).run Tryz.prog w = .ok (.enter g args) w) :
    Calls Tryz.prog 127 #[.func (.func g) #[] cap] w fun e w' => e = .returned (out v 0) ∧ Below w.heap.size w w' := by
  have hmf : ∀ (fn : Fn) (first cap : Array Value) (w : World), (Instr.makeFunc fn first cap).run Tryz.prog w = .ok (.func fn first cap) w := fun _ _ _ _ => rfl
  obtain ⟨W, hW⟩ : ∃ W, W = w.alloc (Obj.cells #[.int .i64 0, .int .i64 0, .int .i64 0] 125) := ⟨_, rfl⟩
  have hb1 : Below w.heap.size w W := by rw [hW]; exact (Below.refl _ _).alloc (Nat.le_refl _) _
  have hs1 : W.heap.size = w.heap.size + 1 := by rw [hW]; simp
  have c0 : W.cell? ⟨w.heap.size, 0, none⟩ = some (.int .i64 0) := by rw [hW]; simp [go_sem]
  have c1 : W.cell? ⟨w.heap.size, 1, none⟩ = some (.int .i64 0) := by rw [hW]; simp [go_sem]
  have c2 : W.cell? ⟨w.heap.size, 2, none⟩ = some (.int .i64 0) := by rw [hW]; simp [go_sem]
  have z0 : W.frozen? ⟨w.heap.size, 0, none⟩ = false := by rw [hW]; simp [go_sem]
  have z1 : W.frozen? ⟨w.heap.size, 1, none⟩ = false := by rw [hW]; simp [go_sem]
  have z2 : W.frozen? ⟨w.heap.size, 2, none⟩ = false := by rw [hW]; simp [go_sem]
  have HW := hid_intro hW
  have HB1 := hid_intro hb1
  have HF := hid_intro (hf W hb1)
  clear hf hW hb1
  go_enter_defers Tryz.func127, Tryz.ntmps127
  go_wp2
  rw [← HW.out]
  refine HF.out.mono ?_
  rintro e w2 ⟨rfl, hb⟩
  have d0 := hb.cell (p := ⟨w.heap.size, 0, none⟩) (by simp; omega)
  have d1 := hb.cell (p := ⟨w.heap.size, 1, none⟩) (by simp; omega)
  have d2 := hb.cell (p := ⟨w.heap.size, 2, none⟩) (by simp; omega)
  have y0 := hb.frozen (p := ⟨w.heap.size, 0, none⟩) (by simp; omega)
  have y1 := hb.frozen (p := ⟨w.heap.size, 1, none⟩) (by simp; omega)
  have y2 := hb.frozen (p := ⟨w.heap.size, 2, none⟩) (by simp; omega)
  rw [c0] at d0; rw [c1] at d1; rw [c2] at d2; rw [z0] at y0; rw [z1] at y1; rw [z2] at y2
  have HB := hid_intro (HB1.out.trans (hb.mono (by omega)))
  clear hb c0 c1 c2 z0 z1 z2 hs1 HW
  go_wp2_with (go_at_call 157; refine (held_in _ _ _ hv _).mono ?_; rintro e w' ⟨rfl, rfl⟩)
  refine leaves_cons (f := 156) (args := #[.pointer (some ⟨w.heap.size, 0, none⟩)]) (by simp) (by simp [go_sem]) ?_
  refine (catch_idle ⟨w.heap.size, 0, none⟩ _).mono ?_
  rintro e u' w'' ⟨rfl, rfl, rfl⟩
  simp [Leaves, settle, results, Tryz.results127, go_sem, d0, d1, d2]
  exact ⟨rfl, ((HB.out.setCell (Nat.le_refl _) _).setCell (Nat.le_refl _) _).setCell (Nat.le_refl _) _⟩
theorem reckoned_over (g : FuncId) (cap : Array Value) (w : World) (hL : Laid w)
    (hf : ∀ w1, Below w.heap.size w w1 → Calls Tryz.prog g cap w1 fun e w2 => ((∃ v : Int, e = .returned (.int .i64 v) ∧ ¬ In v) ∨ Thrown e) ∧ Below w1.heap.size w1 w2) (he : ∀ args w, (callFunc g args).run Tryz.prog w = .ok (.enter g args) w) :
    Calls Tryz.prog 127 #[.func (.func g) #[] cap] w fun e w' => e = .returned (out 0 12) ∧ Below w.heap.size w w' := by
  have hmf : ∀ (fn : Fn) (first cap : Array Value) (w : World), (Instr.makeFunc fn first cap).run Tryz.prog w = .ok (.func fn first cap) w := fun _ _ _ _ => rfl
  obtain ⟨W, hW⟩ : ∃ W, W = w.alloc (Obj.cells #[.int .i64 0, .int .i64 0, .int .i64 0] 125) := ⟨_, rfl⟩
  have hb1 : Below w.heap.size w W := by rw [hW]; exact (Below.refl _ _).alloc (Nat.le_refl _) _
  have hs1 : W.heap.size = w.heap.size + 1 := by rw [hW]; simp
  have c0 : W.cell? ⟨w.heap.size, 0, none⟩ = some (.int .i64 0) := by rw [hW]; simp [go_sem]
  have c1 : W.cell? ⟨w.heap.size, 1, none⟩ = some (.int .i64 0) := by rw [hW]; simp [go_sem]
  have c2 : W.cell? ⟨w.heap.size, 2, none⟩ = some (.int .i64 0) := by rw [hW]; simp [go_sem]
  have z0 : W.frozen? ⟨w.heap.size, 0, none⟩ = false := by rw [hW]; simp [go_sem]
  have z1 : W.frozen? ⟨w.heap.size, 1, none⟩ = false := by rw [hW]; simp [go_sem]
  have z2 : W.frozen? ⟨w.heap.size, 2, none⟩ = false := by rw [hW]; simp [go_sem]
  have HW := hid_intro hW
  have HB1 := hid_intro hb1
  have HF := hid_intro (hf W hb1)
  clear hf hW hb1
  go_enter_defers Tryz.func127, Tryz.ntmps127
  go_wp2
  rw [← HW.out]
  refine HF.out.mono ?_
  rintro e w2 ⟨hv, hb⟩
  have d0 := hb.cell (p := ⟨w.heap.size, 0, none⟩) (by simp; omega)
  have d1 := hb.cell (p := ⟨w.heap.size, 1, none⟩) (by simp; omega)
  have d2 := hb.cell (p := ⟨w.heap.size, 2, none⟩) (by simp; omega)
  have y0 := hb.frozen (p := ⟨w.heap.size, 0, none⟩) (by simp; omega)
  have y1 := hb.frozen (p := ⟨w.heap.size, 1, none⟩) (by simp; omega)
  have y2 := hb.frozen (p := ⟨w.heap.size, 2, none⟩) (by simp; omega)
  rw [c0] at d0; rw [c1] at d1; rw [c2] at d2; rw [z0] at y0; rw [z1] at y1; rw [z2] at y2
  have HB := hid_intro (HB1.out.trans (hb.mono (by omega)))
  have HL := hid_intro (hL.below HB.out)
  clear hL hb c0 c1 c2 z0 z1 z2 hs1 HW
  rcases hv with ⟨v, rfl, hv⟩ | ⟨u, x, rfl⟩
  · have hv' : v < -1000000000000000 ∨ 1000000000000000 < v := by unfold In at hv; omega
    go_wp2_with (go_at_call 157; refine (held_out _ _ _ hv' _ HL.out).mono ?_; rintro e w' ⟨⟨u, x, rfl⟩, rfl⟩)
    try go_wp2
    refine leaves_cons (f := 156) (args := #[.pointer (some ⟨w.heap.size, 0, none⟩)]) (by simp) (by simp [go_sem]) ?_
    refine (catch_panicking w.heap.size 0 0 0 _ _ _ d0 d1 d2 y0 y1 y2).mono ?_
    rintro e u' w'' ⟨rfl, rfl, rfl⟩
    simp [Leaves, settle, results, Tryz.results127, go_sem, d0, d1, d2]
    exact ⟨rfl, ((HB.out.setCell (Nat.le_refl _) _).setCell (Nat.le_refl _) _).setCell (Nat.le_refl _) _⟩
  · try go_wp2
    refine leaves_cons (f := 156) (args := #[.pointer (some ⟨w.heap.size, 0, none⟩)]) (by simp) (by simp [go_sem]) ?_
    refine (catch_panicking w.heap.size 0 0 0 _ _ _ d0 d1 d2 y0 y1 y2).mono ?_
    rintro e u' w'' ⟨rfl, rfl, rfl⟩
    simp [Leaves, settle, results, Tryz.results127, go_sem, d0, d1, d2]
    exact ⟨rfl, ((HB.out.setCell (Nat.le_refl _) _).setCell (Nat.le_refl _) _).setCell (Nat.le_refl _) _⟩
end FixR
end Go.Proofs.YtcilbmhkhllmjaaGreatDoor
namespace Go.Proofs.YtcilbmhkhllmjaaGreatDoor
open Go.ChangeShapes Go.WideShapes Go.ChangeAt Go.RowKit
set_option linter.unusedVariables false
namespace FixR
theorem w64t (x : Int) (h : -9223372036854775808 ≤ x ∧ x ≤ 9223372036854775807) : wrap64 x = x := by unfold wrap64; omega
/-- The size of a number. -/
def abs (a : Int) : Int := if a < 0 then -a else a
theorem abs_bd (a : Int) (h : In a) (h0 : a ≠ 0) : 1 ≤ abs a ∧ abs a ≤ 1000000000000000 := by unfold abs; unfold In at h; split <;> omega
theorem most_bd (s : Int) (h : 1 ≤ s) : 0 ≤ (1000000000000000 : Int).tdiv s ∧ (1000000000000000 : Int).tdiv s ≤ 1000000000000000 := by
  rw [Int.tdiv_eq_ediv_of_nonneg (by omega)]
  constructor
  · exact Int.ediv_nonneg (by omega) (by omega)
  · apply Int.ediv_le_of_le_mul (by omega)
    have := Int.mul_le_mul_of_nonneg_left h (show (0 : Int) ≤ 1000000000000000 by omega)
    omega
theorem le_most (b s : Int) (h : 1 ≤ s) : b ≤ (1000000000000000 : Int).tdiv s ↔ b * s ≤ 1000000000000000 := by
  rw [Int.tdiv_eq_ediv_of_nonneg (by omega)]
  exact Int.le_ediv_iff_mul_le (by omega)
theorem in_prod (a b : Int) (h0 : a ≠ 0) (ha : In a) : In (a * b) ↔ (-(1000000000000000 : Int).tdiv (abs a) ≤ b ∧ b ≤ (1000000000000000 : Int).tdiv (abs a)) := by
  have h1 := (abs_bd a ha h0).1
  have e1 := le_most b (abs a) h1
  have e2 := le_most (-b) (abs a) h1
  have e3 : -(1000000000000000 : Int).tdiv (abs a) ≤ b ↔ -b ≤ (1000000000000000 : Int).tdiv (abs a) := by omega
  rw [e3, e1, e2]
  unfold In abs
  by_cases h : a < 0
  · rw [if_pos h]
    have f1 : b * -a = -(a * b) := by rw [Int.mul_neg, Int.mul_comm]
    have f2 : -b * -a = a * b := by rw [Int.neg_mul_neg, Int.mul_comm]
    rw [f1, f2]; omega
  · rw [if_neg h]
    have f1 : b * a = a * b := Int.mul_comm _ _
    have f2 : -b * a = -(a * b) := by rw [Int.neg_mul, Int.mul_comm]
    rw [f1, f2]; omega
theorem prod_facts (a b : Int) (h0 : a ≠ 0) (ha : In a) : ∃ s m : Int, s = abs a ∧ (1000000000000000 : Int).tdiv s = m ∧ ¬ s = 0 ∧ wrap64 m = m ∧ wrap64 (-m) = -m ∧ (In (a * b) ↔ (-m ≤ b ∧ b ≤ m)) := by
  have hs := (abs_bd a ha h0).1
  have hm := most_bd _ hs
  refine ⟨_, _, rfl, rfl, ?_, w64t _ ⟨?_, ?_⟩, w64t _ ⟨?_, ?_⟩, in_prod a b h0 ha⟩ <;> omega
theorem sizeOf_any (a : Int) (h : In a) (w : World) :
    Calls Tryz.prog 205 #[.int .i64 a] w fun e w' => e = .returned (.int .i64 (abs a)) ∧ w' = w := by
  have e : wrap64 (-a) = -a := w64t _ (by unfold In at h; omega)
  unfold abs
  clear h
  by_cases h : a < 0
  · rw [if_pos h]
    have h2 : -a > a := by omega
    go_enter Tryz.func205, Tryz.ntmps205
    go_wp2
    go_ret
    refine ⟨ret_int ?_, rfl⟩
    first | rfl | (split <;> omega) | omega
  · rw [if_neg h]
    have h2 : ¬ -a > a := by omega
    go_enter Tryz.func205, Tryz.ntmps205
    go_wp2
    go_ret
    refine ⟨ret_int ?_, rfl⟩
    first | rfl | (split <;> omega) | omega
set_option maxHeartbeats 4000000 in
theorem product_in (a b : Int) (ha : In a) (hb : In b) (hv : In (a * b)) (w : World) :
    Calls Tryz.prog 192 #[.int .i64 a, .int .i64 b] w fun e w' => e = .returned (.int .i64 (a * b)) ∧ w' = w := by
  by_cases h0 : a = 0
  · subst h0
    rw [Int.zero_mul]
    go_enter Tryz.func192, Tryz.ntmps192
    go_wp2
    go_ret
    exact ⟨rfl, rfl⟩
  · have hz : (a == 0) = false := by simpa using h0
    have hq := fun w => sizeOf_any a ha w
    obtain ⟨s, m, hs, ht, hs0, e1, e2, hi⟩ := prod_facts a b h0 ha
    rw [← hs] at hq
    have hd := fun w => held_in b (-m) m (hi.1 hv) w
    have e3 : wrap64 (a * b) = a * b := w64t _ (by unfold In at hv; omega)
    clear hv ha hb hs hi
    go_enter Tryz.func192, Tryz.ntmps192
    go_wp2_with (first | (go_at_call 205; refine (hq _).mono ?_; rintro e w1 ⟨rfl, rfl⟩) | (go_at_call 157; refine (hd _).mono ?_; rintro e w2 ⟨rfl, rfl⟩))
    go_ret
    exact ⟨ret_int e3, rfl⟩
set_option maxHeartbeats 4000000 in
theorem product_over (a b : Int) (ha : In a) (hb : In b) (hv : ¬ In (a * b)) (w : World) (hL : Laid w) :
    Calls Tryz.prog 192 #[.int .i64 a, .int .i64 b] w fun e w' => Thrown e ∧ w' = w := by
  by_cases h0 : a = 0
  · subst h0
    rw [Int.zero_mul] at hv
    exact absurd (show In 0 by unfold In; omega) hv
  · have hz : (a == 0) = false := by simpa using h0
    have hq := fun w => sizeOf_any a ha w
    obtain ⟨s, m, hs, ht, hs0, e1, e2, hi⟩ := prod_facts a b h0 ha
    rw [← hs] at hq
    have hn : b < -m ∨ m < b := by have := mt hi.2 hv; omega
    have hd := held_out b (-m) m hn w hL
    clear hv ha hb hs hL hi hn
    go_enter Tryz.func192, Tryz.ntmps192
    go_wp2_with (first | (go_at_call 205; refine (hq _).mono ?_; rintro e w1 ⟨rfl, rfl⟩) | (go_at_call 157; refine hd.mono ?_; rintro e w2 ⟨⟨u, x, rfl⟩, rfl⟩))
    exact ⟨rfl, ⟨u, x, rfl⟩, rfl⟩
end FixR
end Go.Proofs.YtcilbmhkhllmjaaGreatDoor
namespace Go.Proofs.YtcilbmhkhllmjaaGreatDoor
open Go.ChangeShapes Go.WideShapes Go.ChangeAt Go.RowKit
set_option linter.unusedVariables false
namespace CatR
theorem five (b1 b2 b3 b4 b5 : Bool) : (b1 = false) ∨ (b1 = true ∧ b2 = false) ∨ (b1 = true ∧ b2 = true ∧ b3 = false) ∨ (b1 = true ∧ b2 = true ∧ b3 = true ∧ b4 = false) ∨ (b1 = true ∧ b2 = true ∧ b3 = true ∧ b4 = true) := by
  cases b1 <;> cases b2 <;> cases b3 <;> cases b4 <;> simp
/-- A meter's cells. -/
abbrev meV (n : ByteArray) (g : Int) (wh : Bool) (f l : Int) (ta : Option Addr) (tl tc : Nat) : Value := .agg #[.string n, .int .i64 g, .bool wh, .int .i64 f, .int .i64 l, .slice ta tl tc]
set_option maxRecDepth 100000 in
set_option maxHeartbeats 4000000 in
theorem impl_meter (v : Value) (m : Me) (w : World) (hn : m.n.size ≤ 1048576) (hl : m.ts.length ≤ 1048576) (hM : IsMe v m w) :
    Calls Tryz.prog 122 #[v] w fun e w' => e = .returned (.bool (mB m)) ∧ Below w.heap.size w w' := by
  obtain ⟨ta, tc, rfl, hT⟩ := hM
  rw [mB_eq]
  obtain ⟨n, g, wh, f, l, ts⟩ := m
  simp only at *
  have H1 := hid_intro (fun w => NameR.impl_any n w hn)
  have H2 := hid_intro (fun w => within64 g 1 4 w)
  have H3 := hid_intro (fun w => within64 f 0 1000000000 w)
  have H4 := hid_intro (fun w => within64 l 0 1000000000000 w)
  have H5 : Hid (∀ W, Below w.heap.size w W → Calls Tryz.prog 144 #[.slice ta ts.length tc] W fun e w' => e = .returned (.bool (tB ts)) ∧ Below W.heap.size W w') := hid_intro (fun W hW => impl_tiers ta ts.length tc ts W hl (hT.below hW))
  have HB : Hid (Below w.heap.size w (w.alloc (.cells #[.string n, .int .i64 g, .bool wh, .int .i64 f, .int .i64 l, .slice ta ts.length tc] 117))) := hid_intro ((Below.refl _ _).alloc (Nat.le_refl _) _)
  generalize NameR.nameB n = b1 at *
  generalize decide (1 ≤ g ∧ g ≤ 4) = b2 at *
  generalize decide (0 ≤ f ∧ f ≤ 1000000000) = b3 at *
  generalize decide (0 ≤ l ∧ l ≤ 1000000000000) = b4 at *
  generalize tB ts = b5 at *
  clear hT hn hl
  generalize ts.length = tl at *
  rcases five b1 b2 b3 b4 b5 with rfl | ⟨rfl, rfl⟩ | ⟨rfl, rfl, rfl⟩ | ⟨rfl, rfl, rfl, rfl⟩ | ⟨rfl, rfl, rfl, rfl⟩
  all_goals
    go_enter Tryz.func122, Tryz.ntmps122
    go_wp2_with (first | (go_at_call 42; refine (H1.out _).mono ?_; rintro e w' ⟨rfl, rfl⟩) | (go_at_call_of 66 (Value.int .i64 g); refine (H2.out _).mono ?_; rintro e w' ⟨rfl, rfl⟩) | (go_at_call_of 66 (Value.int .i64 f); refine (H3.out _).mono ?_; rintro e w' ⟨rfl, rfl⟩) | (go_at_call_of 66 (Value.int .i64 l); refine (H4.out _).mono ?_; rintro e w' ⟨rfl, rfl⟩) | (go_at_call 144; refine (H5.out _ HB.out).mono ?_; rintro e w2 ⟨rfl, hb2⟩))
    go_ret
    exact ⟨ret_bool (by simp), by first | exact bel_alloc hb2 | exact HB.out⟩
set_option maxRecDepth 100000 in
set_option maxHeartbeats 4000000 in
theorem spec_meter (v : Value) (m : Me) (w : World) (hn : m.n.size ≤ 1048576) (hl : m.ts.length ≤ 1048576) (hM : IsMe v m w) :
    Calls Tryz.prog 77 #[v] w fun e w' => e = .returned (.bool (mB m)) ∧ Below w.heap.size w w' := by
  obtain ⟨ta, tc, rfl, hT⟩ := hM
  rw [mB_eq]
  obtain ⟨n, g, wh, f, l, ts⟩ := m
  simp only at *
  have H1 := hid_intro (fun w => NameR.spec_any n w hn)
  have H2 := hid_intro (fun w => isS g 1 4 w)
  have H3 := hid_intro (fun w => isS f 0 1000000000 w)
  have H4 := hid_intro (fun w => isS l 0 1000000000000 w)
  have H5 : Hid (∀ W, Below w.heap.size w W → Calls Tryz.prog 112 #[.slice ta ts.length tc] W fun e w' => e = .returned (.bool (tB ts)) ∧ Below W.heap.size W w') := hid_intro (fun W hW => spec_tiers ta ts.length tc ts W hl (hT.below hW))
  have HB : Hid (Below w.heap.size w (w.alloc (.cells #[.string n, .int .i64 g, .bool wh, .int .i64 f, .int .i64 l, .slice ta ts.length tc] 117))) := hid_intro ((Below.refl _ _).alloc (Nat.le_refl _) _)
  generalize NameR.nameB n = b1 at *
  generalize decide (1 ≤ g ∧ g ≤ 4) = b2 at *
  generalize decide (0 ≤ f ∧ f ≤ 1000000000) = b3 at *
  generalize decide (0 ≤ l ∧ l ≤ 1000000000000) = b4 at *
  generalize tB ts = b5 at *
  clear hT hn hl
  generalize ts.length = tl at *
  rcases five b1 b2 b3 b4 b5 with rfl | ⟨rfl, rfl⟩ | ⟨rfl, rfl, rfl⟩ | ⟨rfl, rfl, rfl, rfl⟩ | ⟨rfl, rfl, rfl, rfl⟩
  all_goals
    go_enter Tryz.func77, Tryz.ntmps77
    go_wp2_with (first | (go_at_call 35; refine (H1.out _).mono ?_; rintro e w' ⟨rfl, rfl⟩) | (go_at_call_of 69 (Value.int .i64 g); refine (H2.out _).mono ?_; rintro e w' ⟨rfl, rfl⟩) | (go_at_call_of 69 (Value.int .i64 f); refine (H3.out _).mono ?_; rintro e w' ⟨rfl, rfl⟩) | (go_at_call_of 69 (Value.int .i64 l); refine (H4.out _).mono ?_; rintro e w' ⟨rfl, rfl⟩) | (go_at_call 112; refine (H5.out _ HB.out).mono ?_; rintro e w2 ⟨rfl, hb2⟩))
    go_ret
    exact ⟨ret_bool (by simp), by first | exact bel_alloc hb2 | exact HB.out⟩
end CatR
end Go.Proofs.YtcilbmhkhllmjaaGreatDoor
namespace Go.Proofs.YtcilbmhkhllmjaaGreatDoor
open Go.ChangeShapes Go.WideShapes Go.ChangeAt Go.RowKit
set_option linter.unusedVariables false
namespace CatR
open ClampR (clamp)
open FixR (In Thrown product_in product_over out)
theorem in_small {a : Int} (h : 0 ≤ a ∧ a ≤ 1000000000000) : In a := by unfold In; omega
theorem part_w {a b : Int} (h : -9000000000000000000 ≤ a - b ∧ a - b ≤ 9000000000000000000) : wrap64 (a - b) = a - b := by unfold wrap64; omega
theorem sum_w {a b : Int} (h : 0 ≤ a + b ∧ a + b ≤ 9000000000000000000) : wrap64 (a + b) = a + b := by unfold wrap64; omega
/-- What comes of a reckoning that may run over. -/
def May (v : Int) (e : Ending) : Prop := e = .returned (.int .i64 v) ∨ (Thrown e ∧ 1000000000000000 < v)
set_option maxRecDepth 100000 in
set_option maxHeartbeats 4000000 in
theorem impl_parts (v : Value) (m : Me) (n : Int) (w : World) (hL : FixR.Laid w) (hR : TRight m.ts) (hn : 0 ≤ n ∧ n ≤ 1000000000000) (hM : IsMe v m w) :
    Calls Tryz.prog 159 #[v, .int .i64 n] w fun e w' => May (ps m.ts n m.ts.length) e ∧ Below w.heap.size w w' := by
  obtain ⟨ta, tc, rfl, hT⟩ := hM
  have HB0 : Hid (Below w.heap.size w (w.alloc (.cells #[.string m.n, .int .i64 m.g, .bool m.wh, .int .i64 m.f, .int .i64 m.l, .slice ta m.ts.length tc] 136))) := hid_intro ((Below.refl _ _).alloc (Nat.le_refl _) _)
  have HT := hid_intro hT
  have HL := hid_intro hL
  have HR := hid_intro hR
  have HN := hid_intro hn
  obtain ⟨nm, g, wh, f, l, ts⟩ := m
  simp only at *
  have hz := hT.1
  obtain ⟨len, hl⟩ : ∃ len, len = ts.length := ⟨_, rfl⟩
  have HZ := hid_intro hl
  rw [← hl] at HT HB0 ⊢
  have h5 : len ≤ 5 := by have := hR.2.1; omega
  clear hT hL hR hn hz hl
  go_enter Tryz.func159, Tryz.ntmps159
  go_wp2_with fail
  go_loopw [5, 6, 13] (fun x y z wr => ∃ k : Nat, k ≤ len ∧ x = .int .i64 (ps ts n k) ∧ y = .int .i64 (tA ts k) ∧ z = .int .i64 k ∧ Hid (Below w.heap.size w wr)) (fun x y z _ => len - (intOf z).toNat)
  case atStart => exact ⟨0, by omega, rfl, rfl, rfl, HB0⟩
  case round =>
    obtain ⟨k, hk, rfl, rfl, rfl, HB⟩ := hrel
    by_cases hlt : k < len
    · have hlt2 : (k : Int) < (len : Int) := by omega
      obtain ⟨b, off, rfl, hbl, d0, d1⟩ := tis_at (HT.out.below HB.out) k hlt
      have c0 : wr.cell? ⟨b, off + k * 2, none⟩ = some (.int .i64 (tU ts k)) := d0
      have c1 : wr.cell? ⟨b, off + k * 2 + 1, none⟩ = some (.int .i64 (tP ts k)) := d1
      clear d0 d1
      have HK : Hid (k < ts.length) := hid_intro (by have := HZ.out; omega)
      have HPB := hid_intro (part_bd HR.out HN.out.1 k HK.out)
      have HCL := hid_intro (fun w => ClampR.impl_any n (tA ts k) (tU ts k) w)
      have hw1 : wrap64 (clamp n (tA ts k) (tU ts k) - tA ts k) = part ts n k := by
        have := HPB.out
        unfold part at *
        exact part_w (by omega)
      have HS1 : Hid (ps ts n (k + 1) = ps ts n k + part ts n k * tP ts k) := rfl
      have HSB := hid_intro (ps_all HR.out HN.out (k + 1) HK.out)
      have HSM := hid_intro (ps_mono HR.out HN.out.1 ts.length (k + 1) (Nat.le_refl _) HK.out)
      have HPI := hid_intro (product_in (part ts n k) (tP ts k) (in_small ⟨HPB.out.1, HPB.out.2.1⟩) (in_small (by have := pr_bd HR.out k HK.out; omega)))
      have HPO := hid_intro (fun w => product_over (part ts n k) (tP ts k) (in_small ⟨HPB.out.1, HPB.out.2.1⟩) (in_small (by have := pr_bd HR.out k HK.out; omega)) (w := w))
      have HPS := hid_intro (ps_all HR.out HN.out k (by have := HK.out; omega)).1
      have HPP := hid_intro (mul_bd HPB.out.1 (pr_bd HR.out k HK.out)).1
      have HUA : Hid (tA ts (k + 1) = tU ts k) := rfl
      have hw2 : wrap64 (ps ts n k + part ts n k * tP ts k) = ps ts n (k + 1) := by
        rw [HS1.out] at HSB ⊢
        exact sum_w (by have := HSB.out; omega)
      have HIN : Hid (In (part ts n k * tP ts k) ∨ ¬ In (part ts n k * tP ts k)) := hid_intro (by unfold In; omega)
      have HOV : Hid (¬ In (part ts n k * tP ts k) → 1000000000000000 < ps ts n ts.length) := hid_intro (fun h => by
        have := HS1.out; have := HSM.out; have := HPS.out; have := HPP.out
        unfold In at h
        omega)
      generalize part ts n k * tP ts k = V at *
      generalize part ts n k = Q at *
      generalize clamp n (tA ts k) (tU ts k) = C at *
      obtain ⟨S1, hS1⟩ : ∃ S1, S1 = ps ts n (k + 1) := ⟨_, rfl⟩
      rw [← hS1] at hw2
      have HS2 := hid_intro hS1
      clear hS1
      generalize ps ts n k = S0 at *
      generalize tA ts k = A at *
      generalize tU ts k = U at *
      generalize tP ts k = P at *
      rw [← HZ.out] at HOV
      have HAl := hid_intro (fun o => HB.out.alloc HB.out.size o)
      have HLA := hid_intro (fun o => HL.out.below (HAl.out o))
      clear HPB HSB HSM HPS HPP HS1
      rcases HIN.out with hin | hin
      · have HPX := hid_intro (fun w => HPI.out hin w)
        go_wp2_with (first | (go_at_call 67; refine (HCL.out _).mono ?_; rintro e w3 ⟨rfl, rfl⟩) | (go_at_call 192; refine (HPX.out _).mono ?_; rintro e w3 ⟨rfl, rfl⟩))
        go_roundw
        case rel => exact ⟨k + 1, by omega, by rw [← HS2.out]; first | rfl | rw [hw2], by rw [HUA.out], by go_num, hid_intro (HAl.out _)⟩
        case measure => simp [intOf]; omega
      · have HPX := hid_intro (fun w hl => HPO.out w hin hl)
        have HF := hid_intro (HOV.out hin)
        go_wp2_with (first | (go_at_call 67; refine (HCL.out _).mono ?_; rintro e w3 ⟨rfl, rfl⟩) | (go_at_call 192; refine (HPX.out _ (HLA.out _)).mono ?_; rintro e w3 ⟨⟨u, x, rfl⟩, rfl⟩))
        exact ⟨rfl, .inr ⟨⟨u, x, rfl⟩, HF.out⟩, HAl.out _⟩
    · have hlt2 : ¬ (k : Int) < (len : Int) := by omega
      obtain rfl : k = len := by omega
      go_wp2_with fail
      go_ret
      exact ⟨.inl rfl, HB.out⟩
theorem lss_no {a b : Int} (h : b ≤ a) : ¬ a < b := by omega
set_option maxRecDepth 100000 in
set_option maxHeartbeats 4000000 in
theorem impl_one (v : Value) (m : Me) (n : Int) (w : World) (hL : FixR.Laid w) (hR : TRight m.ts) (hn : 0 ≤ n ∧ n ≤ 1000000000000) (hM : IsMe v m w) :
    Calls Tryz.prog 158 #[v, .int .i64 n] w fun e w' => May (wc m.ts n) e ∧ Below w.heap.size w w' := by
  obtain ⟨ta, tc, rfl, hT⟩ := hM
  obtain ⟨nm, g, wh, f, l, ts⟩ := m
  simp only at *
  have HB0 : Hid (Below w.heap.size w (w.alloc (.cells #[.string nm, .int .i64 g, .bool wh, .int .i64 f, .int .i64 l, .slice ta ts.length tc] 136))) := hid_intro ((Below.refl _ _).alloc (Nat.le_refl _) _)
  have HK0 : Hid (Blk w.heap.size [.string nm, .int .i64 g, .bool wh, .int .i64 f, .int .i64 l, .slice ta ts.length tc] (w.alloc (.cells #[.string nm, .int .i64 g, .bool wh, .int .i64 f, .int .i64 l, .slice ta ts.length tc] 136))) := hid_intro (Blk.new w _ _)
  have HT := hid_intro hT
  have HL := hid_intro hL
  have HR := hid_intro hR
  have HN := hid_intro hn
  have hz := hT.1
  obtain ⟨len, hl⟩ : ∃ len, len = ts.length := ⟨_, rfl⟩
  have HZ := hid_intro hl
  rw [← hl] at HT HB0 HK0 ⊢
  have h5 : len ≤ 5 := by have := hR.2.1; omega
  have h1 : 1 ≤ len := by have := hR.1; omega
  clear hT hL hR hn hz hl
  go_enter Tryz.func158, Tryz.ntmps158
  go_wp2_with fail
  go_loopw [5] (fun z wr => ∃ k : Nat, k < len ∧ z = .int .i64 k ∧ Hid (∀ i, i < k → tU ts i < n) ∧ Hid (Below w.heap.size w wr) ∧ Hid (Blk w.heap.size [.string nm, .int .i64 g, .bool wh, .int .i64 f, .int .i64 l, .slice ta len tc] wr)) (fun z _ => len - (intOf z).toNat)
  case atStart => exact ⟨0, by omega, rfl, hid_intro (fun i hi => absurd hi (by omega)), HB0, HK0⟩
  case round =>
    obtain ⟨k, hlt, rfl, HA, HB, HK⟩ := hrel
    have hlt2 : (k : Int) < (len : Int) := by omega
    obtain ⟨b, off, rfl, hbl, d0, d1⟩ := tis_at (HT.out.below HB.out) k hlt
    have c0 : wr.cell? ⟨b, off + k * 2, none⟩ = some (.int .i64 (tU ts k)) := d0
    have c1 : wr.cell? ⟨b, off + k * 2 + 1, none⟩ = some (.int .i64 (tP ts k)) := d1
    have c5 : wr.cell? ⟨w.heap.size, 5, none⟩ = some (.slice (some ⟨b, off, none⟩) len tc) := HK.out.2 5 (by simp)
    have hbl5 := HK.out.1
    clear d0 d1
    by_cases hq : tU ts k < n
    · have HA1 : Hid (∀ i, i < k + 1 → tU ts i < n) := hid_intro (fun i hi => by
        by_cases e : i = k
        · subst e; exact hq
        · exact HA.out i (by omega))
      have HK1 : Hid (k + 1 < len) := hid_intro (by have := not_all HR.out HN.out.2 (k := k + 1) (by have := HZ.out; omega) HA1.out; have := HZ.out; omega)
      generalize tU ts k = U at *
      go_wp2_with fail
      go_roundw
      case rel => exact ⟨k + 1, HK1.out, by go_num, HA1, HB, HK⟩
      case measure => simp [intOf]; omega
    · have HW := hid_intro (wc_at (ts := ts) (n := n) (k := k) ⟨by have := HZ.out; omega, HA.out, by omega⟩)
      have HP := hid_intro (pr_bd HR.out k (by have := HZ.out; omega))
      have HPI := hid_intro (product_in n (tP ts k) (in_small HN.out) (in_small (by have := HP.out; omega)))
      have HPO := hid_intro (fun w => product_over n (tP ts k) (in_small HN.out) (in_small (by have := HP.out; omega)) (w := w))
      have HIN : Hid (In (n * tP ts k) ∨ ¬ In (n * tP ts k)) := hid_intro (by unfold In; omega)
      have HOV : Hid (¬ In (n * tP ts k) → 1000000000000000 < wc ts n) := hid_intro (fun h => by
        have := (mul_bd HN.out.1 HP.out).1
        rw [HW.out]
        unfold In at h
        omega)
      have HL1 := hid_intro (HL.out.below HB.out)
      generalize n * tP ts k = V at *
      generalize tU ts k = U at *
      generalize tP ts k = P at *
      rcases HIN.out with hin | hin
      · have HPX := hid_intro (fun w => HPI.out hin w)
        go_wp2_with (go_at_call 192; refine (HPX.out _).mono ?_; rintro e w3 ⟨rfl, rfl⟩)
        go_ret
        exact ⟨.inl (ret_int HW.out.symm), HB.out⟩
      · have HPX := hid_intro (fun w hl => HPO.out w hin hl)
        have HF := hid_intro (HOV.out hin)
        go_wp2_with (go_at_call 192; refine (HPX.out _ HL1.out).mono ?_; rintro e w3 ⟨⟨u, x, rfl⟩, rfl⟩)
        exact ⟨rfl, .inr ⟨⟨u, x, rfl⟩, HF.out⟩, HB.out⟩
theorem used_w {a b : Int} (ha : 0 ≤ a ∧ a ≤ 1000000000000) (hb : 0 ≤ b ∧ b ≤ 1000000000) : wrap64 (a - b) = a - b := by unfold wrap64; omega
theorem mx_cases (a b : Int) : (a < b ∧ ¬ b < a ∧ ¬ b ≤ a ∧ mx a b = b) ∨ (¬ a < b ∧ b ≤ a ∧ mx a b = a) := by
  unfold mx
  by_cases h : a < b
  · exact .inl ⟨h, by omega, by omega, if_pos h⟩
  · exact .inr ⟨h, by omega, if_neg h⟩
set_option maxRecDepth 100000 in
set_option maxHeartbeats 4000000 in
theorem impl_micros (v : Value) (m : Me) (u : Int) (w : World) (hL : FixR.Laid w) (hR : MRight m) (hu : 0 ≤ u ∧ u ≤ 1000000000000) (hM : IsMe v m w) :
    Calls Tryz.prog 129 #[v, .int .i64 u] w fun e w' => May (rt m u) e ∧ Below w.heap.size w w' := by
  obtain ⟨ta, tc, rfl, hT⟩ := hM
  have HAB := hid_intro (amt_bd hR.2.2.1 hu)
  have HRB := hid_intro (rt_bd hR hu)
  have H1 : Hid (∀ W, Below w.heap.size w W → Calls Tryz.prog 158 #[.agg #[.string m.n, .int .i64 m.g, .bool m.wh, .int .i64 m.f, .int .i64 m.l, .slice ta m.ts.length tc], .int .i64 (amt m u)] W fun e w' => May (wc m.ts (amt m u)) e ∧ Below W.heap.size W w') := hid_intro (fun W hW => impl_one _ m _ W (hL.below hW) hR.2.2.2.2 HAB.out ⟨ta, tc, rfl, hT.below hW⟩)
  have H2 : Hid (∀ W, Below w.heap.size w W → Calls Tryz.prog 159 #[.agg #[.string m.n, .int .i64 m.g, .bool m.wh, .int .i64 m.f, .int .i64 m.l, .slice ta m.ts.length tc], .int .i64 (amt m u)] W fun e w' => May (ps m.ts (amt m u) m.ts.length) e ∧ Below W.heap.size W w') := hid_intro (fun W hW => impl_parts _ m _ W (hL.below hW) hR.2.2.2.2 HAB.out ⟨ta, tc, rfl, hT.below hW⟩)
  have hw := used_w hu hR.2.2.1
  have hmx := mx_cases (u - m.f) 0
  have HRT : Hid (rt m u = if 0 < u then mx (bs m u) m.l else bs m u) := rfl
  have HBS : Hid (bs m u = bif m.wh then wc m.ts (amt m u) else ps m.ts (amt m u) m.ts.length) := rfl
  have HAM : Hid (amt m u = mx (u - m.f) 0) := rfl
  have HB0 : Hid (Below w.heap.size w (w.alloc (.cells #[.string m.n, .int .i64 m.g, .bool m.wh, .int .i64 m.f, .int .i64 m.l, .slice ta m.ts.length tc] 136))) := hid_intro ((Below.refl _ _).alloc (Nat.le_refl _) _)
  generalize rt m u = R at *
  generalize bs m u = B at *
  obtain ⟨nm, g, wh, f, l, ts⟩ := m
  simp only at *
  generalize amt ⟨nm, g, wh, f, l, ts⟩ u = N at *
  generalize mx (u - f) 0 = N2 at *
  generalize wc ts N = WC at *
  generalize ps ts N ts.length = PC at *
  generalize ts.length = tl at *
  obtain ⟨X, hX⟩ : ∃ X, X = u - f := ⟨_, rfl⟩
  rw [← hX] at hmx hw
  have hw : wrap64 (u - f) = X := by rw [← hX]; exact hw
  clear hT hL hR hu hX
  have HK0 : Hid (Blk w.heap.size [.string nm, .int .i64 g, .bool wh, .int .i64 f, .int .i64 l, .slice ta tl tc] (w.alloc (.cells #[.string nm, .int .i64 g, .bool wh, .int .i64 f, .int .i64 l, .slice ta tl tc] 136))) := hid_intro (Blk.new w _ _)
  cases wh
  · obtain rfl : B = PC := HBS.out
    rcases hmx with ⟨m1, m2, m3, m4⟩ | ⟨m1, m2, m4⟩
    all_goals
      obtain rfl := HAM.out
      subst m4
      go_enter Tryz.func129, Tryz.ntmps129
      go_wp2_with fail
      refine (H2.out _ HB0.out).mono ?_
      rintro e w1 ⟨hm, hb1⟩
      have HK1 := hid_intro (HK0.out.below hb1)
      have HB1 := hid_intro (HB0.out.trans (hb1.mono HB0.out.size))
      have hl1 := HK1.out.1
      have c4 : w1.cell? ⟨w.heap.size, 4, none⟩ = some (.int .i64 l) := HK1.out.2 4 (by simp)
      clear hb1
      rcases hm with rfl | ⟨⟨t, x, rfl⟩, hov⟩
      · by_cases hu0 : 0 < u
        · rw [if_pos hu0] at HRT
          rcases mx_cases B l with ⟨q1, q2, q3, q4⟩ | ⟨q1, q2, q4⟩
          all_goals
            rw [q4] at HRT
            go_wp2_with fail
            go_ret
            exact ⟨.inl (ret_int HRT.out.symm), HB1.out⟩
        · rw [if_neg hu0] at HRT
          go_wp2_with fail
          go_ret
          exact ⟨.inl (ret_int HRT.out.symm), HB1.out⟩
      · have HF : Hid (1000000000000000 < R) := hid_intro (by have := HRB.out.2.2; omega)
        try go_wp2_with fail
        exact ⟨rfl, .inr ⟨⟨t, x, rfl⟩, HF.out⟩, HB1.out⟩
  · obtain rfl : B = WC := HBS.out
    rcases hmx with ⟨m1, m2, m3, m4⟩ | ⟨m1, m2, m4⟩
    all_goals
      obtain rfl := HAM.out
      subst m4
      go_enter Tryz.func129, Tryz.ntmps129
      go_wp2_with fail
      refine (H1.out _ HB0.out).mono ?_
      rintro e w1 ⟨hm, hb1⟩
      have HK1 := hid_intro (HK0.out.below hb1)
      have HB1 := hid_intro (HB0.out.trans (hb1.mono HB0.out.size))
      have hl1 := HK1.out.1
      have c4 : w1.cell? ⟨w.heap.size, 4, none⟩ = some (.int .i64 l) := HK1.out.2 4 (by simp)
      clear hb1
      rcases hm with rfl | ⟨⟨t, x, rfl⟩, hov⟩
      · by_cases hu0 : 0 < u
        · rw [if_pos hu0] at HRT
          rcases mx_cases B l with ⟨q1, q2, q3, q4⟩ | ⟨q1, q2, q4⟩
          all_goals
            rw [q4] at HRT
            go_wp2_with fail
            go_ret
            exact ⟨.inl (ret_int HRT.out.symm), HB1.out⟩
        · rw [if_neg hu0] at HRT
          go_wp2_with fail
          go_ret
          exact ⟨.inl (ret_int HRT.out.symm), HB1.out⟩
      · have HF : Hid (1000000000000000 < R) := hid_intro (by have := HRB.out.2.2; omega)
        try go_wp2_with fail
        exact ⟨rfl, .inr ⟨⟨t, x, rfl⟩, HF.out⟩, HB1.out⟩
end CatR
end Go.Proofs.YtcilbmhkhllmjaaGreatDoor
namespace Go.Proofs.YtcilbmhkhllmjaaGreatDoor
open Go.ChangeShapes Go.WideShapes Go.ChangeAt Go.RowKit
set_option linter.unusedVariables false
namespace CatR
open FixR (In Thrown out reckoned_ok reckoned_over)
theorem rO_in {m : Me} {u : Int} (h : rt m u ≤ 1000000000000000) : rO m u = (rt m u, 0) := if_pos h
theorem rO_over {m : Me} {u : Int} (h : ¬ rt m u ≤ 1000000000000000) : rO m u = (0, 12) := if_neg h
set_option maxRecDepth 100000 in
set_option maxHeartbeats 4000000 in
theorem one_call (v : Value) (m : Me) (u : Int) (p q : Nat) (w : World) (hL : FixR.Laid w) (hR : MRight m) (hu : 0 ≤ u ∧ u ≤ 1000000000000) (hM : IsMe v m w) (hv : ∃ cs : List Value, v = .agg cs.toArray ∧ cs.length = 6 ∧ Blk p cs w) (hq : w.cell? ⟨q, 0, none⟩ = some (.int .i64 u)) (hql : q < w.heap.size) :
    Calls Tryz.prog 128 #[.pointer (some ⟨p, 0, none⟩), .pointer (some ⟨q, 0, none⟩)] w fun e w' => May (rt m u) e ∧ Below w.heap.size w w' := by
  have H := hid_intro (impl_micros v m u w hL hR hu hM)
  obtain ⟨ta, tc, rfl, hT⟩ := hM
  obtain ⟨cs, hcs, hlen, hB⟩ := hv
  obtain rfl : cs = [.string m.n, .int .i64 m.g, .bool m.wh, .int .i64 m.f, .int .i64 m.l, .slice ta m.ts.length tc] := by
    have := congrArg (fun v => match v with | .agg a => a.toList | _ => []) hcs
    simpa using this.symm
  have hl := hB.1
  have c0 : w.cell? ⟨p, 0, none⟩ = some (.string m.n) := hB.2 0 (by simp)
  have c1 : w.cell? ⟨p, 1, none⟩ = some (.int .i64 m.g) := hB.2 1 (by simp)
  have c2 : w.cell? ⟨p, 2, none⟩ = some (.bool m.wh) := hB.2 2 (by simp)
  have c3 : w.cell? ⟨p, 3, none⟩ = some (.int .i64 m.f) := hB.2 3 (by simp)
  have c4 : w.cell? ⟨p, 4, none⟩ = some (.int .i64 m.l) := hB.2 4 (by simp)
  have c5 : w.cell? ⟨p, 5, none⟩ = some (.slice ta m.ts.length tc) := hB.2 5 (by simp)
  clear hT hL hR hu hcs hlen hB
  generalize rt m u = R at *
  obtain ⟨nm, g, wh, f, l, ts⟩ := m
  simp only at *
  generalize ts.length = tl at *
  go_enter Tryz.func128, Tryz.ntmps128
  go_wp2_with fail
  refine (H.out).mono ?_
  rintro e w1 ⟨hm, hb1⟩
  have HB := hid_intro hb1
  clear hb1
  rcases hm with rfl | ⟨⟨t, x, rfl⟩, hov⟩
  · go_wp2_with fail
    go_ret
    exact ⟨.inl rfl, HB.out⟩
  · try go_wp2_with fail
    exact ⟨rfl, .inr ⟨⟨t, x, rfl⟩, hov⟩, HB.out⟩
set_option maxRecDepth 100000 in
set_option maxHeartbeats 4000000 in
theorem impl_rate (v : Value) (m : Me) (u : Int) (w : World) (hL : FixR.Laid w) (hR : MRight m) (hu : 0 ≤ u ∧ u ≤ 1000000000000) (hM : IsMe v m w) :
    Calls Tryz.prog 95 #[v, .int .i64 u] w fun e w' => e = .returned (out (rO m u).1 (rO m u).2) ∧ Below w.heap.size w w' := by
  have HRB := hid_intro (rt_bd hR hu)
  have HM0 := hid_intro hM
  obtain ⟨ta, tc, rfl, hT⟩ := hM
  have hmf : ∀ (fn : Fn) (first cap : Array Value) (w : World), (Instr.makeFunc fn first cap).run Tryz.prog w = .ok (.func fn first cap) w := fun _ _ _ _ => rfl
  obtain ⟨W, hW⟩ : ∃ W, W = ((w.alloc (Obj.cells #[.string m.n, .int .i64 m.g, .bool m.wh, .int .i64 m.f, .int .i64 m.l, .slice ta m.ts.length tc] 136)).alloc (Obj.cells #[.int .i64 u] 2)).alloc (Obj.cells #[.int .i64 0, .int .i64 0, .int .i64 0] 125) := ⟨_, rfl⟩
  have hsz : W.heap.size = w.heap.size + 3 := by rw [hW]; simp
  have hb1 : Below w.heap.size w W := by rw [hW]; exact (((Below.refl _ _).alloc (by simp; try omega) _).alloc (by simp; try omega) _).alloc (by simp; try omega) _
  have hB : Blk w.heap.size [.string m.n, .int .i64 m.g, .bool m.wh, .int .i64 m.f, .int .i64 m.l, .slice ta m.ts.length tc] W := by rw [hW]; exact ((Blk.new w _ _).alloc _).alloc _
  have p1 : W.cell? ⟨w.heap.size + 1, 0, none⟩ = some (.int .i64 u) := by rw [hW]; simp [go_sem]
  have c0 : W.cell? ⟨w.heap.size + 1 + 1, 0, none⟩ = some (.int .i64 0) := by rw [hW]; simp [go_sem]
  have z0 : W.frozen? ⟨w.heap.size + 1 + 1, 0, none⟩ = false := by rw [hW]; simp [go_sem]
  have c1 : W.cell? ⟨w.heap.size + 1 + 1, 1, none⟩ = some (.int .i64 0) := by rw [hW]; simp [go_sem]
  have z1 : W.frozen? ⟨w.heap.size + 1 + 1, 1, none⟩ = false := by rw [hW]; simp [go_sem]
  have c2 : W.cell? ⟨w.heap.size + 1 + 1, 2, none⟩ = some (.int .i64 0) := by rw [hW]; simp [go_sem]
  have z2 : W.frozen? ⟨w.heap.size + 1 + 1, 2, none⟩ = false := by rw [hW]; simp [go_sem]
  have hf : ∀ w1, Below W.heap.size W w1 → Calls Tryz.prog 128 #[.pointer (some ⟨w.heap.size, 0, none⟩), .pointer (some ⟨w.heap.size + 1, 0, none⟩)] w1 fun e w2 => May (rt m u) e ∧ Below w1.heap.size w1 w2 := by
    intro w1 hb
    have q1 := hb.cell (p := ⟨w.heap.size + 1, 0, none⟩) (by simp only; omega)
    rw [p1] at q1
    exact one_call _ m u _ _ w1 ((hL.below hb1).below hb) hR hu (HM0.out.below (hb1.trans (hb.mono (by omega)))) ⟨_, rfl, rfl, hB.below hb⟩ q1 (by have := hb.size; omega)
  have he : ∀ args w, (callFunc 128 args).run Tryz.prog w = .ok (.enter 128 args) w := fun args w => by simp [go_sem]
  have hr : Calls Tryz.prog 127 #[.func (.func 128) #[] #[.pointer (some ⟨w.heap.size, 0, none⟩), .pointer (some ⟨w.heap.size + 1, 0, none⟩)]] W fun e w' => e = .returned (out (rO m u).1 (rO m u).2) ∧ Below W.heap.size W w' := by
    by_cases hin : rt m u ≤ 1000000000000000
    · rw [rO_in hin]
      refine reckoned_ok 128 _ _ (by unfold In; have := HRB.out; omega) W (fun w1 hb => (hf w1 hb).mono fun e w2 h => ⟨?_, h.2⟩) he
      rcases h.1 with h1 | ⟨_, h1⟩
      · exact h1
      · omega
    · rw [rO_over hin]
      refine reckoned_over 128 _ W (hL.below hb1) (fun w1 hb => (hf w1 hb).mono fun e w2 h => ⟨?_, h.2⟩) he
      rcases h.1 with h1 | ⟨h1, _⟩
      · exact .inl ⟨_, h1, by unfold In; omega⟩
      · exact .inr h1
  have HW := hid_intro hW
  have HB1 := hid_intro hb1
  clear hf he hW hb1 hL p1 hB HM0 hR hu HRB hT
  generalize (rO m u).1 = V at *
  generalize (rO m u).2 = C at *
  obtain ⟨nm, g, wh, f, l, ts⟩ := m
  simp only at *
  generalize ts.length = tl at *
  go_enter Tryz.func95, Tryz.ntmps95
  go_wp2_with fail
  rw [← HW.out]
  refine hr.mono ?_
  rintro e w2 ⟨rfl, hb⟩
  have d0 := hb.cell (p := ⟨w.heap.size + 1 + 1, 0, none⟩) (by simp only; omega)
  have y0 := hb.frozen (p := ⟨w.heap.size + 1 + 1, 0, none⟩) (by simp only; omega)
  rw [c0] at d0; rw [z0] at y0
  have d1 := hb.cell (p := ⟨w.heap.size + 1 + 1, 1, none⟩) (by simp only; omega)
  have y1 := hb.frozen (p := ⟨w.heap.size + 1 + 1, 1, none⟩) (by simp only; omega)
  rw [c1] at d1; rw [z1] at y1
  have d2 := hb.cell (p := ⟨w.heap.size + 1 + 1, 2, none⟩) (by simp only; omega)
  have y2 := hb.frozen (p := ⟨w.heap.size + 1 + 1, 2, none⟩) (by simp only; omega)
  rw [c2] at d2; rw [z2] at y2
  have HB := hid_intro (HB1.out.trans (hb.mono (by omega)))
  clear hb c0 c1 c2 z0 z1 z2 hr HW HB1 hmf
  unfold out
  go_wp2
  refine bodyPost_ret (v := out V C) (by simp [out, results, Tryz.results95, go_sem, d0, d1, d2]) rfl ⟨rfl, ?_⟩
  exact ((HB.out.setCell (by simp only; omega) _).setCell (by simp only; omega) _).setCell (by simp only; omega) _
end CatR
end Go.Proofs.YtcilbmhkhllmjaaGreatDoor
namespace Go.Proofs.YtcilbmhkhllmjaaGreatDoor
open Go.ChangeShapes Go.WideShapes Go.ChangeAt Go.RowKit
set_option linter.unusedVariables false
namespace RowG
section
variable {P : Program}
theorem run_copy_k (k : Nat) (w : World) (dT sT ty elem : TypeId) (g o dLen dCap : Nat) (a : Addr) (sLen sCap : Nat) (cur : Array Value) (t : TypeId) (cs : List Value)
    (hu : P.underlying dT = some (.slice elem)) (hs : (P.info? elem).map (·.size) = some k)
    (hg : w.heap[g]? = some (.cells cur t (0, 0))) (hn : cs.length = Nat.min sLen dLen * k)
    (hsrc : ∀ j v, cs[j]? = some v → w.cell? (a.add j) = some v) (hfit : o + cs.length ≤ cur.size) (h1 : ∀ v ∈ cs, v.oneCell' = true) :
    (Builtin.copy_ #[dT, sT] ty #[.slice (some ⟨g, o, none⟩) dLen dCap, .slice (some a) sLen sCap]).run P w =
      .ok (goInt (Nat.min sLen dLen)) (w.setRow g (cur.toList.take o ++ (cs ++ cur.toList.drop (o + cs.length))).toArray) := by
  have hl := run_loadCells_list (P := P) w a cs hsrc
  have hst := run_storeCells_at P g o t cs 0 cur w hg (by simpa using hfit) h1
  cases hq : P.info? elem with
  | none => simp [hq] at hs
  | some i =>
    have hi : i.size = k := by simpa [hq] using hs
    simp [Builtin.copy_, run_underlying hu, Builtin.lenOf, Builtin.firstCells, sizeOf, typeInfo, hq, hi, ← hn, hl, hst]
theorem wpList_copy_eq (w : World) {ops : Array Oper} {rest : List Oper} {o : Oper} {a : Act} {Q : Exit → Act → World → Prop} (hgd : o.guard = none) (d s : Operand) (t t' : TypeId)
    (ho : o.op = .call { callee := .builtin .copy, args := #[d, s], argTypes := #[t, t'] }) (v u : Value) (hd : a.eval d = v) (hs : a.eval s = u) {v' : Value} {w' : World}
    (hr : (Builtin.copy_ #[t, t'] o.type #[v, u]).run P w = .ok v' w') (h : wpList P ops Q rest (a.put o.dst v') w') : wpList P ops Q (o :: rest) a w := by
  refine wpList_plain hgd fun K hK => ?_
  unfold Oper.wp
  simp [execOp, ho, resolve, invoke, builtin, hd, hs, hr, Result.andThen]
  exact hK _ _ h
theorem step_copy_eq {ops : Array Oper} {o : Oper} {a : Act} {w : World} {K : Act → World → Prop} {Q : Exit → Act → World → Prop} {E : Prop}
    (hg : o.guard = none) (d x : Operand) (dT sT : TypeId) (hop : o.op = Op.call { callee := Callee.builtin Builtin.copy, args := #[d, x], argTypes := #[dT, sT] })
    (v u : Value) (hd : a.eval d = v) (hx : a.eval x = u) {v' : Value} {w' : World} (hr : (Builtin.copy_ #[dT, sT] o.type #[v, u]).run P w = .ok v' w') (hK : K (a.put o.dst v') w') :
    if Region.wanted o (yielded ops a.tmps) = true then Oper.wp P o a w K Q else E := by
  have hw : Region.wanted o (yielded ops a.tmps) = true := by simp [Region.wanted, hg]
  rw [if_pos hw]
  unfold Oper.wp
  simp [execOp, hop, resolve, invoke, builtin, hd, hx, hr, Result.andThen]
  exact hK
end
end RowG
end Go.Proofs.YtcilbmhkhllmjaaGreatDoor
