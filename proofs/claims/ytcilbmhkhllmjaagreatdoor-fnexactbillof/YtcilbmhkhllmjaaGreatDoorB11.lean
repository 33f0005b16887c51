/-
  A window as the program works with it, and what it calls right. The conditions: texts of at most 1048576 bytes, lists of at most 1048576; the program's table stands in its variable.
  What the program calls a right window. The conditions: texts of at most 1048576 bytes, lists of at most 1048576; the program's table stands in its variable.
  What the model calls a window's right tags. The conditions: at most 1048576 tags of at most 1048576 bytes.
  A region that draws its order, in a class of worlds that all hold some facts: one walk of the order of the text serves. No condition.
-/
import Derived.Laws.EntriesVeiled
import Derived.BigQuiet
import Derived.Deep.QuietTactic
import Derived.Test.YtcilbmhkhllmjaaGreatDoorB10
namespace Go.Proofs.YtcilbmhkhllmjaaGreatDoor
open Go.ChangeShapes Go.WideShapes Go.ChangeAt Go.RowKit
set_option linter.unusedVariables false
namespace WinR
open RowG LtR
open CatR (Blk Blk.new)
open DateR (Laid)
open EvtR (Pt)
theorem impl_rtags (ta : Option Addr) (tl tc : Nat) (w : World) :
    Calls Tryz.prog 145 #[.slice ta tl tc] w fun e w' => e = .returned (.agg #[.slice ta tl tc, .func (.func 183) #[] #[], .func (.func 184) #[] #[]]) ∧ Below w.heap.size w w' := by
  go_enter Tryz.func145, Tryz.ntmps145
  go_wp2_with fail
  refine bodyPost_ret (v := .agg #[.slice ta tl tc, .func (.func 183) #[] #[], .func (.func 184) #[] #[]]) (by simp [results, Tryz.results145, go_sem]) rfl ⟨rfl, ?_⟩
  repeat' first | exact Below.refl _ _ | apply Below.setCell | apply Below.alloc
  all_goals first | omega | (simp; done) | (simp; omega)
theorem impl_rhours (ta : Option Addr) (tl tc : Nat) (w : World) :
    Calls Tryz.prog 146 #[.slice ta tl tc] w fun e w' => e = .returned (.agg #[.slice ta tl tc, .func (.func 185) #[] #[], .func (.func 186) #[] #[]]) ∧ Below w.heap.size w w' := by
  go_enter Tryz.func146, Tryz.ntmps146
  go_wp2_with fail
  refine bodyPost_ret (v := .agg #[.slice ta tl tc, .func (.func 185) #[] #[], .func (.func 186) #[] #[]]) (by simp [results, Tryz.results146, go_sem]) rfl ⟨rfl, ?_⟩
  repeat' first | exact Below.refl _ _ | apply Below.setCell | apply Below.alloc
  all_goals first | omega | (simp; done) | (simp; omega)
/-- The window's block and the one that is handed back. -/
def UBx (w : World) (a m : ByteArray) (mo ev su mx : Int) (ta : Option Addr) (tl tc : Nat) (ha : Option Addr) (hl hc : Nat) (W : World) : Prop := Below w.heap.size w W ∧ w.heap.size + 1 < W.heap.size ∧ W.cell? ⟨w.heap.size, 0, none⟩ = some (.string a) ∧ W.cell? ⟨w.heap.size, 1, none⟩ = some (.string m) ∧ W.cell? ⟨w.heap.size, 2, none⟩ = some (.int .i64 mo) ∧ W.cell? ⟨w.heap.size, 3, none⟩ = some (.int .i64 ev) ∧ W.cell? ⟨w.heap.size, 4, none⟩ = some (.int .i64 su) ∧ W.cell? ⟨w.heap.size, 5, none⟩ = some (.int .i64 mx) ∧ W.cell? ⟨w.heap.size, 6, none⟩ = some (.slice ta tl tc) ∧ W.cell? ⟨w.heap.size, 7, none⟩ = some (.slice ha hl hc) ∧ Pt (w.heap.size + 1) 12 W
theorem UBx.below {w : World} {a m : ByteArray} {mo ev su mx : Int} {ta : Option Addr} {tl tc : Nat} {ha : Option Addr} {hl hc : Nat} {W W' : World} (h : UBx w a m mo ev su mx ta tl tc ha hl hc W) (hb : Below W.heap.size W W') : UBx w a m mo ev su mx ta tl tc ha hl hc W' := by
  obtain ⟨h0, h1, c0, c1, c2, c3, c4, c5, c6, c7, hp⟩ := h
  have c := fun o => hb.cell (p := ⟨w.heap.size, o, none⟩) (Nat.lt_trans (Nat.lt_succ_self _) h1)
  have := hb.size
  exact ⟨h0.trans (hb.mono h0.size), by omega, (c 0).trans c0, (c 1).trans c1, (c 2).trans c2, (c 3).trans c3, (c 4).trans c4, (c 5).trans c5, (c 6).trans c6, (c 7).trans c7, hp.below hb⟩
theorem UBx.put {w : World} {a m : ByteArray} {mo ev su mx : Int} {ta : Option Addr} {tl tc : Nat} {ha : Option Addr} {hl hc : Nat} {W : World} (h : UBx w a m mo ev su mx ta tl tc ha hl hc W) (o : Nat) (v : Value) : UBx w a m mo ev su mx ta tl tc ha hl hc (W.setCell ⟨w.heap.size + 1, o, none⟩ v) := by
  obtain ⟨h0, h1, c0, c1, c2, c3, c4, c5, c6, c7, hp⟩ := h
  exact ⟨h0.setCell (by simp) _, by simpa using h1, by simp [go_sem, c0], by simp [go_sem, c1], by simp [go_sem, c2], by simp [go_sem, c3], by simp [go_sem, c4], by simp [go_sem, c5], by simp [go_sem, c6], by simp [go_sem, c7], hp.set _ _⟩
theorem UBx.out {w : World} {a m : ByteArray} {mo ev su mx : Int} {ta : Option Addr} {tl tc : Nat} {ha : Option Addr} {hl hc : Nat} {W : World} (h : UBx w a m mo ev su mx ta tl tc ha hl hc W) : ∃ v0 v1 v2 v3 v4 v5 v6 v7 v8 v9 v10 v11, W.cell? ⟨w.heap.size + 1, 0, none⟩ = some v0 ∧ W.cell? ⟨w.heap.size + 1, 1, none⟩ = some v1 ∧ W.cell? ⟨w.heap.size + 1, 2, none⟩ = some v2 ∧ W.cell? ⟨w.heap.size + 1, 3, none⟩ = some v3 ∧ W.cell? ⟨w.heap.size + 1, 4, none⟩ = some v4 ∧ W.cell? ⟨w.heap.size + 1, 5, none⟩ = some v5 ∧ W.cell? ⟨w.heap.size + 1, 6, none⟩ = some v6 ∧ W.cell? ⟨w.heap.size + 1, 7, none⟩ = some v7 ∧ W.cell? ⟨w.heap.size + 1, 8, none⟩ = some v8 ∧ W.cell? ⟨w.heap.size + 1, 9, none⟩ = some v9 ∧ W.cell? ⟨w.heap.size + 1, 10, none⟩ = some v10 ∧ W.cell? ⟨w.heap.size + 1, 11, none⟩ = some v11 ∧ W.frozen? ⟨w.heap.size + 1, 0, none⟩ = false ∧ W.frozen? ⟨w.heap.size + 1, 1, none⟩ = false ∧ W.frozen? ⟨w.heap.size + 1, 2, none⟩ = false ∧ W.frozen? ⟨w.heap.size + 1, 3, none⟩ = false ∧ W.frozen? ⟨w.heap.size + 1, 4, none⟩ = false ∧ W.frozen? ⟨w.heap.size + 1, 5, none⟩ = false ∧ W.frozen? ⟨w.heap.size + 1, 6, none⟩ = false ∧ W.frozen? ⟨w.heap.size + 1, 7, none⟩ = false ∧ W.frozen? ⟨w.heap.size + 1, 8, none⟩ = false ∧ W.frozen? ⟨w.heap.size + 1, 9, none⟩ = false ∧ W.frozen? ⟨w.heap.size + 1, 10, none⟩ = false ∧ W.frozen? ⟨w.heap.size + 1, 11, none⟩ = false := by
  obtain ⟨_, _, _, _, _, _, _, _, _, _, hp⟩ := h
  obtain ⟨v0, e0⟩ := hp.has 0 (by omega)
  obtain ⟨v1, e1⟩ := hp.has 1 (by omega)
  obtain ⟨v2, e2⟩ := hp.has 2 (by omega)
  obtain ⟨v3, e3⟩ := hp.has 3 (by omega)
  obtain ⟨v4, e4⟩ := hp.has 4 (by omega)
  obtain ⟨v5, e5⟩ := hp.has 5 (by omega)
  obtain ⟨v6, e6⟩ := hp.has 6 (by omega)
  obtain ⟨v7, e7⟩ := hp.has 7 (by omega)
  obtain ⟨v8, e8⟩ := hp.has 8 (by omega)
  obtain ⟨v9, e9⟩ := hp.has 9 (by omega)
  obtain ⟨v10, e10⟩ := hp.has 10 (by omega)
  obtain ⟨v11, e11⟩ := hp.has 11 (by omega)
  exact ⟨v0, v1, v2, v3, v4, v5, v6, v7, v8, v9, v10, v11, e0, e1, e2, e3, e4, e5, e6, e7, e8, e9, e10, e11, hp.free 0 (by omega), hp.free 1 (by omega), hp.free 2 (by omega), hp.free 3 (by omega), hp.free 4 (by omega), hp.free 5 (by omega), hp.free 6 (by omega), hp.free 7 (by omega), hp.free 8 (by omega), hp.free 9 (by omega), hp.free 10 (by omega), hp.free 11 (by omega)⟩
set_option maxRecDepth 100000 in
set_option maxHeartbeats 8000000 in
theorem impl_usage (a m : ByteArray) (mo ev su mx : Int) (ta : Option Addr) (tl tc : Nat) (ha : Option Addr) (hl hc : Nat) (w : World) :
    Calls Tryz.prog 123 #[.agg #[.string a, .string m, .int .i64 mo, .int .i64 ev, .int .i64 su, .int .i64 mx, .slice ta tl tc, .slice ha hl hc]] w fun e w' => e = .returned (.agg #[.string a, .string m, .int .i64 mo, .int .i64 ev, .int .i64 su, .int .i64 mx, .slice ta tl tc, .func (.func 183) #[] #[], .func (.func 184) #[] #[], .slice ha hl hc, .func (.func 185) #[] #[], .func (.func 186) #[] #[]]) ∧ Below w.heap.size w w' := by
  go_enter Tryz.func123, Tryz.ntmps123
  go_wp2_with fail
  have HT0 : Hid (UBx w a m mo ev su mx ta tl tc ha hl hc (((w.alloc (.cells #[.string a, .string m, .int .i64 mo, .int .i64 ev, .int .i64 su, .int .i64 mx, .slice ta tl tc, .slice ha hl hc] 74)).alloc (.cells #[.string ⟨#[]⟩, .string ⟨#[]⟩, .int .i64 0, .int .i64 0, .int .i64 0, .int .i64 0, .slice none 0 0, .nilFunc, .nilFunc, .slice none 0 0, .nilFunc, .nilFunc] 185)).drew)) := hid_intro (by
    refine ⟨((((Below.refl _ _).alloc (Nat.le_refl _) _).alloc (by simp) _).drew), by simp, by simp [go_sem], by simp [go_sem], by simp [go_sem], by simp [go_sem], by simp [go_sem], by simp [go_sem], by simp [go_sem], by simp [go_sem], by simp, fun o ho => ?_, fun o ho => ?_⟩
    · match o, ho with
      | 0, _ => exact ⟨_, by simp [go_sem]; rfl⟩
      | 1, _ => exact ⟨_, by simp [go_sem]; rfl⟩
      | 2, _ => exact ⟨_, by simp [go_sem]; rfl⟩
      | 3, _ => exact ⟨_, by simp [go_sem]; rfl⟩
      | 4, _ => exact ⟨_, by simp [go_sem]; rfl⟩
      | 5, _ => exact ⟨_, by simp [go_sem]; rfl⟩
      | 6, _ => exact ⟨_, by simp [go_sem]; rfl⟩
      | 7, _ => exact ⟨_, by simp [go_sem]; rfl⟩
      | 8, _ => exact ⟨_, by simp [go_sem]; rfl⟩
      | 9, _ => exact ⟨_, by simp [go_sem]; rfl⟩
      | 10, _ => exact ⟨_, by simp [go_sem]; rfl⟩
      | 11, _ => exact ⟨_, by simp [go_sem]; rfl⟩
    · match o, ho with
      | 0, _ => simp [go_sem]
      | 1, _ => simp [go_sem]
      | 2, _ => simp [go_sem]
      | 3, _ => simp [go_sem]
      | 4, _ => simp [go_sem]
      | 5, _ => simp [go_sem]
      | 6, _ => simp [go_sem]
      | 7, _ => simp [go_sem]
      | 8, _ => simp [go_sem]
      | 9, _ => simp [go_sem]
      | 10, _ => simp [go_sem]
      | 11, _ => simp [go_sem]
)
  refine wp_region_held_drew (S := (fun W => Below w.heap.size w W ∧ w.heap.size + 1 < W.heap.size ∧ W.cell? ⟨w.heap.size, 0, none⟩ = some (.string a) ∧ W.cell? ⟨w.heap.size, 1, none⟩ = some (.string m) ∧ W.cell? ⟨w.heap.size, 2, none⟩ = some (.int .i64 mo) ∧ W.cell? ⟨w.heap.size, 3, none⟩ = some (.int .i64 ev) ∧ W.cell? ⟨w.heap.size, 4, none⟩ = some (.int .i64 su) ∧ W.cell? ⟨w.heap.size, 5, none⟩ = some (.int .i64 mx) ∧ W.cell? ⟨w.heap.size, 6, none⟩ = some (.slice ta tl tc) ∧ W.cell? ⟨w.heap.size, 7, none⟩ = some (.slice ha hl hc) ∧ Pt (w.heap.size + 1) 12 W)) (by kernel_rfl) HT0.out (fun hHeld => ?_)
  refine wpAnyH_take (i := 0) (oi := { dst := some 3, op := Op.fieldAddr 74 (Operand.tmp 1) 0, type := 0, pos := "l07_window.go:134", after := #[], guard := none }) (v := ?_) rfl (by kernel_rfl) (by kernel_rfl) (by kernel_rfl) (fun _ _ _ h => h) (Or.inl ⟨by rfl, ?_⟩) (by assumption) ?_
  rotate_left
  · (intro w hSw; (try dsimp only at hSw); go_simp) <;> with_reducible rfl
  try simp only [Act.put, List.setIfInBounds_toArray, List.set_cons_zero, List.set_cons_succ]
  refine wpAnyH_take (i := 1) (oi := { dst := some 4, op := Op.load 9 (Operand.tmp 3), type := 9, pos := "l07_window.go:134", after := #[{ on := 0, ground := Ground.data }], guard := none }) (v := ?_) rfl (by kernel_rfl) (by kernel_rfl) (by kernel_rfl) (fun _ _ _ h => h) (Or.inl ⟨by rfl, ?_⟩) (by assumption) ?_
  rotate_left
  · (intro w hSw; (try dsimp only at hSw); go_simp) <;> with_reducible rfl
  try simp only [Act.put, List.setIfInBounds_toArray, List.set_cons_zero, List.set_cons_succ]
  refine wpAnyH_take (i := 2) (oi := { dst := some 5, op := Op.fieldAddr 74 (Operand.tmp 1) 1, type := 0, pos := "l07_window.go:134", after := #[], guard := none }) (v := ?_) rfl (by kernel_rfl) (by kernel_rfl) (by kernel_rfl) (fun _ _ _ h => h) (Or.inl ⟨by rfl, ?_⟩) (by assumption) ?_
  rotate_left
  · (intro w hSw; (try dsimp only at hSw); go_simp) <;> with_reducible rfl
  try simp only [Act.put, List.setIfInBounds_toArray, List.set_cons_zero, List.set_cons_succ]
  refine wpAnyH_take (i := 3) (oi := { dst := some 6, op := Op.load 9 (Operand.tmp 5), type := 9, pos := "l07_window.go:134", after := #[{ on := 2, ground := Ground.data }], guard := none }) (v := ?_) rfl (by kernel_rfl) (by kernel_rfl) (by kernel_rfl) (fun _ _ _ h => h) (Or.inl ⟨by rfl, ?_⟩) (by assumption) ?_
  rotate_left
  · (intro w hSw; (try dsimp only at hSw); go_simp) <;> with_reducible rfl
  try simp only [Act.put, List.setIfInBounds_toArray, List.set_cons_zero, List.set_cons_succ]
  refine wpAnyH_take (i := 4) (oi := { dst := some 7, op := Op.fieldAddr 74 (Operand.tmp 1) 2, type := 0, pos := "l07_window.go:134", after := #[], guard := none }) (v := ?_) rfl (by kernel_rfl) (by kernel_rfl) (by kernel_rfl) (fun _ _ _ h => h) (Or.inl ⟨by rfl, ?_⟩) (by assumption) ?_
  rotate_left
  · (intro w hSw; (try dsimp only at hSw); go_simp) <;> with_reducible rfl
  try simp only [Act.put, List.setIfInBounds_toArray, List.set_cons_zero, List.set_cons_succ]
  refine wpAnyH_take (i := 5) (oi := { dst := some 8, op := Op.load 2 (Operand.tmp 7), type := 2, pos := "l07_window.go:134", after := #[{ on := 4, ground := Ground.data }], guard := none }) (v := ?_) rfl (by kernel_rfl) (by kernel_rfl) (by kernel_rfl) (fun _ _ _ h => h) (Or.inl ⟨by rfl, ?_⟩) (by assumption) ?_
  rotate_left
  · (intro w hSw; (try dsimp only at hSw); go_simp) <;> with_reducible rfl
  try simp only [Act.put, List.setIfInBounds_toArray, List.set_cons_zero, List.set_cons_succ]
  refine wpAnyH_take (i := 6) (oi := { dst := some 9, op := Op.build 174 #[(0, Operand.tmp 4), (1, Operand.tmp 6), (2, Operand.tmp 8)], type := 174, pos := "l07_window.go:134", after := #[{ on := 1, ground := Ground.data }, { on := 3, ground := Ground.data }, { on := 5, ground := Ground.data }], guard := none }) (v := ?_) rfl (by kernel_rfl) (by kernel_rfl) (by kernel_rfl) (fun _ _ _ h => h) (Or.inl ⟨by rfl, ?_⟩) (by assumption) ?_
  rotate_left
  · (intro w hSw; (try dsimp only at hSw); go_simp) <;> with_reducible rfl
  try simp only [Act.put, List.setIfInBounds_toArray, List.set_cons_zero, List.set_cons_succ]
  refine wpAnyH_take (i := 7) (oi := { dst := some 10, op := Op.fieldAddr 74 (Operand.tmp 1) 3, type := 0, pos := "l07_window.go:134", after := #[], guard := none }) (v := ?_) rfl (by kernel_rfl) (by kernel_rfl) (by kernel_rfl) (fun _ _ _ h => h) (Or.inl ⟨by rfl, ?_⟩) (by assumption) ?_
  rotate_left
  · (intro w hSw; (try dsimp only at hSw); go_simp) <;> with_reducible rfl
  try simp only [Act.put, List.setIfInBounds_toArray, List.set_cons_zero, List.set_cons_succ]
  refine wpAnyH_take (i := 8) (oi := { dst := some 11, op := Op.load 2 (Operand.tmp 10), type := 2, pos := "l07_window.go:134", after := #[{ on := 7, ground := Ground.data }], guard := none }) (v := ?_) rfl (by kernel_rfl) (by kernel_rfl) (by kernel_rfl) (fun _ _ _ h => h) (Or.inl ⟨by rfl, ?_⟩) (by assumption) ?_
  rotate_left
  · (intro w hSw; (try dsimp only at hSw); go_simp) <;> with_reducible rfl
  try simp only [Act.put, List.setIfInBounds_toArray, List.set_cons_zero, List.set_cons_succ]
  refine wpAnyH_take (i := 9) (oi := { dst := some 12, op := Op.fieldAddr 74 (Operand.tmp 1) 4, type := 0, pos := "l07_window.go:134", after := #[], guard := none }) (v := ?_) rfl (by kernel_rfl) (by kernel_rfl) (by kernel_rfl) (fun _ _ _ h => h) (Or.inl ⟨by rfl, ?_⟩) (by assumption) ?_
  rotate_left
  · (intro w hSw; (try dsimp only at hSw); go_simp) <;> with_reducible rfl
  try simp only [Act.put, List.setIfInBounds_toArray, List.set_cons_zero, List.set_cons_succ]
  refine wpAnyH_take (i := 10) (oi := { dst := some 13, op := Op.load 2 (Operand.tmp 12), type := 2, pos := "l07_window.go:134", after := #[{ on := 9, ground := Ground.data }], guard := none }) (v := ?_) rfl (by kernel_rfl) (by kernel_rfl) (by kernel_rfl) (fun _ _ _ h => h) (Or.inl ⟨by rfl, ?_⟩) (by assumption) ?_
  rotate_left
  · (intro w hSw; (try dsimp only at hSw); go_simp) <;> with_reducible rfl
  try simp only [Act.put, List.setIfInBounds_toArray, List.set_cons_zero, List.set_cons_succ]
  refine wpAnyH_take (i := 11) (oi := { dst := some 14, op := Op.fieldAddr 74 (Operand.tmp 1) 5, type := 0, pos := "l07_window.go:134", after := #[], guard := none }) (v := ?_) rfl (by kernel_rfl) (by kernel_rfl) (by kernel_rfl) (fun _ _ _ h => h) (Or.inl ⟨by rfl, ?_⟩) (by assumption) ?_
  rotate_left
  · (intro w hSw; (try dsimp only at hSw); go_simp) <;> with_reducible rfl
  try simp only [Act.put, List.setIfInBounds_toArray, List.set_cons_zero, List.set_cons_succ]
  refine wpAnyH_take (i := 12) (oi := { dst := some 15, op := Op.load 2 (Operand.tmp 14), type := 2, pos := "l07_window.go:134", after := #[{ on := 11, ground := Ground.data }], guard := none }) (v := ?_) rfl (by kernel_rfl) (by kernel_rfl) (by kernel_rfl) (fun _ _ _ h => h) (Or.inl ⟨by rfl, ?_⟩) (by assumption) ?_
  rotate_left
  · (intro w hSw; (try dsimp only at hSw); go_simp) <;> with_reducible rfl
  try simp only [Act.put, List.setIfInBounds_toArray, List.set_cons_zero, List.set_cons_succ]
  refine wpAnyH_take (i := 13) (oi := { dst := some 16, op := Op.build 176 #[(0, Operand.tmp 11), (1, Operand.tmp 13), (2, Operand.tmp 15)], type := 176, pos := "l07_window.go:134", after := #[{ on := 8, ground := Ground.data }, { on := 10, ground := Ground.data }, { on := 12, ground := Ground.data }], guard := none }) (v := ?_) rfl (by kernel_rfl) (by kernel_rfl) (by kernel_rfl) (fun _ _ _ h => h) (Or.inl ⟨by rfl, ?_⟩) (by assumption) ?_
  rotate_left
  · (intro w hSw; (try dsimp only at hSw); go_simp) <;> with_reducible rfl
  try simp only [Act.put, List.setIfInBounds_toArray, List.set_cons_zero, List.set_cons_succ]
  refine wpAnyH_take (i := 14) (oi := { dst := some 17, op := Op.fieldAddr 74 (Operand.tmp 1) 6, type := 0, pos := "l07_window.go:134", after := #[], guard := none }) (v := ?_) rfl (by kernel_rfl) (by kernel_rfl) (by kernel_rfl) (fun _ _ _ h => h) (Or.inl ⟨by rfl, ?_⟩) (by assumption) ?_
  rotate_left
  · (intro w hSw; (try dsimp only at hSw); go_simp) <;> with_reducible rfl
  try simp only [Act.put, List.setIfInBounds_toArray, List.set_cons_zero, List.set_cons_succ]
  refine wpAnyH_take (i := 15) (oi := { dst := some 18, op := Op.load 64 (Operand.tmp 17), type := 64, pos := "l07_window.go:134", after := #[{ on := 14, ground := Ground.data }], guard := none }) (v := ?_) rfl (by kernel_rfl) (by kernel_rfl) (by kernel_rfl) (fun _ _ _ h => h) (Or.inl ⟨by rfl, ?_⟩) (by assumption) ?_
  rotate_left
  · (intro w hSw; (try dsimp only at hSw); go_simp) <;> with_reducible rfl
  try simp only [Act.put, List.setIfInBounds_toArray, List.set_cons_zero, List.set_cons_succ]
  refine wpAnyH_take (i := 17) (oi := { dst := some 20, op := Op.fieldAddr 74 (Operand.tmp 1) 7, type := 0, pos := "l07_window.go:134", after := #[], guard := none }) (v := ?_) rfl (by kernel_rfl) (by kernel_rfl) (by kernel_rfl) (fun _ _ _ h => h) (Or.inl ⟨by rfl, ?_⟩) (by assumption) ?_
  rotate_left
  · (intro w hSw; (try dsimp only at hSw); go_simp) <;> with_reducible rfl
  try simp only [Act.put, List.setIfInBounds_toArray, List.set_cons_zero, List.set_cons_succ]
  refine wpAnyH_take (i := 18) (oi := { dst := some 21, op := Op.load 72 (Operand.tmp 20), type := 72, pos := "l07_window.go:134", after := #[{ on := 17, ground := Ground.data }], guard := none }) (v := ?_) rfl (by kernel_rfl) (by kernel_rfl) (by kernel_rfl) (fun _ _ _ h => h) (Or.inl ⟨by rfl, ?_⟩) (by assumption) ?_
  rotate_left
  · (intro w hSw; (try dsimp only at hSw); go_simp) <;> with_reducible rfl
  try simp only [Act.put, List.setIfInBounds_toArray, List.set_cons_zero, List.set_cons_succ]
  refine wpAnyH_ready (rs := [16]) (by kernel_rfl) (by simp) ?_
  refine AllReadyH.cons (o := { dst := some 19, op := Op.call { callee := Callee.value (Operand.func 145), args := #[Operand.tmp 18], argTypes := #[64] }, type := 179, pos := "l07_window.go:137", after := #[{ on := 15, ground := Ground.data }], guard := none }) rfl (fun K hK => ?_) AllReadyH.nil
  go_simp
  go_at_call 145
  refine (impl_rtags _ _ _ _).mono ?_
  rintro e q1 ⟨rfl, hq1⟩
  try go_wp2_with fail
  have hk1 := UBx.below (w := w) (a := a) (m := m) (mo := mo) (ev := ev) (su := su) (mx := mx) (ta := ta) (tl := tl) (tc := tc) (ha := ha) (hl := hl) (hc := hc) HT0.out hq1
  refine hK.out _ _ hk1 (fun _ => ?_)
  clear hK K
  try simp only [Act.put, List.setIfInBounds_toArray, List.set_cons_zero, List.set_cons_succ]
  refine wpAnyH_ready (rs := [19]) (by kernel_rfl) (by simp) ?_
  refine AllReadyH.cons (o := { dst := some 22, op := Op.call { callee := Callee.value (Operand.func 146), args := #[Operand.tmp 21], argTypes := #[72] }, type := 183, pos := "l07_window.go:138", after := #[{ on := 18, ground := Ground.data }, { on := 16, ground := Ground.chain }], guard := none }) rfl (fun K hK => ?_) AllReadyH.nil
  go_simp
  go_at_call 146
  refine (impl_rhours _ _ _ _).mono ?_
  rintro e q2 ⟨rfl, hq2⟩
  try go_wp2_with fail
  have hk2 := UBx.below (w := w) (a := a) (m := m) (mo := mo) (ev := ev) (su := su) (mx := mx) (ta := ta) (tl := tl) (tc := tc) (ha := ha) (hl := hl) (hc := hc) hk1 hq2
  refine hK.out _ _ hk2 (fun _ => ?_)
  clear hK K
  try simp only [Act.put, List.setIfInBounds_toArray, List.set_cons_zero, List.set_cons_succ]
  refine wpAnyH_take (i := 20) (oi := { dst := some 23, op := Op.build 185 #[(0, Operand.tmp 9), (1, Operand.tmp 16), (2, Operand.tmp 19), (3, Operand.tmp 22)], type := 185, pos := "l07_window.go:134", after := #[{ on := 6, ground := Ground.data }, { on := 13, ground := Ground.data }, { on := 16, ground := Ground.data }, { on := 19, ground := Ground.data }], guard := none }) (v := ?_) rfl (by kernel_rfl) (by kernel_rfl) (by kernel_rfl) (fun _ _ _ h => h) (Or.inl ⟨by rfl, ?_⟩) (by assumption) ?_
  rotate_left
  · (intro w hSw; (try dsimp only at hSw); go_simp) <;> with_reducible rfl
  try simp only [Act.put, List.setIfInBounds_toArray, List.set_cons_zero, List.set_cons_succ]
  obtain ⟨v0, v1, v2, v3, v4, v5, v6, v7, v8, v9, v10, v11, r0, r1, r2, r3, r4, r5, r6, r7, r8, r9, r10, r11, z0, z1, z2, z3, z4, z5, z6, z7, z8, z9, z10, z11⟩ := UBx.out (w := w) (a := a) (m := m) (mo := mo) (ev := ev) (su := su) (mx := mx) (ta := ta) (tl := tl) (tc := tc) (ha := ha) (hl := hl) (hc := hc) hk2
  have hlt := hk2.2.1
  refine wpAnyH_ready (rs := [21]) (by kernel_rfl) (by simp) ?_
  refine AllReadyH.cons (o := { dst := none, op := Op.store 185 (Operand.tmp 2) (Operand.tmp 23), type := 0, pos := "l07_window.go:134", after := #[{ on := 20, ground := Ground.data }, { on := 19, ground := Ground.chain }, { on := 0, ground := Ground.phase }, { on := 1, ground := Ground.phase }, { on := 2, ground := Ground.phase }, { on := 3, ground := Ground.phase }, { on := 4, ground := Ground.phase }, { on := 5, ground := Ground.phase }, { on := 6, ground := Ground.phase }, { on := 7, ground := Ground.phase }, { on := 8, ground := Ground.phase }, { on := 9, ground := Ground.phase }, { on := 10, ground := Ground.phase }, { on := 11, ground := Ground.phase }, { on := 12, ground := Ground.phase }, { on := 13, ground := Ground.phase }, { on := 14, ground := Ground.phase }, { on := 15, ground := Ground.phase }, { on := 16, ground := Ground.phase }, { on := 17, ground := Ground.phase }, { on := 18, ground := Ground.phase }, { on := 19, ground := Ground.phase }, { on := 20, ground := Ground.phase }], guard := none }) rfl (fun K hK => ?_) AllReadyH.nil
  go_simp
  try go_wp2_with fail
  have hk3 := (UBx.put (w := w) (a := a) (m := m) (mo := mo) (ev := ev) (su := su) (mx := mx) (ta := ta) (tl := tl) (tc := tc) (ha := ha) (hl := hl) (hc := hc) (UBx.put (w := w) (a := a) (m := m) (mo := mo) (ev := ev) (su := su) (mx := mx) (ta := ta) (tl := tl) (tc := tc) (ha := ha) (hl := hl) (hc := hc) (UBx.put (w := w) (a := a) (m := m) (mo := mo) (ev := ev) (su := su) (mx := mx) (ta := ta) (tl := tl) (tc := tc) (ha := ha) (hl := hl) (hc := hc) (UBx.put (w := w) (a := a) (m := m) (mo := mo) (ev := ev) (su := su) (mx := mx) (ta := ta) (tl := tl) (tc := tc) (ha := ha) (hl := hl) (hc := hc) (UBx.put (w := w) (a := a) (m := m) (mo := mo) (ev := ev) (su := su) (mx := mx) (ta := ta) (tl := tl) (tc := tc) (ha := ha) (hl := hl) (hc := hc) (UBx.put (w := w) (a := a) (m := m) (mo := mo) (ev := ev) (su := su) (mx := mx) (ta := ta) (tl := tl) (tc := tc) (ha := ha) (hl := hl) (hc := hc) (UBx.put (w := w) (a := a) (m := m) (mo := mo) (ev := ev) (su := su) (mx := mx) (ta := ta) (tl := tl) (tc := tc) (ha := ha) (hl := hl) (hc := hc) (UBx.put (w := w) (a := a) (m := m) (mo := mo) (ev := ev) (su := su) (mx := mx) (ta := ta) (tl := tl) (tc := tc) (ha := ha) (hl := hl) (hc := hc) (UBx.put (w := w) (a := a) (m := m) (mo := mo) (ev := ev) (su := su) (mx := mx) (ta := ta) (tl := tl) (tc := tc) (ha := ha) (hl := hl) (hc := hc) (UBx.put (w := w) (a := a) (m := m) (mo := mo) (ev := ev) (su := su) (mx := mx) (ta := ta) (tl := tl) (tc := tc) (ha := ha) (hl := hl) (hc := hc) (UBx.put (w := w) (a := a) (m := m) (mo := mo) (ev := ev) (su := su) (mx := mx) (ta := ta) (tl := tl) (tc := tc) (ha := ha) (hl := hl) (hc := hc) (UBx.put (w := w) (a := a) (m := m) (mo := mo) (ev := ev) (su := su) (mx := mx) (ta := ta) (tl := tl) (tc := tc) (ha := ha) (hl := hl) (hc := hc) hk2 0 (.string a)) 1 (.string m)) 2 (.int .i64 mo)) 3 (.int .i64 ev)) 4 (.int .i64 su)) 5 (.int .i64 mx)) 6 (.slice ta tl tc)) 7 (.func (.func 183) #[] #[])) 8 (.func (.func 184) #[] #[])) 9 (.slice ha hl hc)) 10 (.func (.func 185) #[] #[])) 11 (.func (.func 186) #[] #[]))
  refine hK.out _ _ hk3 (fun _ => ?_)
  clear hK K
  try simp only [Act.put, List.setIfInBounds_toArray, List.set_cons_zero, List.set_cons_succ]
  refine wpAnyH_done (by kernel_rfl) ?_ _
  have HB := hid_intro hk3.1
  clear hk3 hk2 hk1
  go_wp2_with fail
  refine bodyPost_ret (v := .agg #[.string a, .string m, .int .i64 mo, .int .i64 ev, .int .i64 su, .int .i64 mx, .slice ta tl tc, .func (.func 183) #[] #[], .func (.func 184) #[] #[], .slice ha hl hc, .func (.func 185) #[] #[], .func (.func 186) #[] #[]]) (by simp [results, Tryz.results123, go_sem, r0, r1, r2, r3, r4, r5, r6, r7, r8, r9, r10, r11]) rfl ⟨rfl, HB.out⟩
end WinR
end Go.Proofs.YtcilbmhkhllmjaaGreatDoor
namespace Go.Proofs.YtcilbmhkhllmjaaGreatDoor
open Go.ChangeShapes Go.WideShapes Go.ChangeAt Go.RowKit
set_option linter.unusedVariables false
namespace WinR
open RowG LtR
open CatR (Blk Blk.new)
open DateR (Laid)
theorem counted_su {ev su mx : Int} (h : countedB ev su mx = true) : (1 ≤ ev ∧ ev ≤ 1000) ∧ (0 ≤ su ∧ su ≤ 1000000000000) ∧ 0 ≤ mx ∧ mx ≤ su := by
  unfold countedB at h
  simp only [Bool.and_eq_true, decide_eq_true_eq] at h
  exact h
set_option maxRecDepth 100000 in
set_option maxHeartbeats 8000000 in
theorem right_in (a m : ByteArray) (mo ev su mx : Int) (ta : Option Addr) (tl tc : Nat) (ha : Option Addr) (hl hc : Nat) (b1 b2 b3 b4 : Bool) (w : World)
    (h1 : ∀ W, Calls Tryz.prog 147 #[.agg #[.string a, .string m, .int .i64 mo]] W fun e w' => e = .returned (.bool b1) ∧ Below W.heap.size W w')
    (h2 : ∀ W, Calls Tryz.prog 148 #[.agg #[.int .i64 ev, .int .i64 su, .int .i64 mx]] W fun e w' => e = .returned (.bool b2) ∧ Below W.heap.size W w')
    (h3 : ∀ W, Below w.heap.size w W → Calls Tryz.prog 149 #[.agg #[.string a, .string m, .int .i64 mo, .int .i64 ev, .int .i64 su, .int .i64 mx, .slice ta tl tc, .func (.func 183) #[] #[], .func (.func 184) #[] #[], .slice ha hl hc, .func (.func 185) #[] #[], .func (.func 186) #[] #[]]] W fun e w' => e = .returned (.bool b3) ∧ Below W.heap.size W w')
    (h4 : b2 = true → ∀ W, Below w.heap.size w W → Calls Tryz.prog 150 #[.agg #[.string a, .string m, .int .i64 mo, .int .i64 ev, .int .i64 su, .int .i64 mx, .slice ta tl tc, .func (.func 183) #[] #[], .func (.func 184) #[] #[], .slice ha hl hc, .func (.func 185) #[] #[], .func (.func 186) #[] #[]]] W fun e w' => e = .returned (.bool b4) ∧ Below W.heap.size W w') :
    Calls Tryz.prog 124 #[.agg #[.string a, .string m, .int .i64 mo, .int .i64 ev, .int .i64 su, .int .i64 mx, .slice ta tl tc, .func (.func 183) #[] #[], .func (.func 184) #[] #[], .slice ha hl hc, .func (.func 185) #[] #[], .func (.func 186) #[] #[]]] w fun e w' => e = .returned (.bool (b1 && (b2 && (b3 && b4)))) ∧ Below w.heap.size w w' := by
  have H1 := hid_intro h1
  have H2 := hid_intro h2
  have H3 := hid_intro h3
  have H4 := hid_intro h4
  clear h1 h2 h3 h4
  have HB0 : Hid (Below w.heap.size w (w.alloc (.cells #[.string a, .string m, .int .i64 mo, .int .i64 ev, .int .i64 su, .int .i64 mx, .slice ta tl tc, .func (.func 183) #[] #[], .func (.func 184) #[] #[], .slice ha hl hc, .func (.func 185) #[] #[], .func (.func 186) #[] #[]] 185))) := hid_intro ((Below.refl _ _).alloc (Nat.le_refl _) _)
  have HX0 := hid_intro (Blk.new w [.string a, .string m, .int .i64 mo, .int .i64 ev, .int .i64 su, .int .i64 mx, .slice ta tl tc, .func (.func 183) #[] #[], .func (.func 184) #[] #[], .slice ha hl hc, .func (.func 185) #[] #[], .func (.func 186) #[] #[]] 185)
  rcases four b1 b2 b3 b4 with rfl | ⟨rfl, rfl⟩ | ⟨rfl, rfl, rfl⟩ | ⟨rfl, rfl, rfl, rfl⟩ | ⟨rfl, rfl, rfl, rfl⟩
  · go_enter Tryz.func124, Tryz.ntmps124
    go_wp2_with fail
    refine (H1.out _).mono ?_
    rintro e w1 ⟨rfl, hb1⟩
    have HB1 := hid_intro (HB0.out.trans (hb1.mono HB0.out.size))
    have HX1 := hid_intro (HX0.out.below hb1)
    clear hb1
    go_wp2_with fail
    go_ret
    exact ⟨rfl, HB1.out⟩
  · go_enter Tryz.func124, Tryz.ntmps124
    go_wp2_with fail
    refine (H1.out _).mono ?_
    rintro e w1 ⟨rfl, hb1⟩
    have HB1 := hid_intro (HB0.out.trans (hb1.mono HB0.out.size))
    have HX1 := hid_intro (HX0.out.below hb1)
    clear hb1
    obtain ⟨xl, xc⟩ := HX1.out
    have y0 : w1.cell? ⟨w.heap.size, 0, none⟩ = some (.string a) := xc 0 (by simp)
    have y1 : w1.cell? ⟨w.heap.size, 1, none⟩ = some (.string m) := xc 1 (by simp)
    have y2 : w1.cell? ⟨w.heap.size, 2, none⟩ = some (.int .i64 mo) := xc 2 (by simp)
    have y3 : w1.cell? ⟨w.heap.size, 3, none⟩ = some (.int .i64 ev) := xc 3 (by simp)
    have y4 : w1.cell? ⟨w.heap.size, 4, none⟩ = some (.int .i64 su) := xc 4 (by simp)
    have y5 : w1.cell? ⟨w.heap.size, 5, none⟩ = some (.int .i64 mx) := xc 5 (by simp)
    have y6 : w1.cell? ⟨w.heap.size, 6, none⟩ = some (.slice ta tl tc) := xc 6 (by simp)
    have y7 : w1.cell? ⟨w.heap.size, 7, none⟩ = some (.func (.func 183) #[] #[]) := xc 7 (by simp)
    have y8 : w1.cell? ⟨w.heap.size, 8, none⟩ = some (.func (.func 184) #[] #[]) := xc 8 (by simp)
    have y9 : w1.cell? ⟨w.heap.size, 9, none⟩ = some (.slice ha hl hc) := xc 9 (by simp)
    have y10 : w1.cell? ⟨w.heap.size, 10, none⟩ = some (.func (.func 185) #[] #[]) := xc 10 (by simp)
    have y11 : w1.cell? ⟨w.heap.size, 11, none⟩ = some (.func (.func 186) #[] #[]) := xc 11 (by simp)
    clear xc
    go_wp2_with fail
    refine (H2.out _).mono ?_
    rintro e w2 ⟨rfl, hb2⟩
    have HB2 := hid_intro (HB1.out.trans (hb2.mono HB1.out.size))
    have HX2 := hid_intro (HX1.out.below hb2)
    clear hb2
    go_wp2_with fail
    go_ret
    exact ⟨rfl, HB2.out⟩
  · go_enter Tryz.func124, Tryz.ntmps124
    go_wp2_with fail
    refine (H1.out _).mono ?_
    rintro e w1 ⟨rfl, hb1⟩
    have HB1 := hid_intro (HB0.out.trans (hb1.mono HB0.out.size))
    have HX1 := hid_intro (HX0.out.below hb1)
    clear hb1
    obtain ⟨xl, xc⟩ := HX1.out
    have y0 : w1.cell? ⟨w.heap.size, 0, none⟩ = some (.string a) := xc 0 (by simp)
    have y1 : w1.cell? ⟨w.heap.size, 1, none⟩ = some (.string m) := xc 1 (by simp)
    have y2 : w1.cell? ⟨w.heap.size, 2, none⟩ = some (.int .i64 mo) := xc 2 (by simp)
    have y3 : w1.cell? ⟨w.heap.size, 3, none⟩ = some (.int .i64 ev) := xc 3 (by simp)
    have y4 : w1.cell? ⟨w.heap.size, 4, none⟩ = some (.int .i64 su) := xc 4 (by simp)
    have y5 : w1.cell? ⟨w.heap.size, 5, none⟩ = some (.int .i64 mx) := xc 5 (by simp)
    have y6 : w1.cell? ⟨w.heap.size, 6, none⟩ = some (.slice ta tl tc) := xc 6 (by simp)
    have y7 : w1.cell? ⟨w.heap.size, 7, none⟩ = some (.func (.func 183) #[] #[]) := xc 7 (by simp)
    have y8 : w1.cell? ⟨w.heap.size, 8, none⟩ = some (.func (.func 184) #[] #[]) := xc 8 (by simp)
    have y9 : w1.cell? ⟨w.heap.size, 9, none⟩ = some (.slice ha hl hc) := xc 9 (by simp)
    have y10 : w1.cell? ⟨w.heap.size, 10, none⟩ = some (.func (.func 185) #[] #[]) := xc 10 (by simp)
    have y11 : w1.cell? ⟨w.heap.size, 11, none⟩ = some (.func (.func 186) #[] #[]) := xc 11 (by simp)
    clear xc
    go_wp2_with fail
    refine (H2.out _).mono ?_
    rintro e w2 ⟨rfl, hb2⟩
    have HB2 := hid_intro (HB1.out.trans (hb2.mono HB1.out.size))
    have HX2 := hid_intro (HX1.out.below hb2)
    clear hb2
    clear y0 y1 y2 y3 y4 y5 y6 y7 y8 y9 y10 y11
    obtain ⟨xl, xc⟩ := HX2.out
    have y0 : w2.cell? ⟨w.heap.size, 0, none⟩ = some (.string a) := xc 0 (by simp)
    have y1 : w2.cell? ⟨w.heap.size, 1, none⟩ = some (.string m) := xc 1 (by simp)
    have y2 : w2.cell? ⟨w.heap.size, 2, none⟩ = some (.int .i64 mo) := xc 2 (by simp)
    have y3 : w2.cell? ⟨w.heap.size, 3, none⟩ = some (.int .i64 ev) := xc 3 (by simp)
    have y4 : w2.cell? ⟨w.heap.size, 4, none⟩ = some (.int .i64 su) := xc 4 (by simp)
    have y5 : w2.cell? ⟨w.heap.size, 5, none⟩ = some (.int .i64 mx) := xc 5 (by simp)
    have y6 : w2.cell? ⟨w.heap.size, 6, none⟩ = some (.slice ta tl tc) := xc 6 (by simp)
    have y7 : w2.cell? ⟨w.heap.size, 7, none⟩ = some (.func (.func 183) #[] #[]) := xc 7 (by simp)
    have y8 : w2.cell? ⟨w.heap.size, 8, none⟩ = some (.func (.func 184) #[] #[]) := xc 8 (by simp)
    have y9 : w2.cell? ⟨w.heap.size, 9, none⟩ = some (.slice ha hl hc) := xc 9 (by simp)
    have y10 : w2.cell? ⟨w.heap.size, 10, none⟩ = some (.func (.func 185) #[] #[]) := xc 10 (by simp)
    have y11 : w2.cell? ⟨w.heap.size, 11, none⟩ = some (.func (.func 186) #[] #[]) := xc 11 (by simp)
    clear xc
    go_wp2_with fail
    refine (H3.out _ HB2.out).mono ?_
    rintro e w3 ⟨rfl, hb3⟩
    have HB3 := hid_intro (HB2.out.trans (hb3.mono HB2.out.size))
    have HX3 := hid_intro (HX2.out.below hb3)
    clear hb3
    go_wp2_with fail
    go_ret
    exact ⟨rfl, HB3.out⟩
  · go_enter Tryz.func124, Tryz.ntmps124
    go_wp2_with fail
    refine (H1.out _).mono ?_
    rintro e w1 ⟨rfl, hb1⟩
    have HB1 := hid_intro (HB0.out.trans (hb1.mono HB0.out.size))
    have HX1 := hid_intro (HX0.out.below hb1)
    clear hb1
    obtain ⟨xl, xc⟩ := HX1.out
    have y0 : w1.cell? ⟨w.heap.size, 0, none⟩ = some (.string a) := xc 0 (by simp)
    have y1 : w1.cell? ⟨w.heap.size, 1, none⟩ = some (.string m) := xc 1 (by simp)
    have y2 : w1.cell? ⟨w.heap.size, 2, none⟩ = some (.int .i64 mo) := xc 2 (by simp)
    have y3 : w1.cell? ⟨w.heap.size, 3, none⟩ = some (.int .i64 ev) := xc 3 (by simp)
    have y4 : w1.cell? ⟨w.heap.size, 4, none⟩ = some (.int .i64 su) := xc 4 (by simp)
    have y5 : w1.cell? ⟨w.heap.size, 5, none⟩ = some (.int .i64 mx) := xc 5 (by simp)
    have y6 : w1.cell? ⟨w.heap.size, 6, none⟩ = some (.slice ta tl tc) := xc 6 (by simp)
    have y7 : w1.cell? ⟨w.heap.size, 7, none⟩ = some (.func (.func 183) #[] #[]) := xc 7 (by simp)
    have y8 : w1.cell? ⟨w.heap.size, 8, none⟩ = some (.func (.func 184) #[] #[]) := xc 8 (by simp)
    have y9 : w1.cell? ⟨w.heap.size, 9, none⟩ = some (.slice ha hl hc) := xc 9 (by simp)
    have y10 : w1.cell? ⟨w.heap.size, 10, none⟩ = some (.func (.func 185) #[] #[]) := xc 10 (by simp)
    have y11 : w1.cell? ⟨w.heap.size, 11, none⟩ = some (.func (.func 186) #[] #[]) := xc 11 (by simp)
    clear xc
    go_wp2_with fail
    refine (H2.out _).mono ?_
    rintro e w2 ⟨rfl, hb2⟩
    have HB2 := hid_intro (HB1.out.trans (hb2.mono HB1.out.size))
    have HX2 := hid_intro (HX1.out.below hb2)
    clear hb2
    clear y0 y1 y2 y3 y4 y5 y6 y7 y8 y9 y10 y11
    obtain ⟨xl, xc⟩ := HX2.out
    have y0 : w2.cell? ⟨w.heap.size, 0, none⟩ = some (.string a) := xc 0 (by simp)
    have y1 : w2.cell? ⟨w.heap.size, 1, none⟩ = some (.string m) := xc 1 (by simp)
    have y2 : w2.cell? ⟨w.heap.size, 2, none⟩ = some (.int .i64 mo) := xc 2 (by simp)
    have y3 : w2.cell? ⟨w.heap.size, 3, none⟩ = some (.int .i64 ev) := xc 3 (by simp)
    have y4 : w2.cell? ⟨w.heap.size, 4, none⟩ = some (.int .i64 su) := xc 4 (by simp)
    have y5 : w2.cell? ⟨w.heap.size, 5, none⟩ = some (.int .i64 mx) := xc 5 (by simp)
    have y6 : w2.cell? ⟨w.heap.size, 6, none⟩ = some (.slice ta tl tc) := xc 6 (by simp)
    have y7 : w2.cell? ⟨w.heap.size, 7, none⟩ = some (.func (.func 183) #[] #[]) := xc 7 (by simp)
    have y8 : w2.cell? ⟨w.heap.size, 8, none⟩ = some (.func (.func 184) #[] #[]) := xc 8 (by simp)
    have y9 : w2.cell? ⟨w.heap.size, 9, none⟩ = some (.slice ha hl hc) := xc 9 (by simp)
    have y10 : w2.cell? ⟨w.heap.size, 10, none⟩ = some (.func (.func 185) #[] #[]) := xc 10 (by simp)
    have y11 : w2.cell? ⟨w.heap.size, 11, none⟩ = some (.func (.func 186) #[] #[]) := xc 11 (by simp)
    clear xc
    go_wp2_with fail
    refine (H3.out _ HB2.out).mono ?_
    rintro e w3 ⟨rfl, hb3⟩
    have HB3 := hid_intro (HB2.out.trans (hb3.mono HB2.out.size))
    have HX3 := hid_intro (HX2.out.below hb3)
    clear hb3
    clear y0 y1 y2 y3 y4 y5 y6 y7 y8 y9 y10 y11
    obtain ⟨xl, xc⟩ := HX3.out
    have y0 : w3.cell? ⟨w.heap.size, 0, none⟩ = some (.string a) := xc 0 (by simp)
    have y1 : w3.cell? ⟨w.heap.size, 1, none⟩ = some (.string m) := xc 1 (by simp)
    have y2 : w3.cell? ⟨w.heap.size, 2, none⟩ = some (.int .i64 mo) := xc 2 (by simp)
    have y3 : w3.cell? ⟨w.heap.size, 3, none⟩ = some (.int .i64 ev) := xc 3 (by simp)
    have y4 : w3.cell? ⟨w.heap.size, 4, none⟩ = some (.int .i64 su) := xc 4 (by simp)
    have y5 : w3.cell? ⟨w.heap.size, 5, none⟩ = some (.int .i64 mx) := xc 5 (by simp)
    have y6 : w3.cell? ⟨w.heap.size, 6, none⟩ = some (.slice ta tl tc) := xc 6 (by simp)
    have y7 : w3.cell? ⟨w.heap.size, 7, none⟩ = some (.func (.func 183) #[] #[]) := xc 7 (by simp)
    have y8 : w3.cell? ⟨w.heap.size, 8, none⟩ = some (.func (.func 184) #[] #[]) := xc 8 (by simp)
    have y9 : w3.cell? ⟨w.heap.size, 9, none⟩ = some (.slice ha hl hc) := xc 9 (by simp)
    have y10 : w3.cell? ⟨w.heap.size, 10, none⟩ = some (.func (.func 185) #[] #[]) := xc 10 (by simp)
    have y11 : w3.cell? ⟨w.heap.size, 11, none⟩ = some (.func (.func 186) #[] #[]) := xc 11 (by simp)
    clear xc
    go_wp2_with fail
    refine (H4.out (by first | rfl | trivial) _ HB3.out).mono ?_
    rintro e w4 ⟨rfl, hb4⟩
    have HB4 := hid_intro (HB3.out.trans (hb4.mono HB3.out.size))
    have HX4 := hid_intro (HX3.out.below hb4)
    clear hb4
    go_wp2_with fail
    go_ret
    exact ⟨rfl, HB4.out⟩
  · go_enter Tryz.func124, Tryz.ntmps124
    go_wp2_with fail
    refine (H1.out _).mono ?_
    rintro e w1 ⟨rfl, hb1⟩
    have HB1 := hid_intro (HB0.out.trans (hb1.mono HB0.out.size))
    have HX1 := hid_intro (HX0.out.below hb1)
    clear hb1
    obtain ⟨xl, xc⟩ := HX1.out
    have y0 : w1.cell? ⟨w.heap.size, 0, none⟩ = some (.string a) := xc 0 (by simp)
    have y1 : w1.cell? ⟨w.heap.size, 1, none⟩ = some (.string m) := xc 1 (by simp)
    have y2 : w1.cell? ⟨w.heap.size, 2, none⟩ = some (.int .i64 mo) := xc 2 (by simp)
    have y3 : w1.cell? ⟨w.heap.size, 3, none⟩ = some (.int .i64 ev) := xc 3 (by simp)
    have y4 : w1.cell? ⟨w.heap.size, 4, none⟩ = some (.int .i64 su) := xc 4 (by simp)
    have y5 : w1.cell? ⟨w.heap.size, 5, none⟩ = some (.int .i64 mx) := xc 5 (by simp)
    have y6 : w1.cell? ⟨w.heap.size, 6, none⟩ = some (.slice ta tl tc) := xc 6 (by simp)
    have y7 : w1.cell? ⟨w.heap.size, 7, none⟩ = some (.func (.func 183) #[] #[]) := xc 7 (by simp)
    have y8 : w1.cell? ⟨w.heap.size, 8, none⟩ = some (.func (.func 184) #[] #[]) := xc 8 (by simp)
    have y9 : w1.cell? ⟨w.heap.size, 9, none⟩ = some (.slice ha hl hc) := xc 9 (by simp)
    have y10 : w1.cell? ⟨w.heap.size, 10, none⟩ = some (.func (.func 185) #[] #[]) := xc 10 (by simp)
    have y11 : w1.cell? ⟨w.heap.size, 11, none⟩ = some (.func (.func 186) #[] #[]) := xc 11 (by simp)
    clear xc
    go_wp2_with fail
    refine (H2.out _).mono ?_
    rintro e w2 ⟨rfl, hb2⟩
    have HB2 := hid_intro (HB1.out.trans (hb2.mono HB1.out.size))
    have HX2 := hid_intro (HX1.out.below hb2)
    clear hb2
    clear y0 y1 y2 y3 y4 y5 y6 y7 y8 y9 y10 y11
    obtain ⟨xl, xc⟩ := HX2.out
    have y0 : w2.cell? ⟨w.heap.size, 0, none⟩ = some (.string a) := xc 0 (by simp)
    have y1 : w2.cell? ⟨w.heap.size, 1, none⟩ = some (.string m) := xc 1 (by simp)
    have y2 : w2.cell? ⟨w.heap.size, 2, none⟩ = some (.int .i64 mo) := xc 2 (by simp)
    have y3 : w2.cell? ⟨w.heap.size, 3, none⟩ = some (.int .i64 ev) := xc 3 (by simp)
    have y4 : w2.cell? ⟨w.heap.size, 4, none⟩ = some (.int .i64 su) := xc 4 (by simp)
    have y5 : w2.cell? ⟨w.heap.size, 5, none⟩ = some (.int .i64 mx) := xc 5 (by simp)
    have y6 : w2.cell? ⟨w.heap.size, 6, none⟩ = some (.slice ta tl tc) := xc 6 (by simp)
    have y7 : w2.cell? ⟨w.heap.size, 7, none⟩ = some (.func (.func 183) #[] #[]) := xc 7 (by simp)
    have y8 : w2.cell? ⟨w.heap.size, 8, none⟩ = some (.func (.func 184) #[] #[]) := xc 8 (by simp)
    have y9 : w2.cell? ⟨w.heap.size, 9, none⟩ = some (.slice ha hl hc) := xc 9 (by simp)
    have y10 : w2.cell? ⟨w.heap.size, 10, none⟩ = some (.func (.func 185) #[] #[]) := xc 10 (by simp)
    have y11 : w2.cell? ⟨w.heap.size, 11, none⟩ = some (.func (.func 186) #[] #[]) := xc 11 (by simp)
    clear xc
    go_wp2_with fail
    refine (H3.out _ HB2.out).mono ?_
    rintro e w3 ⟨rfl, hb3⟩
    have HB3 := hid_intro (HB2.out.trans (hb3.mono HB2.out.size))
    have HX3 := hid_intro (HX2.out.below hb3)
    clear hb3
    clear y0 y1 y2 y3 y4 y5 y6 y7 y8 y9 y10 y11
    obtain ⟨xl, xc⟩ := HX3.out
    have y0 : w3.cell? ⟨w.heap.size, 0, none⟩ = some (.string a) := xc 0 (by simp)
    have y1 : w3.cell? ⟨w.heap.size, 1, none⟩ = some (.string m) := xc 1 (by simp)
    have y2 : w3.cell? ⟨w.heap.size, 2, none⟩ = some (.int .i64 mo) := xc 2 (by simp)
    have y3 : w3.cell? ⟨w.heap.size, 3, none⟩ = some (.int .i64 ev) := xc 3 (by simp)
    have y4 : w3.cell? ⟨w.heap.size, 4, none⟩ = some (.int .i64 su) := xc 4 (by simp)
    have y5 : w3.cell? ⟨w.heap.size, 5, none⟩ = some (.int .i64 mx) := xc 5 (by simp)
    have y6 : w3.cell? ⟨w.heap.size, 6, none⟩ = some (.slice ta tl tc) := xc 6 (by simp)
    have y7 : w3.cell? ⟨w.heap.size, 7, none⟩ = some (.func (.func 183) #[] #[]) := xc 7 (by simp)
    have y8 : w3.cell? ⟨w.heap.size, 8, none⟩ = some (.func (.func 184) #[] #[]) := xc 8 (by simp)
    have y9 : w3.cell? ⟨w.heap.size, 9, none⟩ = some (.slice ha hl hc) := xc 9 (by simp)
    have y10 : w3.cell? ⟨w.heap.size, 10, none⟩ = some (.func (.func 185) #[] #[]) := xc 10 (by simp)
    have y11 : w3.cell? ⟨w.heap.size, 11, none⟩ = some (.func (.func 186) #[] #[]) := xc 11 (by simp)
    clear xc
    go_wp2_with fail
    refine (H4.out (by first | rfl | trivial) _ HB3.out).mono ?_
    rintro e w4 ⟨rfl, hb4⟩
    have HB4 := hid_intro (HB3.out.trans (hb4.mono HB3.out.size))
    have HX4 := hid_intro (HX3.out.below hb4)
    clear hb4
    go_wp2_with fail
    go_ret
    exact ⟨rfl, HB4.out⟩
theorem impl_right (a m : ByteArray) (mo ev su mx : Int) (ts : List ByteArray) (hs : List H) (ta : Option Addr) (tc : Nat) (ha : Option Addr) (hc : Nat) (w : World) (h1 : a.size ≤ 1048576) (h2 : m.size ≤ 1048576) (h3 : ts.length ≤ 1048576) (h4 : ∀ t ∈ ts, t.size ≤ 1048576) (h5 : hs.length ≤ 1048576) (hL : Laid w) (hT : Tgs ta ts w) (hH : Hrs ha hs w) :
    Calls Tryz.prog 124 #[.agg #[.string a, .string m, .int .i64 mo, .int .i64 ev, .int .i64 su, .int .i64 mx, .slice ta ts.length tc, .func (.func 183) #[] #[], .func (.func 184) #[] #[], .slice ha hs.length hc, .func (.func 185) #[] #[], .func (.func 186) #[] #[]]] w fun e w' => e = .returned (.bool (wB ⟨a, m, mo, ev, su, mx, ts, hs⟩)) ∧ Below w.heap.size w w' :=
  right_in a m mo ev su mx ta ts.length tc ha hs.length hc _ _ _ _ w (fun W => impl_named a m mo W h1 h2) (fun W => impl_counted ev su mx W) (fun W hW => impl_tagged a m mo ev su mx ts ta tc _ W h3 h4 (hT.below hW)) (fun hc W hW => impl_timed a m mo ev su mx hs _ ha _ W h5 (counted_su hc).2.1 (hL.below hW) (hH.below hW))
theorem impl_window_right (x : Wd) (ta : Option Addr) (tc : Nat) (ha : Option Addr) (hc : Nat) (w : World) (h1 : x.a.size ≤ 1048576) (h2 : x.m.size ≤ 1048576) (h3 : x.ts.length ≤ 1048576) (h4 : ∀ t ∈ x.ts, t.size ≤ 1048576) (h5 : x.hs.length ≤ 1048576) (hL : Laid w) (hT : Tgs ta x.ts w) (hH : Hrs ha x.hs w) :
    Calls Tryz.prog 92 #[.agg (wcells x ta tc ha hc)] w fun e w' => e = .returned (.bool (wB x)) ∧ Below w.heap.size w w' := by
  obtain ⟨a, m, mo, ev, su, mx, ts, hs⟩ := x
  dsimp only at *
  have H1 := hid_intro (fun W => impl_usage a m mo ev su mx ta ts.length tc ha hs.length hc W)
  have H2 := hid_intro (fun W (hW : Below w.heap.size w W) => impl_right a m mo ev su mx ts hs ta tc ha hc W h1 h2 h3 h4 h5 (hL.below hW) (hT.below hW) (hH.below hW))
  unfold wcells
  dsimp only
  generalize wB ⟨a, m, mo, ev, su, mx, ts, hs⟩ = R at *
  generalize ts.length = tl at *
  generalize hs.length = hl at *
  clear hL hT hH h4
  have HB0 : Hid (Below w.heap.size w (w.alloc (.cells #[.string a, .string m, .int .i64 mo, .int .i64 ev, .int .i64 su, .int .i64 mx, .slice ta tl tc, .slice ha hl hc] 74))) := hid_intro ((Below.refl _ _).alloc (Nat.le_refl _) _)
  go_enter Tryz.func92, Tryz.ntmps92
  go_wp2_with fail
  refine (H1.out _).mono ?_
  rintro e w1 ⟨rfl, hb1⟩
  have HB1 := hid_intro (HB0.out.trans (hb1.mono HB0.out.size))
  clear hb1
  go_wp2_with fail
  refine (H2.out _ HB1.out).mono ?_
  rintro e w2 ⟨rfl, hb2⟩
  have HB2 := hid_intro (HB1.out.trans (hb2.mono HB1.out.size))
  clear hb2
  go_wp2_with fail
  go_ret
  exact ⟨rfl, HB2.out⟩
end WinR
end Go.Proofs.YtcilbmhkhllmjaaGreatDoor
namespace Go.Proofs.YtcilbmhkhllmjaaGreatDoor
open Go.ChangeShapes Go.WideShapes Go.ChangeAt Go.RowKit
set_option linter.unusedVariables false
namespace WinR
open RowG LtR
theorem tag_word (X : ByteArray) : (WordR.printB X && decide ((X.size : Int) ≤ 10)) = EvtR.tagB X := by
  unfold EvtR.tagB
  rw [Bool.and_comm]
  congr 1
  exact decide_eq_decide.2 (by omega)
theorem ok_none {X : ByteArray} (h : X.size = 0) : tagOk X = false := by unfold tagOk; rw [decide_eq_false (by omega), Bool.false_and]
theorem ok_some {X : ByteArray} (h : X.size ≠ 0) : tagOk X = EvtR.tagB X := by unfold tagOk; rw [decide_eq_true (by omega), Bool.true_and]
set_option maxRecDepth 100000 in
set_option maxHeartbeats 4000000 in
theorem spec_tags (ao : Option Addr) (cap : Nat) (ts : List ByteArray) (w : World) (hlen : ts.length ≤ 1048576) (hS : ∀ t ∈ ts, t.size ≤ 1048576) (hI : Tgs ao ts w) :
    Calls Tryz.prog 79 #[.slice ao ts.length cap] w fun e w' => e = .returned (.bool (tagsB ts)) ∧ Below w.heap.size w w' := by
  have HI := hid_intro hI
  have HS := hid_intro hS
  have HBA := hid_intro (fun k => tags_bad (ts := ts) (k := k))
  have HDO := hid_intro (tags_done (ts := ts))
  generalize tagsB ts = R at *
  obtain ⟨len, hl⟩ : ∃ len, len = ts.length := ⟨_, rfl⟩
  rw [← hl] at hlen ⊢
  have HL := hid_intro hl
  clear hI hl hS
  go_enter Tryz.func79, Tryz.ntmps79
  go_wp2_with fail
  go_loopw [3] (fun z wr => ∃ k : Nat, k ≤ len ∧ z = .int .i64 k ∧ Hid (TUp ts k) ∧ Hid (Below w.heap.size w wr)) (fun z _ => len - (intOf z).toNat)
  case atStart => exact ⟨0, by omega, rfl, hid_intro (TUp.zero ts), hid_intro (Below.refl _ _)⟩
  case round =>
    obtain ⟨k, hk, rfl, HK, HB⟩ := hrel
    by_cases hlt : k < len
    · have hlt2 : (k : Int) < (len : Int) := by omega
      have hkl : k < ts.length := by have := HL.out; omega
      obtain ⟨b, off, rfl, hbl, c0⟩ := (HI.out.below HB.out).at k hkl
      have hsz := HS.out _ (getD_mem (z := tz) ts k hkl)
      have H1 := hid_intro (fun w => WordR.spec_word (ts.getD k tz) 10 w hsz)
      rw [tag_word] at H1
      have HB1 := hid_intro (fun h => HBA.out k hkl (.inl h))
      have HB2 := hid_intro (fun h0 h => HBA.out k hkl (.inr ⟨h0, h⟩))
      have HM := hid_intro (fun h1 h2 => HK.out.more hkl h1 h2)
      have HO0 := hid_intro (ok_none (X := ts.getD k tz))
      have HO1 := hid_intro (ok_some (X := ts.getD k tz))
      rcases (show k = 0 ∨ ∃ j, j + 1 = k from by rcases k with _ | j; exact .inl rfl; exact .inr ⟨j, rfl⟩) with rfl | ⟨j, hkj⟩
      · simp only [Nat.add_zero] at c0
        generalize ts.getD 0 tz = X at *
        by_cases hi : X.size = 0
        · have he := EvtR.empty_of X hi
          have HR : Hid (R = false) := hid_intro (HB1.out (HO0.out hi))
          go_wp2_with fail
          go_quiet ((go_at_call 113; exact Calls.quiet_of_same (H1.out _)))
          go_wp2_with fail
          go_ret
          exact ⟨ret_bool HR.out.symm, bdN HB.out _⟩
        · obtain ⟨he, he2⟩ := EvtR.full_of X hi
          have HO2 := hid_intro (HO1.out hi)
          generalize EvtR.tagB X = g at *
          cases g
          · have HR : Hid (R = false) := hid_intro (HB1.out HO2.out)
            go_wp2_with fail
            go_quiet ((go_at_call 113; exact Calls.quiet_of_same (H1.out _)))
            go_wp2_with fail
            go_ret
            exact ⟨ret_bool HR.out.symm, bdN HB.out _⟩
          · have HM2 := hid_intro (HM.out HO2.out (fun h => absurd h (by omega)))
            go_wp2_with fail
            go_quiet ((go_at_call 113; exact Calls.quiet_of_same (H1.out _)))
            go_wp2_with fail
            go_roundw
            case rel => exact ⟨0 + 1, by omega, by go_num, HM2, hid_intro (bdN HB.out _)⟩
            case measure => simp [intOf]; omega
      · obtain ⟨b', off', hbo, hbl', d0⟩ := (HI.out.below HB.out).at j (by omega)
        obtain ⟨rfl, rfl⟩ : b = b' ∧ off = off' := by simpa using hbo
        have hj1 : IntKind.i64.wrap ((k : Int) - 1) = (j : Int) := by rw [IntKind.wrap_i64]; omega
        have hj2 : 0 < k := by omega
        have hj3 : (j : Int) < (len : Int) := by omega
        rw [show k - 1 = j by omega] at HB2 HM
        clear hbl' hbo hkj
        generalize ts.getD k tz = X at *
        generalize ts.getD j tz = Y at *
        by_cases hi : X.size = 0
        · have he := EvtR.empty_of X hi
          have HR : Hid (R = false) := hid_intro (HB1.out (HO0.out hi))
          go_wp2_with fail
          go_quiet ((go_at_call 113; exact Calls.quiet_of_same (H1.out _)))
          go_wp2_with fail
          go_ret
          exact ⟨ret_bool HR.out.symm, bdN HB.out _⟩
        · obtain ⟨he, he2⟩ := EvtR.full_of X hi
          have HO2 := hid_intro (HO1.out hi)
          generalize EvtR.tagB X = g at *
          cases g
          · have HR : Hid (R = false) := hid_intro (HB1.out HO2.out)
            go_wp2_with fail
            go_quiet ((go_at_call 113; exact Calls.quiet_of_same (H1.out _)))
            go_wp2_with fail
            go_ret
            exact ⟨ret_bool HR.out.symm, bdN HB.out _⟩
          · cases hq : Op.bytesLess Y.toList X.toList
            · have HR : Hid (R = false) := hid_intro (HB2.out hj2 hq)
              go_wp2_with fail
              go_quiet ((go_at_call 113; exact Calls.quiet_of_same (H1.out _)))
              go_wp2_with fail
              go_ret
              exact ⟨ret_bool HR.out.symm, bdN HB.out _⟩
            · have HM2 := hid_intro (HM.out HO2.out (fun _ => hq))
              go_wp2_with fail
              go_quiet ((go_at_call 113; exact Calls.quiet_of_same (H1.out _)))
              go_wp2_with fail
              go_roundw
              case rel => exact ⟨k + 1, by omega, by go_num, HM2, hid_intro (bdN HB.out _)⟩
              case measure => simp [intOf]; omega
    · have hlt2 : ¬ (k : Int) < (len : Int) := by omega
      obtain rfl : k = len := by omega
      have HR : Hid (R = decide (k ≤ 12)) := hid_intro (by rw [HDO.out (by rw [← HL.out]; exact HK.out), ← HL.out])
      by_cases h12 : k ≤ 12
      · rw [decide_eq_true h12] at HR
        have h12' : (k : Int) ≤ 12 := by omega
        go_wp2_with fail
        go_ret
        exact ⟨ret_bool HR.out.symm, HB.out⟩
      · rw [decide_eq_false h12] at HR
        have h12' : ¬ (k : Int) ≤ 12 := by omega
        go_wp2_with fail
        go_ret
        exact ⟨ret_bool HR.out.symm, HB.out⟩
end WinR
end Go.Proofs.YtcilbmhkhllmjaaGreatDoor
namespace Go.Proofs.YtcilbmhkhllmjaaGreatDoor
open Go.ChangeShapes Go.WideShapes Go.ChangeAt Go.RowKit
/-- A world that holds some facts. -/
structure HW (S : World → Prop) where
  w : World
  h : S w
theorem wp_region_hw {P : Program} {id : Nat} {Q : Exit → Act → World → Prop} {a : Act} {w : World} {l : List Oper} (S : World → Prop) (hm : P.follows .mixedOrders = true) (hB : Region.lexB .any l.toArray = true) (hC : S w.drew)
    (h : wpQuiet P l.toArray (fun w' => ∃ s : HW S, w' = s.w) (fun a' => ∀ w', (∃ s : HW S, w' = s.w) → Q .normal a' w') l a) : (Code.region id l.toArray true).wp P Q a w :=
  wp_region_quiet (C := fun w' => ∃ s : HW S, w' = s.w) hm hB ⟨⟨_, hC⟩, rfl⟩ (by simpa using h)
end Go.Proofs.YtcilbmhkhllmjaaGreatDoor
