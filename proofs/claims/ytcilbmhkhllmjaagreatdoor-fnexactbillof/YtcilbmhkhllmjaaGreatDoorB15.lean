/-
  A window as the program works with it, and what it calls right. The conditions: texts of at most 1048576 bytes, lists of at most 1048576; the program's table stands in its variable.
-/
import Derived.Laws.EntriesVeiled
import Derived.Test.YtcilbmhkhllmjaaGreatDoorB14
namespace Go.Proofs.YtcilbmhkhllmjaaGreatDoor
open Go.ChangeShapes Go.WideShapes Go.ChangeAt Go.RowKit
set_option linter.unusedVariables false
namespace WinR
open RowG LtR
open CatR (Blk Blk.new)
open DateR (Laid)
open EvtR (Pt)
theorem impl_rtags (ta : Option Addr) (tl tc : Nat) (w : World) :
    Calls Tryz.prog 145 #[.slice ta tl tc] w fun e w' => e = .returned (.agg #[.slice ta tl tc, .func (.func 183) #[] #[], .func (.func 184) #[] #[]]) ∧ Below w.heap.size w w' := by
  go_enter Tryz.func145, Tryz.ntmps145
  go_wp2_with fail
  refine bodyPost_ret (v := .agg #[.slice ta tl tc, .func (.func 183) #[] #[], .func (.func 184) #[] #[]]) (by simp [results, Tryz.results145, go_sem]) rfl ⟨rfl, ?_⟩
  repeat' first | exact Below.refl _ _ | apply Below.setCell | apply Below.alloc
  all_goals first | omega | (simp; done) | (simp; omega)
theorem impl_rhours (ta : Option Addr) (tl tc : Nat) (w : World) :
    Calls Tryz.prog 146 #[.slice ta tl tc] w fun e w' => e = .returned (.agg #[.slice ta tl tc, .func (.func 185) #[] #[], .func (.func 186) #[] #[]]) ∧ Below w.heap.size w w' := by
  go_enter Tryz.func146, Tryz.ntmps146
  go_wp2_with fail
  refine bodyPost_ret (v := .agg #[.slice ta tl tc, .func (.func 185) #[] #[], .func (.func 186) #[] #[]]) (by simp [results, Tryz.results146, go_sem]) rfl ⟨rfl, ?_⟩
  repeat' first | exact Below.refl _ _ | apply Below.setCell | apply Below.alloc
  all_goals first | omega | (simp; done) | (simp; omega)
/-- The window's block and the one that is handed back. -/
def UBx (w : World) (a m : ByteArray) (mo ev su mx : Int) (ta : Option Addr) (tl tc : Nat) (ha : Option Addr) (hl hc : Nat) (W : World) : Prop := Below w.heap.size w W ∧ w.heap.size + 1 < W.heap.size ∧ W.cell? ⟨w.heap.size, 0, none⟩ = some (.string a) ∧ W.cell? ⟨w.heap.size, 1, none⟩ = some (.string m) ∧ W.cell? ⟨w.heap.size, 2, none⟩ = some (.int .i64 mo) ∧ W.cell? ⟨w.heap.size, 3, none⟩ = some (.int .i64 ev) ∧ W.cell? ⟨w.heap.size, 4, none⟩ = some (.int .i64 su) ∧ W.cell? ⟨w.heap.size, 5, none⟩ = some (.int .i64 mx) ∧ W.cell? ⟨w.heap.size, 6, none⟩ = some (.slice ta tl tc) ∧ W.cell? ⟨w.heap.size, 7, none⟩ = some (.slice ha hl hc) ∧ Pt (w.heap.size + 1) 12 W
theorem UBx.below {w : World} {a m : ByteArray} {mo ev su mx : Int} {ta : Option Addr} {tl tc : Nat} {ha : Option Addr} {hl hc : Nat} {W W' : World} (h : UBx w a m mo ev su mx ta tl tc ha hl hc W) (hb : Below W.heap.size W W') : UBx w a m mo ev su mx ta tl tc ha hl hc W' := by
  obtain ⟨h0, h1, c0, c1, c2, c3, c4, c5, c6, c7, hp⟩ := h
  have c := fun o => hb.cell (p := ⟨w.heap.size, o, none⟩) (Nat.lt_trans (Nat.lt_succ_self _) h1)
  have := hb.size
  exact ⟨h0.trans (hb.mono h0.size), by omega, (c 0).trans c0, (c 1).trans c1, (c 2).trans c2, (c 3).trans c3, (c 4).trans c4, (c 5).trans c5, (c 6).trans c6, (c 7).trans c7, hp.below hb⟩
theorem UBx.put {w : World} {a m : ByteArray} {mo ev su mx : Int} {ta : Option Addr} {tl tc : Nat} {ha : Option Addr} {hl hc : Nat} {W : World} (h : UBx w a m mo ev su mx ta tl tc ha hl hc W) (o : Nat) (v : Value) : UBx w a m mo ev su mx ta tl tc ha hl hc (W.setCell ⟨w.heap.size + 1, o, none⟩ v) := by
  obtain ⟨h0, h1, c0, c1, c2, c3, c4, c5, c6, c7, hp⟩ := h
  exact ⟨h0.setCell (by simp) _, by simpa using h1, by simp [go_sem, c0], by simp [go_sem, c1], by simp [go_sem, c2], by simp [go_sem, c3], by simp [go_sem, c4], by simp [go_sem, c5], by simp [go_sem, c6], by simp [go_sem, c7], hp.set _ _⟩
theorem UBx.out {w : World} {a m : ByteArray} {mo ev su mx : Int} {ta : Option Addr} {tl tc : Nat} {ha : Option Addr} {hl hc : Nat} {W : World} (h : UBx w a m mo ev su mx ta tl tc ha hl hc W) : ∃ v0 v1 v2 v3 v4 v5 v6 v7 v8 v9 v10 v11, W.cell? ⟨w.heap.size + 1, 0, none⟩ = some v0 ∧ W.cell? ⟨w.heap.size + 1, 1, none⟩ = some v1 ∧ W.cell? ⟨w.heap.size + 1, 2, none⟩ = some v2 ∧ W.cell? ⟨w.heap.size + 1, 3, none⟩ = some v3 ∧ W.cell? ⟨w.heap.size + 1, 4, none⟩ = some v4 ∧ W.cell? ⟨w.heap.size + 1, 5, none⟩ = some v5 ∧ W.cell? ⟨w.heap.size + 1, 6, none⟩ = some v6 ∧ W.cell? ⟨w.heap.size + 1, 7, none⟩ = some v7 ∧ W.cell? ⟨w.heap.size + 1, 8, none⟩ = some v8 ∧ W.cell? ⟨w.heap.size + 1, 9, none⟩ = some v9 ∧ W.cell? ⟨w.heap.size + 1, 10, none⟩ = some v10 ∧ W.cell? ⟨w.heap.size + 1, 11, none⟩ = some v11 ∧ W.frozen? ⟨w.heap.size + 1, 0, none⟩ = false ∧ W.frozen? ⟨w.heap.size + 1, 1, none⟩ = false ∧ W.frozen? ⟨w.heap.size + 1, 2, none⟩ = false ∧ W.frozen? ⟨w.heap.size + 1, 3, none⟩ = false ∧ W.frozen? ⟨w.heap.size + 1, 4, none⟩ = false ∧ W.frozen? ⟨w.heap.size + 1, 5, none⟩ = false ∧ W.frozen? ⟨w.heap.size + 1, 6, none⟩ = false ∧ W.frozen? ⟨w.heap.size + 1, 7, none⟩ = false ∧ W.frozen? ⟨w.heap.size + 1, 8, none⟩ = false ∧ W.frozen? ⟨w.heap.size + 1, 9, none⟩ = false ∧ W.frozen? ⟨w.heap.size + 1, 10, none⟩ = false ∧ W.frozen? ⟨w.heap.size + 1, 11, none⟩ = false := by
  obtain ⟨_, _, _, _, _, _, _, _, _, _, hp⟩ := h
  obtain ⟨v0, e0⟩ := hp.has 0 (by omega)
  obtain ⟨v1, e1⟩ := hp.has 1 (by omega)
  obtain ⟨v2, e2⟩ := hp.has 2 (by omega)
  obtain ⟨v3, e3⟩ := hp.has 3 (by omega)
  obtain ⟨v4, e4⟩ := hp.has 4 (by omega)
  obtain ⟨v5, e5⟩ := hp.has 5 (by omega)
  obtain ⟨v6, e6⟩ := hp.has 6 (by omega)
  obtain ⟨v7, e7⟩ := hp.has 7 (by omega)
  obtain ⟨v8, e8⟩ := hp.has 8 (by omega)
  obtain ⟨v9, e9⟩ := hp.has 9 (by omega)
  obtain ⟨v10, e10⟩ := hp.has 10 (by omega)
  obtain ⟨v11, e11⟩ := hp.has 11 (by omega)
  exact ⟨v0, v1, v2, v3, v4, v5, v6, v7, v8, v9, v10, v11, e0, e1, e2, e3, e4, e5, e6, e7, e8, e9, e10, e11, hp.free 0 (by omega), hp.free 1 (by omega), hp.free 2 (by omega), hp.free 3 (by omega), hp.free 4 (by omega), hp.free 5 (by omega), hp.free 6 (by omega), hp.free 7 (by omega), hp.free 8 (by omega), hp.free 9 (by omega), hp.free 10 (by omega), hp.free 11 (by omega)⟩
set_option maxRecDepth 100000 in
set_option maxHeartbeats 8000000 in
theorem impl_usage (a m : ByteArray) (mo ev su mx : Int) (ta : Option Addr) (tl tc : Nat) (ha : Option Addr) (hl hc : Nat) (w : World) :
    Calls Tryz.prog 123 #[.agg #[.string a, .string m, .int .i64 mo, .int .i64 ev, .int .i64 su, .int .i64 mx, .slice ta tl tc, .slice ha hl hc]] w fun e w' => e = .returned (.agg #[.string a, .string m, .int .i64 mo, .int .i64 ev, .int .i64 su, .int .i64 mx, .slice ta tl tc, .func (.func 183) #[] #[], .func (.func 184) #[] #[], .slice ha hl hc, .func (.func 185) #[] #[], .func (.func 186) #[] #[]]) ∧ Below w.heap.size w w' := by
  go_enter Tryz.func123, Tryz.ntmps123
  go_wp2_with fail
  have HT0 : Hid (UBx w a m mo ev su mx ta tl tc ha hl hc (((w.alloc (.cells #[.string a, .string m, .int .i64 mo, .int .i64 ev, .int .i64 su, .int .i64 mx, .slice ta tl tc, .slice ha hl hc] 74)).alloc (.cells #[.string ⟨#[]⟩, .string ⟨#[]⟩, .int .i64 0, .int .i64 0, .int .i64 0, .int .i64 0, .slice none 0 0, .nilFunc, .nilFunc, .slice none 0 0, .nilFunc, .nilFunc] 185)).drew)) := hid_intro (by
    refine ⟨((((Below.refl _ _).alloc (Nat.le_refl _) _).alloc (by simp) _).drew), by simp, by simp [go_sem], by simp [go_sem], by simp [go_sem], by simp [go_sem], by simp [go_sem], by simp [go_sem], by simp [go_sem], by simp [go_sem], by simp, fun o ho => ?_, fun o ho => ?_⟩
    · match o, ho with
      | 0, _ => exact ⟨_, by simp [go_sem]; rfl⟩
      | 1, _ => exact ⟨_, by simp [go_sem]; rfl⟩
      | 2, _ => exact ⟨_, by simp [go_sem]; rfl⟩
      | 3, _ => exact ⟨_, by simp [go_sem]; rfl⟩
      | 4, _ => exact ⟨_, by simp [go_sem]; rfl⟩
      | 5, _ => exact ⟨_, by simp [go_sem]; rfl⟩
      | 6, _ => exact ⟨_, by simp [go_sem]; rfl⟩
      | 7, _ => exact ⟨_, by simp [go_sem]; rfl⟩
      | 8, _ => exact ⟨_, by simp [go_sem]; rfl⟩
      | 9, _ => exact ⟨_, by simp [go_sem]; rfl⟩
      | 10, _ => exact ⟨_, by simp [go_sem]; rfl⟩
      | 11, _ => exact ⟨_, by simp [go_sem]; rfl⟩
    · match o, ho with
      | 0, _ => simp [go_sem]
      | 1, _ => simp [go_sem]
      | 2, _ => simp [go_sem]
      | 3, _ => simp [go_sem]
      | 4, _ => simp [go_sem]
      | 5, _ => simp [go_sem]
      | 6, _ => simp [go_sem]
      | 7, _ => simp [go_sem]
      | 8, _ => simp [go_sem]
      | 9, _ => simp [go_sem]
      | 10, _ => simp [go_sem]
      | 11, _ => simp [go_sem]
)
  refine wp_region_held_drew (S := (fun W => Below w.heap.size w W ∧ w.heap.size + 1 < W.heap.size ∧ W.cell? ⟨w.heap.size, 0, none⟩ = some (.string a) ∧ W.cell? ⟨w.heap.size, 1, none⟩ = some (.string m) ∧ W.cell? ⟨w.heap.size, 2, none⟩ = some (.int .i64 mo) ∧ W.cell? ⟨w.heap.size, 3, none⟩ = some (.int .i64 ev) ∧ W.cell? ⟨w.heap.size, 4, none⟩ = some (.int .i64 su) ∧ W.cell? ⟨w.heap.size, 5, none⟩ = some (.int .i64 mx) ∧ W.cell? ⟨w.heap.size, 6, none⟩ = some (.slice ta tl tc) ∧ W.cell? ⟨w.heap.size, 7, none⟩ = some (.slice ha hl hc) ∧ Pt (w.heap.size + 1) 12 W)) (by kernel_rfl) HT0.out (fun hHeld => ?_)
  refine wpAnyH_take (i := 0) (oi := { dst := some 3, op := Op.fieldAddr 74 (Operand.tmp 1) 0, type := 0, pos := "l07_window.go:134", after := #[], guard := none }) (v := ?_) rfl (by kernel_rfl) (by kernel_rfl) (by kernel_rfl) (fun _ _ _ h => h) (Or.inl ⟨by rfl, ?_⟩) (by assumption) ?_
  rotate_left
  · (intro w hSw; (try dsimp only at hSw); go_simp) <;> with_reducible rfl
  try simp only [Act.put, List.setIfInBounds_toArray, List.set_cons_zero, List.set_cons_succ]
  refine wpAnyH_take (i := 1) (oi := { dst := some 4, op := Op.load 9 (Operand.tmp 3), type := 9, pos := "l07_window.go:134", after := #[{ on := 0, ground := Ground.data }], guard := none }) (v := ?_) rfl (by kernel_rfl) (by kernel_rfl) (by kernel_rfl) (fun _ _ _ h => h) (Or.inl ⟨by rfl, ?_⟩) (by assumption) ?_
  rotate_left
  · (intro w hSw; (try dsimp only at hSw); go_simp) <;> with_reducible rfl
  try simp only [Act.put, List.setIfInBounds_toArray, List.set_cons_zero, List.set_cons_succ]
  refine wpAnyH_take (i := 2) (oi := { dst := some 5, op := Op.fieldAddr 74 (Operand.tmp 1) 1, type := 0, pos := "l07_window.go:134", after := #[], guard := none }) (v := ?_) rfl (by kernel_rfl) (by kernel_rfl) (by kernel_rfl) (fun _ _ _ h => h) (Or.inl ⟨by rfl, ?_⟩) (by assumption) ?_
  rotate_left
  · (intro w hSw; (try dsimp only at hSw); go_simp) <;> with_reducible rfl
  try simp only [Act.put, List.setIfInBounds_toArray, List.set_cons_zero, List.set_cons_succ]
  refine wpAnyH_take (i := 3) (oi := { dst := some 6, op := Op.load 9 (Operand.tmp 5), type := 9, pos := "l07_window.go:134", after := #[{ on := 2, ground := Ground.data }], guard := none }) (v := ?_) rfl (by kernel_rfl) (by kernel_rfl) (by kernel_rfl) (fun _ _ _ h => h) (Or.inl ⟨by rfl, ?_⟩) (by assumption) ?_
  rotate_left
  · (intro w hSw; (try dsimp only at hSw); go_simp) <;> with_reducible rfl
  try simp only [Act.put, List.setIfInBounds_toArray, List.set_cons_zero, List.set_cons_succ]
  refine wpAnyH_take (i := 4) (oi := { dst := some 7, op := Op.fieldAddr 74 (Operand.tmp 1) 2, type := 0, pos := "l07_window.go:134", after := #[], guard := none }) (v := ?_) rfl (by kernel_rfl) (by kernel_rfl) (by kernel_rfl) (fun _ _ _ h => h) (Or.inl ⟨by rfl, ?_⟩) (by assumption) ?_
  rotate_left
  · (intro w hSw; (try dsimp only at hSw); go_simp) <;> with_reducible rfl
  try simp only [Act.put, List.setIfInBounds_toArray, List.set_cons_zero, List.set_cons_succ]
  refine wpAnyH_take (i := 5) (oi := { dst := some 8, op := Op.load 2 (Operand.tmp 7), type := 2, pos := "l07_window.go:134", after := #[{ on := 4, ground := Ground.data }], guard := none }) (v := ?_) rfl (by kernel_rfl) (by kernel_rfl) (by kernel_rfl) (fun _ _ _ h => h) (Or.inl ⟨by rfl, ?_⟩) (by assumption) ?_
  rotate_left
  · (intro w hSw; (try dsimp only at hSw); go_simp) <;> with_reducible rfl
  try simp only [Act.put, List.setIfInBounds_toArray, List.set_cons_zero, List.set_cons_succ]
  refine wpAnyH_take (i := 6) (oi := { dst := some 9, op := Op.build 174 #[(0, Operand.tmp 4), (1, Operand.tmp 6), (2, Operand.tmp 8)], type := 174, pos := "l07_window.go:134", after := #[{ on := 1, ground := Ground.data }, { on := 3, ground := Ground.data }, { on := 5, ground := Ground.data }], guard := none }) (v := ?_) rfl (by kernel_rfl) (by kernel_rfl) (by kernel_rfl) (fun _ _ _ h => h) (Or.inl ⟨by rfl, ?_⟩) (by assumption) ?_
  rotate_left
  · (intro w hSw; (try dsimp only at hSw); go_simp) <;> with_reducible rfl
  try simp only [Act.put, List.setIfInBounds_toArray, List.set_cons_zero, List.set_cons_succ]
  refine wpAnyH_take (i := 7) (oi := { dst := some 10, op := Op.fieldAddr 74 (Operand.tmp 1) 3, type := 0, pos := "l07_window.go:134", after := #[], guard := none }) (v := ?_) rfl (by kernel_rfl) (by kernel_rfl) (by kernel_rfl) (fun _ _ _ h => h) (Or.inl ⟨by rfl, ?_⟩) (by assumption) ?_
  rotate_left
  · (intro w hSw; (try dsimp only at hSw); go_simp) <;> with_reducible rfl
  try simp only [Act.put, List.setIfInBounds_toArray, List.set_cons_zero, List.set_cons_succ]
  refine wpAnyH_take (i := 8) (oi := { dst := some 11, op := Op.load 2 (Operand.tmp 10), type := 2, pos := "l07_window.go:134", after := #[{ on := 7, ground := Ground.data }], guard := none }) (v := ?_) rfl (by kernel_rfl) (by kernel_rfl) (by kernel_rfl) (fun _ _ _ h => h) (Or.inl ⟨by rfl, ?_⟩) (by assumption) ?_
  rotate_left
  · (intro w hSw; (try dsimp only at hSw); go_simp) <;> with_reducible rfl
  try simp only [Act.put, List.setIfInBounds_toArray, List.set_cons_zero, List.set_cons_succ]
  refine wpAnyH_take (i := 9) (oi := { dst := some 12, op := Op.fieldAddr 74 (Operand.tmp 1) 4, type := 0, pos := "l07_window.go:134", after := #[], guard := none }) (v := ?_) rfl (by kernel_rfl) (by kernel_rfl) (by kernel_rfl) (fun _ _ _ h => h) (Or.inl ⟨by rfl, ?_⟩) (by assumption) ?_
  rotate_left
  · (intro w hSw; (try dsimp only at hSw); go_simp) <;> with_reducible rfl
  try simp only [Act.put, List.setIfInBounds_toArray, List.set_cons_zero, List.set_cons_succ]
  refine wpAnyH_take (i := 10) (oi := { dst := some 13, op := Op.load 2 (Operand.tmp 12), type := 2, pos := "l07_window.go:134", after := #[{ on := 9, ground := Ground.data }], guard := none }) (v := ?_) rfl (by kernel_rfl) (by kernel_rfl) (by kernel_rfl) (fun _ _ _ h => h) (Or.inl ⟨by rfl, ?_⟩) (by assumption) ?_
  rotate_left
  · (intro w hSw; (try dsimp only at hSw); go_simp) <;> with_reducible rfl
  try simp only [Act.put, List.setIfInBounds_toArray, List.set_cons_zero, List.set_cons_succ]
  refine wpAnyH_take (i := 11) (oi := { dst := some 14, op := Op.fieldAddr 74 (Operand.tmp 1) 5, type := 0, pos := "l07_window.go:134", after := #[], guard := none }) (v := ?_) rfl (by kernel_rfl) (by kernel_rfl) (by kernel_rfl) (fun _ _ _ h => h) (Or.inl ⟨by rfl, ?_⟩) (by assumption) ?_
  rotate_left
  · (intro w hSw; (try dsimp only at hSw); go_simp) <;> with_reducible rfl
  try simp only [Act.put, List.setIfInBounds_toArray, List.set_cons_zero, List.set_cons_succ]
  refine wpAnyH_take (i := 12) (oi := { dst := some 15, op := Op.load 2 (Operand.tmp 14), type := 2, pos := "l07_window.go:134", after := #[{ on := 11, ground := Ground.data }], guard := none }) (v := ?_) rfl (by kernel_rfl) (by kernel_rfl) (by kernel_rfl) (fun _ _ _ h => h) (Or.inl ⟨by rfl, ?_⟩) (by assumption) ?_
  rotate_left
  · (intro w hSw; (try dsimp only at hSw); go_simp) <;> with_reducible rfl
  try simp only [Act.put, List.setIfInBounds_toArray, List.set_cons_zero, List.set_cons_succ]
  refine wpAnyH_take (i := 13) (oi := { dst := some 16, op := Op.build 176 #[(0, Operand.tmp 11), (1, Operand.tmp 13), (2, Operand.tmp 15)], type := 176, pos := "l07_window.go:134", after := #[{ on := 8, ground := Ground.data }, { on := 10, ground := Ground.data }, { on := 12, ground := Ground.data }], guard := none }) (v := ?_) rfl (by kernel_rfl) (by kernel_rfl) (by kernel_rfl) (fun _ _ _ h => h) (Or.inl ⟨by rfl, ?_⟩) (by assumption) ?_
  rotate_left
  · (intro w hSw; (try dsimp only at hSw); go_simp) <;> with_reducible rfl
  try simp only [Act.put, List.setIfInBounds_toArray, List.set_cons_zero, List.set_cons_succ]
  refine wpAnyH_take (i := 14) (oi := { dst := some 17, op := Op.fieldAddr 74 (Operand.tmp 1) 6, type := 0, pos := "l07_window.go:134", after := #[], guard := none }) (v := ?_) rfl (by kernel_rfl) (by kernel_rfl) (by kernel_rfl) (fun _ _ _ h => h) (Or.inl ⟨by rfl, ?_⟩) (by assumption) ?_
  rotate_left
  · (intro w hSw; (try dsimp only at hSw); go_simp) <;> with_reducible rfl
  try simp only [Act.put, List.setIfInBounds_toArray, List.set_cons_zero, List.set_cons_succ]
  refine wpAnyH_take (i := 15) (oi := { dst := some 18, op := Op.load 64 (Operand.tmp 17), type := 64, pos := "l07_window.go:134", after := #[{ on := 14, ground := Ground.data }], guard := none }) (v := ?_) rfl (by kernel_rfl) (by kernel_rfl) (by kernel_rfl) (fun _ _ _ h => h) (Or.inl ⟨by rfl, ?_⟩) (by assumption) ?_
  rotate_left
  · (intro w hSw; (try dsimp only at hSw); go_simp) <;> with_reducible rfl
  try simp only [Act.put, List.setIfInBounds_toArray, List.set_cons_zero, List.set_cons_succ]
  refine wpAnyH_take (i := 17) (oi := { dst := some 20, op := Op.fieldAddr 74 (Operand.tmp 1) 7, type := 0, pos := "l07_window.go:134", after := #[], guard := none }) (v := ?_) rfl (by kernel_rfl) (by kernel_rfl) (by kernel_rfl) (fun _ _ _ h => h) (Or.inl ⟨by rfl, ?_⟩) (by assumption) ?_
  rotate_left
  · (intro w hSw; (try dsimp only at hSw); go_simp) <;> with_reducible rfl
  try simp only [Act.put, List.setIfInBounds_toArray, List.set_cons_zero, List.set_cons_succ]
  refine wpAnyH_take (i := 18) (oi := { dst := some 21, op := Op.load 72 (Operand.tmp 20), type := 72, pos := "l07_window.go:134", after := #[{ on := 17, ground := Ground.data }], guard := none }) (v := ?_) rfl (by kernel_rfl) (by kernel_rfl) (by kernel_rfl) (fun _ _ _ h => h) (Or.inl ⟨by rfl, ?_⟩) (by assumption) ?_
  rotate_left
  · (intro w hSw; (try dsimp only at hSw); go_simp) <;> with_reducible rfl
  try simp only [Act.put, List.setIfInBounds_toArray, List.set_cons_zero, List.set_cons_succ]
  refine wpAnyH_ready (rs := [16]) (by kernel_rfl) (by simp) ?_
  refine AllReadyH.cons (o := { dst := some 19, op := Op.call { callee := Callee.value (Operand.func 145), args := #[Operand.tmp 18], argTypes := #[64] }, type := 179, pos := "l07_window.go:137", after := #[{ on := 15, ground := Ground.data }], guard := none }) rfl (fun K hK => ?_) AllReadyH.nil
  go_simp
  go_at_call 145
  refine (impl_rtags _ _ _ _).mono ?_
  rintro e q1 ⟨rfl, hq1⟩
  try go_wp2_with fail
  have hk1 := UBx.below (w := w) (a := a) (m := m) (mo := mo) (ev := ev) (su := su) (mx := mx) (ta := ta) (tl := tl) (tc := tc) (ha := ha) (hl := hl) (hc := hc) HT0.out hq1
  refine hK.out _ _ hk1 (fun _ => ?_)
  clear hK K
  try simp only [Act.put, List.setIfInBounds_toArray, List.set_cons_zero, List.set_cons_succ]
  refine wpAnyH_ready (rs := [19]) (by kernel_rfl) (by simp) ?_
  refine AllReadyH.cons (o := { dst := some 22, op := Op.call { callee := Callee.value (Operand.func 146), args := #[Operand.tmp 21], argTypes := #[72] }, type := 183, pos := "l07_window.go:138", after := #[{ on := 18, ground := Ground.data }, { on := 16, ground := Ground.chain }], guard := none }) rfl (fun K hK => ?_) AllReadyH.nil
  go_simp
  go_at_call 146
  refine (impl_rhours _ _ _ _).mono ?_
  rintro e q2 ⟨rfl, hq2⟩
  try go_wp2_with fail
  have hk2 := UBx.below (w := w) (a := a) (m := m) (mo := mo) (ev := ev) (su := su) (mx := mx) (ta := ta) (tl := tl) (tc := tc) (ha := ha) (hl := hl) (hc := hc) hk1 hq2
  refine hK.out _ _ hk2 (fun _ => ?_)
  clear hK K
  try simp only [Act.put, List.setIfInBounds_toArray, List.set_cons_zero, List.set_cons_succ]
  refine wpAnyH_take (i := 20) (oi := { dst := some 23, op := Op.build 185 #[(0, Operand.tmp 9), (1, Operand.tmp 16), (2, Operand.tmp 19), (3, Operand.tmp 22)], type := 185, pos := "l07_window.go:134", after := #[{ on := 6, ground := Ground.data }, { on := 13, ground := Ground.data }, { on := 16, ground := Ground.data }, { on := 19, ground := Ground.data }], guard := none }) (v := ?_) rfl (by kernel_rfl) (by kernel_rfl) (by kernel_rfl) (fun _ _ _ h => h) (Or.inl ⟨by rfl, ?_⟩) (by assumption) ?_
  rotate_left
  · (intro w hSw; (try dsimp only at hSw); go_simp) <;> with_reducible rfl
  try simp only [Act.put, List.setIfInBounds_toArray, List.set_cons_zero, List.set_cons_succ]
  obtain ⟨v0, v1, v2, v3, v4, v5, v6, v7, v8, v9, v10, v11, r0, r1, r2, r3, r4, r5, r6, r7, r8, r9, r10, r11, z0, z1, z2, z3, z4, z5, z6, z7, z8, z9, z10, z11⟩ := UBx.out (w := w) (a := a) (m := m) (mo := mo) (ev := ev) (su := su) (mx := mx) (ta := ta) (tl := tl) (tc := tc) (ha := ha) (hl := hl) (hc := hc) hk2
  have hlt := hk2.2.1
  refine wpAnyH_ready (rs := [21]) (by kernel_rfl) (by simp) ?_
  refine AllReadyH.cons (o := { dst := none, op := Op.store 185 (Operand.tmp 2) (Operand.tmp 23), type := 0, pos := "l07_window.go:134", after := #[{ on := 20, ground := Ground.data }, { on := 19, ground := Ground.chain }, { on := 0, ground := Ground.phase }, { on := 1, ground := Ground.phase }, { on := 2, ground := Ground.phase }, { on := 3, ground := Ground.phase }, { on := 4, ground := Ground.phase }, { on := 5, ground := Ground.phase }, { on := 6, ground := Ground.phase }, { on := 7, ground := Ground.phase }, { on := 8, ground := Ground.phase }, { on := 9, ground := Ground.phase }, { on := 10, ground := Ground.phase }, { on := 11, ground := Ground.phase }, { on := 12, ground := Ground.phase }, { on := 13, ground := Ground.phase }, { on := 14, ground := Ground.phase }, { on := 15, ground := Ground.phase }, { on := 16, ground := Ground.phase }, { on := 17, ground := Ground.phase }, { on := 18, ground := Ground.phase }, { on := 19, ground := Ground.phase }, { on := 20, ground := Ground.phase }], guard := none }) rfl (fun K hK => ?_) AllReadyH.nil
  go_simp
  try go_wp2_with fail
  have hk3 := (UBx.put (w := w) (a := a) (m := m) (mo := mo) (ev := ev) (su := su) (mx := mx) (ta := ta) (tl := tl) (tc := tc) (ha := ha) (hl := hl) (hc := hc) (UBx.put (w := w) (a := a) (m := m) (mo := mo) (ev := ev) (su := su) (mx := mx) (ta := ta) (tl := tl) (tc := tc) (ha := ha) (hl := hl) (hc := hc) (UBx.put (w := w) (a := a) (m := m) (mo := mo) (ev := ev) (su := su) (mx := mx) (ta := ta) (tl := tl) (tc := tc) (ha := ha) (hl := hl) (hc := hc) (UBx.put (w := w) (a := a) (m := m) (mo := mo) (ev := ev) (su := su) (mx := mx) (ta := ta) (tl := tl) (tc := tc) (ha := ha) (hl := hl) (hc := hc) (UBx.put (w := w) (a := a) (m := m) (mo := mo) (ev := ev) (su := su) (mx := mx) (ta := ta) (tl := tl) (tc := tc) (ha := ha) (hl := hl) (hc := hc) (UBx.put (w := w) (a := a) (m := m) (mo := mo) (ev := ev) (su := su) (mx := mx) (ta := ta) (tl := tl) (tc := tc) (ha := ha) (hl := hl) (hc := hc) (UBx.put (w := w) (a := a) (m := m) (mo := mo) (ev := ev) (su := su) (mx := mx) (ta := ta) (tl := tl) (tc := tc) (ha := ha) (hl := hl) (hc := hc) (UBx.put (w := w) (a := a) (m := m) (mo := mo) (ev := ev) (su := su) (mx := mx) (ta := ta) (tl := tl) (tc := tc) (ha := ha) (hl := hl) (hc := hc) (UBx.put (w := w) (a := a) (m := m) (mo := mo) (ev := ev) (su := su) (mx := mx) (ta := ta) (tl := tl) (tc := tc) (ha := ha) (hl := hl) (hc := hc) (UBx.put (w := w) (a := a) (m := m) (mo := mo) (ev := ev) (su := su) (mx := mx) (ta := ta) (tl := tl) (tc := tc) (ha := ha) (hl := hl) (hc := hc) (UBx.put (w := w) (a := a) (m := m) (mo := mo) (ev := ev) (su := su) (mx := mx) (ta := ta) (tl := tl) (tc := tc) (ha := ha) (hl := hl) (hc := hc) (UBx.put (w := w) (a := a) (m := m) (mo := mo) (ev := ev) (su := su) (mx := mx) (ta := ta) (tl := tl) (tc := tc) (ha := ha) (hl := hl) (hc := hc) hk2 0 (.string a)) 1 (.string m)) 2 (.int .i64 mo)) 3 (.int .i64 ev)) 4 (.int .i64 su)) 5 (.int .i64 mx)) 6 (.slice ta tl tc)) 7 (.func (.func 183) #[] #[])) 8 (.func (.func 184) #[] #[])) 9 (.slice ha hl hc)) 10 (.func (.func 185) #[] #[])) 11 (.func (.func 186) #[] #[]))
  refine hK.out _ _ hk3 (fun _ => ?_)
  clear hK K
  try simp only [Act.put, List.setIfInBounds_toArray, List.set_cons_zero, List.set_cons_succ]
  refine wpAnyH_done (by kernel_rfl) ?_ _
  have HB := hid_intro hk3.1
  clear hk3 hk2 hk1
  go_wp2_with fail
  refine bodyPost_ret (v := .agg #[.string a, .string m, .int .i64 mo, .int .i64 ev, .int .i64 su, .int .i64 mx, .slice ta tl tc, .func (.func 183) #[] #[], .func (.func 184) #[] #[], .slice ha hl hc, .func (.func 185) #[] #[], .func (.func 186) #[] #[]]) (by simp [results, Tryz.results123, go_sem, r0, r1, r2, r3, r4, r5, r6, r7, r8, r9, r10, r11]) rfl ⟨rfl, HB.out⟩
end WinR
end Go.Proofs.YtcilbmhkhllmjaaGreatDoor
