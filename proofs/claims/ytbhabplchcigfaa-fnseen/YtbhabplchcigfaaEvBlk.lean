/-
  An event's block that nothing has written yet, and worlds in which one block alone was written. No condition.
-/
import Derived.Test.YtbhabplchcigfaaEvt
namespace Go.Proofs.Ytbhabplchcigfaa
open Go.ChangeShapes Go.WideShapes Go.ChangeAt Go.RowKit
set_option linter.unusedVariables false
namespace DrawR
def zeroE : List Value := [.string ⟨#[]⟩, .string ⟨#[]⟩, .string ⟨#[]⟩, .int .i64 0, .int .i64 0, .string ⟨#[]⟩]
theorem rset (w : World) (b o : Nat) (v : Value) : w.grownBy (w.setCell ⟨b, o, none⟩ v) (some b) := by
  refine ⟨rfl, rfl, rfl, by simp, fun k hk hne => ?_⟩
  simp only [World.setCell]
  rw [Array.getElem?_modify, if_neg (fun e => hne (by rw [e]))]
theorem rgrown {w w' : World} (hb : Below w.heap.size w w') (row : Option Nat) : w.grownBy w' row := ⟨hb.os, hb.tape, hb.output, hb.size, fun k hk _ => hb.block k hk⟩
/-- An event's block that nothing has written yet. -/
def Z6 (B : Nat) (w : World) : Prop := B < w.heap.size ∧ (∀ k, k < 6 → w.cell? ⟨B, k, none⟩ = zeroE[k]? ∧ w.frozen? ⟨B, k, none⟩ = false)
theorem Z6.new (w : World) (T : TypeId) : Z6 w.heap.size (w.alloc (.cells #[.string ⟨#[]⟩, .string ⟨#[]⟩, .string ⟨#[]⟩, .int .i64 0, .int .i64 0, .string ⟨#[]⟩] T)) := by
  refine ⟨by simp, fun k hk => ?_⟩
  match k, hk with
  | 0, _ => exact ⟨by simp [go_sem, zeroE], by simp [go_sem]⟩
  | 1, _ => exact ⟨by simp [go_sem, zeroE], by simp [go_sem]⟩
  | 2, _ => exact ⟨by simp [go_sem, zeroE], by simp [go_sem]⟩
  | 3, _ => exact ⟨by simp [go_sem, zeroE], by simp [go_sem]⟩
  | 4, _ => exact ⟨by simp [go_sem, zeroE], by simp [go_sem]⟩
  | 5, _ => exact ⟨by simp [go_sem, zeroE], by simp [go_sem]⟩
theorem Z6.grown {B : Nat} {w w' : World} {row : Option Nat} (h : Z6 B w) (hg : w.grownBy w' row) (hne : some B ≠ row) : Z6 B w' := by
  have e := hg.block B h.1 hne
  exact ⟨by have := hg.size; have := h.1; omega, fun k hk => ⟨(World.cell?_of_block (a := ⟨B, k, none⟩) e).trans (h.2 k hk).1, (World.frozen?_of_block (a := ⟨B, k, none⟩) e).trans (h.2 k hk).2⟩⟩
theorem gnew' {w wx : World} {g X o : Nat} {v : Value} (h : w.grownBy wx (some g)) (hX : w.heap.size ≤ X) : w.grownBy (wx.setCell ⟨X, o, none⟩ v) (some g) := by
  have hg := rset wx X o v
  refine ⟨hg.os.trans h.os, hg.tape.trans h.tape, hg.output.trans h.output, by have := h.size; have := hg.size; omega, fun k hk hne => ?_⟩
  have hs := h.size
  exact (hg.block k (by omega) (by intro e; cases e; omega)).trans (h.block k hk hne)
end DrawR
end Go.Proofs.Ytbhabplchcigfaa
