/-
  Cells of a block written one behind another. No condition.
-/
import Derived.Test.YtlhghjjgpdkekaaDoorRowG
import Derived.Test.YtlhghjjgpdkekaaDoorBlk
namespace Go.Proofs.YtlhghjjgpdkekaaDoor
open Go.ChangeShapes Go.WideShapes Go.ChangeAt Go.RowKit
set_option linter.unusedVariables false
namespace StR
open EvtR (Pt cell_put cell_far)
open CatR (Blk)
/-- The cells from a place on are written. -/
def stL (W : World) (p : Nat) : Nat → List Value → World
  | _, [] => W
  | o, v :: vs => stL (W.setCell ⟨p, o, none⟩ v) p (o + 1) vs
theorem gtr {w w1 w2 : World} {g : Option Nat} (h1 : w.grownBy w1 g) (h2 : w1.grownBy w2 g) : w.grownBy w2 g :=
  ⟨h2.os.trans h1.os, h2.tape.trans h1.tape, h2.output.trans h1.output, Nat.le_trans h1.size h2.size, fun k hk hne => (h2.block k (by have := h1.size; omega) hne).trans (h1.block k hk hne)⟩
theorem stL_grown (p : Nat) : ∀ (vs : List Value) (o : Nat) (W : World), W.grownBy (stL W p o vs) (some p)
  | [], _, W => ⟨rfl, rfl, rfl, Nat.le_refl _, fun _ _ _ => rfl⟩
  | v :: vs, o, W => gtr (RowG.grown_set W p o v) (stL_grown p vs (o + 1) _)
theorem stL_pt {p n : Nat} : ∀ (vs : List Value) (o : Nat) (W : World), Pt p n W → Pt p n (stL W p o vs)
  | [], _, _, h => h
  | v :: vs, o, W, h => stL_pt vs (o + 1) _ (h.set o v)
theorem stL_old {p : Nat} : ∀ (vs : List Value) (o : Nat) (W : World) (j : Nat), j < o → (stL W p o vs).cell? ⟨p, j, none⟩ = W.cell? ⟨p, j, none⟩
  | [], _, _, _, _ => rfl
  | v :: vs, o, W, j, hj => (stL_old vs (o + 1) _ j (by omega)).trans (cell_far o j (by omega) v)
theorem stL_cells {p n : Nat} : ∀ (vs : List Value) (o : Nat) (W : World), Pt p n W → o + vs.length ≤ n → ∀ i, i < vs.length → (stL W p o vs).cell? ⟨p, o + i, none⟩ = vs[i]?
  | [], _, _, _, _, i, hi => absurd hi (by simp)
  | v :: vs, o, W, hp, hn, i, hi => by
    simp only [List.length_cons] at hn hi
    cases i with
    | zero =>
      rw [Nat.add_zero]
      exact (stL_old vs (o + 1) _ o (by omega)).trans ((cell_put hp o (by omega) v).trans rfl)
    | succ i =>
      have := stL_cells vs (o + 1) (W.setCell ⟨p, o, none⟩ v) (hp.set o v) (by omega) i (by omega)
      rw [show o + 1 + i = o + (i + 1) by omega] at this
      exact this.trans rfl
theorem stL_blk {p n : Nat} {vs : List Value} {W : World} (hp : Pt p n W) (hn : vs.length ≤ n) : Blk p vs (stL W p 0 vs) :=
  ⟨(stL_pt vs 0 W hp).lt, fun i hi => by have := stL_cells vs 0 W hp (by omega) i hi; rw [Nat.zero_add] at this; exact this⟩
theorem pt_far {p q n : Nat} {W W' : World} (h : Pt p n W) (hg : W.grownBy W' (some q)) (hne : p ≠ q) : Pt p n W' := by
  have e := hg.block p h.lt (by simpa using hne)
  exact ⟨by have := hg.size; have := h.lt; omega, fun o ho => by obtain ⟨v, hv⟩ := h.has o ho; exact ⟨v, (World.cell?_of_block (a := ⟨p, o, none⟩) e).trans hv⟩, fun o ho => (World.frozen?_of_block (a := ⟨p, o, none⟩) e).trans (h.free o ho)⟩
theorem blk_far {p q : Nat} {cs : List Value} {W W' : World} (h : Blk p cs W) (hg : W.grownBy W' (some q)) (hne : p ≠ q) : Blk p cs W' := by
  have e := hg.block p h.1 (by simpa using hne)
  exact ⟨by have := hg.size; have := h.1; omega, fun i hi => (World.cell?_of_block (a := ⟨p, i, none⟩) e).trans (h.2 i hi)⟩
/-- A new block of cells may be written. -/
theorem pt_new (w : World) (cs : List Value) (T : TypeId) : Pt w.heap.size cs.length (w.alloc (.cells cs.toArray T)) :=
  ⟨by simp, fun o ho => ⟨cs[o], by simp [go_sem, ho]⟩, fun o ho => by simp [go_sem]⟩
end StR
end Go.Proofs.YtlhghjjgpdkekaaDoor
