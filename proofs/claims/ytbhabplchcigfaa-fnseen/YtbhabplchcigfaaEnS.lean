/-
  Lists of entries: what is read of a row of them, the law's own copies, and lists held against each other. The condition: at most 1048576 entries.
-/
import Derived.Test.YtbhabplchcigfaaRowG
import Derived.Deep.RegionWith
namespace Go.Proofs.Ytbhabplchcigfaa
open Go.ChangeShapes Go.WideShapes Go.ChangeAt Go.RowKit
set_option linter.unusedVariables false
namespace SeenR
open RowG
open EvtR (Pt)
/-- An entry. -/
structure N where
  i : ByteArray
  n : Int
  s : Int
def N.v (e : N) : Value := .agg #[.string e.i, .int .i64 e.n, .int .i64 e.s]
def N.zero : N := ⟨⟨#[]⟩, 0, 0⟩
def N.cells (e : N) : List Value := [.string e.i, .int .i64 e.n, .int .i64 e.s]
theorem N.len (e : N) : e.cells.length = 3 := rfl
/-- The row holds these entries. -/
def Ens (ao : Option Addr) (es : List N) (w : World) : Prop := Rws 3 N.cells N.zero ao es w
theorem Ens.below {ao : Option Addr} {es : List N} {w w' : World} (h : Ens ao es w) (hb : Below w.heap.size w w') : Ens ao es w' := Rws.below h hb
theorem Ens.at {ao : Option Addr} {es : List N} {w : World} (h : Ens ao es w) (j : Nat) (hj : j < es.length) : ∃ b off, ao = some ⟨b, off, none⟩ ∧ b < w.heap.size ∧ w.cell? ⟨b, off + j * 3, none⟩ = some (.string (es.getD j N.zero).i) ∧ w.cell? ⟨b, off + j * 3 + 1, none⟩ = some (.int .i64 (es.getD j N.zero).n) ∧ w.cell? ⟨b, off + j * 3 + 2, none⟩ = some (.int .i64 (es.getD j N.zero).s) := by
  obtain ⟨b, off, h1, h2, h3⟩ := Rws.at h j hj
  exact ⟨b, off, h1, h2, h3 0 (by omega), h3 1 (by omega), h3 2 (by omega)⟩
/-- How many letters the entries hold. -/
def szL (es : List N) : Int := (es.map (fun e => (e.i.size : Int))).sum
theorem szL_nn (es : List N) : 0 ≤ szL es := by
  unfold szL
  induction es with
  | nil => simp
  | cons e es ih => simp only [List.map_cons, List.sum_cons]; omega
theorem szL_take (es : List N) (k : Nat) (h : k < es.length) : szL (es.take (k + 1)) = szL (es.take k) + ((es.getD k N.zero).i.size : Int) := by
  unfold szL
  rw [take_more (z := N.zero) es k h, List.map_append, List.sum_append]
  simp
theorem szL_le (es : List N) (k : Nat) : szL (es.take k) ≤ szL es := by
  have := szL_nn (es.drop k)
  have e : szL es = szL (es.take k) + szL (es.drop k) := by
    unfold szL
    rw [← List.sum_append, ← List.map_append, List.take_append_drop]
  omega
/-- What is left of the law's size. -/
def szR (es : List N) : Int := if (es.length : Int) + szL es ≤ 1048576 then 1048576 - (es.length : Int) - szL es else -1
theorem infoN : (Try.prog.info? 40).map (fun i => (i.zero, i.size, i.bytes)) = some (some (.agg #[.string ⟨#[]⟩, .int .i64 0, .int .i64 0]), 3, 32) := by kernel_rfl
theorem row_full3 {w : World} {base e g n s : Nat} {xs : List Value} (h : w.ownsRow base e s (.slice (some ⟨g, 0, none⟩) n n) n xs) : Pt g (n * s) w := by
  rcases h.2 with ⟨h1, _⟩ | ⟨g', cap, cur, h1, _, hg, _, _, hs, _⟩
  · simp at h1
  · simp at h1
    obtain ⟨rfl, rfl⟩ := h1
    refine ⟨(Array.getElem?_eq_some_iff.1 hg).1, fun o ho => ⟨cur[o]'(by omega), ?_⟩, fun o ho => ?_⟩
    · have : o < cur.size := by omega
      simp [World.cell?, hg, this]
    · simp [World.frozen?, hg]
end SeenR
end Go.Proofs.Ytbhabplchcigfaa
