/-
  Lists of events: what is read of a row of them. No condition but the length.
-/
import Derived.Test.YtmilejcpdfhmmaaEvtBytes
import Derived.Test.YtmilejcpdfhmmaaEvtLaw
namespace Go.Proofs.Ytmilejcpdfhmmaa
open Go.ChangeShapes Go.WideShapes Go.ChangeAt Go.RowKit
set_option linter.unusedVariables false
namespace EvtR
/-- An event. -/
structure E where
  i : ByteArray
  a : ByteArray
  m : ByteArray
  n : Int
  k : Int
  t : ByteArray
def E.v (e : E) : Value := ev e.i e.a e.m e.n e.k e.t
def E.zero : E := ⟨⟨#[]⟩, ⟨#[]⟩, ⟨#[]⟩, 0, 0, ⟨#[]⟩⟩
def E.cells (e : E) : List Value := [.string e.i, .string e.a, .string e.m, .int .i64 e.n, .int .i64 e.k, .string e.t]
/-- The cells of an event stand at a place. -/
def EvAt (w : World) (b o : Nat) (e : E) : Prop := w.cell? ⟨b, o, none⟩ = some (.string e.i) ∧ w.cell? ⟨b, o + 1, none⟩ = some (.string e.a) ∧ w.cell? ⟨b, o + 2, none⟩ = some (.string e.m) ∧ w.cell? ⟨b, o + 3, none⟩ = some (.int .i64 e.n) ∧ w.cell? ⟨b, o + 4, none⟩ = some (.int .i64 e.k) ∧ w.cell? ⟨b, o + 5, none⟩ = some (.string e.t)
/-- The row holds these events. -/
def Evs (ao : Option Addr) (len : Nat) (es : List E) (w : World) : Prop := es.length = len ∧ (len = 0 ∨ ∃ b off, ao = some ⟨b, off, none⟩ ∧ b < w.heap.size ∧ ∀ j, j < len → EvAt w b (off + j * 6) (es.getD j E.zero))
theorem EvAt.below {w w' : World} {b o : Nat} {e : E} (h : EvAt w b o e) (hl : b < w.heap.size) (hb : Below w.heap.size w w') : EvAt w' b o e := by
  have f := fun k => hb.cell (p := ⟨b, o + k, none⟩) hl
  exact ⟨(hb.cell (p := ⟨b, o, none⟩) hl).trans h.1, (f 1).trans h.2.1, (f 2).trans h.2.2.1, (f 3).trans h.2.2.2.1, (f 4).trans h.2.2.2.2.1, (f 5).trans h.2.2.2.2.2⟩
theorem Evs.below {ao : Option Addr} {len : Nat} {es : List E} {w w' : World} (h : Evs ao len es w) (hb : Below w.heap.size w w') : Evs ao len es w' := by
  refine ⟨h.1, ?_⟩
  rcases h.2 with h0 | ⟨b, off, rfl, hlt, hc⟩
  · exact .inl h0
  · exact .inr ⟨b, off, rfl, by have := hb.size; omega, fun j hj => (hc j hj).below hlt hb⟩
/-- How many letters the events hold, up to one. -/
def szL (es : List E) : Int := (es.map (fun e => szE e.i e.a e.m e.t)).sum
theorem sz_nn (e : E) : 0 ≤ szE e.i e.a e.m e.t := by unfold szE; omega
theorem szL_nn (es : List E) : 0 ≤ szL es := by
  unfold szL
  induction es with
  | nil => simp
  | cons e es ih => have := sz_nn e; simp only [List.map_cons, List.sum_cons]; omega
theorem szL_take (es : List E) (k : Nat) (h : k < es.length) : szL (es.take (k + 1)) = szL (es.take k) + szE (es.getD k E.zero).i (es.getD k E.zero).a (es.getD k E.zero).m (es.getD k E.zero).t := by
  unfold szL
  rw [List.take_add_one, List.getElem?_eq_getElem h, List.map_append, List.sum_append]
  simp [List.getD, h]
theorem szL_le (es : List E) (k : Nat) : szL (es.take k) ≤ szL es := by
  have := szL_nn (es.drop k)
  have e : szL es = szL (es.take k) + szL (es.drop k) := by
    unfold szL
    rw [← List.sum_append, ← List.map_append, List.take_append_drop]
  omega
theorem evs_at {ao : Option Addr} {len : Nat} {es : List E} {w : World} (h : Evs ao len es w) (k : Nat) (hk : k < len) : ∃ b off, ao = some ⟨b, off, none⟩ ∧ b < w.heap.size ∧ EvAt w b (off + k * 6) (es.getD k E.zero) := by
  rcases h.2 with h0 | ⟨b, off, rfl, hlt, hc⟩
  · omega
  · exact ⟨b, off, rfl, hlt, hc k hk⟩
theorem getD_mem (es : List E) (k : Nat) (h : k < es.length) : es.getD k E.zero ∈ es := by
  have : es.getD k E.zero = es[k] := by simp [List.getD, h]
  rw [this]; exact List.getElem_mem h
end EvtR
end Go.Proofs.Ytmilejcpdfhmmaa
