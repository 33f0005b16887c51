/-
  An event that came in, opened: its cells are four texts and two numbers. No condition.
-/
import Derived.Test.YtnfppcndadfpcaaDoorEvt
import Derived.Deep.Fields
import Derived.OpenVars
import Derived.Carry
import Derived.ChangeMaps5
import Derived.Lib.SmallJoins
namespace Go.Proofs.YtnfppcndadfpcaaDoor
open Go.ChangeShapes Go.WideShapes Go.ChangeAt Go.RowKit Go.Deep
namespace EvtR
section
variable {H : Type} {enc : TypeId × Value → H} {P : Program} {w : World} {base : Nat} {spare : Nat → Bool} {held : Bool}
theorem list6 {α : Type} {cs : List α} (h : cs.length = 6) : ∃ c0 c1 c2 c3 c4 c5, cs = [c0, c1, c2, c3, c4, c5] := by
  match cs, h with
  | [c0, c1, c2, c3, c4, c5], _ => exact ⟨c0, c1, c2, c3, c4, c5, rfl⟩
theorem array6 {α : Type} {cs : Array α} (h : cs.size = 6) : ∃ c0 c1 c2 c3 c4 c5, cs = #[c0, c1, c2, c3, c4, c5] := by
  obtain ⟨l⟩ := cs
  obtain ⟨c0, c1, c2, c3, c4, c5, rfl⟩ := list6 (show l.length = 6 from h)
  exact ⟨c0, c1, c2, c3, c4, c5, rfl⟩
theorem event_cells {t : TypeId} {f0 f1 f2 f3 f4 f5 : Field} {fuel : Nat} {cs : List Value} {x : DataW H × List MemPlace} (hs : P.underlying t = some (.struct #[f0, f1, f2, f3, f4, f5])) (hone : oneCellFields P #[f0, f1, f2, f3, f4, f5] = true) (hC : P.cellsOf t = 6)
    (u0 : P.underlying f0.type = some .string) (u1 : P.underlying f1.type = some .string) (u2 : P.underlying f2.type = some .string) (u3 : P.underlying f3.type = some (.int .i64)) (u4 : P.underlying f4.type = some (.int .i64)) (u5 : P.underlying f5.type = some .string)
    (h : DataW.trod enc P w base spare held fuel t cs = some x) :
    ∃ (i a m : ByteArray) (n k : Int) (s : ByteArray), cs = [.string i, .string a, .string m, .int .i64 n, .int .i64 k, .string s] ∧ i.size ≤ maxLen ∧ a.size ≤ maxLen ∧ m.size ≤ maxLen ∧ (Lit.int .i64 n).wf = true ∧ (Lit.int .i64 k).wf = true ∧ s.size ≤ maxLen := by
  obtain ⟨xs, n, _, _, hl, hlen, hf⟩ := DataW.trod_struct hs h
  obtain ⟨c0, c1, c2, c3, c4, c5, rfl⟩ := list6 (hl.trans hC)
  obtain ⟨y0, y1, y2, y3, y4, y5, rfl⟩ := list6 (show xs.length = 6 from hlen)
  obtain ⟨o0, k0⟩ := hone_of hone 0 f0 rfl
  obtain ⟨o1, k1⟩ := hone_of hone 1 f1 rfl
  obtain ⟨o2, k2⟩ := hone_of hone 2 f2 rfl
  obtain ⟨o3, k3⟩ := hone_of hone 3 f3 rfl
  obtain ⟨o4, k4⟩ := hone_of hone 4 f4 rfl
  obtain ⟨o5, k5⟩ := hone_of hone 5 f5 rfl
  have h0 := hf 0 f0 rfl
  have h1 := hf 1 f1 rfl
  have h2 := hf 2 f2 rfl
  have h3 := hf 3 f3 rfl
  have h4 := hf 4 f4 rfl
  have h5 := hf 5 f5 rfl
  simp [o0, k0] at h0
  simp [o1, k1] at h1
  simp [o2, k2] at h2
  simp [o3, k3] at h3
  simp [o4, k4] at h4
  simp [o5, k5] at h5
  obtain ⟨i, e0, _, s0⟩ := DataW.trod_string u0 h0
  obtain ⟨a, e1, _, s1⟩ := DataW.trod_string u1 h1
  obtain ⟨m, e2, _, s2⟩ := DataW.trod_string u2 h2
  obtain ⟨p, e3, _, s3⟩ := DataW.trod_int u3 h3
  obtain ⟨q, e4, _, s4⟩ := DataW.trod_int u4 h4
  obtain ⟨s, e5, _, s5⟩ := DataW.trod_string u5 h5
  simp only [List.cons.injEq, and_true] at e0 e1 e2 e3 e4 e5
  subst e0 e1 e2 e3 e4 e5
  exact ⟨i, a, m, p, q, s, rfl, s0, s1, s2, s3, s4, s5⟩
end
end EvtR
end Go.Proofs.YtnfppcndadfpcaaDoor
