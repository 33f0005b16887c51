/-
  A list of events that came in, read as a row. No condition.
-/
import Derived.Test.YtbjildnnlijidaaEvtIn
import Derived.Test.YtbjildnnlijidaaEvS
import Derived.DataReads
namespace Go.Proofs.Ytbjildnnlijidaa
open Go.ChangeShapes Go.WideShapes Go.ChangeAt Go.RowKit Go.Deep
set_option linter.unusedVariables false
namespace EvtR
/-- A text or number that came in. -/
def E.In (e : E) : Prop := e.i.size ≤ maxLen ∧ e.a.size ≤ maxLen ∧ e.m.size ≤ maxLen ∧ e.t.size ≤ maxLen ∧ (Lit.int .i64 e.n).wf = true ∧ (Lit.int .i64 e.k).wf = true
/-- A slice of events that came in. -/
def IsEvs (w : World) (a : Option Addr) (len cap : Nat) (es : List E) : Prop := len ≤ maxLen ∧ Evs a len es w ∧ ∀ e ∈ es, e.In
section
variable {H : Type} {enc : TypeId × Value → H} {P : Program} {w : World} {base : Nat} {spare : Nat → Bool} {held : Bool}
theorem cells_at {a : Addr} {cs : List Value} {n : Nat} (h : w.cells? base a n = some cs) (j : Nat) (hj : j < n) : w.cell? (a.add j) = cs[j]? := by
  obtain ⟨_, h1, h2⟩ := World.cells?_some h
  exact h2 j hj
theorem evs_open {t e : TypeId} {f0 f1 f2 f3 f4 f5 : Field} {fuel : Nat} {ao : Option Addr} {len cap : Nat} {x : DataW H × List MemPlace} (ht : P.underlying t = some (.slice e)) (hs : P.underlying e = some (.struct #[f0, f1, f2, f3, f4, f5])) (hone : oneCellFields P #[f0, f1, f2, f3, f4, f5] = true) (hC : P.cellsOf e = 6)
    (u0 : P.underlying f0.type = some .string) (u1 : P.underlying f1.type = some .string) (u2 : P.underlying f2.type = some .string) (u3 : P.underlying f3.type = some (.int .i64)) (u4 : P.underlying f4.type = some (.int .i64)) (u5 : P.underlying f5.type = some .string)
    (h : DataW.trod enc P w base spare held fuel t [.slice ao len cap] = some x) : ∃ es, IsEvs w ao len cap es := by
  rcases DataW.trod_slice ht h with ⟨hcs, _⟩ | ⟨a, len', cap', elems, rest, n, _, hcs, _, hb, hl, hm, hlen, hel, _, _⟩
  · simp only [List.cons.injEq, Value.slice.injEq, and_true] at hcs
    obtain ⟨rfl, rfl, rfl⟩ := hcs
    exact ⟨[], Nat.zero_le _, ⟨rfl, .inl rfl⟩, fun e he => by cases he⟩
  · simp only [List.cons.injEq, Value.slice.injEq, and_true] at hcs
    obtain ⟨rfl, rfl, rfl⟩ := hcs
    have key : ∀ i, i < len → ∃ E1 : E, E1.In ∧ w.cells? base (a.add (i * 6)) 6 = some E1.cells := by
      intro i hi
      have h1 := hel i hi
      rw [hC, List.getElem?_eq_getElem (by omega)] at h1
      cases hc : w.cells? base (a.add (i * 6)) 6 with
      | none => rw [hc] at h1; simp at h1
      | some cs =>
        rw [hc] at h1
        simp only [Option.bind_some] at h1
        obtain ⟨i', a', m', n', k', s', rfl, q0, q1, q2, q3, q4, q5⟩ := event_cells hs hone hC u0 u1 u2 u3 u4 u5 h1
        exact ⟨⟨i', a', m', n', k', s'⟩, ⟨q0, q1, q2, q5, q3, q4⟩, rfl⟩
    have : ∃ f : Nat → E, ∀ i, i < len → (f i).In ∧ w.cells? base (a.add (i * 6)) 6 = some (f i).cells := by
      refine ⟨fun i => if hi : i < len then Classical.choose (key i hi) else E.zero, fun i hi => ?_⟩
      simp only [hi, dif_pos]
      exact Classical.choose_spec (key i hi)
    obtain ⟨f, hf⟩ := this
    refine ⟨(List.range len).map f, by omega, ⟨by simp, ?_⟩, fun e he => ?_⟩
    · by_cases h0 : len = 0
      · exact .inl h0
      · obtain ⟨b, off, spot⟩ := a
        have hc0 := cells_at (hf 0 (by omega)).2 0 (by omega)
        have hspot : spot = none := by
          have : w.cell? ⟨b, off, spot⟩ = some (.string (f 0).i) := by simpa [Addr.add, E.cells] using hc0
          exact World.cell?_spot this
        subst hspot
        refine .inr ⟨b, off, rfl, ?_, fun j hj => ?_⟩
        · have : w.cell? ⟨b, off, none⟩ = some (.string (f 0).i) := by simpa [Addr.add, E.cells] using hc0
          exact World.block_lt_of_cell? w _ this
        · have e : ((List.range len).map f).getD j E.zero = f j := by simp [List.getD, hj]
          rw [e]
          have g := fun k (hk : k < 6) => cells_at (hf j hj).2 k hk
          have ad : ∀ k, ((⟨b, off, none⟩ : Addr).add (j * 6)).add k = ⟨b, off + j * 6 + k, none⟩ := by
            intro k
            unfold Addr.add
            split <;> split <;> simp_all
          simp only [ad] at g
          exact ⟨g 0 (by omega), g 1 (by omega), g 2 (by omega), g 3 (by omega), g 4 (by omega), g 5 (by omega)⟩
    · simp only [List.mem_map, List.mem_range] at he
      obtain ⟨i, hi, rfl⟩ := he
      exact (hf i hi).1
end
end EvtR
end Go.Proofs.Ytbjildnnlijidaa
