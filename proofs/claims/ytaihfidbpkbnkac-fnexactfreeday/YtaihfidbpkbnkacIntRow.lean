/-
  A list of numbers that came in, read as a row. No condition.
-/
import Derived.Test.YtaihfidbpkbnkacInts
namespace Go.Proofs.Ytaihfidbpkbnkac
open Go.ChangeShapes Go.WideShapes Go.ChangeAt Go.RowKit
namespace DateR
/-- A slice of integers that came in: nil; or a row of cells, each an integer of its kind. -/
def IsRow (k : IntKind) (w : World) (a : Option Addr) (len cap : Nat) (zs : List Int) : Prop :=
  (a = none ∧ len = 0 ∧ cap = 0 ∧ zs = []) ∨
  ∃ x, a = some x ∧ len ≤ cap ∧ cap ≤ maxLen ∧ zs.length = cap ∧ (∀ i, i < zs.length → w.cell? (x.add i) = some (.int k (zs.getD i 0))) ∧ ∀ n ∈ zs, (Lit.int k n).wf = true
theorem IsRow.len {k : IntKind} {w : World} {a : Option Addr} {len cap : Nat} {zs : List Int} (h : IsRow k w a len cap zs) : len ≤ maxLen := by
  rcases h with ⟨_, h0, _⟩ | ⟨x, _, hl, hm, _⟩
  · omega
  · omega
theorem IsRow.ints {w : World} {a : Option Addr} {len cap : Nat} {zs : List Int} (h : IsRow .i64 w a len cap zs) : Ints a len (zs.take len) w := by
  rcases h with ⟨_, h0, _, hz⟩ | ⟨x, rfl, hl, hm, hz, hcell, hwz⟩
  · exact ⟨by rw [hz, h0]; rfl, .inl h0⟩
  · refine ⟨by rw [List.length_take]; omega, ?_⟩
    by_cases h0 : len = 0
    · exact .inl h0
    · obtain ⟨b, off, spot⟩ := x
      have hc := hcell 0 (by omega)
      have hspot : spot = none := by simpa [Addr.add] using World.cell?_spot hc
      subst hspot
      refine .inr ⟨b, off, rfl, ?_, fun i hi => ?_⟩
      · have := World.block_lt_of_cell? w _ hc
        simpa [Addr.add] using this
      · have h1 := hcell i (by omega)
        have e : (⟨b, off, none⟩ : Addr).add i = ⟨b, off + i, none⟩ := by simp [Addr.add]
        rw [e] at h1
        rw [h1]
        congr 2
        simp [List.getD, hi]
end DateR
end Go.Proofs.Ytaihfidbpkbnkac
