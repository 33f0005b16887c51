/-
  A list of texts that came in, read as a row. No condition.
-/
import Derived.Test.YtlhghjjgpdkekaaGreatDoorStT
import Derived.Test.YtlhghjjgpdkekaaGreatDoorCatIn
namespace Go.Proofs.YtlhghjjgpdkekaaGreatDoor
open Go.ChangeShapes Go.WideShapes Go.ChangeAt Go.RowKit Go.Deep
set_option linter.unusedVariables false
namespace StxR
open RowG
open CatR (row_open lst2 lst_getD slice_of)
/-- A slice of texts that came in. -/
def IsTgs (w : World) (a : Option Addr) (ts : List ByteArray) : Prop := ts.length ≤ maxLen ∧ Tgs a ts w ∧ ∀ t ∈ ts, t.size ≤ maxLen
section
variable {J : Type} {enc : TypeId × Value → J} {P : Program} {w : World} {base : Nat} {spare : Nat → Bool} {held : Bool}
theorem texts_open0 {t e : TypeId} {fuel : Nat} {ao : Option Addr} {len cap : Nat} {x : DataW J × List MemPlace} (ht : P.underlying t = some (.slice e)) (hs : P.underlying e = some .string) (hC : P.cellsOf e = 1)
    (h : DataW.trod enc P w base spare held fuel t [.slice ao len cap] = some x) : len ≤ maxLen ∧ ∃ ts : List ByteArray, ts.length = len ∧ (∀ t ∈ ts, t.size ≤ maxLen) ∧ Tgs ao ts w := by
  obtain ⟨h1, f, hq, h2⟩ := row_open 1 (fun (a : ByteArray) cs => cs = [.string a] ∧ a.size ≤ maxLen) tz ht hC (by omega) (fun fuel cs x h => by
    obtain ⟨i, e0, _, s0⟩ := DataW.trod_string hs h
    exact ⟨i, ⟨e0, s0⟩, by rw [e0]; rfl⟩) h
  refine ⟨h1, (List.range len).map f, by simp, fun t ht => ?_, ?_⟩
  · obtain ⟨i, hi, rfl⟩ := List.mem_map.1 ht
    obtain ⟨cs, _, q⟩ := hq i (List.mem_range.1 hi)
    exact q
  rcases h2 with h2 | ⟨b, off, rfl, hb, hc⟩
  · exact .inl (by simpa using h2)
  · refine .inr ⟨b, off, rfl, hb, fun j hj i hi => ?_⟩
    have hj' : j < len := by simpa using hj
    obtain ⟨cs, ⟨rfl, _⟩, g⟩ := hc j hj'
    rw [lst_getD f _ len j hj']
    exact g i hi
theorem texts_open {t e : TypeId} {fuel : Nat} {ao : Option Addr} {len cap : Nat} {x : DataW J × List MemPlace} (ht : P.underlying t = some (.slice e)) (hs : P.underlying e = some .string) (hC : P.cellsOf e = 1)
    (h : DataW.trod enc P w base spare held fuel t [.slice ao len cap] = some x) : ∃ ts : List ByteArray, ts.length = len ∧ IsTgs w ao ts := by
  obtain ⟨h1, ts, h2, h3, h4⟩ := texts_open0 ht hs hC h
  exact ⟨ts, h2, by omega, h4, h3⟩
end
end StxR
end Go.Proofs.YtlhghjjgpdkekaaGreatDoor
