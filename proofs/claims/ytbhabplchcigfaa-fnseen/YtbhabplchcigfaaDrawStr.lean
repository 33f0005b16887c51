/-
  A drawn text of some, and a text changed a little: some text, no longer than one byte more; drawing writes the source's own block alone. The condition: the bytes are at most 1048576.
-/
import Derived.Test.YtbhabplchcigfaaDraw2
import Derived.Deep.RegionWith
import Derived.Lib.ConvBytes
import Derived.Laws.BytesArg
namespace Go.Proofs.Ytbhabplchcigfaa
open Go.ChangeShapes Go.WideShapes Go.ChangeAt Go.RowKit
set_option linter.unusedVariables false
namespace DrawR
/-- A row of short texts. -/
def Strs (b n K : Nat) (w : World) : Prop := b < w.heap.size ∧ ∀ j, j < n → ∃ T : ByteArray, w.cell? ⟨b, j, none⟩ = some (.string T) ∧ T.size ≤ K
theorem Strs.grown {b n K : Nat} {w w' : World} {row : Option Nat} (h : Strs b n K w) (hg : w.grownBy w' row) (hne : some b ≠ row) : Strs b n K w' :=
  ⟨by have := hg.size; have := h.1; omega, fun j hj => by obtain ⟨T, h1, h2⟩ := h.2 j hj; exact ⟨T, hg.cell (a := ⟨b, j, none⟩) h1 hne, h2⟩⟩
/-- A text that was drawn. -/
def StrOut (K : Nat) (ao : Option Addr) (len cap g : Nat) (w : World) (e : Ending) (w' : World) : Prop := (∃ T : ByteArray, e = .returned (.string T) ∧ T.size ≤ K) ∧ Src ao len cap g w' ∧ w.grownBy w' (some g)
set_option maxRecDepth 100000 in
set_option maxHeartbeats 4000000 in
theorem pick_any (ao : Option Addr) (len cap g b n K : Nat) (w : World) (hn : 2 ≤ n) (hn2 : n ≤ 100) (hbg : b ≠ g) (hS : Src ao len cap g w) (hT : Strs b n K w) :
    Calls Try.prog 31 #[.pointer (some ⟨g, 0, none⟩), .slice (some ⟨b, 0, none⟩) n n] w fun e w' => StrOut K ao len cap g w e w' := by
  have HS := hid_intro hS
  have HT := hid_intro hT
  have hgl := hS.lt
  have hn3 : (2 : Int) ≤ (n : Int) := by omega
  have hn4 : (n : Int) ≤ 100 := by omega
  clear hS hT
  go_enter Try.func31, Try.ntmps31
  go_wp2_with fail
  refine (n_any ao len cap g n _ (by omega) HS.out).mono ?_
  rintro e w1 ⟨v, rfl, v0, _, v2, hS, hg⟩
  have v3 : v < n := v2 (by omega)
  obtain ⟨j, rfl⟩ : ∃ j : Nat, v = j := ⟨v.toNat, by omega⟩
  obtain ⟨T, hc, hK⟩ := (HT.out.grown hg (by simp; exact hbg)).2 j (by omega)
  have HS1 := hid_intro hS
  have HG1 := hid_intro hg
  have HK := hid_intro hK
  clear hS hg v2 hK
  go_wp2
  go_ret
  exact ⟨⟨T, rfl, HK.out⟩, HS1.out, HG1.out⟩
theorem conv_any (w : World) (z : Int) : (convert 22 9 (.slice (some ⟨w.heap.size, 0, none⟩) 1 1)).run Try.prog (w.alloc (Obj.cells #[.int .u8 z] 5)) = .ok (.string (strOfNums [z])) (w.alloc (Obj.cells #[.int .u8 z] 5)) := by
  refine run_convert_bytes_arg _ 22 5 Try.underlying22 Try.underlying5 w.heap.size 0 1 1 _ rfl ?_ 9 Try.underlying9
  intro i hi
  match i, hi with
  | 0, _ => simp [go_sem]
end DrawR
end Go.Proofs.Ytbhabplchcigfaa
