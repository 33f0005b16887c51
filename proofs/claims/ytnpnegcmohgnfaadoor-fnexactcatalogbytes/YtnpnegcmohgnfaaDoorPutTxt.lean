/-
  A text's bytes: both sides put the same. No condition but the length.
-/
import Derived.Test.YtnpnegcmohgnfaaDoorNum
import Derived.Test.YtnpnegcmohgnfaaDoorJoin
namespace Go.Proofs.YtnpnegcmohgnfaaDoor
open Go.ChangeShapes Go.WideShapes Go.ChangeAt Go.RowKit
open Go.ChangeMaps (open_string shut_string)
set_option linter.unusedVariables false
namespace PutTextL
theorem spec_text (t : ByteArray) (w : World) (ht : t.size ≤ 8000) :
    Calls Tryd.prog 60 #[.string t] w fun e w' => e = .returned (.string (NumR.numB t.size ++ t)) ∧ Below w.heap.size w w' := by
  obtain ⟨v, hv⟩ : ∃ v, v = NumR.numB t.size := ⟨_, rfl⟩
  have h1 := fun w => NumR.spec_put t.size w (by omega)
  have h2 := NumR.numB_size (n := t.size) (by omega)
  rw [← hv] at h1 h2
  rw [← hv]
  clear hv
  go_enter Tryd.func60, Tryd.ntmps60
  go_wp2_with (first | (go_at_call 59; refine (h1 _).mono ?_; rintro e w1 ⟨rfl, hb1⟩))
  go_ret
  exact ⟨rfl, hb1⟩
theorem impl_text (t : ByteArray) (w : World) (ht : t.size ≤ 8000) :
    Calls Tryd.prog 37 #[.string t] w fun e w' => e = .returned (.string (NumR.numB t.size ++ t)) ∧ Below w.heap.size w w' := by
  obtain ⟨v, hv⟩ : ∃ v, v = NumR.numB t.size := ⟨_, rfl⟩
  have h1 := fun w => NumR.impl_put t.size w (by omega)
  have h2 := NumR.numB_size (n := t.size) (by omega)
  rw [← hv] at h1 h2
  rw [← hv]
  clear hv
  go_enter Tryd.func37, Tryd.ntmps37
  go_wp2_with (first | (go_at_call 35; refine (h1 _).mono ?_; rintro e w1 ⟨rfl, hb1⟩) | (go_at_call 38; refine (JoinR.join2 v t _ (by omega)).mono ?_; rintro e w2 ⟨rfl, hb2⟩))
  go_ret
  exact ⟨rfl, hb1.trans (hb2.mono hb1.size)⟩
theorem spec_big (t : ByteArray) (w : World) (ht : 8000 < t.size) (hm : t.size ≤ 1048576) :
    Calls Tryd.prog 60 #[.string t] w fun e w' => e = .returned (.string ⟨#[]⟩) ∧ Below w.heap.size w w' := by
  go_enter Tryd.func60, Tryd.ntmps60
  go_wp2
  go_ret
  exact ⟨rfl, Below.refl _ _⟩
theorem impl_big (t : ByteArray) (w : World) (ht : 8000 < t.size) (hm : t.size ≤ 1048576) :
    Calls Tryd.prog 37 #[.string t] w fun e w' => e = .returned (.string ⟨#[]⟩) ∧ Below w.heap.size w w' := by
  go_enter Tryd.func37, Tryd.ntmps37
  go_wp2
  go_ret
  exact ⟨rfl, Below.refl _ _⟩
end PutTextL
end Go.Proofs.YtnpnegcmohgnfaaDoor
