/-
  The law's own helpers over an event: its size, and its copy. No condition.
-/
import Derived.Test.YtnfppcndadfpcaaDoorEvt
namespace Go.Proofs.YtnfppcndadfpcaaDoor
open Go.ChangeShapes Go.WideShapes Go.ChangeAt Go.RowKit
set_option linter.unusedVariables false
namespace EvtR
/-- How many letters an event holds. -/
def szE (i a m t : ByteArray) : Int := i.size + a.size + m.size + t.size
theorem sz_any (i a m : ByteArray) (n k : Int) (t : ByteArray) (left : Int) (h1 : i.size ≤ maxLen) (h2 : a.size ≤ maxLen) (h3 : m.size ≤ maxLen) (h6 : t.size ≤ maxLen) (hl : 0 ≤ left) (hl2 : left ≤ 1048576) (w : World) :
    Calls Tryd.prog 20 #[ev i a m n k t, .int .i64 left] w fun e w' => e = .returned (.int .i64 (if szE i a m t ≤ left then left - szE i a m t else -1)) ∧ Below w.heap.size w w' := by
  unfold maxLen at *
  unfold ev szE
  have HB := hid_intro ((Below.refl w.heap.size w).alloc (Nat.le_refl _) (Obj.cells #[.string i, .string a, .string m, .int .i64 n, .int .i64 k, .string t] 46))
  rcases (show (left - (i.size : Int) < 0) ∨ (¬ left - (i.size : Int) < 0 ∧ left - (i.size : Int) - (a.size : Int) < 0) ∨ (¬ left - (i.size : Int) < 0 ∧ ¬ left - (i.size : Int) - (a.size : Int) < 0 ∧ left - (i.size : Int) - (a.size : Int) - (m.size : Int) < 0) ∨ (¬ left - (i.size : Int) < 0 ∧ ¬ left - (i.size : Int) - (a.size : Int) < 0 ∧ ¬ left - (i.size : Int) - (a.size : Int) - (m.size : Int) < 0 ∧ left - (i.size : Int) - (a.size : Int) - (m.size : Int) - (t.size : Int) < 0) ∨ (¬ left - (i.size : Int) < 0 ∧ ¬ left - (i.size : Int) - (a.size : Int) < 0 ∧ ¬ left - (i.size : Int) - (a.size : Int) - (m.size : Int) < 0 ∧ ¬ left - (i.size : Int) - (a.size : Int) - (m.size : Int) - (t.size : Int) < 0) by omega) with q1 | ⟨q1, q2⟩ | ⟨q1, q2, q3⟩ | ⟨q1, q2, q3, q4⟩ | ⟨q1, q2, q3, q4⟩
  all_goals
    go_enter Tryd.func20, Tryd.ntmps20
    go_wp2_with fail
    go_ret
    refine ⟨ret_int ?_, HB.out⟩
    first | rfl | omega | (rw [if_neg (by omega)]; done) | (rw [if_pos (by omega)]; omega)
theorem toEvent_any (i a m : ByteArray) (n k : Int) (t : ByteArray) (w : World) :
    Calls Tryd.prog 22 #[ev i a m n k t] w fun e w' => e = .returned (ev i a m n k t) ∧ Below w.heap.size w w' := by
  unfold ev
  go_enter Tryd.func22, Tryd.ntmps22
  go_wp2_with fail
  refine bodyPost_ret (v := ev i a m n k t) (by simp [ev, results, Tryd.results22, go_sem]) rfl ⟨rfl, ?_⟩
  repeat' first | exact Below.refl _ _ | apply Below.setCell | apply Below.alloc
  all_goals first | omega | (simp; done) | (simp; omega)
end EvtR
end Go.Proofs.YtnfppcndadfpcaaDoor
