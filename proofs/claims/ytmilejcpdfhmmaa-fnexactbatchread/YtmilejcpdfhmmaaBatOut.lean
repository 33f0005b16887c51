/-
  What the law asks of two lists of events with a code: alike, marked, held. The condition: at most 20 events.
-/
import Derived.Test.YtmilejcpdfhmmaaMark
import Derived.Test.YtmilejcpdfhmmaaBatRes
namespace Go.Proofs.Ytmilejcpdfhmmaa
open Go.ChangeShapes Go.WideShapes Go.ChangeAt Go.RowKit
set_option linter.unusedVariables false
namespace EvtR
open GetR NumsR
set_option maxHeartbeats 4000000 in
theorem marks_nil (ao : Option Addr) (cap : Nat) (w : World) : Calls Try.prog 51 #[.slice ao 0 cap, .int .i64 1] w fun e w' => e = .returned (.int .i64 1) ∧ Below w.heap.size w w' := by
  go_enter Try.func51, Try.ntmps51
  go_wp2_with fail
  go_loopw [5, 1] (fun x z wr => x = .int .i64 0 ∧ z = .int .i64 1 ∧ Hid (Below w.heap.size w wr)) (fun x _ _ => 0)
  case atStart => exact ⟨rfl, rfl, hid_intro (Below.refl _ _)⟩
  case round =>
    obtain ⟨rfl, rfl, HB⟩ := hrel
    go_wp2_with fail
    go_ret
    exact ⟨rfl, HB.out⟩
set_option maxHeartbeats 4000000 in
theorem held_nil (ao : Option Addr) (cap : Nat) (w : World) : Calls Try.prog 52 #[.slice ao 0 cap, .int .i64 1] w fun e w' => e = .returned (.int .i64 1) ∧ Below w.heap.size w w' := by
  go_enter Try.func52, Try.ntmps52
  go_wp2_with fail
  go_loopw [5, 1] (fun x z wr => x = .int .i64 0 ∧ z = .int .i64 1 ∧ Hid (Below w.heap.size w wr)) (fun x _ _ => 0)
  case atStart => exact ⟨rfl, rfl, hid_intro (Below.refl _ _)⟩
  case round =>
    obtain ⟨rfl, rfl, HB⟩ := hrel
    go_wp2_with fail
    go_ret
    exact ⟨rfl, HB.out⟩
set_option maxHeartbeats 4000000 in
theorem eqBat (ao bo : Option Addr) (len cap cap' : Nat) (c : Int) (es : List E) (w : World) (hlen : len ≤ 1048576) (hI : Evs ao len es w) (hJ : Evs bo len es w) :
    Calls Try.prog 18 #[.agg #[.slice ao len cap, .int .i64 c], .agg #[.slice bo len cap', .int .i64 c]] w fun e w' => e = .returned (.bool true) ∧ Below w.heap.size w w' := by
  have HC : Hid (∀ W, Below w.heap.size w W → Calls Try.prog 50 #[.slice ao len cap, .slice bo len cap'] W fun e w' => e = .returned (.bool true) ∧ Below W.heap.size W w') := hid_intro (fun W hW => eqEvs_any ao bo len cap cap' es W hlen (hI.below hW) (hJ.below hW))
  clear hI hJ
  go_enter Try.func18, Try.ntmps18
  go_wp2_with fail
  refine (HC.out _ (((Below.refl _ _).alloc (Nat.le_refl _) _).alloc (by simp) _)).mono ?_
  rintro e w1 ⟨rfl, hb⟩
  obtain ⟨hcc, hff⟩ := bcell hb
  have HB := hid_intro (bel_alloc (bel_alloc hb))
  clear hb
  go_wp2_with fail
  go_ret
  exact ⟨rfl, HB.out⟩
end EvtR
end Go.Proofs.Ytmilejcpdfhmmaa
