/-
  Two lists of the same events held against each other by the law. The condition: at most 1048576 events.
-/
import Derived.Test.YtmilejcpdfhmmaaEvS2
import Derived.BigQuiet
import Derived.Deep.QuietTactic
namespace Go.Proofs.Ytmilejcpdfhmmaa
open Go.ChangeShapes Go.WideShapes Go.ChangeAt Go.RowKit
set_option linter.unusedVariables false
namespace EvtR
theorem ldrewN {B : Nat} {a w : World} (h : Below B a w) (n : Nat) : Below B a (w.drewN n) := ⟨h.os, h.tape, h.output, h.size, h.block⟩
set_option maxRecDepth 100000 in
set_option maxHeartbeats 4000000 in
theorem lwEvs_any (ao bo : Option Addr) (len cap cap' : Nat) (es : List E) (w : World) (hlen : len ≤ 1048576) (hI : Evs ao len es w) (hJ : Evs bo len es w) :
    Calls Try.prog 12 #[.slice ao len cap, .slice bo len cap'] w fun e w' => e = .returned (.bool true) ∧ Below w.heap.size w w' := by
  have HI := hid_intro hI
  have HJ := hid_intro hJ
  clear hI hJ
  go_enter Try.func12, Try.ntmps12
  go_wp2_with fail
  go_loopw [5] (fun z wr => ∃ k : Nat, k ≤ len ∧ z = .int .i64 k ∧ Hid (Below w.heap.size w wr)) (fun z _ => len - (intOf z).toNat)
  case atStart => exact ⟨0, by omega, rfl, hid_intro (Below.refl _ _)⟩
  case round =>
    obtain ⟨k, hk, rfl, HW⟩ := hrel
    by_cases hlt : k < len
    · have hlt2 : (k : Int) < (len : Int) := by omega
      obtain ⟨b, off, rfl, _, ha⟩ := evs_at (HI.out.below HW.out) k hlt
      obtain ⟨b', off', rfl, _, ha'⟩ := evs_at (HJ.out.below HW.out) k hlt
      obtain ⟨c0, c1, c2, c3, c4, c5⟩ := ha
      obtain ⟨e0, e1, e2, e3, e4, e5⟩ := ha'
      generalize es.getD k E.zero = X at *
      obtain ⟨xi, xa, xm, xn, xk, xt⟩ := X
      simp only at c0 c1 c2 c3 c4 c5 e0 e1 e2 e3 e4 e5
      go_wp2_with fail
      try (go_quiet (fail); go_wp2_with fail)
      go_roundw
      case rel => exact ⟨k + 1, by omega, by go_num, by first | exact HW | exact hid_intro (ldrewN HW.out _)⟩
      case measure => simp [intOf]; omega
    · have hlt2 : ¬ (k : Int) < (len : Int) := by omega
      go_wp2_with fail
      go_ret
      exact ⟨rfl, HW.out⟩
end EvtR
end Go.Proofs.Ytmilejcpdfhmmaa
