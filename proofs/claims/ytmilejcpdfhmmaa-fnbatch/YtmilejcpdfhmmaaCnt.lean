/-
  The program's reading of a count: how many things follow, 0 to a limit; beyond it a fault. The condition: the text has at most 8000 bytes.
-/
import Derived.Test.YtmilejcpdfhmmaaREvt
namespace Go.Proofs.Ytmilejcpdfhmmaa
open Go.ChangeShapes Go.WideShapes Go.ChangeAt Go.RowKit
set_option linter.unusedVariables false
namespace EvtR
open GetR NumsR
theorem After.rdb {g : Nat} {s : ByteArray} {o : Option Nat} {w : World} (h : After g s o w) : ∃ p f, RdB g s p f w := by
  cases o with
  | none => obtain ⟨p, c, h⟩ := h; exact ⟨p, _, h⟩
  | some p => exact ⟨p, _, h.2⟩
/-- How many, and the place or fault behind it. -/
def rC (s : ByteArray) (o : Option Nat) (m : Nat) : Nat := if 0 ≤ rN s o ∧ rN s o ≤ m then (rN s o).toNat else 0
def pC (s : ByteArray) (o : Option Nat) (m : Nat) : Option Nat := if 0 ≤ rN s o ∧ rN s o ≤ m then pN s o else none
theorem rC_le (s : ByteArray) (o : Option Nat) (m : Nat) : rC s o m ≤ m := by
  unfold rC
  split <;> omega
set_option maxHeartbeats 4000000 in
theorem rcount (g : Nat) (s : ByteArray) (o : Option Nat) (m : Nat) (w : World) (hs : s.size ≤ 8000) (h : After g s o w) :
    Calls Try.prog 32 #[.pointer (some ⟨g, 0, none⟩), .int .i64 m] w fun e w' => e = .returned (.int .i64 (rC s o m)) ∧ After g s (pC s o m) w' ∧ w.grownBy w' (some g) := by
  have H1 : Hid (∀ w1, After g s o w1 → Calls Try.prog 61 #[.pointer (some ⟨g, 0, none⟩)] w1 fun e w' => e = .returned (.int .i64 (rN s o)) ∧ After g s (pN s o) w' ∧ w1.grownBy w' (some g)) := hid_intro (fun w1 h => rnum _ s o w1 hs h)
  have HC : Hid (rC s o m = if 0 ≤ rN s o ∧ rN s o ≤ m then (rN s o).toNat else 0) := rfl
  have HP : Hid (pC s o m = if 0 ≤ rN s o ∧ rN s o ≤ m then pN s o else none) := rfl
  generalize rN s o = c at *
  generalize pN s o = o0 at *
  generalize rC s o m = C at *
  generalize pC s o m = o1 at *
  have HA := hid_intro h
  clear h
  go_enter Try.func32, Try.ntmps32
  go_wp2_with fail
  refine (H1.out _ HA.out).mono ?_
  rintro e w1 ⟨rfl, hA, hg⟩
  have HG := hid_intro hg
  have HWI := hid_intro (fun w => within_any c 0 m w)
  by_cases k : 0 ≤ c ∧ c ≤ m
  · rw [decide_eq_true k] at HWI
    have e1 : (C : Int) = c := by rw [HC.out, if_pos k]; omega
    have e2 : o1 = o0 := by rw [HP.out, if_pos k]
    clear HC HP hg
    subst e1
    subst e2
    go_wp2_with (go_at_call 44; refine (HWI.out _).mono ?_; rintro e w' ⟨rfl, rfl⟩)
    go_ret
    exact ⟨rfl, hA, HG.out⟩
  · rw [decide_eq_false k] at HWI
    have e1 : C = 0 := by rw [HC.out, if_neg k]
    have e2 : o1 = none := by rw [HP.out, if_neg k]
    obtain ⟨p, f, hR⟩ := hA.rdb
    have HR := hid_intro hR
    obtain ⟨hl, c0, c1, c2, f0, f1, f2⟩ := hR
    clear HC HP hg hA
    subst e1
    subst e2
    go_wp2_with (go_at_call 44; refine (HWI.out _).mono ?_; rintro e w' ⟨rfl, rfl⟩)
    go_ret
    refine ⟨rfl, ⟨p, 3, ?_⟩, ?_⟩
    · obtain ⟨hl, c0, c1, c2, f0, f1, f2⟩ := HR.out
      exact ⟨by simpa using hl, by simp [go_sem, c0], by simp [go_sem, c1], by simp [go_sem, c2, flt], by simp [go_sem, f0], by simp [go_sem, f1], by simp [go_sem, f2]⟩
    · refine gtrans HG.out ?_
      first | exact rset _ g 2 _ | exact gtrans (World.grownBy_alloc _ _ _) (rset _ g 2 _)
end EvtR
end Go.Proofs.Ytmilejcpdfhmmaa
