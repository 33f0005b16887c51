/-
  Lists of numbers: what is read of a row of int64, whether one is among them, and whether they are free days as they may be told: either side tells the same. The condition: the list has at most 1048576 numbers.
-/
import Derived.Test.YtaihfidbpkbnkaaLeap
import Derived.RegionTactic
import Derived.Deep.QuietTactic
import Derived.BigQuiet
namespace Go.Proofs.Ytaihfidbpkbnkaa
open Go.ChangeShapes Go.WideShapes Go.ChangeAt Go.RowKit
set_option linter.unusedVariables false
namespace DateR
open DateM
/-- The row holds these numbers. -/
def Ints (ao : Option Addr) (len : Nat) (zs : List Int) (w : World) : Prop := zs.length = len ∧ (len = 0 ∨ ∃ b off, ao = some ⟨b, off, none⟩ ∧ b < w.heap.size ∧ ∀ i, i < len → w.cell? ⟨b, off + i, none⟩ = some (.int .i64 (zs.getD i 0)))
theorem Ints.below {ao : Option Addr} {len : Nat} {zs : List Int} {w w' : World} (h : Ints ao len zs w) (hb : Below w.heap.size w w') : Ints ao len zs w' := by
  refine ⟨h.1, ?_⟩
  rcases h.2 with h0 | ⟨b, off, rfl, hlt, hc⟩
  · exact .inl h0
  · exact .inr ⟨b, off, rfl, by have := hb.size; omega, fun i hi => by rw [hb.cell (p := ⟨b, off + i, none⟩) hlt]; exact hc i hi⟩
theorem Ints.drewN {ao : Option Addr} {len : Nat} {zs : List Int} {w : World} (h : Ints ao len zs w) (n : Nat) : Ints ao len zs (w.drewN n) := h
theorem bel_drewN {B : Nat} {a w : World} (h : Below B a w) (n : Nat) : Below B a (w.drewN n) := ⟨h.os, h.tape, h.output, h.size, h.block⟩
theorem getD_at (zs : List Int) (k : Nat) (h : k < zs.length) : zs.getD k 0 = zs[k] := by simp [List.getD, h]
theorem get_mem (zs : List Int) (k : Nat) (h : k < zs.length) : zs.getD k 0 ∈ zs := by
  rw [getD_at zs k h]; exact List.getElem_mem h
theorem not_mem (zs : List Int) (d : Int) (h : ∀ i, i < zs.length → zs.getD i 0 ≠ d) : d ∉ zs := by
  intro hm
  obtain ⟨i, hi, e⟩ := List.getElem_of_mem hm
  exact h i hi (by rw [getD_at zs i hi]; exact e)
theorem cell_at {ao : Option Addr} {len : Nat} {zs : List Int} {w : World} (h : Ints ao len zs w) (k : Nat) (hk : k < len) : ∃ b off X, ao = some ⟨b, off, none⟩ ∧ w.cell? ⟨b, off + k, none⟩ = some (.int .i64 X) ∧ Hid (X = zs.getD k 0) := by
  rcases h.2 with h0 | ⟨b, off, rfl, hlt, hc⟩
  · omega
  · exact ⟨b, off, _, rfl, hc k hk, rfl⟩
/-- Where it stands, or -1. -/
def IdxOut (zs : List Int) (d : Int) (e : Ending) : Prop := ∃ n : Int, e = .returned (.int .i64 n) ∧ (decide (0 ≤ n) = decide (d ∈ zs))
set_option maxHeartbeats 4000000 in
theorem index_any (d : Int) (ao : Option Addr) (len cap : Nat) (zs : List Int) (w : World) (hlen : len ≤ 1048576) (hI : Ints ao len zs w) :
    Calls Try.prog 25 #[.slice ao len cap, .int .i64 d] w fun e w' => IdxOut zs d e ∧ w' = w := by
  have HI := hid_intro hI
  have HZ := hid_intro hI.1
  clear hI
  go_enter Try.func25, Try.ntmps25
  go_wp2_with fail
  go_loop [8] (fun z => ∃ k : Nat, k ≤ len ∧ z = .int .i64 k ∧ Hid (∀ i, i < k → zs.getD i 0 ≠ d)) (fun z => len - (intOf z).toNat)
  case atStart => exact ⟨0, by omega, rfl, hid_intro (fun i hi => by omega)⟩
  case round =>
    obtain ⟨k, hk, rfl, HN⟩ := hrel
    by_cases hlt : k < len
    · obtain ⟨b, off, X, rfl, hc, HX⟩ := cell_at HI.out k hlt
      have hlt2 : (k : Int) < (len : Int) := by omega
      by_cases hX : X = d
      · subst hX
        have HO : Hid (IdxOut zs X (.returned (.int .i64 (k : Int)))) := hid_intro ⟨k, rfl, by rw [decide_eq_true (show (0 : Int) ≤ k by omega), decide_eq_true]; rw [HX.out]; exact get_mem zs k (by have := HZ.out; omega)⟩
        go_wp2_with fail
        go_ret
        exact ⟨HO.out, rfl⟩
      · have HN2 : Hid (∀ i, i < k + 1 → zs.getD i 0 ≠ d) := hid_intro (fun i hi => by
          by_cases e : i = k
          · subst e; rw [← HX.out]; exact hX
          · exact HN.out i (by omega))
        have hX2 : ¬ d = X := fun h => hX h.symm
        go_wp2_with fail
        go_round
        case rel => exact ⟨k + 1, by omega, by go_num, HN2⟩
        case measure => simp [intOf]; omega
    · have hlt2 : ¬ (k : Int) < (len : Int) := by omega
      have HO : Hid (IdxOut zs d (.returned (.int .i64 (-1)))) := hid_intro ⟨-1, rfl, by rw [decide_eq_false (show ¬ (0 : Int) ≤ -1 by omega), decide_eq_false]; exact not_mem zs d (fun i hi => HN.out i (by have := HZ.out; omega))⟩
      go_wp2_with fail
      go_ret
      exact ⟨HO.out, rfl⟩
theorem contains_any (d : Int) (ao : Option Addr) (len cap : Nat) (zs : List Int) (w : World) (hlen : len ≤ 1048576) (hI : Ints ao len zs w) :
    Calls Try.prog 13 #[.slice ao len cap, .int .i64 d] w fun e w' => e = .returned (.bool (decide (d ∈ zs))) ∧ w' = w := by
  have HI := hid_intro (index_any d ao len cap zs w hlen hI)
  clear hI
  go_enter Try.func13, Try.ntmps13
  go_wp2_with (go_at_call 25; refine HI.out.mono ?_; rintro e w' ⟨⟨n, rfl, hn⟩, rfl⟩)
  go_ret
  exact ⟨ret_bool (by first | rfl | exact hn), rfl⟩
/-- Is it a free day, by the week or by the list? -/
def isFreeB (d : Int) (zs : List Int) : Bool := decide (d ∈ zs) || decide (5 ≤ wd d)
set_option maxHeartbeats 4000000 in
theorem spec_isfree (d : Int) (ao : Option Addr) (len cap : Nat) (zs : List Int) (w : World) (hlen : len ≤ 1048576) (hI : Ints ao len zs w) :
    Calls Try.prog 17 #[.int .i64 d, .slice ao len cap] w fun e w' => e = .returned (.bool (isFreeB d zs)) ∧ w' = w := by
  have HI := hid_intro hI
  have HZ := hid_intro hI.1
  clear hI
  go_enter Try.func17, Try.ntmps17
  go_wp2_with fail
  go_loop [5] (fun z => ∃ k : Nat, k ≤ len ∧ z = .int .i64 k ∧ Hid (∀ i, i < k → zs.getD i 0 ≠ d)) (fun z => len - (intOf z).toNat)
  case atStart => exact ⟨0, by omega, rfl, hid_intro (fun i hi => by omega)⟩
  case round =>
    obtain ⟨k, hk, rfl, HN⟩ := hrel
    by_cases hlt : k < len
    · obtain ⟨b, off, X, rfl, hc, HX⟩ := cell_at HI.out k hlt
      have hlt2 : (k : Int) < (len : Int) := by omega
      by_cases hX : X = d
      · subst hX
        have HO : Hid (true = isFreeB X zs) := hid_intro (by unfold isFreeB; rw [decide_eq_true]; rfl; rw [HX.out]; exact get_mem zs k (by have := HZ.out; omega))
        go_wp2_with fail
        go_ret
        exact ⟨ret_bool HO.out, rfl⟩
      · have HN2 : Hid (∀ i, i < k + 1 → zs.getD i 0 ≠ d) := hid_intro (fun i hi => by
          by_cases e : i = k
          · subst e; rw [← HX.out]; exact hX
          · exact HN.out i (by omega))
        have hX2 : ¬ d = X := fun h => hX h.symm
        go_wp2_with fail
        go_round
        case rel => exact ⟨k + 1, by omega, by go_num, HN2⟩
        case measure => simp [intOf]; omega
    · have hlt2 : ¬ (k : Int) < (len : Int) := by omega
      have HO : Hid (decide (5 ≤ wd d) = isFreeB d zs) := hid_intro (by unfold isFreeB; rw [decide_eq_false (show ¬ d ∈ zs from not_mem zs d (fun i hi => HN.out i (by have := HZ.out; omega)))]; rfl)
      have hw := fun w => spec_wd d w
      generalize wd d = v at hw HO
      go_wp2_with (go_at_call 27; refine (hw _).mono ?_; rintro e w' ⟨rfl, rfl⟩)
      go_ret
      exact ⟨ret_bool HO.out, rfl⟩
end DateR
end Go.Proofs.Ytaihfidbpkbnkaa
