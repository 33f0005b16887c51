/-
  Unseal: what the model and the program hand back is one thing. The condition: the text has at most 1048576 bytes.
-/
import Derived.Test.YtipiieooghampafSeal
import Derived.Deep.RegionWith
import Derived.Deep.QuietTactic
import Derived.BigQuiet
namespace Go.Proofs.Ytipiieooghampaf
open Go.ChangeShapes Go.WideShapes Go.ChangeAt Go.RowKit
open Go.ChangeMaps (open_string shut_string)
set_option linter.unusedVariables false
namespace UnsealR
open SealR
/-- Are the last four bytes those of the CRC of all others? -/
def okU (s : ByteArray) : Bool := (four (CrcR.crcV 0 (s.extract 0 (s.size - 4)))).toList == (s.extract (s.size - 4) s.size).toList
theorem parts4 (s : ByteArray) : s.extract 0 (s.size - 4) ++ s.extract (s.size - 4) s.size = s := by simp
theorem okU_eq (s : ByteArray) : ((sealB (s.extract 0 (s.size - 4))).toList == s.toList) = okU s := by
  unfold okU sealB
  obtain ⟨f, hf⟩ : ∃ f, f = four (CrcR.crcV 0 (s.extract 0 (s.size - 4))) := ⟨_, rfl⟩
  rw [← hf]
  have h := parts4 s
  obtain ⟨t, ht⟩ : ∃ t, t = s.extract 0 (s.size - 4) := ⟨_, rfl⟩
  obtain ⟨r, hr⟩ : ∃ r, r = s.extract (s.size - 4) s.size := ⟨_, rfl⟩
  rw [← ht, ← hr] at h
  rw [← ht, ← hr, ← h]
  rw [Bool.eq_iff_iff]
  simp [ByteArray.toList_eq]
set_option maxHeartbeats 1000000 in
theorem spec_un (s : ByteArray) (w : World) (h1 : 4 ≤ s.size) (h2 : s.size ≤ 8000) (b : Bool) (hok : okU s = b) :
    Calls Try.prog 13 #[.string s] w fun e w' => e = .returned (if b then .agg #[.string (s.extract 0 (s.size - 4)), .int .i64 0, .int .i64 0] else .agg #[.string ⟨#[]⟩, .int .i64 0, .int .i64 5]) ∧ Below w.heap.size w w' := by
  have hsl : ∀ wx, (Instr.slice 9 (.string s) (some (.int .i64 ((s.size : Int) - 4))) none none).run Try.prog wx = .ok (.string (s.extract (s.size - 4) s.size)) wx := by
    intro wx
    have := run_slice_string_l (P := Try.prog) (w := wx) (t := 9) (s := s) Try.underlying9 .i64 ((s.size : Int) - 4) (by omega) (by omega)
    rw [this]
    congr 3
    omega
  have hwr : IntKind.i64.wrap ((s.size : Int) - 4) = (s.size : Int) - 4 := by rw [IntKind.wrap_i64]; omega
  have h4 : (4 : Int) ≤ (s.size : Int) := by omega
  have h5 : (s.size : Int) - 4 ≤ (s.size : Int) := by omega
  have hq : ((four (CrcR.crcV 0 (s.extract 0 (s.size - 4)))).toList == (s.extract (s.size - 4) s.size).toList) = b := hok
  cases b
  all_goals
    go_enter Try.func13, Try.ntmps13
    go_wp2
    go_region_with (first | (go_at_call 16; refine (CrcR.spec_l01 _ _ _ (by omega) (by simp; omega)).mono ?_; rintro e w' ⟨rfl, rfl⟩) | (go_at_call 18; refine (four_any _ _ (crcV_bd _ _)).mono ?_; rintro e w' ⟨rfl, hbel⟩; obtain ⟨hcc, hff⟩ := bcell hbel))
    go_wp2
  · refine bodyPost_ret (v := .agg #[.string ⟨#[]⟩, .int .i64 0, .int .i64 5]) (by simp [results, Try.results13, go_sem, hcc]) rfl ⟨rfl, ?_⟩
    exact (((bel_alloc_drew hbel).setCell (by simp) _).setCell (by simp) _).setCell (by simp) _
  · refine bodyPost_ret (v := .agg #[.string (s.extract 0 (s.size - 4)), .int .i64 0, .int .i64 0]) (by simp [results, Try.results13, go_sem, hcc]) rfl ⟨rfl, ?_⟩
    exact (((bel_alloc_drew hbel).setCell (by simp) _).setCell (by simp) _).setCell (by simp) _
set_option maxHeartbeats 1000000 in
theorem impl_un (s : ByteArray) (w : World) (h1 : 4 ≤ s.size) (h2 : s.size ≤ 8000) (b : Bool) (hok : okU s = b) :
    Calls Try.prog 14 #[.string s] w fun e w' => e = .returned (if b then .agg #[.string (s.extract 0 (s.size - 4)), .int .i64 0, .int .i64 0] else .agg #[.string ⟨#[]⟩, .int .i64 0, .int .i64 5]) ∧ Below w.heap.size w w' := by
  have hq : ((sealB (s.extract 0 (s.size - 4))).toList == s.toList) = b := (okU_eq s).trans hok
  cases b
  all_goals
    go_enter Try.func14, Try.ntmps14
    go_wp2_with (first | (go_at_call 12; refine (impl_seal _ _ (by simp; omega)).mono ?_; rintro e w' ⟨rfl, hbel⟩; obtain ⟨hcc, hff⟩ := bcell hbel; have hz1 : w.heap.size < w'.heap.size := by (have hz2 := hbel.size; simp at hz2; omega)) | (go_at_call 19; refine (JoinR.join1 _ _ (by simp; omega)).mono ?_; rintro e w' ⟨rfl, hbel2⟩; obtain ⟨hcc2, hff2⟩ := bcell hbel2))
  · refine bodyPost_ret (v := .agg #[.string ⟨#[]⟩, .int .i64 0, .int .i64 5]) (by simp [results, Try.results14, go_sem, hcc]) rfl ⟨rfl, ?_⟩
    exact (((bel_alloc hbel).setCell (by simp) _).setCell (by simp) _).setCell (by simp) _
  · refine bodyPost_ret (v := .agg #[.string (s.extract 0 (s.size - 4)), .int .i64 0, .int .i64 0]) (by simp [results, Try.results14, go_sem, hcc, hcc2, hz1]) rfl ⟨rfl, ?_⟩
    exact ((((bel_alloc hbel).trans (hbel2.mono (by omega))).setCell (by simp) _).setCell (by simp) _).setCell (by simp) _
theorem spec_big (s : ByteArray) (w : World) (h1 : 8000 < s.size) (h2 : s.size ≤ 1048576) :
    Calls Try.prog 13 #[.string s] w fun e w' => e = .returned (.agg #[.string ⟨#[]⟩, .int .i64 0, .int .i64 2]) ∧ Below w.heap.size w w' := by
  go_enter Try.func13, Try.ntmps13
  go_wp2
  refine bodyPost_ret (v := .agg #[.string ⟨#[]⟩, .int .i64 0, .int .i64 2]) (by simp [results, Try.results13, go_sem]) rfl ⟨rfl, ?_⟩
  exact (Below.refl _ _).alloc (Nat.le_refl _) _
theorem spec_short (s : ByteArray) (w : World) (h1 : s.size < 4) :
    Calls Try.prog 13 #[.string s] w fun e w' => e = .returned (.agg #[.string ⟨#[]⟩, .int .i64 0, .int .i64 4]) ∧ Below w.heap.size w w' := by
  go_enter Try.func13, Try.ntmps13
  go_wp2
  refine bodyPost_ret (v := .agg #[.string ⟨#[]⟩, .int .i64 0, .int .i64 4]) (by simp [results, Try.results13, go_sem]) rfl ⟨rfl, ?_⟩
  exact (Below.refl _ _).alloc (Nat.le_refl _) _
theorem impl_big (s : ByteArray) (w : World) (h1 : 8000 < s.size) (h2 : s.size ≤ 1048576) :
    Calls Try.prog 14 #[.string s] w fun e w' => e = .returned (.agg #[.string ⟨#[]⟩, .int .i64 0, .int .i64 2]) ∧ Below w.heap.size w w' := by
  go_enter Try.func14, Try.ntmps14
  go_wp2
  refine bodyPost_ret (v := .agg #[.string ⟨#[]⟩, .int .i64 0, .int .i64 2]) (by simp [results, Try.results14, go_sem]) rfl ⟨rfl, ?_⟩
  exact (Below.refl _ _).alloc (Nat.le_refl _) _
theorem impl_short (s : ByteArray) (w : World) (h1 : s.size < 4) :
    Calls Try.prog 14 #[.string s] w fun e w' => e = .returned (.agg #[.string ⟨#[]⟩, .int .i64 0, .int .i64 4]) ∧ Below w.heap.size w w' := by
  go_enter Try.func14, Try.ntmps14
  go_wp2
  refine bodyPost_ret (v := .agg #[.string ⟨#[]⟩, .int .i64 0, .int .i64 4]) (by simp [results, Try.results14, go_sem]) rfl ⟨rfl, ?_⟩
  exact (Below.refl _ _).alloc (Nat.le_refl _) _
/-- The law's comparison of two answers that are one. -/
theorem eq_any (t : ByteArray) (x y : Int) (w : World) :
    Calls Try.prog 15 #[.agg #[.string t, .int .i64 x, .int .i64 y], .agg #[.string t, .int .i64 x, .int .i64 y]] w fun e w' => e = .returned (.bool true) ∧ Below w.heap.size w w' := by
  go_enter Try.func15, Try.ntmps15
  go_wp2
  go_ret
  exact ⟨rfl, ((Below.refl _ _).alloc (Nat.le_refl _) _).alloc (by simp) _⟩
end UnsealR
end Go.Proofs.Ytipiieooghampaf
