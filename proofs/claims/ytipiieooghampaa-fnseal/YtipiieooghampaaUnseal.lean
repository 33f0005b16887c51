/-
  Unseal: what the model and the program hand back is one thing. The condition: the text has at most 1048576 bytes.
-/
import Derived.Test.YtipiieooghampaaSeal
import Derived.Deep.RegionWith
import Derived.Deep.QuietTactic
import Derived.BigQuiet
namespace Go.Proofs.Ytipiieooghampaa
open Go.ChangeShapes Go.WideShapes Go.ChangeAt Go.RowKit
open Go.ChangeMaps (open_string shut_string)
set_option linter.unusedVariables false
namespace UnsealR
open SealR
/-- Are the last four bytes those of the CRC of all others? -/
def okU (s : ByteArray) : Bool := (four (CrcR.crcV 0 (s.extract 0 (s.size - 4)))).toList == (s.extract (s.size - 4) s.size).toList
theorem parts4 (s : ByteArray) : s.extract 0 (s.size - 4) ++ s.extract (s.size - 4) s.size = s := by simp
theorem okU_eq (s : ByteArray) : ((sealB (s.extract 0 (s.size - 4))).toList == s.toList) = okU s := by
  unfold okU sealB
  obtain ⟨f, hf⟩ : ∃ f, f = four (CrcR.crcV 0 (s.extract 0 (s.size - 4))) := ⟨_, rfl⟩
  rw [← hf]
  have h := parts4 s
  obtain ⟨t, ht⟩ : ∃ t, t = s.extract 0 (s.size - 4) := ⟨_, rfl⟩
  obtain ⟨r, hr⟩ : ∃ r, r = s.extract (s.size - 4) s.size := ⟨_, rfl⟩
  rw [← ht, ← hr] at h
  rw [← ht, ← hr, ← h]
  rw [Bool.eq_iff_iff]
  simp [ByteArray.toList_eq]
set_option maxHeartbeats 1000000 in
theorem impl_un (s : ByteArray) (w : World) (h1 : 4 ≤ s.size) (h2 : s.size ≤ 8000) (b : Bool) (hok : okU s = b) :
    Calls Try.prog 8 #[.string s] w fun e w' => e = .returned (if b then .agg #[.string (s.extract 0 (s.size - 4)), .int .i64 0, .int .i64 0] else .agg #[.string ⟨#[]⟩, .int .i64 0, .int .i64 5]) ∧ Below w.heap.size w w' := by
  have hq : ((sealB (s.extract 0 (s.size - 4))).toList == s.toList) = b := (okU_eq s).trans hok
  cases b
  all_goals
    go_enter Try.func8, Try.ntmps8
    go_wp2_with (first | (go_at_call 5; refine (impl_seal _ _ (by simp; omega)).mono ?_; rintro e w' ⟨rfl, hbel⟩; obtain ⟨hcc, hff⟩ := bcell hbel; have hz1 : w.heap.size < w'.heap.size := by (have hz2 := hbel.size; simp at hz2; omega)) | (go_at_call 17; refine (JoinR.join1 _ _ (by simp; omega)).mono ?_; rintro e w' ⟨rfl, hbel2⟩; obtain ⟨hcc2, hff2⟩ := bcell hbel2))
  · refine bodyPost_ret (v := .agg #[.string ⟨#[]⟩, .int .i64 0, .int .i64 5]) (by simp [results, Try.results8, go_sem, hcc]) rfl ⟨rfl, ?_⟩
    exact (((bel_alloc hbel).setCell (by simp) _).setCell (by simp) _).setCell (by simp) _
  · refine bodyPost_ret (v := .agg #[.string (s.extract 0 (s.size - 4)), .int .i64 0, .int .i64 0]) (by simp [results, Try.results8, go_sem, hcc, hcc2, hz1]) rfl ⟨rfl, ?_⟩
    exact ((((bel_alloc hbel).trans (hbel2.mono (by omega))).setCell (by simp) _).setCell (by simp) _).setCell (by simp) _
theorem impl_big (s : ByteArray) (w : World) (h1 : 8000 < s.size) (h2 : s.size ≤ 1048576) :
    Calls Try.prog 8 #[.string s] w fun e w' => e = .returned (.agg #[.string ⟨#[]⟩, .int .i64 0, .int .i64 2]) ∧ Below w.heap.size w w' := by
  go_enter Try.func8, Try.ntmps8
  go_wp2
  refine bodyPost_ret (v := .agg #[.string ⟨#[]⟩, .int .i64 0, .int .i64 2]) (by simp [results, Try.results8, go_sem]) rfl ⟨rfl, ?_⟩
  exact (Below.refl _ _).alloc (Nat.le_refl _) _
theorem impl_short (s : ByteArray) (w : World) (h1 : s.size < 4) :
    Calls Try.prog 8 #[.string s] w fun e w' => e = .returned (.agg #[.string ⟨#[]⟩, .int .i64 0, .int .i64 4]) ∧ Below w.heap.size w w' := by
  go_enter Try.func8, Try.ntmps8
  go_wp2
  refine bodyPost_ret (v := .agg #[.string ⟨#[]⟩, .int .i64 0, .int .i64 4]) (by simp [results, Try.results8, go_sem]) rfl ⟨rfl, ?_⟩
  exact (Below.refl _ _).alloc (Nat.le_refl _) _
end UnsealR
end Go.Proofs.Ytipiieooghampaa
