/-
  Whether these are free days as they may be told: either side tells the same. The condition: the list has at most 1048576 numbers.
-/
import Derived.Test.YtaihfidbpkbnkaaInts
namespace Go.Proofs.Ytaihfidbpkbnkaa
open Go.ChangeShapes Go.WideShapes Go.ChangeAt Go.RowKit
set_option linter.unusedVariables false
namespace DateR
open DateM
def stepB (zs : List Int) (i : Nat) : Bool := decide (0 ≤ zs.getD i 0 ∧ zs.getD i 0 ≤ 100000) && (decide (i = 0) || decide (zs.getD (i - 1) 0 < zs.getD i 0))
def okB (zs : List Int) (k : Nat) : Bool := (List.range k).all (stepB zs)
/-- Are they at most 60 days that rise? -/
def freeB (zs : List Int) : Bool := decide (zs.length ≤ 60) && okB zs zs.length
theorem okB_succ (zs : List Int) (k : Nat) (h : okB zs k = true) (hs : stepB zs k = true) : okB zs (k + 1) = true := by
  unfold okB at *
  rw [List.range_succ, List.all_append, h]
  simp [hs]
theorem okB_no (zs : List Int) (k n : Nat) (h : k < n) (hs : stepB zs k = false) : okB zs n = false := by
  unfold okB
  rw [List.all_eq_false]
  exact ⟨k, List.mem_range.2 h, by simp [hs]⟩
theorem freeB_no (zs : List Int) (k : Nat) (h : k < zs.length) (hs : stepB zs k = false) : false = freeB zs := by
  unfold freeB; rw [okB_no zs k _ h hs, Bool.and_false]
theorem step_cases (zs : List Int) (k : Nat) (X : Int) (hX : X = zs.getD k 0) :
    (¬ 0 ≤ X ∧ stepB zs k = false) ∨ (0 ≤ X ∧ ¬ X ≤ 100000 ∧ stepB zs k = false) ∨ (0 ≤ X ∧ X ≤ 100000 ∧ k = 0 ∧ stepB zs k = true) ∨ (0 ≤ X ∧ X ≤ 100000 ∧ k ≠ 0 ∧ (zs.getD (k - 1) 0 < X → stepB zs k = true) ∧ (¬ zs.getD (k - 1) 0 < X → stepB zs k = false)) := by
  unfold stepB
  rw [← hX]
  generalize zs.getD (k - 1) 0 = Y
  by_cases h1 : 0 ≤ X
  · by_cases h2 : X ≤ 100000
    · by_cases h3 : k = 0
      · exact .inr (.inr (.inl ⟨h1, h2, h3, by simp [h1, h2, h3]⟩))
      · exact .inr (.inr (.inr ⟨h1, h2, h3, fun h => by simp [h1, h2, h], fun h => by simp [h3]; intro _ _; omega⟩))
    · exact .inr (.inl ⟨h1, h2, by simp [h2]⟩)
  · exact .inl ⟨h1, by simp [h1]⟩
theorem isDay_any (d : Int) (w : World) : Calls Try.prog 10 #[.int .i64 d] w fun e w' => e = .returned (.bool (decide (0 ≤ d ∧ d ≤ 100000))) ∧ w' = w := by
  by_cases h1 : 0 ≤ d
  · by_cases h2 : d ≤ 100000
    all_goals
      go_enter Try.func10, Try.ntmps10
      go_wp2
      go_ret
      exact ⟨ret_bool (by simp [h1]; try omega), rfl⟩
  · go_enter Try.func10, Try.ntmps10
    go_wp2
    go_ret
    exact ⟨ret_bool (by simp; omega), rfl⟩
set_option maxHeartbeats 4000000 in
theorem impl_free_in (ao : Option Addr) (len cap : Nat) (zs : List Int) (w : World) (hlen : len ≤ 60) (hI : Ints ao len zs w) :
    Calls Try.prog 11 #[.slice ao len cap] w fun e w' => e = .returned (.bool (freeB zs)) ∧ w' = w := by
  have HI := hid_intro hI
  have HZ := hid_intro hI.1
  have h60 : ¬ (60 : Int) < (len : Int) := by omega
  clear hI
  go_enter Try.func11, Try.ntmps11
  go_wp2_with fail
  go_loop [10] (fun z => ∃ k : Nat, k ≤ len ∧ z = .int .i64 k ∧ Hid (okB zs k = true)) (fun z => len - (intOf z).toNat)
  case atStart => exact ⟨0, by omega, rfl, rfl⟩
  case round =>
    obtain ⟨k, hk, rfl, HN⟩ := hrel
    by_cases hlt : k < len
    · obtain ⟨b, off, X, rfl, hc, HX⟩ := cell_at HI.out k hlt
      have hlt2 : (k : Int) < (len : Int) := by omega
      have hkz : k < zs.length := by rw [HZ.out]; exact hlt
      rcases step_cases zs k X HX.out with ⟨h1, hs⟩ | ⟨h1, h2, hs⟩ | ⟨h1, h2, rfl, hs⟩ | ⟨h1, h2, h3, hs1, hs2⟩
      iterate 2
        · have HO := hid_intro (freeB_no zs k hkz hs)
          clear hs hkz
          go_wp2_with (first | (go_at_call 10; go_in) | (go_at_call 23; go_in))
          go_ret
          exact ⟨ret_bool HO.out, rfl⟩
      · have HO := hid_intro (okB_succ zs 0 HN.out hs)
        have hc0 : w.cell? ⟨b, off, none⟩ = some (.int .i64 X) := hc
        clear hs hkz hc
        go_wp2_with (first | (go_at_call 10; go_in) | (go_at_call 23; go_in))
        go_round
        case rel => exact ⟨0 + 1, by omega, by go_num, HO⟩
        case measure => simp [intOf]; omega
      · obtain ⟨j, rfl⟩ : ∃ j, k = j + 1 := ⟨k - 1, by omega⟩
        obtain ⟨b', off', Y, he, hc', HY⟩ := cell_at HI.out j (by omega)
        obtain ⟨rfl, rfl⟩ : b = b' ∧ off = off' := by simpa using he
        have e1 : (((j + 1 : Nat) : Int) - 1).toNat = j := by omega
        have HS1 := hid_intro hs1
        have HS2 := hid_intro hs2
        have HKZ := hid_intro hkz
        clear hs1 hs2 hkz he h3
        by_cases hXY : X ≤ Y
        · have HO := hid_intro (freeB_no zs (j + 1) HKZ.out (HS2.out (by rw [Nat.add_sub_cancel, ← HY.out]; omega)))
          go_wp2_with (first | (go_at_call 10; go_in) | (go_at_call 23; go_in))
          go_ret
          exact ⟨ret_bool HO.out, rfl⟩
        · have HO := hid_intro (okB_succ zs (j + 1) HN.out (HS1.out (by rw [Nat.add_sub_cancel, ← HY.out]; omega)))
          go_wp2_with (first | (go_at_call 10; go_in) | (go_at_call 23; go_in))
          go_round
          case rel => exact ⟨j + 1 + 1, by omega, by go_num, HO⟩
          case measure => simp [intOf]; omega
    · have hlt2 : ¬ (k : Int) < (len : Int) := by omega
      obtain rfl : k = len := by omega
      have HO : Hid (true = freeB zs) := hid_intro (by unfold freeB; rw [HZ.out, HN.out, decide_eq_true hlen]; rfl)
      go_wp2_with fail
      go_ret
      exact ⟨ret_bool HO.out, rfl⟩
theorem impl_free (ao : Option Addr) (len cap : Nat) (zs : List Int) (w : World) (hlen : len ≤ 1048576) (hI : Ints ao len zs w) :
    Calls Try.prog 11 #[.slice ao len cap] w fun e w' => e = .returned (.bool (freeB zs)) ∧ w' = w := by
  by_cases h : len ≤ 60
  · exact impl_free_in ao len cap zs w h hI
  · have h60 : (60 : Int) < (len : Int) := by omega
    have HO : Hid (false = freeB zs) := hid_intro (by unfold freeB; rw [hI.1, decide_eq_false h]; rfl)
    clear hI h
    go_enter Try.func11, Try.ntmps11
    go_wp2_with fail
    go_ret
    exact ⟨ret_bool HO.out, rfl⟩
end DateR
end Go.Proofs.Ytaihfidbpkbnkaa
