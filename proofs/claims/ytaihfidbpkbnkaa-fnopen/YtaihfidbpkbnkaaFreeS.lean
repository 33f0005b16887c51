/-
  Whether these are free days as they may be told, the model's side. The condition: the list has at most 1048576 numbers.
-/
import Derived.Test.YtaihfidbpkbnkaaFree
namespace Go.Proofs.Ytaihfidbpkbnkaa
open Go.ChangeShapes Go.WideShapes Go.ChangeAt Go.RowKit
set_option linter.unusedVariables false
namespace DateR
open DateM
theorem sday_any (d : Int) (w : World) : Calls Try.prog 14 #[.int .i64 d] w fun e w' => e = .returned (.bool (decide (0 ≤ d ∧ d ≤ 100000))) ∧ w' = w := by
  by_cases h1 : 0 ≤ d
  · by_cases h2 : d ≤ 100000
    all_goals
      go_enter Try.func14, Try.ntmps14
      go_wp2
      go_ret
      exact ⟨ret_bool (by simp [h1]; try omega), rfl⟩
  · go_enter Try.func14, Try.ntmps14
    go_wp2
    go_ret
    exact ⟨ret_bool (by simp; omega), rfl⟩
theorem sday_yes (d : Int) (h : 0 ≤ d ∧ d ≤ 100000) (w : World) : Calls Try.prog 14 #[.int .i64 d] w fun e w' => e = .returned (.bool true) ∧ w' = w := by
  have := sday_any d w; rw [decide_eq_true h] at this; exact this
theorem sday_no (d : Int) (h : ¬ (0 ≤ d ∧ d ≤ 100000)) (w : World) : Calls Try.prog 14 #[.int .i64 d] w fun e w' => e = .returned (.bool false) ∧ w' = w := by
  have := sday_any d w; rw [decide_eq_false h] at this; exact this
/-- Some draws behind it. -/
def Drawn (w w' : World) : Prop := ∃ n, w' = w.drewN n
theorem Drawn.more {w w' : World} (h : Drawn w w') (m : Nat) : Drawn w (w'.drewN m) := by
  obtain ⟨n, rfl⟩ := h
  exact ⟨n + m, by rw [World.drewN_drewN]⟩
theorem Drawn.ints {w w' : World} (h : Drawn w w') {ao : Option Addr} {len : Nat} {zs : List Int} (hI : Ints ao len zs w) : Ints ao len zs w' := by
  obtain ⟨n, rfl⟩ := h
  exact hI
theorem Drawn.bel {w w' : World} (h : Drawn w w') : Below w.heap.size w w' := by
  obtain ⟨n, rfl⟩ := h
  exact bel_drewN (Below.refl _ _) n
set_option maxHeartbeats 8000000 in
theorem spec_free (ao : Option Addr) (len cap : Nat) (zs : List Int) (w : World) (hlen : len ≤ 1048576) (hI : Ints ao len zs w) :
    Calls Try.prog 15 #[.slice ao len cap] w fun e w' => e = .returned (.bool (freeB zs)) ∧ Drawn w w' := by
  have HI := hid_intro hI
  have HZ := hid_intro hI.1
  clear hI
  go_enter Try.func15, Try.ntmps15
  go_wp2_with fail
  go_loopw [3] (fun z wr => ∃ k : Nat, k ≤ len ∧ z = .int .i64 k ∧ Hid (okB zs k = true) ∧ Hid (Drawn w wr)) (fun z _ => len - (intOf z).toNat)
  case atStart => exact ⟨0, by omega, rfl, rfl, 0, rfl⟩
  case round =>
    obtain ⟨k, hk, rfl, HN, HW⟩ := hrel
    have HI := hid_intro (HW.out.ints HI.out)
    by_cases hlt : k < len
    · obtain ⟨b, off, X, rfl, hc, HX⟩ := cell_at HI.out k hlt
      have hlt2 : (k : Int) < (len : Int) := by omega
      have hkz : k < zs.length := by rw [HZ.out]; exact hlt
      rcases step_cases zs k X HX.out with ⟨h1, hs⟩ | ⟨h1, h2, hs⟩ | ⟨h1, h2, rfl, hs⟩ | ⟨h1, h2, h3, hs1, hs2⟩
      iterate 2
        · have HO := hid_intro (freeB_no zs k hkz hs)
          have HD := hid_intro (fun w => sday_no X (by omega) w)
          clear hs hkz
          go_wp2_with fail
          go_quiet ((go_at_call 14; exact Calls.quiet_of_same (HD.out _)))
          go_wp2
          go_ret
          exact ⟨ret_bool HO.out, HW.out.more _⟩
      · have HO := hid_intro (okB_succ zs 0 HN.out hs)
        have HD := hid_intro (fun w => sday_yes X ⟨h1, h2⟩ w)
        have hc0 : wr.cell? ⟨b, off, none⟩ = some (.int .i64 X) := hc
        clear hs hkz hc
        go_wp2_with fail
        go_quiet ((go_at_call 14; exact Calls.quiet_of_same (HD.out _)))
        go_wp2
        go_roundw
        case rel => exact ⟨0 + 1, by omega, by go_num, HO, hid_intro (HW.out.more _)⟩
        case measure => simp [intOf]; omega
      · obtain ⟨j, rfl⟩ : ∃ j, k = j + 1 := ⟨k - 1, by omega⟩
        obtain ⟨b', off', Y, he, hc', HY⟩ := cell_at HI.out j (by omega)
        obtain ⟨rfl, rfl⟩ : b = b' ∧ off = off' := by simpa using he
        have HS1 := hid_intro hs1
        have HS2 := hid_intro hs2
        have HKZ := hid_intro hkz
        have HD := hid_intro (fun w => sday_yes X ⟨h1, h2⟩ w)
        have hj : (0 : Int) < (j : Int) + 1 := by omega
        clear hs1 hs2 hkz he h3
        by_cases hXY : X ≤ Y
        · have HO := hid_intro (freeB_no zs (j + 1) HKZ.out (HS2.out (by rw [Nat.add_sub_cancel, ← HY.out]; omega)))
          go_wp2_with fail
          go_quiet ((go_at_call 14; exact Calls.quiet_of_same (HD.out _)))
          go_wp2
          go_ret
          exact ⟨ret_bool HO.out, HW.out.more _⟩
        · have HO := hid_intro (okB_succ zs (j + 1) HN.out (HS1.out (by rw [Nat.add_sub_cancel, ← HY.out]; omega)))
          go_wp2_with fail
          go_quiet ((go_at_call 14; exact Calls.quiet_of_same (HD.out _)))
          go_wp2
          go_roundw
          case rel => exact ⟨j + 1 + 1, by omega, by go_num, HO, hid_intro (HW.out.more _)⟩
          case measure => simp [intOf]; omega
    · have hlt2 : ¬ (k : Int) < (len : Int) := by omega
      obtain rfl : k = len := by omega
      have HO : Hid (decide ((k : Int) ≤ 60) = freeB zs) := hid_intro (by unfold freeB; rw [HZ.out, HN.out, Bool.and_true]; exact decide_eq_decide.2 (by omega))
      go_wp2_with fail
      go_ret
      exact ⟨ret_bool HO.out, HW.out⟩
end DateR
end Go.Proofs.Ytaihfidbpkbnkaa
