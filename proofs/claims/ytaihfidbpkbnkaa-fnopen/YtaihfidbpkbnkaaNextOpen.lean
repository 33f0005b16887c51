/-
  NextOpen: either side tells the same. The condition: the list has at most 1048576 numbers.
-/
import Derived.Test.YtaihfidbpkbnkaaFreeDay
import Derived.Scope
import Derived.WalkMore
namespace Go.Proofs.Ytaihfidbpkbnkaa
open Go.ChangeShapes Go.WideShapes Go.ChangeAt Go.RowKit
set_option linter.unusedVariables false
namespace DateR
open DateM
theorem noGoto_ret {Q : Exit → Act → World → Prop} {a : Act} {w : World} (h : Q .ret a w) : Exit.noGoto Q .ret a w := h
/-- The first number from d on, up to 100001, at which f does not hold. -/
def First (f : Int → Bool) (d N : Int) : Prop := d ≤ N ∧ N ≤ 100001 ∧ (∀ a, d ≤ a → a < N → f a = true) ∧ (N ≤ 100000 → f N = false)
theorem first_is (f : Int → Bool) (d : Int) (h : d ≤ 100001) : ∃ N, First f d N := by
  obtain ⟨n, hn⟩ : ∃ n : Nat, n = (100001 - d).toNat := ⟨_, rfl⟩
  induction n generalizing d with
  | zero => exact ⟨d, by omega, by omega, fun a h1 h2 => by omega, fun h => by omega⟩
  | succ n ih =>
    cases hf : f d
    · exact ⟨d, by omega, by omega, fun a h1 h2 => by omega, fun _ => hf⟩
    · obtain ⟨N, h1, h2, h3, h4⟩ := ih (d + 1) (by omega) (by omega)
      refine ⟨N, by omega, h2, fun a ha hb => ?_, h4⟩
      by_cases e : a = d
      · rw [e]; exact hf
      · exact h3 a (by omega) hb
theorem first_one {f : Int → Bool} {d N M : Int} (h1 : First f d N) (h2 : First f d M) : N = M := by
  obtain ⟨a1, a2, a3, a4⟩ := h1
  obtain ⟨b1, b2, b3, b4⟩ := h2
  apply Int.le_antisymm
  · apply Int.le_of_not_gt; intro h
    have := a3 M b1 h
    rw [b4 (by omega)] at this
    cases this
  · apply Int.le_of_not_gt; intro h
    have := b3 N a1 h
    rw [a4 (by omega)] at this
    cases this
/-- What NextOpen tells: where the list and the day are right, the first that is not free. -/
def NextIs (d : Int) (zs : List Int) (v : Int) : Prop :=
  (400 < zs.length ∧ v = 0) ∨ (zs.length ≤ 400 ∧ (decide (0 ≤ d ∧ d ≤ 100000) && freeB zs) = false ∧ v = -1) ∨ (zs.length ≤ 400 ∧ decide (0 ≤ d ∧ d ≤ 100000) = true ∧ freeB zs = true ∧ ∃ N, First (fun a => isFreeB a zs) d N ∧ v = if N ≤ 100000 then N else -1)
theorem next_is (d : Int) (zs : List Int) : ∃ v, NextIs d zs v := by
  by_cases h : 400 < zs.length
  · exact ⟨0, .inl ⟨h, rfl⟩⟩
  · cases h1 : decide (0 ≤ d ∧ d ≤ 100000)
    · exact ⟨-1, .inr (.inl ⟨by omega, by rw [h1]; rfl, rfl⟩)⟩
    · cases h2 : freeB zs
      · exact ⟨-1, .inr (.inl ⟨by omega, by rw [h2, Bool.and_false], rfl⟩)⟩
      · have h3 := of_decide_eq_true h1
        obtain ⟨N, hN⟩ := first_is (fun a => isFreeB a zs) d (by omega)
        exact ⟨_, .inr (.inr ⟨by omega, h1, h2, N, hN, rfl⟩)⟩
theorem free_split (a : Int) (zs : List Int) : (isFreeB a zs = true → decide (5 ≤ wd a) = true ∨ (decide (5 ≤ wd a) = false ∧ decide (a ∈ zs) = true)) ∧ (isFreeB a zs = false → decide (5 ≤ wd a) = false ∧ decide (a ∈ zs) = false) := by
  unfold isFreeB
  cases decide (5 ≤ wd a) <;> cases decide (a ∈ zs) <;> simp
set_option maxRecDepth 100000 in
set_option maxHeartbeats 8000000 in
theorem impl_next_in (d N : Int) (ao : Option Addr) (len cap : Nat) (zs : List Int) (w : World) (hlen : len ≤ 400) (hI : Ints ao len zs w) (hd : decide (0 ≤ d ∧ d ≤ 100000) = true) (hf : freeB zs = true) (hN : First (fun a => isFreeB a zs) d N) :
    Calls Try.prog 5 #[.int .i64 d, .slice ao len cap] w fun e w' => e = .returned (.int .i64 (if N ≤ 100000 then N else -1)) ∧ w' = w := by
  have h1 := fun w => isDay_any d w
  rw [hd] at h1
  have h2 := impl_free ao len cap zs w (by omega) hI
  rw [hf] at h2
  have h3 := fun a => contains_any a ao len cap zs w (by omega) hI
  have hl : ¬ (400 : Int) < (len : Int) := by omega
  have hd2 := of_decide_eq_true hd
  have H1 := hid_intro h1
  have H2 := hid_intro h2
  have H3 := hid_intro h3
  obtain ⟨n1, n2, n3, n4⟩ := hN
  have N3 := hid_intro n3
  have N4 := hid_intro n4
  have d0 := hd2.1
  clear h1 h2 h3 hd hf hI hd2 n3 n4
  go_enter Try.func5, Try.ntmps5
  go_wp2_with fail
  refine wp_scope_straight ?_
  go_wp2_with (first | (go_at_call 10; refine (H1.out _).mono ?_; rintro e w' ⟨rfl, rfl⟩) | (go_at_call 11; refine H2.out.mono ?_; rintro e w' ⟨rfl, rfl⟩))
  refine wp_label ?_
  go_wp2_with fail
  go_loop [5, 6] (fun x z => ∃ a : Int, z = .int .i64 a ∧ x = .int .i64 (-1) ∧ d ≤ a ∧ a ≤ N) (fun _ z => (100001 - intOf z).toNat)
  case atStart => exact ⟨d, rfl, rfl, Int.le_refl _, n1⟩
  case round =>
    obtain ⟨a, rfl, rfl, ha1, ha2⟩ := hrel
    have a0 : 0 ≤ a := by omega
    have HW := hid_intro (fun w => weekend_any a w)
    have HC := hid_intro (H3.out a)
    by_cases hlt : a < N
    · have ha : a ≤ 100000 := by omega
      rcases (free_split a zs).1 (N3.out a ha1 hlt) with hw | ⟨hw, hc⟩
      · rw [hw] at HW
        clear hw HC
        go_wp2_with (go_at_call 12; refine (HW.out _).mono ?_; rintro e w' ⟨rfl, rfl⟩)
        go_round
        case rel => exact ⟨a + 1, rfl, rfl, by omega, by omega⟩
        case measure => simp [intOf]; omega
      · rw [hw] at HW
        rw [hc] at HC
        clear hw hc
        go_wp2_with (first | (go_at_call 12; refine (HW.out _).mono ?_; rintro e w' ⟨rfl, rfl⟩) | (go_at_call 13; refine HC.out.mono ?_; rintro e w' ⟨rfl, rfl⟩))
        go_round
        case rel => exact ⟨a + 1, rfl, rfl, by omega, by omega⟩
        case measure => simp [intOf]; omega
    · obtain rfl : a = N := by omega
      by_cases ha : a ≤ 100000
      · obtain ⟨hw, hc⟩ := (free_split a zs).2 (N4.out ha)
        rw [hw] at HW
        rw [hc] at HC
        have HV : Hid (a = if a ≤ 100000 then a else -1) := hid_intro (if_pos ha).symm
        clear hw hc
        go_wp2_with (first | (go_at_call 12; refine (HW.out _).mono ?_; rintro e w' ⟨rfl, rfl⟩) | (go_at_call 13; refine HC.out.mono ?_; rintro e w' ⟨rfl, rfl⟩))
        try refine noGoto_ret ?_
        go_ret
        exact ⟨ret_int (by first | rfl | exact HV.out), rfl⟩
      · have HV : Hid (-1 = if a ≤ 100000 then a else -1) := hid_intro (if_neg ha).symm
        go_wp2_with fail
        try refine noGoto_ret ?_
        go_ret
        exact ⟨ret_int (by first | rfl | exact HV.out), rfl⟩
theorem impl_next_no (d : Int) (ao : Option Addr) (len cap : Nat) (zs : List Int) (w : World) (hlen : len ≤ 400) (hI : Ints ao len zs w) (hq : (decide (0 ≤ d ∧ d ≤ 100000) && freeB zs) = false) :
    Calls Try.prog 5 #[.int .i64 d, .slice ao len cap] w fun e w' => e = .returned (.int .i64 (-1)) ∧ w' = w := by
  have h1 := fun w => isDay_any d w
  have h2 := impl_free ao len cap zs w (by omega) hI
  have hl : ¬ (400 : Int) < (len : Int) := by omega
  clear hI
  generalize decide (0 ≤ d ∧ d ≤ 100000) = q1 at h1 hq
  generalize freeB zs = q2 at h2 hq
  have H1 := hid_intro h1
  have H2 := hid_intro h2
  clear h1 h2
  cases q1 <;> cases q2
  case true.true => simp at hq
  all_goals
    clear hq
    go_enter Try.func5, Try.ntmps5
    go_wp2_with fail
    refine wp_scope_straight ?_
    go_wp2_with (first | (go_at_call 10; refine (H1.out _).mono ?_; rintro e w' ⟨rfl, rfl⟩) | (go_at_call 11; refine H2.out.mono ?_; rintro e w' ⟨rfl, rfl⟩))
    try refine noGoto_ret ?_
    go_ret
    exact ⟨rfl, rfl⟩
theorem impl_next_big (d : Int) (ao : Option Addr) (len cap : Nat) (w : World) (hlen : 400 < len) :
    Calls Try.prog 5 #[.int .i64 d, .slice ao len cap] w fun e w' => e = .returned (.int .i64 0) ∧ w' = w := by
  have hl : (400 : Int) < (len : Int) := by omega
  go_enter Try.func5, Try.ntmps5
  go_wp2_with fail
  refine wp_scope_straight ?_
  go_wp2_with fail
  try refine noGoto_ret ?_
  go_ret
  exact ⟨rfl, rfl⟩
theorem impl_nextopen (d : Int) (ao : Option Addr) (len cap : Nat) (zs : List Int) (w : World) (hI : Ints ao len zs w) (v : Int) (hv : NextIs d zs v) :
    Calls Try.prog 5 #[.int .i64 d, .slice ao len cap] w fun e w' => e = .returned (.int .i64 v) ∧ w' = w := by
  have hz := hI.1
  rcases hv with ⟨h, rfl⟩ | ⟨h, hq, rfl⟩ | ⟨h, hd, hf, N, hN, rfl⟩
  · exact impl_next_big d ao len cap w (by omega)
  · exact impl_next_no d ao len cap zs w (by omega) hI hq
  · exact impl_next_in d N ao len cap zs w (by omega) hI hd hf hN
set_option maxRecDepth 100000 in
set_option maxHeartbeats 8000000 in
theorem spec_l03next (d N : Int) (ao : Option Addr) (len cap : Nat) (zs : List Int) (w : World) (hlen : len ≤ 400) (hI : Ints ao len zs w) (d0 : 0 ≤ d) (hN : First (fun a => isFreeB a zs) d N) :
    Calls Try.prog 16 #[.int .i64 d, .slice ao len cap] w fun e w' => e = .returned (.int .i64 (if N ≤ 100000 then N else -1)) ∧ w' = w := by
  have H3 := hid_intro (fun a => spec_isfree a ao len cap zs w (by omega) hI)
  obtain ⟨n1, n2, n3, n4⟩ := hN
  have N3 := hid_intro n3
  have N4 := hid_intro n4
  clear hI n3 n4
  go_enter Try.func16, Try.ntmps16
  go_wp2_with fail
  go_loop [0] (fun z => ∃ a : Int, z = .int .i64 a ∧ d ≤ a ∧ a ≤ N) (fun z => (100001 - intOf z).toNat)
  case atStart => exact ⟨d, rfl, Int.le_refl _, n1⟩
  case round =>
    obtain ⟨a, rfl, ha1, ha2⟩ := hrel
    have a0 : 0 ≤ a := by omega
    have HC := hid_intro (H3.out a)
    by_cases hlt : a < N
    · have ha : a ≤ 100000 := by omega
      rw [show isFreeB a zs = true from N3.out a ha1 hlt] at HC
      go_wp2_with (go_at_call 17; refine HC.out.mono ?_; rintro e w' ⟨rfl, rfl⟩)
      go_round
      case rel => exact ⟨a + 1, rfl, by omega, by omega⟩
      case measure => simp [intOf]; omega
    · obtain rfl : a = N := by omega
      by_cases ha : a ≤ 100000
      · rw [show isFreeB a zs = false from N4.out ha] at HC
        have HV : Hid (a = if a ≤ 100000 then a else -1) := hid_intro (if_pos ha).symm
        have ha3 : ¬ 100000 < a := by omega
        go_wp2_with (go_at_call 17; refine HC.out.mono ?_; rintro e w' ⟨rfl, rfl⟩)
        go_ret
        exact ⟨ret_int (by first | rfl | exact HV.out), rfl⟩
      · have HV : Hid (-1 = if a ≤ 100000 then a else -1) := hid_intro (if_neg ha).symm
        have ha3 : 100000 < a := by omega
        go_wp2_with fail
        go_ret
        exact ⟨ret_int (by first | rfl | exact HV.out), rfl⟩
set_option maxHeartbeats 8000000 in
theorem spec_nextopen (d : Int) (ao : Option Addr) (len cap : Nat) (zs : List Int) (w : World) (hlen : len ≤ 1048576) (hI : Ints ao len zs w) (v : Int) (hv : NextIs d zs v) :
    Calls Try.prog 6 #[.int .i64 d, .slice ao len cap] w fun e w' => e = .returned (.int .i64 v) ∧ Drawn w w' := by
  have hz := hI.1
  have h1 := fun w => sday_any d w
  have h2 := spec_free ao len cap zs w hlen hI
  rcases hv with ⟨h, rfl⟩ | ⟨h, hq, rfl⟩ | ⟨h, hd, hf, N, hN, rfl⟩
  · have hl : (400 : Int) < (len : Int) := by omega
    clear h1 h2 hI
    go_enter Try.func6, Try.ntmps6
    go_wp2_with fail
    go_ret
    exact ⟨rfl, 0, rfl⟩
  · have hl : ¬ (400 : Int) < (len : Int) := by omega
    generalize decide (0 ≤ d ∧ d ≤ 100000) = q1 at h1 hq
    generalize freeB zs = q2 at h2 hq
    have H1 := hid_intro h1
    have H2 := hid_intro h2
    clear h1 h2 hI
    cases q1
    · clear hq
      go_enter Try.func6, Try.ntmps6
      go_wp2_with (go_at_call 14; refine (H1.out _).mono ?_; rintro e w' ⟨rfl, rfl⟩)
      go_ret
      exact ⟨rfl, 0, rfl⟩
    · cases q2
      · clear hq
        go_enter Try.func6, Try.ntmps6
        go_wp2_with (first | (go_at_call 14; refine (H1.out _).mono ?_; rintro e w' ⟨rfl, rfl⟩) | (go_at_call 15; refine H2.out.mono ?_; rintro e w1 ⟨rfl, hd⟩; have HD := hid_intro hd; clear hd))
        go_ret
        exact ⟨rfl, HD.out⟩
      · simp at hq
  · have hl : ¬ (400 : Int) < (len : Int) := by omega
    have hd2 := of_decide_eq_true hd
    rw [hd] at h1
    rw [hf] at h2
    have H1 := hid_intro h1
    have H2 := hid_intro h2
    have H3 := hid_intro (fun w' (h : Drawn w w') => spec_l03next d N ao len cap zs w' (by omega) (h.ints hI) hd2.1 hN)
    generalize (if N ≤ 100000 then N else -1) = V at *
    clear h1 h2 hI hd hf hN hd2
    go_enter Try.func6, Try.ntmps6
    go_wp2_with (first | (go_at_call 14; refine (H1.out _).mono ?_; rintro e w' ⟨rfl, rfl⟩) | (go_at_call 15; refine H2.out.mono ?_; rintro e w1 ⟨rfl, hd⟩; have HD := hid_intro hd; clear hd) | (go_at_call 16; refine (H3.out _ HD.out).mono ?_; rintro e w' ⟨rfl, rfl⟩))
    go_ret
    exact ⟨rfl, HD.out⟩
end DateR
end Go.Proofs.Ytaihfidbpkbnkaa
