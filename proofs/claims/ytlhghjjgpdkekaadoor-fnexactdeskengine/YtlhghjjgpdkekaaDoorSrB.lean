/-
  Names of sources that are right: both sides say the same. The condition: at most 1048576 names of at most 1048576 bytes.
-/
import Derived.Test.YtlhghjjgpdkekaaDoorStT
import Derived.Test.YtlhghjjgpdkekaaDoorNameF
import Derived.Test.YtlhghjjgpdkekaaDoorTxtLt
import Derived.Deep.RegionHeld3
import Derived.BigQuiet
import Derived.Deep.QuietTactic
namespace Go.Proofs.YtlhghjjgpdkekaaDoor
open Go.ChangeShapes Go.WideShapes Go.ChangeAt Go.RowKit
set_option linter.unusedVariables false
namespace StxR
open RowG LtR
open NameR (nameB)
/-- The name ahead, none ahead of the first. -/
def ahd (ns : List ByteArray) : Nat → ByteArray
  | 0 => ⟨#[]⟩
  | k + 1 => ns.getD k tz
def NOk (ns : List ByteArray) (k : Nat) : Prop := ∀ i, i < k → lt (ahd ns i) (ns.getD i tz) = true ∧ nameB (ns.getD i tz) = true
def NRight (ns : List ByteArray) : Prop := (1 ≤ ns.length ∧ ns.length ≤ 3) ∧ NOk ns ns.length
def NOkDec (ns : List ByteArray) (k : Nat) : Decidable (NOk ns k) := inferInstanceAs (Decidable (∀ i, i < k → lt (ahd ns i) (ns.getD i tz) = true ∧ nameB (ns.getD i tz) = true))
def NRightDec (ns : List ByteArray) : Decidable (NRight ns) :=
  haveI := NOkDec ns ns.length
  inferInstanceAs (Decidable ((1 ≤ ns.length ∧ ns.length ≤ 3) ∧ NOk ns ns.length))
/-- Are these right names of sources? -/
def nsB (ns : List ByteArray) : Bool := @decide (NRight ns) (NRightDec ns)
theorem nsB_no {ns : List ByteArray} (h : ¬ NRight ns) : nsB ns = false := by unfold nsB; exact @decide_eq_false _ (NRightDec ns) h
theorem nsB_yes {ns : List ByteArray} (h : NRight ns) : nsB ns = true := by unfold nsB; exact @decide_eq_true _ (NRightDec ns) h
theorem nsB_iff {ns : List ByteArray} : nsB ns = true ↔ NRight ns := by unfold nsB; exact @decide_eq_true_iff _ (NRightDec ns)
theorem NOk.zero (ns : List ByteArray) : NOk ns 0 := fun i h => absurd h (by omega)
theorem NOk.more {ns : List ByteArray} {k : Nat} (h : NOk ns k) (h1 : lt (ahd ns k) (ns.getD k tz) = true) (h2 : nameB (ns.getD k tz) = true) : NOk ns (k + 1) := by
  intro i hi
  by_cases e : i = k
  · subst e; exact ⟨h1, h2⟩
  · exact h i (by omega)
theorem nsB_false {ns : List ByteArray} {k : Nat} (hk : k < ns.length) (h : ¬ (lt (ahd ns k) (ns.getD k tz) = true ∧ nameB (ns.getD k tz) = true)) : nsB ns = false := nsB_no (fun hr => h (hr.2 k hk))
theorem nsB_len {ns : List ByteArray} (h : ¬ (1 ≤ ns.length ∧ ns.length ≤ 3)) : nsB ns = false := nsB_no (fun hr => h hr.1)
theorem name_posN {s : ByteArray} (h : nameB s = true) : 1 ≤ s.size := by
  unfold nameB at h
  simp at h
  exact h.1
/-- One text against another, as the walk asks it. -/
theorem le_casesN (x a : ByteArray) : (Op.bytesLess x.toList a.toList = true ∧ lt a x = false) ∨ (Op.bytesLess x.toList a.toList = false ∧ x.toList = a.toList ∧ (x.toList == a.toList) = true ∧ lt a x = false) ∨ (Op.bytesLess x.toList a.toList = false ∧ x.toList ≠ a.toList ∧ (x.toList == a.toList) = false ∧ lt a x = true) := by
  cases h : lt x a
  · by_cases e : x = a
    · subst e; exact .inr (.inl ⟨h, rfl, by simp, h⟩)
    · have ne : x.toList ≠ a.toList := fun q => e (toList_inj q)
      refine .inr (.inr ⟨h, ne, by simpa using ne, ?_⟩)
      cases h2 : lt a x
      · exact absurd (lt_total h h2) e
      · rfl
  · exact .inl ⟨h, lt_asymm h⟩
theorem with_yes (len : Nat) (w : World) (h41 : (len : Int) ≤ 3) (h42 : (1 : Int) ≤ (len : Int)) : Calls Tryd.prog 60 #[.int .i64 (len : Int), .int .i64 1, .int .i64 3] w fun e w' => e = .returned (.bool true) ∧ w' = w := by
  go_enter Tryd.func60, Tryd.ntmps60
  go_wp2_with fail
  go_ret
  exact ⟨rfl, rfl⟩
set_option maxRecDepth 100000 in
set_option maxHeartbeats 4000000 in
theorem impl_names (ao : Option Addr) (cap : Nat) (ns : List ByteArray) (w : World) (hlen : ns.length ≤ 1048576) (hS : ∀ e ∈ ns, e.size ≤ 1048576) (hI : Tgs ao ns w) :
    Calls Tryd.prog 33 #[.slice ao ns.length cap] w fun e w' => e = .returned (.bool (nsB ns)) ∧ Below w.heap.size w w' := by
  by_cases h40 : 1 ≤ ns.length ∧ ns.length ≤ 3
  rotate_left
  · have HR := hid_intro (nsB_len h40)
    obtain ⟨len, hl⟩ : ∃ len, len = ns.length := ⟨_, rfl⟩
    rw [← hl] at hlen h40 ⊢
    clear hI hS hl
    rcases (show len = 0 ∨ 3 < len by omega) with rfl | h4
    · go_enter Tryd.func33, Tryd.ntmps33
      go_wp2_with (go_at_call 60; go_in)
      go_ret
      exact ⟨ret_bool HR.out.symm, Below.refl _ _⟩
    · have h41 : ¬ (len : Int) ≤ 3 := by omega
      have h42 : (1 : Int) ≤ (len : Int) := by omega
      go_enter Tryd.func33, Tryd.ntmps33
      go_wp2_with (go_at_call 60; go_in)
      go_ret
      exact ⟨ret_bool HR.out.symm, Below.refl _ _⟩
  · have HT0 := hid_intro (fun k (hk : k < ns.length) => nsB_false (ns := ns) hk)
    have HTE := hid_intro (fun h => nsB_yes (ns := ns) ⟨h40, h⟩)
    have HI := hid_intro hI
    have HS := hid_intro hS
    obtain ⟨len, hl⟩ : ∃ len, len = ns.length := ⟨_, rfl⟩
    rw [← hl] at hlen h40 ⊢
    have HL := hid_intro hl
    have h41 : (len : Int) ≤ 3 := by omega
    have h42 : (1 : Int) ≤ (len : Int) := by omega
    clear hI hS hl
    generalize nsB ns = R at *
    go_enter Tryd.func33, Tryd.ntmps33
    go_wp2_with (go_at_call 60; refine (with_yes len _ h41 h42).mono ?_; rintro e w1 ⟨rfl, hw1⟩; rw [hw1]; clear hw1 w1)
    go_loopw [3, 12] (fun x z wr => ∃ k : Nat, k ≤ len ∧ x = .string (ahd ns k) ∧ z = .int .i64 k ∧ Hid (NOk ns k) ∧ Hid (Below w.heap.size w wr)) (fun x z _ => len - (intOf z).toNat)
    case atStart => exact ⟨0, by omega, rfl, rfl, hid_intro (NOk.zero ns), hid_intro (Below.refl _ _)⟩
    case round =>
      obtain ⟨k, hk, rfl, rfl, HK, HB⟩ := hrel
      by_cases hlt : k < len
      · have hlt2 : (k : Int) < (len : Int) := by omega
        obtain ⟨b, off, rfl, hbl, c0⟩ := (HI.out.below HB.out).at k (by have := HL.out; omega)
        have hsz := HS.out _ (getD_mem (z := tz) ns k (by have := HL.out; omega))
        have HM := hid_intro (fun h1 h2 => HK.out.more (k := k) h1 h2)
        have HF := hid_intro (HT0.out k (by have := HL.out; omega))
        have HA : Hid (ahd ns (k + 1) = ns.getD k tz) := rfl
        generalize ahd ns k = a at *
        generalize ns.getD k tz = xi at *
        have H1 := hid_intro (fun w => NameR.impl_any xi w hsz)
        rcases le_casesN xi a with ⟨q1, q2⟩ | ⟨q1, q3, q4, q2⟩ | ⟨q1, q3, q4, q2⟩
        · have HR : Hid (R = false) := hid_intro (HF.out (fun h => by rw [q2] at h; exact absurd h.1 (by simp)))
          clear HM HF q2
          go_wp2_with fail
          go_ret
          exact ⟨ret_bool HR.out.symm, HB.out⟩
        · have HR : Hid (R = false) := hid_intro (HF.out (fun h => by rw [q2] at h; exact absurd h.1 (by simp)))
          clear HM HF q2
          go_wp2_with fail
          go_ret
          exact ⟨ret_bool HR.out.symm, HB.out⟩
        · generalize nameB xi = b1 at *
          cases b1
          · have HR : Hid (R = false) := hid_intro (HF.out (fun h => absurd h.2 (by simp)))
            clear HM HF q2
            go_wp2_with (go_at_call 61; refine (H1.out _).mono ?_; rintro e w1 ⟨rfl, rfl⟩)
            go_ret
            exact ⟨ret_bool HR.out.symm, HB.out⟩
          · replace HM := hid_intro (HM.out q2 rfl)
            clear HF q2
            go_wp2_with (go_at_call 61; refine (H1.out _).mono ?_; rintro e w1 ⟨rfl, rfl⟩)
            go_roundw
            case rel => exact ⟨k + 1, by omega, by rw [HA.out], by go_num, HM, HB⟩
            case measure => simp [intOf]; omega
      · have hlt2 : ¬ (k : Int) < (len : Int) := by omega
        obtain rfl : k = len := by omega
        have HR : Hid (R = true) := hid_intro (HTE.out (by rw [← HL.out]; exact HK.out))
        go_wp2_with fail
        go_ret
        exact ⟨ret_bool HR.out.symm, HB.out⟩
/-- A source with no mark yet. -/
def scells (t : ByteArray) : List Value := [.string t, .int .i64 0]
theorem s_len (t : ByteArray) : (scells t).length = 2 := rfl
def Srs (ao : Option Addr) (ns : List ByteArray) (w : World) : Prop := Rws 2 scells tz ao ns w
theorem Srs.below {ao : Option Addr} {ns : List ByteArray} {w w' : World} (h : Srs ao ns w) (hb : Below w.heap.size w w') : Srs ao ns w' := Rws.below h hb
theorem Srs.at {ao : Option Addr} {ns : List ByteArray} {w : World} (h : Srs ao ns w) (j : Nat) (hj : j < ns.length) : ∃ b off, ao = some ⟨b, off, none⟩ ∧ b < w.heap.size ∧ w.cell? ⟨b, off + j * 2, none⟩ = some (.string (ns.getD j tz)) ∧ w.cell? ⟨b, off + j * 2 + 1, none⟩ = some (.int .i64 0) := by
  obtain ⟨b, off, h1, h2, h3⟩ := Rws.at h j hj
  exact ⟨b, off, h1, h2, h3 0 (by omega), h3 1 (by omega)⟩
theorem sminute (w : World) : Calls Tryd.prog 56 #[.int .i64 0] w fun e w' => e = .returned (.bool true) ∧ w' = w := by
  go_enter Tryd.func56, Tryd.ntmps56
  go_wp2_with (go_at_call 55; go_in)
  go_ret
  exact ⟨rfl, rfl⟩
set_option maxRecDepth 100000 in
set_option maxHeartbeats 4000000 in
theorem spec_srcs (ao : Option Addr) (cap : Nat) (ns : List ByteArray) (w : World) (hlen : ns.length ≤ 1048576) (hS : ∀ e ∈ ns, e.size ≤ 1048576) (hI : Srs ao ns w) :
    Calls Tryd.prog 30 #[.slice ao ns.length cap] w fun e w' => e = .returned (.bool (nsB ns)) ∧ Below w.heap.size w w' := by
  have HT0 := hid_intro (fun k (hk : k < ns.length) => nsB_false (ns := ns) hk)
  have HTE : Hid (NOk ns ns.length → nsB ns = decide (1 ≤ ns.length ∧ ns.length ≤ 3)) := hid_intro (fun h => by
    by_cases e : 1 ≤ ns.length ∧ ns.length ≤ 3
    · rw [decide_eq_true e]; exact nsB_yes ⟨e, h⟩
    · rw [decide_eq_false e]; exact nsB_no (fun hr => e hr.1))
  have HI := hid_intro hI
  have HS := hid_intro hS
  obtain ⟨len, hl⟩ : ∃ len, len = ns.length := ⟨_, rfl⟩
  rw [← hl] at hlen ⊢
  have HL := hid_intro hl
  clear hI hS hl
  generalize nsB ns = R at *
  go_enter Tryd.func30, Tryd.ntmps30
  go_wp2_with fail
  go_loopw [3] (fun z wr => ∃ k : Nat, k ≤ len ∧ z = .int .i64 k ∧ Hid (NOk ns k) ∧ Hid (Below w.heap.size w wr)) (fun z _ => len - (intOf z).toNat)
  case atStart => exact ⟨0, by omega, rfl, hid_intro (NOk.zero ns), hid_intro (Below.refl _ _)⟩
  case round =>
    obtain ⟨k, hk, rfl, HK, HB⟩ := hrel
    by_cases hlt : k < len
    · have hlt2 : (k : Int) < (len : Int) := by omega
      obtain ⟨b, off, rfl, hbl, c0, c1⟩ := (HI.out.below HB.out).at k (by have := HL.out; omega)
      have hsz := HS.out _ (getD_mem (z := tz) ns k (by have := HL.out; omega))
      have HM := hid_intro (fun h1 h2 => HK.out.more (k := k) h1 h2)
      have HF := hid_intro (HT0.out k (by have := HL.out; omega))
      rcases (show k = 0 ∨ ∃ j, k = j + 1 from by rcases k with _ | j; exact .inl rfl; exact .inr ⟨j, rfl⟩) with rfl | ⟨j, hkj⟩
      · have HA : Hid (ahd ns 0 = ⟨#[]⟩) := rfl
        simp only [Nat.zero_mul, Nat.add_zero] at c0 c1
        generalize ahd ns 0 = a at *
        generalize ns.getD 0 tz = xi at *
        have H1 := hid_intro (fun w => NameR.spec_any xi w hsz)
        have HP := hid_intro (name_posN (s := xi))
        generalize nameB xi = b1 at *
        cases b1
        · have HR : Hid (R = false) := hid_intro (HF.out (fun h => absurd h.2 (by simp)))
          clear HM HF HP
          go_wp2_with fail
          go_quiet ((first | (go_at_call 54; exact Calls.quiet_of_same (H1.out _)) | (go_at_call 56; exact Calls.quiet_of_same (sminute _))))
          go_wp2_with fail
          go_ret
          exact ⟨ret_bool HR.out.symm, bdN HB.out _⟩
        · have HM2 := hid_intro (HM.out (by rw [HA.out]; exact lt_empty (HP.out rfl)) rfl)
          clear HM HF HP
          go_wp2_with fail
          go_quiet ((first | (go_at_call 54; exact Calls.quiet_of_same (H1.out _)) | (go_at_call 56; exact Calls.quiet_of_same (sminute _))))
          go_wp2_with fail
          go_roundw
          case rel => exact ⟨0 + 1, by omega, by go_num, HM2, hid_intro (bdN HB.out _)⟩
          case measure => simp [intOf]; omega
      · obtain ⟨b', off', hbo, hbl', d0, d1⟩ := (HI.out.below HB.out).at j (by have := HL.out; omega)
        obtain ⟨rfl, rfl⟩ : b = b' ∧ off = off' := by simpa using hbo
        have HA : Hid (ahd ns k = ns.getD j tz) := hid_intro (by rw [hkj]; rfl)
        clear d1 hbl' hbo
        generalize ns.getD j tz = yi at *
        generalize ahd ns k = a at *
        generalize ns.getD k tz = xi at *
        have H1 := hid_intro (fun w => NameR.spec_any xi w hsz)
        generalize nameB xi = b1 at *
        have hj1 : IntKind.i64.wrap ((k : Int) - 1) = (j : Int) := by rw [IntKind.wrap_i64]; omega
        have hj2 : 0 < k := by omega
        have hj3 : (j : Int) < (len : Int) := by omega
        clear hkj
        cases b1
        · have HR : Hid (R = false) := hid_intro (HF.out (fun h => absurd h.2 (by simp)))
          clear HM HF
          go_wp2_with fail
          go_quiet ((first | (go_at_call 54; exact Calls.quiet_of_same (H1.out _)) | (go_at_call 56; exact Calls.quiet_of_same (sminute _))))
          go_wp2_with fail
          go_ret
          exact ⟨ret_bool HR.out.symm, bdN HB.out _⟩
        rcases le_casesN xi yi with ⟨q1, q2⟩ | ⟨q1, q3, q4, q2⟩ | ⟨q1, q3, q4, q2⟩
        · have HR : Hid (R = false) := hid_intro (HF.out (fun h => by rw [HA.out, q2] at h; exact absurd h.1 (by simp)))
          have q5 : Op.bytesLess yi.toList xi.toList = false := lt_asymm q1
          clear HM HF q2
          go_wp2_with fail
          go_quiet ((first | (go_at_call 54; exact Calls.quiet_of_same (H1.out _)) | (go_at_call 56; exact Calls.quiet_of_same (sminute _))))
          go_wp2_with fail
          go_ret
          exact ⟨ret_bool HR.out.symm, bdN HB.out _⟩
        · have HR : Hid (R = false) := hid_intro (HF.out (fun h => by rw [HA.out, q2] at h; exact absurd h.1 (by simp)))
          obtain rfl := toList_inj q3
          have q5 : Op.bytesLess xi.toList xi.toList = false := q1
          clear HM HF q2 q3 q4
          go_wp2_with fail
          go_quiet ((first | (go_at_call 54; exact Calls.quiet_of_same (H1.out _)) | (go_at_call 56; exact Calls.quiet_of_same (sminute _))))
          go_wp2_with fail
          go_ret
          exact ⟨ret_bool HR.out.symm, bdN HB.out _⟩
        · have q5 : Op.bytesLess yi.toList xi.toList = true := q2
          have HM2 := hid_intro (HM.out (by rw [HA.out]; exact q2) rfl)
          clear HM HF q2
          go_wp2_with fail
          go_quiet ((first | (go_at_call 54; exact Calls.quiet_of_same (H1.out _)) | (go_at_call 56; exact Calls.quiet_of_same (sminute _))))
          go_wp2_with fail
          go_roundw
          case rel => exact ⟨k + 1, by omega, by go_num, HM2, hid_intro (bdN HB.out _)⟩
          case measure => simp [intOf]; omega
    · have hlt2 : ¬ (k : Int) < (len : Int) := by omega
      obtain rfl : k = len := by omega
      have HR := hid_intro (HTE.out (by rw [← HL.out]; exact HK.out))
      rw [← HL.out] at HR
      rcases (show k = 0 ∨ (1 ≤ k ∧ k ≤ 3) ∨ 3 < k by omega) with rfl | ⟨h1, h3⟩ | h3
      · go_wp2_with (go_at_call 55; go_in)
        go_ret
        exact ⟨ret_bool (by rw [HR.out]; rfl), HB.out⟩
      · have h1' : (1 : Int) ≤ (k : Int) := by omega
        have h3' : (k : Int) ≤ 3 := by omega
        have HR2 : Hid (R = true) := hid_intro (by rw [HR.out]; exact decide_eq_true ⟨h1, h3⟩)
        clear HR h1 h3
        go_wp2_with (go_at_call 55; go_in)
        go_ret
        exact ⟨ret_bool HR2.out.symm, HB.out⟩
      · have h1' : (1 : Int) ≤ (k : Int) := by omega
        have h3' : ¬ (k : Int) ≤ 3 := by omega
        have HR2 : Hid (R = false) := hid_intro (by rw [HR.out]; exact decide_eq_false (by omega))
        clear HR h3
        go_wp2_with (go_at_call 55; go_in)
        go_ret
        exact ⟨ret_bool HR2.out.symm, HB.out⟩
end StxR
end Go.Proofs.YtlhghjjgpdkekaaDoor
