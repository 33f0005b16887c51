/-
  What the program calls a name is what the model calls one, of every text of at most 1048576 bytes. No condition.
  The order of texts. No condition.
  Names of sources that are right: both sides say the same. The condition: at most 1048576 names of at most 1048576 bytes.
  Tiers, meters, credits and catalogs as rows of cells. No condition.
  What is right of tiers, meters, credits and catalogs, in numbers. No condition.
-/
import Derived.Deep.RegionHeld3
import Derived.BigQuiet
import Derived.Deep.QuietTactic
import Derived.Test.YtdgomcpkbahfeaaGreatDoorE1
namespace Go.Proofs.YtdgomcpkbahfeaaGreatDoor
open Go.ChangeShapes Go.WideShapes Go.ChangeAt Go.RowKit
open Go.ChangeMaps (open_string shut_string)
namespace NameR
/-- May this byte stand at this place of a name? -/
def okAt (i : Nat) (c : Int) : Bool := decide ((97 ≤ c ∧ c ≤ 122) ∨ (i ≠ 0 ∧ ((48 ≤ c ∧ c ≤ 57) ∨ c = 95)))
def upTo (s : ByteArray) (k : Nat) : Prop := ∀ i (h : i < s.size), i < k → okAt i (s[i].toNat : Int) = true
def upToDec (s : ByteArray) (k : Nat) : Decidable (upTo s k) := inferInstanceAs (Decidable (∀ i (h : i < s.size), i < k → okAt i (s[i].toNat : Int) = true))
def nameB (s : ByteArray) : Bool := @decide (1 ≤ s.size ∧ s.size ≤ 20 ∧ upTo s s.size) (@instDecidableAnd _ _ _ (@instDecidableAnd _ _ _ (upToDec s s.size)))
theorem name_size {s : ByteArray} (h : s.size < 1 ∨ 20 < s.size) : nameB s = false := by
  unfold nameB; simp; intro h1 h2; omega
theorem name_no {s : ByteArray} {k : Nat} (h : k < s.size) (hb : okAt k (s[k].toNat : Int) = false) : nameB s = false := by
  unfold nameB; simp; intro _ _ hu; have := hu k h h; simp [hb] at this
theorem name_yes {s : ByteArray} (h1 : 1 ≤ s.size) (h2 : s.size ≤ 20) (hu : upTo s s.size) : nameB s = true := by
  unfold nameB; simp; exact ⟨h1, h2, hu⟩
theorem upTo_zero (s : ByteArray) : upTo s 0 := fun _ _ h => absurd h (by omega)
theorem upTo_succ {s : ByteArray} {k : Nat} (hu : upTo s k) (h : k < s.size) (hb : okAt k (s[k].toNat : Int) = true) : upTo s (k + 1) := by
  intro i hi hk
  by_cases e : i = k
  · subst e; exact hb
  · exact hu i hi (by omega)

set_option maxHeartbeats 2000000 in
theorem spec_any (s : ByteArray) (w : World) (hs : s.size ≤ 1048576) :
    Calls Tryz.prog 51 #[.string s] w fun e w' => e = .returned (.bool (nameB s)) ∧ w' = w := by
  by_cases h1 : s.size < 1
  · have hn := name_size (s := s) (.inl h1)
    rw [hn]
    go_enter Tryz.func51, Tryz.ntmps51
    go_wp2
    go_ret
    exact ⟨rfl, rfl⟩
  by_cases h2 : 20 < s.size
  · have hn := name_size (s := s) (.inr h2)
    rw [hn]
    go_enter Tryz.func51, Tryz.ntmps51
    go_wp2
    go_ret
    exact ⟨rfl, rfl⟩
  go_enter Tryz.func51, Tryz.ntmps51
  go_wp2
  go_loop [3, 4] (fun i _ => ∃ k : Nat, k ≤ s.size ∧ i = .int .i64 k ∧ upTo s k) (fun i _ => s.size - (intOf i).toNat)
  case atStart => exact ⟨0, Nat.zero_le _, rfl, upTo_zero s⟩
  case round =>
    obtain ⟨k, hk, rfl, hu⟩ := hrel
    by_cases hlt : k < s.size
    · have hno := name_no (s := s) hlt
      have hyes := upTo_succ hu hlt
      have HN : Hid (okAt k (s[k].toNat : Int) = false → nameB s = false) := hno
      have HY : Hid (okAt k (s[k].toNat : Int) = true → upTo s (k + 1)) := hyes
      clear hno hyes hu
      by_cases hk0 : k = 0
      · subst hk0
        rcases (show ((s[0].toNat : Int) < 48) ∨ (48 ≤ (s[0].toNat : Int) ∧ (s[0].toNat : Int) ≤ 57) ∨ (57 < (s[0].toNat : Int) ∧ (s[0].toNat : Int) < 95) ∨ (95 ≤ (s[0].toNat : Int) ∧ (s[0].toNat : Int) ≤ 95) ∨ (95 < (s[0].toNat : Int) ∧ (s[0].toNat : Int) < 97) ∨ (97 ≤ (s[0].toNat : Int) ∧ (s[0].toNat : Int) ≤ 122) ∨ 122 < (s[0].toNat : Int) from by omega) with hc | hc | hc | hc | hc | hc | hc
        all_goals
          (first | have a0 : (97 : Int) ≤ (s[0].toNat : Int) := by omega | have a0 : ¬ (97 : Int) ≤ (s[0].toNat : Int) := by omega)
          (first | have a1 : (s[0].toNat : Int) ≤ 122 := by omega | have a1 : ¬ (s[0].toNat : Int) ≤ 122 := by omega)
          (first | have a2 : (48 : Int) ≤ (s[0].toNat : Int) := by omega | have a2 : ¬ (48 : Int) ≤ (s[0].toNat : Int) := by omega)
          (first | have a3 : (s[0].toNat : Int) ≤ 57 := by omega | have a3 : ¬ (s[0].toNat : Int) ≤ 57 := by omega)
          (first | have a5 : ((s[0].toNat : Int) != 95) = true := by simp; omega | have a5 : ((s[0].toNat : Int) != 95) = false := by simp; omega)
          (first | have a6 : ((s[0].toNat : Int) == 95) = true := by simp; omega | have a6 : ((s[0].toNat : Int) == 95) = false := by simp; omega)
          go_wp2
          first
            | (go_ret; exact ⟨ret_bool (HN.out (by unfold okAt; simp; omega)).symm, rfl⟩)
            | (go_round
               case rel => exact ⟨1, by omega, by go_num, HY.out (by unfold okAt; simp; omega)⟩
               case measure => simp [intOf]; omega)
      · rcases (show ((s[k].toNat : Int) < 48) ∨ (48 ≤ (s[k].toNat : Int) ∧ (s[k].toNat : Int) ≤ 57) ∨ (57 < (s[k].toNat : Int) ∧ (s[k].toNat : Int) < 95) ∨ (95 ≤ (s[k].toNat : Int) ∧ (s[k].toNat : Int) ≤ 95) ∨ (95 < (s[k].toNat : Int) ∧ (s[k].toNat : Int) < 97) ∨ (97 ≤ (s[k].toNat : Int) ∧ (s[k].toNat : Int) ≤ 122) ∨ 122 < (s[k].toNat : Int) from by omega) with hc | hc | hc | hc | hc | hc | hc
        all_goals
          (first | have a0 : (97 : Int) ≤ (s[k].toNat : Int) := by omega | have a0 : ¬ (97 : Int) ≤ (s[k].toNat : Int) := by omega)
          (first | have a1 : (s[k].toNat : Int) ≤ 122 := by omega | have a1 : ¬ (s[k].toNat : Int) ≤ 122 := by omega)
          (first | have a2 : (48 : Int) ≤ (s[k].toNat : Int) := by omega | have a2 : ¬ (48 : Int) ≤ (s[k].toNat : Int) := by omega)
          (first | have a3 : (s[k].toNat : Int) ≤ 57 := by omega | have a3 : ¬ (s[k].toNat : Int) ≤ 57 := by omega)
          (first | have a5 : ((s[k].toNat : Int) != 95) = true := by simp; omega | have a5 : ((s[k].toNat : Int) != 95) = false := by simp; omega)
          (first | have a6 : ((s[k].toNat : Int) == 95) = true := by simp; omega | have a6 : ((s[k].toNat : Int) == 95) = false := by simp; omega)
          have a7 : ((k : Int) == 0) = false := by simp; omega
          go_wp2
          first
            | (go_ret; exact ⟨ret_bool (HN.out (by unfold okAt; simp; omega)).symm, rfl⟩)
            | (go_round
               case rel => exact ⟨k + 1, by omega, by go_num, HY.out (by unfold okAt; simp; omega)⟩
               case measure => simp [intOf]; omega)
    · go_wp2
      go_ret
      have : k = s.size := by omega
      subst this
      exact ⟨ret_bool (name_yes (by omega) (by omega) hu).symm, rfl⟩

set_option maxHeartbeats 2000000 in
theorem impl_any (s : ByteArray) (w : World) (hs : s.size ≤ 1048576) :
    Calls Tryz.prog 110 #[.string s] w fun e w' => e = .returned (.bool (nameB s)) ∧ w' = w := by
  by_cases h1 : s.size < 1
  · have hn := name_size (s := s) (.inl h1)
    rw [hn]
    go_enter Tryz.func110, Tryz.ntmps110
    go_wp2
    go_ret
    exact ⟨rfl, rfl⟩
  by_cases h2 : 20 < s.size
  · have hn := name_size (s := s) (.inr h2)
    rw [hn]
    go_enter Tryz.func110, Tryz.ntmps110
    go_wp2
    go_ret
    exact ⟨rfl, rfl⟩
  go_enter Tryz.func110, Tryz.ntmps110
  go_wp2
  go_loop [3, 4, 5] (fun i _ _ => ∃ k : Nat, k ≤ s.size ∧ i = .int .i64 k ∧ upTo s k) (fun i _ _ => s.size - (intOf i).toNat)
  case atStart => exact ⟨0, Nat.zero_le _, rfl, upTo_zero s⟩
  case round =>
    obtain ⟨k, hk, rfl, hu⟩ := hrel
    by_cases hlt : k < s.size
    · have hno := name_no (s := s) hlt
      have hyes := upTo_succ hu hlt
      have HN : Hid (okAt k (s[k].toNat : Int) = false → nameB s = false) := hno
      have HY : Hid (okAt k (s[k].toNat : Int) = true → upTo s (k + 1)) := hyes
      clear hno hyes hu
      by_cases hk0 : k = 0
      · subst hk0
        rcases (show ((s[0].toNat : Int) < 48) ∨ (48 ≤ (s[0].toNat : Int) ∧ (s[0].toNat : Int) ≤ 57) ∨ (57 < (s[0].toNat : Int) ∧ (s[0].toNat : Int) < 95) ∨ (95 ≤ (s[0].toNat : Int) ∧ (s[0].toNat : Int) ≤ 95) ∨ (95 < (s[0].toNat : Int) ∧ (s[0].toNat : Int) < 97) ∨ (97 ≤ (s[0].toNat : Int) ∧ (s[0].toNat : Int) ≤ 122) ∨ 122 < (s[0].toNat : Int) from by omega) with hc | hc | hc | hc | hc | hc | hc
        all_goals
          (first | have a0 : (97 : Int) ≤ (s[0].toNat : Int) := by omega | have a0 : ¬ (97 : Int) ≤ (s[0].toNat : Int) := by omega)
          (first | have a1 : (s[0].toNat : Int) ≤ 122 := by omega | have a1 : ¬ (s[0].toNat : Int) ≤ 122 := by omega)
          (first | have a2 : (48 : Int) ≤ (s[0].toNat : Int) := by omega | have a2 : ¬ (48 : Int) ≤ (s[0].toNat : Int) := by omega)
          (first | have a3 : (s[0].toNat : Int) ≤ 57 := by omega | have a3 : ¬ (s[0].toNat : Int) ≤ 57 := by omega)
          (first | have a5 : ((s[0].toNat : Int) != 95) = true := by simp; omega | have a5 : ((s[0].toNat : Int) != 95) = false := by simp; omega)
          (first | have a6 : ((s[0].toNat : Int) == 95) = true := by simp; omega | have a6 : ((s[0].toNat : Int) == 95) = false := by simp; omega)
          go_wp2
          first
            | (go_ret; exact ⟨ret_bool (HN.out (by unfold okAt; simp; omega)).symm, rfl⟩)
            | (go_round
               case rel => exact ⟨1, by omega, by go_num, HY.out (by unfold okAt; simp; omega)⟩
               case measure => simp [intOf]; omega)
      · rcases (show ((s[k].toNat : Int) < 48) ∨ (48 ≤ (s[k].toNat : Int) ∧ (s[k].toNat : Int) ≤ 57) ∨ (57 < (s[k].toNat : Int) ∧ (s[k].toNat : Int) < 95) ∨ (95 ≤ (s[k].toNat : Int) ∧ (s[k].toNat : Int) ≤ 95) ∨ (95 < (s[k].toNat : Int) ∧ (s[k].toNat : Int) < 97) ∨ (97 ≤ (s[k].toNat : Int) ∧ (s[k].toNat : Int) ≤ 122) ∨ 122 < (s[k].toNat : Int) from by omega) with hc | hc | hc | hc | hc | hc | hc
        all_goals
          (first | have a0 : (97 : Int) ≤ (s[k].toNat : Int) := by omega | have a0 : ¬ (97 : Int) ≤ (s[k].toNat : Int) := by omega)
          (first | have a1 : (s[k].toNat : Int) ≤ 122 := by omega | have a1 : ¬ (s[k].toNat : Int) ≤ 122 := by omega)
          (first | have a2 : (48 : Int) ≤ (s[k].toNat : Int) := by omega | have a2 : ¬ (48 : Int) ≤ (s[k].toNat : Int) := by omega)
          (first | have a3 : (s[k].toNat : Int) ≤ 57 := by omega | have a3 : ¬ (s[k].toNat : Int) ≤ 57 := by omega)
          (first | have a5 : ((s[k].toNat : Int) != 95) = true := by simp; omega | have a5 : ((s[k].toNat : Int) != 95) = false := by simp; omega)
          (first | have a6 : ((s[k].toNat : Int) == 95) = true := by simp; omega | have a6 : ((s[k].toNat : Int) == 95) = false := by simp; omega)
          have a7 : ((k : Int) == 0) = false := by simp; omega
          go_wp2
          first
            | (go_ret; exact ⟨ret_bool (HN.out (by unfold okAt; simp; omega)).symm, rfl⟩)
            | (go_round
               case rel => exact ⟨k + 1, by omega, by go_num, HY.out (by unfold okAt; simp; omega)⟩
               case measure => simp [intOf]; omega)
    · go_wp2
      go_ret
      have : k = s.size := by omega
      subst this
      exact ⟨ret_bool (name_yes (by omega) (by omega) hu).symm, rfl⟩
end NameR
end Go.Proofs.YtdgomcpkbahfeaaGreatDoor
namespace Go.Proofs.YtdgomcpkbahfeaaGreatDoor
open Go.RowKit
namespace LtR
open Op (bytesLess)
theorem bl_irrefl : ∀ x : List UInt8, bytesLess x x = false
  | [] => rfl
  | a :: x => by
    rw [bytesLess, bl_irrefl x]
    simp
theorem bl_trans : ∀ {x y z : List UInt8}, bytesLess x y = true → bytesLess y z = true → bytesLess x z = true
  | _, [], _, h, _ => by simp [bytesLess] at h
  | _, _ :: _, [], _, h => by simp [bytesLess] at h
  | [], _ :: _, _ :: _, _, _ => rfl
  | a :: x, b :: y, c :: z, h1, h2 => by
    rw [bytesLess] at *
    simp only [Bool.or_eq_true, Bool.and_eq_true, decide_eq_true_eq, beq_iff_eq] at *
    rcases h1 with h1 | ⟨rfl, h1⟩
    · rcases h2 with h2 | ⟨rfl, h2⟩
      · exact .inl (UInt8.lt_trans h1 h2)
      · exact .inl h1
    · rcases h2 with h2 | ⟨rfl, h2⟩
      · exact .inl h2
      · exact .inr ⟨rfl, bl_trans h1 h2⟩
theorem bl_total : ∀ {x y : List UInt8}, bytesLess x y = false → bytesLess y x = false → x = y
  | [], [], _, _ => rfl
  | [], _ :: _, h, _ => by simp [bytesLess] at h
  | _ :: _, [], _, h => by simp [bytesLess] at h
  | a :: x, b :: y, h1, h2 => by
    rw [bytesLess] at *
    simp only [Bool.or_eq_false_iff, Bool.and_eq_false_iff, decide_eq_false_iff_not, beq_eq_false_iff_ne] at *
    have e : a = b := by
      have p1 := h1.1
      have p2 := h2.1
      rw [UInt8.lt_iff_toNat_lt] at p1 p2
      exact UInt8.toNat.inj (by omega)
    subst e
    rw [bl_total (h1.2.resolve_left (fun h => h rfl)) (h2.2.resolve_left (fun h => h rfl))]
/-- One text is ahead of another. -/
def lt (a b : ByteArray) : Bool := bytesLess a.toList b.toList
theorem toList_inj {a b : ByteArray} (h : a.toList = b.toList) : a = b := by
  rw [ByteArray.toList_eq, ByteArray.toList_eq] at h
  exact ByteArray.ext (Array.ext' h)
theorem lt_irrefl (a : ByteArray) : lt a a = false := bl_irrefl _
theorem lt_trans {a b c : ByteArray} (h1 : lt a b = true) (h2 : lt b c = true) : lt a c = true := bl_trans h1 h2
theorem lt_total {a b : ByteArray} (h1 : lt a b = false) (h2 : lt b a = false) : a = b := toList_inj (bl_total h1 h2)
theorem lt_asymm {a b : ByteArray} (h : lt a b = true) : lt b a = false := by
  cases h2 : lt b a
  · rfl
  · have := lt_trans h h2
    rw [lt_irrefl] at this
    cases this
theorem lt_empty {b : ByteArray} (h : 1 ≤ b.size) : lt ⟨#[]⟩ b = true := by
  unfold lt
  have h1 : (⟨#[]⟩ : ByteArray).toList = [] := by rw [ByteArray.toList_eq]
  rw [h1]
  cases hb : b.toList with
  | nil =>
    rw [ByteArray.toList_eq] at hb
    have : b.data.toList.length = 0 := by rw [hb]; rfl
    have h2 : b.data.toList.length = b.size := rfl
    omega
  | cons x l => rfl
end LtR
end Go.Proofs.YtdgomcpkbahfeaaGreatDoor
namespace Go.Proofs.YtdgomcpkbahfeaaGreatDoor
open Go.ChangeShapes Go.WideShapes Go.ChangeAt Go.RowKit
set_option linter.unusedVariables false
namespace StxR
open RowG LtR
open NameR (nameB)
/-- The name ahead, none ahead of the first. -/
def ahd (ns : List ByteArray) : Nat → ByteArray
  | 0 => ⟨#[]⟩
  | k + 1 => ns.getD k tz
def NOk (ns : List ByteArray) (k : Nat) : Prop := ∀ i, i < k → lt (ahd ns i) (ns.getD i tz) = true ∧ nameB (ns.getD i tz) = true
def NRight (ns : List ByteArray) : Prop := (1 ≤ ns.length ∧ ns.length ≤ 3) ∧ NOk ns ns.length
def NOkDec (ns : List ByteArray) (k : Nat) : Decidable (NOk ns k) := inferInstanceAs (Decidable (∀ i, i < k → lt (ahd ns i) (ns.getD i tz) = true ∧ nameB (ns.getD i tz) = true))
def NRightDec (ns : List ByteArray) : Decidable (NRight ns) :=
  haveI := NOkDec ns ns.length
  inferInstanceAs (Decidable ((1 ≤ ns.length ∧ ns.length ≤ 3) ∧ NOk ns ns.length))
/-- Are these right names of sources? -/
def nsB (ns : List ByteArray) : Bool := @decide (NRight ns) (NRightDec ns)
theorem nsB_no {ns : List ByteArray} (h : ¬ NRight ns) : nsB ns = false := by unfold nsB; exact @decide_eq_false _ (NRightDec ns) h
theorem nsB_yes {ns : List ByteArray} (h : NRight ns) : nsB ns = true := by unfold nsB; exact @decide_eq_true _ (NRightDec ns) h
theorem nsB_iff {ns : List ByteArray} : nsB ns = true ↔ NRight ns := by unfold nsB; exact @decide_eq_true_iff _ (NRightDec ns)
theorem NOk.zero (ns : List ByteArray) : NOk ns 0 := fun i h => absurd h (by omega)
theorem NOk.more {ns : List ByteArray} {k : Nat} (h : NOk ns k) (h1 : lt (ahd ns k) (ns.getD k tz) = true) (h2 : nameB (ns.getD k tz) = true) : NOk ns (k + 1) := by
  intro i hi
  by_cases e : i = k
  · subst e; exact ⟨h1, h2⟩
  · exact h i (by omega)
theorem nsB_false {ns : List ByteArray} {k : Nat} (hk : k < ns.length) (h : ¬ (lt (ahd ns k) (ns.getD k tz) = true ∧ nameB (ns.getD k tz) = true)) : nsB ns = false := nsB_no (fun hr => h (hr.2 k hk))
theorem nsB_len {ns : List ByteArray} (h : ¬ (1 ≤ ns.length ∧ ns.length ≤ 3)) : nsB ns = false := nsB_no (fun hr => h hr.1)
theorem name_posN {s : ByteArray} (h : nameB s = true) : 1 ≤ s.size := by
  unfold nameB at h
  simp at h
  exact h.1
/-- One text against another, as the walk asks it. -/
theorem le_casesN (x a : ByteArray) : (Op.bytesLess x.toList a.toList = true ∧ lt a x = false) ∨ (Op.bytesLess x.toList a.toList = false ∧ x.toList = a.toList ∧ (x.toList == a.toList) = true ∧ lt a x = false) ∨ (Op.bytesLess x.toList a.toList = false ∧ x.toList ≠ a.toList ∧ (x.toList == a.toList) = false ∧ lt a x = true) := by
  cases h : lt x a
  · by_cases e : x = a
    · subst e; exact .inr (.inl ⟨h, rfl, by simp, h⟩)
    · have ne : x.toList ≠ a.toList := fun q => e (toList_inj q)
      refine .inr (.inr ⟨h, ne, by simpa using ne, ?_⟩)
      cases h2 : lt a x
      · exact absurd (lt_total h h2) e
      · rfl
  · exact .inl ⟨h, lt_asymm h⟩
theorem with_yes (len : Nat) (w : World) (h41 : (len : Int) ≤ 3) (h42 : (1 : Int) ≤ (len : Int)) : Calls Tryz.prog 111 #[.int .i64 (len : Int), .int .i64 1, .int .i64 3] w fun e w' => e = .returned (.bool true) ∧ w' = w := by
  go_enter Tryz.func111, Tryz.ntmps111
  go_wp2_with fail
  go_ret
  exact ⟨rfl, rfl⟩
set_option maxRecDepth 100000 in
set_option maxHeartbeats 4000000 in
theorem impl_names (ao : Option Addr) (cap : Nat) (ns : List ByteArray) (w : World) (hlen : ns.length ≤ 1048576) (hS : ∀ e ∈ ns, e.size ≤ 1048576) (hI : Tgs ao ns w) :
    Calls Tryz.prog 71 #[.slice ao ns.length cap] w fun e w' => e = .returned (.bool (nsB ns)) ∧ Below w.heap.size w w' := by
  by_cases h40 : 1 ≤ ns.length ∧ ns.length ≤ 3
  rotate_left
  · have HR := hid_intro (nsB_len h40)
    obtain ⟨len, hl⟩ : ∃ len, len = ns.length := ⟨_, rfl⟩
    rw [← hl] at hlen h40 ⊢
    clear hI hS hl
    rcases (show len = 0 ∨ 3 < len by omega) with rfl | h4
    · go_enter Tryz.func71, Tryz.ntmps71
      go_wp2_with (go_at_call 111; go_in)
      go_ret
      exact ⟨ret_bool HR.out.symm, Below.refl _ _⟩
    · have h41 : ¬ (len : Int) ≤ 3 := by omega
      have h42 : (1 : Int) ≤ (len : Int) := by omega
      go_enter Tryz.func71, Tryz.ntmps71
      go_wp2_with (go_at_call 111; go_in)
      go_ret
      exact ⟨ret_bool HR.out.symm, Below.refl _ _⟩
  · have HT0 := hid_intro (fun k (hk : k < ns.length) => nsB_false (ns := ns) hk)
    have HTE := hid_intro (fun h => nsB_yes (ns := ns) ⟨h40, h⟩)
    have HI := hid_intro hI
    have HS := hid_intro hS
    obtain ⟨len, hl⟩ : ∃ len, len = ns.length := ⟨_, rfl⟩
    rw [← hl] at hlen h40 ⊢
    have HL := hid_intro hl
    have h41 : (len : Int) ≤ 3 := by omega
    have h42 : (1 : Int) ≤ (len : Int) := by omega
    clear hI hS hl
    generalize nsB ns = R at *
    go_enter Tryz.func71, Tryz.ntmps71
    go_wp2_with (go_at_call 111; refine (with_yes len _ h41 h42).mono ?_; rintro e w1 ⟨rfl, hw1⟩; rw [hw1]; clear hw1 w1)
    go_loopw [3, 12] (fun x z wr => ∃ k : Nat, k ≤ len ∧ x = .string (ahd ns k) ∧ z = .int .i64 k ∧ Hid (NOk ns k) ∧ Hid (Below w.heap.size w wr)) (fun x z _ => len - (intOf z).toNat)
    case atStart => exact ⟨0, by omega, rfl, rfl, hid_intro (NOk.zero ns), hid_intro (Below.refl _ _)⟩
    case round =>
      obtain ⟨k, hk, rfl, rfl, HK, HB⟩ := hrel
      by_cases hlt : k < len
      · have hlt2 : (k : Int) < (len : Int) := by omega
        obtain ⟨b, off, rfl, hbl, c0⟩ := (HI.out.below HB.out).at k (by have := HL.out; omega)
        have hsz := HS.out _ (getD_mem (z := tz) ns k (by have := HL.out; omega))
        have HM := hid_intro (fun h1 h2 => HK.out.more (k := k) h1 h2)
        have HF := hid_intro (HT0.out k (by have := HL.out; omega))
        have HA : Hid (ahd ns (k + 1) = ns.getD k tz) := rfl
        generalize ahd ns k = a at *
        generalize ns.getD k tz = xi at *
        have H1 := hid_intro (fun w => NameR.impl_any xi w hsz)
        rcases le_casesN xi a with ⟨q1, q2⟩ | ⟨q1, q3, q4, q2⟩ | ⟨q1, q3, q4, q2⟩
        · have HR : Hid (R = false) := hid_intro (HF.out (fun h => by rw [q2] at h; exact absurd h.1 (by simp)))
          clear HM HF q2
          go_wp2_with fail
          go_ret
          exact ⟨ret_bool HR.out.symm, HB.out⟩
        · have HR : Hid (R = false) := hid_intro (HF.out (fun h => by rw [q2] at h; exact absurd h.1 (by simp)))
          clear HM HF q2
          go_wp2_with fail
          go_ret
          exact ⟨ret_bool HR.out.symm, HB.out⟩
        · generalize nameB xi = b1 at *
          cases b1
          · have HR : Hid (R = false) := hid_intro (HF.out (fun h => absurd h.2 (by simp)))
            clear HM HF q2
            go_wp2_with (go_at_call 110; refine (H1.out _).mono ?_; rintro e w1 ⟨rfl, rfl⟩)
            go_ret
            exact ⟨ret_bool HR.out.symm, HB.out⟩
          · replace HM := hid_intro (HM.out q2 rfl)
            clear HF q2
            go_wp2_with (go_at_call 110; refine (H1.out _).mono ?_; rintro e w1 ⟨rfl, rfl⟩)
            go_roundw
            case rel => exact ⟨k + 1, by omega, by rw [HA.out], by go_num, HM, HB⟩
            case measure => simp [intOf]; omega
      · have hlt2 : ¬ (k : Int) < (len : Int) := by omega
        obtain rfl : k = len := by omega
        have HR : Hid (R = true) := hid_intro (HTE.out (by rw [← HL.out]; exact HK.out))
        go_wp2_with fail
        go_ret
        exact ⟨ret_bool HR.out.symm, HB.out⟩
/-- A source with no mark yet. -/
def scells (t : ByteArray) : List Value := [.string t, .int .i64 0]
theorem s_len (t : ByteArray) : (scells t).length = 2 := rfl
def Srs (ao : Option Addr) (ns : List ByteArray) (w : World) : Prop := Rws 2 scells tz ao ns w
theorem Srs.below {ao : Option Addr} {ns : List ByteArray} {w w' : World} (h : Srs ao ns w) (hb : Below w.heap.size w w') : Srs ao ns w' := Rws.below h hb
theorem Srs.at {ao : Option Addr} {ns : List ByteArray} {w : World} (h : Srs ao ns w) (j : Nat) (hj : j < ns.length) : ∃ b off, ao = some ⟨b, off, none⟩ ∧ b < w.heap.size ∧ w.cell? ⟨b, off + j * 2, none⟩ = some (.string (ns.getD j tz)) ∧ w.cell? ⟨b, off + j * 2 + 1, none⟩ = some (.int .i64 0) := by
  obtain ⟨b, off, h1, h2, h3⟩ := Rws.at h j hj
  exact ⟨b, off, h1, h2, h3 0 (by omega), h3 1 (by omega)⟩
theorem sminute (w : World) : Calls Tryz.prog 54 #[.int .i64 0] w fun e w' => e = .returned (.bool true) ∧ w' = w := by
  go_enter Tryz.func54, Tryz.ntmps54
  go_wp2_with (go_at_call 52; go_in)
  go_ret
  exact ⟨rfl, rfl⟩
set_option maxRecDepth 100000 in
set_option maxHeartbeats 4000000 in
theorem spec_srcs (ao : Option Addr) (cap : Nat) (ns : List ByteArray) (w : World) (hlen : ns.length ≤ 1048576) (hS : ∀ e ∈ ns, e.size ≤ 1048576) (hI : Srs ao ns w) :
    Calls Tryz.prog 20 #[.slice ao ns.length cap] w fun e w' => e = .returned (.bool (nsB ns)) ∧ Below w.heap.size w w' := by
  have HT0 := hid_intro (fun k (hk : k < ns.length) => nsB_false (ns := ns) hk)
  have HTE : Hid (NOk ns ns.length → nsB ns = decide (1 ≤ ns.length ∧ ns.length ≤ 3)) := hid_intro (fun h => by
    by_cases e : 1 ≤ ns.length ∧ ns.length ≤ 3
    · rw [decide_eq_true e]; exact nsB_yes ⟨e, h⟩
    · rw [decide_eq_false e]; exact nsB_no (fun hr => e hr.1))
  have HI := hid_intro hI
  have HS := hid_intro hS
  obtain ⟨len, hl⟩ : ∃ len, len = ns.length := ⟨_, rfl⟩
  rw [← hl] at hlen ⊢
  have HL := hid_intro hl
  clear hI hS hl
  generalize nsB ns = R at *
  go_enter Tryz.func20, Tryz.ntmps20
  go_wp2_with fail
  go_loopw [3] (fun z wr => ∃ k : Nat, k ≤ len ∧ z = .int .i64 k ∧ Hid (NOk ns k) ∧ Hid (Below w.heap.size w wr)) (fun z _ => len - (intOf z).toNat)
  case atStart => exact ⟨0, by omega, rfl, hid_intro (NOk.zero ns), hid_intro (Below.refl _ _)⟩
  case round =>
    obtain ⟨k, hk, rfl, HK, HB⟩ := hrel
    by_cases hlt : k < len
    · have hlt2 : (k : Int) < (len : Int) := by omega
      obtain ⟨b, off, rfl, hbl, c0, c1⟩ := (HI.out.below HB.out).at k (by have := HL.out; omega)
      have hsz := HS.out _ (getD_mem (z := tz) ns k (by have := HL.out; omega))
      have HM := hid_intro (fun h1 h2 => HK.out.more (k := k) h1 h2)
      have HF := hid_intro (HT0.out k (by have := HL.out; omega))
      rcases (show k = 0 ∨ ∃ j, k = j + 1 from by rcases k with _ | j; exact .inl rfl; exact .inr ⟨j, rfl⟩) with rfl | ⟨j, hkj⟩
      · have HA : Hid (ahd ns 0 = ⟨#[]⟩) := rfl
        simp only [Nat.zero_mul, Nat.add_zero] at c0 c1
        generalize ahd ns 0 = a at *
        generalize ns.getD 0 tz = xi at *
        have H1 := hid_intro (fun w => NameR.spec_any xi w hsz)
        have HP := hid_intro (name_posN (s := xi))
        generalize nameB xi = b1 at *
        cases b1
        · have HR : Hid (R = false) := hid_intro (HF.out (fun h => absurd h.2 (by simp)))
          clear HM HF HP
          go_wp2_with fail
          go_quiet ((first | (go_at_call 51; exact Calls.quiet_of_same (H1.out _)) | (go_at_call 54; exact Calls.quiet_of_same (sminute _))))
          go_wp2_with fail
          go_ret
          exact ⟨ret_bool HR.out.symm, bdN HB.out _⟩
        · have HM2 := hid_intro (HM.out (by rw [HA.out]; exact lt_empty (HP.out rfl)) rfl)
          clear HM HF HP
          go_wp2_with fail
          go_quiet ((first | (go_at_call 51; exact Calls.quiet_of_same (H1.out _)) | (go_at_call 54; exact Calls.quiet_of_same (sminute _))))
          go_wp2_with fail
          go_roundw
          case rel => exact ⟨0 + 1, by omega, by go_num, HM2, hid_intro (bdN HB.out _)⟩
          case measure => simp [intOf]; omega
      · obtain ⟨b', off', hbo, hbl', d0, d1⟩ := (HI.out.below HB.out).at j (by have := HL.out; omega)
        obtain ⟨rfl, rfl⟩ : b = b' ∧ off = off' := by simpa using hbo
        have HA : Hid (ahd ns k = ns.getD j tz) := hid_intro (by rw [hkj]; rfl)
        clear d1 hbl' hbo
        generalize ns.getD j tz = yi at *
        generalize ahd ns k = a at *
        generalize ns.getD k tz = xi at *
        have H1 := hid_intro (fun w => NameR.spec_any xi w hsz)
        generalize nameB xi = b1 at *
        have hj1 : IntKind.i64.wrap ((k : Int) - 1) = (j : Int) := by rw [IntKind.wrap_i64]; omega
        have hj2 : 0 < k := by omega
        have hj3 : (j : Int) < (len : Int) := by omega
        clear hkj
        cases b1
        · have HR : Hid (R = false) := hid_intro (HF.out (fun h => absurd h.2 (by simp)))
          clear HM HF
          go_wp2_with fail
          go_quiet ((first | (go_at_call 51; exact Calls.quiet_of_same (H1.out _)) | (go_at_call 54; exact Calls.quiet_of_same (sminute _))))
          go_wp2_with fail
          go_ret
          exact ⟨ret_bool HR.out.symm, bdN HB.out _⟩
        rcases le_casesN xi yi with ⟨q1, q2⟩ | ⟨q1, q3, q4, q2⟩ | ⟨q1, q3, q4, q2⟩
        · have HR : Hid (R = false) := hid_intro (HF.out (fun h => by rw [HA.out, q2] at h; exact absurd h.1 (by simp)))
          have q5 : Op.bytesLess yi.toList xi.toList = false := lt_asymm q1
          clear HM HF q2
          go_wp2_with fail
          go_quiet ((first | (go_at_call 51; exact Calls.quiet_of_same (H1.out _)) | (go_at_call 54; exact Calls.quiet_of_same (sminute _))))
          go_wp2_with fail
          go_ret
          exact ⟨ret_bool HR.out.symm, bdN HB.out _⟩
        · have HR : Hid (R = false) := hid_intro (HF.out (fun h => by rw [HA.out, q2] at h; exact absurd h.1 (by simp)))
          obtain rfl := toList_inj q3
          have q5 : Op.bytesLess xi.toList xi.toList = false := q1
          clear HM HF q2 q3 q4
          go_wp2_with fail
          go_quiet ((first | (go_at_call 51; exact Calls.quiet_of_same (H1.out _)) | (go_at_call 54; exact Calls.quiet_of_same (sminute _))))
          go_wp2_with fail
          go_ret
          exact ⟨ret_bool HR.out.symm, bdN HB.out _⟩
        · have q5 : Op.bytesLess yi.toList xi.toList = true := q2
          have HM2 := hid_intro (HM.out (by rw [HA.out]; exact q2) rfl)
          clear HM HF q2
          go_wp2_with fail
          go_quiet ((first | (go_at_call 51; exact Calls.quiet_of_same (H1.out _)) | (go_at_call 54; exact Calls.quiet_of_same (sminute _))))
          go_wp2_with fail
          go_roundw
          case rel => exact ⟨k + 1, by omega, by go_num, HM2, hid_intro (bdN HB.out _)⟩
          case measure => simp [intOf]; omega
    · have hlt2 : ¬ (k : Int) < (len : Int) := by omega
      obtain rfl : k = len := by omega
      have HR := hid_intro (HTE.out (by rw [← HL.out]; exact HK.out))
      rw [← HL.out] at HR
      rcases (show k = 0 ∨ (1 ≤ k ∧ k ≤ 3) ∨ 3 < k by omega) with rfl | ⟨h1, h3⟩ | h3
      · go_wp2_with (go_at_call 52; go_in)
        go_ret
        exact ⟨ret_bool (by rw [HR.out]; rfl), HB.out⟩
      · have h1' : (1 : Int) ≤ (k : Int) := by omega
        have h3' : (k : Int) ≤ 3 := by omega
        have HR2 : Hid (R = true) := hid_intro (by rw [HR.out]; exact decide_eq_true ⟨h1, h3⟩)
        clear HR h1 h3
        go_wp2_with (go_at_call 52; go_in)
        go_ret
        exact ⟨ret_bool HR2.out.symm, HB.out⟩
      · have h1' : (1 : Int) ≤ (k : Int) := by omega
        have h3' : ¬ (k : Int) ≤ 3 := by omega
        have HR2 : Hid (R = false) := hid_intro (by rw [HR.out]; exact decide_eq_false (by omega))
        clear HR h3
        go_wp2_with (go_at_call 52; go_in)
        go_ret
        exact ⟨ret_bool HR2.out.symm, HB.out⟩
end StxR
end Go.Proofs.YtdgomcpkbahfeaaGreatDoor
namespace Go.Proofs.YtdgomcpkbahfeaaGreatDoor
open Go.ChangeShapes Go.WideShapes Go.ChangeAt Go.RowKit
set_option linter.unusedVariables false
namespace CatR
/-- A tier, a credit, a meter, a catalog. -/
structure Ti where
  u : Int
  p : Int
structure Cr where
  a : ByteArray
  m : Int
structure Me where
  n : ByteArray
  g : Int
  wh : Bool
  f : Int
  l : Int
  ts : List Ti
structure Ca where
  ms : List Me
  cs : List Cr
def Ti.zero : Ti := ⟨0, 0⟩
def Cr.zero : Cr := ⟨⟨#[]⟩, 0⟩
def Me.zero : Me := ⟨⟨#[]⟩, 0, false, 0, 0, []⟩
/-- The cells of a tier, of a credit stand at a place. -/
def TiAt (w : World) (b o : Nat) (t : Ti) : Prop := w.cell? ⟨b, o, none⟩ = some (.int .i64 t.u) ∧ w.cell? ⟨b, o + 1, none⟩ = some (.int .i64 t.p)
def CrAt (w : World) (b o : Nat) (t : Cr) : Prop := w.cell? ⟨b, o, none⟩ = some (.string t.a) ∧ w.cell? ⟨b, o + 1, none⟩ = some (.int .i64 t.m)
/-- The row holds these tiers, these credits; it lies in none of the shunned blocks. -/
def Tis (ao : Option Addr) (len : Nat) (ts : List Ti) (w : World) : Prop := ts.length = len ∧ (len = 0 ∨ ∃ b off, ao = some ⟨b, off, none⟩ ∧ b < w.heap.size ∧ ∀ j, j < len → TiAt w b (off + j * 2) (ts.getD j Ti.zero))
def Crs (ao : Option Addr) (len : Nat) (ts : List Cr) (w : World) : Prop := ts.length = len ∧ (len = 0 ∨ ∃ b off, ao = some ⟨b, off, none⟩ ∧ b < w.heap.size ∧ ∀ j, j < len → CrAt w b (off + j * 2) (ts.getD j Cr.zero))
/-- A meter's cells at a place, its tiers elsewhere. -/
def MeAt (w : World) (b o : Nat) (m : Me) : Prop := ∃ ta tc, w.cell? ⟨b, o, none⟩ = some (.string m.n) ∧ w.cell? ⟨b, o + 1, none⟩ = some (.int .i64 m.g) ∧ w.cell? ⟨b, o + 2, none⟩ = some (.bool m.wh) ∧ w.cell? ⟨b, o + 3, none⟩ = some (.int .i64 m.f) ∧ w.cell? ⟨b, o + 4, none⟩ = some (.int .i64 m.l) ∧ w.cell? ⟨b, o + 5, none⟩ = some (.slice ta m.ts.length tc) ∧ Tis ta m.ts.length m.ts w
def Mes (ao : Option Addr) (len : Nat) (ms : List Me) (w : World) : Prop := ms.length = len ∧ (len = 0 ∨ ∃ b off, ao = some ⟨b, off, none⟩ ∧ b < w.heap.size ∧ ∀ j, j < len → MeAt w b (off + j * 6) (ms.getD j Me.zero))
/-- A meter's value, a catalog's. -/
def IsMe (v : Value) (m : Me) (w : World) : Prop := ∃ ta tc, v = .agg #[.string m.n, .int .i64 m.g, .bool m.wh, .int .i64 m.f, .int .i64 m.l, .slice ta m.ts.length tc] ∧ Tis ta m.ts.length m.ts w
def IsCa (v : Value) (c : Ca) (w : World) : Prop := ∃ ma mc ca cc, v = .agg #[.slice ma c.ms.length mc, .slice ca c.cs.length cc] ∧ Mes ma c.ms.length c.ms w ∧ Crs ca c.cs.length c.cs w
theorem TiAt.below {w w' : World} {b o : Nat} {e : Ti} (h : TiAt w b o e) (hl : b < w.heap.size) (hb : Below w.heap.size w w') : TiAt w' b o e :=
  ⟨(hb.cell (p := ⟨b, o, none⟩) hl).trans h.1, (hb.cell (p := ⟨b, o + 1, none⟩) hl).trans h.2⟩
theorem CrAt.below {w w' : World} {b o : Nat} {e : Cr} (h : CrAt w b o e) (hl : b < w.heap.size) (hb : Below w.heap.size w w') : CrAt w' b o e :=
  ⟨(hb.cell (p := ⟨b, o, none⟩) hl).trans h.1, (hb.cell (p := ⟨b, o + 1, none⟩) hl).trans h.2⟩
theorem Tis.below {ao : Option Addr} {len : Nat} {es : List Ti} {w w' : World} (h : Tis ao len es w) (hb : Below w.heap.size w w') : Tis ao len es w' := by
  refine ⟨h.1, ?_⟩
  rcases h.2 with h0 | ⟨b, off, rfl, hlt, hc⟩
  · exact .inl h0
  · exact .inr ⟨b, off, rfl, by have := hb.size; omega, fun j hj => (hc j hj).below hlt hb⟩
theorem Crs.below {ao : Option Addr} {len : Nat} {es : List Cr} {w w' : World} (h : Crs ao len es w) (hb : Below w.heap.size w w') : Crs ao len es w' := by
  refine ⟨h.1, ?_⟩
  rcases h.2 with h0 | ⟨b, off, rfl, hlt, hc⟩
  · exact .inl h0
  · exact .inr ⟨b, off, rfl, by have := hb.size; omega, fun j hj => (hc j hj).below hlt hb⟩
theorem MeAt.below {w w' : World} {b o : Nat} {e : Me} (h : MeAt w b o e) (hl : b < w.heap.size) (hb : Below w.heap.size w w') : MeAt w' b o e := by
  obtain ⟨ta, tc, h0, h1, h2, h3, h4, h5, h6⟩ := h
  have f := fun k => hb.cell (p := ⟨b, k, none⟩) hl
  exact ⟨ta, tc, (f _).trans h0, (f _).trans h1, (f _).trans h2, (f _).trans h3, (f _).trans h4, (f _).trans h5, h6.below hb⟩
theorem Mes.below {ao : Option Addr} {len : Nat} {es : List Me} {w w' : World} (h : Mes ao len es w) (hb : Below w.heap.size w w') : Mes ao len es w' := by
  refine ⟨h.1, ?_⟩
  rcases h.2 with h0 | ⟨b, off, rfl, hlt, hc⟩
  · exact .inl h0
  · exact .inr ⟨b, off, rfl, by have := hb.size; omega, fun j hj => (hc j hj).below hlt hb⟩
theorem IsMe.below {v : Value} {m : Me} {w w' : World} (h : IsMe v m w) (hb : Below w.heap.size w w') : IsMe v m w' := by
  obtain ⟨ta, tc, hv, ht⟩ := h
  exact ⟨ta, tc, hv, ht.below hb⟩
theorem IsCa.below {v : Value} {m : Ca} {w w' : World} (h : IsCa v m w) (hb : Below w.heap.size w w') : IsCa v m w' := by
  obtain ⟨ma, mc, ca, cc, hv, h1, h2⟩ := h
  exact ⟨ma, mc, ca, cc, hv, h1.below hb, h2.below hb⟩
theorem tis_at {ao : Option Addr} {len : Nat} {es : List Ti} {w : World} (h : Tis ao len es w) (k : Nat) (hk : k < len) : ∃ b off, ao = some ⟨b, off, none⟩ ∧ b < w.heap.size ∧ TiAt w b (off + k * 2) (es.getD k Ti.zero) := by
  rcases h.2 with h0 | ⟨b, off, rfl, hlt, hc⟩
  · omega
  · exact ⟨b, off, rfl, hlt, hc k hk⟩
theorem crs_at {ao : Option Addr} {len : Nat} {es : List Cr} {w : World} (h : Crs ao len es w) (k : Nat) (hk : k < len) : ∃ b off, ao = some ⟨b, off, none⟩ ∧ b < w.heap.size ∧ CrAt w b (off + k * 2) (es.getD k Cr.zero) := by
  rcases h.2 with h0 | ⟨b, off, rfl, hlt, hc⟩
  · omega
  · exact ⟨b, off, rfl, hlt, hc k hk⟩
theorem mes_at {ao : Option Addr} {len : Nat} {es : List Me} {w : World} (h : Mes ao len es w) (k : Nat) (hk : k < len) : ∃ b off, ao = some ⟨b, off, none⟩ ∧ b < w.heap.size ∧ MeAt w b (off + k * 6) (es.getD k Me.zero) := by
  rcases h.2 with h0 | ⟨b, off, rfl, hlt, hc⟩
  · omega
  · exact ⟨b, off, rfl, hlt, hc k hk⟩
theorem getD_memG {α : Type} (es : List α) (d : α) (k : Nat) (h : k < es.length) : es.getD k d ∈ es := by
  have : es.getD k d = es[k] := by simp [List.getD, h]
  rw [this]; exact List.getElem_mem h
theorem Tis.nil (ao : Option Addr) (w : World) : Tis ao 0 [] w := ⟨rfl, .inl rfl⟩
end CatR
end Go.Proofs.YtdgomcpkbahfeaaGreatDoor
namespace Go.Proofs.YtdgomcpkbahfeaaGreatDoor
open Go.RowKit
set_option linter.unusedVariables false
namespace CatR
def tU (ts : List Ti) (i : Nat) : Int := (ts.getD i Ti.zero).u
def tP (ts : List Ti) (i : Nat) : Int := (ts.getD i Ti.zero).p
/-- The one ahead, 0 ahead of the first. -/
def tA (ts : List Ti) : Nat → Int
  | 0 => 0
  | k + 1 => tU ts k
/-- So many tiers rise from 1 on, with prices that may be. -/
def TOk (ts : List Ti) (k : Nat) : Prop := ∀ i, i < k → tA ts i < tU ts i ∧ 0 ≤ tP ts i ∧ tP ts i ≤ 1000000
def TRight (ts : List Ti) : Prop := 1 ≤ ts.length ∧ ts.length ≤ 5 ∧ TOk ts ts.length ∧ tA ts ts.length = 1000000000000
theorem TOk.zero (ts : List Ti) : TOk ts 0 := fun i h => absurd h (by omega)
theorem TOk.more {ts : List Ti} {k : Nat} (h : TOk ts k) (h1 : tA ts k < tU ts k) (h2 : 0 ≤ tP ts k) (h3 : tP ts k ≤ 1000000) : TOk ts (k + 1) := by
  intro i hi
  by_cases e : i = k
  · subst e; exact ⟨h1, h2, h3⟩
  · exact h i (by omega)
theorem TOk.rise {ts : List Ti} {n : Nat} (h : TOk ts n) : ∀ i, i ≤ n → 0 ≤ tA ts i ∧ ∀ j, j ≤ i → tA ts j ≤ tA ts i
  | 0, _ => ⟨by simp [tA], fun j hj => by obtain rfl : j = 0 := by omega
                                          exact Int.le_refl _⟩
  | i + 1, hi => by
    obtain ⟨a, b⟩ := TOk.rise h i (by omega)
    have c := (h i (by omega)).1
    have d : tA ts (i + 1) = tU ts i := rfl
    refine ⟨by omega, fun j hj => ?_⟩
    by_cases e : j = i + 1
    · subst e; exact Int.le_refl _
    · have := b j (by omega)
      omega
/-- A tier that is beyond the last Upto is not right. -/
theorem TRight.upto {ts : List Ti} (h : TRight ts) (k : Nat) (hk : k < ts.length) : 1 ≤ tU ts k ∧ tU ts k ≤ 1000000000000 := by
  obtain ⟨_, _, h3, h4⟩ := h
  have a := (h3.rise ts.length (Nat.le_refl _)).2 (k + 1) (by omega)
  have b := (h3.rise k (by omega)).1
  have c := (h3 k hk).1
  have d : tA ts (k + 1) = tU ts k := rfl
  omega
/-- A meter that is right. -/
def MRight (m : Me) : Prop := NameR.nameB m.n = true ∧ (1 ≤ m.g ∧ m.g ≤ 4) ∧ (0 ≤ m.f ∧ m.f ≤ 1000000000) ∧ (0 ≤ m.l ∧ m.l ≤ 1000000000000) ∧ TRight m.ts
def TOkDec (ts : List Ti) (k : Nat) : Decidable (TOk ts k) := inferInstanceAs (Decidable (∀ i, i < k → tA ts i < tU ts i ∧ 0 ≤ tP ts i ∧ tP ts i ≤ 1000000))
def TRightDec (ts : List Ti) : Decidable (TRight ts) :=
  haveI := TOkDec ts ts.length
  inferInstanceAs (Decidable (1 ≤ ts.length ∧ ts.length ≤ 5 ∧ TOk ts ts.length ∧ tA ts ts.length = 1000000000000))
def MRightDec (m : Me) : Decidable (MRight m) :=
  haveI := TRightDec m.ts
  inferInstanceAs (Decidable (NameR.nameB m.n = true ∧ (1 ≤ m.g ∧ m.g ≤ 4) ∧ (0 ≤ m.f ∧ m.f ≤ 1000000000) ∧ (0 ≤ m.l ∧ m.l ≤ 1000000000000) ∧ TRight m.ts))
def tB (ts : List Ti) : Bool := @decide (TRight ts) (TRightDec ts)
def mB (m : Me) : Bool := @decide (MRight m) (MRightDec m)
theorem tB_no {ts : List Ti} (h : ¬ TRight ts) : tB ts = false := by unfold tB; exact @decide_eq_false _ (TRightDec ts) h
theorem tB_yes {ts : List Ti} (h : TRight ts) : tB ts = true := by unfold tB; exact @decide_eq_true _ (TRightDec ts) h
theorem tB_false {ts : List Ti} {k : Nat} (hk : k < ts.length) (h : ¬ (tA ts k < tU ts k ∧ 0 ≤ tP ts k ∧ tP ts k ≤ 1000000)) : tB ts = false := tB_no (fun hr => h (hr.2.2.1 k hk))
theorem tB_over {ts : List Ti} {k : Nat} (hk : k < ts.length) (h : ¬ (1 ≤ tU ts k ∧ tU ts k ≤ 1000000000000)) : tB ts = false := tB_no (fun hr => h (hr.upto k hk))
theorem tB_end {ts : List Ti} (h1 : 1 ≤ ts.length) (h5 : ts.length ≤ 5) (h : TOk ts ts.length) : tB ts = decide (tA ts ts.length = 1000000000000) := by
  by_cases e : tA ts ts.length = 1000000000000
  · rw [decide_eq_true e]; exact tB_yes ⟨h1, h5, h, e⟩
  · rw [decide_eq_false e]; exact tB_no (fun hr => e hr.2.2.2)
theorem mB_eq (m : Me) : mB m = (NameR.nameB m.n && decide (1 ≤ m.g ∧ m.g ≤ 4) && decide (0 ≤ m.f ∧ m.f ≤ 1000000000) && decide (0 ≤ m.l ∧ m.l ≤ 1000000000000) && tB m.ts) := by
  unfold mB tB
  rw [Bool.eq_iff_iff]
  simp only [decide_eq_true_eq, Bool.and_eq_true]
  unfold MRight
  constructor
  · rintro ⟨a, b, c, d, e⟩; exact ⟨⟨⟨⟨a, b⟩, c⟩, d⟩, e⟩
  · rintro ⟨⟨⟨⟨a, b⟩, c⟩, d⟩, e⟩; exact ⟨a, b, c, d, e⟩
end CatR
end Go.Proofs.YtdgomcpkbahfeaaGreatDoor
