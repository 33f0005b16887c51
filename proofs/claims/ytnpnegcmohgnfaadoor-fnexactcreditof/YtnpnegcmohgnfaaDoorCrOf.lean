/-
  The credit of an account, either side. The conditions: all in the catalog is small; the program's own error stands in its variable.
-/
import Derived.Test.YtnpnegcmohgnfaaDoorCaR
import Derived.Test.YtnpnegcmohgnfaaDoorSCa
namespace Go.Proofs.YtnpnegcmohgnfaaDoor
open Go.ChangeShapes Go.WideShapes Go.ChangeAt Go.RowKit
set_option linter.unusedVariables false
namespace CatR
/-- The credit of the first of that account, 0 if there is none. -/
def crF (t : ByteArray) : List Cr → Int
  | [] => 0
  | c :: cs => if c.a = t then c.m else crF t cs
theorem crF_hit (t : ByteArray) : ∀ (cs : List Cr) (k : Nat), k < cs.length → (∀ i, i < k → cA cs i ≠ t) → cA cs k = t → crF t cs = cM cs k
  | [], k, h, _, _ => absurd h (by simp)
  | c :: cs, 0, _, _, h => by
    rw [crF, if_pos (show c.a = t from h)]; rfl
  | c :: cs, k + 1, hk, hn, h => by
    rw [crF, if_neg (show ¬ c.a = t from hn 0 (by omega))]
    exact crF_hit t cs k (by simpa using hk) (fun i hi => hn (i + 1) (by omega)) h
theorem crF_none (t : ByteArray) : ∀ (cs : List Cr), (∀ i, i < cs.length → cA cs i ≠ t) → crF t cs = 0
  | [], _ => rfl
  | c :: cs, hn => by
    rw [crF, if_neg (show ¬ c.a = t from hn 0 (by simp))]
    exact crF_none t cs (fun i hi => hn (i + 1) (by simpa using hi))
def crO (c : Ca) (t : ByteArray) : Int := if caB c = true then crF t c.cs else 0
theorem name_le {s : ByteArray} (h : NameR.nameB s = true) : 1 ≤ s.size ∧ s.size ≤ 20 := by
  rcases Nat.lt_or_ge s.size 1 with h1 | h1
  · rw [NameR.name_size (.inl h1)] at h; cases h
  · rcases Nat.lt_or_ge 20 s.size with h2 | h2
    · rw [NameR.name_size (.inr h2)] at h; cases h
    · exact ⟨h1, h2⟩
theorem caB_iff {c : Ca} : caB c = true ↔ MsRight c.ms ∧ CsRight c.cs := by
  unfold caB
  rw [Bool.and_eq_true, msB_iff, csB_iff]
theorem crO_long (c : Ca) (t : ByteArray) (ht : 20 < t.size) : crO c t = 0 := by
  unfold crO
  by_cases h : caB c = true
  · rw [if_pos h]
    refine crF_none t c.cs (fun i hi e => ?_)
    have := name_le (((caB_iff.1 h).2.2 i hi).1.1)
    rw [e] at this
    omega
  · rw [if_neg h]
theorem beq_no {a t : ByteArray} (h : a ≠ t) : (a.toList == t.toList) = false := by
  cases e : a.toList == t.toList
  · rfl
  · exact absurd (toList_inj (beq_iff_eq.1 e)) h
theorem nohit_more {cs : List Cr} {t : ByteArray} {k : Nat} (h : ∀ i, i < k → cA cs i ≠ t) (hk : cA cs k ≠ t) : ∀ i, i < k + 1 → cA cs i ≠ t := fun i hi => by
  by_cases e : i = k
  · subst e; exact hk
  · exact h i (by omega)
set_option maxRecDepth 100000 in
set_option maxHeartbeats 4000000 in
theorem impl_cr (v : Value) (c : Ca) (t : ByteArray) (w : World) (hS : c.Small) (hC : IsCa v c w) (hL : Laid w) :
    Calls Tryd.prog 13 #[v, .string t] w fun e w' => e = .returned (.int .i64 (crO c t)) ∧ Below w.heap.size w w' := by
  have HR0 : Hid (∀ W, Below w.heap.size w W → Calls Tryd.prog 10 #[v] W fun e w' => e = .returned (.bool (caB c)) ∧ Below W.heap.size W w') := hid_intro (fun W hW => impl_ca v c W hS (hC.below hW) (hL.below hW))
  obtain ⟨ma, mc, ca, cc, rfl, hM, hR⟩ := hC
  obtain ⟨ms, cs⟩ := c
  have s3 := hS.cl
  simp only at *
  have HO : Hid (crO ⟨ms, cs⟩ t = if caB ⟨ms, cs⟩ = true then crF t cs else 0) := rfl
  have HJ := hid_intro hR
  have HZ : Hid (cs.length = cs.length) := rfl
  clear hM hR hS hL
  generalize caB ⟨ms, cs⟩ = r at *
  generalize crO ⟨ms, cs⟩ t = R at *
  generalize ms.length = ml at *
  generalize hcl : cs.length = cl at *
  have HCL := hid_intro hcl
  clear hcl HZ
  have HB : Hid (Below w.heap.size w (w.alloc (.cells #[.slice ma ml mc, .slice ca cl cc] 31))) := hid_intro ((Below.refl _ _).alloc (Nat.le_refl _) _)
  have HA : Hid (Blk w.heap.size [.slice ma ml mc, .slice ca cl cc] (w.alloc (.cells #[.slice ma ml mc, .slice ca cl cc] 31))) := hid_intro (Blk.new w _ _)
  go_enter Tryd.func13, Tryd.ntmps13
  go_wp2_with fail
  refine (HR0.out _ HB.out).mono ?_
  rintro e w1 ⟨rfl, hb1⟩
  have HB1 := hid_intro (HB.out.trans (hb1.mono HB.out.size))
  have HA1 := hid_intro (HA.out.below hb1)
  have hl1 := HA1.out.1
  have q1 : w1.cell? ⟨w.heap.size, 1, none⟩ = some (.slice ca cl cc) := HA1.out.2 1 (by simp)
  clear hb1
  cases r
  · go_wp2_with fail
    go_ret
    exact ⟨ret_int (by rw [HO.out]; rfl), HB1.out⟩
  · go_wp2_with fail
    go_loopw [13] (fun z wr => ∃ k : Nat, k ≤ cl ∧ z = .int .i64 k ∧ Hid (∀ i, i < k → cA cs i ≠ t) ∧ Hid (Below w.heap.size w wr)) (fun z _ => cl - (intOf z).toNat)
    case atStart => exact ⟨0, by omega, rfl, hid_intro (fun i hi => absurd hi (by omega)), HB1⟩
    case round =>
      clear HB HA HB1 HA1 q1 hl1
      obtain ⟨k, hk, rfl, HN, HB⟩ := hrel
      by_cases hlt : k < cl
      · have hlt2 : (k : Int) < (cl : Int) := by omega
        obtain ⟨b, off, rfl, hbl, d0, d1⟩ := crs_at (HJ.out.below HB.out) k hlt
        have c0 : wr.cell? ⟨b, off + k * 2, none⟩ = some (.string (cA cs k)) := d0
        have c1 : wr.cell? ⟨b, off + k * 2 + 1, none⟩ = some (.int .i64 (cM cs k)) := d1
        clear d0 d1
        have HAl := hid_intro (fun o => HB.out.alloc HB.out.size o)
        by_cases e : cA cs k = t
        · have HV : Hid (R = cM cs k) := hid_intro (by rw [HO.out]; (first | rw [if_pos rfl] | rw [if_pos trivial]); exact crF_hit t cs k (by have := HCL.out; omega) HN.out e)
          generalize cM cs k = m at *
          rw [e] at c0
          go_wp2_with fail
          go_ret
          exact ⟨ret_int HV.out.symm, HAl.out _⟩
        · have HM := hid_intro (nohit_more HN.out e)
          have he := beq_no e
          generalize cA cs k = a at *
          generalize cM cs k = m at *
          clear e
          go_wp2_with fail
          go_roundw
          case rel => exact ⟨k + 1, by omega, by go_num, HM, hid_intro (HAl.out _)⟩
          case measure => simp [intOf]; omega
      · obtain rfl : k = cl := by omega
        have HV : Hid (R = 0) := hid_intro (by rw [HO.out]; (first | rw [if_pos rfl] | rw [if_pos trivial]); exact crF_none t cs (by rw [HCL.out]; exact HN.out))
        go_wp2_with fail
        go_ret
        exact ⟨ret_int HV.out.symm, HB.out⟩
set_option maxRecDepth 100000 in
set_option maxHeartbeats 4000000 in
theorem spec_cr0 (v : Value) (c : Ca) (t : ByteArray) (w : World) (hS : c.Small) (hC : IsCa v c w) :
    Calls Tryd.prog 33 #[v, .string t] w fun e w' => e = .returned (.int .i64 (crF t c.cs)) ∧ Below w.heap.size w w' := by
  obtain ⟨ma, mc, ca, cc, rfl, hM, hR⟩ := hC
  obtain ⟨ms, cs⟩ := c
  have s3 := hS.cl
  simp only at *
  have HO : Hid (crF t cs = crF t cs) := rfl
  have HJ := hid_intro hR
  have HH := hid_intro (fun k => crF_hit t cs k)
  have HE := hid_intro (crF_none t cs)
  clear hM hR hS
  generalize crF t cs = R at *
  generalize ms.length = ml at *
  generalize hcl : cs.length = cl at *
  have HCL := hid_intro hcl
  clear hcl HO
  have HB : Hid (Below w.heap.size w (w.alloc (.cells #[.slice ma ml mc, .slice ca cl cc] 31))) := hid_intro ((Below.refl _ _).alloc (Nat.le_refl _) _)
  have HA : Hid (Blk w.heap.size [.slice ma ml mc, .slice ca cl cc] (w.alloc (.cells #[.slice ma ml mc, .slice ca cl cc] 31))) := hid_intro (Blk.new w _ _)
  go_enter Tryd.func33, Tryd.ntmps33
  go_wp2_with fail
  go_loopw [5] (fun z wr => ∃ k : Nat, k ≤ cl ∧ z = .int .i64 k ∧ Hid (∀ i, i < k → cA cs i ≠ t) ∧ Hid (Below w.heap.size w wr) ∧ Hid (Blk w.heap.size [.slice ma ml mc, .slice ca cl cc] wr)) (fun z _ => cl - (intOf z).toNat)
  case atStart => exact ⟨0, by omega, rfl, hid_intro (fun i hi => absurd hi (by omega)), HB, HA⟩
  case round =>
    clear HB HA
    obtain ⟨k, hk, rfl, HN, HB, HA⟩ := hrel
    have hl1 := HA.out.1
    have q1 : wr.cell? ⟨w.heap.size, 1, none⟩ = some (.slice ca cl cc) := HA.out.2 1 (by simp)
    by_cases hlt : k < cl
    · have hlt2 : (k : Int) < (cl : Int) := by omega
      obtain ⟨b, off, rfl, hbl, d0, d1⟩ := crs_at (HJ.out.below HB.out) k hlt
      have c0 : wr.cell? ⟨b, off + k * 2, none⟩ = some (.string (cA cs k)) := d0
      have c1 : wr.cell? ⟨b, off + k * 2 + 1, none⟩ = some (.int .i64 (cM cs k)) := d1
      clear d0 d1
      by_cases e : cA cs k = t
      · have HV : Hid (R = cM cs k) := hid_intro (HH.out k (by have := HCL.out; omega) HN.out e)
        generalize cM cs k = m at *
        rw [e] at c0
        go_wp2_with fail
        try (go_quiet (fail); go_wp2_with fail)
        go_ret
        exact ⟨ret_int HV.out.symm, by first | exact HB.out | exact bdrewN HB.out _⟩
      · have HM := hid_intro (nohit_more HN.out e)
        have he := beq_no e
        generalize cA cs k = a at *
        generalize cM cs k = m at *
        clear e
        go_wp2_with fail
        try (go_quiet (fail); go_wp2_with fail)
        go_roundw
        case rel => exact ⟨k + 1, by omega, by go_num, HM, by first | exact HB | exact hid_intro (bdrewN HB.out _), by first | exact HA | exact hid_intro (HA.out.drewN _)⟩
        case measure => simp [intOf]; omega
    · obtain rfl : k = cl := by omega
      have HV : Hid (R = 0) := hid_intro (HE.out HN.out)
      go_wp2_with fail
      go_ret
      exact ⟨ret_int HV.out.symm, HB.out⟩
set_option maxHeartbeats 4000000 in
theorem spec_cr (v : Value) (c : Ca) (t : ByteArray) (w : World) (ht : t.size ≤ 1048576) (hS : c.Small) (hC : IsCa v c w) :
    Calls Tryd.prog 12 #[v, .string t] w fun e w' => e = .returned (.int .i64 (crO c t)) ∧ Below w.heap.size w w' := by
  have HR0 : Hid (∀ W, Below w.heap.size w W → Calls Tryd.prog 8 #[v] W fun e w' => e = .returned (.bool (caB c)) ∧ Below W.heap.size W w') := hid_intro (fun W hW => spec_ca v c W hS (hC.below hW))
  have HC0 : Hid (∀ W, Below w.heap.size w W → Calls Tryd.prog 33 #[v, .string t] W fun e w' => e = .returned (.int .i64 (crF t c.cs)) ∧ Below W.heap.size W w') := hid_intro (fun W hW => spec_cr0 v c t W hS (hC.below hW))
  have HO : Hid (crO c t = if caB c = true then crF t c.cs else 0) := rfl
  have HLO := hid_intro (crO_long c t)
  obtain ⟨ma, mc, ca, cc, rfl, hM, hR⟩ := hC
  clear hM hR hS
  generalize caB c = r at *
  generalize crO c t = R at *
  generalize crF t c.cs = R1 at *
  generalize c.ms.length = ml at *
  generalize c.cs.length = cl at *
  by_cases h8 : 8000 < t.size
  · have h8' : (8000 : Int) < (t.size : Int) := by omega
    have HV := hid_intro (HLO.out (by omega))
    go_enter Tryd.func12, Tryd.ntmps12
    go_wp2_with fail
    go_ret
    exact ⟨ret_int HV.out.symm, by first | exact Below.refl _ _ | exact (Below.refl _ _).alloc (Nat.le_refl _) _⟩
  · have h8' : ¬ (8000 : Int) < (t.size : Int) := by omega
    cases r
    · go_enter Tryd.func12, Tryd.ntmps12
      go_wp2_with (go_at_call 8; refine (HR0.out _ (by first | exact Below.refl _ _ | exact (Below.refl _ _).alloc (Nat.le_refl _) _)).mono ?_; rintro e w1 ⟨rfl, hb1⟩)
      go_ret
      exact ⟨ret_int (by rw [HO.out]; rfl), by first | exact hb1 | exact bel_alloc hb1⟩
    · have HB : Hid (Below w.heap.size w (w.alloc (.cells #[.slice ma ml mc, .slice ca cl cc] 31))) := hid_intro ((Below.refl _ _).alloc (Nat.le_refl _) _)
      have HA : Hid (Blk w.heap.size [.slice ma ml mc, .slice ca cl cc] (w.alloc (.cells #[.slice ma ml mc, .slice ca cl cc] 31))) := hid_intro (Blk.new w _ _)
      go_enter Tryd.func12, Tryd.ntmps12
      go_wp2_with fail
      refine (HR0.out _ HB.out).mono ?_
      rintro e w1 ⟨rfl, hb1⟩
      have HB1 := hid_intro (HB.out.trans (hb1.mono HB.out.size))
      have HA1 := hid_intro (HA.out.below hb1)
      have hl1 := HA1.out.1
      have q0 : w1.cell? ⟨w.heap.size, 0, none⟩ = some (.slice ma ml mc) := HA1.out.2 0 (by simp)
      have q1 : w1.cell? ⟨w.heap.size, 1, none⟩ = some (.slice ca cl cc) := HA1.out.2 1 (by simp)
      clear hb1
      go_wp2_with fail
      refine (HC0.out _ HB1.out).mono ?_
      rintro e w2 ⟨rfl, hb2⟩
      have HB2 := hid_intro (HB1.out.trans (hb2.mono HB1.out.size))
      clear hb2
      go_wp2_with fail
      go_ret
      exact ⟨ret_int (by rw [HO.out]; rfl), HB2.out⟩
end CatR
end Go.Proofs.YtnpnegcmohgnfaaDoor
