/-
  FnNums: for every two byte lists the law's call returns true (a drawn number, or text, is got back from its bytes, with the place behind it; of bytes that end too early nothing is got), and the arguments read as they did. The condition is the card's: errors' own variable starts as the program's text lays it.
-/
import Derived.Test.YthfcdfeomekkeaaDoorNuM
import Derived.Test.YthfcdfeomekkeaaDoorDrawNu
import Derived.Test.YthfcdfeomekkeaaDoorHandle
import Derived.Test.YthfcdfeomekkeaaDoorTie
import Derived.Test.YthfcdfeomekkeaaDoorCards
import Derived.Carry
import Derived.OpenVars
import Derived.Lib.SmallJoins
import Derived.SevenTiedAt
import Derived.Laws.BytesArg
namespace Go.Proofs.YthfcdfeomekkeaaDoor
open Go.ChangeShapes Go.WideShapes Go.ChangeAt Go.RowKit
open Go.ChangeMaps (open_string shut_string)
set_option linter.unusedVariables false
namespace FnNumsL
open DrawR
open AsR (Laid)
open NumR (numB)
theorem full_ofN (i : ByteArray) (h : i.size ≠ 0) : i.toList ≠ [] ∧ i.toList.isEmpty = false := by
  have a : i.toList ≠ [] := by
    rw [ByteArray.toList_eq]
    intro e
    exact h (show i.data.toList.length = 0 by rw [e]; rfl)
  exact ⟨a, by cases hl : i.toList with
    | nil => exact absurd hl a
    | cons x l => rfl⟩
theorem fldNum (a b c : Int) (w : World) : (Instr.field 26 (.agg #[.int .i64 a, .int .i64 b, .int .i64 c]) 2).run Tryd.prog w = .ok (.int .i64 c) w := by kernel_rfl
theorem fldTxt (a : ByteArray) (b c : Int) (w : World) : (Instr.field 31 (.agg #[.string a, .int .i64 b, .int .i64 c]) 2).run Tryd.prog w = .ok (.int .i64 c) w := by kernel_rfl
theorem big_spec (t : ByteArray) (w : World) (ht : 8000 < t.size) (hm : t.size ≤ 1048576) :
    Calls Tryd.prog 10 #[.string t] w fun e w' => e = .returned (.string ⟨#[]⟩) ∧ Below w.heap.size w w' := by
  go_enter Tryd.func10, Tryd.ntmps10
  go_wp2
  go_ret
  exact ⟨rfl, Below.refl _ _⟩
theorem big_impl (t : ByteArray) (w : World) (ht : 8000 < t.size) (hm : t.size ≤ 1048576) :
    Calls Tryd.prog 9 #[.string t] w fun e w' => e = .returned (.string ⟨#[]⟩) ∧ Below w.heap.size w w' := by
  go_enter Tryd.func9, Tryd.ntmps9
  go_wp2
  go_ret
  exact ⟨rfl, Below.refl _ _⟩
set_option maxRecDepth 100000 in
set_option maxHeartbeats 8000000 in
theorem law_in (a0 a1 : Option Addr) (len0 cap0 len1 cap1 : Nat) (w : World) (hL : Laid w) (h0 : len0 ≤ 1048576) (h1 : len1 ≤ 1048576) (hB0 : Bytes a0 len0 w) (hB1 : Bytes a1 len1 w) :
    Calls Tryd.prog 3 #[.slice a0 len0 cap0, .slice a1 len1 cap1] w fun e w' => e = .returned (.bool true) ∧ Below w.heap.size w w' := by
  have HL := hid_intro hL
  have HD := hid_intro (drawPutNum a0 len0 cap0 w h0 hB0)
  have HT := hid_intro (fun W (hW : Below w.heap.size w W) => drawPutText a1 len1 cap1 W h1 (hB1.below hW))
  have q0 : ¬ (1048576 : Int) < (len0 : Int) := by omega
  have q1 : ¬ (1048576 : Int) < (len1 : Int) := by omega
  clear hL hB0 hB1
  go_enter Tryd.func3, Tryd.ntmps3
  go_wp2_with fail
  refine HD.out.mono ?_
  rintro e w1 ⟨⟨n, rfl, n0, n1⟩, hb⟩
  have HB := hid_intro hb
  clear hb
  have hn : NumsR.I64 n := ⟨n0, n1⟩
  have P1 := hid_intro (fun w => NumR.impl_put n w hn)
  have P2 := hid_intro (fun w => NumR.spec_put n w hn)
  have hz := NumR.numB_size hn
  have hp := NuR.numB_pos n
  obtain ⟨u1, k1, e1, e2, e3⟩ := NuR.num_mid (a := ⟨#[120, 121]⟩) (c := ⟨#[122]⟩) hn
  have G1 : Hid (∀ w, Calls Tryd.prog 7 #[.string ((⟨#[120, 121]⟩ : ByteArray) ++ numB n ++ ⟨#[122]⟩), .int .i64 2] w fun e w' => e = .returned (.agg #[.int .i64 n, .int .i64 (((numB n).size : Int) + 2), .int .i64 0]) ∧ Below w.heap.size w w') := hid_intro (fun w => by
    have hsz : ((⟨#[120, 121]⟩ : ByteArray) ++ numB n ++ ⟨#[122]⟩).size ≤ 8000 := by
      simp only [ByteArray.size_append]
      have : (⟨#[120, 121]⟩ : ByteArray).size = 2 := rfl
      have : (⟨#[122]⟩ : ByteArray).size = 1 := rfl
      omega
    have h := GetR.impl_got _ 2 n (((numB n).size : Int) + 2) w hsz (fun w => by
      have h := GetR.read_got hsz (by decide) e1 w
      have ek : (2 : Int) + (k1 : Int) = ((numB n).size : Int) + 2 := by
        have : (⟨#[120, 121]⟩ : ByteArray).size = 2 := rfl
        omega
      have ez : ((⟨#[120, 121]⟩ : ByteArray).size : Int) = 2 := rfl
      rw [e2, ez, ek] at h
      exact h)
    exact h)
  obtain ⟨m, hm⟩ : ∃ m, (numB n).size = m + 1 := ⟨(numB n).size - 1, by omega⟩
  have G2 : Hid (∀ w, Laid w → Calls Tryd.prog 7 #[.string ((numB n).extract 0 m), .int .i64 0] w fun e w' => e = .returned (.agg #[.int .i64 0, .int .i64 0, .int .i64 4]) ∧ Below w.heap.size w w') := hid_intro (fun w hL => by
    have hc := NuR.cut_num hn
    rw [hm, Nat.add_sub_cancel] at hc
    have hsz : ((numB n).extract 0 m).size ≤ 8000 := by rw [ByteArray.size_extract]; omega
    exact GetR.impl_bad _ 0 4 w hL hsz (fun w => GetR.read_bad hsz (by decide) (by decide) hc w))
  generalize numB n = T at *
  have v1 : ¬ 9223372036854775807 < (⟨#[120, 121]⟩ : ByteArray).size + T.size := by
    have : (⟨#[120, 121]⟩ : ByteArray).size = 2 := rfl
    omega
  have v2 : ¬ 9223372036854775807 < (⟨#[120, 121]⟩ : ByteArray).size + T.size + (⟨#[122]⟩ : ByteArray).size := by
    have : (⟨#[120, 121]⟩ : ByteArray).size = 2 := rfl
    have : (⟨#[122]⟩ : ByteArray).size = 1 := rfl
    omega
  clear e1 e2 e3
  go_wp2_with fail
  refine (P1.out _).mono ?_
  rintro e w2 ⟨rfl, hb⟩
  replace HB := hid_intro (HB.out.trans (hb.mono HB.out.size))
  clear hb
  have x1 : ¬ (T.size : Int) < 1 := by omega
  have x2 : ¬ (10 : Int) < (T.size : Int) := by omega
  go_wp2_with fail
  refine (P2.out _).mono ?_
  rintro e w3 ⟨rfl, hb⟩
  replace HB := hid_intro (HB.out.trans (hb.mono HB.out.size))
  clear hb
  go_wp2_with fail
  refine (G1.out _).mono ?_
  rintro e w4 ⟨rfl, hb⟩
  replace HB := hid_intro (HB.out.trans (hb.mono HB.out.size))
  clear hb
  rw [hm]
  have HL4 := hid_intro ((HL.out.below HB.out).alloc (.cells #[.int .i64 n, .int .i64 ((m : Int) + 1 + 2), .int .i64 0] 26))
  have HB4 := hid_intro (HB.out.alloc HB.out.size (.cells #[.int .i64 n, .int .i64 ((m : Int) + 1 + 2), .int .i64 0] 26))
  have hf := fldNum
  go_wp2_with fail
  refine (G2.out _ HL4.out).mono ?_
  rintro e w5 ⟨rfl, hb⟩
  replace HB := hid_intro (HB4.out.trans (hb.mono HB4.out.size))
  clear hb HL4 HB4 hm hz hp x1 x2 v1 v2 n0 n1 hn P1 P2 G1 G2
  have HTX := hid_intro (HT.out _ HB.out)
  clear HT HD
  go_wp2_with fail
  refine HTX.out.mono ?_
  rintro e w6 ⟨⟨u, rfl, hu⟩, hb⟩
  replace HB := hid_intro (HB.out.trans (hb.mono HB.out.size))
  clear hb HTX
  rcases hu with hu | ⟨hu, hu2⟩
  · have hnu : NumsR.I64 (u.size : Int) := ⟨by omega, by omega⟩
    have P3 := hid_intro (fun w => PutTextL.impl_text u w (by omega))
    have P4 := hid_intro (fun w => PutTextL.spec_text u w (by omega))
    have hz := NumR.numB_size hnu
    have hp := NuR.numB_pos (u.size : Int)
    have hsz : (numB (u.size : Int) ++ u).size = (numB (u.size : Int)).size + u.size := ByteArray.size_append
    obtain ⟨L, hL⟩ : ∃ L, (numB (u.size : Int) ++ u).size = L + 1 := ⟨(numB (u.size : Int) ++ u).size - 1, by omega⟩
    have T1 : Hid (∀ w, Calls Tryd.prog 11 #[.string ((⟨#[120]⟩ : ByteArray) ++ (numB (u.size : Int) ++ u)), .int .i64 1] w fun e w' => e = .returned (.agg #[.string u, .int .i64 ((L : Int) + 1 + 1), .int .i64 0]) ∧ Below w.heap.size w w') := hid_intro (fun w => by
      obtain ⟨u1, k1, e1, e2, e3⟩ := NuR.num_mid (a := ⟨#[120]⟩) (c := u) hnu
      have e120 : (⟨#[120]⟩ : ByteArray).size = 1 := rfl
      rw [← ByteArray.append_assoc]
      have hs8 : ((⟨#[120]⟩ : ByteArray) ++ numB (u.size : Int) ++ u).size = 1 + (numB (u.size : Int)).size + u.size := by rw [ByteArray.size_append, ByteArray.size_append, e120]
      have hr := GetR.readT_got ((⟨#[120]⟩ : ByteArray) ++ numB (u.size : Int) ++ u) 1 u.size (1 + (numB (u.size : Int)).size) w (by omega) (by omega) (by omega) (fun w => by
        have h := GetR.read_got (by omega) (by decide) e1 w
        have ek : (((⟨#[120]⟩ : ByteArray).size : Int) + (k1 : Int)) = ((1 + (numB (u.size : Int)).size : Nat) : Int) := by omega
        rw [e2, ek] at h
        exact h)
      have ex : ((⟨#[120]⟩ : ByteArray) ++ numB (u.size : Int) ++ u).extract (1 + (numB (u.size : Int)).size) (1 + (numB (u.size : Int)).size + u.size) = u := by
        have h := NuR.ext_end ((⟨#[120]⟩ : ByteArray) ++ numB (u.size : Int)) u
        rw [ByteArray.size_append, e120] at h
        exact h
      refine GetR.implT_got _ u 1 ((L : Int) + 1 + 1) w (by omega) (fun w => ?_)
      have hr := GetR.readT_got ((⟨#[120]⟩ : ByteArray) ++ numB (u.size : Int) ++ u) 1 u.size (1 + (numB (u.size : Int)).size) w (by omega) (by omega) (by omega) (fun w => by
        have h := GetR.read_got (by omega) (by decide) e1 w
        have ek : (((⟨#[120]⟩ : ByteArray).size : Int) + (k1 : Int)) = ((1 + (numB (u.size : Int)).size : Nat) : Int) := by omega
        rw [e2, ek] at h
        exact h)
      rw [ex, show (((1 + (numB (u.size : Int)).size : Nat) : Int) + (u.size : Int)) = (L : Int) + 1 + 1 by omega] at hr
      exact hr)
    have T2 : Hid (∀ w, Laid w → Calls Tryd.prog 11 #[.string ((numB (u.size : Int) ++ u).extract 0 L), .int .i64 0] w fun e w' => e = .returned (.agg #[.string ⟨#[]⟩, .int .i64 0, .int .i64 4]) ∧ Below w.heap.size w w') := hid_intro (fun w hLw => by
      have hxz : ((numB (u.size : Int) ++ u).extract 0 L).size = L := by rw [ByteArray.size_extract]; omega
      refine GetR.implT_bad _ 0 4 w hLw (by omega) (fun w => ?_)
      by_cases h0 : u.size = 0
      · have hr4 : GetR.rd ((numB (u.size : Int) ++ u).extract 0 L) 0 10 0 0 = (4, 0, 0) := by
          have hc := NuR.cut_num hnu
          have hLn : (numB (u.size : Int)).size - 1 = L := by omega
          rw [hLn] at hc
          have eu : numB (u.size : Int) ++ u = numB (u.size : Int) := by
            apply ByteArray.ext
            have hd : u.data = #[] := Array.eq_empty_of_size_eq_zero h0
            rw [ByteArray.data_append, hd, Array.append_empty]
          rw [eu]
          exact hc
        exact GetR.readT_bad _ 0 4 w (fun w => GetR.read_bad (by omega) (by decide) (by decide) hr4 w)
      · obtain ⟨u1, k1, e1, e2, e3⟩ := NuR.txt_cut (t := u) (by omega) (by omega) L hL
        refine GetR.readT_short _ 0 u.size (numB (u.size : Int)).size w (by omega) (by omega) (by omega) (by omega) (fun w => ?_)
        have h := GetR.read_got (by omega) (by decide) e1 w
        have ek : (((0 : Nat) : Int) + (k1 : Int)) = ((numB (u.size : Int)).size : Int) := by omega
        rw [e2, ek] at h
        exact h)
    have y3 : (L : Int) + 1 + 1 ≤ 8000 := by omega
    obtain ⟨hne, hne2⟩ := full_ofN (numB (u.size : Int) ++ u) (by omega)
    generalize numB (u.size : Int) ++ u = P at *
    clear hsz hz hp hnu hu
    have y1 : ¬ (8000 : Int) < (L : Int) + 1 + 1 := by omega
    have v1 : ¬ 9223372036854775807 < (⟨#[120]⟩ : ByteArray).size + P.size := by
      have : (⟨#[120]⟩ : ByteArray).size = 1 := rfl
      omega
    have hft := fldTxt
    go_wp2_with fail
    refine (P3.out _).mono ?_
    rintro e w7 ⟨rfl, hb⟩
    replace HB := hid_intro (HB.out.trans (hb.mono HB.out.size))
    clear hb
    go_wp2_with fail
    refine (P4.out _).mono ?_
    rintro e w8 ⟨rfl, hb⟩
    replace HB := hid_intro (HB.out.trans (hb.mono HB.out.size))
    clear hb
    go_wp2_with fail
    refine (T1.out _).mono ?_
    rintro e w9 ⟨rfl, hb⟩
    replace HB := hid_intro (HB.out.trans (hb.mono HB.out.size))
    clear hb
    go_wp2_with fail
    refine (T2.out _ (HL.out.below HB.out)).mono ?_
    rintro e w10 ⟨rfl, hb⟩
    replace HB := hid_intro (HB.out.trans (hb.mono HB.out.size))
    clear hb
    go_wp2_with fail
    go_ret
    exact ⟨rfl, HB.out⟩
  · have P3 := hid_intro (fun w => big_impl u w hu (by omega))
    have P4 := hid_intro (fun w => big_spec u w hu (by omega))
    go_wp2_with fail
    refine (P3.out _).mono ?_
    rintro e w7 ⟨rfl, hb⟩
    replace HB := hid_intro (HB.out.trans (hb.mono HB.out.size))
    clear hb
    go_wp2_with fail
    refine (P4.out _).mono ?_
    rintro e w8 ⟨rfl, hb⟩
    replace HB := hid_intro (HB.out.trans (hb.mono HB.out.size))
    clear hb
    go_wp2_with fail
    refine (P4.out _).mono ?_
    rintro e w9 ⟨rfl, hb⟩
    replace HB := hid_intro (HB.out.trans (hb.mono HB.out.size))
    clear hb
    go_wp2_with fail
    go_ret
    exact ⟨rfl, HB.out⟩
set_option maxHeartbeats 4000000 in
theorem walk (a0 : Option Addr) (len0 cap0 : Nat) (z0 : List Int) (a1 : Option Addr) (len1 cap1 : Nat) (z1 : List Int) (w : World) (w0 : IsRow .u8 w a0 len0 cap0 z0) (w1 : IsRow .u8 w a1 len1 cap1 z1) (hL : Laid w) :
    Calls Tryd.prog 3 #[.slice a0 len0 cap0, .slice a1 len1 cap1] w fun e w' => e = .returned (.bool true) ∧ Below w.heap.size w w' := by
  have l0 := w0.len
  have l1 := w1.len
  unfold maxLen at l0 l1
  by_cases h0 : len0 ≤ 1048576
  · by_cases h1 : len1 ≤ 1048576
    · exact law_in a0 a1 len0 cap0 len1 cap1 w hL h0 h1 w0.bytes w1.bytes
    · have q0 : ¬ (1048576 : Int) < (len0 : Int) := by omega
      have q1 : (1048576 : Int) < (len1 : Int) := by omega
      clear w0 w1 hL
      go_enter Tryd.func3, Tryd.ntmps3
      go_wp2
      go_ret
      exact ⟨rfl, Below.refl _ _⟩
  · have q0 : (1048576 : Int) < (len0 : Int) := by omega
    clear w0 w1 hL
    go_enter Tryd.func3, Tryd.ntmps3
    go_wp2
    go_ret
    exact ⟨rfl, Below.refl _ _⟩
set_option maxRecDepth 100000 in
theorem lifted (os : Os) (started : os.Started) (H : Type) (enc : TypeId × Value → H) :
    ReturnsInHanded {} Tryd.checked os 3 .any (fun w args => (Rows.fnNumsSpec.pre enc Tryd.prog Tryd.f3 [] false w args ∧ laidMetH Tryd.prog Hnd.laid w) ∧ sizedMet enc Tryd.prog Tryd.f3 (OpenSpec.ofChange Rows.fnNumsSpec) false w args)
      (Rows.fnNumsSpec.post enc Tryd.prog Tryd.f3 false true false false) := by
  refine returnsInHanded_of_change_and (C := Tryd.checked) (X := fun w _ => laidMetH Tryd.prog Hnd.laid w) (fun _ _ _ hh h => h.of_heap hh) Hnd.own started (by kernel_rfl) Tryd.func3
    (ChangeSpec.witness_at (enc := enc) (C := Tryd.checked) (os := os) (X := fun w _ => laidMetH Tryd.prog Hnd.laid w) false ({ World.holding Tryd.prog os ⟨#[], #[], []⟩ with heap := (World.holding Tryd.prog os ⟨#[], #[], []⟩).heap.modify 0 fun | .cells _ t frozen => .cells #[.iface 74 (.agg #[.pointer (some ⟨1, 42, none⟩)])] t frozen | o => o } : World) #[.slice none 0 0, .slice none 0 0] 8 rfl (by kernel_rfl) (by kernel_rfl) (by kernel_rfl) (by kernel_rfl) (by kernel_rfl) (Hnd.world_met os _)) ?_
  intro W base args ds gs before hval0 hW _ _ hL _
  have hval : ∀ (j : Nat) t v, Tryd.f3.params[j]? = some t → args[j]? = some v → Value.okWide Tryd.prog W .any base t v := hval0
  have hW' := hW
  obtain ⟨p, q, hA0, hV0, rfl, hfz, hnd⟩ := hW
  have hA : DataW.TrodAll enc Tryd.prog W 0 (fun _ => true) true Tryd.f3.params.toList args.toList ds p := hA0
  have hV : DataW.TrodVars enc Tryd.prog W (fun _ => true) [] gs q := hV0
  rw [Tryd.params3] at hA hval
  obtain ⟨v0, v1, d0, d1, p0, p1, rfl, rfl, rfl, h0, h1⟩ := trodAll_two hA
  have k0 := h0
  have lt0 : ∀ x ∈ p0, x.block < W.heap.size := fun x hx => hW'.lt x (by simp [hx])
  obtain ⟨a0, len0, cap0, rfl⟩ := okWide_slice Tryd.underlying22 (hval 0 22 v0 rfl rfl)
  obtain ⟨z0, w0⟩ : ∃ zs, IsRow .u8 W a0 len0 cap0 zs := by
    obtain ⟨fuel, hf⟩ := h0
    rcases open_ints Tryd.underlying22 Tryd.underlying5 (by kernel_rfl) hf with ⟨hcs, _⟩ | ⟨x, l, c, zs, hcs, _, hl, hm, hz, _, hcell, hwz⟩
    · simp [Value.cells] at hcs
      obtain ⟨rfl, rfl, rfl⟩ := hcs
      exact ⟨[], .inl ⟨rfl, rfl, rfl, rfl⟩⟩
    · simp [Value.cells] at hcs
      obtain ⟨rfl, rfl, rfl⟩ := hcs
      exact ⟨zs, .inr ⟨_, rfl, hl, hm, by simpa using hz, hcell, hwz⟩⟩
  have k1 := h1
  have lt1 : ∀ x ∈ p1, x.block < W.heap.size := fun x hx => hW'.lt x (by simp [hx])
  obtain ⟨a1, len1, cap1, rfl⟩ := okWide_slice Tryd.underlying22 (hval 1 22 v1 rfl rfl)
  obtain ⟨z1, w1⟩ : ∃ zs, IsRow .u8 W a1 len1 cap1 zs := by
    obtain ⟨fuel, hf⟩ := h1
    rcases open_ints Tryd.underlying22 Tryd.underlying5 (by kernel_rfl) hf with ⟨hcs, _⟩ | ⟨x, l, c, zs, hcs, _, hl, hm, hz, _, hcell, hwz⟩
    · simp [Value.cells] at hcs
      obtain ⟨rfl, rfl, rfl⟩ := hcs
      exact ⟨[], .inl ⟨rfl, rfl, rfl, rfl⟩⟩
    · simp [Value.cells] at hcs
      obtain ⟨rfl, rfl, rfl⟩ := hcs
      exact ⟨zs, .inr ⟨_, rfl, hl, hm, by simpa using hz, hcell, hwz⟩⟩
  have hl := Hnd.of_laid hL
  obtain ⟨rfl, rfl⟩ := trodVars_none hV
  refine (walk a0 len0 cap0 z0 a1 len1 cap1 z1 W w0 w1 hl).mono fun e W' ⟨he, bel⟩ => ?_
  subst he
  exact ⟨_, rfl, _, _, _, _, _, _, hW', trodAll_mk1 (shut_bool Tryd.underlying4 true), trodAll_mk2 (Below.trod Hnd.laidOut (by kernel_rfl) (of_decide_eq_true (by kernel_rfl)) k0 bel lt0) (Below.trod Hnd.laidOut (by kernel_rfl) (of_decide_eq_true (by kernel_rfl)) k1 bel lt1), rfl, bel.frame _, fun h => by cases h⟩
theorem row_holds : Rows.FnNumsSaid :=
  OpenClaim.holds_of_wide 3 Tryd.f3 rfl rfl rfl rfl rfl rfl rfl ⟨rfl, rfl, rfl, rfl, rfl⟩ rfl rfl rfl rfl rfl (by kernel_rfl) Tryd.func3 (by kernel_rfl)
    (of_decide_eq_true (by kernel_rfl)) (by unfold Func.isWrapper; rw [if_neg (of_decide_eq_false (by kernel_rfl))]; exact ⟨rfl, rfl⟩)
    (fun os started H enc _ => lifted os started H enc)
theorem card_holds : Rows.FnNumsCardSaid :=
  Claim7.holds_tied_plain_at .later [] [.handle] true Rows.fnNumsCard.stood.harness true
    row_holds (fun _ h => by cases h) (by kernel_rfl) (fun _ h => by cases h) fnNums_row_tie rfl ⟨rfl, rfl⟩ (by kernel_rfl) rfl
    (fun f fn hf hfn => by
      obtain rfl : f = 3 := Option.some.inj ((show Tryd.prog.funcNamed "loop.example/g00562/laws.FnNums" = some 3 by kernel_rfl).symm.trans hf) |>.symm
      obtain rfl : fn = Tryd.f3 := (Option.some.inj (Tryd.func3.symm.trans hfn)).symm
      exact ⟨by kernel_rfl, fun j t ht => by
        rw [Tryd.params3] at ht
        have hm : t ∈ [22, 22] := by simpa using Array.mem_of_getElem? ht
        have hall : ([22, 22].all fun u => !Tryd.prog.wantsStandIn u) = true := by kernel_rfl
        exact (show Tryd.prog.wantsStandIn t = false by simpa using List.all_eq_true.1 hall t hm)⟩)
    (by kernel_rfl)

end FnNumsL
/-- THE STATEMENT: THE CARD -/
theorem fnNums_holds : Rows.FnNumsCardSaid := FnNumsL.card_holds
#print axioms fnNums_holds
end Go.Proofs.YthfcdfeomekkeaaDoor
