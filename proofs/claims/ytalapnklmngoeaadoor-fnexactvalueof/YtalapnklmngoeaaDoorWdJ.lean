/-
  What the program calls a window's right tags. The conditions: texts of at most 1048576 bytes, lists of at most 1048576.
-/
import Derived.Test.YtalapnklmngoeaaDoorWdI
namespace Go.Proofs.YtalapnklmngoeaaDoor
open Go.ChangeShapes Go.WideShapes Go.ChangeAt Go.RowKit
set_option linter.unusedVariables false
namespace WinR
open RowG LtR
open CatR (Blk Blk.new)
open DateR (Laid)
set_option maxRecDepth 100000 in
set_option maxHeartbeats 4000000 in
theorem impl_tagged (a m : ByteArray) (mo ev su mx : Int) (ts : List ByteArray) (ta : Option Addr) (tc : Nat) (hv : Value) (w : World) (hlen : ts.length ≤ 1048576) (hS : ∀ t ∈ ts, t.size ≤ 1048576) (hI : Tgs ta ts w) :
    Calls Tryd.prog 39 #[.agg #[.string a, .string m, .int .i64 mo, .int .i64 ev, .int .i64 su, .int .i64 mx, .slice ta ts.length tc, .func (.func 42) #[] #[], .func (.func 43) #[] #[], hv, .func (.func 44) #[] #[], .func (.func 45) #[] #[]]] w fun e w' => e = .returned (.bool (tagsB ts)) ∧ Below w.heap.size w w' := by
  have HI := hid_intro hI
  have HS := hid_intro hS
  have HLO := hid_intro (tags_long (ts := ts))
  have HRI := hid_intro (tags_rise (ts := ts))
  have HEN := hid_intro (tags_end (ts := ts))
  have HC := hid_intro (fun W (hW : Below w.heap.size w W) => tags_rises ta tc ts W hlen (hI.below hW))
  generalize tagsB ts = R at *
  generalize riseB lt tz ts = r at *
  obtain ⟨len, hl⟩ : ∃ len, len = ts.length := ⟨_, rfl⟩
  rw [← hl] at hlen HLO HEN HC ⊢
  have HL := hid_intro hl
  clear hI hl hS
  have HB0 : Hid (Below w.heap.size w (w.alloc (.cells #[.string a, .string m, .int .i64 mo, .int .i64 ev, .int .i64 su, .int .i64 mx, .slice ta len tc, .func (.func 42) #[] #[], .func (.func 43) #[] #[], hv, .func (.func 44) #[] #[], .func (.func 45) #[] #[]] 69))) := hid_intro ((Below.refl _ _).alloc (Nat.le_refl _) _)
  have HX0 := hid_intro (Blk.new w [.string a, .string m, .int .i64 mo, .int .i64 ev, .int .i64 su, .int .i64 mx, .slice ta len tc, .func (.func 42) #[] #[], .func (.func 43) #[] #[], hv, .func (.func 44) #[] #[], .func (.func 45) #[] #[]] 69)
  by_cases h12 : 12 < len
  · have h12' : (12 : Int) < (len : Int) := by omega
    have HF := hid_intro (HLO.out h12)
    clear HX0 HC HRI HEN HLO
    go_enter Tryd.func39, Tryd.ntmps39
    go_wp2_with fail
    go_ret
    exact ⟨ret_bool HF.out.symm, HB0.out⟩
  · have h12' : ¬ (12 : Int) < (len : Int) := by omega
    cases r
    · have HF := hid_intro (HRI.out rfl)
      clear HX0 HRI HEN HLO
      go_enter Tryd.func39, Tryd.ntmps39
      go_wp2_with fail
      refine (HC.out _ HB0.out).mono ?_
      rintro e w1 ⟨rfl, hb1⟩
      have HB1 := hid_intro (HB0.out.trans (hb1.mono HB0.out.size))
      clear hb1
      go_wp2_with fail
      go_ret
      exact ⟨ret_bool HF.out.symm, HB1.out⟩
    · have HE := hid_intro (HEN.out (by omega) rfl)
      clear HRI HEN HLO
      go_enter Tryd.func39, Tryd.ntmps39
      go_wp2_with fail
      refine (HC.out _ HB0.out).mono ?_
      rintro e w1 ⟨rfl, hb1⟩
      have HB1 := hid_intro (HB0.out.trans (hb1.mono HB0.out.size))
      have HX1 := hid_intro (HX0.out.below hb1)
      clear hb1 HB0 HX0
      obtain ⟨xl, xc⟩ := HX1.out
      have x6 : w1.cell? ⟨w.heap.size, 6, none⟩ = some (.slice ta len tc) := xc 6 (by simp)
      clear xc
      go_wp2_with fail
      go_loopw [20] (fun z wr => ∃ k : Nat, k ≤ len ∧ z = .int .i64 k ∧ Hid ((ts.take k).all tagOk = true) ∧ Hid (Below w.heap.size w wr)) (fun z _ => len - (intOf z).toNat)
      case atStart => exact ⟨0, by omega, rfl, hid_intro (by simp), HB1⟩
      case round =>
        obtain ⟨k, hk, rfl, HK, HB⟩ := hrel
        by_cases hlt : k < len
        · have hlt2 : (k : Int) < (len : Int) := by omega
          have hkl : k < ts.length := by have := HL.out; omega
          obtain ⟨b, off, rfl, hbl, c0⟩ := (HI.out.below HB.out).at k hkl
          have hsz := HS.out _ (getD_mem (z := tz) ts k hkl)
          have HT := hid_intro (fun w => EvtR.impl_tag (ts.getD k tz) w hsz)
          have HNO := hid_intro (fun h => all_no (z := tz) (xs := ts) tagOk hkl h)
          have HGO : Hid (tagOk (ts.getD k tz) = true → (ts.take (k + 1)).all tagOk = true) := hid_intro (fun h => by rw [all_take (z := tz) _ k hkl, HK.out, h]; rfl)
          have HTO : Hid (tagOk (ts.getD k tz) = (decide (1 ≤ (ts.getD k tz).size) && EvtR.tagB (ts.getD k tz))) := rfl
          generalize tagOk (ts.getD k tz) = q at *
          generalize ts.getD k tz = X at *
          by_cases hi : X.size = 0
          · have he := EvtR.empty_of X hi
            have HF : Hid (R = false) := hid_intro (by rw [HE.out]; exact HNO.out (by rw [HTO.out, decide_eq_false (by omega), Bool.false_and]))
            go_wp2_with fail
            go_ret
            exact ⟨ret_bool HF.out.symm, HB.out⟩
          · obtain ⟨he, he2⟩ := EvtR.full_of X hi
            have HTO2 : Hid (q = EvtR.tagB X) := hid_intro (by rw [HTO.out, decide_eq_true (by omega), Bool.true_and])
            generalize EvtR.tagB X = g at *
            cases g
            · have HF : Hid (R = false) := hid_intro (by rw [HE.out]; exact HNO.out HTO2.out)
              go_wp2_with fail
              refine (HT.out _).mono ?_
              rintro e w2 ⟨rfl, hb2⟩
              have HB2 := hid_intro (HB.out.trans (hb2.mono HB.out.size))
              clear hb2 c0
              go_wp2_with fail
              go_ret
              exact ⟨ret_bool HF.out.symm, HB2.out⟩
            · have HG := hid_intro (HGO.out HTO2.out)
              go_wp2_with fail
              refine (HT.out _).mono ?_
              rintro e w2 ⟨rfl, hb2⟩
              have HB2 := hid_intro (HB.out.trans (hb2.mono HB.out.size))
              clear hb2 c0
              go_wp2_with fail
              go_roundw
              case rel => exact ⟨k + 1, by omega, by go_num, HG, HB2⟩
              case measure => simp [intOf]; omega
        · have hlt2 : ¬ (k : Int) < (len : Int) := by omega
          obtain rfl : k = len := by omega
          have HF : Hid (R = true) := hid_intro (by
            rw [HE.out]
            have h := HK.out
            rwa [List.take_of_length_le (by have := HL.out; omega)] at h)
          go_wp2_with fail
          go_ret
          exact ⟨ret_bool HF.out.symm, HB.out⟩
end WinR
end Go.Proofs.YtalapnklmngoeaaDoor
