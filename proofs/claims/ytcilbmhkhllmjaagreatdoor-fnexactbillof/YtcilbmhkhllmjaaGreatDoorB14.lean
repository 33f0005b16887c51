/-
  What the program calls a right window. The conditions: texts of at most 1048576 bytes, lists of at most 1048576; the program's table stands in its variable.
  What the program calls a window's right tags. The conditions: texts of at most 1048576 bytes, lists of at most 1048576.
  What the program calls a window's right hours. The conditions: lists of at most 1048576; the sum is one that may be; the program's table stands in its variable.
-/
import Derived.Test.YtcilbmhkhllmjaaGreatDoorB13
namespace Go.Proofs.YtcilbmhkhllmjaaGreatDoor
open Go.ChangeShapes Go.WideShapes Go.ChangeAt Go.RowKit
set_option linter.unusedVariables false
namespace WinR
open RowG LtR
open CatR (Blk Blk.new)
open DateR (Laid)
theorem withinI (n low high : Int) (w : World) :
    Calls Tryz.prog 182 #[.int .i64 n, .int .i64 low, .int .i64 high] w fun e w' => e = .returned (.bool (decide (low ≤ n ∧ n ≤ high))) ∧ w' = w := by
  rcases (show (¬ low ≤ n) ∨ (low ≤ n ∧ ¬ n ≤ high) ∨ (low ≤ n ∧ n ≤ high) by omega) with h | ⟨h1, h2⟩ | ⟨h1, h2⟩
  all_goals
    go_enter Tryz.func182, Tryz.ntmps182
    go_wp2
    go_ret
    exact ⟨ret_bool (by first | (simp [*]; done) | (simp; omega)), rfl⟩
theorem three (b1 b2 b3 : Bool) : (b1 = false) ∨ (b1 = true ∧ b2 = false) ∨ (b1 = true ∧ b2 = true ∧ b3 = false) ∨ (b1 = true ∧ b2 = true ∧ b3 = true) := by
  cases b1 <;> cases b2 <;> cases b3 <;> simp
theorem four (b1 b2 b3 b4 : Bool) : (b1 = false) ∨ (b1 = true ∧ b2 = false) ∨ (b1 = true ∧ b2 = true ∧ b3 = false) ∨ (b1 = true ∧ b2 = true ∧ b3 = true ∧ b4 = false) ∨ (b1 = true ∧ b2 = true ∧ b3 = true ∧ b4 = true) := by
  cases b1 <;> cases b2 <;> cases b3 <;> cases b4 <;> simp
theorem isMonth_any (n : Int) (w : World) : Calls Tryz.prog 187 #[.int .i64 n] w fun e w' => e = .returned (.bool (decide (0 ≤ n ∧ n ≤ 2760))) ∧ w' = w := by
  have H := EvtR.within_any n 0 2760
  generalize decide (0 ≤ n ∧ n ≤ 2760) = b at *
  go_enter Tryz.func187, Tryz.ntmps187
  go_wp2_with (go_at_call 66; refine (H _).mono ?_; rintro e w' ⟨rfl, rfl⟩)
  go_ret
  exact ⟨rfl, rfl⟩
set_option maxHeartbeats 4000000 in
theorem impl_named (a m : ByteArray) (mo : Int) (w : World) (ha : a.size ≤ 1048576) (hm : m.size ≤ 1048576) :
    Calls Tryz.prog 147 #[.agg #[.string a, .string m, .int .i64 mo]] w fun e w' => e = .returned (.bool (namedB a m mo)) ∧ Below w.heap.size w w' := by
  unfold namedB
  have H1 := hid_intro (fun w => NameR.impl_any a w ha)
  have H2 := hid_intro (fun w => NameR.impl_any m w hm)
  have H3 := hid_intro (fun w => isMonth_any mo w)
  have HB : Hid (Below w.heap.size w (w.alloc (.cells #[.string a, .string m, .int .i64 mo] 174))) := hid_intro ((Below.refl _ _).alloc (Nat.le_refl _) _)
  have HX : Hid (∀ W, W = w.alloc (.cells #[.string a, .string m, .int .i64 mo] 174) → W.cell? ⟨w.heap.size, 0, none⟩ = some (.string a) ∧ W.cell? ⟨w.heap.size, 1, none⟩ = some (.string m) ∧ W.cell? ⟨w.heap.size, 2, none⟩ = some (.int .i64 mo)) := hid_intro (fun W h => by subst h; simp [go_sem])
  generalize NameR.nameB a = b1 at *
  generalize NameR.nameB m = b2 at *
  generalize decide (0 ≤ mo ∧ mo ≤ 2760) = b3 at *
  rcases three b1 b2 b3 with rfl | ⟨rfl, rfl⟩ | ⟨rfl, rfl, rfl⟩ | ⟨rfl, rfl, rfl⟩
  · go_enter Tryz.func147, Tryz.ntmps147
    go_wp2_with fail
    refine (H1.out _).mono ?_
    rintro e w1 ⟨rfl, rfl⟩
    go_wp2_with fail
    go_ret
    exact ⟨rfl, HB.out⟩
  · go_enter Tryz.func147, Tryz.ntmps147
    go_wp2_with fail
    refine (H1.out _).mono ?_
    rintro e w1 ⟨rfl, rfl⟩
    go_wp2_with fail
    refine (H2.out _).mono ?_
    rintro e w1 ⟨rfl, rfl⟩
    go_wp2_with fail
    go_ret
    exact ⟨rfl, HB.out⟩
  · go_enter Tryz.func147, Tryz.ntmps147
    go_wp2_with fail
    refine (H1.out _).mono ?_
    rintro e w1 ⟨rfl, rfl⟩
    go_wp2_with fail
    refine (H2.out _).mono ?_
    rintro e w1 ⟨rfl, rfl⟩
    go_wp2_with fail
    refine (H3.out _).mono ?_
    rintro e w1 ⟨rfl, rfl⟩
    go_wp2_with fail
    go_ret
    exact ⟨rfl, HB.out⟩
  · go_enter Tryz.func147, Tryz.ntmps147
    go_wp2_with fail
    refine (H1.out _).mono ?_
    rintro e w1 ⟨rfl, rfl⟩
    go_wp2_with fail
    refine (H2.out _).mono ?_
    rintro e w1 ⟨rfl, rfl⟩
    go_wp2_with fail
    refine (H3.out _).mono ?_
    rintro e w1 ⟨rfl, rfl⟩
    go_wp2_with fail
    go_ret
    exact ⟨rfl, HB.out⟩
set_option maxHeartbeats 4000000 in
theorem impl_counted (ev su mx : Int) (w : World) :
    Calls Tryz.prog 148 #[.agg #[.int .i64 ev, .int .i64 su, .int .i64 mx]] w fun e w' => e = .returned (.bool (countedB ev su mx)) ∧ Below w.heap.size w w' := by
  unfold countedB
  have H1 := hid_intro (fun w => EvtR.within_any ev 1 1000 w)
  have H2 := hid_intro (fun w => EvtR.within_any su 0 1000000000000 w)
  have H3 := hid_intro (fun w => EvtR.within_any mx 0 su w)
  have HB : Hid (Below w.heap.size w (w.alloc (.cells #[.int .i64 ev, .int .i64 su, .int .i64 mx] 176))) := hid_intro ((Below.refl _ _).alloc (Nat.le_refl _) _)
  generalize decide (1 ≤ ev ∧ ev ≤ 1000) = b1 at *
  generalize decide (0 ≤ su ∧ su ≤ 1000000000000) = b2 at *
  generalize decide (0 ≤ mx ∧ mx ≤ su) = b3 at *
  rcases three b1 b2 b3 with rfl | ⟨rfl, rfl⟩ | ⟨rfl, rfl, rfl⟩ | ⟨rfl, rfl, rfl⟩
  · go_enter Tryz.func148, Tryz.ntmps148
    go_wp2_with fail
    refine (H1.out _).mono ?_
    rintro e w1 ⟨rfl, rfl⟩
    go_wp2_with fail
    go_ret
    exact ⟨rfl, HB.out⟩
  · go_enter Tryz.func148, Tryz.ntmps148
    go_wp2_with fail
    refine (H1.out _).mono ?_
    rintro e w1 ⟨rfl, rfl⟩
    go_wp2_with fail
    refine (H2.out _).mono ?_
    rintro e w1 ⟨rfl, rfl⟩
    go_wp2_with fail
    go_ret
    exact ⟨rfl, HB.out⟩
  · go_enter Tryz.func148, Tryz.ntmps148
    go_wp2_with fail
    refine (H1.out _).mono ?_
    rintro e w1 ⟨rfl, rfl⟩
    go_wp2_with fail
    refine (H2.out _).mono ?_
    rintro e w1 ⟨rfl, rfl⟩
    go_wp2_with fail
    refine (H3.out _).mono ?_
    rintro e w1 ⟨rfl, rfl⟩
    go_wp2_with fail
    go_ret
    exact ⟨rfl, HB.out⟩
  · go_enter Tryz.func148, Tryz.ntmps148
    go_wp2_with fail
    refine (H1.out _).mono ?_
    rintro e w1 ⟨rfl, rfl⟩
    go_wp2_with fail
    refine (H2.out _).mono ?_
    rintro e w1 ⟨rfl, rfl⟩
    go_wp2_with fail
    refine (H3.out _).mono ?_
    rintro e w1 ⟨rfl, rfl⟩
    go_wp2_with fail
    go_ret
    exact ⟨rfl, HB.out⟩
end WinR
end Go.Proofs.YtcilbmhkhllmjaaGreatDoor
namespace Go.Proofs.YtcilbmhkhllmjaaGreatDoor
open Go.ChangeShapes Go.WideShapes Go.ChangeAt Go.RowKit
set_option linter.unusedVariables false
namespace WinR
open RowG LtR
open CatR (Blk Blk.new)
open DateR (Laid)
set_option maxRecDepth 100000 in
set_option maxHeartbeats 4000000 in
theorem impl_tagged (a m : ByteArray) (mo ev su mx : Int) (ts : List ByteArray) (ta : Option Addr) (tc : Nat) (hv : Value) (w : World) (hlen : ts.length ≤ 1048576) (hS : ∀ t ∈ ts, t.size ≤ 1048576) (hI : Tgs ta ts w) :
    Calls Tryz.prog 149 #[.agg #[.string a, .string m, .int .i64 mo, .int .i64 ev, .int .i64 su, .int .i64 mx, .slice ta ts.length tc, .func (.func 183) #[] #[], .func (.func 184) #[] #[], hv, .func (.func 185) #[] #[], .func (.func 186) #[] #[]]] w fun e w' => e = .returned (.bool (tagsB ts)) ∧ Below w.heap.size w w' := by
  have HI := hid_intro hI
  have HS := hid_intro hS
  have HLO := hid_intro (tags_long (ts := ts))
  have HRI := hid_intro (tags_rise (ts := ts))
  have HEN := hid_intro (tags_end (ts := ts))
  have HC := hid_intro (fun W (hW : Below w.heap.size w W) => tags_rises ta tc ts W hlen (hI.below hW))
  generalize tagsB ts = R at *
  generalize riseB lt tz ts = r at *
  obtain ⟨len, hl⟩ : ∃ len, len = ts.length := ⟨_, rfl⟩
  rw [← hl] at hlen HLO HEN HC ⊢
  have HL := hid_intro hl
  clear hI hl hS
  have HB0 : Hid (Below w.heap.size w (w.alloc (.cells #[.string a, .string m, .int .i64 mo, .int .i64 ev, .int .i64 su, .int .i64 mx, .slice ta len tc, .func (.func 183) #[] #[], .func (.func 184) #[] #[], hv, .func (.func 185) #[] #[], .func (.func 186) #[] #[]] 185))) := hid_intro ((Below.refl _ _).alloc (Nat.le_refl _) _)
  have HX0 := hid_intro (Blk.new w [.string a, .string m, .int .i64 mo, .int .i64 ev, .int .i64 su, .int .i64 mx, .slice ta len tc, .func (.func 183) #[] #[], .func (.func 184) #[] #[], hv, .func (.func 185) #[] #[], .func (.func 186) #[] #[]] 185)
  by_cases h12 : 12 < len
  · have h12' : (12 : Int) < (len : Int) := by omega
    have HF := hid_intro (HLO.out h12)
    clear HX0 HC HRI HEN HLO
    go_enter Tryz.func149, Tryz.ntmps149
    go_wp2_with fail
    go_ret
    exact ⟨ret_bool HF.out.symm, HB0.out⟩
  · have h12' : ¬ (12 : Int) < (len : Int) := by omega
    cases r
    · have HF := hid_intro (HRI.out rfl)
      clear HX0 HRI HEN HLO
      go_enter Tryz.func149, Tryz.ntmps149
      go_wp2_with fail
      refine (HC.out _ HB0.out).mono ?_
      rintro e w1 ⟨rfl, hb1⟩
      have HB1 := hid_intro (HB0.out.trans (hb1.mono HB0.out.size))
      clear hb1
      go_wp2_with fail
      go_ret
      exact ⟨ret_bool HF.out.symm, HB1.out⟩
    · have HE := hid_intro (HEN.out (by omega) rfl)
      clear HRI HEN HLO
      go_enter Tryz.func149, Tryz.ntmps149
      go_wp2_with fail
      refine (HC.out _ HB0.out).mono ?_
      rintro e w1 ⟨rfl, hb1⟩
      have HB1 := hid_intro (HB0.out.trans (hb1.mono HB0.out.size))
      have HX1 := hid_intro (HX0.out.below hb1)
      clear hb1 HB0 HX0
      obtain ⟨xl, xc⟩ := HX1.out
      have x6 : w1.cell? ⟨w.heap.size, 6, none⟩ = some (.slice ta len tc) := xc 6 (by simp)
      clear xc
      go_wp2_with fail
      go_loopw [20] (fun z wr => ∃ k : Nat, k ≤ len ∧ z = .int .i64 k ∧ Hid ((ts.take k).all tagOk = true) ∧ Hid (Below w.heap.size w wr)) (fun z _ => len - (intOf z).toNat)
      case atStart => exact ⟨0, by omega, rfl, hid_intro (by simp), HB1⟩
      case round =>
        obtain ⟨k, hk, rfl, HK, HB⟩ := hrel
        by_cases hlt : k < len
        · have hlt2 : (k : Int) < (len : Int) := by omega
          have hkl : k < ts.length := by have := HL.out; omega
          obtain ⟨b, off, rfl, hbl, c0⟩ := (HI.out.below HB.out).at k hkl
          have hsz := HS.out _ (getD_mem (z := tz) ts k hkl)
          have HT := hid_intro (fun w => EvtR.impl_tag (ts.getD k tz) w hsz)
          have HNO := hid_intro (fun h => all_no (z := tz) (xs := ts) tagOk hkl h)
          have HGO : Hid (tagOk (ts.getD k tz) = true → (ts.take (k + 1)).all tagOk = true) := hid_intro (fun h => by rw [all_take (z := tz) _ k hkl, HK.out, h]; rfl)
          have HTO : Hid (tagOk (ts.getD k tz) = (decide (1 ≤ (ts.getD k tz).size) && EvtR.tagB (ts.getD k tz))) := rfl
          generalize tagOk (ts.getD k tz) = q at *
          generalize ts.getD k tz = X at *
          by_cases hi : X.size = 0
          · have he := EvtR.empty_of X hi
            have HF : Hid (R = false) := hid_intro (by rw [HE.out]; exact HNO.out (by rw [HTO.out, decide_eq_false (by omega), Bool.false_and]))
            go_wp2_with fail
            go_ret
            exact ⟨ret_bool HF.out.symm, HB.out⟩
          · obtain ⟨he, he2⟩ := EvtR.full_of X hi
            have HTO2 : Hid (q = EvtR.tagB X) := hid_intro (by rw [HTO.out, decide_eq_true (by omega), Bool.true_and])
            generalize EvtR.tagB X = g at *
            cases g
            · have HF : Hid (R = false) := hid_intro (by rw [HE.out]; exact HNO.out HTO2.out)
              go_wp2_with fail
              refine (HT.out _).mono ?_
              rintro e w2 ⟨rfl, hb2⟩
              have HB2 := hid_intro (HB.out.trans (hb2.mono HB.out.size))
              clear hb2 c0
              go_wp2_with fail
              go_ret
              exact ⟨ret_bool HF.out.symm, HB2.out⟩
            · have HG := hid_intro (HGO.out HTO2.out)
              go_wp2_with fail
              refine (HT.out _).mono ?_
              rintro e w2 ⟨rfl, hb2⟩
              have HB2 := hid_intro (HB.out.trans (hb2.mono HB.out.size))
              clear hb2 c0
              go_wp2_with fail
              go_roundw
              case rel => exact ⟨k + 1, by omega, by go_num, HG, HB2⟩
              case measure => simp [intOf]; omega
        · have hlt2 : ¬ (k : Int) < (len : Int) := by omega
          obtain rfl : k = len := by omega
          have HF : Hid (R = true) := hid_intro (by
            rw [HE.out]
            have h := HK.out
            rwa [List.take_of_length_le (by have := HL.out; omega)] at h)
          go_wp2_with fail
          go_ret
          exact ⟨ret_bool HF.out.symm, HB.out⟩
end WinR
end Go.Proofs.YtcilbmhkhllmjaaGreatDoor
namespace Go.Proofs.YtcilbmhkhllmjaaGreatDoor
open Go.ChangeShapes Go.WideShapes Go.ChangeAt Go.RowKit
set_option linter.unusedVariables false
namespace WinR
open RowG LtR
open CatR (Blk Blk.new)
open DateR (Laid)
theorem timed_few {hs : List H} {mo su : Int} (h : ¬ (1 ≤ hs.length ∧ hs.length ≤ 12)) : timedB hs mo su = false := by unfold timedB; rw [decide_eq_false h, Bool.false_and]
theorem timed_in {hs : List H} {mo su : Int} (h : 1 ≤ hs.length ∧ hs.length ≤ 12) : timedB hs mo su = hoursB hs mo su := by unfold timedB; rw [decide_eq_true h, Bool.true_and]
set_option maxRecDepth 100000 in
set_option maxHeartbeats 8000000 in
theorem impl_timed (a m : ByteArray) (mo ev su mx : Int) (hs : List H) (tv : Value) (ha : Option Addr) (hc : Nat) (w : World) (hlen : hs.length ≤ 1048576) (hsu : 0 ≤ su ∧ su ≤ 1000000000000) (hL : Laid w) (hI : Hrs ha hs w) :
    Calls Tryz.prog 150 #[.agg #[.string a, .string m, .int .i64 mo, .int .i64 ev, .int .i64 su, .int .i64 mx, tv, .func (.func 183) #[] #[], .func (.func 184) #[] #[], .slice ha hs.length hc, .func (.func 185) #[] #[], .func (.func 186) #[] #[]]] w fun e w' => e = .returned (.bool (timedB hs mo su)) ∧ Below w.heap.size w w' := by
  have HI := hid_intro hI
  have HLA := hid_intro hL
  have HFEW := hid_intro (timed_few (hs := hs) (mo := mo) (su := su))
  have HIN := hid_intro (timed_in (hs := hs) (mo := mo) (su := su))
  have HRI := hid_intro (hours_rise (hs := hs) (mo := mo) (su := su))
  have HEN := hid_intro (hours_end (hs := hs) (mo := mo) (su := su))
  have HNO := hid_intro (fun k => hours_no (hs := hs) (mo := mo) (su := su) (k := k))
  have HC := hid_intro (fun W (hW : Below w.heap.size w W) => hours_rises ha hc hs W hlen (hI.below hW))
  have HWI := hid_intro (fun w => withinI hs.length 1 12 w)
  generalize timedB hs mo su = R at *
  generalize hoursB hs mo su = Q at *
  generalize riseB hlt H.zero hs = r at *
  obtain ⟨len, hl⟩ : ∃ len, len = hs.length := ⟨_, rfl⟩
  rw [← hl] at hlen HFEW HIN HC HWI ⊢
  have HL := hid_intro hl
  obtain ⟨hs0, hs1⟩ := hsu
  clear hI hl hL
  have HB0 : Hid (Below w.heap.size w (w.alloc (.cells #[.string a, .string m, .int .i64 mo, .int .i64 ev, .int .i64 su, .int .i64 mx, tv, .func (.func 183) #[] #[], .func (.func 184) #[] #[], .slice ha len hc, .func (.func 185) #[] #[], .func (.func 186) #[] #[]] 185))) := hid_intro ((Below.refl _ _).alloc (Nat.le_refl _) _)
  have HX0 := hid_intro (Blk.new w [.string a, .string m, .int .i64 mo, .int .i64 ev, .int .i64 su, .int .i64 mx, tv, .func (.func 183) #[] #[], .func (.func 184) #[] #[], .slice ha len hc, .func (.func 185) #[] #[], .func (.func 186) #[] #[]] 185)
  by_cases h12 : 1 ≤ len ∧ len ≤ 12
  · rw [decide_eq_true (show (1 : Int) ≤ (len : Int) ∧ (len : Int) ≤ 12 by omega)] at HWI
    have HRQ := hid_intro (HIN.out h12)
    cases r
    · have HF : Hid (R = false) := hid_intro (by rw [HRQ.out]; exact HRI.out rfl)
      clear HX0 HRI HEN HNO HFEW HIN
      go_enter Tryz.func150, Tryz.ntmps150
      go_wp2_with fail
      refine (HWI.out _).mono ?_
      rintro e w1 ⟨rfl, rfl⟩
      go_wp2_with fail
      refine (HC.out _ HB0.out).mono ?_
      rintro e w2 ⟨rfl, hb1⟩
      have HB1 := hid_intro (HB0.out.trans (hb1.mono HB0.out.size))
      clear hb1
      go_wp2_with fail
      go_ret
      exact ⟨ret_bool HF.out.symm, HB1.out⟩
    · have HE := hid_intro (HEN.out rfl)
      clear HRI HEN HFEW HIN
      go_enter Tryz.func150, Tryz.ntmps150
      go_wp2_with fail
      refine (HWI.out _).mono ?_
      rintro e w1 ⟨rfl, rfl⟩
      go_wp2_with fail
      refine (HC.out _ HB0.out).mono ?_
      rintro e w2 ⟨rfl, hb1⟩
      have HB1 := hid_intro (HB0.out.trans (hb1.mono HB0.out.size))
      have HX1 := hid_intro (HX0.out.below hb1)
      clear hb1 HB0 HX0
      obtain ⟨xl, xc⟩ := HX1.out
      have x2 : w2.cell? ⟨w.heap.size, 2, none⟩ = some (.int .i64 mo) := xc 2 (by simp)
      have x4 : w2.cell? ⟨w.heap.size, 4, none⟩ = some (.int .i64 su) := xc 4 (by simp)
      have x9 : w2.cell? ⟨w.heap.size, 9, none⟩ = some (.slice ha len hc) := xc 9 (by simp)
      clear xc
      go_wp2_with fail
      go_loopw [3, 25] (fun y z wr => ∃ k : Nat, k ≤ len ∧ y = .int .i64 (su - hsum (hs.take k)) ∧ z = .int .i64 k ∧ Hid (HUp hs mo su k) ∧ Hid (Below w.heap.size w wr) ∧ Hid (w.heap.size < wr.heap.size ∧ wr.cell? ⟨w.heap.size, 2, none⟩ = some (.int .i64 mo))) (fun y z _ => len - (intOf z).toNat)
      case atStart => exact ⟨0, by omega, by simp [hsum], rfl, hid_intro (HUp.zero _ _ _), HB1, hid_intro ⟨xl, x2⟩⟩
      case round =>
        obtain ⟨k, hk, rfl, rfl, HK, HB, HX⟩ := hrel
        clear x2 x4 x9 xl
        obtain ⟨xl, x2⟩ := HX.out
        by_cases hlt1 : k < len
        · have hlt2 : (k : Int) < (len : Int) := by omega
          have hkl : k < hs.length := by have := HL.out; omega
          obtain ⟨b, off, rfl, hbl, c0, c1⟩ := (HI.out.below HB.out).at k hkl
          have HN := hid_intro (HNO.out k hkl)
          have HM := hid_intro (fun h1 h2 h3 => HK.out.more h1 h2 h3)
          have HST := hid_intro (hsum_take hs k hkl)
          have HSN := hid_intro (HK.out.nn (by omega))
          have HHO := hid_intro (fun W hW => impl_hour_of (hs.getD k H.zero).h mo W hW)
          have HWS := hid_intro (fun w => EvtR.within_any (hs.getD k H.zero).s 0 (su - hsum (hs.take k)) w)
          have hq0 : 0 ≤ su - hsum (hs.take k) ∨ su - hsum (hs.take k) < 0 := by omega
          have hq1 : su - hsum (hs.take k) ≤ 1000000000000 := by have := HSN.out; omega
          generalize hourIn (hs.getD k H.zero).h mo = g at *
          generalize hs.getD k H.zero = X at *
          obtain ⟨xh, xs⟩ := X
          dsimp only at c0 c1 HHO HWS HM HN HST
          generalize hT : hsum (hs.take k) = T at *
          have HLA2 := hid_intro ((HLA.out.below HB.out).below ((Below.refl wr.heap.size wr).alloc (Nat.le_refl _) (Obj.cells #[.int .i64 xh, .int .i64 xs] 149)))
          have HBX := hid_intro (HB.out.alloc HB.out.size (Obj.cells #[.int .i64 xh, .int .i64 xs] 149))
          have HZ := hid_intro (Blk.new wr [.int .i64 xh, .int .i64 xs] 149)
          cases g
          · have HF : Hid (R = false) := hid_intro (by rw [HRQ.out]; exact HN.out (fun h => by cases h.1))
            go_wp2_with fail
            refine (HHO.out _ HLA2.out).mono ?_
            rintro e w3 ⟨rfl, hb3⟩
            have HB3 := hid_intro (HBX.out.trans (hb3.mono HBX.out.size))
            clear hb3
            go_wp2_with fail
            go_ret
            exact ⟨ret_bool HF.out.symm, HB3.out⟩
          · go_wp2_with fail
            refine (HHO.out _ HLA2.out).mono ?_
            rintro e w3 ⟨rfl, hb3⟩
            have HB3 := hid_intro (HBX.out.trans (hb3.mono HBX.out.size))
            have HZ3 := hid_intro (HZ.out.below hb3)
            have HX3 : Hid (w.heap.size < w3.heap.size ∧ w3.cell? ⟨w.heap.size, 2, none⟩ = some (.int .i64 mo)) := hid_intro (by
              have hc := hb3.cell (p := ⟨w.heap.size, 2, none⟩) (by simp; omega)
              have := hb3.size
              simp at this
              exact ⟨by omega, (hc.trans (((Below.refl wr.heap.size wr).alloc (Nat.le_refl _) _).cell (p := ⟨w.heap.size, 2, none⟩) xl)).trans x2⟩)
            clear hb3 HZ HBX
            obtain ⟨zl, zc⟩ := HZ3.out
            have z1 : w3.cell? ⟨wr.heap.size, 1, none⟩ = some (.int .i64 xs) := zc 1 (by simp)
            clear zc c0 c1 x2
            by_cases hin : 0 ≤ xs ∧ xs ≤ su - T
            · rw [decide_eq_true hin] at HWS
              have HM2 := hid_intro (HM.out (by first | rfl | trivial) hin.1 hin.2)
              obtain ⟨hin1, hin2⟩ := hin
              go_wp2_with fail
              refine (HWS.out _).mono ?_
              rintro e w4 ⟨rfl, rfl⟩
              go_wp2_with fail
              go_roundw
              case rel => exact ⟨k + 1, by omega, by rw [HST.out]; congr 1; omega, by go_num, HM2, HB3, HX3⟩
              case measure => simp [intOf]; omega
            · rw [decide_eq_false hin] at HWS
              have HF : Hid (R = false) := hid_intro (by rw [HRQ.out]; exact HN.out (fun h => hin h.2))
              go_wp2_with fail
              refine (HWS.out _).mono ?_
              rintro e w4 ⟨rfl, rfl⟩
              go_wp2_with fail
              go_ret
              exact ⟨ret_bool HF.out.symm, HB3.out⟩
        · have hlt2 : ¬ (k : Int) < (len : Int) := by omega
          obtain rfl : k = len := by omega
          have HF : Hid (R = decide (su - hsum (hs.take k) = 0)) := hid_intro (by
            rw [HRQ.out, HE.out (by rw [← HL.out]; exact HK.out), List.take_of_length_le (by have := HL.out; omega)])
          generalize hsum (hs.take k) = T at *
          by_cases hz : su - T = 0
          · rw [decide_eq_true hz] at HF
            go_wp2_with fail
            go_ret
            exact ⟨ret_bool (by rw [HF.out]; try simp [hz]), HB.out⟩
          · rw [decide_eq_false hz] at HF
            go_wp2_with fail
            go_ret
            exact ⟨ret_bool (by rw [HF.out]; try simp [hz]), HB.out⟩
  · rw [decide_eq_false (show ¬ ((1 : Int) ≤ (len : Int) ∧ (len : Int) ≤ 12) by omega)] at HWI
    have HF := hid_intro (HFEW.out h12)
    clear HX0 HC HRI HEN HNO HFEW HIN
    go_enter Tryz.func150, Tryz.ntmps150
    go_wp2_with fail
    refine (HWI.out _).mono ?_
    rintro e w1 ⟨rfl, rfl⟩
    go_wp2_with fail
    go_ret
    exact ⟨ret_bool HF.out.symm, HB0.out⟩
end WinR
end Go.Proofs.YtcilbmhkhllmjaaGreatDoor
