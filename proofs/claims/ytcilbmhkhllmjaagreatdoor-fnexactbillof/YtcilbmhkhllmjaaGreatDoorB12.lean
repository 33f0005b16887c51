/-
  What the model calls a window's right hours. The conditions: at most 12 hours; the sum is one that may be.
  What the model calls a right window. The conditions: texts of at most 1048576 bytes, at most 1048576 tags.
  What a window comes to as a number, on both sides. The conditions: texts of at most 1048576 bytes, lists of at most 1048576; the program's table stands in its variable.
-/
import Derived.Test.YtcilbmhkhllmjaaGreatDoorB11
namespace Go.Proofs.YtcilbmhkhllmjaaGreatDoor
open Go.ChangeShapes Go.WideShapes Go.ChangeAt Go.RowKit
set_option linter.unusedVariables false
namespace WinR
open RowG LtR
/-- What the round reads. -/
def SHt (w : World) (b o o' : Nat) (x y : H) (W : World) : Prop := Below w.heap.size w W ∧ b < W.heap.size ∧ W.cell? ⟨b, o, none⟩ = some (.int .i64 x.h) ∧ W.cell? ⟨b, o + 1, none⟩ = some (.int .i64 x.s) ∧ W.cell? ⟨b, o', none⟩ = some (.int .i64 y.h)
theorem SHt.below {w : World} {b o o' : Nat} {x y : H} {W W' : World} (h : SHt w b o o' x y W) (hb : Below W.heap.size W W') : SHt w b o o' x y W' := by
  obtain ⟨h0, h1, c0, c1, c2⟩ := h
  have c := fun o => hb.cell (p := ⟨b, o, none⟩) h1
  have := hb.size
  exact ⟨h0.trans (hb.mono h0.size), by omega, (c _).trans c0, (c _).trans c1, (c _).trans c2⟩
/-- What is told of an hour, the model's way: not in its limits, of another month, not rising, a sum that may not be. -/
theorem ok_far {mo su : Int} {x : H} (h : ¬ (0 ≤ x.h ∧ x.h ≤ 2016666)) : hOk mo su x = false := by unfold hOk; rw [hour_far h, Bool.false_and]
theorem ok_in {mo su : Int} {x : H} {v : Int} {k : Nat} (h1 : 0 ≤ x.h) (h2 : x.h ≤ 2016666) (hv : v = (k : Int)) (f1 : DateM.fd k ≤ 60 * x.h / 1440) (f2 : 60 * x.h / 1440 < DateM.fd (k + 1)) : hOk mo su x = (decide (v = mo) && decide (0 ≤ x.s ∧ x.s ≤ su)) := by
  unfold hOk
  rw [hour_month h1 h2 k hv f1 f2]
theorem is_any (n low high : Int) (w : World) :
    Calls Tryz.prog 69 #[.int .i64 n, .int .i64 low, .int .i64 high] w fun e w' => e = .returned (.bool (decide (low ≤ n ∧ n ≤ high))) ∧ Below w.heap.size w w' :=
  (EvtR.is_any n low high w).mono fun e w' ⟨h1, h2⟩ => by subst h2; exact ⟨h1, Below.refl _ _⟩
theorem is_lit (n low high : Int) (b : Bool) (hb : b = decide (low ≤ n ∧ n ≤ high)) (w : World) :
    Calls Tryz.prog 69 #[.int .i64 n, .int .i64 low, .int .i64 high] w fun e w' => e = .returned (.bool b) ∧ Below w.heap.size w w' := by
  rw [hb]; exact is_any n low high w
set_option maxRecDepth 100000 in
set_option maxHeartbeats 8000000 in
theorem spec_hours (ao : Option Addr) (cap : Nat) (hs : List H) (mo su : Int) (w : World) (hlen : hs.length ≤ 12) (hsu : 0 ≤ su ∧ su ≤ 1000000000000) (hI : Hrs ao hs w) :
    Calls Tryz.prog 80 #[.slice ao hs.length cap, .int .i64 mo, .int .i64 su] w fun e w' => e = .returned (.bool (hoursB hs mo su)) ∧ Below w.heap.size w w' := by
  have HI := hid_intro hI
  have HBA := hid_intro (fun k => hours_bad (hs := hs) (mo := mo) (su := su) (k := k))
  have HDO := hid_intro (hours_done (hs := hs) (mo := mo) (su := su))
  generalize hoursB hs mo su = R at *
  obtain ⟨len, hl⟩ : ∃ len, len = hs.length := ⟨_, rfl⟩
  rw [← hl] at hlen ⊢
  have HL := hid_intro hl
  obtain ⟨hs0, hs1⟩ := hsu
  clear hI hl
  go_enter Tryz.func80, Tryz.ntmps80
  go_wp2_with fail
  go_loopw [7, 8] (fun y z wr => ∃ k : Nat, k ≤ len ∧ y = .int .i64 (hsum (hs.take k)) ∧ z = .int .i64 k ∧ Hid (SUp hs mo su k) ∧ Hid (Below w.heap.size w wr)) (fun y z _ => len - (intOf z).toNat)
  case atStart => exact ⟨0, by omega, by simp [hsum], rfl, hid_intro (SUp.zero hs mo su), hid_intro (Below.refl _ _)⟩
  case round =>
    obtain ⟨k, hk, rfl, rfl, HK, HB⟩ := hrel
    by_cases hlt1 : k < len
    · have hlt2 : (k : Int) < (len : Int) := by omega
      have hkl : k < hs.length := by have := HL.out; omega
      have HSS := hid_intro (HK.out.sum hs0 (by omega))
      have hT0 : 0 ≤ hsum (hs.take k) := HSS.out.1
      have hT1 : hsum (hs.take k) ≤ 12000000000000 := by
        have h1 := HSS.out.2
        have h2 : su * (k : Int) ≤ 1000000000000 * 12 := Int.mul_le_mul hs1 (by omega) (by omega) (by omega)
        omega
      have HST := hid_intro (hsum_take hs k hkl)
      obtain ⟨b, off, rfl, hbl, c0, c1⟩ := (HI.out.below HB.out).at k hkl
      have HB1 := hid_intro (fun h => HBA.out k hkl (.inl h))
      have HB2 := hid_intro (fun h0 h => HBA.out k hkl (.inr ⟨h0, h⟩))
      have HM := hid_intro (fun h1 h2 => HK.out.more hkl h1 h2)
      generalize hsum (hs.take k) = T at *
      rcases (show k = 0 ∨ ∃ j, j + 1 = k from by rcases k with _ | j; exact .inl rfl; exact .inr ⟨j, rfl⟩) with rfl | ⟨j, hkj⟩
      · simp only [Nat.zero_mul, Nat.add_zero] at c0 c1
        generalize hs.getD 0 H.zero = X at *
        obtain ⟨xh, xs⟩ := X
        dsimp only at c0 c1 HST
        have d0 := c0
        obtain ⟨yh, hyh⟩ : ∃ yh, yh = xh := ⟨_, rfl⟩
        rw [← hyh] at d0
        obtain ⟨ys, hys⟩ : ∃ ys : Int, ys = 0 := ⟨_, rfl⟩
        clear hyh hys
        have HS0 : Hid (SHt w b (off) (off) ⟨xh, xs⟩ ⟨yh, ys⟩ wr) := hid_intro ⟨HB.out, hbl, c0, c1, d0⟩
        obtain ⟨S, hS⟩ : ∃ S : World → Prop, ∀ W, S W ↔ SHt w b (off) (off) ⟨xh, xs⟩ ⟨yh, ys⟩ W := ⟨_, fun _ => Iff.rfl⟩
        have HSC : Hid (∀ s : HW S, SHt w b (off) (off) ⟨xh, xs⟩ ⟨yh, ys⟩ s.w) := hid_intro (fun s => (hS _).1 s.h)
        have HSB : Hid (∀ (s : HW S) w', Below s.w.heap.size s.w w' → S w') := hid_intro (fun s w' hb => (hS _).2 ((HSC.out s).below hb))
        have HSD : Hid (S wr.drew) := hid_intro ((hS _).2 (HS0.out.below (Below.refl _ _).drew))
        have hne : Nonempty (HW S) := ⟨⟨_, HSD.out⟩⟩
        have f0 : ∀ s : HW S, s.w.cell? ⟨b, off, none⟩ = some (.int .i64 xh) := fun s => (HSC.out s).2.2.1
        have f1 : ∀ s : HW S, s.w.cell? ⟨b, off + 1, none⟩ = some (.int .i64 xs) := fun s => (HSC.out s).2.2.2.1
        clear hS
        rcases (show (¬ 0 ≤ xh) ∨ (0 ≤ xh ∧ ¬ xh ≤ 2016666) ∨ (0 ≤ xh ∧ xh ≤ 2016666) by omega) with p1 | ⟨p1, p2⟩ | ⟨p1, p2⟩
        · have HR : Hid (R = false) := hid_intro (HB1.out (ok_far (fun h => p1 h.1)))
          have HIs1 : Hid (false = decide (0 ≤ xh ∧ xh ≤ 2016666)) := hid_intro (decide_eq_false (by omega)).symm
          have HIs2 := HIs1
          go_wp2_with fail
          refine wp_region_hw S (by kernel_rfl) (by kernel_rfl) HSD.out ?_
          repeat (go_big_quiet_step ((rename_i s; first | (go_at_call 69; refine (is_lit _ _ _ _ (by first | exact HIs1.out | exact HIs2.out) _).mono ?_; rintro e w1 ⟨rfl, hb1⟩; exact ⟨rfl, ⟨w1, HSB.out s w1 hb1⟩, rfl⟩))))
          refine wpQuiet_nil ?_
          intro _ hw'
          obtain ⟨s, hw''⟩ := hw'
          subst hw''
          have HBF := hid_intro (HSC.out s).1
          go_wp2_with fail
          go_ret
          exact ⟨ret_bool HR.out.symm, HBF.out⟩
        · have HR : Hid (R = false) := hid_intro (HB1.out (ok_far (fun h => p2 h.2)))
          have HIs1 : Hid (false = decide (0 ≤ xh ∧ xh ≤ 2016666)) := hid_intro (decide_eq_false (by omega)).symm
          have HIs2 := HIs1
          go_wp2_with fail
          refine wp_region_hw S (by kernel_rfl) (by kernel_rfl) HSD.out ?_
          repeat (go_big_quiet_step ((rename_i s; first | (go_at_call 69; refine (is_lit _ _ _ _ (by first | exact HIs1.out | exact HIs2.out) _).mono ?_; rintro e w1 ⟨rfl, hb1⟩; exact ⟨rfl, ⟨w1, HSB.out s w1 hb1⟩, rfl⟩))))
          refine wpQuiet_nil ?_
          intro _ hw'
          obtain ⟨s, hw''⟩ := hw'
          subst hw''
          have HBF := hid_intro (HSC.out s).1
          go_wp2_with fail
          go_ret
          exact ⟨ret_bool HR.out.symm, HBF.out⟩
        · obtain ⟨K, K1, F1, F2, _, hms⟩ := month_two (60 * xh) (by omega) (by omega)
          have HMO := hid_intro hms
          have HOK := hid_intro (ok_in (mo := mo) (su := su) (x := ⟨xh, xs⟩) p1 p2 (v := (K : Int)) rfl F1 F2)
          generalize hn60 : 60 * xh = n at *
          clear hms F1 F2
          have HIs1 : Hid (true = decide (0 ≤ xh ∧ xh ≤ 2016666)) := hid_intro (decide_eq_true ⟨p1, p2⟩).symm
          by_cases hmo : (K : Int) = mo
          · rw [decide_eq_true hmo, Bool.true_and] at HOK
            have hmo2 : ((K : Int) != mo) = false := by simp [hmo]
            by_cases hin : 0 ≤ xs ∧ xs ≤ su
            · have HM2 := hid_intro (HM.out (by rw [HOK.out, decide_eq_true hin]) (fun h => absurd h (by omega)))
              have HIs2 : Hid (true = decide (0 ≤ xs ∧ xs ≤ su)) := hid_intro (decide_eq_true hin).symm
              obtain ⟨hin1, hin2⟩ := hin
              go_wp2_with fail
              refine wp_region_hw S (by kernel_rfl) (by kernel_rfl) HSD.out ?_
              repeat (go_big_quiet_step ((rename_i s; first | (go_at_call 69; refine (is_lit _ _ _ _ (by first | exact HIs1.out | exact HIs2.out) _).mono ?_; rintro e w1 ⟨rfl, hb1⟩; exact ⟨rfl, ⟨w1, HSB.out s w1 hb1⟩, rfl⟩) | (go_at_call 114; (try rw [hn60]); refine (HMO.out _).mono ?_; rintro e w1 ⟨rfl, hb1⟩; exact ⟨rfl, ⟨w1, HSB.out s w1 hb1⟩, rfl⟩))))
              refine wpQuiet_nil ?_
              intro _ hw'
              obtain ⟨s, hw''⟩ := hw'
              subst hw''
              have HBF := hid_intro (HSC.out s).1
              go_wp2_with fail
              go_roundw
              case rel => exact ⟨0 + 1, by omega, by rw [HST.out], by go_num, HM2, HBF⟩
              case measure => simp [intOf]; omega
            · have HR : Hid (R = false) := hid_intro (HB1.out (by rw [HOK.out, decide_eq_false hin]))
              have HIs2 : Hid (false = decide (0 ≤ xs ∧ xs ≤ su)) := hid_intro (decide_eq_false hin).symm
              go_wp2_with fail
              refine wp_region_hw S (by kernel_rfl) (by kernel_rfl) HSD.out ?_
              repeat (go_big_quiet_step ((rename_i s; first | (go_at_call 69; refine (is_lit _ _ _ _ (by first | exact HIs1.out | exact HIs2.out) _).mono ?_; rintro e w1 ⟨rfl, hb1⟩; exact ⟨rfl, ⟨w1, HSB.out s w1 hb1⟩, rfl⟩) | (go_at_call 114; (try rw [hn60]); refine (HMO.out _).mono ?_; rintro e w1 ⟨rfl, hb1⟩; exact ⟨rfl, ⟨w1, HSB.out s w1 hb1⟩, rfl⟩))))
              refine wpQuiet_nil ?_
              intro _ hw'
              obtain ⟨s, hw''⟩ := hw'
              subst hw''
              have HBF := hid_intro (HSC.out s).1
              go_wp2_with fail
              go_ret
              exact ⟨ret_bool HR.out.symm, HBF.out⟩
          · rw [decide_eq_false hmo, Bool.false_and] at HOK
            have HR : Hid (R = false) := hid_intro (HB1.out HOK.out)
            have hmo2 : ((K : Int) != mo) = true := by simp [hmo]
            have HIs2 := HIs1
            go_wp2_with fail
            refine wp_region_hw S (by kernel_rfl) (by kernel_rfl) HSD.out ?_
            repeat (go_big_quiet_step ((rename_i s; first | (go_at_call 69; refine (is_lit _ _ _ _ (by first | exact HIs1.out | exact HIs2.out) _).mono ?_; rintro e w1 ⟨rfl, hb1⟩; exact ⟨rfl, ⟨w1, HSB.out s w1 hb1⟩, rfl⟩) | (go_at_call 114; (try rw [hn60]); refine (HMO.out _).mono ?_; rintro e w1 ⟨rfl, hb1⟩; exact ⟨rfl, ⟨w1, HSB.out s w1 hb1⟩, rfl⟩))))
            refine wpQuiet_nil ?_
            intro _ hw'
            obtain ⟨s, hw''⟩ := hw'
            subst hw''
            have HBF := hid_intro (HSC.out s).1
            go_wp2_with fail
            go_ret
            exact ⟨ret_bool HR.out.symm, HBF.out⟩
      · obtain ⟨b', off', hbo, hbl', d0, _⟩ := (HI.out.below HB.out).at j (by omega)
        obtain ⟨rfl, rfl⟩ : b = b' ∧ off = off' := by simpa using hbo
        have hj1 : IntKind.i64.wrap ((k : Int) - 1) = (j : Int) := by rw [IntKind.wrap_i64]; omega
        have hj2 : 0 < k := by omega
        have hj3 : (j : Int) < (len : Int) := by omega
        rw [show k - 1 = j by omega] at HB2 HM
        clear hbl' hbo hkj
        generalize hs.getD k H.zero = X at *
        generalize hs.getD j H.zero = Y at *
        obtain ⟨xh, xs⟩ := X
        obtain ⟨yh, ys⟩ := Y
        dsimp only at c0 c1 d0 HST
        have HS0 : Hid (SHt w b (off + k * 2) (off + j * 2) ⟨xh, xs⟩ ⟨yh, ys⟩ wr) := hid_intro ⟨HB.out, hbl, c0, c1, d0⟩
        obtain ⟨S, hS⟩ : ∃ S : World → Prop, ∀ W, S W ↔ SHt w b (off + k * 2) (off + j * 2) ⟨xh, xs⟩ ⟨yh, ys⟩ W := ⟨_, fun _ => Iff.rfl⟩
        have HSC : Hid (∀ s : HW S, SHt w b (off + k * 2) (off + j * 2) ⟨xh, xs⟩ ⟨yh, ys⟩ s.w) := hid_intro (fun s => (hS _).1 s.h)
        have HSB : Hid (∀ (s : HW S) w', Below s.w.heap.size s.w w' → S w') := hid_intro (fun s w' hb => (hS _).2 ((HSC.out s).below hb))
        have HSD : Hid (S wr.drew) := hid_intro ((hS _).2 (HS0.out.below (Below.refl _ _).drew))
        have hne : Nonempty (HW S) := ⟨⟨_, HSD.out⟩⟩
        have f0 : ∀ s : HW S, s.w.cell? ⟨b, off + k * 2, none⟩ = some (.int .i64 xh) := fun s => (HSC.out s).2.2.1
        have f1 : ∀ s : HW S, s.w.cell? ⟨b, off + k * 2 + 1, none⟩ = some (.int .i64 xs) := fun s => (HSC.out s).2.2.2.1
        have f2 : ∀ s : HW S, s.w.cell? ⟨b, off + j * 2, none⟩ = some (.int .i64 yh) := fun s => (HSC.out s).2.2.2.2
        clear hS
        rcases (show (¬ 0 ≤ xh) ∨ (0 ≤ xh ∧ ¬ xh ≤ 2016666) ∨ (0 ≤ xh ∧ xh ≤ 2016666) by omega) with p1 | ⟨p1, p2⟩ | ⟨p1, p2⟩
        · have HR : Hid (R = false) := hid_intro (HB1.out (ok_far (fun h => p1 h.1)))
          have HIs1 : Hid (false = decide (0 ≤ xh ∧ xh ≤ 2016666)) := hid_intro (decide_eq_false (by omega)).symm
          have HIs2 := HIs1
          go_wp2_with fail
          refine wp_region_hw S (by kernel_rfl) (by kernel_rfl) HSD.out ?_
          repeat (go_big_quiet_step ((rename_i s; first | (go_at_call 69; refine (is_lit _ _ _ _ (by first | exact HIs1.out | exact HIs2.out) _).mono ?_; rintro e w1 ⟨rfl, hb1⟩; exact ⟨rfl, ⟨w1, HSB.out s w1 hb1⟩, rfl⟩))))
          refine wpQuiet_nil ?_
          intro _ hw'
          obtain ⟨s, hw''⟩ := hw'
          subst hw''
          have HBF := hid_intro (HSC.out s).1
          go_wp2_with fail
          go_ret
          exact ⟨ret_bool HR.out.symm, HBF.out⟩
        · have HR : Hid (R = false) := hid_intro (HB1.out (ok_far (fun h => p2 h.2)))
          have HIs1 : Hid (false = decide (0 ≤ xh ∧ xh ≤ 2016666)) := hid_intro (decide_eq_false (by omega)).symm
          have HIs2 := HIs1
          go_wp2_with fail
          refine wp_region_hw S (by kernel_rfl) (by kernel_rfl) HSD.out ?_
          repeat (go_big_quiet_step ((rename_i s; first | (go_at_call 69; refine (is_lit _ _ _ _ (by first | exact HIs1.out | exact HIs2.out) _).mono ?_; rintro e w1 ⟨rfl, hb1⟩; exact ⟨rfl, ⟨w1, HSB.out s w1 hb1⟩, rfl⟩))))
          refine wpQuiet_nil ?_
          intro _ hw'
          obtain ⟨s, hw''⟩ := hw'
          subst hw''
          have HBF := hid_intro (HSC.out s).1
          go_wp2_with fail
          go_ret
          exact ⟨ret_bool HR.out.symm, HBF.out⟩
        · obtain ⟨K, K1, F1, F2, _, hms⟩ := month_two (60 * xh) (by omega) (by omega)
          have HMO := hid_intro hms
          have HOK := hid_intro (ok_in (mo := mo) (su := su) (x := ⟨xh, xs⟩) p1 p2 (v := (K : Int)) rfl F1 F2)
          generalize hn60 : 60 * xh = n at *
          clear hms F1 F2
          have HIs1 : Hid (true = decide (0 ≤ xh ∧ xh ≤ 2016666)) := hid_intro (decide_eq_true ⟨p1, p2⟩).symm
          by_cases hmo : (K : Int) = mo
          · rw [decide_eq_true hmo, Bool.true_and] at HOK
            have hmo2 : ((K : Int) != mo) = false := by simp [hmo]
            by_cases hr : yh < xh
            · have hr2 : decide (xh ≤ yh) = false := decide_eq_false (by omega)
              have hr3 : (xh ≤ yh) = False := eq_false (by omega)
              by_cases hin : 0 ≤ xs ∧ xs ≤ su
              · have HM2 := hid_intro (HM.out (by rw [HOK.out, decide_eq_true hin]) (fun _ => by unfold hlt; exact decide_eq_true hr))
                have HIs2 : Hid (true = decide (0 ≤ xs ∧ xs ≤ su)) := hid_intro (decide_eq_true hin).symm
                obtain ⟨hin1, hin2⟩ := hin
                go_wp2_with fail
                refine wp_region_hw S (by kernel_rfl) (by kernel_rfl) HSD.out ?_
                repeat (go_big_quiet_step ((rename_i s; first | (go_at_call 69; refine (is_lit _ _ _ _ (by first | exact HIs1.out | exact HIs2.out) _).mono ?_; rintro e w1 ⟨rfl, hb1⟩; exact ⟨rfl, ⟨w1, HSB.out s w1 hb1⟩, rfl⟩) | (go_at_call 114; (try rw [hn60]); refine (HMO.out _).mono ?_; rintro e w1 ⟨rfl, hb1⟩; exact ⟨rfl, ⟨w1, HSB.out s w1 hb1⟩, rfl⟩))))
                refine wpQuiet_nil ?_
                intro _ hw'
                obtain ⟨s, hw''⟩ := hw'
                subst hw''
                have HBF := hid_intro (HSC.out s).1
                go_wp2_with fail
                go_roundw
                case rel => exact ⟨k + 1, by omega, by rw [HST.out], by go_num, HM2, HBF⟩
                case measure => simp [intOf]; omega
              · have HR : Hid (R = false) := hid_intro (HB1.out (by rw [HOK.out, decide_eq_false hin]))
                have HIs2 : Hid (false = decide (0 ≤ xs ∧ xs ≤ su)) := hid_intro (decide_eq_false hin).symm
                go_wp2_with fail
                refine wp_region_hw S (by kernel_rfl) (by kernel_rfl) HSD.out ?_
                repeat (go_big_quiet_step ((rename_i s; first | (go_at_call 69; refine (is_lit _ _ _ _ (by first | exact HIs1.out | exact HIs2.out) _).mono ?_; rintro e w1 ⟨rfl, hb1⟩; exact ⟨rfl, ⟨w1, HSB.out s w1 hb1⟩, rfl⟩) | (go_at_call 114; (try rw [hn60]); refine (HMO.out _).mono ?_; rintro e w1 ⟨rfl, hb1⟩; exact ⟨rfl, ⟨w1, HSB.out s w1 hb1⟩, rfl⟩))))
                refine wpQuiet_nil ?_
                intro _ hw'
                obtain ⟨s, hw''⟩ := hw'
                subst hw''
                have HBF := hid_intro (HSC.out s).1
                go_wp2_with fail
                go_ret
                exact ⟨ret_bool HR.out.symm, HBF.out⟩
            · have HR : Hid (R = false) := hid_intro (HB2.out hj2 (by unfold hlt; exact decide_eq_false hr))
              have hr2 : xh ≤ yh := by omega
              have HIs2 := HIs1
              go_wp2_with fail
              refine wp_region_hw S (by kernel_rfl) (by kernel_rfl) HSD.out ?_
              repeat (go_big_quiet_step ((rename_i s; first | (go_at_call 69; refine (is_lit _ _ _ _ (by first | exact HIs1.out | exact HIs2.out) _).mono ?_; rintro e w1 ⟨rfl, hb1⟩; exact ⟨rfl, ⟨w1, HSB.out s w1 hb1⟩, rfl⟩) | (go_at_call 114; (try rw [hn60]); refine (HMO.out _).mono ?_; rintro e w1 ⟨rfl, hb1⟩; exact ⟨rfl, ⟨w1, HSB.out s w1 hb1⟩, rfl⟩))))
              refine wpQuiet_nil ?_
              intro _ hw'
              obtain ⟨s, hw''⟩ := hw'
              subst hw''
              have HBF := hid_intro (HSC.out s).1
              go_wp2_with fail
              go_ret
              exact ⟨ret_bool HR.out.symm, HBF.out⟩
          · rw [decide_eq_false hmo, Bool.false_and] at HOK
            have HR : Hid (R = false) := hid_intro (HB1.out HOK.out)
            have hmo2 : ((K : Int) != mo) = true := by simp [hmo]
            have HIs2 := HIs1
            go_wp2_with fail
            refine wp_region_hw S (by kernel_rfl) (by kernel_rfl) HSD.out ?_
            repeat (go_big_quiet_step ((rename_i s; first | (go_at_call 69; refine (is_lit _ _ _ _ (by first | exact HIs1.out | exact HIs2.out) _).mono ?_; rintro e w1 ⟨rfl, hb1⟩; exact ⟨rfl, ⟨w1, HSB.out s w1 hb1⟩, rfl⟩) | (go_at_call 114; (try rw [hn60]); refine (HMO.out _).mono ?_; rintro e w1 ⟨rfl, hb1⟩; exact ⟨rfl, ⟨w1, HSB.out s w1 hb1⟩, rfl⟩))))
            refine wpQuiet_nil ?_
            intro _ hw'
            obtain ⟨s, hw''⟩ := hw'
            subst hw''
            have HBF := hid_intro (HSC.out s).1
            go_wp2_with fail
            go_ret
            exact ⟨ret_bool HR.out.symm, HBF.out⟩
    · have hlt2 : ¬ (k : Int) < (len : Int) := by omega
      obtain rfl : k = len := by omega
      have HR : Hid (R = decide (hsum (hs.take k) = su)) := hid_intro (by rw [HDO.out (by rw [← HL.out]; exact HK.out), List.take_of_length_le (by have := HL.out; omega)])
      generalize hsum (hs.take k) = T at *
      by_cases hz : T = su
      · rw [decide_eq_true hz] at HR
        go_wp2_with fail
        go_ret
        exact ⟨ret_bool (by rw [HR.out]; try simp [hz]), HB.out⟩
      · rw [decide_eq_false hz] at HR
        go_wp2_with fail
        go_ret
        exact ⟨ret_bool (by rw [HR.out]; try simp [hz]), HB.out⟩
end WinR
end Go.Proofs.YtcilbmhkhllmjaaGreatDoor
namespace Go.Proofs.YtcilbmhkhllmjaaGreatDoor
open Go.ChangeShapes Go.WideShapes Go.ChangeAt Go.RowKit
set_option linter.unusedVariables false
namespace WinR
open RowG LtR
open CatR (Blk Blk.new)
theorem six (b1 b2 b3 b4 b5 b6 : Bool) : (b1 = false) ∨ (b1 = true ∧ b2 = false) ∨ (b1 = true ∧ b2 = true ∧ b3 = false) ∨ (b1 = true ∧ b2 = true ∧ b3 = true ∧ b4 = false) ∨ (b1 = true ∧ b2 = true ∧ b3 = true ∧ b4 = true ∧ b5 = false) ∨ (b1 = true ∧ b2 = true ∧ b3 = true ∧ b4 = true ∧ b5 = true ∧ b6 = false) ∨ (b1 = true ∧ b2 = true ∧ b3 = true ∧ b4 = true ∧ b5 = true ∧ b6 = true) := by
  cases b1 <;> cases b2 <;> cases b3 <;> cases b4 <;> cases b5 <;> cases b6 <;> simp
theorem sisMonth_any (n : Int) (w : World) : Calls Tryz.prog 78 #[.int .i64 n] w fun e w' => e = .returned (.bool (decide (0 ≤ n ∧ n ≤ 2760))) ∧ w' = w := by
  have H := EvtR.is_any n 0 2760
  generalize decide (0 ≤ n ∧ n ≤ 2760) = b at *
  go_enter Tryz.func78, Tryz.ntmps78
  go_wp2_with (go_at_call 69; refine (H _).mono ?_; rintro e w' ⟨rfl, rfl⟩)
  go_ret
  exact ⟨rfl, rfl⟩
set_option maxRecDepth 100000 in
set_option maxHeartbeats 8000000 in
theorem sright_in (a m : ByteArray) (mo ev su mx : Int) (ta : Option Addr) (tl tc : Nat) (ha : Option Addr) (hl hc : Nat) (b1 b2 b3 b4 b5 b6 b7 b8 : Bool) (w : World)
    (h1 : ∀ W, Calls Tryz.prog 35 #[.string a] W fun e w' => e = .returned (.bool b1) ∧ w' = W) (h2 : ∀ W, Calls Tryz.prog 35 #[.string m] W fun e w' => e = .returned (.bool b2) ∧ w' = W) (h3 : ∀ W, Calls Tryz.prog 78 #[.int .i64 mo] W fun e w' => e = .returned (.bool b3) ∧ w' = W) (h4 : ∀ W, Calls Tryz.prog 69 #[.int .i64 ev, .int .i64 1, .int .i64 1000] W fun e w' => e = .returned (.bool b4) ∧ w' = W) (h5 : ∀ W, Calls Tryz.prog 69 #[.int .i64 su, .int .i64 0, .int .i64 1000000000000] W fun e w' => e = .returned (.bool b5) ∧ w' = W) (h6 : ∀ W, Calls Tryz.prog 69 #[.int .i64 mx, .int .i64 0, .int .i64 su] W fun e w' => e = .returned (.bool b6) ∧ w' = W)
    (h7 : ∀ W, Below w.heap.size w W → Calls Tryz.prog 79 #[.slice ta tl tc] W fun e w' => e = .returned (.bool b7) ∧ Below W.heap.size W w')
    (h8 : b5 = true → hl ≤ 12 → ∀ W, Below w.heap.size w W → Calls Tryz.prog 80 #[.slice ha hl hc, .int .i64 mo, .int .i64 su] W fun e w' => e = .returned (.bool b8) ∧ Below W.heap.size W w') :
    Calls Tryz.prog 36 #[.agg #[.string a, .string m, .int .i64 mo, .int .i64 ev, .int .i64 su, .int .i64 mx, .slice ta tl tc, .slice ha hl hc]] w fun e w' => e = .returned (.bool ((b1 && (b2 && b3)) && ((b4 && (b5 && b6)) && (b7 && (decide (1 ≤ hl ∧ hl ≤ 12) && b8))))) ∧ Below w.heap.size w w' := by
  have H1 := hid_intro h1
  have H2 := hid_intro h2
  have H3 := hid_intro h3
  have H4 := hid_intro h4
  have H5 := hid_intro h5
  have H6 := hid_intro h6
  have H7 := hid_intro h7
  have H8 := hid_intro h8
  clear h1 h2 h3 h4 h5 h6 h7 h8
  have HB0 : Hid (Below w.heap.size w (w.alloc (.cells #[.string a, .string m, .int .i64 mo, .int .i64 ev, .int .i64 su, .int .i64 mx, .slice ta tl tc, .slice ha hl hc] 74))) := hid_intro ((Below.refl _ _).alloc (Nat.le_refl _) _)
  have HX0 := hid_intro (Blk.new w [.string a, .string m, .int .i64 mo, .int .i64 ev, .int .i64 su, .int .i64 mx, .slice ta tl tc, .slice ha hl hc] 74)
  rcases six b1 b2 b3 b4 b5 b6 with rfl | ⟨rfl, rfl⟩ | ⟨rfl, rfl, rfl⟩ | ⟨rfl, rfl, rfl, rfl⟩ | ⟨rfl, rfl, rfl, rfl, rfl⟩ | ⟨rfl, rfl, rfl, rfl, rfl, rfl⟩ | ⟨rfl, rfl, rfl, rfl, rfl, rfl⟩
  · go_enter Tryz.func36, Tryz.ntmps36
    go_wp2_with fail
    refine (H1.out _).mono ?_
    rintro e w1 ⟨rfl, rfl⟩
    go_wp2_with fail
    go_ret
    exact ⟨ret_bool (by simp), HB0.out⟩
  · go_enter Tryz.func36, Tryz.ntmps36
    go_wp2_with fail
    refine (H1.out _).mono ?_
    rintro e w1 ⟨rfl, rfl⟩
    go_wp2_with fail
    refine (H2.out _).mono ?_
    rintro e w1 ⟨rfl, rfl⟩
    go_wp2_with fail
    go_ret
    exact ⟨ret_bool (by simp), HB0.out⟩
  · go_enter Tryz.func36, Tryz.ntmps36
    go_wp2_with fail
    refine (H1.out _).mono ?_
    rintro e w1 ⟨rfl, rfl⟩
    go_wp2_with fail
    refine (H2.out _).mono ?_
    rintro e w1 ⟨rfl, rfl⟩
    go_wp2_with fail
    refine (H3.out _).mono ?_
    rintro e w1 ⟨rfl, rfl⟩
    go_wp2_with fail
    go_ret
    exact ⟨ret_bool (by simp), HB0.out⟩
  · go_enter Tryz.func36, Tryz.ntmps36
    go_wp2_with fail
    refine (H1.out _).mono ?_
    rintro e w1 ⟨rfl, rfl⟩
    go_wp2_with fail
    refine (H2.out _).mono ?_
    rintro e w1 ⟨rfl, rfl⟩
    go_wp2_with fail
    refine (H3.out _).mono ?_
    rintro e w1 ⟨rfl, rfl⟩
    go_wp2_with fail
    refine (H4.out _).mono ?_
    rintro e w1 ⟨rfl, rfl⟩
    go_wp2_with fail
    go_ret
    exact ⟨ret_bool (by simp), HB0.out⟩
  · go_enter Tryz.func36, Tryz.ntmps36
    go_wp2_with fail
    refine (H1.out _).mono ?_
    rintro e w1 ⟨rfl, rfl⟩
    go_wp2_with fail
    refine (H2.out _).mono ?_
    rintro e w1 ⟨rfl, rfl⟩
    go_wp2_with fail
    refine (H3.out _).mono ?_
    rintro e w1 ⟨rfl, rfl⟩
    go_wp2_with fail
    refine (H4.out _).mono ?_
    rintro e w1 ⟨rfl, rfl⟩
    go_wp2_with fail
    refine (H5.out _).mono ?_
    rintro e w1 ⟨rfl, rfl⟩
    go_wp2_with fail
    go_ret
    exact ⟨ret_bool (by simp), HB0.out⟩
  · go_enter Tryz.func36, Tryz.ntmps36
    go_wp2_with fail
    refine (H1.out _).mono ?_
    rintro e w1 ⟨rfl, rfl⟩
    go_wp2_with fail
    refine (H2.out _).mono ?_
    rintro e w1 ⟨rfl, rfl⟩
    go_wp2_with fail
    refine (H3.out _).mono ?_
    rintro e w1 ⟨rfl, rfl⟩
    go_wp2_with fail
    refine (H4.out _).mono ?_
    rintro e w1 ⟨rfl, rfl⟩
    go_wp2_with fail
    refine (H5.out _).mono ?_
    rintro e w1 ⟨rfl, rfl⟩
    go_wp2_with fail
    refine (H6.out _).mono ?_
    rintro e w1 ⟨rfl, rfl⟩
    go_wp2_with fail
    go_ret
    exact ⟨ret_bool (by simp), HB0.out⟩
  · cases b7
    · go_enter Tryz.func36, Tryz.ntmps36
      go_wp2_with fail
      refine (H1.out _).mono ?_
      rintro e w1 ⟨rfl, rfl⟩
      go_wp2_with fail
      refine (H2.out _).mono ?_
      rintro e w1 ⟨rfl, rfl⟩
      go_wp2_with fail
      refine (H3.out _).mono ?_
      rintro e w1 ⟨rfl, rfl⟩
      go_wp2_with fail
      refine (H4.out _).mono ?_
      rintro e w1 ⟨rfl, rfl⟩
      go_wp2_with fail
      refine (H5.out _).mono ?_
      rintro e w1 ⟨rfl, rfl⟩
      go_wp2_with fail
      refine (H6.out _).mono ?_
      rintro e w1 ⟨rfl, rfl⟩
      go_wp2_with fail
      refine (H7.out _ HB0.out).mono ?_
      rintro e w2 ⟨rfl, hb2⟩
      have HB2 := hid_intro (HB0.out.trans (hb2.mono HB0.out.size))
      clear hb2 HX0
      go_wp2_with fail
      go_ret
      exact ⟨ret_bool (by simp), HB2.out⟩
    · rcases (show (¬ 1 ≤ hl) ∨ (1 ≤ hl ∧ ¬ hl ≤ 12) ∨ (1 ≤ hl ∧ hl ≤ 12) by omega) with q | ⟨q, q2⟩ | ⟨q, q2⟩
      · have q' : ¬ (1 : Int) ≤ (hl : Int) := by omega
        rw [decide_eq_false (show ¬ (1 ≤ hl ∧ hl ≤ 12) by omega)]
        go_enter Tryz.func36, Tryz.ntmps36
        go_wp2_with fail
        refine (H1.out _).mono ?_
        rintro e w1 ⟨rfl, rfl⟩
        go_wp2_with fail
        refine (H2.out _).mono ?_
        rintro e w1 ⟨rfl, rfl⟩
        go_wp2_with fail
        refine (H3.out _).mono ?_
        rintro e w1 ⟨rfl, rfl⟩
        go_wp2_with fail
        refine (H4.out _).mono ?_
        rintro e w1 ⟨rfl, rfl⟩
        go_wp2_with fail
        refine (H5.out _).mono ?_
        rintro e w1 ⟨rfl, rfl⟩
        go_wp2_with fail
        refine (H6.out _).mono ?_
        rintro e w1 ⟨rfl, rfl⟩
        go_wp2_with fail
        refine (H7.out _ HB0.out).mono ?_
        rintro e w2 ⟨rfl, hb2⟩
        have HB2 := hid_intro (HB0.out.trans (hb2.mono HB0.out.size))
        have HX2 := hid_intro (HX0.out.below hb2)
        clear hb2 HX0
        obtain ⟨xl, xc⟩ := HX2.out
        have y2 : w2.cell? ⟨w.heap.size, 2, none⟩ = some (.int .i64 mo) := xc 2 (by simp)
        have y4 : w2.cell? ⟨w.heap.size, 4, none⟩ = some (.int .i64 su) := xc 4 (by simp)
        have y7 : w2.cell? ⟨w.heap.size, 7, none⟩ = some (.slice ha hl hc) := xc 7 (by simp)
        clear xc
        go_wp2_with fail
        go_ret
        exact ⟨ret_bool (by simp), HB2.out⟩
      · have q' : (1 : Int) ≤ (hl : Int) := by omega
        have q2' : ¬ (hl : Int) ≤ 12 := by omega
        rw [decide_eq_false (show ¬ (1 ≤ hl ∧ hl ≤ 12) by omega)]
        go_enter Tryz.func36, Tryz.ntmps36
        go_wp2_with fail
        refine (H1.out _).mono ?_
        rintro e w1 ⟨rfl, rfl⟩
        go_wp2_with fail
        refine (H2.out _).mono ?_
        rintro e w1 ⟨rfl, rfl⟩
        go_wp2_with fail
        refine (H3.out _).mono ?_
        rintro e w1 ⟨rfl, rfl⟩
        go_wp2_with fail
        refine (H4.out _).mono ?_
        rintro e w1 ⟨rfl, rfl⟩
        go_wp2_with fail
        refine (H5.out _).mono ?_
        rintro e w1 ⟨rfl, rfl⟩
        go_wp2_with fail
        refine (H6.out _).mono ?_
        rintro e w1 ⟨rfl, rfl⟩
        go_wp2_with fail
        refine (H7.out _ HB0.out).mono ?_
        rintro e w2 ⟨rfl, hb2⟩
        have HB2 := hid_intro (HB0.out.trans (hb2.mono HB0.out.size))
        have HX2 := hid_intro (HX0.out.below hb2)
        clear hb2 HX0
        obtain ⟨xl, xc⟩ := HX2.out
        have y2 : w2.cell? ⟨w.heap.size, 2, none⟩ = some (.int .i64 mo) := xc 2 (by simp)
        have y4 : w2.cell? ⟨w.heap.size, 4, none⟩ = some (.int .i64 su) := xc 4 (by simp)
        have y7 : w2.cell? ⟨w.heap.size, 7, none⟩ = some (.slice ha hl hc) := xc 7 (by simp)
        clear xc
        go_wp2_with fail
        go_ret
        exact ⟨ret_bool (by simp), HB2.out⟩
      · have q' : (1 : Int) ≤ (hl : Int) := by omega
        have q2' : (hl : Int) ≤ 12 := by omega
        rw [decide_eq_true (show 1 ≤ hl ∧ hl ≤ 12 by omega)]
        have H9 := hid_intro (H8.out rfl q2)
        go_enter Tryz.func36, Tryz.ntmps36
        go_wp2_with fail
        refine (H1.out _).mono ?_
        rintro e w1 ⟨rfl, rfl⟩
        go_wp2_with fail
        refine (H2.out _).mono ?_
        rintro e w1 ⟨rfl, rfl⟩
        go_wp2_with fail
        refine (H3.out _).mono ?_
        rintro e w1 ⟨rfl, rfl⟩
        go_wp2_with fail
        refine (H4.out _).mono ?_
        rintro e w1 ⟨rfl, rfl⟩
        go_wp2_with fail
        refine (H5.out _).mono ?_
        rintro e w1 ⟨rfl, rfl⟩
        go_wp2_with fail
        refine (H6.out _).mono ?_
        rintro e w1 ⟨rfl, rfl⟩
        go_wp2_with fail
        refine (H7.out _ HB0.out).mono ?_
        rintro e w2 ⟨rfl, hb2⟩
        have HB2 := hid_intro (HB0.out.trans (hb2.mono HB0.out.size))
        have HX2 := hid_intro (HX0.out.below hb2)
        clear hb2 HX0
        obtain ⟨xl, xc⟩ := HX2.out
        have y2 : w2.cell? ⟨w.heap.size, 2, none⟩ = some (.int .i64 mo) := xc 2 (by simp)
        have y4 : w2.cell? ⟨w.heap.size, 4, none⟩ = some (.int .i64 su) := xc 4 (by simp)
        have y7 : w2.cell? ⟨w.heap.size, 7, none⟩ = some (.slice ha hl hc) := xc 7 (by simp)
        clear xc
        go_wp2_with fail
        refine (H9.out _ HB2.out).mono ?_
        rintro e w3 ⟨rfl, hb3⟩
        have HB3 := hid_intro (HB2.out.trans (hb3.mono HB2.out.size))
        clear hb3
        go_wp2_with fail
        go_ret
        exact ⟨ret_bool (by simp), HB3.out⟩
theorem spec_window_right (x : Wd) (ta : Option Addr) (tc : Nat) (ha : Option Addr) (hc : Nat) (w : World) (h1 : x.a.size ≤ 1048576) (h2 : x.m.size ≤ 1048576) (h3 : x.ts.length ≤ 1048576) (h4 : ∀ t ∈ x.ts, t.size ≤ 1048576) (hT : Tgs ta x.ts w) (hH : Hrs ha x.hs w) :
    Calls Tryz.prog 36 #[.agg (wcells x ta tc ha hc)] w fun e w' => e = .returned (.bool (wB x)) ∧ Below w.heap.size w w' :=
  sright_in x.a x.m x.mo x.ev x.su x.mx ta x.ts.length tc ha x.hs.length hc _ _ _ _ _ _ _ _ w (fun W => NameR.spec_any x.a W h1) (fun W => NameR.spec_any x.m W h2) (fun W => sisMonth_any x.mo W) (fun W => EvtR.is_any x.ev 1 1000 W) (fun W => EvtR.is_any x.su 0 1000000000000 W) (fun W => EvtR.is_any x.mx 0 x.su W) (fun W hW => spec_tags ta tc x.ts W h3 h4 (hT.below hW)) (fun hs hl W hW => spec_hours ha hc x.hs x.mo x.su W hl (of_decide_eq_true hs) (hH.below hW))
end WinR
end Go.Proofs.YtcilbmhkhllmjaaGreatDoor
namespace Go.Proofs.YtcilbmhkhllmjaaGreatDoor
open Go.ChangeShapes Go.WideShapes Go.ChangeAt Go.RowKit
set_option linter.unusedVariables false
namespace WinR
open RowG LtR
open CatR (Blk Blk.new)
open DateR (Laid)
/-- The greater one; the greatest sum of an hour. -/
def grt (p q : Int) : Int := if q < p then p else q
def pk (hs : List H) : Int := hs.foldl (fun p x => grt p x.s) 0
theorem pk_take (hs : List H) (k : Nat) (h : k < hs.length) : pk (hs.take (k + 1)) = grt (pk (hs.take k)) (hs.getD k H.zero).s := by
  unfold pk
  rw [take_more (z := H.zero) hs k h, List.foldl_append]
  rfl
/-- A window's number. -/
def valV (x : Wd) (g : Int) : Int := if g = 1 then x.su else if g = 2 then x.mx else if g = 3 then (x.ts.length : Int) else if g = 4 then pk x.hs else 0
def valueV (x : Wd) (g : Int) : Int := bif wB x then valV x g else 0
theorem smax_any (p q : Int) (w : World) : Calls Tryz.prog 115 #[.int .i64 p, .int .i64 q] w fun e w' => e = .returned (.int .i64 (grt p q)) ∧ w' = w := by
  unfold grt
  by_cases h : q < p
  · rw [if_pos h]
    go_enter Tryz.func115, Tryz.ntmps115
    go_wp2
    go_ret
    exact ⟨rfl, rfl⟩
  · rw [if_neg h]
    go_enter Tryz.func115, Tryz.ntmps115
    go_wp2
    go_ret
    exact ⟨rfl, rfl⟩
theorem agg1 (a m : ByteArray) (mo ev su mx : Int) (ta : Option Addr) (tl tc : Nat) (ha : Option Addr) (hl hc : Nat) (w : World) : Calls Tryz.prog 152 #[.agg #[.string a, .string m, .int .i64 mo, .int .i64 ev, .int .i64 su, .int .i64 mx, .slice ta tl tc, .slice ha hl hc]] w fun e w' => e = .returned (.int .i64 su) ∧ Below w.heap.size w w' := by
  go_enter Tryz.func152, Tryz.ntmps152
  go_wp2
  go_ret
  exact ⟨rfl, (Below.refl _ _).alloc (Nat.le_refl _) _⟩
theorem agg2 (a m : ByteArray) (mo ev su mx : Int) (ta : Option Addr) (tl tc : Nat) (ha : Option Addr) (hl hc : Nat) (w : World) : Calls Tryz.prog 153 #[.agg #[.string a, .string m, .int .i64 mo, .int .i64 ev, .int .i64 su, .int .i64 mx, .slice ta tl tc, .slice ha hl hc]] w fun e w' => e = .returned (.int .i64 mx) ∧ Below w.heap.size w w' := by
  go_enter Tryz.func153, Tryz.ntmps153
  go_wp2
  go_ret
  exact ⟨rfl, (Below.refl _ _).alloc (Nat.le_refl _) _⟩
theorem agg3 (a m : ByteArray) (mo ev su mx : Int) (ta : Option Addr) (tl tc : Nat) (ha : Option Addr) (hl hc : Nat) (w : World) : Calls Tryz.prog 154 #[.agg #[.string a, .string m, .int .i64 mo, .int .i64 ev, .int .i64 su, .int .i64 mx, .slice ta tl tc, .slice ha hl hc]] w fun e w' => e = .returned (.int .i64 (tl : Int)) ∧ Below w.heap.size w w' := by
  go_enter Tryz.func154, Tryz.ntmps154
  go_wp2
  go_ret
  exact ⟨rfl, (Below.refl _ _).alloc (Nat.le_refl _) _⟩
set_option maxHeartbeats 4000000 in
theorem impl_peak (a m : ByteArray) (mo ev su mx : Int) (tv : Value) (ha : Option Addr) (hs : List H) (hc : Nat) (w : World) (hlen : hs.length ≤ 1048576) (hI : Hrs ha hs w) :
    Calls Tryz.prog 155 #[.agg #[.string a, .string m, .int .i64 mo, .int .i64 ev, .int .i64 su, .int .i64 mx, tv, .slice ha hs.length hc]] w fun e w' => e = .returned (.int .i64 (pk hs)) ∧ Below w.heap.size w w' := by
  have HI := hid_intro hI
  obtain ⟨len, hl⟩ : ∃ len, len = hs.length := ⟨_, rfl⟩
  rw [← hl] at hlen ⊢
  have HL := hid_intro hl
  have HE : Hid (pk (hs.take len) = pk hs) := hid_intro (by rw [List.take_of_length_le (by omega)])
  generalize pk hs = R at *
  clear hI hl
  have HB0 : Hid (Below w.heap.size w (w.alloc (.cells #[.string a, .string m, .int .i64 mo, .int .i64 ev, .int .i64 su, .int .i64 mx, tv, .slice ha len hc] 74))) := hid_intro ((Below.refl _ _).alloc (Nat.le_refl _) _)
  go_enter Tryz.func155, Tryz.ntmps155
  go_wp2_with fail
  go_loopw [3, 9] (fun y z wr => ∃ k : Nat, k ≤ len ∧ y = .int .i64 (pk (hs.take k)) ∧ z = .int .i64 k ∧ Hid (Below w.heap.size w wr)) (fun y z _ => len - (intOf z).toNat)
  case atStart => exact ⟨0, by omega, rfl, rfl, HB0⟩
  case round =>
    obtain ⟨k, hk, rfl, rfl, HB⟩ := hrel
    by_cases hlt1 : k < len
    · have hlt2 : (k : Int) < (len : Int) := by omega
      obtain ⟨b, off, rfl, hbl, c0, c1⟩ := (HI.out.below HB.out).at k (by have := HL.out; omega)
      have HP := hid_intro (pk_take hs k (by have := HL.out; omega))
      generalize hs.getD k H.zero = X at *
      obtain ⟨xh, xs⟩ := X
      dsimp only at c0 c1 HP
      generalize pk (hs.take k) = T at *
      by_cases hm : xs < T
      · have HP2 : Hid (pk (hs.take (k + 1)) = T) := hid_intro (by rw [HP.out]; unfold grt; rw [if_pos hm])
        have hm2 : max T xs = T := by omega
        have hm3 : ¬ T < xs := by omega
        have hm4 : ¬ T ≤ xs := by omega
        go_wp2_with fail
        go_roundw
        case rel => exact ⟨k + 1, by omega, by first | (rw [HP2.out]; done) | (rw [HP2.out]; congr 1; omega), by go_num, hid_intro (HB.out.alloc HB.out.size _)⟩
        case measure => simp [intOf]; omega
      · have HP2 : Hid (pk (hs.take (k + 1)) = xs) := hid_intro (by rw [HP.out]; unfold grt; rw [if_neg hm])
        have hm2 : max T xs = xs := by omega
        have hm4 : T ≤ xs := by omega
        go_wp2_with fail
        go_roundw
        case rel => exact ⟨k + 1, by omega, by first | (rw [HP2.out]; done) | (rw [HP2.out]; congr 1; omega), by go_num, hid_intro (HB.out.alloc HB.out.size _)⟩
        case measure => simp [intOf]; omega
    · have hlt2 : ¬ (k : Int) < (len : Int) := by omega
      obtain rfl : k = len := by omega
      have HE2 := HE.out
      generalize pk (hs.take k) = T at *
      subst HE2
      go_wp2_with fail
      go_ret
      exact ⟨rfl, HB.out⟩
theorem impl_aggs (w : World) : Calls Tryz.prog 126 #[] w fun e w' => ∃ g, e = .returned (.slice (some ⟨g, 0, none⟩) 4 4) ∧ Blk g [.int .i64 1, .func (.func 152) #[] #[], .int .i64 2, .func (.func 153) #[] #[], .int .i64 3, .func (.func 154) #[] #[], .int .i64 4, .func (.func 155) #[] #[]] w' ∧ Below w.heap.size w w' := by
  go_enter Tryz.func126, Tryz.ntmps126
  go_wp2_with fail
  go_ret
  exact ⟨_, rfl, Blk.new w [.int .i64 1, .func (.func 152) #[] #[], .int .i64 2, .func (.func 153) #[] #[], .int .i64 3, .func (.func 154) #[] #[], .int .i64 4, .func (.func 155) #[] #[]] _, (Below.refl _ _).alloc (Nat.le_refl _) _⟩
set_option maxRecDepth 100000 in
set_option maxHeartbeats 8000000 in
theorem value_in (a m : ByteArray) (mo ev su mx : Int) (ta : Option Addr) (tl tc : Nat) (ha : Option Addr) (hl hc : Nat) (g P : Int) (w : World)
    (h2 : ∀ W, Calls Tryz.prog 152 #[.agg #[.string a, .string m, .int .i64 mo, .int .i64 ev, .int .i64 su, .int .i64 mx, .slice ta tl tc, .slice ha hl hc]] W fun e w' => e = .returned (.int .i64 su) ∧ Below W.heap.size W w')
    (h3 : ∀ W, Calls Tryz.prog 153 #[.agg #[.string a, .string m, .int .i64 mo, .int .i64 ev, .int .i64 su, .int .i64 mx, .slice ta tl tc, .slice ha hl hc]] W fun e w' => e = .returned (.int .i64 mx) ∧ Below W.heap.size W w')
    (h4 : ∀ W, Calls Tryz.prog 154 #[.agg #[.string a, .string m, .int .i64 mo, .int .i64 ev, .int .i64 su, .int .i64 mx, .slice ta tl tc, .slice ha hl hc]] W fun e w' => e = .returned (.int .i64 (tl : Int)) ∧ Below W.heap.size W w')
    (h5 : ∀ W, Below w.heap.size w W → Calls Tryz.prog 155 #[.agg #[.string a, .string m, .int .i64 mo, .int .i64 ev, .int .i64 su, .int .i64 mx, .slice ta tl tc, .slice ha hl hc]] W fun e w' => e = .returned (.int .i64 P) ∧ Below W.heap.size W w')
    (h1 : ∀ W, Below w.heap.size w W → Calls Tryz.prog 92 #[.agg #[.string a, .string m, .int .i64 mo, .int .i64 ev, .int .i64 su, .int .i64 mx, .slice ta tl tc, .slice ha hl hc]] W fun e w' => e = .returned (.bool true) ∧ Below W.heap.size W w') :
    Calls Tryz.prog 94 #[.agg #[.string a, .string m, .int .i64 mo, .int .i64 ev, .int .i64 su, .int .i64 mx, .slice ta tl tc, .slice ha hl hc], .int .i64 g] w fun e w' => e = .returned (.int .i64 (if g = 1 then su else if g = 2 then mx else if g = 3 then (tl : Int) else if g = 4 then P else 0)) ∧ Below w.heap.size w w' := by
  have H1 := hid_intro h1
  have H2 := hid_intro h2
  have H3 := hid_intro h3
  have H4 := hid_intro h4
  have H5 := hid_intro h5
  have H0 := hid_intro impl_aggs
  clear h1 h2 h3 h4 h5
  have HV : Hid (∀ v, v = (if g = 1 then su else if g = 2 then mx else if g = 3 then (tl : Int) else if g = 4 then P else 0) → v = (if g = 1 then su else if g = 2 then mx else if g = 3 then (tl : Int) else if g = 4 then P else 0)) := hid_intro (fun _ h => h)
  generalize hR : (if g = 1 then su else if g = 2 then mx else if g = 3 then (tl : Int) else if g = 4 then P else 0) = R
  have HR := hid_intro hR
  clear hR HV
  have HB0 : Hid (Below w.heap.size w (w.alloc (.cells #[.string a, .string m, .int .i64 mo, .int .i64 ev, .int .i64 su, .int .i64 mx, .slice ta tl tc, .slice ha hl hc] 74))) := hid_intro ((Below.refl _ _).alloc (Nat.le_refl _) _)
  have HX0 := hid_intro (Blk.new w [.string a, .string m, .int .i64 mo, .int .i64 ev, .int .i64 su, .int .i64 mx, .slice ta tl tc, .slice ha hl hc] 74)
  go_enter Tryz.func94, Tryz.ntmps94
  go_wp2_with fail
  refine (H1.out _ HB0.out).mono ?_
  rintro e w1 ⟨rfl, hb1⟩
  have HB1 := hid_intro (HB0.out.trans (hb1.mono HB0.out.size))
  have HX1 := hid_intro (HX0.out.below hb1)
  clear hb1 HB0 HX0
  go_wp2_with fail
  refine (H0.out _).mono ?_
  rintro e w2 ⟨G, rfl, hA2, hb2⟩
  have HB2 := hid_intro (HB1.out.trans (hb2.mono HB1.out.size))
  have HX2 := hid_intro (HX1.out.below hb2)
  have HA2 := hid_intro hA2
  clear hb2 hA2 HB1 HX1
  go_wp2_with fail
  go_loopw [12] (fun z wr => ∃ k : Nat, k ≤ 4 ∧ z = .int .i64 k ∧ Hid (∀ j : Nat, j < k → g ≠ (j : Int) + 1) ∧ Hid (Below w.heap.size w wr) ∧ Hid (Blk w.heap.size [.string a, .string m, .int .i64 mo, .int .i64 ev, .int .i64 su, .int .i64 mx, .slice ta tl tc, .slice ha hl hc] wr) ∧ Hid (Blk G [.int .i64 1, .func (.func 152) #[] #[], .int .i64 2, .func (.func 153) #[] #[], .int .i64 3, .func (.func 154) #[] #[], .int .i64 4, .func (.func 155) #[] #[]] wr)) (fun z _ => 4 - (intOf z).toNat)
  case atStart => exact ⟨0, by omega, rfl, hid_intro (fun j hj => absurd hj (by omega)), HB2, HX2, HA2⟩
  case round =>
    obtain ⟨k, hk, rfl, HN, HB, HX, HA⟩ := hrel
    have hxl := HX.out.1
    have hgl := HA.out.1
    rcases (show k = 0 ∨ k = 1 ∨ k = 2 ∨ k = 3 ∨ k = 4 by omega) with rfl | rfl | rfl | rfl | rfl
    · have k0 : wr.cell? ⟨G, 0, none⟩ = some (.int .i64 1) := HA.out.2 0 (by simp)
      have k1 : wr.cell? ⟨G, 1, none⟩ = some (.func (.func 152) #[] #[]) := HA.out.2 1 (by simp)
      have HBa := hid_intro (HB.out.alloc HB.out.size (.cells #[.int .i64 1, .func (.func 152) #[] #[]] 193))
      have HXa := hid_intro (HX.out.alloc (.cells #[.int .i64 1, .func (.func 152) #[] #[]] 193))
      have HAa := hid_intro (HA.out.alloc (.cells #[.int .i64 1, .func (.func 152) #[] #[]] 193))
      by_cases hg : g = 1
      · subst hg
        have HR2 : Hid (R = su) := hid_intro (by have h := HR.out; simpa using h.symm)
        have x0 : wr.cell? ⟨w.heap.size, 0, none⟩ = some (.string a) := HX.out.2 0 (by simp)
        have x1 : wr.cell? ⟨w.heap.size, 1, none⟩ = some (.string m) := HX.out.2 1 (by simp)
        have x2 : wr.cell? ⟨w.heap.size, 2, none⟩ = some (.int .i64 mo) := HX.out.2 2 (by simp)
        have x3 : wr.cell? ⟨w.heap.size, 3, none⟩ = some (.int .i64 ev) := HX.out.2 3 (by simp)
        have x4 : wr.cell? ⟨w.heap.size, 4, none⟩ = some (.int .i64 su) := HX.out.2 4 (by simp)
        have x5 : wr.cell? ⟨w.heap.size, 5, none⟩ = some (.int .i64 mx) := HX.out.2 5 (by simp)
        have x6 : wr.cell? ⟨w.heap.size, 6, none⟩ = some (.slice ta tl tc) := HX.out.2 6 (by simp)
        have x7 : wr.cell? ⟨w.heap.size, 7, none⟩ = some (.slice ha hl hc) := HX.out.2 7 (by simp)
        go_wp2_with fail
        refine (H2.out _).mono ?_
        rintro e w3 ⟨rfl, hb3⟩
        have HB3 := hid_intro (HBa.out.trans (hb3.mono HBa.out.size))
        clear hb3
        go_wp2_with fail
        go_ret
        exact ⟨ret_int HR2.out.symm, HB3.out⟩
      · have hg2 : ((1 : Int) == g) = false := by simp; omega
        have hg3 : ¬ (1 : Int) = g := by omega
        go_wp2_with fail
        go_roundw
        case rel => exact ⟨1, by omega, by go_num, hid_intro (fun j hj => by
          by_cases e : j = 0
          · subst e; simpa using hg
          · exact HN.out j (by omega)), HBa, HXa, HAa⟩
        case measure => simp [intOf]
    · have k0 : wr.cell? ⟨G, 2, none⟩ = some (.int .i64 2) := HA.out.2 2 (by simp)
      have k1 : wr.cell? ⟨G, 3, none⟩ = some (.func (.func 153) #[] #[]) := HA.out.2 3 (by simp)
      have HBa := hid_intro (HB.out.alloc HB.out.size (.cells #[.int .i64 2, .func (.func 153) #[] #[]] 193))
      have HXa := hid_intro (HX.out.alloc (.cells #[.int .i64 2, .func (.func 153) #[] #[]] 193))
      have HAa := hid_intro (HA.out.alloc (.cells #[.int .i64 2, .func (.func 153) #[] #[]] 193))
      by_cases hg : g = 2
      · subst hg
        have HR2 : Hid (R = mx) := hid_intro (by have h := HR.out; simpa using h.symm)
        have x0 : wr.cell? ⟨w.heap.size, 0, none⟩ = some (.string a) := HX.out.2 0 (by simp)
        have x1 : wr.cell? ⟨w.heap.size, 1, none⟩ = some (.string m) := HX.out.2 1 (by simp)
        have x2 : wr.cell? ⟨w.heap.size, 2, none⟩ = some (.int .i64 mo) := HX.out.2 2 (by simp)
        have x3 : wr.cell? ⟨w.heap.size, 3, none⟩ = some (.int .i64 ev) := HX.out.2 3 (by simp)
        have x4 : wr.cell? ⟨w.heap.size, 4, none⟩ = some (.int .i64 su) := HX.out.2 4 (by simp)
        have x5 : wr.cell? ⟨w.heap.size, 5, none⟩ = some (.int .i64 mx) := HX.out.2 5 (by simp)
        have x6 : wr.cell? ⟨w.heap.size, 6, none⟩ = some (.slice ta tl tc) := HX.out.2 6 (by simp)
        have x7 : wr.cell? ⟨w.heap.size, 7, none⟩ = some (.slice ha hl hc) := HX.out.2 7 (by simp)
        go_wp2_with fail
        refine (H3.out _).mono ?_
        rintro e w3 ⟨rfl, hb3⟩
        have HB3 := hid_intro (HBa.out.trans (hb3.mono HBa.out.size))
        clear hb3
        go_wp2_with fail
        go_ret
        exact ⟨ret_int HR2.out.symm, HB3.out⟩
      · have hg2 : ((2 : Int) == g) = false := by simp; omega
        have hg3 : ¬ (2 : Int) = g := by omega
        go_wp2_with fail
        go_roundw
        case rel => exact ⟨2, by omega, by go_num, hid_intro (fun j hj => by
          by_cases e : j = 1
          · subst e; simpa using hg
          · exact HN.out j (by omega)), HBa, HXa, HAa⟩
        case measure => simp [intOf]
    · have k0 : wr.cell? ⟨G, 4, none⟩ = some (.int .i64 3) := HA.out.2 4 (by simp)
      have k1 : wr.cell? ⟨G, 5, none⟩ = some (.func (.func 154) #[] #[]) := HA.out.2 5 (by simp)
      have HBa := hid_intro (HB.out.alloc HB.out.size (.cells #[.int .i64 3, .func (.func 154) #[] #[]] 193))
      have HXa := hid_intro (HX.out.alloc (.cells #[.int .i64 3, .func (.func 154) #[] #[]] 193))
      have HAa := hid_intro (HA.out.alloc (.cells #[.int .i64 3, .func (.func 154) #[] #[]] 193))
      by_cases hg : g = 3
      · subst hg
        have HR2 : Hid (R = (tl : Int)) := hid_intro (by have h := HR.out; simpa using h.symm)
        have x0 : wr.cell? ⟨w.heap.size, 0, none⟩ = some (.string a) := HX.out.2 0 (by simp)
        have x1 : wr.cell? ⟨w.heap.size, 1, none⟩ = some (.string m) := HX.out.2 1 (by simp)
        have x2 : wr.cell? ⟨w.heap.size, 2, none⟩ = some (.int .i64 mo) := HX.out.2 2 (by simp)
        have x3 : wr.cell? ⟨w.heap.size, 3, none⟩ = some (.int .i64 ev) := HX.out.2 3 (by simp)
        have x4 : wr.cell? ⟨w.heap.size, 4, none⟩ = some (.int .i64 su) := HX.out.2 4 (by simp)
        have x5 : wr.cell? ⟨w.heap.size, 5, none⟩ = some (.int .i64 mx) := HX.out.2 5 (by simp)
        have x6 : wr.cell? ⟨w.heap.size, 6, none⟩ = some (.slice ta tl tc) := HX.out.2 6 (by simp)
        have x7 : wr.cell? ⟨w.heap.size, 7, none⟩ = some (.slice ha hl hc) := HX.out.2 7 (by simp)
        go_wp2_with fail
        refine (H4.out _).mono ?_
        rintro e w3 ⟨rfl, hb3⟩
        have HB3 := hid_intro (HBa.out.trans (hb3.mono HBa.out.size))
        clear hb3
        go_wp2_with fail
        go_ret
        exact ⟨ret_int HR2.out.symm, HB3.out⟩
      · have hg2 : ((3 : Int) == g) = false := by simp; omega
        have hg3 : ¬ (3 : Int) = g := by omega
        go_wp2_with fail
        go_roundw
        case rel => exact ⟨3, by omega, by go_num, hid_intro (fun j hj => by
          by_cases e : j = 2
          · subst e; simpa using hg
          · exact HN.out j (by omega)), HBa, HXa, HAa⟩
        case measure => simp [intOf]
    · have k0 : wr.cell? ⟨G, 6, none⟩ = some (.int .i64 4) := HA.out.2 6 (by simp)
      have k1 : wr.cell? ⟨G, 7, none⟩ = some (.func (.func 155) #[] #[]) := HA.out.2 7 (by simp)
      have HBa := hid_intro (HB.out.alloc HB.out.size (.cells #[.int .i64 4, .func (.func 155) #[] #[]] 193))
      have HXa := hid_intro (HX.out.alloc (.cells #[.int .i64 4, .func (.func 155) #[] #[]] 193))
      have HAa := hid_intro (HA.out.alloc (.cells #[.int .i64 4, .func (.func 155) #[] #[]] 193))
      by_cases hg : g = 4
      · subst hg
        have HR2 : Hid (R = P) := hid_intro (by have h := HR.out; simpa using h.symm)
        have x0 : wr.cell? ⟨w.heap.size, 0, none⟩ = some (.string a) := HX.out.2 0 (by simp)
        have x1 : wr.cell? ⟨w.heap.size, 1, none⟩ = some (.string m) := HX.out.2 1 (by simp)
        have x2 : wr.cell? ⟨w.heap.size, 2, none⟩ = some (.int .i64 mo) := HX.out.2 2 (by simp)
        have x3 : wr.cell? ⟨w.heap.size, 3, none⟩ = some (.int .i64 ev) := HX.out.2 3 (by simp)
        have x4 : wr.cell? ⟨w.heap.size, 4, none⟩ = some (.int .i64 su) := HX.out.2 4 (by simp)
        have x5 : wr.cell? ⟨w.heap.size, 5, none⟩ = some (.int .i64 mx) := HX.out.2 5 (by simp)
        have x6 : wr.cell? ⟨w.heap.size, 6, none⟩ = some (.slice ta tl tc) := HX.out.2 6 (by simp)
        have x7 : wr.cell? ⟨w.heap.size, 7, none⟩ = some (.slice ha hl hc) := HX.out.2 7 (by simp)
        go_wp2_with fail
        refine (H5.out _ HBa.out).mono ?_
        rintro e w3 ⟨rfl, hb3⟩
        have HB3 := hid_intro (HBa.out.trans (hb3.mono HBa.out.size))
        clear hb3
        go_wp2_with fail
        go_ret
        exact ⟨ret_int HR2.out.symm, HB3.out⟩
      · have hg2 : ((4 : Int) == g) = false := by simp; omega
        have hg3 : ¬ (4 : Int) = g := by omega
        go_wp2_with fail
        go_roundw
        case rel => exact ⟨4, by omega, by go_num, hid_intro (fun j hj => by
          by_cases e : j = 3
          · subst e; simpa using hg
          · exact HN.out j (by omega)), HBa, HXa, HAa⟩
        case measure => simp [intOf]
    · have HR2 : Hid (R = 0) := hid_intro (by
        have h := HR.out
        have n0 := HN.out 0 (by omega)
        have n1 := HN.out 1 (by omega)
        have n2 := HN.out 2 (by omega)
        have n3 := HN.out 3 (by omega)
        rw [if_neg (by omega), if_neg (by omega), if_neg (by omega), if_neg (by omega)] at h
        exact h.symm)
      go_wp2_with fail
      go_ret
      exact ⟨ret_int HR2.out.symm, HB.out⟩
theorem value_no (a m : ByteArray) (mo ev su mx : Int) (ta : Option Addr) (tl tc : Nat) (ha : Option Addr) (hl hc : Nat) (g : Int) (w : World)
    (h1 : ∀ W, Below w.heap.size w W → Calls Tryz.prog 92 #[.agg #[.string a, .string m, .int .i64 mo, .int .i64 ev, .int .i64 su, .int .i64 mx, .slice ta tl tc, .slice ha hl hc]] W fun e w' => e = .returned (.bool false) ∧ Below W.heap.size W w') :
    Calls Tryz.prog 94 #[.agg #[.string a, .string m, .int .i64 mo, .int .i64 ev, .int .i64 su, .int .i64 mx, .slice ta tl tc, .slice ha hl hc], .int .i64 g] w fun e w' => e = .returned (.int .i64 0) ∧ Below w.heap.size w w' := by
  have H1 := hid_intro h1
  clear h1
  have HB0 : Hid (Below w.heap.size w (w.alloc (.cells #[.string a, .string m, .int .i64 mo, .int .i64 ev, .int .i64 su, .int .i64 mx, .slice ta tl tc, .slice ha hl hc] 74))) := hid_intro ((Below.refl _ _).alloc (Nat.le_refl _) _)
  go_enter Tryz.func94, Tryz.ntmps94
  go_wp2_with fail
  refine (H1.out _ HB0.out).mono ?_
  rintro e w1 ⟨rfl, hb1⟩
  have HB1 := hid_intro (HB0.out.trans (hb1.mono HB0.out.size))
  clear hb1
  go_wp2_with fail
  go_ret
  exact ⟨rfl, HB1.out⟩
theorem impl_value (x : Wd) (g : Int) (ta : Option Addr) (tc : Nat) (ha : Option Addr) (hc : Nat) (w : World) (h1 : x.a.size ≤ 1048576) (h2 : x.m.size ≤ 1048576) (h3 : x.ts.length ≤ 1048576) (h4 : ∀ t ∈ x.ts, t.size ≤ 1048576) (h5 : x.hs.length ≤ 1048576) (hL : Laid w) (hT : Tgs ta x.ts w) (hH : Hrs ha x.hs w) :
    Calls Tryz.prog 94 #[.agg (wcells x ta tc ha hc), .int .i64 g] w fun e w' => e = .returned (.int .i64 (valueV x g)) ∧ Below w.heap.size w w' := by
  have hr := fun W (hW : Below w.heap.size w W) => impl_window_right x ta tc ha hc W h1 h2 h3 h4 h5 (hL.below hW) (hT.below hW) (hH.below hW)
  unfold valueV valV
  cases hb : wB x
  · rw [hb] at hr
    exact value_no x.a x.m x.mo x.ev x.su x.mx ta x.ts.length tc ha x.hs.length hc g w hr
  · rw [hb] at hr
    exact value_in x.a x.m x.mo x.ev x.su x.mx ta x.ts.length tc ha x.hs.length hc g (pk x.hs) w (fun W => agg1 _ _ _ _ _ _ _ _ _ _ _ _ W) (fun W => agg2 _ _ _ _ _ _ _ _ _ _ _ _ W) (fun W => agg3 _ _ _ _ _ _ _ _ _ _ _ _ W) (fun W hW => impl_peak _ _ _ _ _ _ _ ha x.hs hc W h5 (hH.below hW)) hr
set_option maxRecDepth 100000 in
set_option maxHeartbeats 8000000 in
theorem svalue_in (a m : ByteArray) (mo ev su mx : Int) (ta : Option Addr) (tl tc : Nat) (ha : Option Addr) (hs : List H) (hc : Nat) (g : Int) (w : World) (hlen : hs.length ≤ 1048576) (hH : Hrs ha hs w) :
    Calls Tryz.prog 84 #[.agg #[.string a, .string m, .int .i64 mo, .int .i64 ev, .int .i64 su, .int .i64 mx, .slice ta tl tc, .slice ha hs.length hc], .int .i64 g] w fun e w' => e = .returned (.int .i64 (if g = 1 then su else if g = 2 then mx else if g = 3 then (tl : Int) else if g = 4 then pk hs else 0)) ∧ Below w.heap.size w w' := by
  have HI := hid_intro hH
  obtain ⟨hl, hhl⟩ : ∃ hl, hl = hs.length := ⟨_, rfl⟩
  rw [← hhl] at hlen ⊢
  have HL := hid_intro hhl
  have HE : Hid (pk (hs.take hl) = pk hs) := hid_intro (by rw [List.take_of_length_le (by omega)])
  clear hH hhl
  have HB0 : Hid (Below w.heap.size w (w.alloc (.cells #[.string a, .string m, .int .i64 mo, .int .i64 ev, .int .i64 su, .int .i64 mx, .slice ta tl tc, .slice ha hl hc] 74))) := hid_intro ((Below.refl _ _).alloc (Nat.le_refl _) _)
  have HX0 := hid_intro (Blk.new w [.string a, .string m, .int .i64 mo, .int .i64 ev, .int .i64 su, .int .i64 mx, .slice ta tl tc, .slice ha hl hc] 74)
  by_cases g1 : g = 1
  · subst g1
    rw [if_pos rfl]
    go_enter Tryz.func84, Tryz.ntmps84
    go_wp2_with fail
    go_ret
    exact ⟨rfl, HB0.out⟩
  by_cases g2 : g = 2
  · subst g2
    rw [if_neg (by omega), if_pos rfl]
    go_enter Tryz.func84, Tryz.ntmps84
    go_wp2_with fail
    go_ret
    exact ⟨rfl, HB0.out⟩
  by_cases g3 : g = 3
  · subst g3
    rw [if_neg (by omega), if_neg (by omega), if_pos rfl]
    go_enter Tryz.func84, Tryz.ntmps84
    go_wp2_with fail
    go_ret
    exact ⟨rfl, HB0.out⟩
  by_cases g4 : g = 4
  · subst g4
    rw [if_neg (by omega), if_neg (by omega), if_neg (by omega), if_pos rfl]
    generalize pk hs = R at *
    go_enter Tryz.func84, Tryz.ntmps84
    go_wp2_with fail
    go_loopw [5, 6] (fun y z wr => ∃ k : Nat, k ≤ hl ∧ y = .int .i64 (pk (hs.take k)) ∧ z = .int .i64 k ∧ Hid (Below w.heap.size w wr) ∧ Hid (Blk w.heap.size [.string a, .string m, .int .i64 mo, .int .i64 ev, .int .i64 su, .int .i64 mx, .slice ta tl tc, .slice ha hl hc] wr)) (fun y z _ => hl - (intOf z).toNat)
    case atStart => exact ⟨0, by omega, rfl, rfl, HB0, HX0⟩
    case round =>
      obtain ⟨k, hk, rfl, rfl, HB, HX⟩ := hrel
      have hxl := HX.out.1
      have x7 : wr.cell? ⟨w.heap.size, 7, none⟩ = some (.slice ha hl hc) := HX.out.2 7 (by simp)
      by_cases hlt1 : k < hl
      · have hlt2 : (k : Int) < (hl : Int) := by omega
        obtain ⟨b, off, rfl, hbl, c0, c1⟩ := (HI.out.below HB.out).at k (by have := HL.out; omega)
        have HP := hid_intro (pk_take hs k (by have := HL.out; omega))
        generalize hs.getD k H.zero = X at *
        obtain ⟨xh, xs⟩ := X
        dsimp only at c0 c1 HP
        generalize pk (hs.take k) = T at *
        have HM := hid_intro (fun w => smax_any T xs w)
        generalize grt T xs = T2 at *
        go_wp2_with fail
        refine (HM.out _).mono ?_
        rintro e w2 ⟨rfl, rfl⟩
        go_wp2_with fail
        go_roundw
        case rel => exact ⟨k + 1, by omega, by rw [HP.out], by go_num, HB, HX⟩
        case measure => simp [intOf]; omega
      · have hlt2 : ¬ (k : Int) < (hl : Int) := by omega
        obtain rfl : k = hl := by omega
        have HE2 := HE.out
        generalize pk (hs.take k) = T at *
        subst HE2
        go_wp2_with fail
        go_ret
        exact ⟨rfl, HB.out⟩
  · rw [if_neg g1, if_neg g2, if_neg g3, if_neg g4]
    have q1 : (g == 1) = false := by simpa using g1
    have q2 : (g == 2) = false := by simpa using g2
    have q3 : (g == 3) = false := by simpa using g3
    have q4 : (g == 4) = false := by simpa using g4
    go_enter Tryz.func84, Tryz.ntmps84
    go_wp2_with fail
    go_ret
    exact ⟨rfl, HB0.out⟩
end WinR
end Go.Proofs.YtcilbmhkhllmjaaGreatDoor
