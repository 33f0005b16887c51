/-
  What the program calls a window's right hours. The conditions: lists of at most 1048576; the sum is one that may be; the program's table stands in its variable.
  A window as the program works with it, and what it calls right. The conditions: texts of at most 1048576 bytes, lists of at most 1048576; the program's table stands in its variable.
  strings.Clone: the same bytes come back; nothing that was there is written. The condition: the text has at most 2^48 bytes.
  Lists of one's own that grow by append. No condition.
  A window laid in new memory, the program's way. The conditions: texts of at most 1048576 bytes, at most 1048576 tags, 1 to 1048576 hours.
  A text put among others in its place, the model's way. The conditions: at most 1048575 texts, in a list that has room for them.
  An hour added to others in its place, the model's way. The conditions: at most 1048575 hours, in a list that has room for them; sums that are far from running over.
-/
import Derived.Laws.EntriesVeiled
import Derived.Lib.Strings
import Derived.Lib.BufferWrite
import Derived.Lib.UnsafeStr
import Derived.Lib.Hide
import Derived.Laws.MakeOwn
import Derived.OwnWalk
import Derived.Lib.SliceRun
import Derived.Deep.CutRange
import Derived.Deep.QuietTactic
import Derived.Test.YtnlmpejgiakepaaDoorA1
namespace Go.Proofs.YtnlmpejgiakepaaDoor
open Go.ChangeShapes Go.WideShapes Go.ChangeAt Go.RowKit
set_option linter.unusedVariables false
namespace WinR
open RowG LtR
open CatR (Blk Blk.new)
open DateR (Laid)
theorem timed_few {hs : List H} {mo su : Int} (h : ¬ (1 ≤ hs.length ∧ hs.length ≤ 12)) : timedB hs mo su = false := by unfold timedB; rw [decide_eq_false h, Bool.false_and]
theorem timed_in {hs : List H} {mo su : Int} (h : 1 ≤ hs.length ∧ hs.length ≤ 12) : timedB hs mo su = hoursB hs mo su := by unfold timedB; rw [decide_eq_true h, Bool.true_and]
set_option maxRecDepth 100000 in
set_option maxHeartbeats 8000000 in
theorem impl_timed (a m : ByteArray) (mo ev su mx : Int) (hs : List H) (tv : Value) (ha : Option Addr) (hc : Nat) (w : World) (hlen : hs.length ≤ 1048576) (hsu : 0 ≤ su ∧ su ≤ 1000000000000) (hL : Laid w) (hI : Hrs ha hs w) :
  Calls Tryd.prog 76 #[.agg #[.string a, .string m, .int .i64 mo, .int .i64 ev, .int .i64 su, .int .i64 mx, tv, .func (.func 88) #[] #[], .func (.func 89) #[] #[], .slice ha hs.length hc, .func (.func 90) #[] #[], .func (.func 91) #[] #[]]] w fun e w' => e = .returned (.bool (timedB hs mo su)) ∧ Below w.heap.size w w' := by
 have HI := hid_intro hI
 have HLA := hid_intro hL
 have HFEW := hid_intro (timed_few (hs := hs) (mo := mo) (su := su))
 have HIN := hid_intro (timed_in (hs := hs) (mo := mo) (su := su))
 have HRI := hid_intro (hours_rise (hs := hs) (mo := mo) (su := su))
 have HEN := hid_intro (hours_end (hs := hs) (mo := mo) (su := su))
 have HNO := hid_intro (fun k => hours_no (hs := hs) (mo := mo) (su := su) (k := k))
 have HC := hid_intro (fun W (hW : Below w.heap.size w W) => hours_rises ha hc hs W hlen (hI.below hW))
 have HWI := hid_intro (fun w => withinI hs.length 1 12 w)
 generalize timedB hs mo su = R at *
 generalize hoursB hs mo su = Q at *
 generalize riseB hlt H.zero hs = r at *
 obtain ⟨len, hl⟩ : ∃ len, len = hs.length := ⟨_, rfl⟩
 rw [← hl] at hlen HFEW HIN HC HWI ⊢
 have HL := hid_intro hl
 obtain ⟨hs0, hs1⟩ := hsu
 clear hI hl hL
 have HB0 : Hid (Below w.heap.size w (w.alloc (.cells #[.string a, .string m, .int .i64 mo, .int .i64 ev, .int .i64 su, .int .i64 mx, tv, .func (.func 88) #[] #[], .func (.func 89) #[] #[], .slice ha len hc, .func (.func 90) #[] #[], .func (.func 91) #[] #[]] 97))) := hid_intro ((Below.refl _ _).alloc (Nat.le_refl _) _)
 have HX0 := hid_intro (Blk.new w [.string a, .string m, .int .i64 mo, .int .i64 ev, .int .i64 su, .int .i64 mx, tv, .func (.func 88) #[] #[], .func (.func 89) #[] #[], .slice ha len hc, .func (.func 90) #[] #[], .func (.func 91) #[] #[]] 97)
 by_cases h12 : 1 ≤ len ∧ len ≤ 12
 ·rw [decide_eq_true (show (1 : Int) ≤ (len : Int) ∧ (len : Int) ≤ 12 by omega)] at HWI
  have HRQ := hid_intro (HIN.out h12)
  cases r
  ·have HF : Hid (R = false) := hid_intro (by rw [HRQ.out]; exact HRI.out rfl)
   clear HX0 HRI HEN HNO HFEW HIN
   go_enter Tryd.func76, Tryd.ntmps76
   go_wp2_with fail
   refine (HWI.out _).mono ?_
   rintro e w1 ⟨rfl, rfl⟩
   go_wp2_with fail
   refine (HC.out _ HB0.out).mono ?_
   rintro e w2 ⟨rfl, hb1⟩
   have HB1 := hid_intro (HB0.out.trans (hb1.mono HB0.out.size))
   clear hb1
   go_wp2_with fail
   go_ret
   exact ⟨ret_bool HF.out.symm, HB1.out⟩
  ·have HE := hid_intro (HEN.out rfl)
   clear HRI HEN HFEW HIN
   go_enter Tryd.func76, Tryd.ntmps76
   go_wp2_with fail
   refine (HWI.out _).mono ?_
   rintro e w1 ⟨rfl, rfl⟩
   go_wp2_with fail
   refine (HC.out _ HB0.out).mono ?_
   rintro e w2 ⟨rfl, hb1⟩
   have HB1 := hid_intro (HB0.out.trans (hb1.mono HB0.out.size))
   have HX1 := hid_intro (HX0.out.below hb1)
   clear hb1 HB0 HX0
   obtain ⟨xl, xc⟩ := HX1.out
   have x2 : w2.cell? ⟨w.heap.size, 2, none⟩ = some (.int .i64 mo) := xc 2 (by simp)
   have x4 : w2.cell? ⟨w.heap.size, 4, none⟩ = some (.int .i64 su) := xc 4 (by simp)
   have x9 : w2.cell? ⟨w.heap.size, 9, none⟩ = some (.slice ha len hc) := xc 9 (by simp)
   clear xc
   go_wp2_with fail
   go_loopw [3, 25] (fun y z wr => ∃ k : Nat, k ≤ len ∧ y = .int .i64 (su - hsum (hs.take k)) ∧ z = .int .i64 k ∧ Hid (HUp hs mo su k) ∧ Hid (Below w.heap.size w wr) ∧ Hid (w.heap.size < wr.heap.size ∧ wr.cell? ⟨w.heap.size, 2, none⟩ = some (.int .i64 mo))) (fun y z _ => len - (intOf z).toNat)
   case atStart => exact ⟨0, by omega, by simp [hsum], rfl, hid_intro (HUp.zero _ _ _), HB1, hid_intro ⟨xl, x2⟩⟩
   case round =>
    obtain ⟨k, hk, rfl, rfl, HK, HB, HX⟩ := hrel
    clear x2 x4 x9 xl
    obtain ⟨xl, x2⟩ := HX.out
    by_cases hlt1 : k < len
    ·have hlt2 : (k : Int) < (len : Int) := by omega
     have hkl : k < hs.length := by have := HL.out; omega
     obtain ⟨b, off, rfl, hbl, c0, c1⟩ := (HI.out.below HB.out).at k hkl
     have HN := hid_intro (HNO.out k hkl)
     have HM := hid_intro (fun h1 h2 h3 => HK.out.more h1 h2 h3)
     have HST := hid_intro (hsum_take hs k hkl)
     have HSN := hid_intro (HK.out.nn (by omega))
     have HHO := hid_intro (fun W hW => impl_hour_of (hs.getD k H.zero).h mo W hW)
     have HWS := hid_intro (fun w => EvtR.within_any (hs.getD k H.zero).s 0 (su - hsum (hs.take k)) w)
     have hq0 : 0 ≤ su - hsum (hs.take k) ∨ su - hsum (hs.take k) < 0 := by omega
     have hq1 : su - hsum (hs.take k) ≤ 1000000000000 := by have := HSN.out; omega
     generalize hourIn (hs.getD k H.zero).h mo = g at *
     generalize hs.getD k H.zero = X at *
     obtain ⟨xh, xs⟩ := X
     dsimp only at c0 c1 HHO HWS HM HN HST
     generalize hT : hsum (hs.take k) = T at *
     have HLA2 := hid_intro ((HLA.out.below HB.out).below ((Below.refl wr.heap.size wr).alloc (Nat.le_refl _) (Obj.cells #[.int .i64 xh, .int .i64 xs] 65)))
     have HBX := hid_intro (HB.out.alloc HB.out.size (Obj.cells #[.int .i64 xh, .int .i64 xs] 65))
     have HZ := hid_intro (Blk.new wr [.int .i64 xh, .int .i64 xs] 65)
     cases g
     ·have HF : Hid (R = false) := hid_intro (by rw [HRQ.out]; exact HN.out (fun h => by cases h.1))
      go_wp2_with fail
      refine (HHO.out _ HLA2.out).mono ?_
      rintro e w3 ⟨rfl, hb3⟩
      have HB3 := hid_intro (HBX.out.trans (hb3.mono HBX.out.size))
      clear hb3
      go_wp2_with fail
      go_ret
      exact ⟨ret_bool HF.out.symm, HB3.out⟩
     ·go_wp2_with fail
      refine (HHO.out _ HLA2.out).mono ?_
      rintro e w3 ⟨rfl, hb3⟩
      have HB3 := hid_intro (HBX.out.trans (hb3.mono HBX.out.size))
      have HZ3 := hid_intro (HZ.out.below hb3)
      have HX3 : Hid (w.heap.size < w3.heap.size ∧ w3.cell? ⟨w.heap.size, 2, none⟩ = some (.int .i64 mo)) := hid_intro (by
       have hc := hb3.cell (p := ⟨w.heap.size, 2, none⟩) (by simp; omega)
       have := hb3.size
       simp at this
       exact ⟨by omega, (hc.trans (((Below.refl wr.heap.size wr).alloc (Nat.le_refl _) _).cell (p := ⟨w.heap.size, 2, none⟩) xl)).trans x2⟩)
      clear hb3 HZ HBX
      obtain ⟨zl, zc⟩ := HZ3.out
      have z1 : w3.cell? ⟨wr.heap.size, 1, none⟩ = some (.int .i64 xs) := zc 1 (by simp)
      clear zc c0 c1 x2
      by_cases hin : 0 ≤ xs ∧ xs ≤ su - T
      ·rw [decide_eq_true hin] at HWS
       have HM2 := hid_intro (HM.out (by first | rfl | trivial) hin.1 hin.2)
       obtain ⟨hin1, hin2⟩ := hin
       go_wp2_with fail
       refine (HWS.out _).mono ?_
       rintro e w4 ⟨rfl, rfl⟩
       go_wp2_with fail
       go_roundw
       case rel => exact ⟨k + 1, by omega, by rw [HST.out]; congr 1; omega, by go_num, HM2, HB3, HX3⟩
       case measure => simp [intOf]; omega
      ·rw [decide_eq_false hin] at HWS
       have HF : Hid (R = false) := hid_intro (by rw [HRQ.out]; exact HN.out (fun h => hin h.2))
       go_wp2_with fail
       refine (HWS.out _).mono ?_
       rintro e w4 ⟨rfl, rfl⟩
       go_wp2_with fail
       go_ret
       exact ⟨ret_bool HF.out.symm, HB3.out⟩
    ·have hlt2 : ¬ (k : Int) < (len : Int) := by omega
     obtain rfl : k = len := by omega
     have HF : Hid (R = decide (su - hsum (hs.take k) = 0)) := hid_intro (by
      rw [HRQ.out, HE.out (by rw [← HL.out]; exact HK.out), List.take_of_length_le (by have := HL.out; omega)])
     generalize hsum (hs.take k) = T at *
     by_cases hz : su - T = 0
     ·rw [decide_eq_true hz] at HF
      go_wp2_with fail
      go_ret
      exact ⟨ret_bool (by rw [HF.out]; try simp [hz]), HB.out⟩
     ·rw [decide_eq_false hz] at HF
      go_wp2_with fail
      go_ret
      exact ⟨ret_bool (by rw [HF.out]; try simp [hz]), HB.out⟩
 ·rw [decide_eq_false (show ¬ ((1 : Int) ≤ (len : Int) ∧ (len : Int) ≤ 12) by omega)] at HWI
  have HF := hid_intro (HFEW.out h12)
  clear HX0 HC HRI HEN HNO HFEW HIN
  go_enter Tryd.func76, Tryd.ntmps76
  go_wp2_with fail
  refine (HWI.out _).mono ?_
  rintro e w1 ⟨rfl, rfl⟩
  go_wp2_with fail
  go_ret
  exact ⟨ret_bool HF.out.symm, HB0.out⟩
end WinR
end Go.Proofs.YtnlmpejgiakepaaDoor
namespace Go.Proofs.YtnlmpejgiakepaaDoor
open Go.ChangeShapes Go.WideShapes Go.ChangeAt Go.RowKit
set_option linter.unusedVariables false
namespace WinR
open RowG LtR
open CatR (Blk Blk.new)
open DateR (Laid)
open EvtR (Pt)
theorem impl_rtags (ta : Option Addr) (tl tc : Nat) (w : World) :
  Calls Tryd.prog 59 #[.slice ta tl tc] w fun e w' => e = .returned (.agg #[.slice ta tl tc, .func (.func 88) #[] #[], .func (.func 89) #[] #[]]) ∧ Below w.heap.size w w' := by
 go_enter Tryd.func59, Tryd.ntmps59
 go_wp2_with fail
 refine bodyPost_ret (v := .agg #[.slice ta tl tc, .func (.func 88) #[] #[], .func (.func 89) #[] #[]]) (by simp [results, Tryd.results59, go_sem]) rfl ⟨rfl, ?_⟩
 repeat' first | exact Below.refl _ _ | apply Below.setCell | apply Below.alloc
 all_goals first | omega | (simp; done) | (simp; omega)
theorem impl_rhours (ta : Option Addr) (tl tc : Nat) (w : World) :
  Calls Tryd.prog 60 #[.slice ta tl tc] w fun e w' => e = .returned (.agg #[.slice ta tl tc, .func (.func 90) #[] #[], .func (.func 91) #[] #[]]) ∧ Below w.heap.size w w' := by
 go_enter Tryd.func60, Tryd.ntmps60
 go_wp2_with fail
 refine bodyPost_ret (v := .agg #[.slice ta tl tc, .func (.func 90) #[] #[], .func (.func 91) #[] #[]]) (by simp [results, Tryd.results60, go_sem]) rfl ⟨rfl, ?_⟩
 repeat' first | exact Below.refl _ _ | apply Below.setCell | apply Below.alloc
 all_goals first | omega | (simp; done) | (simp; omega)
/-- The window's block and the one that is handed back. -/
def UBx (w : World) (a m : ByteArray) (mo ev su mx : Int) (ta : Option Addr) (tl tc : Nat) (ha : Option Addr) (hl hc : Nat) (W : World) : Prop := Below w.heap.size w W ∧ w.heap.size + 1 < W.heap.size ∧ W.cell? ⟨w.heap.size, 0, none⟩ = some (.string a) ∧ W.cell? ⟨w.heap.size, 1, none⟩ = some (.string m) ∧ W.cell? ⟨w.heap.size, 2, none⟩ = some (.int .i64 mo) ∧ W.cell? ⟨w.heap.size, 3, none⟩ = some (.int .i64 ev) ∧ W.cell? ⟨w.heap.size, 4, none⟩ = some (.int .i64 su) ∧ W.cell? ⟨w.heap.size, 5, none⟩ = some (.int .i64 mx) ∧ W.cell? ⟨w.heap.size, 6, none⟩ = some (.slice ta tl tc) ∧ W.cell? ⟨w.heap.size, 7, none⟩ = some (.slice ha hl hc) ∧ Pt (w.heap.size + 1) 12 W
theorem UBx.below {w : World} {a m : ByteArray} {mo ev su mx : Int} {ta : Option Addr} {tl tc : Nat} {ha : Option Addr} {hl hc : Nat} {W W' : World} (h : UBx w a m mo ev su mx ta tl tc ha hl hc W) (hb : Below W.heap.size W W') : UBx w a m mo ev su mx ta tl tc ha hl hc W' := by
 obtain ⟨h0, h1, c0, c1, c2, c3, c4, c5, c6, c7, hp⟩ := h
 have c := fun o => hb.cell (p := ⟨w.heap.size, o, none⟩) (Nat.lt_trans (Nat.lt_succ_self _) h1)
 have := hb.size
 exact ⟨h0.trans (hb.mono h0.size), by omega, (c 0).trans c0, (c 1).trans c1, (c 2).trans c2, (c 3).trans c3, (c 4).trans c4, (c 5).trans c5, (c 6).trans c6, (c 7).trans c7, hp.below hb⟩
theorem UBx.put {w : World} {a m : ByteArray} {mo ev su mx : Int} {ta : Option Addr} {tl tc : Nat} {ha : Option Addr} {hl hc : Nat} {W : World} (h : UBx w a m mo ev su mx ta tl tc ha hl hc W) (o : Nat) (v : Value) : UBx w a m mo ev su mx ta tl tc ha hl hc (W.setCell ⟨w.heap.size + 1, o, none⟩ v) := by
 obtain ⟨h0, h1, c0, c1, c2, c3, c4, c5, c6, c7, hp⟩ := h
 exact ⟨h0.setCell (by simp) _, by simpa using h1, by simp [go_sem, c0], by simp [go_sem, c1], by simp [go_sem, c2], by simp [go_sem, c3], by simp [go_sem, c4], by simp [go_sem, c5], by simp [go_sem, c6], by simp [go_sem, c7], hp.set _ _⟩
theorem UBx.out {w : World} {a m : ByteArray} {mo ev su mx : Int} {ta : Option Addr} {tl tc : Nat} {ha : Option Addr} {hl hc : Nat} {W : World} (h : UBx w a m mo ev su mx ta tl tc ha hl hc W) : ∃ v0 v1 v2 v3 v4 v5 v6 v7 v8 v9 v10 v11, W.cell? ⟨w.heap.size + 1, 0, none⟩ = some v0 ∧ W.cell? ⟨w.heap.size + 1, 1, none⟩ = some v1 ∧ W.cell? ⟨w.heap.size + 1, 2, none⟩ = some v2 ∧ W.cell? ⟨w.heap.size + 1, 3, none⟩ = some v3 ∧ W.cell? ⟨w.heap.size + 1, 4, none⟩ = some v4 ∧ W.cell? ⟨w.heap.size + 1, 5, none⟩ = some v5 ∧ W.cell? ⟨w.heap.size + 1, 6, none⟩ = some v6 ∧ W.cell? ⟨w.heap.size + 1, 7, none⟩ = some v7 ∧ W.cell? ⟨w.heap.size + 1, 8, none⟩ = some v8 ∧ W.cell? ⟨w.heap.size + 1, 9, none⟩ = some v9 ∧ W.cell? ⟨w.heap.size + 1, 10, none⟩ = some v10 ∧ W.cell? ⟨w.heap.size + 1, 11, none⟩ = some v11 ∧ W.frozen? ⟨w.heap.size + 1, 0, none⟩ = false ∧ W.frozen? ⟨w.heap.size + 1, 1, none⟩ = false ∧ W.frozen? ⟨w.heap.size + 1, 2, none⟩ = false ∧ W.frozen? ⟨w.heap.size + 1, 3, none⟩ = false ∧ W.frozen? ⟨w.heap.size + 1, 4, none⟩ = false ∧ W.frozen? ⟨w.heap.size + 1, 5, none⟩ = false ∧ W.frozen? ⟨w.heap.size + 1, 6, none⟩ = false ∧ W.frozen? ⟨w.heap.size + 1, 7, none⟩ = false ∧ W.frozen? ⟨w.heap.size + 1, 8, none⟩ = false ∧ W.frozen? ⟨w.heap.size + 1, 9, none⟩ = false ∧ W.frozen? ⟨w.heap.size + 1, 10, none⟩ = false ∧ W.frozen? ⟨w.heap.size + 1, 11, none⟩ = false := by
 obtain ⟨_, _, _, _, _, _, _, _, _, _, hp⟩ := h
 obtain ⟨v0, e0⟩ := hp.has 0 (by omega)
 obtain ⟨v1, e1⟩ := hp.has 1 (by omega)
 obtain ⟨v2, e2⟩ := hp.has 2 (by omega)
 obtain ⟨v3, e3⟩ := hp.has 3 (by omega)
 obtain ⟨v4, e4⟩ := hp.has 4 (by omega)
 obtain ⟨v5, e5⟩ := hp.has 5 (by omega)
 obtain ⟨v6, e6⟩ := hp.has 6 (by omega)
 obtain ⟨v7, e7⟩ := hp.has 7 (by omega)
 obtain ⟨v8, e8⟩ := hp.has 8 (by omega)
 obtain ⟨v9, e9⟩ := hp.has 9 (by omega)
 obtain ⟨v10, e10⟩ := hp.has 10 (by omega)
 obtain ⟨v11, e11⟩ := hp.has 11 (by omega)
 exact ⟨v0, v1, v2, v3, v4, v5, v6, v7, v8, v9, v10, v11, e0, e1, e2, e3, e4, e5, e6, e7, e8, e9, e10, e11, hp.free 0 (by omega), hp.free 1 (by omega), hp.free 2 (by omega), hp.free 3 (by omega), hp.free 4 (by omega), hp.free 5 (by omega), hp.free 6 (by omega), hp.free 7 (by omega), hp.free 8 (by omega), hp.free 9 (by omega), hp.free 10 (by omega), hp.free 11 (by omega)⟩
set_option maxRecDepth 100000 in
set_option maxHeartbeats 8000000 in
theorem impl_usage (a m : ByteArray) (mo ev su mx : Int) (ta : Option Addr) (tl tc : Nat) (ha : Option Addr) (hl hc : Nat) (w : World) :
  Calls Tryd.prog 53 #[.agg #[.string a, .string m, .int .i64 mo, .int .i64 ev, .int .i64 su, .int .i64 mx, .slice ta tl tc, .slice ha hl hc]] w fun e w' => e = .returned (.agg #[.string a, .string m, .int .i64 mo, .int .i64 ev, .int .i64 su, .int .i64 mx, .slice ta tl tc, .func (.func 88) #[] #[], .func (.func 89) #[] #[], .slice ha hl hc, .func (.func 90) #[] #[], .func (.func 91) #[] #[]]) ∧ Below w.heap.size w w' := by
 go_enter Tryd.func53, Tryd.ntmps53
 go_wp2_with fail
 have HT0 : Hid (UBx w a m mo ev su mx ta tl tc ha hl hc (((w.alloc (.cells #[.string a, .string m, .int .i64 mo, .int .i64 ev, .int .i64 su, .int .i64 mx, .slice ta tl tc, .slice ha hl hc] 32)).alloc (.cells #[.string ⟨#[]⟩, .string ⟨#[]⟩, .int .i64 0, .int .i64 0, .int .i64 0, .int .i64 0, .slice none 0 0, .nilFunc, .nilFunc, .slice none 0 0, .nilFunc, .nilFunc] 97)).drew)) := hid_intro (by
  refine ⟨((((Below.refl _ _).alloc (Nat.le_refl _) _).alloc (by simp) _).drew), by simp, by simp [go_sem], by simp [go_sem], by simp [go_sem], by simp [go_sem], by simp [go_sem], by simp [go_sem], by simp [go_sem], by simp [go_sem], by simp, fun o ho => ?_, fun o ho => ?_⟩
  ·match o, ho with
   | 0, _ => exact ⟨_, by simp [go_sem]; rfl⟩
   | 1, _ => exact ⟨_, by simp [go_sem]; rfl⟩
   | 2, _ => exact ⟨_, by simp [go_sem]; rfl⟩
   | 3, _ => exact ⟨_, by simp [go_sem]; rfl⟩
   | 4, _ => exact ⟨_, by simp [go_sem]; rfl⟩
   | 5, _ => exact ⟨_, by simp [go_sem]; rfl⟩
   | 6, _ => exact ⟨_, by simp [go_sem]; rfl⟩
   | 7, _ => exact ⟨_, by simp [go_sem]; rfl⟩
   | 8, _ => exact ⟨_, by simp [go_sem]; rfl⟩
   | 9, _ => exact ⟨_, by simp [go_sem]; rfl⟩
   | 10, _ => exact ⟨_, by simp [go_sem]; rfl⟩
   | 11, _ => exact ⟨_, by simp [go_sem]; rfl⟩
  ·match o, ho with
   | 0, _ => simp [go_sem]
   | 1, _ => simp [go_sem]
   | 2, _ => simp [go_sem]
   | 3, _ => simp [go_sem]
   | 4, _ => simp [go_sem]
   | 5, _ => simp [go_sem]
   | 6, _ => simp [go_sem]
   | 7, _ => simp [go_sem]
   | 8, _ => simp [go_sem]
   | 9, _ => simp [go_sem]
   | 10, _ => simp [go_sem]
   | 11, _ => simp [go_sem]
)
 refine wp_region_held_drew (S := (fun W => Below w.heap.size w W ∧ w.heap.size + 1 < W.heap.size ∧ W.cell? ⟨w.heap.size, 0, none⟩ = some (.string a) ∧ W.cell? ⟨w.heap.size, 1, none⟩ = some (.string m) ∧ W.cell? ⟨w.heap.size, 2, none⟩ = some (.int .i64 mo) ∧ W.cell? ⟨w.heap.size, 3, none⟩ = some (.int .i64 ev) ∧ W.cell? ⟨w.heap.size, 4, none⟩ = some (.int .i64 su) ∧ W.cell? ⟨w.heap.size, 5, none⟩ = some (.int .i64 mx) ∧ W.cell? ⟨w.heap.size, 6, none⟩ = some (.slice ta tl tc) ∧ W.cell? ⟨w.heap.size, 7, none⟩ = some (.slice ha hl hc) ∧ Pt (w.heap.size + 1) 12 W)) (by kernel_rfl) HT0.out (fun hHeld => ?_)
 refine tk (i := 0) (oi := { dst := some 3, op := Op.fieldAddr 32 (Operand.tmp 1) 0, type := 0, pos := "l07_window.go:134", after := #[], guard := none }) (v := ?_) ?_ ?_
 rotate_left
 ·(intro w hSw; (try dsimp only at hSw); go_simp) <;> with_reducible rfl
 try simp only [Act.put, SL]
 refine tk (i := 1) (oi := { dst := some 4, op := Op.load 9 (Operand.tmp 3), type := 9, pos := "l07_window.go:134", after := #[{ on := 0, ground := Ground.data }], guard := none }) (v := ?_) ?_ ?_
 rotate_left
 ·(intro w hSw; (try dsimp only at hSw); go_simp) <;> with_reducible rfl
 try simp only [Act.put, SL]
 refine tk (i := 2) (oi := { dst := some 5, op := Op.fieldAddr 32 (Operand.tmp 1) 1, type := 0, pos := "l07_window.go:134", after := #[], guard := none }) (v := ?_) ?_ ?_
 rotate_left
 ·(intro w hSw; (try dsimp only at hSw); go_simp) <;> with_reducible rfl
 try simp only [Act.put, SL]
 refine tk (i := 3) (oi := { dst := some 6, op := Op.load 9 (Operand.tmp 5), type := 9, pos := "l07_window.go:134", after := #[{ on := 2, ground := Ground.data }], guard := none }) (v := ?_) ?_ ?_
 rotate_left
 ·(intro w hSw; (try dsimp only at hSw); go_simp) <;> with_reducible rfl
 try simp only [Act.put, SL]
 refine tk (i := 4) (oi := { dst := some 7, op := Op.fieldAddr 32 (Operand.tmp 1) 2, type := 0, pos := "l07_window.go:134", after := #[], guard := none }) (v := ?_) ?_ ?_
 rotate_left
 ·(intro w hSw; (try dsimp only at hSw); go_simp) <;> with_reducible rfl
 try simp only [Act.put, SL]
 refine tk (i := 5) (oi := { dst := some 8, op := Op.load 2 (Operand.tmp 7), type := 2, pos := "l07_window.go:134", after := #[{ on := 4, ground := Ground.data }], guard := none }) (v := ?_) ?_ ?_
 rotate_left
 ·(intro w hSw; (try dsimp only at hSw); go_simp) <;> with_reducible rfl
 try simp only [Act.put, SL]
 refine tk (i := 6) (oi := { dst := some 9, op := Op.build 85 #[(0, Operand.tmp 4), (1, Operand.tmp 6), (2, Operand.tmp 8)], type := 85, pos := "l07_window.go:134", after := #[{ on := 1, ground := Ground.data }, { on := 3, ground := Ground.data }, { on := 5, ground := Ground.data }], guard := none }) (v := ?_) ?_ ?_
 rotate_left
 ·(intro w hSw; (try dsimp only at hSw); go_simp) <;> with_reducible rfl
 try simp only [Act.put, SL]
 refine tk (i := 7) (oi := { dst := some 10, op := Op.fieldAddr 32 (Operand.tmp 1) 3, type := 0, pos := "l07_window.go:134", after := #[], guard := none }) (v := ?_) ?_ ?_
 rotate_left
 ·(intro w hSw; (try dsimp only at hSw); go_simp) <;> with_reducible rfl
 try simp only [Act.put, SL]
 refine tk (i := 8) (oi := { dst := some 11, op := Op.load 2 (Operand.tmp 10), type := 2, pos := "l07_window.go:134", after := #[{ on := 7, ground := Ground.data }], guard := none }) (v := ?_) ?_ ?_
 rotate_left
 ·(intro w hSw; (try dsimp only at hSw); go_simp) <;> with_reducible rfl
 try simp only [Act.put, SL]
 refine tk (i := 9) (oi := { dst := some 12, op := Op.fieldAddr 32 (Operand.tmp 1) 4, type := 0, pos := "l07_window.go:134", after := #[], guard := none }) (v := ?_) ?_ ?_
 rotate_left
 ·(intro w hSw; (try dsimp only at hSw); go_simp) <;> with_reducible rfl
 try simp only [Act.put, SL]
 refine tk (i := 10) (oi := { dst := some 13, op := Op.load 2 (Operand.tmp 12), type := 2, pos := "l07_window.go:134", after := #[{ on := 9, ground := Ground.data }], guard := none }) (v := ?_) ?_ ?_
 rotate_left
 ·(intro w hSw; (try dsimp only at hSw); go_simp) <;> with_reducible rfl
 try simp only [Act.put, SL]
 refine tk (i := 11) (oi := { dst := some 14, op := Op.fieldAddr 32 (Operand.tmp 1) 5, type := 0, pos := "l07_window.go:134", after := #[], guard := none }) (v := ?_) ?_ ?_
 rotate_left
 ·(intro w hSw; (try dsimp only at hSw); go_simp) <;> with_reducible rfl
 try simp only [Act.put, SL]
 refine tk (i := 12) (oi := { dst := some 15, op := Op.load 2 (Operand.tmp 14), type := 2, pos := "l07_window.go:134", after := #[{ on := 11, ground := Ground.data }], guard := none }) (v := ?_) ?_ ?_
 rotate_left
 ·(intro w hSw; (try dsimp only at hSw); go_simp) <;> with_reducible rfl
 try simp only [Act.put, SL]
 refine tk (i := 13) (oi := { dst := some 16, op := Op.build 87 #[(0, Operand.tmp 11), (1, Operand.tmp 13), (2, Operand.tmp 15)], type := 87, pos := "l07_window.go:134", after := #[{ on := 8, ground := Ground.data }, { on := 10, ground := Ground.data }, { on := 12, ground := Ground.data }], guard := none }) (v := ?_) ?_ ?_
 rotate_left
 ·(intro w hSw; (try dsimp only at hSw); go_simp) <;> with_reducible rfl
 try simp only [Act.put, SL]
 refine tk (i := 14) (oi := { dst := some 17, op := Op.fieldAddr 32 (Operand.tmp 1) 6, type := 0, pos := "l07_window.go:134", after := #[], guard := none }) (v := ?_) ?_ ?_
 rotate_left
 ·(intro w hSw; (try dsimp only at hSw); go_simp) <;> with_reducible rfl
 try simp only [Act.put, SL]
 refine tk (i := 15) (oi := { dst := some 18, op := Op.load 22 (Operand.tmp 17), type := 22, pos := "l07_window.go:134", after := #[{ on := 14, ground := Ground.data }], guard := none }) (v := ?_) ?_ ?_
 rotate_left
 ·(intro w hSw; (try dsimp only at hSw); go_simp) <;> with_reducible rfl
 try simp only [Act.put, SL]
 refine tk (i := 17) (oi := { dst := some 20, op := Op.fieldAddr 32 (Operand.tmp 1) 7, type := 0, pos := "l07_window.go:134", after := #[], guard := none }) (v := ?_) ?_ ?_
 rotate_left
 ·(intro w hSw; (try dsimp only at hSw); go_simp) <;> with_reducible rfl
 try simp only [Act.put, SL]
 refine tk (i := 18) (oi := { dst := some 21, op := Op.load 30 (Operand.tmp 20), type := 30, pos := "l07_window.go:134", after := #[{ on := 17, ground := Ground.data }], guard := none }) (v := ?_) ?_ ?_
 rotate_left
 ·(intro w hSw; (try dsimp only at hSw); go_simp) <;> with_reducible rfl
 try simp only [Act.put, SL]
 refine wpAnyH_ready (rs := [16]) (by kernel_rfl) (by simp) ?_
 refine AllReadyH.cons (o := { dst := some 19, op := Op.call { callee := Callee.value (Operand.func 59), args := #[Operand.tmp 18], argTypes := #[22] }, type := 91, pos := "l07_window.go:137", after := #[{ on := 15, ground := Ground.data }], guard := none }) rfl (fun K hK => ?_) AllReadyH.nil
 go_simp
 go_at_call 59
 refine (impl_rtags _ _ _ _).mono ?_
 rintro e q1 ⟨rfl, hq1⟩
 try go_wp2_with fail
 have hk1 := @UBx.below w a m mo ev su mx ta tl tc ha hl hc _ _ HT0.out hq1
 refine hK.out _ _ hk1 (fun _ => ?_)
 clear hK K
 try simp only [Act.put, SL]
 refine wpAnyH_ready (rs := [19]) (by kernel_rfl) (by simp) ?_
 refine AllReadyH.cons (o := { dst := some 22, op := Op.call { callee := Callee.value (Operand.func 60), args := #[Operand.tmp 21], argTypes := #[30] }, type := 95, pos := "l07_window.go:138", after := #[{ on := 18, ground := Ground.data }, { on := 16, ground := Ground.chain }], guard := none }) rfl (fun K hK => ?_) AllReadyH.nil
 go_simp
 go_at_call 60
 refine (impl_rhours _ _ _ _).mono ?_
 rintro e q2 ⟨rfl, hq2⟩
 try go_wp2_with fail
 have hk2 := @UBx.below w a m mo ev su mx ta tl tc ha hl hc _ _ hk1 hq2
 refine hK.out _ _ hk2 (fun _ => ?_)
 clear hK K
 try simp only [Act.put, SL]
 refine tk (i := 20) (oi := { dst := some 23, op := Op.build 97 #[(0, Operand.tmp 9), (1, Operand.tmp 16), (2, Operand.tmp 19), (3, Operand.tmp 22)], type := 97, pos := "l07_window.go:134", after := #[{ on := 6, ground := Ground.data }, { on := 13, ground := Ground.data }, { on := 16, ground := Ground.data }, { on := 19, ground := Ground.data }], guard := none }) (v := ?_) ?_ ?_
 rotate_left
 ·(intro w hSw; (try dsimp only at hSw); go_simp) <;> with_reducible rfl
 try simp only [Act.put, SL]
 obtain ⟨v0, v1, v2, v3, v4, v5, v6, v7, v8, v9, v10, v11, r0, r1, r2, r3, r4, r5, r6, r7, r8, r9, r10, r11, z0, z1, z2, z3, z4, z5, z6, z7, z8, z9, z10, z11⟩ := @UBx.out w a m mo ev su mx ta tl tc ha hl hc _ hk2
 have hlt := hk2.2.1
 refine wpAnyH_ready (rs := [21]) (by kernel_rfl) (by simp) ?_
 refine AllReadyH.cons (o := { dst := none, op := Op.store 97 (Operand.tmp 2) (Operand.tmp 23), type := 0, pos := "l07_window.go:134", after := #[{ on := 20, ground := Ground.data }, { on := 19, ground := Ground.chain }, { on := 0, ground := Ground.phase }, { on := 1, ground := Ground.phase }, { on := 2, ground := Ground.phase }, { on := 3, ground := Ground.phase }, { on := 4, ground := Ground.phase }, { on := 5, ground := Ground.phase }, { on := 6, ground := Ground.phase }, { on := 7, ground := Ground.phase }, { on := 8, ground := Ground.phase }, { on := 9, ground := Ground.phase }, { on := 10, ground := Ground.phase }, { on := 11, ground := Ground.phase }, { on := 12, ground := Ground.phase }, { on := 13, ground := Ground.phase }, { on := 14, ground := Ground.phase }, { on := 15, ground := Ground.phase }, { on := 16, ground := Ground.phase }, { on := 17, ground := Ground.phase }, { on := 18, ground := Ground.phase }, { on := 19, ground := Ground.phase }, { on := 20, ground := Ground.phase }], guard := none }) rfl (fun K hK => ?_) AllReadyH.nil
 go_simp
 try go_wp2_with fail
 have hk3 := (@UBx.put w a m mo ev su mx ta tl tc ha hl hc _ (@UBx.put w a m mo ev su mx ta tl tc ha hl hc _ (@UBx.put w a m mo ev su mx ta tl tc ha hl hc _ (@UBx.put w a m mo ev su mx ta tl tc ha hl hc _ (@UBx.put w a m mo ev su mx ta tl tc ha hl hc _ (@UBx.put w a m mo ev su mx ta tl tc ha hl hc _ (@UBx.put w a m mo ev su mx ta tl tc ha hl hc _ (@UBx.put w a m mo ev su mx ta tl tc ha hl hc _ (@UBx.put w a m mo ev su mx ta tl tc ha hl hc _ (@UBx.put w a m mo ev su mx ta tl tc ha hl hc _ (@UBx.put w a m mo ev su mx ta tl tc ha hl hc _ (@UBx.put w a m mo ev su mx ta tl tc ha hl hc _ hk2 0 (.string a)) 1 (.string m)) 2 (.int .i64 mo)) 3 (.int .i64 ev)) 4 (.int .i64 su)) 5 (.int .i64 mx)) 6 (.slice ta tl tc)) 7 (.func (.func 88) #[] #[])) 8 (.func (.func 89) #[] #[])) 9 (.slice ha hl hc)) 10 (.func (.func 90) #[] #[])) 11 (.func (.func 91) #[] #[]))
 refine hK.out _ _ hk3 (fun _ => ?_)
 clear hK K
 try simp only [Act.put, SL]
 refine wpAnyH_done (by kernel_rfl) ?_ _
 have HB := hid_intro hk3.1
 clear hk3 hk2 hk1
 go_wp2_with fail
 refine bodyPost_ret (v := .agg #[.string a, .string m, .int .i64 mo, .int .i64 ev, .int .i64 su, .int .i64 mx, .slice ta tl tc, .func (.func 88) #[] #[], .func (.func 89) #[] #[], .slice ha hl hc, .func (.func 90) #[] #[], .func (.func 91) #[] #[]]) (by simp [results, Tryd.results53, go_sem, r0, r1, r2, r3, r4, r5, r6, r7, r8, r9, r10, r11]) rfl ⟨rfl, HB.out⟩
end WinR
end Go.Proofs.YtnlmpejgiakepaaDoor
namespace Go.Proofs.YtnlmpejgiakepaaDoor
open Go.ChangeShapes Go.WideShapes Go.ChangeAt Go.RowKit
set_option linter.unusedVariables false
namespace CloneR
theorem hid_intro {p : Prop} (h : p) : Hid p := h
theorem info8 : (Tryd.prog.info? 5).map (fun i => (i.zero, i.size, i.bytes)) = some (some (.int .u8 0), 1, 1) := by kernel_rfl
set_option maxHeartbeats 4000000 in
set_option maxRecDepth 100000 in
theorem lite_any (s : ByteArray) (w : World) (hlim : s.size ≤ 281474976710656) :
  Calls Tryd.prog 107 #[.string s] w fun e w' => e = .returned (.string s) ∧ Below w.heap.size w w' := by
 by_cases h0 : s.size = 0
 ·obtain rfl : s = ⟨#[]⟩ := ByteArray.ext (Array.eq_empty_of_size_eq_zero h0)
  go_enter Tryd.func107, Tryd.ntmps107
  go_wp2
  go_ret
  exact ⟨rfl, Below.refl _ _⟩
 ·obtain ⟨i0, hi, hz0, hz1, hz2⟩ := info_parts info8
  have hone : (Tryd.prog.info? 5).map (·.size) = some 1 := by rw [hi]; simp [hz1]
  have hcells : Tryd.prog.cellsOf 5 = 1 := by simp [Program.cellsOf, hi, hz1]
  obtain ⟨M, hM⟩ : ∃ M, M = madeCells (Value.int .u8 0).cells (((s.size : Nat) : Int).toNat * i0.size) := ⟨_, rfl⟩
  have hMs : M.size = s.size := by rw [hM, size_madeCells, hz1]; simp
  have hmake : ∀ W : World, (Instr.makeSlice 118 (.int .i64 (s.size : Int)) (.int .i64 (s.size : Int))).run Tryd.prog W = .ok (.slice (some ⟨W.heap.size, 0, none⟩) s.size s.size) (W.alloc (.cells M 5)) := fun W => by
   have h := run_make (P := Tryd.prog) W 118 5 i0 (.int .u8 0) Tryd.underlying118 hi hz0 .i64 .i64 (s.size : Int) (s.size : Int) (by omega) (by omega) (by rw [hz2]; omega) (by omega)
   rw [← hM] at h
   simpa using h
  clear hM
  have hcopy := Lib.run_copy_row_string (P := Tryd.prog) (w.alloc (.cells M 5)) 118 9 3 5 w.heap.size 0 s.size s.size s M 5 Tryd.underlying118 hone (heap_alloc_new w _) (Nat.le_refl _) (by omega)
  obtain ⟨Y, hY⟩ : ∃ Y, Y = (M.toList.take 0 ++ Lib.byteCells s.data.toList ++ M.toList.drop (0 + s.size)).toArray := ⟨_, rfl⟩
  rw [← hY] at hcopy
  have hYl : Y.toList = Lib.byteCells s.data.toList := by
   rw [hY, List.toList_toArray, List.take_zero, List.nil_append, List.drop_of_length_le (by rw [Array.length_toList]; omega), List.append_nil]
  have hYs : Y.size = s.size := by rw [← Array.length_toList, hYl, Lib.byteCells_length, ← Lib.size_eq]
  have hg : ((w.alloc (.cells M 5)).setRow w.heap.size Y).heap[w.heap.size]? = some (.cells Y 5 (0, 0)) := setRow_heap _ _ M _ 5 (0, 0) (heap_alloc_new w _)
  have hne : s.data.toList ≠ [] := fun e => h0 (by rw [Lib.size_eq, e]; rfl)
  have hstr := Lib.run_unsafeString_row (P := Tryd.prog) ((w.alloc (.cells M 5)).setRow w.heap.size Y) 137 3 9 5 Tryd.underlying137 hcells w.heap.size Y.size (by unfold World.shape?; rw [hg]) s.data.toList hne (by rw [← Lib.size_eq]; omega) (by rw [← Lib.size_eq]; omega)
   (fun j x hx => Lib.cells_of_row hg Y.size j _ (by rw [List.take_of_length_le (by rw [Array.length_toList]; exact Nat.le_refl _), hYl]; simp [Lib.byteCells, hx]))
  rw [← Lib.size_eq] at hstr
  clear hY
  go_enter Tryd.func107, Tryd.ntmps107
  go_wp2
  go_ret
  have b1 : Below w.heap.size w (w.alloc (.cells M 5)) := (Below.refl _ w).alloc (Nat.le_refl _) _
  have b2 : Below w.heap.size (w.alloc (.cells M 5)) ((w.alloc (.cells M 5)).setRow w.heap.size Y) := ⟨rfl, rfl, rfl, by simp, fun k hk => setRow_other _ _ _ _ (by omega)⟩
  exact ⟨rfl, Lib.below_freeze (b1.trans b2) (p := ⟨w.heap.size, 0, none⟩) (Nat.le_refl _) _⟩
theorem clone_any (s : ByteArray) (w : World) (hlim : s.size ≤ 281474976710656) :
  Calls Tryd.prog 80 #[.string s] w fun e w' => e = .returned (.string s) ∧ Below w.heap.size w w' := by
 have H := hid_intro (fun w => lite_any s w hlim)
 go_enter Tryd.func80, Tryd.ntmps80
 go_wp2_with (go_at_call 107; refine (H.out _).mono ?_; rintro e w1 ⟨rfl, hb⟩)
 go_ret
 exact ⟨rfl, hb⟩
end CloneR
end Go.Proofs.YtnlmpejgiakepaaDoor
namespace Go.Proofs.YtnlmpejgiakepaaDoor
open Go.ChangeShapes Go.WideShapes Go.ChangeAt Go.RowKit
set_option linter.unusedVariables false
namespace WinR
open CatR (Blk)
theorem own_drew {w : World} {base e size n : Nat} {v : Value} {xs : List Value} (h : w.ownsRow base e size v n xs) : w.drew.ownsRow base e size v n xs := h
theorem step_append_own {P : Program} {w : World} {ops : Array Oper} {o : Oper} {a : Act} {K : Act → World → Prop} {Q : Exit → Act → World → Prop} {E : Prop} (hgd : o.guard = none) (s x : Operand) (t : TypeId)
  (ho : o.op = .call { callee := .builtin .append, args := #[s, x], argTypes := #[t, t] })
  (base : Nat) (e : TypeId) (i : TypeInfo) (z : Value) (size bytes : Nat) (ht : P.underlying t = some (.slice e)) (hi : P.info? e = some i) (hz : i.zero = some z)
  (hsize : i.size = size) (hby : i.bytes = bytes) (hzs : z.cells.size = size) (hsz : 0 < size)
  (v : Value) (n : Nat) (xs : List Value) (hs : a.eval s = v) (hown : w.ownsRow base e size v n xs)
  (ad : Addr) (m c : Nat) (news : List Value) (hx : a.eval x = .slice (some ad) m c) (hl : news.length = m * size) (hnews : ∀ j u, news[j]? = some u → w.cell? (ad.add j) = some u) (h1 : ∀ u ∈ news, u.oneCell' = true)
  (h63 : n + m ≤ maxLen) (hbytes : (n + m) * bytes ≤ 140737488355328) (hbase : base ≤ w.heap.size)
  (h : ∀ v' w', w'.ownsRow base e size v' (n + m) (xs ++ news) → w.grownBy w' v.ownBlock → (v' = .slice none 0 0 ↔ v = .slice none 0 0 ∧ m = 0) → K (a.put o.dst v') w') : if Region.wanted o (yielded ops a.tmps) = true then Oper.wp P o a w K Q else E := by
 have hw : Region.wanted o (yielded ops a.tmps) = true := by simp [Region.wanted, hgd]
 rw [if_pos hw]
 exact wp_append_own w s x t ho base e i z size bytes ht hi hz hsize hby hzs hsz v n xs hs hown ad m c news hx hl hnews h1 h63 hbytes hbase h
theorem own_base {w : World} {base e size n : Nat} {v : Value} {xs : List Value} (h : w.ownsRow base e size v n xs) (hv : v ≠ .slice none 0 0) : base ≤ w.heap.size := by
 rcases h.2 with ⟨h0, _⟩ | ⟨g, cap, cur, h1, h2, hg, _⟩
 ·exact absurd h0 hv
 ·have := (Array.getElem?_eq_some_iff.1 hg).1
  omega
theorem two_cells (w : World) (x y : ByteArray) (T : TypeId) : ∀ j u, [Value.string x, Value.string y][j]? = some u → (w.alloc (.cells #[.string x, .string y] T)).cell? ((⟨w.heap.size, 0, none⟩ : Addr).add j) = some u := by
 intro j u hj
 match j, hj with
 | 0, hj => simp at hj; subst hj; simp [Addr.add]
 | 1, hj => simp at hj; subst hj; simp [Addr.add, go_sem]
theorem two_one (x y : ByteArray) : ∀ u ∈ [Value.string x, Value.string y], u.oneCell' = true := by
 intro u hu
 simp at hu
 rcases hu with rfl | rfl <;> rfl
theorem one_cell (w : World) (x : ByteArray) (T : TypeId) : ∀ j u, [Value.string x][j]? = some u → (w.alloc (.cells #[.string x] T)).cell? ((⟨w.heap.size, 0, none⟩ : Addr).add j) = some u := by
 intro j u hj
 match j, hj with
 | 0, hj => simp at hj; subst hj; simp [Addr.add]
theorem one_one (x : ByteArray) : ∀ u ∈ [Value.string x], u.oneCell' = true := by
 intro u hu
 simp at hu
 subst hu; rfl
theorem blk_grown {b : Nat} {cs : List Value} {w w' : World} {row : Option Nat} (h : Blk b cs w) (hg : w.grownBy w' row) (hne : some b ≠ row) : Blk b cs w' := by
 have e := hg.block b h.1 hne
 exact ⟨by have := hg.size; have := h.1; omega, fun i hi => (World.cell?_of_block (a := ⟨b, i, none⟩) e).trans (h.2 i hi)⟩
end WinR
end Go.Proofs.YtnlmpejgiakepaaDoor
namespace Go.Proofs.YtnlmpejgiakepaaDoor
open Go.ChangeShapes Go.WideShapes Go.ChangeAt Go.RowKit
set_option linter.unusedVariables false
namespace WinR
open RowG (MadeG Rws cellsAll cellsAll_len cellsAll_get own_made take_more getD_mem own_set)
open EvtR (Pt)
open CatR (Blk Blk.new)
theorem hrs_cells {b off : Nat} {hs : List H} {w : World} (h : Hrs (some ⟨b, off, none⟩) hs w) : ∀ j u, (cellsAll H.cells hs)[j]? = some u → w.cell? ⟨b, off + j, none⟩ = some u := by
 intro j u hj
 have hlt := (List.getElem?_eq_some_iff.1 hj).1
 rw [cellsAll_len H.len hs] at hlt
 have e : j = (j / 2) * 2 + j % 2 := by omega
 have hi : j / 2 < hs.length := by omega
 rw [e, cellsAll_get (z := H.zero) H.len hs (j / 2) (j % 2) hi (by omega)] at hj
 rcases h with h0 | ⟨b', off', he, _, hc⟩
 ·omega
 ·simp only [Option.some.injEq, Addr.mk.injEq, and_true] at he
  obtain ⟨rfl, rfl⟩ := he
  have := hc (j / 2) hi (j % 2) (by omega)
  rw [show off + j = off + j / 2 * 2 + j % 2 by omega, this]
  exact hj
theorem hrs_one (hs : List H) : ∀ v ∈ cellsAll H.cells hs, v.oneCell' = true := by
 intro v hv
 simp only [cellsAll, List.mem_flatMap, H.cells, List.mem_cons, List.not_mem_nil, or_false] at hv
 obtain ⟨x, _, rfl | rfl⟩ := hv <;> rfl
/-- A list's address and room. -/
def SlOk (ao : Option Addr) (n c : Nat) : Prop := (ao = none ∧ n = 0 ∧ c = 0) ∨ (∃ b off, ao = some ⟨b, off, none⟩ ∧ n ≤ c ∧ c ≤ maxLen)
theorem own_slok {w : World} {base e size n l c : Nat} {ao : Option Addr} {xs : List Value} (h : w.ownsRow base e size (.slice ao l c) n xs) : SlOk ao l c := by
 rcases h.2 with ⟨h0, _⟩ | ⟨g, cap, cur, hv, _, _, hc, hm, _⟩
 ·simp only [Value.slice.injEq] at h0
  exact .inl h0
 ·simp only [Value.slice.injEq] at hv
  obtain ⟨rfl, rfl, rfl⟩ := hv
  exact .inr ⟨g, 0, rfl, hc, hm⟩
/-- The room of a window's lists. -/
def SlW (v : Value) : Prop := ∃ a m mo ev su mx ta tl tc ha hl hc, v = .agg #[.string a, .string m, .int .i64 mo, .int .i64 ev, .int .i64 su, .int .i64 mx, .slice ta tl tc, .slice ha hl hc] ∧ SlOk ta tl tc ∧ SlOk ha hl hc
def MadeWS (base : Nat) (x : Wd) (v : Value) (w : World) : Prop := MadeW base x v w ∧ SlW v
set_option maxRecDepth 100000 in
set_option maxHeartbeats 4000000 in
theorem clone_hrs (b off cap : Nat) (hs : List H) (w : World) (h5 : hs.length ≤ 1048576) (hI : Hrs (some ⟨b, off, none⟩) hs w) :
  Calls Tryd.prog 81 #[.slice (some ⟨b, off, none⟩) hs.length cap] w fun e w' => ∃ ao cp, e = .returned (.slice ao hs.length cp) ∧ (MadeG 2 H.cells H.zero w.heap.size ao hs w' ∧ SlOk ao hs.length cp) ∧ Below w.heap.size w w' := by
 obtain ⟨i0, hi, hz0, hz1, hz2⟩ := info_parts infoH
 have HC := hid_intro (hrs_cells hI)
 have HL := hid_intro (cellsAll_len H.len hs)
 have H1 := hid_intro (hrs_one hs)
 have HM : Hid (∀ v w', w'.ownsRow w.heap.size 65 2 v hs.length (cellsAll H.cells hs) → ∃ ao cp, v = .slice ao hs.length cp ∧ (MadeG 2 H.cells H.zero w.heap.size ao hs w' ∧ SlOk ao hs.length cp)) := hid_intro (fun v w' h => by
  obtain ⟨ao, cp, rfl, hm⟩ := own_made (z := H.zero) H.len h
  exact ⟨ao, cp, rfl, hm, own_slok h⟩)
 generalize MadeG 2 H.cells H.zero w.heap.size = M at *
 generalize cellsAll H.cells hs = C at *
 generalize hs.length = len at *
 clear hI
 have hnil := fun W => Lib.run_eql_slice_nil (P := Tryd.prog) W 30 65 (some ⟨b, off, none⟩) len cap 0 0 Tryd.underlying30
 have HE0 : Hid ((w.alloc (.cells #[] 65)).ownsRow w.heap.size 65 2 (.slice (some ⟨w.heap.size, 0, none⟩) 0 0) 0 []) := hid_intro (World.ownsRow_made w #[] 0 (Nat.le_refl _) (by unfold maxLen; omega) (by simp))
 have HN : Hid (∀ j u, C[j]? = some u → (w.alloc (.cells #[] 65)).cell? ((⟨b, off, none⟩ : Addr).add j) = some u) := hid_intro (fun j u hj => by
  have h := HC.out j u hj
  rw [Addr.add_lit]
  exact (((Below.refl w.heap.size w).alloc (Nat.le_refl _) _).cell (p := ⟨b, off + j, none⟩) (World.block_lt_of_cell? w ⟨b, off + j, none⟩ h)).trans h)
 go_enter Tryd.func81, Tryd.ntmps81
 go_wp2_with (at_builtin; refine wpList_append_own _ rfl _ _ 30 rfl w.heap.size 65 i0 (.agg #[.int .i64 0, .int .i64 0]) 2 16 Tryd.underlying30 hi hz0 hz1 hz2 rfl (by decide) _ _ _ rfl HE0.out ⟨b, off, none⟩ len cap C rfl HL.out HN.out H1.out (by unfold maxLen; omega) (by omega) (by simp) ?_)
 intro v1 w1 hown hgrow hne
 have HO : Hid (w1.ownsRow w.heap.size 65 2 v1 len C) := hid_intro (by first | exact hown | simpa using hown)
 have HB : Hid (Below w.heap.size w w1) := hid_intro (((Below.refl _ _).alloc (Nat.le_refl _) _).grown hgrow (by simp) (fun k e => by simp [Value.ownBlock] at e; omega))
 obtain ⟨ao, cp, rfl, hm⟩ := HM.out _ _ HO.out
 have HMM := hid_intro hm
 clear hown hgrow hne hm
 go_wp2_with fail
 go_ret
 exact ⟨_, _, rfl, HMM.out, HB.out⟩
theorem own_slice {w : World} {base e size n : Nat} {v : Value} {xs : List Value} (h : w.ownsRow base e size v n xs) : ∃ a l c, v = .slice a l c := by
 rcases h.2 with ⟨h0, _⟩ | ⟨g, cap, cur, hv, _⟩
 ·exact ⟨_, _, _, h0⟩
 ·exact ⟨_, _, _, hv⟩
/-- What the round's region reads: the tags so far. -/
def VWx (W0 : World) (V : Nat) (tv : Value) (W : World) : Prop := Below W0.heap.size W0 W ∧ V < W.heap.size ∧ W.cell? ⟨V, 6, none⟩ = some tv ∧ W.frozen? ⟨V, 6, none⟩ = false
theorem VWx.below {W0 : World} {V : Nat} {tv : Value} {W W' : World} (h : VWx W0 V tv W) (hb : Below W.heap.size W W') : VWx W0 V tv W' :=
 ⟨h.1.trans (hb.mono h.1.size), Nat.lt_of_lt_of_le h.2.1 hb.size, (hb.cell (p := ⟨V, 6, none⟩) h.2.1).trans h.2.2.1, (hb.frozen (p := ⟨V, 6, none⟩) h.2.1).trans h.2.2.2⟩
theorem VWx.grown {W0 : World} {V : Nat} {tv : Value} {W W' : World} {row : Option Nat} (h : VWx W0 V tv W) (hg : W.grownBy W' row) (hr : ∀ g, row = some g → V + 1 ≤ g) (hV : W0.heap.size ≤ V) : VWx W0 V tv W' := by
 have e := hg.block V h.2.1 (fun q => by have := hr V q.symm; omega)
 exact ⟨h.1.grown hg h.1.size (fun k q => by have := hr k q; omega), Nat.lt_of_lt_of_le h.2.1 hg.size, (World.cell?_of_block (a := ⟨V, 6, none⟩) e).trans h.2.2.1, (World.frozen?_of_block (a := ⟨V, 6, none⟩) e).trans h.2.2.2⟩
theorem BlkW.grown {b : Nat} {cs : List Value} {w w' : World} {row : Option Nat} (h : BlkW b cs w) (hg : w.grownBy w' row) (hne : some b ≠ row) : BlkW b cs w' := by
 have e := hg.block b h.1.1 hne
 exact ⟨⟨Nat.lt_of_lt_of_le h.1.1 hg.size, fun i hi => (World.cell?_of_block (a := ⟨b, i, none⟩) e).trans (h.1.2 i hi)⟩, fun i hi => (World.frozen?_of_block (a := ⟨b, i, none⟩) e).trans (h.2 i hi)⟩
/-- What the first region reads. -/
def UWx (w W0 : World) (a m : ByteArray) (mo ev su mx : Int) (W : World) : Prop := Below W0.heap.size W0 W ∧ w.heap.size < W0.heap.size ∧ W.cell? ⟨w.heap.size, 0, none⟩ = some (.string a) ∧ W.cell? ⟨w.heap.size, 1, none⟩ = some (.string m) ∧ W.cell? ⟨w.heap.size, 2, none⟩ = some (.int .i64 mo) ∧ W.cell? ⟨w.heap.size, 3, none⟩ = some (.int .i64 ev) ∧ W.cell? ⟨w.heap.size, 4, none⟩ = some (.int .i64 su) ∧ W.cell? ⟨w.heap.size, 5, none⟩ = some (.int .i64 mx)
theorem UWx.below {w W0 : World} {a m : ByteArray} {mo ev su mx : Int} {W W' : World} (h : UWx w W0 a m mo ev su mx W) (hb : Below W.heap.size W W') : UWx w W0 a m mo ev su mx W' := by
 obtain ⟨h0, h1, c0, c1, c2, c3, c4, c5⟩ := h
 have c := fun o => hb.cell (p := ⟨w.heap.size, o, none⟩) (Nat.lt_of_lt_of_le h1 h0.size)
 exact ⟨h0.trans (hb.mono h0.size), h1, (c 0).trans c0, (c 1).trans c1, (c 2).trans c2, (c 3).trans c3, (c 4).trans c4, (c 5).trans c5⟩
theorem UWx.put {w W0 : World} {a m : ByteArray} {mo ev su mx : Int} {W : World} (h : UWx w W0 a m mo ev su mx W) (V o : Nat) (v : Value) (hV : W0.heap.size ≤ V) : UWx w W0 a m mo ev su mx (W.setCell ⟨V, o, none⟩ v) := by
 obtain ⟨h0, h1, c0, c1, c2, c3, c4, c5⟩ := h
 have e := (RowG.grown_set W V o v).block w.heap.size (Nat.lt_of_lt_of_le h1 h0.size) (by simp; omega)
 have c := fun k => World.cell?_of_block (a := ⟨w.heap.size, k, none⟩) e
 exact ⟨h0.setCell hV _, h1, (c 0).trans c0, (c 1).trans c1, (c 2).trans c2, (c 3).trans c3, (c 4).trans c4, (c 5).trans c5⟩
set_option maxRecDepth 100000 in
set_option maxHeartbeats 16000000 in
theorem win_in (a m : ByteArray) (mo ev su mx : Int) (ts : List ByteArray) (ta : Option Addr) (tc : Nat) (hs : List H) (hb ho hc : Nat) (w : World) (la : a.size ≤ 1048576) (lm : m.size ≤ 1048576) (lt : ts.length ≤ 1048576) (lts : ∀ t ∈ ts, t.size ≤ 1048576) (lh : hs.length ≤ 1048576) (hT : Tgs ta ts w) (hH : Hrs (some ⟨hb, ho, none⟩) hs w) :
  Calls Tryd.prog 56 #[.agg #[.string a, .string m, .int .i64 mo, .int .i64 ev, .int .i64 su, .int .i64 mx, .slice ta ts.length tc, .func (.func 88) #[] #[], .func (.func 89) #[] #[], .slice (some ⟨hb, ho, none⟩) hs.length hc, .func (.func 90) #[] #[], .func (.func 91) #[] #[]]] w fun e w' => ∃ v, e = .returned v ∧ MadeWS w.heap.size ⟨a, m, mo, ev, su, mx, ts, hs⟩ v w' ∧ Below w.heap.size w w' := by
 obtain ⟨i0, hi, hz0, hz1, hz2⟩ := info_parts infoT
 have C1 := hid_intro (fun w => CloneR.clone_any a w (by omega))
 have C2 := hid_intro (fun w => CloneR.clone_any m w (by omega))
 have HT := hid_intro hT
 have HLT := hid_intro lts
 have HCH := hid_intro (fun W (hW : Below w.heap.size w W) => clone_hrs hb ho hc hs W lh (hH.below hW))
 have HF : Hid (∀ W V tv ha cp, w.heap.size ≤ V → W.ownsRow (V + 1) 9 1 tv ts.length (cellsAll tcells ts) → MadeG 2 H.cells H.zero w.heap.size ha hs W → (∀ g, tv.ownBlock = some g → ∀ b o, ha = some ⟨b, o, none⟩ → hs.length ≠ 0 → g ≠ b) → SlOk ha hs.length cp → ∃ ta' tc', tv = .slice ta' ts.length tc' ∧ MadeWS w.heap.size ⟨a, m, mo, ev, su, mx, ts, hs⟩ (.agg #[.string a, .string m, .int .i64 mo, .int .i64 ev, .int .i64 su, .int .i64 mx, tv, .slice ha hs.length cp]) W) := hid_intro (fun W V tv ha cp hV h1 h2 h3 h4 => by
  obtain ⟨ta', tc', rfl, hm⟩ := own_made (z := tz) t_len h1
  refine ⟨ta', tc', rfl, ⟨ta', tc', ha, cp, rfl, hm.low (by omega), h2, ?_⟩, _, _, _, _, _, _, _, _, _, _, _, _, rfl, own_slok h1, h4⟩
  rcases hm.own with h0 | ⟨g, e1, _, _⟩
  ·exact .inl h0
  ·by_cases hh0 : hs.length = 0
   ·exact .inr (.inl hh0)
   ·refine .inr (.inr (fun b o b' o' q1 q2 => ?_))
    have := h3 g (by rw [e1]; rfl) b' o' q2 hh0
    rw [e1] at q1
    simp at q1
    omega)
 generalize MadeWS w.heap.size ⟨a, m, mo, ev, su, mx, ts, hs⟩ = M at *
 obtain ⟨tl, htl⟩ : ∃ tl, tl = ts.length := ⟨_, rfl⟩
 obtain ⟨hl, hhl⟩ : ∃ hl, hl = hs.length := ⟨_, rfl⟩
 have HTL := hid_intro htl
 have HHL := hid_intro hhl
 rw [← htl] at lt HF ⊢
 rw [← hhl] at lh HCH HF ⊢
 clear hT hH lts htl hhl
 obtain ⟨W0, hW0⟩ : ∃ W0, W0 = (w.alloc (.cells #[.string a, .string m, .int .i64 mo, .int .i64 ev, .int .i64 su, .int .i64 mx, .slice ta tl tc, .func (.func 88) #[] #[], .func (.func 89) #[] #[], .slice (some ⟨hb, ho, none⟩) hl hc, .func (.func 90) #[] #[], .func (.func 91) #[] #[]] 97)).alloc (.cells #[.string ⟨#[]⟩, .string ⟨#[]⟩, .int .i64 0, .int .i64 0, .int .i64 0, .int .i64 0, .slice none 0 0, .slice none 0 0] 32) := ⟨_, rfl⟩
 have HW0 := hid_intro hW0
 have HB0 : Hid (Below w.heap.size w W0) := hid_intro (by rw [hW0]; exact ((Below.refl _ _).alloc (Nat.le_refl _) _).alloc (by simp) _)
 have HX0 : Hid (Blk w.heap.size [.string a, .string m, .int .i64 mo, .int .i64 ev, .int .i64 su, .int .i64 mx, .slice ta tl tc, .func (.func 88) #[] #[], .func (.func 89) #[] #[], .slice (some ⟨hb, ho, none⟩) hl hc, .func (.func 90) #[] #[], .func (.func 91) #[] #[]] W0) := hid_intro (by rw [hW0]; exact (Blk.new w _ _).below ((Below.refl _ _).alloc (Nat.le_refl _) _))
 have HY0 : Hid (BlkW (w.heap.size + 1) [.string ⟨#[]⟩, .string ⟨#[]⟩, .int .i64 0, .int .i64 0, .int .i64 0, .int .i64 0, .slice none 0 0, .slice none 0 0] W0) := hid_intro (by
  have h := BlkW.new (w.alloc (.cells #[.string a, .string m, .int .i64 mo, .int .i64 ev, .int .i64 su, .int .i64 mx, .slice ta tl tc, .func (.func 88) #[] #[], .func (.func 89) #[] #[], .slice (some ⟨hb, ho, none⟩) hl hc, .func (.func 90) #[] #[], .func (.func 91) #[] #[]] 97)) [.string ⟨#[]⟩, .string ⟨#[]⟩, .int .i64 0, .int .i64 0, .int .i64 0, .int .i64 0, .slice none 0 0, .slice none 0 0] 32
  rw [show (w.alloc (.cells #[.string a, .string m, .int .i64 mo, .int .i64 ev, .int .i64 su, .int .i64 mx, .slice ta tl tc, .func (.func 88) #[] #[], .func (.func 89) #[] #[], .slice (some ⟨hb, ho, none⟩) hl hc, .func (.func 90) #[] #[], .func (.func 91) #[] #[]] 97)).heap.size = w.heap.size + 1 by simp] at h
  rw [hW0]
  exact h)
 have HWS : Hid (W0.heap.size = w.heap.size + 2) := hid_intro (by rw [hW0]; simp)
 clear hW0
 have HS0 : Hid (UWx w W0 a m mo ev su mx W0.drew) := hid_intro (UWx.below ⟨Below.refl _ _, HX0.out.1, HX0.out.2 0 (by simp), HX0.out.2 1 (by simp), HX0.out.2 2 (by simp), HX0.out.2 3 (by simp), HX0.out.2 4 (by simp), HX0.out.2 5 (by simp)⟩ (Below.refl _ _).drew)
 go_enter Tryd.func56, Tryd.ntmps56
 go_wp2_with fail
 rw [← HW0.out]
 go_cut [3] from 6 to 26 (fun v wx => ∃ V, v = .pointer (some ⟨V, 0, none⟩) ∧ Hid (Below W0.heap.size W0 wx) ∧ Hid (BlkW V [.string a, .string m, .int .i64 mo, .int .i64 ev, .int .i64 su, .int .i64 mx, .slice none 0 0, .slice none 0 0] wx) ∧ Hid (W0.heap.size ≤ V))
 case first =>
  clear HW0
  refine wp_region_held_drew (S := (fun W => Below W0.heap.size W0 W ∧ w.heap.size < W0.heap.size ∧ W.cell? ⟨w.heap.size, 0, none⟩ = some (.string a) ∧ W.cell? ⟨w.heap.size, 1, none⟩ = some (.string m) ∧ W.cell? ⟨w.heap.size, 2, none⟩ = some (.int .i64 mo) ∧ W.cell? ⟨w.heap.size, 3, none⟩ = some (.int .i64 ev) ∧ W.cell? ⟨w.heap.size, 4, none⟩ = some (.int .i64 su) ∧ W.cell? ⟨w.heap.size, 5, none⟩ = some (.int .i64 mx))) (by kernel_rfl) HS0.out (fun hHeld => ?_)
  obtain ⟨Wd, hWd⟩ : ∃ Wd, Wd = W0.drew := ⟨_, rfl⟩
  rw [← hWd] at HS0 ⊢
  try rw [← hWd] at hHeld
  clear hWd
  refine tk (i := 0) (oi := { dst := some 6, op := Op.fieldAddr 97 (Operand.tmp 1) 0, type := 0, pos := "l07_window.go:144", after := #[], guard := none }) (v := ?_) ?_ ?_
  rotate_left
  ·(intro w hSw; (try dsimp only at hSw); go_simp) <;> with_reducible rfl
  try simp only [Act.put, SL]
  refine tk (i := 1) (oi := { dst := some 7, op := Op.fieldAddr 85 (Operand.tmp 6) 0, type := 0, pos := "l07_window.go:144", after := #[{ on := 0, ground := Ground.data }], guard := none }) (v := ?_) ?_ ?_
  rotate_left
  ·(intro w hSw; (try dsimp only at hSw); go_simp) <;> with_reducible rfl
  try simp only [Act.put, SL]
  refine tk (i := 2) (oi := { dst := some 8, op := Op.load 9 (Operand.tmp 7), type := 9, pos := "l07_window.go:144", after := #[{ on := 1, ground := Ground.data }], guard := none }) (v := ?_) ?_ ?_
  rotate_left
  ·(intro w hSw; (try dsimp only at hSw); go_simp) <;> with_reducible rfl
  try simp only [Act.put, SL]
  refine tk (i := 4) (oi := { dst := some 10, op := Op.fieldAddr 97 (Operand.tmp 1) 0, type := 0, pos := "l07_window.go:144", after := #[], guard := none }) (v := ?_) ?_ ?_
  rotate_left
  ·(intro w hSw; (try dsimp only at hSw); go_simp) <;> with_reducible rfl
  try simp only [Act.put, SL]
  refine tk (i := 5) (oi := { dst := some 11, op := Op.fieldAddr 85 (Operand.tmp 10) 1, type := 0, pos := "l07_window.go:144", after := #[{ on := 4, ground := Ground.data }], guard := none }) (v := ?_) ?_ ?_
  rotate_left
  ·(intro w hSw; (try dsimp only at hSw); go_simp) <;> with_reducible rfl
  try simp only [Act.put, SL]
  refine tk (i := 6) (oi := { dst := some 12, op := Op.load 9 (Operand.tmp 11), type := 9, pos := "l07_window.go:144", after := #[{ on := 5, ground := Ground.data }], guard := none }) (v := ?_) ?_ ?_
  rotate_left
  ·(intro w hSw; (try dsimp only at hSw); go_simp) <;> with_reducible rfl
  try simp only [Act.put, SL]
  refine tk (i := 8) (oi := { dst := some 14, op := Op.fieldAddr 97 (Operand.tmp 1) 0, type := 0, pos := "l07_window.go:144", after := #[], guard := none }) (v := ?_) ?_ ?_
  rotate_left
  ·(intro w hSw; (try dsimp only at hSw); go_simp) <;> with_reducible rfl
  try simp only [Act.put, SL]
  refine tk (i := 9) (oi := { dst := some 15, op := Op.fieldAddr 85 (Operand.tmp 14) 2, type := 0, pos := "l07_window.go:144", after := #[{ on := 8, ground := Ground.data }], guard := none }) (v := ?_) ?_ ?_
  rotate_left
  ·(intro w hSw; (try dsimp only at hSw); go_simp) <;> with_reducible rfl
  try simp only [Act.put, SL]
  refine tk (i := 10) (oi := { dst := some 16, op := Op.load 2 (Operand.tmp 15), type := 2, pos := "l07_window.go:144", after := #[{ on := 9, ground := Ground.data }], guard := none }) (v := ?_) ?_ ?_
  rotate_left
  ·(intro w hSw; (try dsimp only at hSw); go_simp) <;> with_reducible rfl
  try simp only [Act.put, SL]
  refine tk (i := 11) (oi := { dst := some 17, op := Op.fieldAddr 97 (Operand.tmp 1) 1, type := 0, pos := "l07_window.go:144", after := #[], guard := none }) (v := ?_) ?_ ?_
  rotate_left
  ·(intro w hSw; (try dsimp only at hSw); go_simp) <;> with_reducible rfl
  try simp only [Act.put, SL]
  refine tk (i := 12) (oi := { dst := some 18, op := Op.fieldAddr 87 (Operand.tmp 17) 0, type := 0, pos := "l07_window.go:144", after := #[{ on := 11, ground := Ground.data }], guard := none }) (v := ?_) ?_ ?_
  rotate_left
  ·(intro w hSw; (try dsimp only at hSw); go_simp) <;> with_reducible rfl
  try simp only [Act.put, SL]
  refine tk (i := 13) (oi := { dst := some 19, op := Op.load 2 (Operand.tmp 18), type := 2, pos := "l07_window.go:144", after := #[{ on := 12, ground := Ground.data }], guard := none }) (v := ?_) ?_ ?_
  rotate_left
  ·(intro w hSw; (try dsimp only at hSw); go_simp) <;> with_reducible rfl
  try simp only [Act.put, SL]
  refine tk (i := 14) (oi := { dst := some 20, op := Op.fieldAddr 97 (Operand.tmp 1) 1, type := 0, pos := "l07_window.go:144", after := #[], guard := none }) (v := ?_) ?_ ?_
  rotate_left
  ·(intro w hSw; (try dsimp only at hSw); go_simp) <;> with_reducible rfl
  try simp only [Act.put, SL]
  refine tk (i := 15) (oi := { dst := some 21, op := Op.fieldAddr 87 (Operand.tmp 20) 1, type := 0, pos := "l07_window.go:144", after := #[{ on := 14, ground := Ground.data }], guard := none }) (v := ?_) ?_ ?_
  rotate_left
  ·(intro w hSw; (try dsimp only at hSw); go_simp) <;> with_reducible rfl
  try simp only [Act.put, SL]
  refine tk (i := 16) (oi := { dst := some 22, op := Op.load 2 (Operand.tmp 21), type := 2, pos := "l07_window.go:144", after := #[{ on := 15, ground := Ground.data }], guard := none }) (v := ?_) ?_ ?_
  rotate_left
  ·(intro w hSw; (try dsimp only at hSw); go_simp) <;> with_reducible rfl
  try simp only [Act.put, SL]
  refine tk (i := 17) (oi := { dst := some 23, op := Op.fieldAddr 97 (Operand.tmp 1) 1, type := 0, pos := "l07_window.go:144", after := #[], guard := none }) (v := ?_) ?_ ?_
  rotate_left
  ·(intro w hSw; (try dsimp only at hSw); go_simp) <;> with_reducible rfl
  try simp only [Act.put, SL]
  refine tk (i := 18) (oi := { dst := some 24, op := Op.fieldAddr 87 (Operand.tmp 23) 2, type := 0, pos := "l07_window.go:144", after := #[{ on := 17, ground := Ground.data }], guard := none }) (v := ?_) ?_ ?_
  rotate_left
  ·(intro w hSw; (try dsimp only at hSw); go_simp) <;> with_reducible rfl
  try simp only [Act.put, SL]
  refine tk (i := 19) (oi := { dst := some 25, op := Op.load 2 (Operand.tmp 24), type := 2, pos := "l07_window.go:144", after := #[{ on := 18, ground := Ground.data }], guard := none }) (v := ?_) ?_ ?_
  rotate_left
  ·(intro w hSw; (try dsimp only at hSw); go_simp) <;> with_reducible rfl
  try simp only [Act.put, SL]
  refine wpAnyH_ready (rs := [3, 21]) (by kernel_rfl) (by simp) ?_
  refine AllReadyH.cons (o := { dst := some 9, op := Op.call { callee := Callee.value (Operand.func 80), args := #[Operand.tmp 8], argTypes := #[9] }, type := 9, pos := "l07_window.go:144", after := #[{ on := 2, ground := Ground.data }], guard := none }) rfl (fun K hK => ?_) (AllReadyH.cons (o := { dst := some 3, op := Op.alloc 32, type := 0, pos := "l07_window.go:144", after := #[], guard := none }) rfl (fun K hK => ?_) AllReadyH.nil)
  ·go_simp
   go_at_call 80
   refine (C1.out _).mono ?_
   rintro e q1 ⟨rfl, hq1⟩
   try go_wp2_with fail
   have hkq1 := @UWx.below w W0 a m mo ev su mx _ _ HS0.out hq1
   refine hK.out _ _ hkq1 (fun _ => ?_)
   clear hK K
   try simp only [Act.put, SL]
   refine wpAnyH_ready (rs := [7, 21]) (by kernel_rfl) (by simp) ?_
   refine AllReadyH.cons (o := { dst := some 13, op := Op.call { callee := Callee.value (Operand.func 80), args := #[Operand.tmp 12], argTypes := #[9] }, type := 9, pos := "l07_window.go:144", after := #[{ on := 6, ground := Ground.data }, { on := 3, ground := Ground.chain }], guard := none }) rfl (fun K hK => ?_) (AllReadyH.cons (o := { dst := some 3, op := Op.alloc 32, type := 0, pos := "l07_window.go:144", after := #[], guard := none }) rfl (fun K hK => ?_) AllReadyH.nil)
   ·go_simp
    go_at_call 80
    refine (C2.out _).mono ?_
    rintro e q2 ⟨rfl, hq2⟩
    try go_wp2_with fail
    have hkq2 := @UWx.below w W0 a m mo ev su mx _ _ hkq1 hq2
    refine hK.out _ _ hkq2 (fun _ => ?_)
    clear hK K
    try simp only [Act.put, SL]
    refine tk (i := 20) (oi := { dst := some 26, op := Op.build 32 #[(0, Operand.tmp 9), (1, Operand.tmp 13), (2, Operand.tmp 16), (3, Operand.tmp 19), (4, Operand.tmp 22), (5, Operand.tmp 25)], type := 32, pos := "l07_window.go:144", after := #[{ on := 3, ground := Ground.data }, { on := 7, ground := Ground.data }, { on := 10, ground := Ground.data }, { on := 13, ground := Ground.data }, { on := 16, ground := Ground.data }, { on := 19, ground := Ground.data }], guard := none }) (v := ?_) ?_ ?_
    rotate_left
    ·(intro w hSw; (try dsimp only at hSw); go_simp) <;> with_reducible rfl
    try simp only [Act.put, SL]
    refine wpAnyH_ready (rs := [21]) (by kernel_rfl) (by simp) ?_
    refine AllReadyH.cons (o := { dst := some 3, op := Op.alloc 32, type := 0, pos := "l07_window.go:144", after := #[], guard := none }) rfl (fun K hK => ?_) AllReadyH.nil
    go_simp
    try go_wp2_with fail
    have hka := @UWx.below w W0 a m mo ev su mx _ _ hkq2 ((Below.refl q2.heap.size q2).alloc (Nat.le_refl _) (Obj.cells #[.string ⟨#[]⟩, .string ⟨#[]⟩, .int .i64 0, .int .i64 0, .int .i64 0, .int .i64 0, .slice none 0 0, .slice none 0 0] 32))
    have hva := BlkW.new q2 [.string ⟨#[]⟩, .string ⟨#[]⟩, .int .i64 0, .int .i64 0, .int .i64 0, .int .i64 0, .slice none 0 0, .slice none 0 0] 32
    have hle := hkq2.1.size
    refine hK.out _ _ hka (fun _ => ?_)
    clear hK K
    try simp only [Act.put, SL]
    obtain ⟨VB, hVB⟩ : ∃ VB, VB = q2.heap.size := ⟨_, rfl⟩
    obtain ⟨Wa, hWa⟩ : ∃ Wa, Wa = q2.alloc (Obj.cells #[.string ⟨#[]⟩, .string ⟨#[]⟩, .int .i64 0, .int .i64 0, .int .i64 0, .int .i64 0, .slice none 0 0, .slice none 0 0] 32) := ⟨_, rfl⟩
    have hvb : W0.heap.size ≤ VB := by rw [hVB]; exact hle
    rw [← hWa] at hka hva ⊢
    rw [← hVB] at hva ⊢
    clear hWa hVB hle
    refine wpAnyH_ready (rs := [22]) (by kernel_rfl) (by simp) ?_
    refine AllReadyH.cons (o := { dst := none, op := Op.store 32 (Operand.tmp 3) (Operand.tmp 26), type := 0, pos := "l07_window.go:144", after := #[{ on := 21, ground := Ground.data }, { on := 20, ground := Ground.data }, { on := 7, ground := Ground.chain }, { on := 0, ground := Ground.phase }, { on := 1, ground := Ground.phase }, { on := 2, ground := Ground.phase }, { on := 3, ground := Ground.phase }, { on := 4, ground := Ground.phase }, { on := 5, ground := Ground.phase }, { on := 6, ground := Ground.phase }, { on := 7, ground := Ground.phase }, { on := 8, ground := Ground.phase }, { on := 9, ground := Ground.phase }, { on := 10, ground := Ground.phase }, { on := 11, ground := Ground.phase }, { on := 12, ground := Ground.phase }, { on := 13, ground := Ground.phase }, { on := 14, ground := Ground.phase }, { on := 15, ground := Ground.phase }, { on := 16, ground := Ground.phase }, { on := 17, ground := Ground.phase }, { on := 18, ground := Ground.phase }, { on := 19, ground := Ground.phase }, { on := 20, ground := Ground.phase }, { on := 21, ground := Ground.phase }], guard := none }) rfl (fun K hK => ?_) AllReadyH.nil
    obtain ⟨⟨vl, vcs⟩, vfs⟩ := hva
    have y0 : Wa.cell? ⟨VB, 0, none⟩ = some (.string ⟨#[]⟩) := vcs 0 (by simp)
    have f0 := vfs 0 (by simp)
    have y1 : Wa.cell? ⟨VB, 1, none⟩ = some (.string ⟨#[]⟩) := vcs 1 (by simp)
    have f1 := vfs 1 (by simp)
    have y2 : Wa.cell? ⟨VB, 2, none⟩ = some (.int .i64 0) := vcs 2 (by simp)
    have f2 := vfs 2 (by simp)
    have y3 : Wa.cell? ⟨VB, 3, none⟩ = some (.int .i64 0) := vcs 3 (by simp)
    have f3 := vfs 3 (by simp)
    have y4 : Wa.cell? ⟨VB, 4, none⟩ = some (.int .i64 0) := vcs 4 (by simp)
    have f4 := vfs 4 (by simp)
    have y5 : Wa.cell? ⟨VB, 5, none⟩ = some (.int .i64 0) := vcs 5 (by simp)
    have f5 := vfs 5 (by simp)
    have y6 : Wa.cell? ⟨VB, 6, none⟩ = some (.slice none 0 0) := vcs 6 (by simp)
    have f6 := vfs 6 (by simp)
    have y7 : Wa.cell? ⟨VB, 7, none⟩ = some (.slice none 0 0) := vcs 7 (by simp)
    have f7 := vfs 7 (by simp)
    go_simp
    try go_wp2_with fail
    have hks := (@UWx.put w W0 a m mo ev su mx _ (@UWx.put w W0 a m mo ev su mx _ (@UWx.put w W0 a m mo ev su mx _ (@UWx.put w W0 a m mo ev su mx _ (@UWx.put w W0 a m mo ev su mx _ (@UWx.put w W0 a m mo ev su mx _ (@UWx.put w W0 a m mo ev su mx _ (@UWx.put w W0 a m mo ev su mx _ hka VB 0 (.string a) hvb) VB 1 (.string m) hvb) VB 2 (.int .i64 mo) hvb) VB 3 (.int .i64 ev) hvb) VB 4 (.int .i64 su) hvb) VB 5 (.int .i64 mx) hvb) VB 6 (.slice none 0 0) hvb) VB 7 (.slice none 0 0) hvb)
    have hvs := (BlkW.set (BlkW.set (BlkW.set (BlkW.set (BlkW.set (BlkW.set (BlkW.set (BlkW.set (⟨⟨vl, vcs⟩, vfs⟩ : BlkW VB [.string ⟨#[]⟩, .string ⟨#[]⟩, .int .i64 0, .int .i64 0, .int .i64 0, .int .i64 0, .slice none 0 0, .slice none 0 0] Wa) 0 (.string a) (by simp)) 1 (.string m) (by simp)) 2 (.int .i64 mo) (by simp)) 3 (.int .i64 ev) (by simp)) 4 (.int .i64 su) (by simp)) 5 (.int .i64 mx) (by simp)) 6 (.slice none 0 0) (by simp)) 7 (.slice none 0 0) (by simp))
    refine hK.out _ _ hks (fun _ => ?_)
    clear hK K
    try simp only [Act.put, SL]
    refine wpAnyH_done (by kernel_rfl) ?_ _
    have HBF := hid_intro hks.1
    have HVF := hid_intro hvs
    clear hks hvs y0 y1 y2 y3 y4 y5 y6 y7 f0 f1 f2 f3 f4 f5 f6 f7 vcs vfs
    go_wp2_with fail
    go_meet
    case rel => exact ⟨VB, rfl, HBF, HVF, hid_intro hvb⟩
   ·go_simp
    try go_wp2_with fail
    have hka := @UWx.below w W0 a m mo ev su mx _ _ hkq1 ((Below.refl q1.heap.size q1).alloc (Nat.le_refl _) (Obj.cells #[.string ⟨#[]⟩, .string ⟨#[]⟩, .int .i64 0, .int .i64 0, .int .i64 0, .int .i64 0, .slice none 0 0, .slice none 0 0] 32))
    have hva := BlkW.new q1 [.string ⟨#[]⟩, .string ⟨#[]⟩, .int .i64 0, .int .i64 0, .int .i64 0, .int .i64 0, .slice none 0 0, .slice none 0 0] 32
    have hle := hkq1.1.size
    refine hK.out _ _ hka (fun _ => ?_)
    clear hK K
    try simp only [Act.put, SL]
    obtain ⟨VB, hVB⟩ : ∃ VB, VB = q1.heap.size := ⟨_, rfl⟩
    obtain ⟨Wa, hWa⟩ : ∃ Wa, Wa = q1.alloc (Obj.cells #[.string ⟨#[]⟩, .string ⟨#[]⟩, .int .i64 0, .int .i64 0, .int .i64 0, .int .i64 0, .slice none 0 0, .slice none 0 0] 32) := ⟨_, rfl⟩
    have hvb : W0.heap.size ≤ VB := by rw [hVB]; exact hle
    rw [← hWa] at hka hva ⊢
    rw [← hVB] at hva ⊢
    clear hWa hVB hle
    refine wpAnyH_ready (rs := [7]) (by kernel_rfl) (by simp) ?_
    refine AllReadyH.cons (o := { dst := some 13, op := Op.call { callee := Callee.value (Operand.func 80), args := #[Operand.tmp 12], argTypes := #[9] }, type := 9, pos := "l07_window.go:144", after := #[{ on := 6, ground := Ground.data }, { on := 3, ground := Ground.chain }], guard := none }) rfl (fun K hK => ?_) AllReadyH.nil
    go_simp
    go_at_call 80
    refine (C2.out _).mono ?_
    rintro e q2 ⟨rfl, hq2⟩
    try go_wp2_with fail
    have hkq2 := @UWx.below w W0 a m mo ev su mx _ _ hka hq2
    have hvq2 := BlkW.below hva hq2
    refine hK.out _ _ hkq2 (fun _ => ?_)
    clear hK K
    try simp only [Act.put, SL]
    refine tk (i := 20) (oi := { dst := some 26, op := Op.build 32 #[(0, Operand.tmp 9), (1, Operand.tmp 13), (2, Operand.tmp 16), (3, Operand.tmp 19), (4, Operand.tmp 22), (5, Operand.tmp 25)], type := 32, pos := "l07_window.go:144", after := #[{ on := 3, ground := Ground.data }, { on := 7, ground := Ground.data }, { on := 10, ground := Ground.data }, { on := 13, ground := Ground.data }, { on := 16, ground := Ground.data }, { on := 19, ground := Ground.data }], guard := none }) (v := ?_) ?_ ?_
    rotate_left
    ·(intro w hSw; (try dsimp only at hSw); go_simp) <;> with_reducible rfl
    try simp only [Act.put, SL]
    refine wpAnyH_ready (rs := [22]) (by kernel_rfl) (by simp) ?_
    refine AllReadyH.cons (o := { dst := none, op := Op.store 32 (Operand.tmp 3) (Operand.tmp 26), type := 0, pos := "l07_window.go:144", after := #[{ on := 21, ground := Ground.data }, { on := 20, ground := Ground.data }, { on := 7, ground := Ground.chain }, { on := 0, ground := Ground.phase }, { on := 1, ground := Ground.phase }, { on := 2, ground := Ground.phase }, { on := 3, ground := Ground.phase }, { on := 4, ground := Ground.phase }, { on := 5, ground := Ground.phase }, { on := 6, ground := Ground.phase }, { on := 7, ground := Ground.phase }, { on := 8, ground := Ground.phase }, { on := 9, ground := Ground.phase }, { on := 10, ground := Ground.phase }, { on := 11, ground := Ground.phase }, { on := 12, ground := Ground.phase }, { on := 13, ground := Ground.phase }, { on := 14, ground := Ground.phase }, { on := 15, ground := Ground.phase }, { on := 16, ground := Ground.phase }, { on := 17, ground := Ground.phase }, { on := 18, ground := Ground.phase }, { on := 19, ground := Ground.phase }, { on := 20, ground := Ground.phase }, { on := 21, ground := Ground.phase }], guard := none }) rfl (fun K hK => ?_) AllReadyH.nil
    obtain ⟨⟨vl, vcs⟩, vfs⟩ := hvq2
    have y0 : q2.cell? ⟨VB, 0, none⟩ = some (.string ⟨#[]⟩) := vcs 0 (by simp)
    have f0 := vfs 0 (by simp)
    have y1 : q2.cell? ⟨VB, 1, none⟩ = some (.string ⟨#[]⟩) := vcs 1 (by simp)
    have f1 := vfs 1 (by simp)
    have y2 : q2.cell? ⟨VB, 2, none⟩ = some (.int .i64 0) := vcs 2 (by simp)
    have f2 := vfs 2 (by simp)
    have y3 : q2.cell? ⟨VB, 3, none⟩ = some (.int .i64 0) := vcs 3 (by simp)
    have f3 := vfs 3 (by simp)
    have y4 : q2.cell? ⟨VB, 4, none⟩ = some (.int .i64 0) := vcs 4 (by simp)
    have f4 := vfs 4 (by simp)
    have y5 : q2.cell? ⟨VB, 5, none⟩ = some (.int .i64 0) := vcs 5 (by simp)
    have f5 := vfs 5 (by simp)
    have y6 : q2.cell? ⟨VB, 6, none⟩ = some (.slice none 0 0) := vcs 6 (by simp)
    have f6 := vfs 6 (by simp)
    have y7 : q2.cell? ⟨VB, 7, none⟩ = some (.slice none 0 0) := vcs 7 (by simp)
    have f7 := vfs 7 (by simp)
    go_simp
    try go_wp2_with fail
    have hks := (@UWx.put w W0 a m mo ev su mx _ (@UWx.put w W0 a m mo ev su mx _ (@UWx.put w W0 a m mo ev su mx _ (@UWx.put w W0 a m mo ev su mx _ (@UWx.put w W0 a m mo ev su mx _ (@UWx.put w W0 a m mo ev su mx _ (@UWx.put w W0 a m mo ev su mx _ (@UWx.put w W0 a m mo ev su mx _ hkq2 VB 0 (.string a) hvb) VB 1 (.string m) hvb) VB 2 (.int .i64 mo) hvb) VB 3 (.int .i64 ev) hvb) VB 4 (.int .i64 su) hvb) VB 5 (.int .i64 mx) hvb) VB 6 (.slice none 0 0) hvb) VB 7 (.slice none 0 0) hvb)
    have hvs := (BlkW.set (BlkW.set (BlkW.set (BlkW.set (BlkW.set (BlkW.set (BlkW.set (BlkW.set (⟨⟨vl, vcs⟩, vfs⟩ : BlkW VB [.string ⟨#[]⟩, .string ⟨#[]⟩, .int .i64 0, .int .i64 0, .int .i64 0, .int .i64 0, .slice none 0 0, .slice none 0 0] q2) 0 (.string a) (by simp)) 1 (.string m) (by simp)) 2 (.int .i64 mo) (by simp)) 3 (.int .i64 ev) (by simp)) 4 (.int .i64 su) (by simp)) 5 (.int .i64 mx) (by simp)) 6 (.slice none 0 0) (by simp)) 7 (.slice none 0 0) (by simp))
    refine hK.out _ _ hks (fun _ => ?_)
    clear hK K
    try simp only [Act.put, SL]
    refine wpAnyH_done (by kernel_rfl) ?_ _
    have HBF := hid_intro hks.1
    have HVF := hid_intro hvs
    clear hks hvs y0 y1 y2 y3 y4 y5 y6 y7 f0 f1 f2 f3 f4 f5 f6 f7 vcs vfs
    go_wp2_with fail
    go_meet
    case rel => exact ⟨VB, rfl, HBF, HVF, hid_intro hvb⟩
  ·go_simp
   try go_wp2_with fail
   have hka := @UWx.below w W0 a m mo ev su mx _ _ HS0.out ((Below.refl Wd.heap.size Wd).alloc (Nat.le_refl _) (Obj.cells #[.string ⟨#[]⟩, .string ⟨#[]⟩, .int .i64 0, .int .i64 0, .int .i64 0, .int .i64 0, .slice none 0 0, .slice none 0 0] 32))
   have hva := BlkW.new Wd [.string ⟨#[]⟩, .string ⟨#[]⟩, .int .i64 0, .int .i64 0, .int .i64 0, .int .i64 0, .slice none 0 0, .slice none 0 0] 32
   have hle := HS0.out.1.size
   refine hK.out _ _ hka (fun _ => ?_)
   clear hK K
   try simp only [Act.put, SL]
   obtain ⟨VB, hVB⟩ : ∃ VB, VB = Wd.heap.size := ⟨_, rfl⟩
   obtain ⟨Wa, hWa⟩ : ∃ Wa, Wa = Wd.alloc (Obj.cells #[.string ⟨#[]⟩, .string ⟨#[]⟩, .int .i64 0, .int .i64 0, .int .i64 0, .int .i64 0, .slice none 0 0, .slice none 0 0] 32) := ⟨_, rfl⟩
   have hvb : W0.heap.size ≤ VB := by rw [hVB]; exact hle
   rw [← hWa] at hka hva ⊢
   rw [← hVB] at hva ⊢
   clear hWa hVB hle
   refine wpAnyH_ready (rs := [3]) (by kernel_rfl) (by simp) ?_
   refine AllReadyH.cons (o := { dst := some 9, op := Op.call { callee := Callee.value (Operand.func 80), args := #[Operand.tmp 8], argTypes := #[9] }, type := 9, pos := "l07_window.go:144", after := #[{ on := 2, ground := Ground.data }], guard := none }) rfl (fun K hK => ?_) AllReadyH.nil
   go_simp
   go_at_call 80
   refine (C1.out _).mono ?_
   rintro e q1 ⟨rfl, hq1⟩
   try go_wp2_with fail
   have hkq1 := @UWx.below w W0 a m mo ev su mx _ _ hka hq1
   have hvq1 := BlkW.below hva hq1
   refine hK.out _ _ hkq1 (fun _ => ?_)
   clear hK K
   try simp only [Act.put, SL]
   refine wpAnyH_ready (rs := [7]) (by kernel_rfl) (by simp) ?_
   refine AllReadyH.cons (o := { dst := some 13, op := Op.call { callee := Callee.value (Operand.func 80), args := #[Operand.tmp 12], argTypes := #[9] }, type := 9, pos := "l07_window.go:144", after := #[{ on := 6, ground := Ground.data }, { on := 3, ground := Ground.chain }], guard := none }) rfl (fun K hK => ?_) AllReadyH.nil
   go_simp
   go_at_call 80
   refine (C2.out _).mono ?_
   rintro e q2 ⟨rfl, hq2⟩
   try go_wp2_with fail
   have hkq2 := @UWx.below w W0 a m mo ev su mx _ _ hkq1 hq2
   have hvq2 := BlkW.below hvq1 hq2
   refine hK.out _ _ hkq2 (fun _ => ?_)
   clear hK K
   try simp only [Act.put, SL]
   refine tk (i := 20) (oi := { dst := some 26, op := Op.build 32 #[(0, Operand.tmp 9), (1, Operand.tmp 13), (2, Operand.tmp 16), (3, Operand.tmp 19), (4, Operand.tmp 22), (5, Operand.tmp 25)], type := 32, pos := "l07_window.go:144", after := #[{ on := 3, ground := Ground.data }, { on := 7, ground := Ground.data }, { on := 10, ground := Ground.data }, { on := 13, ground := Ground.data }, { on := 16, ground := Ground.data }, { on := 19, ground := Ground.data }], guard := none }) (v := ?_) ?_ ?_
   rotate_left
   ·(intro w hSw; (try dsimp only at hSw); go_simp) <;> with_reducible rfl
   try simp only [Act.put, SL]
   refine wpAnyH_ready (rs := [22]) (by kernel_rfl) (by simp) ?_
   refine AllReadyH.cons (o := { dst := none, op := Op.store 32 (Operand.tmp 3) (Operand.tmp 26), type := 0, pos := "l07_window.go:144", after := #[{ on := 21, ground := Ground.data }, { on := 20, ground := Ground.data }, { on := 7, ground := Ground.chain }, { on := 0, ground := Ground.phase }, { on := 1, ground := Ground.phase }, { on := 2, ground := Ground.phase }, { on := 3, ground := Ground.phase }, { on := 4, ground := Ground.phase }, { on := 5, ground := Ground.phase }, { on := 6, ground := Ground.phase }, { on := 7, ground := Ground.phase }, { on := 8, ground := Ground.phase }, { on := 9, ground := Ground.phase }, { on := 10, ground := Ground.phase }, { on := 11, ground := Ground.phase }, { on := 12, ground := Ground.phase }, { on := 13, ground := Ground.phase }, { on := 14, ground := Ground.phase }, { on := 15, ground := Ground.phase }, { on := 16, ground := Ground.phase }, { on := 17, ground := Ground.phase }, { on := 18, ground := Ground.phase }, { on := 19, ground := Ground.phase }, { on := 20, ground := Ground.phase }, { on := 21, ground := Ground.phase }], guard := none }) rfl (fun K hK => ?_) AllReadyH.nil
   obtain ⟨⟨vl, vcs⟩, vfs⟩ := hvq2
   have y0 : q2.cell? ⟨VB, 0, none⟩ = some (.string ⟨#[]⟩) := vcs 0 (by simp)
   have f0 := vfs 0 (by simp)
   have y1 : q2.cell? ⟨VB, 1, none⟩ = some (.string ⟨#[]⟩) := vcs 1 (by simp)
   have f1 := vfs 1 (by simp)
   have y2 : q2.cell? ⟨VB, 2, none⟩ = some (.int .i64 0) := vcs 2 (by simp)
   have f2 := vfs 2 (by simp)
   have y3 : q2.cell? ⟨VB, 3, none⟩ = some (.int .i64 0) := vcs 3 (by simp)
   have f3 := vfs 3 (by simp)
   have y4 : q2.cell? ⟨VB, 4, none⟩ = some (.int .i64 0) := vcs 4 (by simp)
   have f4 := vfs 4 (by simp)
   have y5 : q2.cell? ⟨VB, 5, none⟩ = some (.int .i64 0) := vcs 5 (by simp)
   have f5 := vfs 5 (by simp)
   have y6 : q2.cell? ⟨VB, 6, none⟩ = some (.slice none 0 0) := vcs 6 (by simp)
   have f6 := vfs 6 (by simp)
   have y7 : q2.cell? ⟨VB, 7, none⟩ = some (.slice none 0 0) := vcs 7 (by simp)
   have f7 := vfs 7 (by simp)
   go_simp
   try go_wp2_with fail
   have hks := (@UWx.put w W0 a m mo ev su mx _ (@UWx.put w W0 a m mo ev su mx _ (@UWx.put w W0 a m mo ev su mx _ (@UWx.put w W0 a m mo ev su mx _ (@UWx.put w W0 a m mo ev su mx _ (@UWx.put w W0 a m mo ev su mx _ (@UWx.put w W0 a m mo ev su mx _ (@UWx.put w W0 a m mo ev su mx _ hkq2 VB 0 (.string a) hvb) VB 1 (.string m) hvb) VB 2 (.int .i64 mo) hvb) VB 3 (.int .i64 ev) hvb) VB 4 (.int .i64 su) hvb) VB 5 (.int .i64 mx) hvb) VB 6 (.slice none 0 0) hvb) VB 7 (.slice none 0 0) hvb)
   have hvs := (BlkW.set (BlkW.set (BlkW.set (BlkW.set (BlkW.set (BlkW.set (BlkW.set (BlkW.set (⟨⟨vl, vcs⟩, vfs⟩ : BlkW VB [.string ⟨#[]⟩, .string ⟨#[]⟩, .int .i64 0, .int .i64 0, .int .i64 0, .int .i64 0, .slice none 0 0, .slice none 0 0] q2) 0 (.string a) (by simp)) 1 (.string m) (by simp)) 2 (.int .i64 mo) (by simp)) 3 (.int .i64 ev) (by simp)) 4 (.int .i64 su) (by simp)) 5 (.int .i64 mx) (by simp)) 6 (.slice none 0 0) (by simp)) 7 (.slice none 0 0) (by simp))
   refine hK.out _ _ hks (fun _ => ?_)
   clear hK K
   try simp only [Act.put, SL]
   refine wpAnyH_done (by kernel_rfl) ?_ _
   have HBF := hid_intro hks.1
   have HVF := hid_intro hvs
   clear hks hvs y0 y1 y2 y3 y4 y5 y6 y7 f0 f1 f2 f3 f4 f5 f6 f7 vcs vfs
   go_wp2_with fail
   go_meet
   case rel => exact ⟨VB, rfl, HBF, HVF, hid_intro hvb⟩
 case rest =>
  obtain ⟨V, rfl, HB1, HV1, hV0⟩ := hcut
  clear HS0 HW0
  have HVs := hid_intro hV0.out
  have HX1 := hid_intro (HX0.out.below HB1.out)
  have HY1 := hid_intro (HY0.out.below HB1.out)
  obtain ⟨xl, xc⟩ := HX1.out
  have x6 : wc.cell? ⟨w.heap.size, 6, none⟩ = some (.slice ta tl tc) := xc 6 (by simp)
  clear xc
  go_wp2_with fail
  go_loopw [31] (fun z wr => ∃ (k : Nat) (tv : Value), k ≤ tl ∧ z = .int .i64 k ∧ Hid (Below W0.heap.size W0 wr) ∧ Hid (BlkW V [.string a, .string m, .int .i64 mo, .int .i64 ev, .int .i64 su, .int .i64 mx, tv, .slice none 0 0] wr) ∧ Hid (wr.ownsRow (V + 1) 9 1 tv k (cellsAll tcells (ts.take k)))) (fun z _ => tl - (intOf z).toNat)
  case atStart => exact ⟨0, .slice none 0 0, by omega, rfl, HB1, HV1, hid_intro (World.ownsRow_nil _ _ _ _)⟩
  case round =>
   clear HB1 HV1 x6 xl HX1 HY1
   obtain ⟨k, tv, hk, rfl, HB, HV, HO⟩ := hrel
   by_cases hlt : k < tl
   ·have hlt2 : (k : Int) < (tl : Int) := by omega
    have hkl : k < ts.length := by have := HTL.out; omega
    obtain ⟨b, off, rfl, hbl, c0⟩ := (HT.out.below (HB0.out.trans (HB.out.mono HB0.out.size))).at k hkl
    have hsz := HLT.out _ (getD_mem (z := tz) ts k hkl)
    have HCA : Hid (cellsAll tcells (ts.take (k + 1)) = cellsAll tcells (ts.take k) ++ [.string (ts.getD k tz)]) := hid_intro (by rw [take_more (z := tz) ts k hkl, RowG.cellsAll_app]; rfl)
    have HC := hid_intro (fun w => CloneR.clone_any (ts.getD k tz) w (by omega))
    generalize ts.getD k tz = Y at *
    have HS1 : Hid (VWx W0 V tv wr.drew) := hid_intro ⟨HB.out.drew, HV.out.1.1, HV.out.1.2 6 (by simp), HV.out.2 6 (by simp)⟩
    have HVd : Hid (BlkW V [.string a, .string m, .int .i64 mo, .int .i64 ev, .int .i64 su, .int .i64 mx, tv, .slice none 0 0] wr.drew) := hid_intro (HV.out.below (Below.refl _ _).drew)
    have HOd : Hid (wr.drew.ownsRow (V + 1) 9 1 tv k (cellsAll tcells (ts.take k))) := hid_intro HO.out
    have hVW := HV.out.1.1
    have sz1 : k + 1 ≤ maxLen := by unfold maxLen; omega
    have sz2 : (k + 1) * 16 ≤ 140737488355328 := by omega
    have sz3 : 0 < 1 := by omega
    go_wp2_with fail
    refine wp_region_held_drew (S := (fun W => Below W0.heap.size W0 W ∧ V < W.heap.size)) (by kernel_rfl) ⟨HS1.out.1, HS1.out.2.1⟩ (fun hHeld => ?_)
    refine tk (i := 0) (oi := { dst := some 35, op := Op.fieldAddr 32 (Operand.tmp 3) 6, type := 0, pos := "l07_window.go:146", after := #[], guard := none }) (v := ?_) ?_ ?_
    rotate_left
    ·(intro w hSw; (try dsimp only at hSw); go_simp) <;> with_reducible rfl
    try simp only [Act.put, SL]
    refine tk (i := 2) (oi := { dst := some 37, op := Op.move (Operand.tmp 5), type := 9, pos := "l07_window.go:146", after := #[], guard := none }) (v := ?_) ?_ ?_
    rotate_left
    ·(intro w hSw; (try dsimp only at hSw); go_simp) <;> with_reducible rfl
    try simp only [Act.put, SL]
    refine wpAnyH_ready (rs := [1, 3]) (by kernel_rfl) (by simp) ?_
    refine AllReadyH.cons (o := { dst := some 36, op := Op.load 22 (Operand.tmp 35), type := 22, pos := "l07_window.go:146", after := #[{ on := 0, ground := Ground.data }], guard := none }) rfl (fun K hK => ?_) (AllReadyH.cons (o := { dst := some 38, op := Op.call { callee := Callee.value (Operand.func 80), args := #[Operand.tmp 37], argTypes := #[9] }, type := 9, pos := "l07_window.go:146", after := #[{ on := 2, ground := Ground.data }], guard := none }) rfl (fun K hK => ?_) AllReadyH.nil)
    ·have y6 := HS1.out.2.2.1
     have yl := HS1.out.2.1
     go_simp
     try go_wp2_with fail
     clear y6 yl
     refine hK.out _ _ ⟨HS1.out.1, HS1.out.2.1⟩ (fun _ => ?_)
     clear hK K
     try simp only [Act.put, SL]
     refine wpAnyH_ready (rs := [3]) (by kernel_rfl) (by simp) ?_
     refine AllReadyH.cons (o := { dst := some 38, op := Op.call { callee := Callee.value (Operand.func 80), args := #[Operand.tmp 37], argTypes := #[9] }, type := 9, pos := "l07_window.go:146", after := #[{ on := 2, ground := Ground.data }], guard := none }) rfl (fun K hK => ?_) AllReadyH.nil
     go_simp
     go_at_call 80
     refine (HC.out _).mono ?_
     rintro e q1 ⟨rfl, hq1⟩
     try go_wp2_with fail
     have hk1 := @VWx.below W0 V tv _ _ HS1.out hq1
     have hv1 := HVd.out.below hq1
     have ho1 := RowG.own_below HOd.out hq1
     refine hK.out _ _ ⟨hk1.1, hk1.2.1⟩ (fun _ => ?_)
     clear hK K
     try simp only [Act.put, SL]
     refine wpAnyH_ready (rs := [4]) (by kernel_rfl) (by simp) ?_
     refine AllReadyH.cons (o := { dst := some 39, op := Op.buildSlice 22 1 #[(0, Operand.tmp 38)], type := 22, pos := "l07_window.go:146", after := #[{ on := 3, ground := Ground.data }], guard := none }) rfl (fun K hK => ?_) AllReadyH.nil
     go_simp
     try go_wp2_with fail
     have hk2 := @VWx.below W0 V tv _ _ hk1 ((Below.refl q1.heap.size q1).alloc (Nat.le_refl _) (Obj.cells #[.string Y] 9))
     have hv2 := hv1.below ((Below.refl q1.heap.size q1).alloc (Nat.le_refl _) (Obj.cells #[.string Y] 9))
     have ho2 := ho1.alloc (Obj.cells #[.string Y] 9)
     refine hK.out _ _ ⟨hk2.1, hk2.2.1⟩ (fun _ => ?_)
     clear hK K
     try simp only [Act.put, SL]
     refine wpAnyH_ready (rs := [5]) (by kernel_rfl) (by simp) ?_
     refine AllReadyH.cons (o := { dst := some 40, op := Op.call { callee := Callee.builtin Builtin.append, args := #[Operand.tmp 36, Operand.tmp 39], argTypes := #[22, 22] }, type := 22, pos := "l07_window.go:146", after := #[{ on := 1, ground := Ground.data }, { on := 4, ground := Ground.data }, { on := 3, ground := Ground.chain }], guard := none }) rfl (fun K hK => ?_) AllReadyH.nil
     refine step_append_own rfl _ _ 22 rfl (V + 1) 9 i0 (.string ⟨#[]⟩) 1 16 Tryd.underlying22 hi hz0 hz1 hz2 rfl sz3 _ _ _ rfl ho2 ⟨q1.heap.size, 0, none⟩ 1 1 [.string Y] rfl rfl (one_cell _ _ _) (one_one _) sz1 sz2 (by have := hk1.2.1; simp; omega) ?_
     intro v' w4 hown hgrow hne
     obtain ⟨sa, sn, sc, rfl⟩ := own_slice hown
     have hk3 := @VWx.grown W0 V tv _ _ _ hk2 hgrow (fun g hg => (ho2.lt g hg).1) HVs.out
     have hv3 := BlkW.grown hv2 hgrow (fun e => by have := (ho2.lt _ e.symm).1; omega)
     refine hK.out _ _ ⟨hk3.1, hk3.2.1⟩ (fun _ => ?_)
     clear hK K
     try simp only [Act.put, SL]
     refine tk (i := 6) (oi := { dst := some 41, op := Op.fieldAddr 32 (Operand.tmp 3) 6, type := 0, pos := "l07_window.go:146", after := #[{ on := 0, ground := Ground.phase }, { on := 1, ground := Ground.phase }, { on := 2, ground := Ground.phase }, { on := 3, ground := Ground.phase }, { on := 4, ground := Ground.phase }, { on := 5, ground := Ground.phase }], guard := none }) (v := ?_) ?_ ?_
     rotate_left
     ·(intro w hSw; (try dsimp only at hSw); go_simp) <;> with_reducible rfl
     try simp only [Act.put, SL]
     refine wpAnyH_ready (rs := [7]) (by kernel_rfl) (by simp) ?_
     refine AllReadyH.cons (o := { dst := none, op := Op.store 22 (Operand.tmp 41) (Operand.tmp 40), type := 0, pos := "l07_window.go:146", after := #[{ on := 6, ground := Ground.data }, { on := 5, ground := Ground.data }, { on := 5, ground := Ground.chain }, { on := 0, ground := Ground.phase }, { on := 1, ground := Ground.phase }, { on := 2, ground := Ground.phase }, { on := 3, ground := Ground.phase }, { on := 4, ground := Ground.phase }, { on := 5, ground := Ground.phase }], guard := none }) rfl (fun K hK => ?_) AllReadyH.nil
     have y6 := hk3.2.2.1
     have f6 := hk3.2.2.2
     have yl := hk3.2.1
     go_simp
     try go_wp2_with fail
     have hb4 := hk3.1.setCell (p := ⟨V, 6, none⟩) HVs.out (.slice sa sn sc)
     have hv4 := hv3.set 6 (.slice sa sn sc) (by simp)
     have ho4 := own_set hown V 6 (.slice sa sn sc) (fun g hg => by have := (hown.lt g hg).1; omega)
     refine hK.out _ _ ⟨hb4, by simpa using yl⟩ (fun _ => ?_)
     clear hK K y6 f6 yl
     try simp only [Act.put, SL]
     refine wpAnyH_done (by kernel_rfl) ?_ _
     have HB5 := hid_intro hb4
     have HV5 := hid_intro hv4
     have HO5 : Hid ((w4.setCell ⟨V, 6, none⟩ (.slice sa sn sc)).ownsRow (V + 1) 9 1 (.slice sa sn sc) (k + 1) (cellsAll tcells (ts.take (k + 1)))) := hid_intro (by rw [HCA.out]; exact ho4)
     clear hb4 hv4 ho4 hown hgrow hne hk1 hk2 hk3 hv1 hv2 hv3 ho1 ho2 hq1 HS1 HVd HOd c0
     go_wp2_with fail
     go_roundw
     case rel => exact ⟨k + 1, (.slice sa sn sc), by omega, by go_num, HB5, HV5, HO5⟩
     case measure => simp [intOf]; omega
    ·go_simp
     go_at_call 80
     refine (HC.out _).mono ?_
     rintro e q1 ⟨rfl, hq1⟩
     try go_wp2_with fail
     have hk1 := @VWx.below W0 V tv _ _ HS1.out hq1
     have hv1 := HVd.out.below hq1
     have ho1 := RowG.own_below HOd.out hq1
     refine hK.out _ _ ⟨hk1.1, hk1.2.1⟩ (fun _ => ?_)
     clear hK K
     try simp only [Act.put, SL]
     refine wpAnyH_ready (rs := [1, 4]) (by kernel_rfl) (by simp) ?_
     refine AllReadyH.cons (o := { dst := some 36, op := Op.load 22 (Operand.tmp 35), type := 22, pos := "l07_window.go:146", after := #[{ on := 0, ground := Ground.data }], guard := none }) rfl (fun K hK => ?_) (AllReadyH.cons (o := { dst := some 39, op := Op.buildSlice 22 1 #[(0, Operand.tmp 38)], type := 22, pos := "l07_window.go:146", after := #[{ on := 3, ground := Ground.data }], guard := none }) rfl (fun K hK => ?_) AllReadyH.nil)
     ·have y6 := hk1.2.2.1
      have yl := hk1.2.1
      go_simp
      try go_wp2_with fail
      clear y6 yl
      refine hK.out _ _ ⟨hk1.1, hk1.2.1⟩ (fun _ => ?_)
      clear hK K
      try simp only [Act.put, SL]
      refine wpAnyH_ready (rs := [4]) (by kernel_rfl) (by simp) ?_
      refine AllReadyH.cons (o := { dst := some 39, op := Op.buildSlice 22 1 #[(0, Operand.tmp 38)], type := 22, pos := "l07_window.go:146", after := #[{ on := 3, ground := Ground.data }], guard := none }) rfl (fun K hK => ?_) AllReadyH.nil
      go_simp
      try go_wp2_with fail
      have hk2 := @VWx.below W0 V tv _ _ hk1 ((Below.refl q1.heap.size q1).alloc (Nat.le_refl _) (Obj.cells #[.string Y] 9))
      have hv2 := hv1.below ((Below.refl q1.heap.size q1).alloc (Nat.le_refl _) (Obj.cells #[.string Y] 9))
      have ho2 := ho1.alloc (Obj.cells #[.string Y] 9)
      refine hK.out _ _ ⟨hk2.1, hk2.2.1⟩ (fun _ => ?_)
      clear hK K
      try simp only [Act.put, SL]
      refine wpAnyH_ready (rs := [5]) (by kernel_rfl) (by simp) ?_
      refine AllReadyH.cons (o := { dst := some 40, op := Op.call { callee := Callee.builtin Builtin.append, args := #[Operand.tmp 36, Operand.tmp 39], argTypes := #[22, 22] }, type := 22, pos := "l07_window.go:146", after := #[{ on := 1, ground := Ground.data }, { on := 4, ground := Ground.data }, { on := 3, ground := Ground.chain }], guard := none }) rfl (fun K hK => ?_) AllReadyH.nil
      refine step_append_own rfl _ _ 22 rfl (V + 1) 9 i0 (.string ⟨#[]⟩) 1 16 Tryd.underlying22 hi hz0 hz1 hz2 rfl sz3 _ _ _ rfl ho2 ⟨q1.heap.size, 0, none⟩ 1 1 [.string Y] rfl rfl (one_cell _ _ _) (one_one _) sz1 sz2 (by have := hk1.2.1; simp; omega) ?_
      intro v' w4 hown hgrow hne
      obtain ⟨sa, sn, sc, rfl⟩ := own_slice hown
      have hk3 := @VWx.grown W0 V tv _ _ _ hk2 hgrow (fun g hg => (ho2.lt g hg).1) HVs.out
      have hv3 := BlkW.grown hv2 hgrow (fun e => by have := (ho2.lt _ e.symm).1; omega)
      refine hK.out _ _ ⟨hk3.1, hk3.2.1⟩ (fun _ => ?_)
      clear hK K
      try simp only [Act.put, SL]
      refine tk (i := 6) (oi := { dst := some 41, op := Op.fieldAddr 32 (Operand.tmp 3) 6, type := 0, pos := "l07_window.go:146", after := #[{ on := 0, ground := Ground.phase }, { on := 1, ground := Ground.phase }, { on := 2, ground := Ground.phase }, { on := 3, ground := Ground.phase }, { on := 4, ground := Ground.phase }, { on := 5, ground := Ground.phase }], guard := none }) (v := ?_) ?_ ?_
      rotate_left
      ·(intro w hSw; (try dsimp only at hSw); go_simp) <;> with_reducible rfl
      try simp only [Act.put, SL]
      refine wpAnyH_ready (rs := [7]) (by kernel_rfl) (by simp) ?_
      refine AllReadyH.cons (o := { dst := none, op := Op.store 22 (Operand.tmp 41) (Operand.tmp 40), type := 0, pos := "l07_window.go:146", after := #[{ on := 6, ground := Ground.data }, { on := 5, ground := Ground.data }, { on := 5, ground := Ground.chain }, { on := 0, ground := Ground.phase }, { on := 1, ground := Ground.phase }, { on := 2, ground := Ground.phase }, { on := 3, ground := Ground.phase }, { on := 4, ground := Ground.phase }, { on := 5, ground := Ground.phase }], guard := none }) rfl (fun K hK => ?_) AllReadyH.nil
      have y6 := hk3.2.2.1
      have f6 := hk3.2.2.2
      have yl := hk3.2.1
      go_simp
      try go_wp2_with fail
      have hb4 := hk3.1.setCell (p := ⟨V, 6, none⟩) HVs.out (.slice sa sn sc)
      have hv4 := hv3.set 6 (.slice sa sn sc) (by simp)
      have ho4 := own_set hown V 6 (.slice sa sn sc) (fun g hg => by have := (hown.lt g hg).1; omega)
      refine hK.out _ _ ⟨hb4, by simpa using yl⟩ (fun _ => ?_)
      clear hK K y6 f6 yl
      try simp only [Act.put, SL]
      refine wpAnyH_done (by kernel_rfl) ?_ _
      have HB5 := hid_intro hb4
      have HV5 := hid_intro hv4
      have HO5 : Hid ((w4.setCell ⟨V, 6, none⟩ (.slice sa sn sc)).ownsRow (V + 1) 9 1 (.slice sa sn sc) (k + 1) (cellsAll tcells (ts.take (k + 1)))) := hid_intro (by rw [HCA.out]; exact ho4)
      clear hb4 hv4 ho4 hown hgrow hne hk1 hk2 hk3 hv1 hv2 hv3 ho1 ho2 hq1 HS1 HVd HOd c0
      go_wp2_with fail
      go_roundw
      case rel => exact ⟨k + 1, (.slice sa sn sc), by omega, by go_num, HB5, HV5, HO5⟩
      case measure => simp [intOf]; omega
     ·go_simp
      try go_wp2_with fail
      have hk2 := @VWx.below W0 V tv _ _ hk1 ((Below.refl q1.heap.size q1).alloc (Nat.le_refl _) (Obj.cells #[.string Y] 9))
      have hv2 := hv1.below ((Below.refl q1.heap.size q1).alloc (Nat.le_refl _) (Obj.cells #[.string Y] 9))
      have ho2 := ho1.alloc (Obj.cells #[.string Y] 9)
      refine hK.out _ _ ⟨hk2.1, hk2.2.1⟩ (fun _ => ?_)
      clear hK K
      try simp only [Act.put, SL]
      refine wpAnyH_ready (rs := [1]) (by kernel_rfl) (by simp) ?_
      refine AllReadyH.cons (o := { dst := some 36, op := Op.load 22 (Operand.tmp 35), type := 22, pos := "l07_window.go:146", after := #[{ on := 0, ground := Ground.data }], guard := none }) rfl (fun K hK => ?_) AllReadyH.nil
      have y6 := hk2.2.2.1
      have yl := hk2.2.1
      go_simp
      try go_wp2_with fail
      clear y6 yl
      refine hK.out _ _ ⟨hk2.1, hk2.2.1⟩ (fun _ => ?_)
      clear hK K
      try simp only [Act.put, SL]
      refine wpAnyH_ready (rs := [5]) (by kernel_rfl) (by simp) ?_
      refine AllReadyH.cons (o := { dst := some 40, op := Op.call { callee := Callee.builtin Builtin.append, args := #[Operand.tmp 36, Operand.tmp 39], argTypes := #[22, 22] }, type := 22, pos := "l07_window.go:146", after := #[{ on := 1, ground := Ground.data }, { on := 4, ground := Ground.data }, { on := 3, ground := Ground.chain }], guard := none }) rfl (fun K hK => ?_) AllReadyH.nil
      refine step_append_own rfl _ _ 22 rfl (V + 1) 9 i0 (.string ⟨#[]⟩) 1 16 Tryd.underlying22 hi hz0 hz1 hz2 rfl sz3 _ _ _ rfl ho2 ⟨q1.heap.size, 0, none⟩ 1 1 [.string Y] rfl rfl (one_cell _ _ _) (one_one _) sz1 sz2 (by have := hk1.2.1; simp; omega) ?_
      intro v' w4 hown hgrow hne
      obtain ⟨sa, sn, sc, rfl⟩ := own_slice hown
      have hk3 := @VWx.grown W0 V tv _ _ _ hk2 hgrow (fun g hg => (ho2.lt g hg).1) HVs.out
      have hv3 := BlkW.grown hv2 hgrow (fun e => by have := (ho2.lt _ e.symm).1; omega)
      refine hK.out _ _ ⟨hk3.1, hk3.2.1⟩ (fun _ => ?_)
      clear hK K
      try simp only [Act.put, SL]
      refine tk (i := 6) (oi := { dst := some 41, op := Op.fieldAddr 32 (Operand.tmp 3) 6, type := 0, pos := "l07_window.go:146", after := #[{ on := 0, ground := Ground.phase }, { on := 1, ground := Ground.phase }, { on := 2, ground := Ground.phase }, { on := 3, ground := Ground.phase }, { on := 4, ground := Ground.phase }, { on := 5, ground := Ground.phase }], guard := none }) (v := ?_) ?_ ?_
      rotate_left
      ·(intro w hSw; (try dsimp only at hSw); go_simp) <;> with_reducible rfl
      try simp only [Act.put, SL]
      refine wpAnyH_ready (rs := [7]) (by kernel_rfl) (by simp) ?_
      refine AllReadyH.cons (o := { dst := none, op := Op.store 22 (Operand.tmp 41) (Operand.tmp 40), type := 0, pos := "l07_window.go:146", after := #[{ on := 6, ground := Ground.data }, { on := 5, ground := Ground.data }, { on := 5, ground := Ground.chain }, { on := 0, ground := Ground.phase }, { on := 1, ground := Ground.phase }, { on := 2, ground := Ground.phase }, { on := 3, ground := Ground.phase }, { on := 4, ground := Ground.phase }, { on := 5, ground := Ground.phase }], guard := none }) rfl (fun K hK => ?_) AllReadyH.nil
      have y6 := hk3.2.2.1
      have f6 := hk3.2.2.2
      have yl := hk3.2.1
      go_simp
      try go_wp2_with fail
      have hb4 := hk3.1.setCell (p := ⟨V, 6, none⟩) HVs.out (.slice sa sn sc)
      have hv4 := hv3.set 6 (.slice sa sn sc) (by simp)
      have ho4 := own_set hown V 6 (.slice sa sn sc) (fun g hg => by have := (hown.lt g hg).1; omega)
      refine hK.out _ _ ⟨hb4, by simpa using yl⟩ (fun _ => ?_)
      clear hK K y6 f6 yl
      try simp only [Act.put, SL]
      refine wpAnyH_done (by kernel_rfl) ?_ _
      have HB5 := hid_intro hb4
      have HV5 := hid_intro hv4
      have HO5 : Hid ((w4.setCell ⟨V, 6, none⟩ (.slice sa sn sc)).ownsRow (V + 1) 9 1 (.slice sa sn sc) (k + 1) (cellsAll tcells (ts.take (k + 1)))) := hid_intro (by rw [HCA.out]; exact ho4)
      clear hb4 hv4 ho4 hown hgrow hne hk1 hk2 hk3 hv1 hv2 hv3 ho1 ho2 hq1 HS1 HVd HOd c0
      go_wp2_with fail
      go_roundw
      case rel => exact ⟨k + 1, (.slice sa sn sc), by omega, by go_num, HB5, HV5, HO5⟩
      case measure => simp [intOf]; omega
   ·have hlt2 : ¬ (k : Int) < (tl : Int) := by omega
    obtain rfl : k = tl := by omega
    have HTK : Hid (ts.take k = ts) := hid_intro (List.take_of_length_le (by have := HTL.out; omega))
    rw [HTK.out] at HO
    obtain ⟨sa, sn, sc, rfl⟩ := own_slice HO.out
    have HX1 := hid_intro (HX0.out.below HB.out)
    have HY1 := hid_intro (HY0.out.below HB.out)
    have HBw := hid_intro (HB0.out.trans (HB.out.mono HB0.out.size))
    obtain ⟨xl, xc⟩ := HX1.out
    have x9 : wr.cell? ⟨w.heap.size, 9, none⟩ = some (.slice (some ⟨hb, ho, none⟩) hl hc) := xc 9 (by simp)
    clear xc
    go_wp2_with fail
    refine (HCH.out _ HBw.out).mono ?_
    rintro e w5 ⟨ha, hcp, rfl, ⟨hm5, hsl5⟩, hb5⟩
    have HM5 := hid_intro hm5
    have HSL5 := hid_intro hsl5
    clear hsl5
    have HY5 := hid_intro (HY1.out.below hb5)
    have HV5 := hid_intro (HV.out.below hb5)
    have HO5 := hid_intro (RowG.own_below HO.out hb5)
    have HB5 := hid_intro (HBw.out.trans (hb5.mono HBw.out.size))
    have HSZ : Hid (∀ g, (Value.slice sa sn sc).ownBlock = some g → g < wr.heap.size) := hid_intro (fun g hg => (HO.out.lt g hg).2)
    have HVl : Hid (V < wr.heap.size) := hid_intro HV.out.1.1
    clear hm5 hb5 x9 xl
    obtain ⟨⟨vl, vk⟩, vf⟩ := HV5.out
    have v0 : w5.cell? ⟨V, 0, none⟩ = some (.string a) := vk 0 (by simp)
    have v1 : w5.cell? ⟨V, 1, none⟩ = some (.string m) := vk 1 (by simp)
    have v2 : w5.cell? ⟨V, 2, none⟩ = some (.int .i64 mo) := vk 2 (by simp)
    have v3 : w5.cell? ⟨V, 3, none⟩ = some (.int .i64 ev) := vk 3 (by simp)
    have v4 : w5.cell? ⟨V, 4, none⟩ = some (.int .i64 su) := vk 4 (by simp)
    have v5 : w5.cell? ⟨V, 5, none⟩ = some (.int .i64 mx) := vk 5 (by simp)
    have v6 : w5.cell? ⟨V, 6, none⟩ = some (.slice sa sn sc) := vk 6 (by simp)
    have v7 : w5.cell? ⟨V, 7, none⟩ = some (.slice none 0 0) := vk 7 (by simp)
    have f7 : w5.frozen? ⟨V, 7, none⟩ = false := vf 7 (by simp)
    obtain ⟨⟨yl, yk⟩, yf⟩ := HY5.out
    have y0 : w5.cell? ⟨w.heap.size + 1, 0, none⟩ = some (.string ⟨#[]⟩) := yk 0 (by simp)
    have q0 : w5.frozen? ⟨w.heap.size + 1, 0, none⟩ = false := yf 0 (by simp)
    have y1 : w5.cell? ⟨w.heap.size + 1, 1, none⟩ = some (.string ⟨#[]⟩) := yk 1 (by simp)
    have q1 : w5.frozen? ⟨w.heap.size + 1, 1, none⟩ = false := yf 1 (by simp)
    have y2 : w5.cell? ⟨w.heap.size + 1, 2, none⟩ = some (.int .i64 0) := yk 2 (by simp)
    have q2 : w5.frozen? ⟨w.heap.size + 1, 2, none⟩ = false := yf 2 (by simp)
    have y3 : w5.cell? ⟨w.heap.size + 1, 3, none⟩ = some (.int .i64 0) := yk 3 (by simp)
    have q3 : w5.frozen? ⟨w.heap.size + 1, 3, none⟩ = false := yf 3 (by simp)
    have y4 : w5.cell? ⟨w.heap.size + 1, 4, none⟩ = some (.int .i64 0) := yk 4 (by simp)
    have q4 : w5.frozen? ⟨w.heap.size + 1, 4, none⟩ = false := yf 4 (by simp)
    have y5 : w5.cell? ⟨w.heap.size + 1, 5, none⟩ = some (.int .i64 0) := yk 5 (by simp)
    have q5 : w5.frozen? ⟨w.heap.size + 1, 5, none⟩ = false := yf 5 (by simp)
    have y6 : w5.cell? ⟨w.heap.size + 1, 6, none⟩ = some (.slice none 0 0) := yk 6 (by simp)
    have q6 : w5.frozen? ⟨w.heap.size + 1, 6, none⟩ = false := yf 6 (by simp)
    have y7 : w5.cell? ⟨w.heap.size + 1, 7, none⟩ = some (.slice none 0 0) := yk 7 (by simp)
    have q7 : w5.frozen? ⟨w.heap.size + 1, 7, none⟩ = false := yf 7 (by simp)
    have hVne : V ≠ w.heap.size + 1 := by have := HVs.out; have := HWS.out; omega
    clear vk vf yk yf HY5 HV5
    have hVl := HVl.out
    have hRl : w.heap.size + 1 < wr.heap.size := by have := HWS.out; have := HB.out.size; omega
    have hwV : w.heap.size ≤ V := by have := HVs.out; have := HWS.out; omega
    have HNE : Hid (∀ G, G < wr.heap.size → hs.length = 0 ∨ ∀ b off, ha = some ⟨b, off, none⟩ → b ≠ G) := hid_intro (fun G hG => by
     rcases HM5.out.own with h0 | ⟨g, e1, e2, _⟩
     ·exact .inl h0
     ·exact .inr (fun b off q => by rw [e1] at q; simp at q; omega))
    have HNO : Hid (∀ g, (Value.slice sa sn sc).ownBlock = some g → ∀ G, G ≤ V → g ≠ G) := hid_intro (fun g hg G hG => by have := (HO5.out.lt g hg).1; omega)
    have HND : Hid (∀ g, (Value.slice sa sn sc).ownBlock = some g → ∀ b o, ha = some ⟨b, o, none⟩ → hl ≠ 0 → g ≠ b) := hid_intro (fun g hg b o q hn => by
     have h1 := HSZ.out g hg
     rcases HM5.out.own with h0 | ⟨g', e1, e2, _⟩
     ·have := HHL.out; omega
     ·rw [e1] at q; simp at q; omega)
    have HRV : Hid (w.heap.size + 1 ≤ V) := hid_intro (by have := HVs.out; have := HWS.out; omega)
    have hRV := HRV.out
    have HFW : Hid (∀ W, W.ownsRow (V + 1) 9 1 (.slice sa sn sc) k (cellsAll tcells ts) → MadeG 2 H.cells H.zero wr.heap.size ha hs W → M (.agg #[.string a, .string m, .int .i64 mo, .int .i64 ev, .int .i64 su, .int .i64 mx, .slice sa sn sc, .slice ha hl hcp]) W) := hid_intro (fun W h1 h2 => by
     obtain ⟨_, _, _, h⟩ := HF.out W V (.slice sa sn sc) ha hcp hwV h1 (h2.low (by omega)) HND.out HSL5.out
     exact h)
    have HG1 := hid_intro (HNE.out V hVl)
    have HG2 := hid_intro (HNE.out (w.heap.size + 1) hRl)
    have HG3 : Hid (∀ g, (Value.slice sa sn sc).ownBlock = some g → g ≠ V) := hid_intro (fun g hg => HNO.out g hg V (Nat.le_refl _))
    have HG4 : Hid (∀ g, (Value.slice sa sn sc).ownBlock = some g → g ≠ w.heap.size + 1) := hid_intro (fun g hg => HNO.out g hg _ hRV)
    go_wp2_with fail
    refine bodyPost_ret (v := .agg #[.string a, .string m, .int .i64 mo, .int .i64 ev, .int .i64 su, .int .i64 mx, .slice sa sn sc, .slice ha hl hcp]) (by simp [results, Tryd.results56, go_sem, y0, y1, y2, y3, y4, y5, y6, y7]) rfl ⟨_, rfl, HFW.out _ ?_ ?_, ?_⟩
    ·have ho1 := HG3.out
     have ho2 := HG4.out
     exact (own_set (own_set (own_set (own_set (own_set (own_set (own_set (own_set (own_set HO5.out V 7 (.slice ha hl hcp) ho1) (w.heap.size + 1) 0 (.string a) ho2) (w.heap.size + 1) 1 (.string m) ho2) (w.heap.size + 1) 2 (.int .i64 mo) ho2) (w.heap.size + 1) 3 (.int .i64 ev) ho2) (w.heap.size + 1) 4 (.int .i64 su) ho2) (w.heap.size + 1) 5 (.int .i64 mx) ho2) (w.heap.size + 1) 6 (.slice sa sn sc) ho2) (w.heap.size + 1) 7 (.slice ha hl hcp) ho2)
    ·have hn1 := HG1.out
     have hn2 := HG2.out
     exact (MadeG.put (MadeG.put (MadeG.put (MadeG.put (MadeG.put (MadeG.put (MadeG.put (MadeG.put (MadeG.put HM5.out V 7 (.slice ha hl hcp) (hn1)) (w.heap.size + 1) 0 (.string a) (hn2)) (w.heap.size + 1) 1 (.string m) (hn2)) (w.heap.size + 1) 2 (.int .i64 mo) (hn2)) (w.heap.size + 1) 3 (.int .i64 ev) (hn2)) (w.heap.size + 1) 4 (.int .i64 su) (hn2)) (w.heap.size + 1) 5 (.int .i64 mx) (hn2)) (w.heap.size + 1) 6 (.slice sa sn sc) (hn2)) (w.heap.size + 1) 7 (.slice ha hl hcp) (hn2))
    ·have hb1 : w.heap.size ≤ V := hwV
     have hb2 : w.heap.size ≤ w.heap.size + 1 := Nat.le_succ _
     exact (((((((((HB5.out.setCell (hb1) _).setCell (hb2) _).setCell (hb2) _).setCell (hb2) _).setCell (hb2) _).setCell (hb2) _).setCell (hb2) _).setCell (hb2) _).setCell (hb2) _)
theorem impl_win_s (x : Wd) (ta : Option Addr) (tc : Nat) (ha : Option Addr) (hc : Nat) (w : World) (la : x.a.size ≤ 1048576) (lm : x.m.size ≤ 1048576) (lt : x.ts.length ≤ 1048576) (lts : ∀ t ∈ x.ts, t.size ≤ 1048576) (lh : x.hs.length ≤ 1048576) (l1 : 1 ≤ x.hs.length) (hT : Tgs ta x.ts w) (hH : Hrs ha x.hs w) :
  Calls Tryd.prog 56 #[.agg #[.string x.a, .string x.m, .int .i64 x.mo, .int .i64 x.ev, .int .i64 x.su, .int .i64 x.mx, .slice ta x.ts.length tc, .func (.func 88) #[] #[], .func (.func 89) #[] #[], .slice ha x.hs.length hc, .func (.func 90) #[] #[], .func (.func 91) #[] #[]]] w fun e w' => ∃ v, e = .returned v ∧ MadeWS w.heap.size x v w' ∧ Below w.heap.size w w' := by
 obtain ⟨b, off, rfl, _, _⟩ := hH.at 0 (by omega)
 exact win_in x.a x.m x.mo x.ev x.su x.mx x.ts ta tc x.hs b off hc w la lm lt lts lh hT hH
theorem impl_win (x : Wd) (ta : Option Addr) (tc : Nat) (ha : Option Addr) (hc : Nat) (w : World) (la : x.a.size ≤ 1048576) (lm : x.m.size ≤ 1048576) (lt : x.ts.length ≤ 1048576) (lts : ∀ t ∈ x.ts, t.size ≤ 1048576) (lh : x.hs.length ≤ 1048576) (l1 : 1 ≤ x.hs.length) (hT : Tgs ta x.ts w) (hH : Hrs ha x.hs w) :
  Calls Tryd.prog 56 #[.agg #[.string x.a, .string x.m, .int .i64 x.mo, .int .i64 x.ev, .int .i64 x.su, .int .i64 x.mx, .slice ta x.ts.length tc, .func (.func 88) #[] #[], .func (.func 89) #[] #[], .slice ha x.hs.length hc, .func (.func 90) #[] #[], .func (.func 91) #[] #[]]] w fun e w' => ∃ v, e = .returned v ∧ MadeW w.heap.size x v w' ∧ Below w.heap.size w w' := by
 refine (impl_win_s x ta tc ha hc w la lm lt lts lh l1 hT hH).mono ?_
 rintro e w' ⟨v, rfl, hm, hb⟩
 exact ⟨v, rfl, hm.1, hb⟩
end WinR
end Go.Proofs.YtnlmpejgiakepaaDoor
namespace Go.Proofs.YtnlmpejgiakepaaDoor
open Go.ChangeShapes Go.WideShapes Go.ChangeAt Go.RowKit
set_option linter.unusedVariables false
namespace WinR
open RowG (MadeG Rws cellsAll cellsAll_len cellsAll_get own_made take_more getD_mem)
open LtR
theorem al (w : World) (o : Obj) : Below w.heap.size w (w.alloc o) := (Below.refl _ _).alloc (Nat.le_refl _) _
theorem own_empty (w : World) (base e size : Nat) (hb : base ≤ w.heap.size) : (w.alloc (.cells #[] e)).ownsRow base e size (.slice (some ⟨w.heap.size, 0, none⟩) 0 0) 0 [] :=
 World.ownsRow_made w #[] 0 hb (by unfold maxLen; omega) (by simp)
theorem rws_sub {α : Type} {k : Nat} {cells : α → List Value} {z : α} {b off i n : Nat} {xs : List α} {w : World} (hk : ∀ x, (cells x).length = k) (h : Rws k cells z (some ⟨b, off, none⟩) xs w) : ∀ j u, (cellsAll cells ((xs.drop i).take n))[j]? = some u → w.cell? ((⟨b, off + i * k, none⟩ : Addr).add j) = some u := by
 intro j u hj
 have hlt := (List.getElem?_eq_some_iff.1 hj).1
 rw [cellsAll_len hk] at hlt
 have hk0 : 0 < k := by
  rcases Nat.eq_zero_or_pos k with e | e
  ·rw [e, Nat.mul_zero] at hlt; omega
  ·exact e
 obtain ⟨d, r, rfl, hr⟩ : ∃ d r, j = d * k + r ∧ r < k := ⟨j / k, j % k, by rw [Nat.mul_comm]; exact (Nat.div_add_mod j k).symm, Nat.mod_lt _ hk0⟩
 have hi : d < ((xs.drop i).take n).length := Nat.lt_of_mul_lt_mul_right (a := k) (Nat.lt_of_le_of_lt (Nat.le_add_right _ _) hlt)
 have hi2 : i + d < xs.length := by simp at hi; omega
 have hn : d < n := by simp at hi; omega
 have eg : ((xs.drop i).take n).getD d z = xs.getD (i + d) z := by simp [List.getD, hn]
 rw [cellsAll_get (z := z) hk _ d r hi hr, eg] at hj
 rcases h with h0 | ⟨b', off', he, _, hc⟩
 ·omega
 ·simp only [Option.some.injEq, Addr.mk.injEq, and_true] at he
  obtain ⟨rfl, rfl⟩ := he
  have := hc (i + d) hi2 r hr
  rw [Addr.add_lit, show off + i * k + (d * k + r) = off + (i + d) * k + r by rw [Nat.add_mul]; omega, this]
  exact hj
theorem t_one (ts : List ByteArray) : ∀ v ∈ cellsAll tcells ts, v.oneCell' = true := by
 intro v hv
 simp only [cellsAll, List.mem_flatMap, tcells, List.mem_cons, List.not_mem_nil, or_false] at hv
 obtain ⟨x, _, rfl⟩ := hv
 rfl
theorem ins_cells {α : Type} {cells : α → List Value} (a : List α) (x : α) (b : List α) : cellsAll cells (a ++ x :: b) = cellsAll cells a ++ cells x ++ cellsAll cells b := by simp [cellsAll]
theorem ins_len {α : Type} (ts : List α) (q : Nat) (t : α) (h : q ≤ ts.length) : (ts.take q ++ t :: ts.drop q).length = ts.length + 1 := by simp; omega
theorem own_some {α : Type} {k : Nat} {cells : α → List Value} {z : α} {w : World} {base T : Nat} {v : Value} {xs : List α} (hk : ∀ x, (cells x).length = k) (h : w.ownsRow base T k v xs.length (cellsAll cells xs)) (hn : xs.length ≠ 0) : ∃ b' o' c', v = .slice (some ⟨b', o', none⟩) xs.length c' ∧ Rws k cells z (some ⟨b', o', none⟩) xs w ∧ xs.length ≤ c' ∧ c' ≤ maxLen ∧ base ≤ b' := by
 obtain ⟨ao, cp, e, hm⟩ := own_made (z := z) hk h
 rcases h.2 with ⟨h0, h1⟩ | ⟨g, cap, cur, hv, hbb, _, h1, h2, _⟩
 ·exact absurd h1 hn
 ·rw [hv] at e
  simp only [Value.slice.injEq] at e
  obtain ⟨rfl, _, rfl⟩ := e
  exact ⟨g, 0, cap, hv, hm.rws, h1, h2, hbb⟩
section
variable {α : Type} {lt : α → α → Bool} {f : α → α → α} {z : α}
theorem ins_end : ∀ (xs : List α) (y : α), (∀ j, j < xs.length → lt (xs.getD j z) y = true) → ins lt f xs y = xs ++ [y]
 | [], y, _ => rfl
 | x :: xs, y, h => by
  have h0 : lt x y = true := by simpa using h 0 (by simp)
  rw [ins, if_pos h0, ins_end xs y (fun j hj => by simpa using h (j + 1) (by simpa using hj))]
  rfl
theorem ins_at : ∀ (xs : List α) (y : α) (q : Nat), q < xs.length → (∀ j, j < q → lt (xs.getD j z) y = true) → lt (xs.getD q z) y = false →
  (lt y (xs.getD q z) = true → ins lt f xs y = xs.take q ++ y :: xs.drop q) ∧ (lt y (xs.getD q z) = false → ins lt f xs y = xs.take q ++ f (xs.getD q z) y :: xs.drop (q + 1))
 | [], y, q, hq, _, _ => by simp at hq
 | x :: xs, y, 0, hq, _, h1 => by
  have h2 : lt x y = false := by simpa using h1
  constructor
  ·intro h3
   have h4 : lt y x = true := by simpa using h3
   rw [ins, if_neg (by simp [h2]), if_pos h4]
   rfl
  ·intro h3
   have h4 : lt y x = false := by simpa using h3
   rw [ins, if_neg (by simp [h2]), if_neg (by simp [h4])]
   simp
 | x :: xs, y, q + 1, hq, h0, h1 => by
  have h2 : lt x y = true := by simpa using h0 0 (by omega)
  have ih := ins_at xs y q (by simpa using hq) (fun j hj => by simpa using h0 (j + 1) (by omega)) (by simpa using h1)
  constructor
  ·intro h3
   rw [ins, if_pos h2, ih.1 (by simpa using h3)]
   simp
  ·intro h3
   rw [ins, if_pos h2, ih.2 (by simpa using h3)]
   simp
end
theorem take_drop_get : ∀ (ts : List ByteArray) (q : Nat), q < ts.length → ts.take q ++ ts.getD q tz :: ts.drop (q + 1) = ts
 | [], q, h => by simp at h
 | x :: xs, 0, _ => by simp
 | x :: xs, q + 1, h => by
  have := take_drop_get xs q (by simpa using h)
  simpa using this
/-- Of two texts that are alike either. -/
def fstT (x y : ByteArray) : ByteArray := x
set_option maxRecDepth 100000 in
set_option maxHeartbeats 8000000 in
theorem stext (b off cap : Nat) (ts : List ByteArray) (t : ByteArray) (w : World) (hl : ts.length ≤ 1048575) (hcap : ts.length ≤ cap) (hcm : cap ≤ maxLen) (hT : Tgs (some ⟨b, off, none⟩) ts w) :
  Calls Tryd.prog 49 #[.slice (some ⟨b, off, none⟩) ts.length cap, .string t] w fun e w' => ∃ b' o' c', e = .returned (.slice (some ⟨b', o', none⟩) (ins lt fstT ts t).length c') ∧ Tgs (some ⟨b', o', none⟩) (ins lt fstT ts t) w' ∧ (ins lt fstT ts t).length ≤ c' ∧ c' ≤ maxLen ∧ (b' = b ∨ w.heap.size ≤ b') ∧ Below w.heap.size w w' := by
 obtain ⟨i0, hi, hz0, hz1, hz2⟩ := info_parts infoT
 have HT := hid_intro hT
 obtain ⟨len, hlen⟩ : ∃ len, len = ts.length := ⟨_, rfl⟩
 rw [← hlen] at hl hcap ⊢
 have HL := hid_intro hlen
 have HEND : Hid ((∀ j, j < ts.length → lt (ts.getD j tz) t = true) → ins lt fstT ts t = ts ++ [t]) := hid_intro (ins_end ts t)
 have HAT : Hid (∀ q, q < ts.length → (∀ j, j < q → lt (ts.getD j tz) t = true) → lt (ts.getD q tz) t = false → (lt t (ts.getD q tz) = true → ins lt fstT ts t = ts.take q ++ t :: ts.drop q) ∧ (lt t (ts.getD q tz) = false → ins lt fstT ts t = ts.take q ++ fstT (ts.getD q tz) t :: ts.drop (q + 1))) := hid_intro (fun q => ins_at ts t q)
 generalize ins lt fstT ts t = R at *
 unfold maxLen at hcm
 clear hT hlen
 go_enter Tryd.func49, Tryd.ntmps49
 go_wp2_with fail
 go_loopw [5] (fun zv wr => ∃ q : Nat, q ≤ len ∧ zv = .int .i64 (q : Int) ∧ w = wr ∧ Hid (∀ j, j < q → lt (ts.getD j tz) t = true)) (fun zv _ => len - (intOf zv).toNat)
 case atStart => exact ⟨0, by omega, rfl, rfl, hid_intro (fun j hj => absurd hj (by omega))⟩
 case round =>
  obtain ⟨q, hq, rfl, hwr, HQ⟩ := hrel
  subst hwr
  by_cases hlt : q < len
  ·have hlt2 : (q : Int) < (len : Int) := by omega
   have hqs : q < ts.length := by have := HL.out; omega
   obtain ⟨b0, off0, he0, hbl, c0⟩ := HT.out.at q hqs
   simp only [Option.some.injEq, Addr.mk.injEq, and_true] at he0
   obtain ⟨rfl, rfl⟩ := he0
   cases hc : lt (ts.getD q tz) t
   ·have HA := hid_intro (HAT.out q hqs HQ.out hc)
    obtain ⟨Y, hY⟩ : ∃ Y, Y = ts.getD q tz := ⟨_, rfl⟩
    have HY := hid_intro hY
    rw [← hY] at HA hc c0
    clear hY
    have hc1 := hc
    unfold lt at hc1
    by_cases he : Y = t
    ·subst he
     have hins : R = ts := by
      have h := HA.out.2 (by unfold lt; exact bl_irrefl _)
      unfold fstT at h
      rw [h, HY.out]
      exact take_drop_get ts q hqs
     subst hins
     have he3 : (Y.toList == Y.toList) = true := by simp
     go_wp2_with fail
     go_ret
     exact ⟨b, off, cap, by rw [HL.out]; rfl, HT.out, by have := HL.out; omega, by unfold maxLen; omega, .inl rfl, Below.refl _ _⟩
    ·have hc2 : lt t Y = true := by
      cases h : lt t Y
      ·exact absurd (toList_inj (bl_total hc1 (by unfold lt at h; exact h))) he
      ·rfl
     have hins := HA.out.1 hc2
     have he3 : (Y.toList == t.toList) = false := by simpa using fun e => he (toList_inj e)
     clear HA hc hc2
     have HI := hid_intro hins
     have HE0 := hid_intro (own_empty w w.heap.size 9 1 (Nat.le_refl _))
     have hqc : (q : Int) ≤ (cap : Int) := by omega
     have hql : (q : Int) ≤ (len : Int) := by omega
     have HT1 := hid_intro (HT.out.below (al w (.cells #[] 9)))
     clear hins
     go_wp2_with (at_builtin; refine wpList_append_own _ rfl _ _ 22 rfl w.heap.size 9 i0 (.string ⟨#[]⟩) 1 16 Tryd.underlying22 hi hz0 hz1 hz2 rfl (by decide) _ _ _ rfl HE0.out ⟨b, off, none⟩ q cap (cellsAll tcells (ts.take q)) rfl ?l1 ?d1 ?d2 ?d3 ?d4 (by simp) ?_)
     case l1 => rw [cellsAll_len t_len, List.length_take]; have := HL.out; omega
     case d1 => exact fun j u hj => by have h := rws_sub (i := 0) (n := q) t_len HT1.out j u (by simpa using hj); first | exact h | (rw [Addr.add_lit, Nat.zero_mul, Nat.add_zero] at h; exact h)
     case d2 => exact t_one _
     case d3 => unfold maxLen; omega
     case d4 => omega
     intro v1 w6 hown hgrow hne
     have HO6 : Hid (w6.ownsRow w.heap.size 9 1 v1 q (cellsAll tcells (ts.take q))) := hid_intro (by first | exact hown | simpa using hown)
     have HB6 : Hid (Below w.heap.size w w6) := hid_intro ((al w _).grown hgrow (by simp) (fun c hc => by simp [Value.ownBlock] at hc; omega))
     clear hown hgrow hne HE0 HT1
     go_wp2_with (at_builtin; refine wpList_append_own _ rfl _ _ 22 rfl w.heap.size 9 i0 (.string ⟨#[]⟩) 1 16 Tryd.underlying22 hi hz0 hz1 hz2 rfl (by decide) _ _ _ rfl (HO6.out.alloc _) ⟨w6.heap.size, 0, none⟩ 1 1 [.string t] rfl rfl ?d1 ?d2 ?d3 ?d4 (by have := HB6.out.size; simp; omega) ?_)
     case d1 => exact one_cell _ _ _
     case d2 => exact one_one _
     case d3 => unfold maxLen; omega
     case d4 => omega
     intro v2 w7 hown hgrow hne
     have HO7 : Hid (w7.ownsRow w.heap.size 9 1 v2 (q + 1) (cellsAll tcells (ts.take q) ++ [.string t])) := hid_intro hown
     have HB7 : Hid (Below w.heap.size w w7) := hid_intro ((HB6.out.trans ((al w6 _).mono HB6.out.size)).grown hgrow (by have := HB6.out.size; simp; omega) (fun c hc => (HO6.out.lt c hc).1))
     have HT7 := hid_intro (HT.out.below HB7.out)
     clear hown hgrow hne
     by_cases hcq : cap = q
     ·obtain rfl : q = len := by omega
      have hcq2 := hcq.symm
      subst hcq2
      go_wp2_with (at_builtin; refine wpList_append_own _ rfl _ _ 22 rfl w.heap.size 9 i0 (.string ⟨#[]⟩) 1 16 Tryd.underlying22 hi hz0 hz1 hz2 rfl (by decide) _ _ _ rfl HO7.out ⟨b, off, none⟩ 0 0 [] rfl rfl (fun _ _ h => by simp at h) (fun _ h => by simp at h) (by unfold maxLen; omega) (by omega) HB7.out.size ?_)
      intro v3 w8 hown hgrow hne
      have HO8 : Hid (w8.ownsRow w.heap.size 9 1 v3 (ts.take q ++ t :: ts.drop q).length (cellsAll tcells (ts.take q ++ t :: ts.drop q))) := hid_intro (by
       rw [ins_cells, ins_len _ _ _ (by have := HL.out; omega), ← HL.out, List.drop_of_length_le (by have := HL.out; omega)]
       first | exact hown | simpa [cellsAll, tcells] using hown)
      have HB8 : Hid (Below w.heap.size w w8) := hid_intro (HB7.out.grown hgrow HB7.out.size (fun c hc => (HO7.out.lt c hc).1))
      clear hown hgrow hne
      rw [← HI.out] at HO8
      obtain ⟨b', o', c', rfl, m1, m2, m3⟩ := own_some (z := tz) t_len HO8.out (by rw [HI.out]; simp)
      go_wp2_with fail
      go_ret
      exact ⟨b', o', c', rfl, m1, m2, m3.1, .inr (by have := m3.2; omega), HB8.out⟩
     ·go_wp2_with (at_builtin; refine wpList_append_own _ rfl _ _ 22 rfl w.heap.size 9 i0 (.string ⟨#[]⟩) 1 16 Tryd.underlying22 hi hz0 hz1 hz2 rfl (by decide) _ _ _ rfl HO7.out ⟨b, off + q, none⟩ (len - q) (cap - q) (cellsAll tcells (ts.drop q)) rfl ?l1 ?d5 ?d6 ?d7 ?d8 HB7.out.size ?_)
      case l1 => rw [cellsAll_len t_len, List.length_drop]; have := HL.out; omega
      case d5 => exact fun j u hj => by have := rws_sub (i := q) (n := ts.length - q) t_len HT7.out j u (by rw [List.take_of_length_le (by simp)]; exact hj); rw [Nat.mul_one] at this; exact this
      case d6 => exact t_one _
      case d7 => unfold maxLen; omega
      case d8 => omega
      intro v3 w8 hown hgrow hne
      have HO8 : Hid (w8.ownsRow w.heap.size 9 1 v3 (ts.take q ++ t :: ts.drop q).length (cellsAll tcells (ts.take q ++ t :: ts.drop q))) := hid_intro (by
       rw [ins_cells, ins_len _ _ _ (by have := HL.out; omega), ← HL.out, show len + 1 = q + 1 + (len - q) by omega]
       rw [List.append_assoc]
       exact hown)
      have HB8 : Hid (Below w.heap.size w w8) := hid_intro (HB7.out.grown hgrow HB7.out.size (fun c hc => (HO7.out.lt c hc).1))
      clear hown hgrow hne
      rw [← HI.out] at HO8
      obtain ⟨b', o', c', rfl, m1, m2, m3⟩ := own_some (z := tz) t_len HO8.out (by rw [HI.out]; simp)
      go_wp2_with fail
      go_ret
      exact ⟨b', o', c', rfl, m1, m2, m3.1, .inr (by have := m3.2; omega), HB8.out⟩
   ·have HQ2 : Hid (∀ j, j < q + 1 → lt (ts.getD j tz) t = true) := hid_intro (fun j hj => by
     rcases Nat.lt_succ_iff_lt_or_eq.1 hj with h | rfl
     ·exact HQ.out j h
     ·exact hc)
    have hc1 := hc
    unfold lt at hc1
    generalize ts.getD q tz = Y at *
    clear hc
    go_wp2_with fail
    go_roundw
    case rel => exact ⟨q + 1, by omega, by go_num, by first | rfl | trivial, HQ2⟩
    case measure => simp [intOf]; omega
  ·have hlt2 : ¬ (q : Int) < (len : Int) := by omega
   have hins : R = ts.take q ++ t :: ts.drop q := by
    have e : q = ts.length := by have := HL.out; omega
    rw [HEND.out (fun j hj => HQ.out j (by omega)), e]
    simp
   have HI := hid_intro hins
   have HE0 := hid_intro (own_empty w w.heap.size 9 1 (Nat.le_refl _))
   have hqc : (q : Int) ≤ (cap : Int) := by omega
   have hql : (q : Int) ≤ (len : Int) := by omega
   have HT1 := hid_intro (HT.out.below (al w (.cells #[] 9)))
   clear hins
   go_wp2_with (at_builtin; refine wpList_append_own _ rfl _ _ 22 rfl w.heap.size 9 i0 (.string ⟨#[]⟩) 1 16 Tryd.underlying22 hi hz0 hz1 hz2 rfl (by decide) _ _ _ rfl HE0.out ⟨b, off, none⟩ q cap (cellsAll tcells (ts.take q)) rfl ?l1 ?d1 ?d2 ?d3 ?d4 (by simp) ?_)
   case l1 => rw [cellsAll_len t_len, List.length_take]; have := HL.out; omega
   case d1 => exact fun j u hj => by have h := rws_sub (i := 0) (n := q) t_len HT1.out j u (by simpa using hj); first | exact h | (rw [Addr.add_lit, Nat.zero_mul, Nat.add_zero] at h; exact h)
   case d2 => exact t_one _
   case d3 => unfold maxLen; omega
   case d4 => omega
   intro v1 w6 hown hgrow hne
   have HO6 : Hid (w6.ownsRow w.heap.size 9 1 v1 q (cellsAll tcells (ts.take q))) := hid_intro (by first | exact hown | simpa using hown)
   have HB6 : Hid (Below w.heap.size w w6) := hid_intro ((al w _).grown hgrow (by simp) (fun c hc => by simp [Value.ownBlock] at hc; omega))
   clear hown hgrow hne HE0 HT1
   go_wp2_with (at_builtin; refine wpList_append_own _ rfl _ _ 22 rfl w.heap.size 9 i0 (.string ⟨#[]⟩) 1 16 Tryd.underlying22 hi hz0 hz1 hz2 rfl (by decide) _ _ _ rfl (HO6.out.alloc _) ⟨w6.heap.size, 0, none⟩ 1 1 [.string t] rfl rfl ?d1 ?d2 ?d3 ?d4 (by have := HB6.out.size; simp; omega) ?_)
   case d1 => exact one_cell _ _ _
   case d2 => exact one_one _
   case d3 => unfold maxLen; omega
   case d4 => omega
   intro v2 w7 hown hgrow hne
   have HO7 : Hid (w7.ownsRow w.heap.size 9 1 v2 (q + 1) (cellsAll tcells (ts.take q) ++ [.string t])) := hid_intro hown
   have HB7 : Hid (Below w.heap.size w w7) := hid_intro ((HB6.out.trans ((al w6 _).mono HB6.out.size)).grown hgrow (by have := HB6.out.size; simp; omega) (fun c hc => (HO6.out.lt c hc).1))
   have HT7 := hid_intro (HT.out.below HB7.out)
   clear hown hgrow hne
   by_cases hcq : cap = q
   ·obtain rfl : q = len := by omega
    have hcq2 := hcq.symm
    subst hcq2
    go_wp2_with (at_builtin; refine wpList_append_own _ rfl _ _ 22 rfl w.heap.size 9 i0 (.string ⟨#[]⟩) 1 16 Tryd.underlying22 hi hz0 hz1 hz2 rfl (by decide) _ _ _ rfl HO7.out ⟨b, off, none⟩ 0 0 [] rfl rfl (fun _ _ h => by simp at h) (fun _ h => by simp at h) (by unfold maxLen; omega) (by omega) HB7.out.size ?_)
    intro v3 w8 hown hgrow hne
    have HO8 : Hid (w8.ownsRow w.heap.size 9 1 v3 (ts.take q ++ t :: ts.drop q).length (cellsAll tcells (ts.take q ++ t :: ts.drop q))) := hid_intro (by
     rw [ins_cells, ins_len _ _ _ (by have := HL.out; omega), ← HL.out, List.drop_of_length_le (by have := HL.out; omega)]
     first | exact hown | simpa [cellsAll, tcells] using hown)
    have HB8 : Hid (Below w.heap.size w w8) := hid_intro (HB7.out.grown hgrow HB7.out.size (fun c hc => (HO7.out.lt c hc).1))
    clear hown hgrow hne
    rw [← HI.out] at HO8
    obtain ⟨b', o', c', rfl, m1, m2, m3⟩ := own_some (z := tz) t_len HO8.out (by rw [HI.out]; simp)
    go_wp2_with fail
    go_ret
    exact ⟨b', o', c', rfl, m1, m2, m3.1, .inr (by have := m3.2; omega), HB8.out⟩
   ·go_wp2_with (at_builtin; refine wpList_append_own _ rfl _ _ 22 rfl w.heap.size 9 i0 (.string ⟨#[]⟩) 1 16 Tryd.underlying22 hi hz0 hz1 hz2 rfl (by decide) _ _ _ rfl HO7.out ⟨b, off + q, none⟩ (len - q) (cap - q) (cellsAll tcells (ts.drop q)) rfl ?l1 ?d5 ?d6 ?d7 ?d8 HB7.out.size ?_)
    case l1 => rw [cellsAll_len t_len, List.length_drop]; have := HL.out; omega
    case d5 => exact fun j u hj => by have := rws_sub (i := q) (n := ts.length - q) t_len HT7.out j u (by rw [List.take_of_length_le (by simp)]; exact hj); rw [Nat.mul_one] at this; exact this
    case d6 => exact t_one _
    case d7 => unfold maxLen; omega
    case d8 => omega
    intro v3 w8 hown hgrow hne
    have HO8 : Hid (w8.ownsRow w.heap.size 9 1 v3 (ts.take q ++ t :: ts.drop q).length (cellsAll tcells (ts.take q ++ t :: ts.drop q))) := hid_intro (by
     rw [ins_cells, ins_len _ _ _ (by have := HL.out; omega), ← HL.out, show len + 1 = q + 1 + (len - q) by omega]
     rw [List.append_assoc]
     exact hown)
    have HB8 : Hid (Below w.heap.size w w8) := hid_intro (HB7.out.grown hgrow HB7.out.size (fun c hc => (HO7.out.lt c hc).1))
    clear hown hgrow hne
    rw [← HI.out] at HO8
    obtain ⟨b', o', c', rfl, m1, m2, m3⟩ := own_some (z := tz) t_len HO8.out (by rw [HI.out]; simp)
    go_wp2_with fail
    go_ret
    exact ⟨b', o', c', rfl, m1, m2, m3.1, .inr (by have := m3.2; omega), HB8.out⟩
end WinR
end Go.Proofs.YtnlmpejgiakepaaDoor
namespace Go.Proofs.YtnlmpejgiakepaaDoor
open Go.ChangeShapes Go.WideShapes Go.ChangeAt Go.RowKit
set_option linter.unusedVariables false
namespace WinR
open RowG (MadeG Rws cellsAll cellsAll_len cellsAll_get own_made take_more getD_mem)
theorem bdrewN {B : Nat} {a w : World} (h : Below B a w) (n : Nat) : Below B a (w.drewN n) := ⟨h.os, h.tape, h.output, h.size, h.block⟩
theorem h2_cells (w : World) (x y : Int) : ∀ j u, [Value.int .i64 x, .int .i64 y][j]? = some u → (w.alloc (.cells #[.int .i64 x, .int .i64 y] 65)).cell? ((⟨w.heap.size, 0, none⟩ : Addr).add j) = some u := by
 intro j u h
 match j, h with
 | 0, h => rw [Addr.add_lit]; simp at h; subst h; simp [go_sem]
 | 1, h => rw [Addr.add_lit]; simp at h; subst h; simp [go_sem]
theorem h2_one (x y : Int) : ∀ u ∈ [Value.int .i64 x, .int .i64 y], u.oneCell' = true := by
 intro u h
 simp at h
 rcases h with rfl | rfl <;> rfl
/-- Two of one hour. -/
def addH (x y : H) : H := ⟨x.h, x.s + y.s⟩
theorem Hrs.two {b off : Nat} {hs : List H} {w : World} (h : Hrs (some ⟨b, off, none⟩) hs w) (q : Nat) (hq : q < hs.length) : b < w.heap.size ∧ w.cell? ⟨b, off + q * 2, none⟩ = some (.int .i64 (hs.getD q H.zero).h) ∧ w.cell? ⟨b, off + q * 2 + 1, none⟩ = some (.int .i64 (hs.getD q H.zero).s) := by
 obtain ⟨b', off', e, hl, hc⟩ := Rws.at h q hq
 simp only [Option.some.injEq, Addr.mk.injEq, and_true] at e
 obtain ⟨rfl, rfl⟩ := e
 exact ⟨hl, by simpa [H.cells] using hc 0 (by omega), by simpa [H.cells] using hc 1 (by omega)⟩
set_option maxRecDepth 100000 in
set_option maxHeartbeats 8000000 in
theorem shour (b off cap : Nat) (hs : List H) (x y : Int) (w : World) (hl : hs.length ≤ 1048575) (hcap : hs.length ≤ cap) (hcm : cap ≤ maxLen) (hbw : b < w.heap.size) (hy : 0 ≤ y ∧ y ≤ 1000000000000000) (hsm : ∀ z ∈ hs, 0 ≤ z.s ∧ z.s ≤ 1000000000000000) (hT : Hrs (some ⟨b, off, none⟩) hs w) :
  Calls Tryd.prog 50 #[.slice (some ⟨b, off, none⟩) hs.length cap, .agg #[.int .i64 x, .int .i64 y]] w fun e w' => ∃ b' o' c', e = .returned (.slice (some ⟨b', o', none⟩) (ins hlt addH hs ⟨x, y⟩).length c') ∧ Hrs (some ⟨b', o', none⟩) (ins hlt addH hs ⟨x, y⟩) w' ∧ (ins hlt addH hs ⟨x, y⟩).length ≤ c' ∧ c' ≤ maxLen ∧ (b' = b ∨ w.heap.size ≤ b') ∧ Below w.heap.size w w' := by
 obtain ⟨i0, hi, hz0, hz1, hz2⟩ := info_parts infoH
 have HT := hid_intro hT
 have HSM := hid_intro hsm
 obtain ⟨len, hlen⟩ : ∃ len, len = hs.length := ⟨_, rfl⟩
 rw [← hlen] at hl hcap ⊢
 have HL := hid_intro hlen
 have HEND : Hid ((∀ j, j < hs.length → hlt (hs.getD j H.zero) ⟨x, y⟩ = true) → ins hlt addH hs ⟨x, y⟩ = hs ++ [⟨x, y⟩]) := hid_intro (ins_end hs _)
 have HAT : Hid (∀ q, q < hs.length → (∀ j, j < q → hlt (hs.getD j H.zero) ⟨x, y⟩ = true) → hlt (hs.getD q H.zero) ⟨x, y⟩ = false → (hlt ⟨x, y⟩ (hs.getD q H.zero) = true → ins hlt addH hs ⟨x, y⟩ = hs.take q ++ ⟨x, y⟩ :: hs.drop q) ∧ (hlt ⟨x, y⟩ (hs.getD q H.zero) = false → ins hlt addH hs ⟨x, y⟩ = hs.take q ++ addH (hs.getD q H.zero) ⟨x, y⟩ :: hs.drop (q + 1))) := hid_intro (fun q => ins_at hs _ q)
 generalize ins hlt addH hs ⟨x, y⟩ = R at *
 obtain ⟨y1, y2⟩ := hy
 unfold maxLen at hcm
 clear hT hlen hsm
 have HX0 := hid_intro (BlkW.new w [.int .i64 x, .int .i64 y] 65)
 have HB0 := hid_intro (al w (.cells #[.int .i64 x, .int .i64 y] 65))
 go_enter Tryd.func50, Tryd.ntmps50
 go_wp2_with fail
 go_loopw [5] (fun zv wr => ∃ q : Nat, q ≤ len ∧ zv = .int .i64 (q : Int) ∧ Hid (Below w.heap.size w wr) ∧ Hid (BlkW w.heap.size [.int .i64 x, .int .i64 y] wr) ∧ Hid (∀ j, j < q → hlt (hs.getD j H.zero) ⟨x, y⟩ = true)) (fun zv _ => len - (intOf zv).toNat)
 case atStart => exact ⟨0, by omega, rfl, HB0, HX0, hid_intro (fun j hj => absurd hj (by omega))⟩
 case round =>
  clear HX0 HB0
  obtain ⟨q, hq, rfl, HB, HX, HQ⟩ := hrel
  have c0 : wr.cell? ⟨w.heap.size, 0, none⟩ = some (.int .i64 x) := HX.out.1.2 0 (by simp)
  have hwl := HX.out.1.1
  by_cases hlt1 : q < len
  ·have hlt2 : (q : Int) < (len : Int) := by omega
   have hqs : q < hs.length := by have := HL.out; omega
   obtain ⟨hbl, d0, d1⟩ := Hrs.two (HT.out.below HB.out) q hqs
   obtain ⟨s1, s2⟩ := HSM.out _ (getD_mem (z := H.zero) hs q hqs)
   have HTQ : Hid (∀ W, Below w.heap.size w W → b < W.heap.size ∧ W.cell? ⟨b, off + q * 2, none⟩ = some (.int .i64 (hs.getD q H.zero).h) ∧ W.cell? ⟨b, off + q * 2 + 1, none⟩ = some (.int .i64 (hs.getD q H.zero).s)) := hid_intro (fun W hW => Hrs.two (HT.out.below hW) q hqs)
   cases hc : hlt (hs.getD q H.zero) ⟨x, y⟩
   ·have HA := hid_intro (HAT.out q hqs HQ.out hc)
    have hc1 := hc
    unfold hlt at hc1
    simp only [decide_eq_false_iff_not] at hc1
    generalize hs.getD q H.zero = Y at *
    obtain ⟨yh, ys⟩ := Y
    dsimp only at hc1 d0 d1 s1 s2 HTQ
    by_cases he : yh = x
    ·subst he
     have hins : R = hs.take q ++ (⟨yh, y + ys⟩ : H) :: hs.drop (q + 1) := by
      have h := HA.out.2 (by unfold hlt; simp)
      rw [h]; unfold addH; rw [Int.add_comm ys y]
     have HI := hid_intro hins
     clear HA hc hins
     go_wp2_with fail
     go_quiet (fail)
     obtain ⟨W1, hW2⟩ : ∃ Wn, Wn = wr.drewN nq := ⟨_, rfl⟩
     rw [← hW2]
     have HDW1 : Hid (Below wr.heap.size wr W1) := hid_intro (by rw [hW2]; exact bdrewN (Below.refl _ _) _)
     clear hW2
     have HB1 := hid_intro (HB.out.trans (HDW1.out.mono HB.out.size))
     have HX1 := hid_intro (HX.out.below HDW1.out)
     clear HB HX HDW1 c0 hwl hbl d0 d1
     have HE0 := hid_intro (own_empty W1 (w.heap.size + 1) 65 2 HX1.out.1.1)
     have hqc : (q : Int) ≤ (cap : Int) := by omega
     have hql : (q : Int) ≤ (len : Int) := by omega
     have HT1 := hid_intro (HT.out.below (HB1.out.trans ((al W1 (.cells #[] 65)).mono HB1.out.size)))
     go_wp2_with (at_builtin; refine wpList_append_own _ rfl _ _ 30 rfl (w.heap.size + 1) 65 i0 (.agg #[.int .i64 0, .int .i64 0]) 2 16 Tryd.underlying30 hi hz0 hz1 hz2 rfl (by decide) _ _ _ rfl HE0.out ⟨b, off, none⟩ q cap (cellsAll H.cells (hs.take q)) rfl ?l1 ?d1 ?d2 ?d3 ?d4 (by have := HX1.out.1.1; simp; omega) ?_)
     case l1 => rw [cellsAll_len H.len, List.length_take]; have := HL.out; omega
     case d1 => exact fun j u hj => by have h := rws_sub (i := 0) (n := q) H.len HT1.out j u (by simpa using hj); first | exact h | (rw [Addr.add_lit, Nat.zero_mul, Nat.add_zero] at h; exact h)
     case d2 => exact hrs_one _
     case d3 => unfold maxLen; omega
     case d4 => omega
     intro v1 w6 hown hgrow hne
     have HO6 : Hid (w6.ownsRow (w.heap.size + 1) 65 2 v1 q (cellsAll H.cells (hs.take q))) := hid_intro (by first | exact hown | simpa using hown)
     have HB6 : Hid (Below w.heap.size w w6) := hid_intro ((HB1.out.trans ((al W1 (.cells #[] 65)).mono HB1.out.size)).grown hgrow (by have := HB1.out.size; simp; omega) (fun c hc => by have := HX1.out.1.1; simp [Value.ownBlock] at hc; omega))
     have HX6 : Hid (BlkW w.heap.size [.int .i64 yh, .int .i64 y] w6) := hid_intro (BlkW.grown (HX1.out.below (al W1 (.cells #[] 65))) hgrow (fun e => by have := HX1.out.1.1; simp [Value.ownBlock] at e; omega))
     clear hown hgrow hne HE0 HT1 HX1 HB1
     obtain ⟨gl, g0, g1⟩ := HTQ.out w6 HB6.out
     have c0 : w6.cell? ⟨w.heap.size, 0, none⟩ = some (.int .i64 yh) := HX6.out.1.2 0 (by simp)
     have hwl := HX6.out.1.1
     go_wp2_with fail
     go_quiet (fail)
     obtain ⟨W7, hW2⟩ : ∃ Wn, Wn = w6.drewN nq := ⟨_, rfl⟩
     rw [← hW2]
     have HDW7 : Hid (Below w6.heap.size w6 W7) := hid_intro (by rw [hW2]; exact bdrewN (Below.refl _ _) _)
     clear hW2
     have HO := hid_intro (RowG.own_below HO6.out HDW7.out)
     have HX := hid_intro (HX6.out.below HDW7.out)
     have HB := hid_intro (HB6.out.trans (HDW7.out.mono HB6.out.size))
     clear HO6 HX6 HB6 HDW7
     clear c0 hwl gl g0 g1
     obtain ⟨gl, g0, g1⟩ := HTQ.out W7 HB.out
     obtain ⟨Wd, hWd⟩ : ∃ Wd, Wd = W7.drew := ⟨_, rfl⟩
     have HXd : Hid (BlkW w.heap.size [.int .i64 yh, .int .i64 y] Wd) := hid_intro (by rw [hWd]; exact HX.out.below (Below.refl _ _).drew)
     have HOd : Hid (Wd.ownsRow (w.heap.size + 1) 65 2 v1 q (cellsAll H.cells (hs.take q))) := hid_intro (by rw [hWd]; exact HO.out)
     have HS0 : Hid (Below w.heap.size w Wd ∧ w.heap.size < Wd.heap.size ∧ Wd.cell? ⟨b, off + q * 2 + 1, none⟩ = some (.int .i64 ys)) := hid_intro (by rw [hWd]; exact ⟨HB.out.drew, HX.out.1.1, g1⟩)
     have hput : ∀ W : World, W.cell? ⟨b, off + q * 2 + 1, none⟩ = some (.int .i64 ys) → (W.setCell ⟨w.heap.size, 1, none⟩ (.int .i64 (y + ys))).cell? ⟨b, off + q * 2 + 1, none⟩ = some (.int .i64 ys) := fun W h => by rw [← h]; simp [go_sem]
     have hwr : IntKind.i64.wrap (y + ys) = y + ys := IntWalk.i64_in _ ⟨by omega, by omega⟩
     clear HX HO HB g1 g0 gl
     go_wp2_with fail
     refine wp_region_held_drew (S := (fun W => Below w.heap.size w W ∧ w.heap.size < W.heap.size ∧ W.cell? ⟨b, off + q * 2 + 1, none⟩ = some (.int .i64 ys))) (by kernel_rfl) (by rw [← hWd]; exact HS0.out) (fun hHeld => ?_)
     rw [← hWd]
     try rw [← hWd] at hHeld
     clear hWd
     refine tk (i := 0) (oi := { dst := some 42, op := Op.fieldAddr 65 (Operand.tmp 3) 1, type := 0, pos := "l07_window.go:71", after := #[], guard := none }) (v := ?_) ?_ ?_
     rotate_left
     ·(intro w hSw; (try dsimp only at hSw); go_simp) <;> with_reducible rfl
     try simp only [Act.put, SL]
     refine tk (i := 2) (oi := { dst := some 44, op := Op.move (Operand.tmp 0), type := 30, pos := "l07_window.go:71", after := #[], guard := none }) (v := ?_) ?_ ?_
     rotate_left
     ·(intro w hSw; (try dsimp only at hSw); go_simp) <;> with_reducible rfl
     try simp only [Act.put, SL]
     refine tk (i := 3) (oi := { dst := some 45, op := Op.move (Operand.tmp 5), type := 3, pos := "l07_window.go:71", after := #[], guard := none }) (v := ?_) ?_ ?_
     rotate_left
     ·(intro w hSw; (try dsimp only at hSw); go_simp) <;> with_reducible rfl
     try simp only [Act.put, SL]
     refine tk (i := 4) (oi := { dst := some 46, op := Op.indexAddr 30 (Operand.tmp 44) (Operand.tmp 45), type := 0, pos := "l07_window.go:71", after := #[{ on := 2, ground := Ground.data }, { on := 3, ground := Ground.data }], guard := none }) (v := ?_) ?_ ?_
     rotate_left
     ·(intro w hSw; (try dsimp only at hSw); go_simp) <;> with_reducible rfl
     try simp only [Act.put, SL]
     refine tk (i := 5) (oi := { dst := some 47, op := Op.fieldAddr 65 (Operand.tmp 46) 1, type := 0, pos := "l07_window.go:71", after := #[{ on := 4, ground := Ground.data }], guard := none }) (v := ?_) ?_ ?_
     rotate_left
     ·(intro w hSw; (try dsimp only at hSw); go_simp) <;> with_reducible rfl
     try simp only [Act.put, SL]
     refine tk (i := 6) (oi := { dst := some 48, op := Op.load 2 (Operand.tmp 47), type := 2, pos := "l07_window.go:71", after := #[{ on := 5, ground := Ground.data }], guard := none }) (v := ?_) ?_ ?_
     rotate_left
     ·(intro w hSw; (try dsimp only at hSw); go_simp) <;> with_reducible rfl
     try simp only [Act.put, SL]
     refine wpAnyH_ready (rs := [1]) (by kernel_rfl) (by simp) ?_
     refine AllReadyH.cons (o := { dst := some 43, op := Op.load 2 (Operand.tmp 42), type := 2, pos := "l07_window.go:71", after := #[{ on := 0, ground := Ground.data }], guard := none }) rfl (fun K hK => ?_) AllReadyH.nil
     have z1 : Wd.cell? ⟨w.heap.size, 1, none⟩ = some (.int .i64 y) := HXd.out.1.2 1 (by simp)
     have zl := HXd.out.1.1
     go_simp
     try go_wp2_with fail
     clear z1 zl
     refine hK.out _ _ HS0.out (fun _ => ?_)
     clear hK K
     try simp only [Act.put, SL]
     refine tk (i := 7) (oi := { dst := some 49, op := Op.binOp BinOp.add 2 (Operand.tmp 43) (Operand.tmp 48) 2, type := 2, pos := "l07_window.go:71", after := #[{ on := 1, ground := Ground.data }, { on := 6, ground := Ground.data }], guard := none }) (v := ?_) ?_ ?_
     rotate_left
     ·(intro w hSw; (try dsimp only at hSw); go_simp) <;> with_reducible rfl
     try simp only [Act.put, SL]
     refine tk (i := 8) (oi := { dst := some 50, op := Op.fieldAddr 65 (Operand.tmp 3) 1, type := 0, pos := "l07_window.go:71", after := #[{ on := 0, ground := Ground.phase }, { on := 1, ground := Ground.phase }, { on := 2, ground := Ground.phase }, { on := 3, ground := Ground.phase }, { on := 4, ground := Ground.phase }, { on := 5, ground := Ground.phase }, { on := 6, ground := Ground.phase }, { on := 7, ground := Ground.phase }], guard := none }) (v := ?_) ?_ ?_
     rotate_left
     ·(intro w hSw; (try dsimp only at hSw); go_simp) <;> with_reducible rfl
     try simp only [Act.put, SL]
     refine wpAnyH_ready (rs := [9]) (by kernel_rfl) (by simp) ?_
     refine AllReadyH.cons (o := { dst := none, op := Op.store 2 (Operand.tmp 50) (Operand.tmp 49), type := 0, pos := "l07_window.go:71", after := #[{ on := 8, ground := Ground.data }, { on := 7, ground := Ground.data }, { on := 0, ground := Ground.phase }, { on := 1, ground := Ground.phase }, { on := 2, ground := Ground.phase }, { on := 3, ground := Ground.phase }, { on := 4, ground := Ground.phase }, { on := 5, ground := Ground.phase }, { on := 6, ground := Ground.phase }, { on := 7, ground := Ground.phase }], guard := none }) rfl (fun K hK => ?_) AllReadyH.nil
     have z1 : Wd.cell? ⟨w.heap.size, 1, none⟩ = some (.int .i64 y) := HXd.out.1.2 1 (by simp)
     have zf : Wd.frozen? ⟨w.heap.size, 1, none⟩ = false := HXd.out.2 1 (by simp)
     have zl := HXd.out.1.1
     go_simp
     try go_wp2_with fail
     have hx9 := HXd.out.set 1 (.int .i64 (y + ys)) (by simp)
     have ho9 := RowG.own_set HOd.out w.heap.size 1 (.int .i64 (y + ys)) (fun g hg => by have := (HOd.out.lt g hg).1; omega)
     have hb9 := HS0.out.1.setCell (p := ⟨w.heap.size, 1, none⟩) (Nat.le_refl _) (.int .i64 (y + ys))
     have hc9 := hput Wd HS0.out.2.2
     clear z1 zf
     refine hK.out _ _ ⟨hb9, by simpa using zl, hc9⟩ (fun _ => ?_)
     clear hK K zl
     try simp only [Act.put, SL]
     refine wpAnyH_done (by kernel_rfl) ?_ _
     have HX := hid_intro hx9
     have HO := hid_intro ho9
     have HB := hid_intro hb9
     clear hx9 ho9 hb9 hc9 HXd HOd HS0 hput
     obtain ⟨We, hWe⟩ : ∃ We, We = Wd.setCell ⟨w.heap.size, 1, none⟩ (.int .i64 (y + ys)) := ⟨_, rfl⟩
     rw [← hWe] at HX HO HB ⊢
     clear hWe
     obtain ⟨⟨xl, xk⟩, xf⟩ := HX.out
     have x0 : We.cell? ⟨w.heap.size, 0, none⟩ = some (.int .i64 yh) := xk 0 (by simp)
     have x1 : We.cell? ⟨w.heap.size, 1, none⟩ = some (.int .i64 (y + ys)) := xk 1 (by simp)
     clear xk xf
     go_wp2_with (at_builtin; refine wpList_append_own _ rfl _ _ 30 rfl (w.heap.size + 1) 65 i0 (.agg #[.int .i64 0, .int .i64 0]) 2 16 Tryd.underlying30 hi hz0 hz1 hz2 rfl (by decide) _ _ _ rfl (HO.out.alloc _) ⟨We.heap.size, 0, none⟩ 1 1 [.int .i64 yh, .int .i64 (y + ys)] rfl rfl ?a1 ?a2 ?a3 ?a4 (by have := xl; simp; omega) ?_)
     case a1 => exact h2_cells _ _ _
     case a2 => exact h2_one _ _
     case a3 => unfold maxLen; omega
     case a4 => omega
     intro v2 w7 hown hgrow hne
     have HO7 : Hid (w7.ownsRow (w.heap.size + 1) 65 2 v2 (q + 1) (cellsAll H.cells (hs.take q) ++ [.int .i64 yh, .int .i64 (y + ys)])) := hid_intro hown
     have HB7 : Hid (Below w.heap.size w w7) := hid_intro ((HB.out.trans ((al We _).mono HB.out.size)).grown hgrow (by have := HB.out.size; simp; omega) (fun c hc => by have := (HO.out.lt c hc).1; omega))
     have HT7 := hid_intro (HT.out.below HB7.out)
     have HZ7 : Hid (w.heap.size + 1 ≤ w7.heap.size) := hid_intro (by have h1 := hgrow.size; have := xl; simp at h1; omega)
     clear hown hgrow hne x0 x1 xl
     by_cases hcq : cap = q + 1
     ·obtain ⟨hp0, hpl⟩ : len - (q + 1) = 0 ∧ hs.drop (q + 1) = [] := ⟨by omega, List.drop_of_length_le (by have := HL.out; omega)⟩
      have HPL := hid_intro hpl
      have hlp : len = q + 1 := by omega
      clear hpl
      go_wp2_with (at_builtin; refine wpList_append_own _ rfl _ _ 30 rfl (w.heap.size + 1) 65 i0 (.agg #[.int .i64 0, .int .i64 0]) 2 16 Tryd.underlying30 hi hz0 hz1 hz2 rfl (by decide) _ _ _ rfl HO7.out ⟨b, off, none⟩ 0 0 [] rfl rfl (fun _ _ h => by simp at h) (fun _ h => by simp at h) (by unfold maxLen; omega) (by omega) HZ7.out ?_)
      intro v3 w8 hown hgrow hne
      have HO8 : Hid (w8.ownsRow (w.heap.size + 1) 65 2 v3 R.length (cellsAll H.cells R)) := hid_intro (by
       rw [HI.out, ins_cells, HPL.out, show (hs.take q ++ (⟨yh, (y + ys)⟩ : H) :: []).length = q + 1 by simp; have := HL.out; omega]
       first | exact hown | simpa [cellsAll, H.cells] using hown)
      have HB8 : Hid (Below w.heap.size w w8) := hid_intro (HB7.out.grown hgrow HB7.out.size (fun c hc => by have := (HO7.out.lt c hc).1; omega))
      clear hown hgrow hne
      obtain ⟨b', o', c', rfl, m1, m2, m3⟩ := own_some (z := H.zero) H.len HO8.out (by rw [HI.out]; simp)
      go_wp2_with fail
      go_ret
      exact ⟨b', o', c', rfl, m1, m2, m3.1, .inr (by have := m3.2; omega), HB8.out⟩
     ·go_wp2_with (at_builtin; refine wpList_append_own _ rfl _ _ 30 rfl (w.heap.size + 1) 65 i0 (.agg #[.int .i64 0, .int .i64 0]) 2 16 Tryd.underlying30 hi hz0 hz1 hz2 rfl (by decide) _ _ _ rfl HO7.out ⟨b, off + (q + 1) * 2, none⟩ (len - (q + 1)) (cap - (q + 1)) (cellsAll H.cells (hs.drop (q + 1))) rfl ?l2 ?d5 ?d6 ?d7 ?d8 HZ7.out ?_)
      case l2 => rw [cellsAll_len H.len, List.length_drop]; have := HL.out; omega
      case d5 => exact fun j u hj => rws_sub (i := q + 1) (n := hs.length - (q + 1)) H.len HT7.out j u (by rw [List.take_of_length_le (by simp)]; exact hj)
      case d6 => exact hrs_one _
      case d7 => unfold maxLen; omega
      case d8 => omega
      intro v3 w8 hown hgrow hne
      have HO8 : Hid (w8.ownsRow (w.heap.size + 1) 65 2 v3 R.length (cellsAll H.cells R)) := hid_intro (by
       rw [HI.out, ins_cells, show (hs.take q ++ (⟨yh, (y + ys)⟩ : H) :: hs.drop (q + 1)).length = q + 1 + (len - (q + 1)) by simp; have := HL.out; omega]
       first | exact hown | (rw [List.append_assoc]; exact hown))
      have HB8 : Hid (Below w.heap.size w w8) := hid_intro (HB7.out.grown hgrow HB7.out.size (fun c hc => by have := (HO7.out.lt c hc).1; omega))
      clear hown hgrow hne
      obtain ⟨b', o', c', rfl, m1, m2, m3⟩ := own_some (z := H.zero) H.len HO8.out (by rw [HI.out]; simp)
      go_wp2_with fail
      go_ret
      exact ⟨b', o', c', rfl, m1, m2, m3.1, .inr (by have := m3.2; omega), HB8.out⟩
    ·have hc2 : hlt ⟨x, y⟩ ⟨yh, ys⟩ = true := by unfold hlt; simp; omega
     have HI := hid_intro (HA.out.1 hc2)
     have he3 : ¬ x = yh := fun e => he e.symm
     clear HA hc hc2
     go_wp2_with fail
     go_quiet (fail)
     obtain ⟨W1, hW2⟩ : ∃ Wn, Wn = wr.drewN nq := ⟨_, rfl⟩
     rw [← hW2]
     have HDW1 : Hid (Below wr.heap.size wr W1) := hid_intro (by rw [hW2]; exact bdrewN (Below.refl _ _) _)
     clear hW2
     have HB1 := hid_intro (HB.out.trans (HDW1.out.mono HB.out.size))
     have HX1 := hid_intro (HX.out.below HDW1.out)
     clear HB HX HDW1 c0 hwl hbl d0 d1
     have HE0 := hid_intro (own_empty W1 (w.heap.size + 1) 65 2 HX1.out.1.1)
     have hqc : (q : Int) ≤ (cap : Int) := by omega
     have hql : (q : Int) ≤ (len : Int) := by omega
     have HT1 := hid_intro (HT.out.below (HB1.out.trans ((al W1 (.cells #[] 65)).mono HB1.out.size)))
     go_wp2_with (at_builtin; refine wpList_append_own _ rfl _ _ 30 rfl (w.heap.size + 1) 65 i0 (.agg #[.int .i64 0, .int .i64 0]) 2 16 Tryd.underlying30 hi hz0 hz1 hz2 rfl (by decide) _ _ _ rfl HE0.out ⟨b, off, none⟩ q cap (cellsAll H.cells (hs.take q)) rfl ?l1 ?d1 ?d2 ?d3 ?d4 (by have := HX1.out.1.1; simp; omega) ?_)
     case l1 => rw [cellsAll_len H.len, List.length_take]; have := HL.out; omega
     case d1 => exact fun j u hj => by have h := rws_sub (i := 0) (n := q) H.len HT1.out j u (by simpa using hj); first | exact h | (rw [Addr.add_lit, Nat.zero_mul, Nat.add_zero] at h; exact h)
     case d2 => exact hrs_one _
     case d3 => unfold maxLen; omega
     case d4 => omega
     intro v1 w6 hown hgrow hne
     have HO6 : Hid (w6.ownsRow (w.heap.size + 1) 65 2 v1 q (cellsAll H.cells (hs.take q))) := hid_intro (by first | exact hown | simpa using hown)
     have HB6 : Hid (Below w.heap.size w w6) := hid_intro ((HB1.out.trans ((al W1 (.cells #[] 65)).mono HB1.out.size)).grown hgrow (by have := HB1.out.size; simp; omega) (fun c hc => by have := HX1.out.1.1; simp [Value.ownBlock] at hc; omega))
     have HX6 : Hid (BlkW w.heap.size [.int .i64 x, .int .i64 y] w6) := hid_intro (BlkW.grown (HX1.out.below (al W1 (.cells #[] 65))) hgrow (fun e => by have := HX1.out.1.1; simp [Value.ownBlock] at e; omega))
     clear hown hgrow hne HE0 HT1 HX1 HB1
     obtain ⟨gl, g0, g1⟩ := HTQ.out w6 HB6.out
     have c0 : w6.cell? ⟨w.heap.size, 0, none⟩ = some (.int .i64 x) := HX6.out.1.2 0 (by simp)
     have hwl := HX6.out.1.1
     go_wp2_with fail
     go_quiet (fail)
     obtain ⟨W7, hW2⟩ : ∃ Wn, Wn = w6.drewN nq := ⟨_, rfl⟩
     rw [← hW2]
     have HDW7 : Hid (Below w6.heap.size w6 W7) := hid_intro (by rw [hW2]; exact bdrewN (Below.refl _ _) _)
     clear hW2
     have HO := hid_intro (RowG.own_below HO6.out HDW7.out)
     have HX := hid_intro (HX6.out.below HDW7.out)
     have HB := hid_intro (HB6.out.trans (HDW7.out.mono HB6.out.size))
     clear HO6 HX6 HB6 HDW7
     clear c0 hwl gl g0 g1
     obtain ⟨⟨xl, xk⟩, xf⟩ := HX.out
     have x0 : W7.cell? ⟨w.heap.size, 0, none⟩ = some (.int .i64 x) := xk 0 (by simp)
     have x1 : W7.cell? ⟨w.heap.size, 1, none⟩ = some (.int .i64 y) := xk 1 (by simp)
     clear xk xf
     go_wp2_with (at_builtin; refine wpList_append_own _ rfl _ _ 30 rfl (w.heap.size + 1) 65 i0 (.agg #[.int .i64 0, .int .i64 0]) 2 16 Tryd.underlying30 hi hz0 hz1 hz2 rfl (by decide) _ _ _ rfl (HO.out.alloc _) ⟨W7.heap.size, 0, none⟩ 1 1 [.int .i64 x, .int .i64 y] rfl rfl ?a1 ?a2 ?a3 ?a4 (by have := xl; simp; omega) ?_)
     case a1 => exact h2_cells _ _ _
     case a2 => exact h2_one _ _
     case a3 => unfold maxLen; omega
     case a4 => omega
     intro v2 w7 hown hgrow hne
     have HO7 : Hid (w7.ownsRow (w.heap.size + 1) 65 2 v2 (q + 1) (cellsAll H.cells (hs.take q) ++ [.int .i64 x, .int .i64 y])) := hid_intro hown
     have HB7 : Hid (Below w.heap.size w w7) := hid_intro ((HB.out.trans ((al W7 _).mono HB.out.size)).grown hgrow (by have := HB.out.size; simp; omega) (fun c hc => by have := (HO.out.lt c hc).1; omega))
     have HT7 := hid_intro (HT.out.below HB7.out)
     have HZ7 : Hid (w.heap.size + 1 ≤ w7.heap.size) := hid_intro (by have h1 := hgrow.size; have := xl; simp at h1; omega)
     clear hown hgrow hne x0 x1 xl
     by_cases hcq : cap = q
     ·obtain ⟨hp0, hpl⟩ : len - (q) = 0 ∧ hs.drop (q) = [] := ⟨by omega, List.drop_of_length_le (by have := HL.out; omega)⟩
      have HPL := hid_intro hpl
      have hlp : len = q := by omega
      clear hpl
      go_wp2_with (at_builtin; refine wpList_append_own _ rfl _ _ 30 rfl (w.heap.size + 1) 65 i0 (.agg #[.int .i64 0, .int .i64 0]) 2 16 Tryd.underlying30 hi hz0 hz1 hz2 rfl (by decide) _ _ _ rfl HO7.out ⟨b, off, none⟩ 0 0 [] rfl rfl (fun _ _ h => by simp at h) (fun _ h => by simp at h) (by unfold maxLen; omega) (by omega) HZ7.out ?_)
      intro v3 w8 hown hgrow hne
      have HO8 : Hid (w8.ownsRow (w.heap.size + 1) 65 2 v3 R.length (cellsAll H.cells R)) := hid_intro (by
       rw [HI.out, ins_cells, HPL.out, show (hs.take q ++ (⟨x, y⟩ : H) :: []).length = q + 1 by simp; have := HL.out; omega]
       first | exact hown | simpa [cellsAll, H.cells] using hown)
      have HB8 : Hid (Below w.heap.size w w8) := hid_intro (HB7.out.grown hgrow HB7.out.size (fun c hc => by have := (HO7.out.lt c hc).1; omega))
      clear hown hgrow hne
      obtain ⟨b', o', c', rfl, m1, m2, m3⟩ := own_some (z := H.zero) H.len HO8.out (by rw [HI.out]; simp)
      go_wp2_with fail
      go_ret
      exact ⟨b', o', c', rfl, m1, m2, m3.1, .inr (by have := m3.2; omega), HB8.out⟩
     ·go_wp2_with (at_builtin; refine wpList_append_own _ rfl _ _ 30 rfl (w.heap.size + 1) 65 i0 (.agg #[.int .i64 0, .int .i64 0]) 2 16 Tryd.underlying30 hi hz0 hz1 hz2 rfl (by decide) _ _ _ rfl HO7.out ⟨b, off + (q) * 2, none⟩ (len - (q)) (cap - (q)) (cellsAll H.cells (hs.drop (q))) rfl ?l2 ?d5 ?d6 ?d7 ?d8 HZ7.out ?_)
      case l2 => rw [cellsAll_len H.len, List.length_drop]; have := HL.out; omega
      case d5 => exact fun j u hj => rws_sub (i := q) (n := hs.length - (q)) H.len HT7.out j u (by rw [List.take_of_length_le (by simp)]; exact hj)
      case d6 => exact hrs_one _
      case d7 => unfold maxLen; omega
      case d8 => omega
      intro v3 w8 hown hgrow hne
      have HO8 : Hid (w8.ownsRow (w.heap.size + 1) 65 2 v3 R.length (cellsAll H.cells R)) := hid_intro (by
       rw [HI.out, ins_cells, show (hs.take q ++ (⟨x, y⟩ : H) :: hs.drop (q)).length = q + 1 + (len - (q)) by simp; have := HL.out; omega]
       first | exact hown | (rw [List.append_assoc]; exact hown))
      have HB8 : Hid (Below w.heap.size w w8) := hid_intro (HB7.out.grown hgrow HB7.out.size (fun c hc => by have := (HO7.out.lt c hc).1; omega))
      clear hown hgrow hne
      obtain ⟨b', o', c', rfl, m1, m2, m3⟩ := own_some (z := H.zero) H.len HO8.out (by rw [HI.out]; simp)
      go_wp2_with fail
      go_ret
      exact ⟨b', o', c', rfl, m1, m2, m3.1, .inr (by have := m3.2; omega), HB8.out⟩
   ·have HQ2 : Hid (∀ j, j < q + 1 → hlt (hs.getD j H.zero) ⟨x, y⟩ = true) := hid_intro (fun j hj => by
     rcases Nat.lt_succ_iff_lt_or_eq.1 hj with h | rfl
     ·exact HQ.out j h
     ·exact hc)
    have hc1 := hc
    unfold hlt at hc1
    simp only [decide_eq_true_eq] at hc1
    generalize hs.getD q H.zero = Y at *
    obtain ⟨yh, ys⟩ := Y
    dsimp only at hc1 d0 d1
    clear hc
    go_wp2_with fail
    go_quiet (fail)
    go_wp2_with fail
    go_roundw
    case rel => exact ⟨q + 1, by omega, by go_num, hid_intro (bdrewN HB.out _), hid_intro (HX.out.below (bdrewN (Below.refl _ _) _)), HQ2⟩
    case measure => simp [intOf]; omega
  ·have hlt2 : ¬ (q : Int) < (len : Int) := by omega
   have hins : R = hs.take q ++ (⟨x, y⟩ : H) :: hs.drop q := by
    have e : q = hs.length := by have := HL.out; omega
    rw [HEND.out (fun j hj => HQ.out j (by omega)), e]
    simp
   have HI := hid_intro hins
   clear hins
   go_wp2_with fail
   go_quiet (fail)
   obtain ⟨W1, hW2⟩ : ∃ Wn, Wn = wr.drewN nq := ⟨_, rfl⟩
   rw [← hW2]
   have HDW1 : Hid (Below wr.heap.size wr W1) := hid_intro (by rw [hW2]; exact bdrewN (Below.refl _ _) _)
   clear hW2
   have HB1 := hid_intro (HB.out.trans (HDW1.out.mono HB.out.size))
   have HX1 := hid_intro (HX.out.below HDW1.out)
   clear HB HX HDW1 c0 hwl
   have HE0 := hid_intro (own_empty W1 (w.heap.size + 1) 65 2 HX1.out.1.1)
   have hqc : (q : Int) ≤ (cap : Int) := by omega
   have hql : (q : Int) ≤ (len : Int) := by omega
   have HT1 := hid_intro (HT.out.below (HB1.out.trans ((al W1 (.cells #[] 65)).mono HB1.out.size)))
   go_wp2_with (at_builtin; refine wpList_append_own _ rfl _ _ 30 rfl (w.heap.size + 1) 65 i0 (.agg #[.int .i64 0, .int .i64 0]) 2 16 Tryd.underlying30 hi hz0 hz1 hz2 rfl (by decide) _ _ _ rfl HE0.out ⟨b, off, none⟩ q cap (cellsAll H.cells (hs.take q)) rfl ?l1 ?d1 ?d2 ?d3 ?d4 (by have := HX1.out.1.1; simp; omega) ?_)
   case l1 => rw [cellsAll_len H.len, List.length_take]; have := HL.out; omega
   case d1 => exact fun j u hj => by have h := rws_sub (i := 0) (n := q) H.len HT1.out j u (by simpa using hj); first | exact h | (rw [Addr.add_lit, Nat.zero_mul, Nat.add_zero] at h; exact h)
   case d2 => exact hrs_one _
   case d3 => unfold maxLen; omega
   case d4 => omega
   intro v1 w6 hown hgrow hne
   have HO6 : Hid (w6.ownsRow (w.heap.size + 1) 65 2 v1 q (cellsAll H.cells (hs.take q))) := hid_intro (by first | exact hown | simpa using hown)
   have HB6 : Hid (Below w.heap.size w w6) := hid_intro ((HB1.out.trans ((al W1 (.cells #[] 65)).mono HB1.out.size)).grown hgrow (by have := HB1.out.size; simp; omega) (fun c hc => by have := HX1.out.1.1; simp [Value.ownBlock] at hc; omega))
   have HX6 : Hid (BlkW w.heap.size [.int .i64 x, .int .i64 y] w6) := hid_intro (BlkW.grown (HX1.out.below (al W1 (.cells #[] 65))) hgrow (fun e => by have := HX1.out.1.1; simp [Value.ownBlock] at e; omega))
   clear hown hgrow hne HE0 HT1 HX1 HB1
   go_wp2_with fail
   go_quiet (fail)
   obtain ⟨W7, hW2⟩ : ∃ Wn, Wn = w6.drewN nq := ⟨_, rfl⟩
   rw [← hW2]
   have HDW7 : Hid (Below w6.heap.size w6 W7) := hid_intro (by rw [hW2]; exact bdrewN (Below.refl _ _) _)
   clear hW2
   have HO := hid_intro (RowG.own_below HO6.out HDW7.out)
   have HX := hid_intro (HX6.out.below HDW7.out)
   have HB := hid_intro (HB6.out.trans (HDW7.out.mono HB6.out.size))
   clear HO6 HX6 HB6 HDW7
   obtain ⟨⟨xl, xk⟩, xf⟩ := HX.out
   have x0 : W7.cell? ⟨w.heap.size, 0, none⟩ = some (.int .i64 x) := xk 0 (by simp)
   have x1 : W7.cell? ⟨w.heap.size, 1, none⟩ = some (.int .i64 y) := xk 1 (by simp)
   clear xk xf
   go_wp2_with (at_builtin; refine wpList_append_own _ rfl _ _ 30 rfl (w.heap.size + 1) 65 i0 (.agg #[.int .i64 0, .int .i64 0]) 2 16 Tryd.underlying30 hi hz0 hz1 hz2 rfl (by decide) _ _ _ rfl (HO.out.alloc _) ⟨W7.heap.size, 0, none⟩ 1 1 [.int .i64 x, .int .i64 y] rfl rfl ?a1 ?a2 ?a3 ?a4 (by have := xl; simp; omega) ?_)
   case a1 => exact h2_cells _ _ _
   case a2 => exact h2_one _ _
   case a3 => unfold maxLen; omega
   case a4 => omega
   intro v2 w7 hown hgrow hne
   have HO7 : Hid (w7.ownsRow (w.heap.size + 1) 65 2 v2 (q + 1) (cellsAll H.cells (hs.take q) ++ [.int .i64 x, .int .i64 y])) := hid_intro hown
   have HB7 : Hid (Below w.heap.size w w7) := hid_intro ((HB.out.trans ((al W7 _).mono HB.out.size)).grown hgrow (by have := HB.out.size; simp; omega) (fun c hc => by have := (HO.out.lt c hc).1; omega))
   have HT7 := hid_intro (HT.out.below HB7.out)
   have HZ7 : Hid (w.heap.size + 1 ≤ w7.heap.size) := hid_intro (by have h1 := hgrow.size; have := xl; simp at h1; omega)
   clear hown hgrow hne x0 x1 xl
   by_cases hcq : cap = q
   ·obtain ⟨hp0, hpl⟩ : len - (q) = 0 ∧ hs.drop (q) = [] := ⟨by omega, List.drop_of_length_le (by have := HL.out; omega)⟩
    have HPL := hid_intro hpl
    have hlp : len = q := by omega
    clear hpl
    go_wp2_with (at_builtin; refine wpList_append_own _ rfl _ _ 30 rfl (w.heap.size + 1) 65 i0 (.agg #[.int .i64 0, .int .i64 0]) 2 16 Tryd.underlying30 hi hz0 hz1 hz2 rfl (by decide) _ _ _ rfl HO7.out ⟨b, off, none⟩ 0 0 [] rfl rfl (fun _ _ h => by simp at h) (fun _ h => by simp at h) (by unfold maxLen; omega) (by omega) HZ7.out ?_)
    intro v3 w8 hown hgrow hne
    have HO8 : Hid (w8.ownsRow (w.heap.size + 1) 65 2 v3 R.length (cellsAll H.cells R)) := hid_intro (by
     rw [HI.out, ins_cells, HPL.out, show (hs.take q ++ (⟨x, y⟩ : H) :: []).length = q + 1 by simp; have := HL.out; omega]
     first | exact hown | simpa [cellsAll, H.cells] using hown)
    have HB8 : Hid (Below w.heap.size w w8) := hid_intro (HB7.out.grown hgrow HB7.out.size (fun c hc => by have := (HO7.out.lt c hc).1; omega))
    clear hown hgrow hne
    obtain ⟨b', o', c', rfl, m1, m2, m3⟩ := own_some (z := H.zero) H.len HO8.out (by rw [HI.out]; simp)
    go_wp2_with fail
    go_ret
    exact ⟨b', o', c', rfl, m1, m2, m3.1, .inr (by have := m3.2; omega), HB8.out⟩
   ·go_wp2_with (at_builtin; refine wpList_append_own _ rfl _ _ 30 rfl (w.heap.size + 1) 65 i0 (.agg #[.int .i64 0, .int .i64 0]) 2 16 Tryd.underlying30 hi hz0 hz1 hz2 rfl (by decide) _ _ _ rfl HO7.out ⟨b, off + (q) * 2, none⟩ (len - (q)) (cap - (q)) (cellsAll H.cells (hs.drop (q))) rfl ?l2 ?d5 ?d6 ?d7 ?d8 HZ7.out ?_)
    case l2 => rw [cellsAll_len H.len, List.length_drop]; have := HL.out; omega
    case d5 => exact fun j u hj => rws_sub (i := q) (n := hs.length - (q)) H.len HT7.out j u (by rw [List.take_of_length_le (by simp)]; exact hj)
    case d6 => exact hrs_one _
    case d7 => unfold maxLen; omega
    case d8 => omega
    intro v3 w8 hown hgrow hne
    have HO8 : Hid (w8.ownsRow (w.heap.size + 1) 65 2 v3 R.length (cellsAll H.cells R)) := hid_intro (by
     rw [HI.out, ins_cells, show (hs.take q ++ (⟨x, y⟩ : H) :: hs.drop (q)).length = q + 1 + (len - (q)) by simp; have := HL.out; omega]
     first | exact hown | (rw [List.append_assoc]; exact hown))
    have HB8 : Hid (Below w.heap.size w w8) := hid_intro (HB7.out.grown hgrow HB7.out.size (fun c hc => by have := (HO7.out.lt c hc).1; omega))
    clear hown hgrow hne
    obtain ⟨b', o', c', rfl, m1, m2, m3⟩ := own_some (z := H.zero) H.len HO8.out (by rw [HI.out]; simp)
    go_wp2_with fail
    go_ret
    exact ⟨b', o', c', rfl, m1, m2, m3.1, .inr (by have := m3.2; omega), HB8.out⟩
end WinR
end Go.Proofs.YtnlmpejgiakepaaDoor
