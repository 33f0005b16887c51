/-
  Two rising lists of hours laid into one, the program's way: the parts. The conditions: at most 1048575 of both together; a list that is nil has no room, any other room for what it holds; sums that are far from running over.
-/
import Derived.Test.YtnlmpejgiakepaaDoorA3
namespace Go.Proofs.YtnlmpejgiakepaaDoor
open Go.ChangeShapes Go.WideShapes Go.ChangeAt Go.RowKit
set_option linter.unusedVariables false
set_option linter.unusedSimpArgs false
namespace WinR
open RowG (MadeG Rws cellsAll cellsAll_len cellsAll_get own_made take_more getD_mem)
open CatR (Blk Blk.new)
/-- A list's value: these hours, in the world at the start. -/
def LstH (w : World) (v : Value) (L : List H) : Prop := ∃ ao c, v = .slice ao L.length c ∧ SlOk ao L.length c ∧ Hrs ao L w
theorem LstH.tail {w : World} {ao : Option Addr} {c : Nat} {X : H} {L : List H} (hS : SlOk ao (X :: L).length c) (h : Hrs ao (X :: L) w) : ∃ b off, ao = some ⟨b, off, none⟩ ∧ b < w.heap.size ∧ w.cell? ⟨b, off, none⟩ = some (.int .i64 X.h) ∧ w.cell? ⟨b, off + 1, none⟩ = some (.int .i64 X.s) ∧ L.length + 1 ≤ c ∧ c ≤ maxLen ∧ (c = 1 → LstH w (.slice (some ⟨b, off, none⟩) 0 0) L) ∧ (¬ c = 1 → LstH w (.slice (some ⟨b, off + 2, none⟩) L.length (c - 1)) L) := by
 rcases hS with ⟨h0, h1, _⟩ | ⟨b, off, rfl, h1, h2⟩
 ·simp at h1
 ·obtain ⟨hbl, c0, c1⟩ := Hrs.two h 0 (by simp)
  refine ⟨b, off, rfl, hbl, by simpa using c0, by simpa using c1, by simpa using h1, h2, fun hc => ?_, fun hc => ?_⟩
  ·have : L = [] := List.length_eq_zero_iff.1 (by simp at h1; omega)
   subst this
   exact ⟨_, _, rfl, .inr ⟨b, off, rfl, Nat.le_refl _, by unfold maxLen; omega⟩, .inl rfl⟩
  ·refine ⟨_, _, rfl, .inr ⟨b, off + 2, rfl, by simp at h1; omega, by omega⟩, ?_⟩
   rcases h with h | ⟨b', off', he, _, hc'⟩
   ·simp at h
   ·simp only [Option.some.injEq, Addr.mk.injEq, and_true] at he
    obtain ⟨rfl, rfl⟩ := he
    refine .inr ⟨b, off + 2, rfl, hbl, fun j hj => ?_⟩
    have := hc' (j + 1) (by simpa using hj)
    intro i hi
    have := this i hi
    simp only [List.getD_cons_succ] at this
    rw [← this]
    congr 2
    omega
/-- What stands in the round: the list's box, the answer's box, what was laid so far. -/
def KWH (w : World) (ta : Option Addr) (tl tc : Nat) (P : List H) (bv : Value) (W : World) : Prop := Below w.heap.size w W ∧ BlkW w.heap.size [.slice ta tl tc, .func (.func 90) #[] #[], .func (.func 91) #[] #[]] W ∧ BlkW (w.heap.size + 2) [.slice none 0 0, .nilFunc, .nilFunc] W ∧ W.ownsRow (w.heap.size + 3) 65 2 bv P.length (cellsAll H.cells P)
theorem KWH.below {w : World} {ta : Option Addr} {tl tc : Nat} {P : List H} {bv : Value} {W W' : World} (h : KWH w ta tl tc P bv W) (hb : Below W.heap.size W W') : KWH w ta tl tc P bv W' :=
 ⟨h.1.trans (hb.mono h.1.size), h.2.1.below hb, h.2.2.1.below hb, RowG.own_below h.2.2.2 hb⟩
theorem KWH.put {w : World} {ta : Option Addr} {tl tc : Nat} {P : List H} {bv : Value} {W : World} (h : KWH w ta tl tc P bv W) (B o : Nat) (v : Value) (hB : w.heap.size + 3 ≤ B) (hg : ∀ g, bv.ownBlock = some g → g ≠ B) : KWH w ta tl tc P bv (W.setCell ⟨B, o, none⟩ v) :=
 ⟨h.1.setCell (by show w.heap.size ≤ B; omega) _, h.2.1.other B o v (by omega), h.2.2.1.other B o v (by omega), RowG.own_set h.2.2.2 B o v hg⟩
theorem KWH.appL {w : World} {ta : Option Addr} {tl tc : Nat} {P L : List H} {bv : Value} {W W' : World} {v' : Value} (h : KWH w ta tl tc P bv W) (ho : W'.ownsRow (w.heap.size + 3) 65 2 v' (P.length + L.length) (cellsAll H.cells P ++ cellsAll H.cells L)) (hg : W.grownBy W' bv.ownBlock) : KWH w ta tl tc (P ++ L) v' W' := by
 refine ⟨h.1.grown hg h.1.size (fun c hc => by have := (h.2.2.2.lt c hc).1; omega), BlkW.grown h.2.1 hg (fun e => by have := (h.2.2.2.lt _ e.symm).1; omega), BlkW.grown h.2.2.1 hg (fun e => by have := (h.2.2.2.lt _ e.symm).1; omega), ?_⟩
 rw [show cellsAll H.cells (P ++ L) = cellsAll H.cells P ++ cellsAll H.cells L by simp [cellsAll], List.length_append]
 exact ho
theorem KWH.app {w : World} {ta : Option Addr} {tl tc : Nat} {P : List H} {bv : Value} {W W' : World} {x y : Int} {v' : Value} (h : KWH w ta tl tc P bv W) (ho : W'.ownsRow (w.heap.size + 3) 65 2 v' (P.length + 1) (cellsAll H.cells P ++ [.int .i64 x, .int .i64 y])) (hg : W.grownBy W' bv.ownBlock) : KWH w ta tl tc (P ++ [⟨x, y⟩]) v' W' :=
 KWH.appL (L := [⟨x, y⟩]) h (by simpa [cellsAll, H.cells] using ho) hg
theorem KWH.nil {w : World} {ta : Option Addr} {tl tc : Nat} {P : List H} {bv : Value} {W : World} (h : KWH w ta tl tc P bv W) : KWH w ta tl tc (P ++ []) bv W := by rw [List.append_nil]; exact h
theorem hrs_src {b off : Nat} {L : List H} {w W : World} (h : Hrs (some ⟨b, off, none⟩) L w) (hW : Below w.heap.size w W) : ∀ j u, (cellsAll H.cells L)[j]? = some u → W.cell? ((⟨b, off, none⟩ : Addr).add j) = some u := by
 intro j u hj
 have h2 := rws_sub (i := 0) (n := L.length) H.len (h.below hW) j u (by simpa using hj)
 rw [Nat.zero_mul, Nat.add_zero] at h2
 exact h2
theorem hblk_grown {B : Nat} {cs : List Value} {W W' : World} {row : Option Nat} (h : Blk B cs W) (hg : W.grownBy W' row) (hne : some B ≠ row) : Blk B cs W' :=
 ⟨by have := hg.size; have := h.1; omega, fun j hj => (World.cell?_of_block (a := ⟨B, j, none⟩) (hg.block B h.1 hne)).trans (h.2 j hj)⟩
theorem K5 {w : World} {ta : Option Addr} {tl tc : Nat} {P : List H} {bv : Value} {W : World} {OB TB : Nat} {xh xs yh ys : Int} (h : KWH w ta tl tc P bv W) (ho : Blk OB [.int .i64 xh, .int .i64 xs] W) (ht : Blk TB [.int .i64 yh, .int .i64 ys] W) : Below w.heap.size w W ∧ w.heap.size < W.heap.size ∧ OB < W.heap.size ∧ TB < W.heap.size ∧ W.cell? ⟨w.heap.size, 1, none⟩ = some (.func (.func 90) #[] #[]) ∧ W.cell? ⟨w.heap.size, 2, none⟩ = some (.func (.func 91) #[] #[]) ∧ W.cell? ⟨OB, 0, none⟩ = some (.int .i64 xh) ∧ W.cell? ⟨OB, 1, none⟩ = some (.int .i64 xs) ∧ W.cell? ⟨TB, 0, none⟩ = some (.int .i64 yh) ∧ W.cell? ⟨TB, 1, none⟩ = some (.int .i64 ys) :=
 ⟨h.1, h.2.1.1.1, ho.1, ht.1, h.2.1.1.2 1 (by simp), h.2.1.1.2 2 (by simp), ho.2 0 (by simp), ho.2 1 (by simp), ht.2 0 (by simp), ht.2 1 (by simp)⟩
set_option maxRecDepth 100000 in
set_option maxHeartbeats 16000000 in
theorem with_hours (A0 B0 : List H) (ta tb : Option Addr) (tc tb2 : Nat) (w : World) (hlen : A0.length + B0.length ≤ 1048575) (hsa : ∀ z ∈ A0, 0 ≤ z.s ∧ z.s ≤ 1000000000000000) (hsb : ∀ z ∈ B0, 0 ≤ z.s ∧ z.s ≤ 1000000000000000) (sa : SlOk ta A0.length tc) (sb : SlOk tb B0.length tb2) (hA : Hrs ta A0 w) (hB : Hrs tb B0 w) :
  Calls Tryd.prog 79 #[.agg #[.slice ta A0.length tc, .func (.func 90) #[] #[], .func (.func 91) #[] #[]], .agg #[.slice tb B0.length tb2, .func (.func 90) #[] #[], .func (.func 91) #[] #[]]] w fun e w' => ∃ ao c, e = .returned (.agg #[.slice ao (mrg hlt addH A0 B0).length c, .func (.func 90) #[] #[], .func (.func 91) #[] #[]]) ∧ Hrs ao (mrg hlt addH A0 B0) w' ∧ ((mrg hlt addH A0 B0).length = 0 ∨ ∀ b off, ao = some ⟨b, off, none⟩ → w.heap.size ≤ b) ∧ Below w.heap.size w w' := by
 obtain ⟨i0, hi, hz0, hz1, hz2⟩ := info_parts infoH
 have HLA : Hid (LstH w (.slice ta A0.length tc) A0) := hid_intro ⟨_, _, rfl, sa, hA⟩
 have HLB : Hid (LstH w (.slice tb B0.length tb2) B0) := hid_intro ⟨_, _, rfl, sb, hB⟩
 have HSA := hid_intro hsa
 have HSB := hid_intro hsb
 obtain ⟨R, hR⟩ : ∃ R, R = mrg hlt addH A0 B0 := ⟨_, rfl⟩
 have HM0 : Hid ([] ++ mrg hlt addH A0 B0 = R) := hid_intro hR.symm
 rw [← hR]
 clear hR
 obtain ⟨tl, htl⟩ : ∃ tl, tl = A0.length := ⟨_, rfl⟩
 obtain ⟨bl, hbl⟩ : ∃ bl, bl = B0.length := ⟨_, rfl⟩
 rw [← htl] at HLA ⊢
 rw [← hbl] at HLB ⊢
 clear htl hbl sa sb hA hB hsa hsb
 obtain ⟨W0, hW0⟩ : ∃ W0, W0 = ((w.alloc (.cells #[.slice ta tl tc, .func (.func 90) #[] #[], .func (.func 91) #[] #[]] 95)).alloc (.cells #[.slice tb bl tb2, .func (.func 90) #[] #[], .func (.func 91) #[] #[]] 95)).alloc (.cells #[.slice none 0 0, .nilFunc, .nilFunc] 95) := ⟨_, rfl⟩
 have HW0 := hid_intro hW0
 have HK0 : Hid (KWH w ta tl tc [] (.slice none 0 0) W0) := hid_intro (by
  rw [hW0]
  refine ⟨(((Below.refl _ _).alloc (Nat.le_refl _) _).alloc (by simp) _).alloc (by simp; omega) _, ((BlkW.new w [.slice ta tl tc, .func (.func 90) #[] #[], .func (.func 91) #[] #[]] 95).below (al _ _)).below (al _ _), ?_, World.ownsRow_nil _ _ _ _⟩
  have h := BlkW.new ((w.alloc (.cells #[.slice ta tl tc, .func (.func 90) #[] #[], .func (.func 91) #[] #[]] 95)).alloc (.cells #[.slice tb bl tb2, .func (.func 90) #[] #[], .func (.func 91) #[] #[]] 95)) [.slice none 0 0, .nilFunc, .nilFunc] 95
  rw [show ((w.alloc (.cells #[.slice ta tl tc, .func (.func 90) #[] #[], .func (.func 91) #[] #[]] 95)).alloc (.cells #[.slice tb bl tb2, .func (.func 90) #[] #[], .func (.func 91) #[] #[]] 95)).heap.size = w.heap.size + 2 by simp] at h
  exact h)
 have HY0 : Hid (Blk (w.heap.size + 1) [.slice tb bl tb2, .func (.func 90) #[] #[], .func (.func 91) #[] #[]] W0) := hid_intro (by
  have h := Blk.new (w.alloc (.cells #[.slice ta tl tc, .func (.func 90) #[] #[], .func (.func 91) #[] #[]] 95)) [.slice tb bl tb2, .func (.func 90) #[] #[], .func (.func 91) #[] #[]] 95
  rw [show (w.alloc (.cells #[.slice ta tl tc, .func (.func 90) #[] #[], .func (.func 91) #[] #[]] 95)).heap.size = w.heap.size + 1 by simp] at h
  rw [hW0]
  exact h.below (al _ _))
 clear hW0
 go_enter Tryd.func79, Tryd.ntmps79
 go_wp2_with fail
 rw [← HW0.out]
 have x0 : W0.cell? ⟨w.heap.size, 0, none⟩ = some (.slice ta tl tc) := HK0.out.2.1.1.2 0 (by simp)
 have y0 : W0.cell? ⟨w.heap.size + 1, 0, none⟩ = some (.slice tb bl tb2) := HY0.out.2 0 (by simp)
 have xl := HK0.out.2.1.1.1
 have yl := HY0.out.1
 go_quiet (fail)
 go_wp2_with fail
 obtain ⟨W1, hW1⟩ : ∃ W1, W1 = W0.drewN nq := ⟨_, rfl⟩
 rw [← hW1]
 have HK1 : Hid (KWH w ta tl tc [] (.slice none 0 0) W1) := hid_intro (by rw [hW1]; exact @KWH.below w ta tl tc _ _ _ _ HK0.out (bdN2 (Below.refl _ _) _))
 clear hW1 HK0 HY0 HW0 x0 y0 xl yl
 go_loopw [5, 6, 7] (fun bv lv rv wr => ∃ (P L Q : List H), Hid (LstH w lv L) ∧ Hid (LstH w rv Q) ∧ P.length + L.length + Q.length ≤ 1048575 ∧ Hid (∀ z ∈ L, 0 ≤ z.s ∧ z.s ≤ 1000000000000000) ∧ Hid (∀ z ∈ Q, 0 ≤ z.s ∧ z.s ≤ 1000000000000000) ∧ Hid (P ++ mrg hlt addH L Q = R) ∧ Hid (KWH w ta tl tc P bv wr)) (fun _ lv rv _ => slen lv + slen rv)
 case atStart => exact ⟨[], A0, B0, HLA, HLB, by simp; exact hlen, HSA, HSB, HM0, HK1⟩
 case round =>
  clear HLA HLB HM0 HK1 HSA HSB
  obtain ⟨P, L, Q, HL, HQ, hN, HSL, HSQ, HR, HK⟩ := hrel
  obtain ⟨bv, hbv⟩ : ∃ bv, bv = u5 := ⟨_, rfl⟩
  subst hbv
  obtain ⟨la, lc, rfl, sl, hl⟩ := HL.out
  obtain ⟨ra, rc, rfl, sr, hr⟩ := HQ.out
  cases L with
  | nil =>
   have HRR : Hid (P ++ [] ++ Q = R) := hid_intro (by rw [← HR.out, List.append_nil]; simp [mrg])
   have HTL1x := hid_intro hl
   have HTRx := hid_intro hr
   obtain ⟨rl, hrl⟩ : ∃ rl, rl = Q.length := ⟨_, rfl⟩
   have HRn := hid_intro hrl
   have HLn : Hid (0 = 0) := hid_intro rfl
   simp only [List.length_nil] at hN sl ⊢
   rw [← hrl] at hN sr ⊢
   clear HL HQ hl hr hrl
   rcases sl with ⟨rfl, _, rfl⟩ | ⟨b, off, rfl, n1, n2⟩
   ·rcases sr with ⟨rfl, hr0, rfl⟩ | ⟨b2, off2, rfl, m1, m2⟩
    ·subst hr0
     obtain rfl : Q = [] := List.length_eq_zero_iff.1 HRn.out.symm
     have HKe := HK
     rw [show P = R from by rw [← HRR.out]; simp] at HKe
     have ho := HKe.out.2.2.2
     obtain ⟨ao, cp, rfl, hm⟩ := own_made (z := H.zero) H.len ho
     have HM := hid_intro hm
     have HNE : Hid (R.length = 0 ∨ ∀ b off, ao = some ⟨b, off, none⟩ → w.heap.size + 3 ≤ b) := hid_intro (by
      rcases hm.own with h0 | ⟨g, e1, e2, _⟩
      ·exact .inl h0
      ·exact .inr (fun b off q => by rw [e1] at q; simp at q; omega))
     clear hm ho
     obtain ⟨⟨xl, xk⟩, xf⟩ := HKe.out.2.1
     have x0 : wr.cell? ⟨w.heap.size, 0, none⟩ = some (.slice ta tl tc) := xk 0 (by simp)
     have x1 : wr.cell? ⟨w.heap.size, 1, none⟩ = some (.func (.func 90) #[] #[]) := xk 1 (by simp)
     have x2 : wr.cell? ⟨w.heap.size, 2, none⟩ = some (.func (.func 91) #[] #[]) := xk 2 (by simp)
     have xf0 : wr.frozen? ⟨w.heap.size, 0, none⟩ = false := xf 0 (by simp)
     obtain ⟨⟨zl, zk⟩, zf⟩ := HKe.out.2.2.1
     have z0 : wr.cell? ⟨w.heap.size + 2, 0, none⟩ = some (.slice none 0 0) := zk 0 (by simp)
     have z1 : wr.cell? ⟨w.heap.size + 2, 1, none⟩ = some .nilFunc := zk 1 (by simp)
     have z2 : wr.cell? ⟨w.heap.size + 2, 2, none⟩ = some .nilFunc := zk 2 (by simp)
     have zf0 : wr.frozen? ⟨w.heap.size + 2, 0, none⟩ = false := zf 0 (by simp)
     have zf1 : wr.frozen? ⟨w.heap.size + 2, 1, none⟩ = false := zf 1 (by simp)
     have zf2 : wr.frozen? ⟨w.heap.size + 2, 2, none⟩ = false := zf 2 (by simp)
     clear xk xf zk zf
     go_wp2_with (at_builtin; refine wpList_append_own_none rfl _ _ 30 rfl (w.heap.size + 3) 65 i0 2 Tryd.underlying30 hi _ _ _ rfl HKe.out.2.2.2 rfl ?_)
     refine bodyPost_ret (v := .agg #[.slice ao R.length cp, .func (.func 90) #[] #[], .func (.func 91) #[] #[]]) (by simp [results, Tryd.results79, go_sem, z0, z1, z2]) rfl ?_
     have q3 : R.length = 0 ∨ ∀ b off, ao = some ⟨b, off, none⟩ → w.heap.size ≤ b := HNE.out.imp id (fun h b off e => by have := h b off e; omega)
     first | refine ⟨ao, ⟨cp, rfl⟩, ?_, (by first | exact q3 | simpa using q3), ?_⟩ | refine ⟨ao, cp, rfl, ?_, (by first | exact q3 | simpa using q3), ?_⟩
     ·have q0 : R.length = 0 ∨ ∀ b off, ao = some ⟨b, off, none⟩ → b ≠ w.heap.size := HNE.out.imp id (fun h b off e => by have := h b off e; omega)
      have q2 : R.length = 0 ∨ ∀ b off, ao = some ⟨b, off, none⟩ → b ≠ w.heap.size + 1 + 1 := HNE.out.imp id (fun h b off e => by have := h b off e; omega)
      exact (Rws.put (Rws.put (Rws.put (Rws.put HM.out.rws w.heap.size 0 (.slice ao R.length cp) q0) (w.heap.size + 1 + 1) 0 (.slice ao R.length cp) q2) (w.heap.size + 1 + 1) 1 (.func (.func 90) #[] #[]) q2) (w.heap.size + 1 + 1) 2 (.func (.func 91) #[] #[]) q2)
     ·have hb2 : w.heap.size ≤ w.heap.size + 1 + 1 := by omega
      exact ((((HKe.out.1.setCell (Nat.le_refl _) _).setCell hb2 _).setCell hb2 _).setCell hb2 _)
    ·have HTR1 := hid_intro HTRx.out
     clear HTRx
     unfold maxLen at m2
     go_wp2_with (first | (at_builtin; refine wpList_append_own_none rfl _ _ 30 rfl (w.heap.size + 3) 65 i0 2 Tryd.underlying30 hi _ _ _ rfl HK.out.2.2.2 rfl ?_) | (at_builtin; refine wpList_append_own _ rfl _ _ 30 rfl (w.heap.size + 3) 65 i0 (.agg #[.int .i64 0, .int .i64 0]) 2 16 Tryd.underlying30 hi hz0 hz1 hz2 rfl (by decide) _ _ _ rfl HK.out.2.2.2 ⟨b2, off2, none⟩ rl rc (cellsAll H.cells Q) rfl ?l0 ?d0 ?e0 ?f0 ?g0 ?s0 ?_))
     case l0 => first | rfl | (rw [cellsAll_len H.len]; first | rfl | (rw [HRn.out]; done) | (have := HLn.out; simp only [List.length_cons]; omega) | (have := HLn.out; simp; omega) | (have := HRn.out; simp; omega))
     case d0 => exact fun j u hj => by have h := hrs_src HTR1.out HK.out.1 j u hj; first | exact h | (rw [Addr.add_lit] at h; exact h)
     case e0 => exact hrs_one _
     case f0 => unfold maxLen; have := HLn.out; have := HRn.out; (try simp only [List.length_append, List.length_cons, List.length_nil]); omega
     case g0 => have := HLn.out; have := HRn.out; (try simp only [List.length_append, List.length_cons, List.length_nil]); omega
     case s0 => have := HK.out.2.2.1.1.1; omega
     intro v0 w0 hown hgrow hne
     have HK0 : Hid (KWH w ta tl tc (P ++ Q) v0 w0) := hid_intro (@KWH.appL w ta tl tc _ _ _ _ _ _ HK.out (by first | exact hown | simpa using hown | (have h := hown; rw [HLn.out] at h; exact h) | (have h := hown; rw [HRn.out] at h; exact h) | (have h := hown; rw [HLn.out] at h; simpa using h) | (have h := hown; rw [HRn.out] at h; simpa using h)) hgrow)
     clear hown hgrow hne
     have HKe := HK0
     rw [show P ++ Q = R from by rw [← HRR.out]; simp] at HKe
     clear HK0
     have ho := HKe.out.2.2.2
     obtain ⟨ao, cp, rfl, hm⟩ := own_made (z := H.zero) H.len ho
     have HM := hid_intro hm
     have HNE : Hid (R.length = 0 ∨ ∀ b off, ao = some ⟨b, off, none⟩ → w.heap.size + 3 ≤ b) := hid_intro (by
      rcases hm.own with h0 | ⟨g, e1, e2, _⟩
      ·exact .inl h0
      ·exact .inr (fun b off q => by rw [e1] at q; simp at q; omega))
     clear hm ho
     obtain ⟨⟨xl, xk⟩, xf⟩ := HKe.out.2.1
     have x0 : w0.cell? ⟨w.heap.size, 0, none⟩ = some (.slice ta tl tc) := xk 0 (by simp)
     have x1 : w0.cell? ⟨w.heap.size, 1, none⟩ = some (.func (.func 90) #[] #[]) := xk 1 (by simp)
     have x2 : w0.cell? ⟨w.heap.size, 2, none⟩ = some (.func (.func 91) #[] #[]) := xk 2 (by simp)
     have xf0 : w0.frozen? ⟨w.heap.size, 0, none⟩ = false := xf 0 (by simp)
     obtain ⟨⟨zl, zk⟩, zf⟩ := HKe.out.2.2.1
     have z0 : w0.cell? ⟨w.heap.size + 2, 0, none⟩ = some (.slice none 0 0) := zk 0 (by simp)
     have z1 : w0.cell? ⟨w.heap.size + 2, 1, none⟩ = some .nilFunc := zk 1 (by simp)
     have z2 : w0.cell? ⟨w.heap.size + 2, 2, none⟩ = some .nilFunc := zk 2 (by simp)
     have zf0 : w0.frozen? ⟨w.heap.size + 2, 0, none⟩ = false := zf 0 (by simp)
     have zf1 : w0.frozen? ⟨w.heap.size + 2, 1, none⟩ = false := zf 1 (by simp)
     have zf2 : w0.frozen? ⟨w.heap.size + 2, 2, none⟩ = false := zf 2 (by simp)
     clear xk xf zk zf
     go_wp2_with fail
     refine bodyPost_ret (v := .agg #[.slice ao R.length cp, .func (.func 90) #[] #[], .func (.func 91) #[] #[]]) (by simp [results, Tryd.results79, go_sem, z0, z1, z2]) rfl ?_
     have q3 : R.length = 0 ∨ ∀ b off, ao = some ⟨b, off, none⟩ → w.heap.size ≤ b := HNE.out.imp id (fun h b off e => by have := h b off e; omega)
     first | refine ⟨ao, ⟨cp, rfl⟩, ?_, (by first | exact q3 | simpa using q3), ?_⟩ | refine ⟨ao, cp, rfl, ?_, (by first | exact q3 | simpa using q3), ?_⟩
     ·have q0 : R.length = 0 ∨ ∀ b off, ao = some ⟨b, off, none⟩ → b ≠ w.heap.size := HNE.out.imp id (fun h b off e => by have := h b off e; omega)
      have q2 : R.length = 0 ∨ ∀ b off, ao = some ⟨b, off, none⟩ → b ≠ w.heap.size + 1 + 1 := HNE.out.imp id (fun h b off e => by have := h b off e; omega)
      exact (Rws.put (Rws.put (Rws.put (Rws.put HM.out.rws w.heap.size 0 (.slice ao R.length cp) q0) (w.heap.size + 1 + 1) 0 (.slice ao R.length cp) q2) (w.heap.size + 1 + 1) 1 (.func (.func 90) #[] #[]) q2) (w.heap.size + 1 + 1) 2 (.func (.func 91) #[] #[]) q2)
     ·have hb2 : w.heap.size ≤ w.heap.size + 1 + 1 := by omega
      exact ((((HKe.out.1.setCell (Nat.le_refl _) _).setCell hb2 _).setCell hb2 _).setCell hb2 _)
   ·have HTL1 := hid_intro HTL1x.out
    unfold maxLen at n2
    rcases sr with ⟨rfl, hr0, rfl⟩ | ⟨b2, off2, rfl, m1, m2⟩
    ·subst hr0
     obtain rfl : Q = [] := List.length_eq_zero_iff.1 HRn.out.symm
     go_wp2_with (at_builtin; refine wpList_append_own _ rfl _ _ 30 rfl (w.heap.size + 3) 65 i0 (.agg #[.int .i64 0, .int .i64 0]) 2 16 Tryd.underlying30 hi hz0 hz1 hz2 rfl (by decide) _ _ _ rfl HK.out.2.2.2 ⟨b, off, none⟩ 0 lc (cellsAll H.cells []) rfl ?l0 ?d0 ?e0 ?f0 ?g0 ?s0 ?_)
     case l0 => first | rfl | (rw [cellsAll_len H.len]; first | rfl | (rw [HRn.out]; done) | (have := HLn.out; simp only [List.length_cons]; omega) | (have := HLn.out; simp; omega) | (have := HRn.out; simp; omega))
     case d0 => exact fun j u hj => by have h := hrs_src HTL1.out HK.out.1 j u hj; first | exact h | (rw [Addr.add_lit] at h; exact h)
     case e0 => exact hrs_one _
     case f0 => unfold maxLen; have := HLn.out; have := HRn.out; (try simp only [List.length_append, List.length_cons, List.length_nil]); omega
     case g0 => have := HLn.out; have := HRn.out; (try simp only [List.length_append, List.length_cons, List.length_nil]); omega
     case s0 => have := HK.out.2.2.1.1.1; omega
     intro v0 w0 hown hgrow hne
     have HK0 : Hid (KWH w ta tl tc (P ++ []) v0 w0) := hid_intro (@KWH.appL w ta tl tc _ _ _ _ _ _ HK.out (by first | exact hown | simpa using hown | (have h := hown; rw [HLn.out] at h; exact h) | (have h := hown; rw [HRn.out] at h; exact h) | (have h := hown; rw [HLn.out] at h; simpa using h) | (have h := hown; rw [HRn.out] at h; simpa using h)) hgrow)
     clear hown hgrow hne
     have HKe := HK0
     rw [show P ++ [] = R from by rw [← HRR.out]; simp] at HKe
     clear HK0
     have ho := HKe.out.2.2.2
     obtain ⟨ao, cp, rfl, hm⟩ := own_made (z := H.zero) H.len ho
     have HM := hid_intro hm
     have HNE : Hid (R.length = 0 ∨ ∀ b off, ao = some ⟨b, off, none⟩ → w.heap.size + 3 ≤ b) := hid_intro (by
      rcases hm.own with h0 | ⟨g, e1, e2, _⟩
      ·exact .inl h0
      ·exact .inr (fun b off q => by rw [e1] at q; simp at q; omega))
     clear hm ho
     obtain ⟨⟨xl, xk⟩, xf⟩ := HKe.out.2.1
     have x0 : w0.cell? ⟨w.heap.size, 0, none⟩ = some (.slice ta tl tc) := xk 0 (by simp)
     have x1 : w0.cell? ⟨w.heap.size, 1, none⟩ = some (.func (.func 90) #[] #[]) := xk 1 (by simp)
     have x2 : w0.cell? ⟨w.heap.size, 2, none⟩ = some (.func (.func 91) #[] #[]) := xk 2 (by simp)
     have xf0 : w0.frozen? ⟨w.heap.size, 0, none⟩ = false := xf 0 (by simp)
     obtain ⟨⟨zl, zk⟩, zf⟩ := HKe.out.2.2.1
     have z0 : w0.cell? ⟨w.heap.size + 2, 0, none⟩ = some (.slice none 0 0) := zk 0 (by simp)
     have z1 : w0.cell? ⟨w.heap.size + 2, 1, none⟩ = some .nilFunc := zk 1 (by simp)
     have z2 : w0.cell? ⟨w.heap.size + 2, 2, none⟩ = some .nilFunc := zk 2 (by simp)
     have zf0 : w0.frozen? ⟨w.heap.size + 2, 0, none⟩ = false := zf 0 (by simp)
     have zf1 : w0.frozen? ⟨w.heap.size + 2, 1, none⟩ = false := zf 1 (by simp)
     have zf2 : w0.frozen? ⟨w.heap.size + 2, 2, none⟩ = false := zf 2 (by simp)
     clear xk xf zk zf
     go_wp2_with (at_builtin; refine wpList_append_own_none rfl _ _ 30 rfl (w.heap.size + 3) 65 i0 2 Tryd.underlying30 hi _ _ _ rfl HKe.out.2.2.2 rfl ?_)
     refine bodyPost_ret (v := .agg #[.slice ao R.length cp, .func (.func 90) #[] #[], .func (.func 91) #[] #[]]) (by simp [results, Tryd.results79, go_sem, z0, z1, z2]) rfl ?_
     have q3 : R.length = 0 ∨ ∀ b off, ao = some ⟨b, off, none⟩ → w.heap.size ≤ b := HNE.out.imp id (fun h b off e => by have := h b off e; omega)
     first | refine ⟨ao, ⟨cp, rfl⟩, ?_, (by first | exact q3 | simpa using q3), ?_⟩ | refine ⟨ao, cp, rfl, ?_, (by first | exact q3 | simpa using q3), ?_⟩
     ·have q0 : R.length = 0 ∨ ∀ b off, ao = some ⟨b, off, none⟩ → b ≠ w.heap.size := HNE.out.imp id (fun h b off e => by have := h b off e; omega)
      have q2 : R.length = 0 ∨ ∀ b off, ao = some ⟨b, off, none⟩ → b ≠ w.heap.size + 1 + 1 := HNE.out.imp id (fun h b off e => by have := h b off e; omega)
      exact (Rws.put (Rws.put (Rws.put (Rws.put HM.out.rws w.heap.size 0 (.slice ao R.length cp) q0) (w.heap.size + 1 + 1) 0 (.slice ao R.length cp) q2) (w.heap.size + 1 + 1) 1 (.func (.func 90) #[] #[]) q2) (w.heap.size + 1 + 1) 2 (.func (.func 91) #[] #[]) q2)
     ·have hb2 : w.heap.size ≤ w.heap.size + 1 + 1 := by omega
      exact ((((HKe.out.1.setCell (Nat.le_refl _) _).setCell hb2 _).setCell hb2 _).setCell hb2 _)
    ·have HTR1 := hid_intro HTRx.out
     clear HTRx
     unfold maxLen at m2
     go_wp2_with (at_builtin; refine wpList_append_own _ rfl _ _ 30 rfl (w.heap.size + 3) 65 i0 (.agg #[.int .i64 0, .int .i64 0]) 2 16 Tryd.underlying30 hi hz0 hz1 hz2 rfl (by decide) _ _ _ rfl HK.out.2.2.2 ⟨b, off, none⟩ 0 lc (cellsAll H.cells []) rfl ?l0 ?d0 ?e0 ?f0 ?g0 ?s0 ?_)
     case l0 => first | rfl | (rw [cellsAll_len H.len]; first | rfl | (rw [HRn.out]; done) | (have := HLn.out; simp only [List.length_cons]; omega) | (have := HLn.out; simp; omega) | (have := HRn.out; simp; omega))
     case d0 => exact fun j u hj => by have h := hrs_src HTL1.out HK.out.1 j u hj; first | exact h | (rw [Addr.add_lit] at h; exact h)
     case e0 => exact hrs_one _
     case f0 => unfold maxLen; have := HLn.out; have := HRn.out; (try simp only [List.length_append, List.length_cons, List.length_nil]); omega
     case g0 => have := HLn.out; have := HRn.out; (try simp only [List.length_append, List.length_cons, List.length_nil]); omega
     case s0 => have := HK.out.2.2.1.1.1; omega
     intro v0 w0 hown hgrow hne
     have HK0 : Hid (KWH w ta tl tc (P ++ []) v0 w0) := hid_intro (@KWH.appL w ta tl tc _ _ _ _ _ _ HK.out (by first | exact hown | simpa using hown | (have h := hown; rw [HLn.out] at h; exact h) | (have h := hown; rw [HRn.out] at h; exact h) | (have h := hown; rw [HLn.out] at h; simpa using h) | (have h := hown; rw [HRn.out] at h; simpa using h)) hgrow)
     clear hown hgrow hne
     go_wp2_with (at_builtin; refine wpList_append_own _ rfl _ _ 30 rfl (w.heap.size + 3) 65 i0 (.agg #[.int .i64 0, .int .i64 0]) 2 16 Tryd.underlying30 hi hz0 hz1 hz2 rfl (by decide) _ _ _ rfl HK0.out.2.2.2 ⟨b2, off2, none⟩ rl rc (cellsAll H.cells Q) rfl ?l1 ?d1 ?e1 ?f1 ?g1 ?s1 ?_)
     case l1 => first | rfl | (rw [cellsAll_len H.len]; first | rfl | (rw [HRn.out]; done) | (have := HLn.out; simp only [List.length_cons]; omega) | (have := HLn.out; simp; omega) | (have := HRn.out; simp; omega))
     case d1 => exact fun j u hj => by have h := hrs_src HTR1.out HK0.out.1 j u hj; first | exact h | (rw [Addr.add_lit] at h; exact h)
     case e1 => exact hrs_one _
     case f1 => unfold maxLen; have := HLn.out; have := HRn.out; (try simp only [List.length_append, List.length_cons, List.length_nil]); omega
     case g1 => have := HLn.out; have := HRn.out; (try simp only [List.length_append, List.length_cons, List.length_nil]); omega
     case s1 => have := HK0.out.2.2.1.1.1; omega
     intro v1 w1 hown hgrow hne
     have HK1 : Hid (KWH w ta tl tc ((P ++ []) ++ Q) v1 w1) := hid_intro (@KWH.appL w ta tl tc _ _ _ _ _ _ HK0.out (by first | exact hown | simpa using hown | (have h := hown; rw [HLn.out] at h; exact h) | (have h := hown; rw [HRn.out] at h; exact h) | (have h := hown; rw [HLn.out] at h; simpa using h) | (have h := hown; rw [HRn.out] at h; simpa using h)) hgrow)
     clear hown hgrow hne
     have HKe := HK1
     rw [HRR.out] at HKe
     clear HK1
     have ho := HKe.out.2.2.2
     obtain ⟨ao, cp, rfl, hm⟩ := own_made (z := H.zero) H.len ho
     have HM := hid_intro hm
     have HNE : Hid (R.length = 0 ∨ ∀ b off, ao = some ⟨b, off, none⟩ → w.heap.size + 3 ≤ b) := hid_intro (by
      rcases hm.own with h0 | ⟨g, e1, e2, _⟩
      ·exact .inl h0
      ·exact .inr (fun b off q => by rw [e1] at q; simp at q; omega))
     clear hm ho
     obtain ⟨⟨xl, xk⟩, xf⟩ := HKe.out.2.1
     have x0 : w1.cell? ⟨w.heap.size, 0, none⟩ = some (.slice ta tl tc) := xk 0 (by simp)
     have x1 : w1.cell? ⟨w.heap.size, 1, none⟩ = some (.func (.func 90) #[] #[]) := xk 1 (by simp)
     have x2 : w1.cell? ⟨w.heap.size, 2, none⟩ = some (.func (.func 91) #[] #[]) := xk 2 (by simp)
     have xf0 : w1.frozen? ⟨w.heap.size, 0, none⟩ = false := xf 0 (by simp)
     obtain ⟨⟨zl, zk⟩, zf⟩ := HKe.out.2.2.1
     have z0 : w1.cell? ⟨w.heap.size + 2, 0, none⟩ = some (.slice none 0 0) := zk 0 (by simp)
     have z1 : w1.cell? ⟨w.heap.size + 2, 1, none⟩ = some .nilFunc := zk 1 (by simp)
     have z2 : w1.cell? ⟨w.heap.size + 2, 2, none⟩ = some .nilFunc := zk 2 (by simp)
     have zf0 : w1.frozen? ⟨w.heap.size + 2, 0, none⟩ = false := zf 0 (by simp)
     have zf1 : w1.frozen? ⟨w.heap.size + 2, 1, none⟩ = false := zf 1 (by simp)
     have zf2 : w1.frozen? ⟨w.heap.size + 2, 2, none⟩ = false := zf 2 (by simp)
     clear xk xf zk zf
     go_wp2_with fail
     refine bodyPost_ret (v := .agg #[.slice ao R.length cp, .func (.func 90) #[] #[], .func (.func 91) #[] #[]]) (by simp [results, Tryd.results79, go_sem, z0, z1, z2]) rfl ?_
     have q3 : R.length = 0 ∨ ∀ b off, ao = some ⟨b, off, none⟩ → w.heap.size ≤ b := HNE.out.imp id (fun h b off e => by have := h b off e; omega)
     first | refine ⟨ao, ⟨cp, rfl⟩, ?_, (by first | exact q3 | simpa using q3), ?_⟩ | refine ⟨ao, cp, rfl, ?_, (by first | exact q3 | simpa using q3), ?_⟩
     ·have q0 : R.length = 0 ∨ ∀ b off, ao = some ⟨b, off, none⟩ → b ≠ w.heap.size := HNE.out.imp id (fun h b off e => by have := h b off e; omega)
      have q2 : R.length = 0 ∨ ∀ b off, ao = some ⟨b, off, none⟩ → b ≠ w.heap.size + 1 + 1 := HNE.out.imp id (fun h b off e => by have := h b off e; omega)
      exact (Rws.put (Rws.put (Rws.put (Rws.put HM.out.rws w.heap.size 0 (.slice ao R.length cp) q0) (w.heap.size + 1 + 1) 0 (.slice ao R.length cp) q2) (w.heap.size + 1 + 1) 1 (.func (.func 90) #[] #[]) q2) (w.heap.size + 1 + 1) 2 (.func (.func 91) #[] #[]) q2)
     ·have hb2 : w.heap.size ≤ w.heap.size + 1 + 1 := by omega
      exact ((((HKe.out.1.setCell (Nat.le_refl _) _).setCell hb2 _).setCell hb2 _).setCell hb2 _)
  | cons X L =>
  cases Q with
  | nil =>
   have HRR : Hid (P ++ (X :: L) ++ [] = R) := hid_intro (by rw [← HR.out, List.append_nil]; simp [mrg])
   have HTL1x := hid_intro hl
   obtain ⟨ll, hll⟩ : ∃ ll, ll = L.length := ⟨_, rfl⟩
   have HLn := hid_intro hll
   have HRn : Hid (0 = 0) := hid_intro rfl
   simp only [List.length_nil, List.length_cons] at hN sl sr ⊢
   rw [← hll] at hN sl ⊢
   have HTR1x := hid_intro hr
   clear HL HQ hl hr hll
   have p1 : (0 : Int) < ((ll + 1 : Nat) : Int) := by omega
   rcases sl with ⟨rfl, h0, _⟩ | ⟨b, off, rfl, n1, n2⟩
   ·omega
   ·have HTL1 := hid_intro HTL1x.out
    unfold maxLen at n2
    rcases sr with ⟨rfl, _, rfl⟩ | ⟨b2, off2, rfl, m1, m2⟩
    ·go_wp2_with (at_builtin; refine wpList_append_own _ rfl _ _ 30 rfl (w.heap.size + 3) 65 i0 (.agg #[.int .i64 0, .int .i64 0]) 2 16 Tryd.underlying30 hi hz0 hz1 hz2 rfl (by decide) _ _ _ rfl HK.out.2.2.2 ⟨b, off, none⟩ (ll + 1) lc (cellsAll H.cells (X :: L)) rfl ?l0 ?d0 ?e0 ?f0 ?g0 ?s0 ?_)
     case l0 => first | rfl | (rw [cellsAll_len H.len]; first | rfl | (rw [HRn.out]; done) | (have := HLn.out; simp only [List.length_cons]; omega) | (have := HLn.out; simp; omega) | (have := HRn.out; simp; omega))
     case d0 => exact fun j u hj => by have h := hrs_src HTL1.out HK.out.1 j u hj; first | exact h | (rw [Addr.add_lit] at h; exact h)
     case e0 => exact hrs_one _
     case f0 => unfold maxLen; have := HLn.out; have := HRn.out; (try simp only [List.length_append, List.length_cons, List.length_nil]); omega
     case g0 => have := HLn.out; have := HRn.out; (try simp only [List.length_append, List.length_cons, List.length_nil]); omega
     case s0 => have := HK.out.2.2.1.1.1; omega
     intro v0 w0 hown hgrow hne
     have HK0 : Hid (KWH w ta tl tc (P ++ (X :: L)) v0 w0) := hid_intro (@KWH.appL w ta tl tc _ _ _ _ _ _ HK.out (by first | exact hown | simpa using hown | (have h := hown; rw [HLn.out] at h; exact h) | (have h := hown; rw [HRn.out] at h; exact h) | (have h := hown; rw [HLn.out] at h; simpa using h) | (have h := hown; rw [HRn.out] at h; simpa using h)) hgrow)
     clear hown hgrow hne
     have HKe := HK0
     rw [show P ++ (X :: L) = R from by rw [← HRR.out]; simp] at HKe
     clear HK0
     have ho := HKe.out.2.2.2
     obtain ⟨ao, cp, rfl, hm⟩ := own_made (z := H.zero) H.len ho
     have HM := hid_intro hm
     have HNE : Hid (R.length = 0 ∨ ∀ b off, ao = some ⟨b, off, none⟩ → w.heap.size + 3 ≤ b) := hid_intro (by
      rcases hm.own with h0 | ⟨g, e1, e2, _⟩
      ·exact .inl h0
      ·exact .inr (fun b off q => by rw [e1] at q; simp at q; omega))
     clear hm ho
     obtain ⟨⟨xl, xk⟩, xf⟩ := HKe.out.2.1
     have x0 : w0.cell? ⟨w.heap.size, 0, none⟩ = some (.slice ta tl tc) := xk 0 (by simp)
     have x1 : w0.cell? ⟨w.heap.size, 1, none⟩ = some (.func (.func 90) #[] #[]) := xk 1 (by simp)
     have x2 : w0.cell? ⟨w.heap.size, 2, none⟩ = some (.func (.func 91) #[] #[]) := xk 2 (by simp)
     have xf0 : w0.frozen? ⟨w.heap.size, 0, none⟩ = false := xf 0 (by simp)
     obtain ⟨⟨zl, zk⟩, zf⟩ := HKe.out.2.2.1
     have z0 : w0.cell? ⟨w.heap.size + 2, 0, none⟩ = some (.slice none 0 0) := zk 0 (by simp)
     have z1 : w0.cell? ⟨w.heap.size + 2, 1, none⟩ = some .nilFunc := zk 1 (by simp)
     have z2 : w0.cell? ⟨w.heap.size + 2, 2, none⟩ = some .nilFunc := zk 2 (by simp)
     have zf0 : w0.frozen? ⟨w.heap.size + 2, 0, none⟩ = false := zf 0 (by simp)
     have zf1 : w0.frozen? ⟨w.heap.size + 2, 1, none⟩ = false := zf 1 (by simp)
     have zf2 : w0.frozen? ⟨w.heap.size + 2, 2, none⟩ = false := zf 2 (by simp)
     clear xk xf zk zf
     go_wp2_with (at_builtin; refine wpList_append_own_none rfl _ _ 30 rfl (w.heap.size + 3) 65 i0 2 Tryd.underlying30 hi _ _ _ rfl HKe.out.2.2.2 rfl ?_)
     refine bodyPost_ret (v := .agg #[.slice ao R.length cp, .func (.func 90) #[] #[], .func (.func 91) #[] #[]]) (by simp [results, Tryd.results79, go_sem, z0, z1, z2]) rfl ?_
     have q3 : R.length = 0 ∨ ∀ b off, ao = some ⟨b, off, none⟩ → w.heap.size ≤ b := HNE.out.imp id (fun h b off e => by have := h b off e; omega)
     first | refine ⟨ao, ⟨cp, rfl⟩, ?_, (by first | exact q3 | simpa using q3), ?_⟩ | refine ⟨ao, cp, rfl, ?_, (by first | exact q3 | simpa using q3), ?_⟩
     ·have q0 : R.length = 0 ∨ ∀ b off, ao = some ⟨b, off, none⟩ → b ≠ w.heap.size := HNE.out.imp id (fun h b off e => by have := h b off e; omega)
      have q2 : R.length = 0 ∨ ∀ b off, ao = some ⟨b, off, none⟩ → b ≠ w.heap.size + 1 + 1 := HNE.out.imp id (fun h b off e => by have := h b off e; omega)
      exact (Rws.put (Rws.put (Rws.put (Rws.put HM.out.rws w.heap.size 0 (.slice ao R.length cp) q0) (w.heap.size + 1 + 1) 0 (.slice ao R.length cp) q2) (w.heap.size + 1 + 1) 1 (.func (.func 90) #[] #[]) q2) (w.heap.size + 1 + 1) 2 (.func (.func 91) #[] #[]) q2)
     ·have hb2 : w.heap.size ≤ w.heap.size + 1 + 1 := by omega
      exact ((((HKe.out.1.setCell (Nat.le_refl _) _).setCell hb2 _).setCell hb2 _).setCell hb2 _)
    ·have HTR1 := hid_intro HTR1x.out
     unfold maxLen at m2
     go_wp2_with (at_builtin; refine wpList_append_own _ rfl _ _ 30 rfl (w.heap.size + 3) 65 i0 (.agg #[.int .i64 0, .int .i64 0]) 2 16 Tryd.underlying30 hi hz0 hz1 hz2 rfl (by decide) _ _ _ rfl HK.out.2.2.2 ⟨b, off, none⟩ (ll + 1) lc (cellsAll H.cells (X :: L)) rfl ?l0 ?d0 ?e0 ?f0 ?g0 ?s0 ?_)
     case l0 => first | rfl | (rw [cellsAll_len H.len]; first | rfl | (rw [HRn.out]; done) | (have := HLn.out; simp only [List.length_cons]; omega) | (have := HLn.out; simp; omega) | (have := HRn.out; simp; omega))
     case d0 => exact fun j u hj => by have h := hrs_src HTL1.out HK.out.1 j u hj; first | exact h | (rw [Addr.add_lit] at h; exact h)
     case e0 => exact hrs_one _
     case f0 => unfold maxLen; have := HLn.out; have := HRn.out; (try simp only [List.length_append, List.length_cons, List.length_nil]); omega
     case g0 => have := HLn.out; have := HRn.out; (try simp only [List.length_append, List.length_cons, List.length_nil]); omega
     case s0 => have := HK.out.2.2.1.1.1; omega
     intro v0 w0 hown hgrow hne
     have HK0 : Hid (KWH w ta tl tc (P ++ (X :: L)) v0 w0) := hid_intro (@KWH.appL w ta tl tc _ _ _ _ _ _ HK.out (by first | exact hown | simpa using hown | (have h := hown; rw [HLn.out] at h; exact h) | (have h := hown; rw [HRn.out] at h; exact h) | (have h := hown; rw [HLn.out] at h; simpa using h) | (have h := hown; rw [HRn.out] at h; simpa using h)) hgrow)
     clear hown hgrow hne
     go_wp2_with (at_builtin; refine wpList_append_own _ rfl _ _ 30 rfl (w.heap.size + 3) 65 i0 (.agg #[.int .i64 0, .int .i64 0]) 2 16 Tryd.underlying30 hi hz0 hz1 hz2 rfl (by decide) _ _ _ rfl HK0.out.2.2.2 ⟨b2, off2, none⟩ 0 rc (cellsAll H.cells []) rfl ?l1 ?d1 ?e1 ?f1 ?g1 ?s1 ?_)
     case l1 => first | rfl | (rw [cellsAll_len H.len]; first | rfl | (rw [HRn.out]; done) | (have := HLn.out; simp only [List.length_cons]; omega) | (have := HLn.out; simp; omega) | (have := HRn.out; simp; omega))
     case d1 => exact fun j u hj => by have h := hrs_src HTR1.out HK0.out.1 j u hj; first | exact h | (rw [Addr.add_lit] at h; exact h)
     case e1 => exact hrs_one _
     case f1 => unfold maxLen; have := HLn.out; have := HRn.out; (try simp only [List.length_append, List.length_cons, List.length_nil]); omega
     case g1 => have := HLn.out; have := HRn.out; (try simp only [List.length_append, List.length_cons, List.length_nil]); omega
     case s1 => have := HK0.out.2.2.1.1.1; omega
     intro v1 w1 hown hgrow hne
     have HK1 : Hid (KWH w ta tl tc ((P ++ (X :: L)) ++ []) v1 w1) := hid_intro (@KWH.appL w ta tl tc _ _ _ _ _ _ HK0.out (by first | exact hown | simpa using hown | (have h := hown; rw [HLn.out] at h; exact h) | (have h := hown; rw [HRn.out] at h; exact h) | (have h := hown; rw [HLn.out] at h; simpa using h) | (have h := hown; rw [HRn.out] at h; simpa using h)) hgrow)
     clear hown hgrow hne
     have HKe := HK1
     rw [HRR.out] at HKe
     clear HK1
     have ho := HKe.out.2.2.2
     obtain ⟨ao, cp, rfl, hm⟩ := own_made (z := H.zero) H.len ho
     have HM := hid_intro hm
     have HNE : Hid (R.length = 0 ∨ ∀ b off, ao = some ⟨b, off, none⟩ → w.heap.size + 3 ≤ b) := hid_intro (by
      rcases hm.own with h0 | ⟨g, e1, e2, _⟩
      ·exact .inl h0
      ·exact .inr (fun b off q => by rw [e1] at q; simp at q; omega))
     clear hm ho
     obtain ⟨⟨xl, xk⟩, xf⟩ := HKe.out.2.1
     have x0 : w1.cell? ⟨w.heap.size, 0, none⟩ = some (.slice ta tl tc) := xk 0 (by simp)
     have x1 : w1.cell? ⟨w.heap.size, 1, none⟩ = some (.func (.func 90) #[] #[]) := xk 1 (by simp)
     have x2 : w1.cell? ⟨w.heap.size, 2, none⟩ = some (.func (.func 91) #[] #[]) := xk 2 (by simp)
     have xf0 : w1.frozen? ⟨w.heap.size, 0, none⟩ = false := xf 0 (by simp)
     obtain ⟨⟨zl, zk⟩, zf⟩ := HKe.out.2.2.1
     have z0 : w1.cell? ⟨w.heap.size + 2, 0, none⟩ = some (.slice none 0 0) := zk 0 (by simp)
     have z1 : w1.cell? ⟨w.heap.size + 2, 1, none⟩ = some .nilFunc := zk 1 (by simp)
     have z2 : w1.cell? ⟨w.heap.size + 2, 2, none⟩ = some .nilFunc := zk 2 (by simp)
     have zf0 : w1.frozen? ⟨w.heap.size + 2, 0, none⟩ = false := zf 0 (by simp)
     have zf1 : w1.frozen? ⟨w.heap.size + 2, 1, none⟩ = false := zf 1 (by simp)
     have zf2 : w1.frozen? ⟨w.heap.size + 2, 2, none⟩ = false := zf 2 (by simp)
     clear xk xf zk zf
     go_wp2_with fail
     refine bodyPost_ret (v := .agg #[.slice ao R.length cp, .func (.func 90) #[] #[], .func (.func 91) #[] #[]]) (by simp [results, Tryd.results79, go_sem, z0, z1, z2]) rfl ?_
     have q3 : R.length = 0 ∨ ∀ b off, ao = some ⟨b, off, none⟩ → w.heap.size ≤ b := HNE.out.imp id (fun h b off e => by have := h b off e; omega)
     first | refine ⟨ao, ⟨cp, rfl⟩, ?_, (by first | exact q3 | simpa using q3), ?_⟩ | refine ⟨ao, cp, rfl, ?_, (by first | exact q3 | simpa using q3), ?_⟩
     ·have q0 : R.length = 0 ∨ ∀ b off, ao = some ⟨b, off, none⟩ → b ≠ w.heap.size := HNE.out.imp id (fun h b off e => by have := h b off e; omega)
      have q2 : R.length = 0 ∨ ∀ b off, ao = some ⟨b, off, none⟩ → b ≠ w.heap.size + 1 + 1 := HNE.out.imp id (fun h b off e => by have := h b off e; omega)
      exact (Rws.put (Rws.put (Rws.put (Rws.put HM.out.rws w.heap.size 0 (.slice ao R.length cp) q0) (w.heap.size + 1 + 1) 0 (.slice ao R.length cp) q2) (w.heap.size + 1 + 1) 1 (.func (.func 90) #[] #[]) q2) (w.heap.size + 1 + 1) 2 (.func (.func 91) #[] #[]) q2)
     ·have hb2 : w.heap.size ≤ w.heap.size + 1 + 1 := by omega
      exact ((((HKe.out.1.setCell (Nat.le_refl _) _).setCell hb2 _).setCell hb2 _).setCell hb2 _)
  | cons Y Q =>
   obtain ⟨xh, xs⟩ := X
   obtain ⟨yh, ys⟩ := Y
   obtain ⟨b, off, rfl, hbl, cx, cx1, n1, n2, k1, k2⟩ := LstH.tail sl hl
   obtain ⟨b2, off2, rfl, hb2, cy, cy1, m1, m2, j1, j2⟩ := LstH.tail sr hr
   dsimp only at cx cx1 cy cy1
   have KL1 := hid_intro k1
   have KL2 := hid_intro k2
   have KR1 := hid_intro j1
   have KR2 := hid_intro j2
   obtain ⟨sx1, sx2⟩ := HSL.out _ (List.mem_cons_self)
   obtain ⟨sy1, sy2⟩ := HSQ.out _ (List.mem_cons_self)
   dsimp only at sx1 sx2 sy1 sy2
   have HSX : Hid (∀ W, Below w.heap.size w W → Below w.heap.size w W ∧ b < W.heap.size ∧ b2 < W.heap.size ∧ W.cell? ⟨b, off, none⟩ = some (.int .i64 xh) ∧ W.cell? ⟨b, off + 1, none⟩ = some (.int .i64 xs) ∧ W.cell? ⟨b2, off2, none⟩ = some (.int .i64 yh) ∧ W.cell? ⟨b2, off2 + 1, none⟩ = some (.int .i64 ys)) := hid_intro (fun W hW => ⟨hW, Nat.lt_of_lt_of_le hbl hW.size, Nat.lt_of_lt_of_le hb2 hW.size, (hW.cell (p := ⟨b, off, none⟩) hbl).trans cx, (hW.cell (p := ⟨b, off + 1, none⟩) hbl).trans cx1, (hW.cell (p := ⟨b2, off2, none⟩) hb2).trans cy, (hW.cell (p := ⟨b2, off2 + 1, none⟩) hb2).trans cy1⟩)
   have HLL := hid_intro HL.out
   have HQQ := hid_intro HQ.out
   simp only [List.length_cons] at hN HLL HQQ ⊢
   obtain ⟨ll, hll⟩ : ∃ ll, ll = L.length := ⟨_, rfl⟩
   obtain ⟨rl, hrl⟩ : ∃ rl, rl = Q.length := ⟨_, rfl⟩
   have HLn := hid_intro hll
   have HRn := hid_intro hrl
   rw [← hll] at n1 hN KL2 HLL ⊢
   rw [← hrl] at m1 hN KR2 HQQ ⊢
   clear hll hrl k1 k2 j1 j2 sl sr hl hr HL HQ cx cy cx1 cy1 hbl hb2
   unfold maxLen at n2 m2
   have sz1 : P.length + 1 ≤ maxLen := by unfold maxLen; omega
   have sz2 : (P.length + 1) * 16 ≤ 140737488355328 := by omega
   have sz3 : 0 < 2 := by omega
   have p1 : (0 : Int) < ((ll + 1 : Nat) : Int) := by omega
   have p2 : (0 : Int) < ((rl + 1 : Nat) : Int) := by omega
   have hc3 : xh < yh ∨ (¬ xh < yh ∧ yh < xh) ∨ xh = yh := by omega
   rcases hc3 with h1 | ⟨h1, h2⟩ | h1
   ·have hcm : cmpH xh yh = -1 := by unfold cmpH; rw [if_pos h1]
    have HMG : Hid (mrg hlt addH ((⟨xh, xs⟩ : H) :: L) (⟨yh, ys⟩ :: Q) = ⟨xh, xs⟩ :: mrg hlt addH L (⟨yh, ys⟩ :: Q)) := hid_intro (by rw [mrg, if_pos (by unfold hlt; simpa using h1)])
    have HC : Hid (∀ w, Calls Tryd.prog 106 #[.int .i64 xh, .int .i64 yh] w fun e w' => e = .returned (.int .i64 (-1)) ∧ w' = w) := hid_intro (fun w => by have h := cmpI xh yh w; rw [hcm] at h; exact h)
    clear hcm
    go_wp2_with fail
    go_cut [8, 9] from 23 to 28 (fun v8 v9 wx => ∃ OB TB, v8 = .pointer (some ⟨OB, 0, none⟩) ∧ v9 = .pointer (some ⟨TB, 0, none⟩) ∧ Hid (KWH w ta tl tc P bv wx) ∧ Hid (Blk OB [.int .i64 xh, .int .i64 xs] wx) ∧ Hid (Blk TB [.int .i64 yh, .int .i64 ys] wx) ∧ Hid (∀ g, bv.ownBlock = some g → g ≠ OB ∧ g ≠ TB))
    case first =>
     have HKd : Hid (KWH w ta tl tc P bv wr.drew) := hid_intro (@KWH.below w ta tl tc _ _ _ _ HK.out (Below.refl _ _).drew)
     refine wp_region_held_drew (S := (fun W => Below w.heap.size w W ∧ b < W.heap.size ∧ b2 < W.heap.size ∧ W.cell? ⟨b, off, none⟩ = some (.int .i64 xh) ∧ W.cell? ⟨b, off + 1, none⟩ = some (.int .i64 xs) ∧ W.cell? ⟨b2, off2, none⟩ = some (.int .i64 yh) ∧ W.cell? ⟨b2, off2 + 1, none⟩ = some (.int .i64 ys))) (by kernel_rfl) (HSX.out _ HKd.out.1) (fun hHeld => ?_)
     obtain ⟨Wd, hWd⟩ : ∃ Wd, Wd = wr.drew := ⟨_, rfl⟩
     rw [← hWd] at HKd ⊢
     try rw [← hWd] at hHeld
     clear hWd
     refine tk (i := 0) (oi := { dst := some 23, op := Op.move (Operand.tmp 6), type := 30, pos := "l07_window.go:67", after := #[], guard := none }) (v := ?_) ?_ ?_
     rotate_left
     ·(intro w hSw; (try dsimp only at hSw); go_simp) <;> with_reducible rfl
     try simp only [Act.put, SL]
     refine tk (i := 1) (oi := { dst := some 24, op := Op.indexAddr 30 (Operand.tmp 23) (Operand.const (Value.int IntKind.i64 0)), type := 0, pos := "l07_window.go:67", after := #[{ on := 0, ground := Ground.data }], guard := none }) (v := ?_) ?_ ?_
     rotate_left
     ·(intro w hSw; (try dsimp only at hSw); go_simp) <;> with_reducible rfl
     try simp only [Act.put, SL]
     refine tk (i := 2) (oi := { dst := some 25, op := Op.load 65 (Operand.tmp 24), type := 65, pos := "l07_window.go:67", after := #[{ on := 1, ground := Ground.data }], guard := none }) (v := ?_) ?_ ?_
     rotate_left
     ·(intro w hSw; (try dsimp only at hSw); go_simp) <;> with_reducible rfl
     try simp only [Act.put, SL]
     refine tk (i := 3) (oi := { dst := some 26, op := Op.move (Operand.tmp 7), type := 30, pos := "l07_window.go:67", after := #[{ on := 8, ground := Ground.gcOnly Departure.lateStores }], guard := none }) (v := ?_) ?_ ?_
     rotate_left
     ·(intro w hSw; (try dsimp only at hSw); go_simp) <;> with_reducible rfl
     try simp only [Act.put, SL]
     refine tk (i := 4) (oi := { dst := some 27, op := Op.indexAddr 30 (Operand.tmp 26) (Operand.const (Value.int IntKind.i64 0)), type := 0, pos := "l07_window.go:67", after := #[{ on := 3, ground := Ground.data }, { on := 8, ground := Ground.gcOnly Departure.lateStores }], guard := none }) (v := ?_) ?_ ?_
     rotate_left
     ·(intro w hSw; (try dsimp only at hSw); go_simp) <;> with_reducible rfl
     try simp only [Act.put, SL]
     refine tk (i := 5) (oi := { dst := some 28, op := Op.load 65 (Operand.tmp 27), type := 65, pos := "l07_window.go:67", after := #[{ on := 4, ground := Ground.data }, { on := 8, ground := Ground.gcOnly Departure.lateStores }], guard := none }) (v := ?_) ?_ ?_
     rotate_left
     ·(intro w hSw; (try dsimp only at hSw); go_simp) <;> with_reducible rfl
     try simp only [Act.put, SL]
     refine wpAnyH_ready (rs := [6, 7]) (by kernel_rfl) (by simp) ?_
     refine AllReadyH.cons (o := { dst := some 8, op := Op.alloc 65, type := 0, pos := "l07_window.go:67", after := #[], guard := none }) rfl (fun K hK => ?_) (AllReadyH.cons (o := { dst := some 9, op := Op.alloc 65, type := 0, pos := "l07_window.go:67", after := #[], guard := none }) rfl (fun K hK => ?_) AllReadyH.nil)
     ·go_simp
      try go_wp2_with fail
      have hk1 := @KWH.below w ta tl tc _ _ _ _ HKd.out ((Below.refl Wd.heap.size Wd).alloc (Nat.le_refl _) (Obj.cells #[.int .i64 0, .int .i64 0] 65))
      have vo := BlkW.new Wd [.int .i64 0, .int .i64 0] 65
      have hlo1 := HKd.out.2.2.2
      have hsz1 := HKd.out.1.size
      refine hK.out _ _ (HSX.out _ hk1.1) (fun _ => ?_)
      clear hK K
      try simp only [Act.put, SL]
      obtain ⟨OB, hOB⟩ : ∃ B, B = Wd.heap.size := ⟨_, rfl⟩
      obtain ⟨W1, hW1⟩ : ∃ B, B = Wd.alloc (Obj.cells #[.int .i64 0, .int .i64 0] 65) := ⟨_, rfl⟩
      have hgOB : ∀ g, bv.ownBlock = some g → g ≠ OB := fun g hg => by have := (hlo1.lt g hg).2; omega
      have hwOB : w.heap.size + 3 ≤ OB := by have := HKd.out.2.2.1.1.1; omega
      rw [← hW1] at hk1 vo ⊢
      rw [← hOB] at vo ⊢
      clear hW1 hOB
      refine wpAnyH_ready (rs := [7]) (by kernel_rfl) (by simp) ?_
      refine AllReadyH.cons (o := { dst := some 9, op := Op.alloc 65, type := 0, pos := "l07_window.go:67", after := #[], guard := none }) rfl (fun K hK => ?_) AllReadyH.nil
      go_simp
      try go_wp2_with fail
      have hk2 := @KWH.below w ta tl tc _ _ _ _ hk1 ((Below.refl W1.heap.size W1).alloc (Nat.le_refl _) (Obj.cells #[.int .i64 0, .int .i64 0] 65))
      have vt := BlkW.new W1 [.int .i64 0, .int .i64 0] 65
      have hlo2 := hk1.2.2.2
      have hsz2 := hk1.1.size
      have vob := BlkW.below vo ((Below.refl W1.heap.size W1).alloc (Nat.le_refl _) (Obj.cells #[.int .i64 0, .int .i64 0] 65))
      have hl2 : OB < W1.heap.size := vo.1.1
      refine hK.out _ _ (HSX.out _ hk2.1) (fun _ => ?_)
      clear hK K
      try simp only [Act.put, SL]
      obtain ⟨TB, hTB⟩ : ∃ B, B = W1.heap.size := ⟨_, rfl⟩
      obtain ⟨W2, hW2⟩ : ∃ B, B = W1.alloc (Obj.cells #[.int .i64 0, .int .i64 0] 65) := ⟨_, rfl⟩
      have hgTB : ∀ g, bv.ownBlock = some g → g ≠ TB := fun g hg => by have := (hlo2.lt g hg).2; omega
      have hwTB : w.heap.size + 3 ≤ TB := by have := hk1.2.2.1.1.1; omega
      have hne : OB ≠ TB := by omega
      rw [← hW2] at hk2 vt ⊢
      rw [← hW2] at vob
      rw [← hTB] at vt ⊢
      clear hW2 hTB
      refine wpAnyH_ready (rs := [8]) (by kernel_rfl) (by simp) ?_
      refine AllReadyH.cons (o := { dst := none, op := Op.store 65 (Operand.tmp 8) (Operand.tmp 25), type := 0, pos := "l07_window.go:67", after := #[{ on := 6, ground := Ground.data }, { on := 2, ground := Ground.data }, { on := 0, ground := Ground.phase }, { on := 1, ground := Ground.phase }, { on := 2, ground := Ground.phase }, { on := 3, ground := Ground.textOnly Departure.lateStores }, { on := 4, ground := Ground.textOnly Departure.lateStores }, { on := 5, ground := Ground.textOnly Departure.lateStores }, { on := 6, ground := Ground.phase }, { on := 7, ground := Ground.phase }], guard := none }) rfl (fun K hK => ?_) AllReadyH.nil
      have a0 : W2.cell? ⟨OB, 0, none⟩ = some (.int .i64 0) := vob.1.2 0 (by simp)
      have a1 : W2.cell? ⟨OB, 1, none⟩ = some (.int .i64 0) := vob.1.2 1 (by simp)
      have g0 : W2.frozen? ⟨OB, 0, none⟩ = false := vob.2 0 (by simp)
      have g1 : W2.frozen? ⟨OB, 1, none⟩ = false := vob.2 1 (by simp)
      have gl := vob.1.1
      go_simp
      try go_wp2_with fail
      have hk3 := @KWH.put w ta tl tc _ _ _ (@KWH.put w ta tl tc _ _ _ hk2 OB 0 (.int .i64 xh) hwOB hgOB) OB 1 (.int .i64 xs) hwOB hgOB
      have vobc := BlkW.set (BlkW.set vob 0 (.int .i64 xh) (by simp)) 1 (.int .i64 xs) (by simp)
      have vtc := BlkW.other (BlkW.other vt OB 0 (.int .i64 xh) (by omega)) OB 1 (.int .i64 xs) (by omega)
      clear a0 a1 g0 g1 gl
      refine hK.out _ _ (HSX.out _ hk3.1) (fun _ => ?_)
      clear hK K
      try simp only [Act.put, SL]
      obtain ⟨W3, hW3⟩ : ∃ B, B = (W2.setCell ⟨OB, 0, none⟩ (.int .i64 xh)).setCell ⟨OB, 1, none⟩ (.int .i64 xs) := ⟨_, rfl⟩
      rw [← hW3] at hk3 vobc vtc ⊢
      clear hW3
      refine wpAnyH_ready (rs := [9]) (by kernel_rfl) (by simp) ?_
      refine AllReadyH.cons (o := { dst := none, op := Op.store 65 (Operand.tmp 9) (Operand.tmp 28), type := 0, pos := "l07_window.go:67", after := #[{ on := 7, ground := Ground.data }, { on := 5, ground := Ground.data }, { on := 8, ground := Ground.chain }, { on := 0, ground := Ground.phase }, { on := 1, ground := Ground.phase }, { on := 2, ground := Ground.phase }, { on := 3, ground := Ground.phase }, { on := 4, ground := Ground.phase }, { on := 5, ground := Ground.phase }, { on := 6, ground := Ground.phase }, { on := 7, ground := Ground.phase }, { on := 8, ground := Ground.phase }], guard := none }) rfl (fun K hK => ?_) AllReadyH.nil
      have a0 : W3.cell? ⟨TB, 0, none⟩ = some (.int .i64 0) := vtc.1.2 0 (by simp)
      have a1 : W3.cell? ⟨TB, 1, none⟩ = some (.int .i64 0) := vtc.1.2 1 (by simp)
      have g0 : W3.frozen? ⟨TB, 0, none⟩ = false := vtc.2 0 (by simp)
      have g1 : W3.frozen? ⟨TB, 1, none⟩ = false := vtc.2 1 (by simp)
      have gl := vtc.1.1
      go_simp
      try go_wp2_with fail
      have hk4 := @KWH.put w ta tl tc _ _ _ (@KWH.put w ta tl tc _ _ _ hk3 TB 0 (.int .i64 yh) hwTB hgTB) TB 1 (.int .i64 ys) hwTB hgTB
      have vtcc := BlkW.set (BlkW.set vtc 0 (.int .i64 yh) (by simp)) 1 (.int .i64 ys) (by simp)
      have vobcc := BlkW.other (BlkW.other vobc TB 0 (.int .i64 yh) (by omega)) TB 1 (.int .i64 ys) (by omega)
      clear a0 a1 g0 g1 gl
      refine hK.out _ _ (HSX.out _ hk4.1) (fun _ => ?_)
      clear hK K
      try simp only [Act.put, SL]
      obtain ⟨W4, hW4⟩ : ∃ B, B = (W3.setCell ⟨TB, 0, none⟩ (.int .i64 yh)).setCell ⟨TB, 1, none⟩ (.int .i64 ys) := ⟨_, rfl⟩
      rw [← hW4] at hk4 vtcc vobcc ⊢
      clear hW4
      refine wpAnyH_done (by kernel_rfl) ?_ _
      have HKF := hid_intro hk4
      have HOF := hid_intro vobcc.1
      have HTF := hid_intro vtcc.1
      go_wp2_with fail
      go_meet
      case rel => exact ⟨OB, TB, rfl, rfl, HKF, HOF, HTF, hid_intro (fun g hg => ⟨hgOB g hg, hgTB g hg⟩)⟩
     ·go_simp
      try go_wp2_with fail
      have hk1 := @KWH.below w ta tl tc _ _ _ _ HKd.out ((Below.refl Wd.heap.size Wd).alloc (Nat.le_refl _) (Obj.cells #[.int .i64 0, .int .i64 0] 65))
      have vt := BlkW.new Wd [.int .i64 0, .int .i64 0] 65
      have hlo1 := HKd.out.2.2.2
      have hsz1 := HKd.out.1.size
      refine hK.out _ _ (HSX.out _ hk1.1) (fun _ => ?_)
      clear hK K
      try simp only [Act.put, SL]
      obtain ⟨TB, hTB⟩ : ∃ B, B = Wd.heap.size := ⟨_, rfl⟩
      obtain ⟨W1, hW1⟩ : ∃ B, B = Wd.alloc (Obj.cells #[.int .i64 0, .int .i64 0] 65) := ⟨_, rfl⟩
      have hgTB : ∀ g, bv.ownBlock = some g → g ≠ TB := fun g hg => by have := (hlo1.lt g hg).2; omega
      have hwTB : w.heap.size + 3 ≤ TB := by have := HKd.out.2.2.1.1.1; omega
      rw [← hW1] at hk1 vt ⊢
      rw [← hTB] at vt ⊢
      clear hW1 hTB
      refine wpAnyH_ready (rs := [6]) (by kernel_rfl) (by simp) ?_
      refine AllReadyH.cons (o := { dst := some 8, op := Op.alloc 65, type := 0, pos := "l07_window.go:67", after := #[], guard := none }) rfl (fun K hK => ?_) AllReadyH.nil
      go_simp
      try go_wp2_with fail
      have hk2 := @KWH.below w ta tl tc _ _ _ _ hk1 ((Below.refl W1.heap.size W1).alloc (Nat.le_refl _) (Obj.cells #[.int .i64 0, .int .i64 0] 65))
      have vo := BlkW.new W1 [.int .i64 0, .int .i64 0] 65
      have hlo2 := hk1.2.2.2
      have hsz2 := hk1.1.size
      have vtb := BlkW.below vt ((Below.refl W1.heap.size W1).alloc (Nat.le_refl _) (Obj.cells #[.int .i64 0, .int .i64 0] 65))
      have hl2 : TB < W1.heap.size := vt.1.1
      refine hK.out _ _ (HSX.out _ hk2.1) (fun _ => ?_)
      clear hK K
      try simp only [Act.put, SL]
      obtain ⟨OB, hOB⟩ : ∃ B, B = W1.heap.size := ⟨_, rfl⟩
      obtain ⟨W2, hW2⟩ : ∃ B, B = W1.alloc (Obj.cells #[.int .i64 0, .int .i64 0] 65) := ⟨_, rfl⟩
      have hgOB : ∀ g, bv.ownBlock = some g → g ≠ OB := fun g hg => by have := (hlo2.lt g hg).2; omega
      have hwOB : w.heap.size + 3 ≤ OB := by have := hk1.2.2.1.1.1; omega
      have hne : TB ≠ OB := by omega
      rw [← hW2] at hk2 vo ⊢
      rw [← hW2] at vtb
      rw [← hOB] at vo ⊢
      clear hW2 hOB
      refine wpAnyH_ready (rs := [8]) (by kernel_rfl) (by simp) ?_
      refine AllReadyH.cons (o := { dst := none, op := Op.store 65 (Operand.tmp 8) (Operand.tmp 25), type := 0, pos := "l07_window.go:67", after := #[{ on := 6, ground := Ground.data }, { on := 2, ground := Ground.data }, { on := 0, ground := Ground.phase }, { on := 1, ground := Ground.phase }, { on := 2, ground := Ground.phase }, { on := 3, ground := Ground.textOnly Departure.lateStores }, { on := 4, ground := Ground.textOnly Departure.lateStores }, { on := 5, ground := Ground.textOnly Departure.lateStores }, { on := 6, ground := Ground.phase }, { on := 7, ground := Ground.phase }], guard := none }) rfl (fun K hK => ?_) AllReadyH.nil
      have a0 : W2.cell? ⟨OB, 0, none⟩ = some (.int .i64 0) := vo.1.2 0 (by simp)
      have a1 : W2.cell? ⟨OB, 1, none⟩ = some (.int .i64 0) := vo.1.2 1 (by simp)
      have g0 : W2.frozen? ⟨OB, 0, none⟩ = false := vo.2 0 (by simp)
      have g1 : W2.frozen? ⟨OB, 1, none⟩ = false := vo.2 1 (by simp)
      have gl := vo.1.1
      go_simp
      try go_wp2_with fail
      have hk3 := @KWH.put w ta tl tc _ _ _ (@KWH.put w ta tl tc _ _ _ hk2 OB 0 (.int .i64 xh) hwOB hgOB) OB 1 (.int .i64 xs) hwOB hgOB
      have voc := BlkW.set (BlkW.set vo 0 (.int .i64 xh) (by simp)) 1 (.int .i64 xs) (by simp)
      have vtbc := BlkW.other (BlkW.other vtb OB 0 (.int .i64 xh) (by omega)) OB 1 (.int .i64 xs) (by omega)
      clear a0 a1 g0 g1 gl
      refine hK.out _ _ (HSX.out _ hk3.1) (fun _ => ?_)
      clear hK K
      try simp only [Act.put, SL]
      obtain ⟨W3, hW3⟩ : ∃ B, B = (W2.setCell ⟨OB, 0, none⟩ (.int .i64 xh)).setCell ⟨OB, 1, none⟩ (.int .i64 xs) := ⟨_, rfl⟩
      rw [← hW3] at hk3 voc vtbc ⊢
      clear hW3
      refine wpAnyH_ready (rs := [9]) (by kernel_rfl) (by simp) ?_
      refine AllReadyH.cons (o := { dst := none, op := Op.store 65 (Operand.tmp 9) (Operand.tmp 28), type := 0, pos := "l07_window.go:67", after := #[{ on := 7, ground := Ground.data }, { on := 5, ground := Ground.data }, { on := 8, ground := Ground.chain }, { on := 0, ground := Ground.phase }, { on := 1, ground := Ground.phase }, { on := 2, ground := Ground.phase }, { on := 3, ground := Ground.phase }, { on := 4, ground := Ground.phase }, { on := 5, ground := Ground.phase }, { on := 6, ground := Ground.phase }, { on := 7, ground := Ground.phase }, { on := 8, ground := Ground.phase }], guard := none }) rfl (fun K hK => ?_) AllReadyH.nil
      have a0 : W3.cell? ⟨TB, 0, none⟩ = some (.int .i64 0) := vtbc.1.2 0 (by simp)
      have a1 : W3.cell? ⟨TB, 1, none⟩ = some (.int .i64 0) := vtbc.1.2 1 (by simp)
      have g0 : W3.frozen? ⟨TB, 0, none⟩ = false := vtbc.2 0 (by simp)
      have g1 : W3.frozen? ⟨TB, 1, none⟩ = false := vtbc.2 1 (by simp)
      have gl := vtbc.1.1
      go_simp
      try go_wp2_with fail
      have hk4 := @KWH.put w ta tl tc _ _ _ (@KWH.put w ta tl tc _ _ _ hk3 TB 0 (.int .i64 yh) hwTB hgTB) TB 1 (.int .i64 ys) hwTB hgTB
      have vtbcc := BlkW.set (BlkW.set vtbc 0 (.int .i64 yh) (by simp)) 1 (.int .i64 ys) (by simp)
      have vocc := BlkW.other (BlkW.other voc TB 0 (.int .i64 yh) (by omega)) TB 1 (.int .i64 ys) (by omega)
      clear a0 a1 g0 g1 gl
      refine hK.out _ _ (HSX.out _ hk4.1) (fun _ => ?_)
      clear hK K
      try simp only [Act.put, SL]
      obtain ⟨W4, hW4⟩ : ∃ B, B = (W3.setCell ⟨TB, 0, none⟩ (.int .i64 yh)).setCell ⟨TB, 1, none⟩ (.int .i64 ys) := ⟨_, rfl⟩
      rw [← hW4] at hk4 vtbcc vocc ⊢
      clear hW4
      refine wpAnyH_done (by kernel_rfl) ?_ _
      have HKF := hid_intro hk4
      have HOF := hid_intro vocc.1
      have HTF := hid_intro vtbcc.1
      go_wp2_with fail
      go_meet
      case rel => exact ⟨OB, TB, rfl, rfl, HKF, HOF, HTF, hid_intro (fun g hg => ⟨hgOB g hg, hgTB g hg⟩)⟩

    case rest =>
     obtain ⟨OB, TB, rfl, rfl, HKc, HOc, HTc, HGN⟩ := hcut
     clear HK
     have HKd : Hid (KWH w ta tl tc P bv wc.drew) := hid_intro (@KWH.below w ta tl tc _ _ _ _ HKc.out (Below.refl _ _).drew)
     have HOd := hid_intro (HOc.out.below (Below.refl _ _).drew)
     have HTd := hid_intro (HTc.out.below (Below.refl _ _).drew)
     clear HKc HOc HTc
     go_wp2_with fail
     refine wp_region_held_drew (S := (fun W => Below w.heap.size w W ∧ w.heap.size < W.heap.size ∧ OB < W.heap.size ∧ TB < W.heap.size ∧ W.cell? ⟨w.heap.size, 1, none⟩ = some (.func (.func 90) #[] #[]) ∧ W.cell? ⟨w.heap.size, 2, none⟩ = some (.func (.func 91) #[] #[]) ∧ W.cell? ⟨OB, 0, none⟩ = some (.int .i64 xh) ∧ W.cell? ⟨OB, 1, none⟩ = some (.int .i64 xs) ∧ W.cell? ⟨TB, 0, none⟩ = some (.int .i64 yh) ∧ W.cell? ⟨TB, 1, none⟩ = some (.int .i64 ys))) (by kernel_rfl) (K5 (w := w) (ta := ta) (tl := tl) (tc := tc) HKd.out HOd.out HTd.out) (fun hHeld => ?_)
     obtain ⟨Wd, hWd⟩ : ∃ Wd, Wd = wc.drew := ⟨_, rfl⟩
     rw [← hWd] at HKd HOd HTd ⊢
     try rw [← hWd] at hHeld
     clear hWd
     refine tk (i := 0) (oi := { dst := some 29, op := Op.fieldAddr 95 (Operand.tmp 2) 1, type := 0, pos := "l07_window.go:68", after := #[], guard := none }) (v := ?_) ?_ ?_
     rotate_left
     ·(intro w hSw; (try dsimp only at hSw); go_simp) <;> with_reducible rfl
     try simp only [Act.put, SL]
     refine tk (i := 1) (oi := { dst := some 30, op := Op.load 92 (Operand.tmp 29), type := 92, pos := "l07_window.go:68", after := #[{ on := 0, ground := Ground.data }], guard := none }) (v := ?_) ?_ ?_
     rotate_left
     ·(intro w hSw; (try dsimp only at hSw); go_simp) <;> with_reducible rfl
     try simp only [Act.put, SL]
     refine tk (i := 2) (oi := { dst := some 31, op := Op.load 65 (Operand.tmp 8), type := 65, pos := "l07_window.go:68", after := #[], guard := none }) (v := ?_) ?_ ?_
     rotate_left
     ·(intro w hSw; (try dsimp only at hSw); go_simp) <;> with_reducible rfl
     try simp only [Act.put, SL]
     refine tk (i := 4) (oi := { dst := some 33, op := Op.fieldAddr 95 (Operand.tmp 2) 1, type := 0, pos := "l07_window.go:68", after := #[], guard := none }) (v := ?_) ?_ ?_
     rotate_left
     ·(intro w hSw; (try dsimp only at hSw); go_simp) <;> with_reducible rfl
     try simp only [Act.put, SL]
     refine tk (i := 5) (oi := { dst := some 34, op := Op.load 92 (Operand.tmp 33), type := 92, pos := "l07_window.go:68", after := #[{ on := 4, ground := Ground.data }], guard := none }) (v := ?_) ?_ ?_
     rotate_left
     ·(intro w hSw; (try dsimp only at hSw); go_simp) <;> with_reducible rfl
     try simp only [Act.put, SL]
     refine tk (i := 6) (oi := { dst := some 35, op := Op.load 65 (Operand.tmp 9), type := 65, pos := "l07_window.go:68", after := #[], guard := none }) (v := ?_) ?_ ?_
     rotate_left
     ·(intro w hSw; (try dsimp only at hSw); go_simp) <;> with_reducible rfl
     try simp only [Act.put, SL]
     refine wpAnyH_ready (rs := [3]) (by kernel_rfl) (by simp) ?_
     refine AllReadyH.cons (o := { dst := some 32, op := Op.call { callee := Callee.value (Operand.tmp 30), args := #[Operand.tmp 31], argTypes := #[65] }, type := 2, pos := "l07_window.go:68", after := #[{ on := 1, ground := Ground.data }, { on := 2, ground := Ground.data }], guard := none }) rfl (fun K hK => ?_) AllReadyH.nil
     go_simp
     go_at_call 90
     refine (hkey xh xs _).mono ?_
     rintro e q1 ⟨rfl, hq1⟩
     try go_wp2_with fail
     have hkq1 := @KWH.below w ta tl tc _ _ _ _ HKd.out hq1
     have hoq1 := HOd.out.below hq1
     have htq1 := HTd.out.below hq1
     refine hK.out _ _ (K5 (w := w) (ta := ta) (tl := tl) (tc := tc) hkq1 hoq1 htq1) (fun _ => ?_)
     clear hK K
     try simp only [Act.put, SL]
     refine wpAnyH_ready (rs := [7]) (by kernel_rfl) (by simp) ?_
     refine AllReadyH.cons (o := { dst := some 36, op := Op.call { callee := Callee.value (Operand.tmp 34), args := #[Operand.tmp 35], argTypes := #[65] }, type := 2, pos := "l07_window.go:68", after := #[{ on := 5, ground := Ground.data }, { on := 6, ground := Ground.data }, { on := 3, ground := Ground.chain }], guard := none }) rfl (fun K hK => ?_) AllReadyH.nil
     go_simp
     go_at_call 90
     refine (hkey yh ys _).mono ?_
     rintro e q2 ⟨rfl, hq2⟩
     try go_wp2_with fail
     have hkq2 := @KWH.below w ta tl tc _ _ _ _ hkq1 hq2
     have hoq2 := hoq1.below hq2
     have htq2 := htq1.below hq2
     refine hK.out _ _ (K5 (w := w) (ta := ta) (tl := tl) (tc := tc) hkq2 hoq2 htq2) (fun _ => ?_)
     clear hK K
     try simp only [Act.put, SL]
     refine wpAnyH_ready (rs := [8]) (by kernel_rfl) (by simp) ?_
     refine AllReadyH.cons (o := { dst := some 37, op := Op.call { callee := Callee.value (Operand.func 106), args := #[Operand.tmp 32, Operand.tmp 36], argTypes := #[2, 2] }, type := 3, pos := "l07_window.go:68", after := #[{ on := 3, ground := Ground.data }, { on := 7, ground := Ground.data }, { on := 7, ground := Ground.chain }], guard := none }) rfl (fun K hK => ?_) AllReadyH.nil
     go_simp
     go_at_call 106
     refine (HC.out _).mono ?_
     rintro e wh ⟨rfl, hwh⟩
     rw [hwh]
     clear hwh wh
     try go_wp2_with fail
     refine hK.out _ _ (K5 (w := w) (ta := ta) (tl := tl) (tc := tc) hkq2 hoq2 htq2) (fun _ => ?_)
     clear hK K
     try simp only [Act.put, SL]
     refine tk (i := 9) (oi := { dst := some 10, op := Op.assign (Operand.tmp 37), type := 3, pos := "l07_window.go:68", after := #[{ on := 8, ground := Ground.data }, { on := 8, ground := Ground.chain }, { on := 0, ground := Ground.phase }, { on := 1, ground := Ground.phase }, { on := 2, ground := Ground.phase }, { on := 3, ground := Ground.phase }, { on := 4, ground := Ground.phase }, { on := 5, ground := Ground.phase }, { on := 6, ground := Ground.phase }, { on := 7, ground := Ground.phase }, { on := 8, ground := Ground.phase }], guard := none }) (v := ?_) ?_ ?_
     rotate_left
     ·(intro w hSw; (try dsimp only at hSw); go_simp) <;> with_reducible rfl
     try simp only [Act.put, SL]
     refine wpAnyH_done (by kernel_rfl) ?_ _
     have HK2 := hid_intro hkq2
     have HO2 := hid_intro hoq2
     have HT2 := hid_intro htq2
     clear hkq2 hoq2 htq2
     obtain ⟨W2, hW2⟩ : ∃ W2, W2 = q2 := ⟨_, rfl⟩
     rw [← hW2] at HK2 HO2 HT2 ⊢
     clear hW2
     go_wp2_with fail

     by_cases hlc : lc = 1
     ·have hl1 : lc = 1 := hlc
      obtain rfl : ll = 0 := by omega
      subst hl1
      have HKd : Hid (KWH w ta tl tc P bv W2.drew) := hid_intro (@KWH.below w ta tl tc _ _ _ _ HK2.out (Below.refl _ _).drew)
      have HOd := hid_intro (HO2.out.below (Below.refl _ _).drew)
      have HTd := hid_intro (HT2.out.below (Below.refl _ _).drew)
      clear HK2 HO2 HT2
      refine wp_region_held_drew (S := (fun W => Below w.heap.size w W ∧ w.heap.size < W.heap.size ∧ OB < W.heap.size ∧ TB < W.heap.size ∧ W.cell? ⟨w.heap.size, 1, none⟩ = some (.func (.func 90) #[] #[]) ∧ W.cell? ⟨w.heap.size, 2, none⟩ = some (.func (.func 91) #[] #[]) ∧ W.cell? ⟨OB, 0, none⟩ = some (.int .i64 xh) ∧ W.cell? ⟨OB, 1, none⟩ = some (.int .i64 xs) ∧ W.cell? ⟨TB, 0, none⟩ = some (.int .i64 yh) ∧ W.cell? ⟨TB, 1, none⟩ = some (.int .i64 ys))) (by kernel_rfl) (K5 (w := w) (ta := ta) (tl := tl) (tc := tc) HKd.out HOd.out HTd.out) (fun hHeld => ?_)
      obtain ⟨Wd, hWd⟩ : ∃ Wd, Wd = W2.drew := ⟨_, rfl⟩
      rw [← hWd] at HKd HOd HTd ⊢
      try rw [← hWd] at hHeld
      clear hWd
      refine tk (i := 0) (oi := { dst := some 53, op := Op.move (Operand.tmp 5), type := 30, pos := "l07_window.go:70", after := #[], guard := none }) (v := ?_) ?_ ?_
      rotate_left
      ·(intro w hSw; (try dsimp only at hSw); go_simp) <;> with_reducible rfl
      try simp only [Act.put, SL]
      refine tk (i := 1) (oi := { dst := some 54, op := Op.load 65 (Operand.tmp 8), type := 65, pos := "l07_window.go:70", after := #[], guard := none }) (v := ?_) ?_ ?_
      rotate_left
      ·(intro w hSw; (try dsimp only at hSw); go_simp) <;> with_reducible rfl
      try simp only [Act.put, SL]
      refine tk (i := 4) (oi := { dst := some 57, op := Op.move (Operand.tmp 6), type := 30, pos := "l07_window.go:70", after := #[], guard := none }) (v := ?_) ?_ ?_
      rotate_left
      ·(intro w hSw; (try dsimp only at hSw); go_simp) <;> with_reducible rfl
      try simp only [Act.put, SL]
      refine tk (i := 5) (oi := { dst := some 58, op := Op.slice 30 (Operand.tmp 57) (some (Operand.const (Value.int IntKind.i64 1))) none none, type := 30, pos := "l07_window.go:70", after := #[{ on := 4, ground := Ground.data }], guard := none }) (v := ?_) ?_ ?_
      rotate_left
      ·(intro w hSw; (try dsimp only at hSw); go_simp) <;> with_reducible rfl
      try simp only [Act.put, SL]
      refine wpAnyH_ready (rs := [2]) (by kernel_rfl) (by simp) ?_
      refine AllReadyH.cons (o := { dst := some 55, op := Op.buildSlice 30 1 #[(0, Operand.tmp 54)], type := 30, pos := "l07_window.go:70", after := #[{ on := 1, ground := Ground.data }], guard := none }) rfl (fun K hK => ?_) AllReadyH.nil
      go_simp
      try go_wp2_with fail
      have hk8 := @KWH.below w ta tl tc _ _ _ _ HKd.out ((Below.refl Wd.heap.size Wd).alloc (Nat.le_refl _) (Obj.cells #[.int .i64 xh, .int .i64 xs] 65))
      have ho8 := HOd.out.below ((Below.refl Wd.heap.size Wd).alloc (Nat.le_refl _) (Obj.cells #[.int .i64 xh, .int .i64 xs] 65))
      have ht8 := HTd.out.below ((Below.refl Wd.heap.size Wd).alloc (Nat.le_refl _) (Obj.cells #[.int .i64 xh, .int .i64 xs] 65))
      have hz2' := HKd.out.2.1.1.1
      have hz3 := HKd.out.2.2.1.1.1
      refine hK.out _ _ (K5 (w := w) (ta := ta) (tl := tl) (tc := tc) hk8 ho8 ht8) (fun _ => ?_)
      clear hK K
      try simp only [Act.put, SL]
      refine wpAnyH_ready (rs := [3]) (by kernel_rfl) (by simp) ?_
      refine AllReadyH.cons (o := { dst := some 56, op := Op.call { callee := Callee.builtin Builtin.append, args := #[Operand.tmp 53, Operand.tmp 55], argTypes := #[30, 30] }, type := 30, pos := "l07_window.go:70", after := #[{ on := 0, ground := Ground.data }, { on := 2, ground := Ground.data }], guard := none }) rfl (fun K hK => ?_) AllReadyH.nil
      refine step_append_own rfl _ _ 30 rfl (w.heap.size + 3) 65 i0 (.agg #[.int .i64 0, .int .i64 0]) 2 16 Tryd.underlying30 hi hz0 hz1 hz2 rfl sz3 _ _ _ rfl hk8.2.2.2 ⟨Wd.heap.size, 0, none⟩ 1 1 [.int .i64 xh, .int .i64 xs] rfl rfl (h2_cells _ _ _) (h2_one _ _) sz1 sz2 (by simp; omega) ?_
      intro v' w4 hown hgrow hne
      have hk9 : KWH w ta tl tc (P ++ [⟨xh, xs⟩]) v' w4 := @KWH.app w ta tl tc _ _ _ _ _ _ _ hk8 hown hgrow
      have ho9 := hblk_grown ho8 hgrow (fun e => (HGN.out _ e.symm).1 rfl)
      have ht9 := hblk_grown ht8 hgrow (fun e => (HGN.out _ e.symm).2 rfl)
      refine hK.out _ _ (K5 (w := w) (ta := ta) (tl := tl) (tc := tc) hk9 ho9 ht9) (fun _ => ?_)
      clear hK K
      try simp only [Act.put, SL]
      refine tk (i := 6) (oi := { dst := some 5, op := Op.assign (Operand.tmp 56), type := 30, pos := "l07_window.go:70", after := #[{ on := 3, ground := Ground.data }, { on := 3, ground := Ground.chain }, { on := 0, ground := Ground.phase }, { on := 1, ground := Ground.phase }, { on := 2, ground := Ground.phase }, { on := 3, ground := Ground.phase }, { on := 4, ground := Ground.textOnly Departure.lateStores }, { on := 5, ground := Ground.textOnly Departure.lateStoresUnsure }], guard := none }) (v := ?_) ?_ ?_
      rotate_left
      ·(intro w hSw; (try dsimp only at hSw); go_simp) <;> with_reducible rfl
      try simp only [Act.put, SL]
      refine tk (i := 7) (oi := { dst := some 6, op := Op.assign (Operand.tmp 58), type := 30, pos := "l07_window.go:70", after := #[{ on := 5, ground := Ground.data }, { on := 6, ground := Ground.chain }, { on := 0, ground := Ground.phase }, { on := 1, ground := Ground.phase }, { on := 2, ground := Ground.phase }, { on := 3, ground := Ground.phase }, { on := 4, ground := Ground.phase }, { on := 5, ground := Ground.phase }, { on := 6, ground := Ground.phase }], guard := none }) (v := ?_) ?_ ?_
      rotate_left
      ·(intro w hSw; (try dsimp only at hSw); go_simp) <;> with_reducible rfl
      try simp only [Act.put, SL]
      refine wpAnyH_done (by kernel_rfl) ?_ _
      have HKF := hid_intro hk9
      clear hk9 hk8 ho8 ht8 ho9 ht9 hown hgrow hne hz2' hz3 HKd HOd HTd
      go_wp2_with fail
      go_roundw
      case rel => exact ⟨P ++ [(⟨xh, xs⟩ : H)], L, ((⟨yh, ys⟩ : H) :: Q), hid_intro (KL1.out (by first | rfl | trivial)), HQQ, by have := HLn.out; have := HRn.out; simp; omega, hid_intro (fun z hz => HSL.out z (List.mem_cons_of_mem _ hz)), HSQ, hid_intro (by rw [← HR.out, List.append_assoc]; exact congrArg _ HMG.out.symm), HKF⟩
      case measure => first | (simp [slen]; done) | (simp [slen]; omega)
     ·have hl1 : (1 : Int) ≤ (lc : Int) := by omega
      have hl2 : (1 : Int) ≤ (ll : Int) + 1 := by omega
      have HKd : Hid (KWH w ta tl tc P bv W2.drew) := hid_intro (@KWH.below w ta tl tc _ _ _ _ HK2.out (Below.refl _ _).drew)
      have HOd := hid_intro (HO2.out.below (Below.refl _ _).drew)
      have HTd := hid_intro (HT2.out.below (Below.refl _ _).drew)
      clear HK2 HO2 HT2
      refine wp_region_held_drew (S := (fun W => Below w.heap.size w W ∧ w.heap.size < W.heap.size ∧ OB < W.heap.size ∧ TB < W.heap.size ∧ W.cell? ⟨w.heap.size, 1, none⟩ = some (.func (.func 90) #[] #[]) ∧ W.cell? ⟨w.heap.size, 2, none⟩ = some (.func (.func 91) #[] #[]) ∧ W.cell? ⟨OB, 0, none⟩ = some (.int .i64 xh) ∧ W.cell? ⟨OB, 1, none⟩ = some (.int .i64 xs) ∧ W.cell? ⟨TB, 0, none⟩ = some (.int .i64 yh) ∧ W.cell? ⟨TB, 1, none⟩ = some (.int .i64 ys))) (by kernel_rfl) (K5 (w := w) (ta := ta) (tl := tl) (tc := tc) HKd.out HOd.out HTd.out) (fun hHeld => ?_)
      obtain ⟨Wd, hWd⟩ : ∃ Wd, Wd = W2.drew := ⟨_, rfl⟩
      rw [← hWd] at HKd HOd HTd ⊢
      try rw [← hWd] at hHeld
      clear hWd
      refine tk (i := 0) (oi := { dst := some 53, op := Op.move (Operand.tmp 5), type := 30, pos := "l07_window.go:70", after := #[], guard := none }) (v := ?_) ?_ ?_
      rotate_left
      ·(intro w hSw; (try dsimp only at hSw); go_simp) <;> with_reducible rfl
      try simp only [Act.put, SL]
      refine tk (i := 1) (oi := { dst := some 54, op := Op.load 65 (Operand.tmp 8), type := 65, pos := "l07_window.go:70", after := #[], guard := none }) (v := ?_) ?_ ?_
      rotate_left
      ·(intro w hSw; (try dsimp only at hSw); go_simp) <;> with_reducible rfl
      try simp only [Act.put, SL]
      refine tk (i := 4) (oi := { dst := some 57, op := Op.move (Operand.tmp 6), type := 30, pos := "l07_window.go:70", after := #[], guard := none }) (v := ?_) ?_ ?_
      rotate_left
      ·(intro w hSw; (try dsimp only at hSw); go_simp) <;> with_reducible rfl
      try simp only [Act.put, SL]
      refine tk (i := 5) (oi := { dst := some 58, op := Op.slice 30 (Operand.tmp 57) (some (Operand.const (Value.int IntKind.i64 1))) none none, type := 30, pos := "l07_window.go:70", after := #[{ on := 4, ground := Ground.data }], guard := none }) (v := ?_) ?_ ?_
      rotate_left
      ·(intro w hSw; (try dsimp only at hSw); go_simp) <;> with_reducible rfl
      try simp only [Act.put, SL]
      refine wpAnyH_ready (rs := [2]) (by kernel_rfl) (by simp) ?_
      refine AllReadyH.cons (o := { dst := some 55, op := Op.buildSlice 30 1 #[(0, Operand.tmp 54)], type := 30, pos := "l07_window.go:70", after := #[{ on := 1, ground := Ground.data }], guard := none }) rfl (fun K hK => ?_) AllReadyH.nil
      go_simp
      try go_wp2_with fail
      have hk8 := @KWH.below w ta tl tc _ _ _ _ HKd.out ((Below.refl Wd.heap.size Wd).alloc (Nat.le_refl _) (Obj.cells #[.int .i64 xh, .int .i64 xs] 65))
      have ho8 := HOd.out.below ((Below.refl Wd.heap.size Wd).alloc (Nat.le_refl _) (Obj.cells #[.int .i64 xh, .int .i64 xs] 65))
      have ht8 := HTd.out.below ((Below.refl Wd.heap.size Wd).alloc (Nat.le_refl _) (Obj.cells #[.int .i64 xh, .int .i64 xs] 65))
      have hz2' := HKd.out.2.1.1.1
      have hz3 := HKd.out.2.2.1.1.1
      refine hK.out _ _ (K5 (w := w) (ta := ta) (tl := tl) (tc := tc) hk8 ho8 ht8) (fun _ => ?_)
      clear hK K
      try simp only [Act.put, SL]
      refine wpAnyH_ready (rs := [3]) (by kernel_rfl) (by simp) ?_
      refine AllReadyH.cons (o := { dst := some 56, op := Op.call { callee := Callee.builtin Builtin.append, args := #[Operand.tmp 53, Operand.tmp 55], argTypes := #[30, 30] }, type := 30, pos := "l07_window.go:70", after := #[{ on := 0, ground := Ground.data }, { on := 2, ground := Ground.data }], guard := none }) rfl (fun K hK => ?_) AllReadyH.nil
      refine step_append_own rfl _ _ 30 rfl (w.heap.size + 3) 65 i0 (.agg #[.int .i64 0, .int .i64 0]) 2 16 Tryd.underlying30 hi hz0 hz1 hz2 rfl sz3 _ _ _ rfl hk8.2.2.2 ⟨Wd.heap.size, 0, none⟩ 1 1 [.int .i64 xh, .int .i64 xs] rfl rfl (h2_cells _ _ _) (h2_one _ _) sz1 sz2 (by simp; omega) ?_
      intro v' w4 hown hgrow hne
      have hk9 : KWH w ta tl tc (P ++ [⟨xh, xs⟩]) v' w4 := @KWH.app w ta tl tc _ _ _ _ _ _ _ hk8 hown hgrow
      have ho9 := hblk_grown ho8 hgrow (fun e => (HGN.out _ e.symm).1 rfl)
      have ht9 := hblk_grown ht8 hgrow (fun e => (HGN.out _ e.symm).2 rfl)
      refine hK.out _ _ (K5 (w := w) (ta := ta) (tl := tl) (tc := tc) hk9 ho9 ht9) (fun _ => ?_)
      clear hK K
      try simp only [Act.put, SL]
      refine tk (i := 6) (oi := { dst := some 5, op := Op.assign (Operand.tmp 56), type := 30, pos := "l07_window.go:70", after := #[{ on := 3, ground := Ground.data }, { on := 3, ground := Ground.chain }, { on := 0, ground := Ground.phase }, { on := 1, ground := Ground.phase }, { on := 2, ground := Ground.phase }, { on := 3, ground := Ground.phase }, { on := 4, ground := Ground.textOnly Departure.lateStores }, { on := 5, ground := Ground.textOnly Departure.lateStoresUnsure }], guard := none }) (v := ?_) ?_ ?_
      rotate_left
      ·(intro w hSw; (try dsimp only at hSw); go_simp) <;> with_reducible rfl
      try simp only [Act.put, SL]
      refine tk (i := 7) (oi := { dst := some 6, op := Op.assign (Operand.tmp 58), type := 30, pos := "l07_window.go:70", after := #[{ on := 5, ground := Ground.data }, { on := 6, ground := Ground.chain }, { on := 0, ground := Ground.phase }, { on := 1, ground := Ground.phase }, { on := 2, ground := Ground.phase }, { on := 3, ground := Ground.phase }, { on := 4, ground := Ground.phase }, { on := 5, ground := Ground.phase }, { on := 6, ground := Ground.phase }], guard := none }) (v := ?_) ?_ ?_
      rotate_left
      ·(intro w hSw; (try dsimp only at hSw); go_simp) <;> with_reducible rfl
      try simp only [Act.put, SL]
      refine wpAnyH_done (by kernel_rfl) ?_ _
      have HKF := hid_intro hk9
      clear hk9 hk8 ho8 ht8 ho9 ht9 hown hgrow hne hz2' hz3 HKd HOd HTd
      go_wp2_with fail
      go_roundw
      case rel => exact ⟨P ++ [(⟨xh, xs⟩ : H)], L, ((⟨yh, ys⟩ : H) :: Q), hid_intro (KL2.out hlc), HQQ, by have := HLn.out; have := HRn.out; simp; omega, hid_intro (fun z hz => HSL.out z (List.mem_cons_of_mem _ hz)), HSQ, hid_intro (by rw [← HR.out, List.append_assoc]; exact congrArg _ HMG.out.symm), HKF⟩
      case measure => first | (simp [slen]; done) | (simp [slen]; omega)
   ·have hcm : cmpH xh yh = 1 := by unfold cmpH; rw [if_neg h1, if_pos h2]
    have HMG : Hid (mrg hlt addH ((⟨xh, xs⟩ : H) :: L) (⟨yh, ys⟩ :: Q) = ⟨yh, ys⟩ :: mrg hlt addH (⟨xh, xs⟩ :: L) Q) := hid_intro (by rw [mrg, if_neg (by unfold hlt; simpa using h1), if_pos (by unfold hlt; simpa using h2)])
    have HC : Hid (∀ w, Calls Tryd.prog 106 #[.int .i64 xh, .int .i64 yh] w fun e w' => e = .returned (.int .i64 (1)) ∧ w' = w) := hid_intro (fun w => by have h := cmpI xh yh w; rw [hcm] at h; exact h)
    clear hcm
    go_wp2_with fail
    go_cut [8, 9] from 23 to 28 (fun v8 v9 wx => ∃ OB TB, v8 = .pointer (some ⟨OB, 0, none⟩) ∧ v9 = .pointer (some ⟨TB, 0, none⟩) ∧ Hid (KWH w ta tl tc P bv wx) ∧ Hid (Blk OB [.int .i64 xh, .int .i64 xs] wx) ∧ Hid (Blk TB [.int .i64 yh, .int .i64 ys] wx) ∧ Hid (∀ g, bv.ownBlock = some g → g ≠ OB ∧ g ≠ TB))
    case first =>
     have HKd : Hid (KWH w ta tl tc P bv wr.drew) := hid_intro (@KWH.below w ta tl tc _ _ _ _ HK.out (Below.refl _ _).drew)
     refine wp_region_held_drew (S := (fun W => Below w.heap.size w W ∧ b < W.heap.size ∧ b2 < W.heap.size ∧ W.cell? ⟨b, off, none⟩ = some (.int .i64 xh) ∧ W.cell? ⟨b, off + 1, none⟩ = some (.int .i64 xs) ∧ W.cell? ⟨b2, off2, none⟩ = some (.int .i64 yh) ∧ W.cell? ⟨b2, off2 + 1, none⟩ = some (.int .i64 ys))) (by kernel_rfl) (HSX.out _ HKd.out.1) (fun hHeld => ?_)
     obtain ⟨Wd, hWd⟩ : ∃ Wd, Wd = wr.drew := ⟨_, rfl⟩
     rw [← hWd] at HKd ⊢
     try rw [← hWd] at hHeld
     clear hWd
     refine tk (i := 0) (oi := { dst := some 23, op := Op.move (Operand.tmp 6), type := 30, pos := "l07_window.go:67", after := #[], guard := none }) (v := ?_) ?_ ?_
     rotate_left
     ·(intro w hSw; (try dsimp only at hSw); go_simp) <;> with_reducible rfl
     try simp only [Act.put, SL]
     refine tk (i := 1) (oi := { dst := some 24, op := Op.indexAddr 30 (Operand.tmp 23) (Operand.const (Value.int IntKind.i64 0)), type := 0, pos := "l07_window.go:67", after := #[{ on := 0, ground := Ground.data }], guard := none }) (v := ?_) ?_ ?_
     rotate_left
     ·(intro w hSw; (try dsimp only at hSw); go_simp) <;> with_reducible rfl
     try simp only [Act.put, SL]
     refine tk (i := 2) (oi := { dst := some 25, op := Op.load 65 (Operand.tmp 24), type := 65, pos := "l07_window.go:67", after := #[{ on := 1, ground := Ground.data }], guard := none }) (v := ?_) ?_ ?_
     rotate_left
     ·(intro w hSw; (try dsimp only at hSw); go_simp) <;> with_reducible rfl
     try simp only [Act.put, SL]
     refine tk (i := 3) (oi := { dst := some 26, op := Op.move (Operand.tmp 7), type := 30, pos := "l07_window.go:67", after := #[{ on := 8, ground := Ground.gcOnly Departure.lateStores }], guard := none }) (v := ?_) ?_ ?_
     rotate_left
     ·(intro w hSw; (try dsimp only at hSw); go_simp) <;> with_reducible rfl
     try simp only [Act.put, SL]
     refine tk (i := 4) (oi := { dst := some 27, op := Op.indexAddr 30 (Operand.tmp 26) (Operand.const (Value.int IntKind.i64 0)), type := 0, pos := "l07_window.go:67", after := #[{ on := 3, ground := Ground.data }, { on := 8, ground := Ground.gcOnly Departure.lateStores }], guard := none }) (v := ?_) ?_ ?_
     rotate_left
     ·(intro w hSw; (try dsimp only at hSw); go_simp) <;> with_reducible rfl
     try simp only [Act.put, SL]
     refine tk (i := 5) (oi := { dst := some 28, op := Op.load 65 (Operand.tmp 27), type := 65, pos := "l07_window.go:67", after := #[{ on := 4, ground := Ground.data }, { on := 8, ground := Ground.gcOnly Departure.lateStores }], guard := none }) (v := ?_) ?_ ?_
     rotate_left
     ·(intro w hSw; (try dsimp only at hSw); go_simp) <;> with_reducible rfl
     try simp only [Act.put, SL]
     refine wpAnyH_ready (rs := [6, 7]) (by kernel_rfl) (by simp) ?_
     refine AllReadyH.cons (o := { dst := some 8, op := Op.alloc 65, type := 0, pos := "l07_window.go:67", after := #[], guard := none }) rfl (fun K hK => ?_) (AllReadyH.cons (o := { dst := some 9, op := Op.alloc 65, type := 0, pos := "l07_window.go:67", after := #[], guard := none }) rfl (fun K hK => ?_) AllReadyH.nil)
     ·go_simp
      try go_wp2_with fail
      have hk1 := @KWH.below w ta tl tc _ _ _ _ HKd.out ((Below.refl Wd.heap.size Wd).alloc (Nat.le_refl _) (Obj.cells #[.int .i64 0, .int .i64 0] 65))
      have vo := BlkW.new Wd [.int .i64 0, .int .i64 0] 65
      have hlo1 := HKd.out.2.2.2
      have hsz1 := HKd.out.1.size
      refine hK.out _ _ (HSX.out _ hk1.1) (fun _ => ?_)
      clear hK K
      try simp only [Act.put, SL]
      obtain ⟨OB, hOB⟩ : ∃ B, B = Wd.heap.size := ⟨_, rfl⟩
      obtain ⟨W1, hW1⟩ : ∃ B, B = Wd.alloc (Obj.cells #[.int .i64 0, .int .i64 0] 65) := ⟨_, rfl⟩
      have hgOB : ∀ g, bv.ownBlock = some g → g ≠ OB := fun g hg => by have := (hlo1.lt g hg).2; omega
      have hwOB : w.heap.size + 3 ≤ OB := by have := HKd.out.2.2.1.1.1; omega
      rw [← hW1] at hk1 vo ⊢
      rw [← hOB] at vo ⊢
      clear hW1 hOB
      refine wpAnyH_ready (rs := [7]) (by kernel_rfl) (by simp) ?_
      refine AllReadyH.cons (o := { dst := some 9, op := Op.alloc 65, type := 0, pos := "l07_window.go:67", after := #[], guard := none }) rfl (fun K hK => ?_) AllReadyH.nil
      go_simp
      try go_wp2_with fail
      have hk2 := @KWH.below w ta tl tc _ _ _ _ hk1 ((Below.refl W1.heap.size W1).alloc (Nat.le_refl _) (Obj.cells #[.int .i64 0, .int .i64 0] 65))
      have vt := BlkW.new W1 [.int .i64 0, .int .i64 0] 65
      have hlo2 := hk1.2.2.2
      have hsz2 := hk1.1.size
      have vob := BlkW.below vo ((Below.refl W1.heap.size W1).alloc (Nat.le_refl _) (Obj.cells #[.int .i64 0, .int .i64 0] 65))
      have hl2 : OB < W1.heap.size := vo.1.1
      refine hK.out _ _ (HSX.out _ hk2.1) (fun _ => ?_)
      clear hK K
      try simp only [Act.put, SL]
      obtain ⟨TB, hTB⟩ : ∃ B, B = W1.heap.size := ⟨_, rfl⟩
      obtain ⟨W2, hW2⟩ : ∃ B, B = W1.alloc (Obj.cells #[.int .i64 0, .int .i64 0] 65) := ⟨_, rfl⟩
      have hgTB : ∀ g, bv.ownBlock = some g → g ≠ TB := fun g hg => by have := (hlo2.lt g hg).2; omega
      have hwTB : w.heap.size + 3 ≤ TB := by have := hk1.2.2.1.1.1; omega
      have hne : OB ≠ TB := by omega
      rw [← hW2] at hk2 vt ⊢
      rw [← hW2] at vob
      rw [← hTB] at vt ⊢
      clear hW2 hTB
      refine wpAnyH_ready (rs := [8]) (by kernel_rfl) (by simp) ?_
      refine AllReadyH.cons (o := { dst := none, op := Op.store 65 (Operand.tmp 8) (Operand.tmp 25), type := 0, pos := "l07_window.go:67", after := #[{ on := 6, ground := Ground.data }, { on := 2, ground := Ground.data }, { on := 0, ground := Ground.phase }, { on := 1, ground := Ground.phase }, { on := 2, ground := Ground.phase }, { on := 3, ground := Ground.textOnly Departure.lateStores }, { on := 4, ground := Ground.textOnly Departure.lateStores }, { on := 5, ground := Ground.textOnly Departure.lateStores }, { on := 6, ground := Ground.phase }, { on := 7, ground := Ground.phase }], guard := none }) rfl (fun K hK => ?_) AllReadyH.nil
      have a0 : W2.cell? ⟨OB, 0, none⟩ = some (.int .i64 0) := vob.1.2 0 (by simp)
      have a1 : W2.cell? ⟨OB, 1, none⟩ = some (.int .i64 0) := vob.1.2 1 (by simp)
      have g0 : W2.frozen? ⟨OB, 0, none⟩ = false := vob.2 0 (by simp)
      have g1 : W2.frozen? ⟨OB, 1, none⟩ = false := vob.2 1 (by simp)
      have gl := vob.1.1
      go_simp
      try go_wp2_with fail
      have hk3 := @KWH.put w ta tl tc _ _ _ (@KWH.put w ta tl tc _ _ _ hk2 OB 0 (.int .i64 xh) hwOB hgOB) OB 1 (.int .i64 xs) hwOB hgOB
      have vobc := BlkW.set (BlkW.set vob 0 (.int .i64 xh) (by simp)) 1 (.int .i64 xs) (by simp)
      have vtc := BlkW.other (BlkW.other vt OB 0 (.int .i64 xh) (by omega)) OB 1 (.int .i64 xs) (by omega)
      clear a0 a1 g0 g1 gl
      refine hK.out _ _ (HSX.out _ hk3.1) (fun _ => ?_)
      clear hK K
      try simp only [Act.put, SL]
      obtain ⟨W3, hW3⟩ : ∃ B, B = (W2.setCell ⟨OB, 0, none⟩ (.int .i64 xh)).setCell ⟨OB, 1, none⟩ (.int .i64 xs) := ⟨_, rfl⟩
      rw [← hW3] at hk3 vobc vtc ⊢
      clear hW3
      refine wpAnyH_ready (rs := [9]) (by kernel_rfl) (by simp) ?_
      refine AllReadyH.cons (o := { dst := none, op := Op.store 65 (Operand.tmp 9) (Operand.tmp 28), type := 0, pos := "l07_window.go:67", after := #[{ on := 7, ground := Ground.data }, { on := 5, ground := Ground.data }, { on := 8, ground := Ground.chain }, { on := 0, ground := Ground.phase }, { on := 1, ground := Ground.phase }, { on := 2, ground := Ground.phase }, { on := 3, ground := Ground.phase }, { on := 4, ground := Ground.phase }, { on := 5, ground := Ground.phase }, { on := 6, ground := Ground.phase }, { on := 7, ground := Ground.phase }, { on := 8, ground := Ground.phase }], guard := none }) rfl (fun K hK => ?_) AllReadyH.nil
      have a0 : W3.cell? ⟨TB, 0, none⟩ = some (.int .i64 0) := vtc.1.2 0 (by simp)
      have a1 : W3.cell? ⟨TB, 1, none⟩ = some (.int .i64 0) := vtc.1.2 1 (by simp)
      have g0 : W3.frozen? ⟨TB, 0, none⟩ = false := vtc.2 0 (by simp)
      have g1 : W3.frozen? ⟨TB, 1, none⟩ = false := vtc.2 1 (by simp)
      have gl := vtc.1.1
      go_simp
      try go_wp2_with fail
      have hk4 := @KWH.put w ta tl tc _ _ _ (@KWH.put w ta tl tc _ _ _ hk3 TB 0 (.int .i64 yh) hwTB hgTB) TB 1 (.int .i64 ys) hwTB hgTB
      have vtcc := BlkW.set (BlkW.set vtc 0 (.int .i64 yh) (by simp)) 1 (.int .i64 ys) (by simp)
      have vobcc := BlkW.other (BlkW.other vobc TB 0 (.int .i64 yh) (by omega)) TB 1 (.int .i64 ys) (by omega)
      clear a0 a1 g0 g1 gl
      refine hK.out _ _ (HSX.out _ hk4.1) (fun _ => ?_)
      clear hK K
      try simp only [Act.put, SL]
      obtain ⟨W4, hW4⟩ : ∃ B, B = (W3.setCell ⟨TB, 0, none⟩ (.int .i64 yh)).setCell ⟨TB, 1, none⟩ (.int .i64 ys) := ⟨_, rfl⟩
      rw [← hW4] at hk4 vtcc vobcc ⊢
      clear hW4
      refine wpAnyH_done (by kernel_rfl) ?_ _
      have HKF := hid_intro hk4
      have HOF := hid_intro vobcc.1
      have HTF := hid_intro vtcc.1
      go_wp2_with fail
      go_meet
      case rel => exact ⟨OB, TB, rfl, rfl, HKF, HOF, HTF, hid_intro (fun g hg => ⟨hgOB g hg, hgTB g hg⟩)⟩
     ·go_simp
      try go_wp2_with fail
      have hk1 := @KWH.below w ta tl tc _ _ _ _ HKd.out ((Below.refl Wd.heap.size Wd).alloc (Nat.le_refl _) (Obj.cells #[.int .i64 0, .int .i64 0] 65))
      have vt := BlkW.new Wd [.int .i64 0, .int .i64 0] 65
      have hlo1 := HKd.out.2.2.2
      have hsz1 := HKd.out.1.size
      refine hK.out _ _ (HSX.out _ hk1.1) (fun _ => ?_)
      clear hK K
      try simp only [Act.put, SL]
      obtain ⟨TB, hTB⟩ : ∃ B, B = Wd.heap.size := ⟨_, rfl⟩
      obtain ⟨W1, hW1⟩ : ∃ B, B = Wd.alloc (Obj.cells #[.int .i64 0, .int .i64 0] 65) := ⟨_, rfl⟩
      have hgTB : ∀ g, bv.ownBlock = some g → g ≠ TB := fun g hg => by have := (hlo1.lt g hg).2; omega
      have hwTB : w.heap.size + 3 ≤ TB := by have := HKd.out.2.2.1.1.1; omega
      rw [← hW1] at hk1 vt ⊢
      rw [← hTB] at vt ⊢
      clear hW1 hTB
      refine wpAnyH_ready (rs := [6]) (by kernel_rfl) (by simp) ?_
      refine AllReadyH.cons (o := { dst := some 8, op := Op.alloc 65, type := 0, pos := "l07_window.go:67", after := #[], guard := none }) rfl (fun K hK => ?_) AllReadyH.nil
      go_simp
      try go_wp2_with fail
      have hk2 := @KWH.below w ta tl tc _ _ _ _ hk1 ((Below.refl W1.heap.size W1).alloc (Nat.le_refl _) (Obj.cells #[.int .i64 0, .int .i64 0] 65))
      have vo := BlkW.new W1 [.int .i64 0, .int .i64 0] 65
      have hlo2 := hk1.2.2.2
      have hsz2 := hk1.1.size
      have vtb := BlkW.below vt ((Below.refl W1.heap.size W1).alloc (Nat.le_refl _) (Obj.cells #[.int .i64 0, .int .i64 0] 65))
      have hl2 : TB < W1.heap.size := vt.1.1
      refine hK.out _ _ (HSX.out _ hk2.1) (fun _ => ?_)
      clear hK K
      try simp only [Act.put, SL]
      obtain ⟨OB, hOB⟩ : ∃ B, B = W1.heap.size := ⟨_, rfl⟩
      obtain ⟨W2, hW2⟩ : ∃ B, B = W1.alloc (Obj.cells #[.int .i64 0, .int .i64 0] 65) := ⟨_, rfl⟩
      have hgOB : ∀ g, bv.ownBlock = some g → g ≠ OB := fun g hg => by have := (hlo2.lt g hg).2; omega
      have hwOB : w.heap.size + 3 ≤ OB := by have := hk1.2.2.1.1.1; omega
      have hne : TB ≠ OB := by omega
      rw [← hW2] at hk2 vo ⊢
      rw [← hW2] at vtb
      rw [← hOB] at vo ⊢
      clear hW2 hOB
      refine wpAnyH_ready (rs := [8]) (by kernel_rfl) (by simp) ?_
      refine AllReadyH.cons (o := { dst := none, op := Op.store 65 (Operand.tmp 8) (Operand.tmp 25), type := 0, pos := "l07_window.go:67", after := #[{ on := 6, ground := Ground.data }, { on := 2, ground := Ground.data }, { on := 0, ground := Ground.phase }, { on := 1, ground := Ground.phase }, { on := 2, ground := Ground.phase }, { on := 3, ground := Ground.textOnly Departure.lateStores }, { on := 4, ground := Ground.textOnly Departure.lateStores }, { on := 5, ground := Ground.textOnly Departure.lateStores }, { on := 6, ground := Ground.phase }, { on := 7, ground := Ground.phase }], guard := none }) rfl (fun K hK => ?_) AllReadyH.nil
      have a0 : W2.cell? ⟨OB, 0, none⟩ = some (.int .i64 0) := vo.1.2 0 (by simp)
      have a1 : W2.cell? ⟨OB, 1, none⟩ = some (.int .i64 0) := vo.1.2 1 (by simp)
      have g0 : W2.frozen? ⟨OB, 0, none⟩ = false := vo.2 0 (by simp)
      have g1 : W2.frozen? ⟨OB, 1, none⟩ = false := vo.2 1 (by simp)
      have gl := vo.1.1
      go_simp
      try go_wp2_with fail
      have hk3 := @KWH.put w ta tl tc _ _ _ (@KWH.put w ta tl tc _ _ _ hk2 OB 0 (.int .i64 xh) hwOB hgOB) OB 1 (.int .i64 xs) hwOB hgOB
      have voc := BlkW.set (BlkW.set vo 0 (.int .i64 xh) (by simp)) 1 (.int .i64 xs) (by simp)
      have vtbc := BlkW.other (BlkW.other vtb OB 0 (.int .i64 xh) (by omega)) OB 1 (.int .i64 xs) (by omega)
      clear a0 a1 g0 g1 gl
      refine hK.out _ _ (HSX.out _ hk3.1) (fun _ => ?_)
      clear hK K
      try simp only [Act.put, SL]
      obtain ⟨W3, hW3⟩ : ∃ B, B = (W2.setCell ⟨OB, 0, none⟩ (.int .i64 xh)).setCell ⟨OB, 1, none⟩ (.int .i64 xs) := ⟨_, rfl⟩
      rw [← hW3] at hk3 voc vtbc ⊢
      clear hW3
      refine wpAnyH_ready (rs := [9]) (by kernel_rfl) (by simp) ?_
      refine AllReadyH.cons (o := { dst := none, op := Op.store 65 (Operand.tmp 9) (Operand.tmp 28), type := 0, pos := "l07_window.go:67", after := #[{ on := 7, ground := Ground.data }, { on := 5, ground := Ground.data }, { on := 8, ground := Ground.chain }, { on := 0, ground := Ground.phase }, { on := 1, ground := Ground.phase }, { on := 2, ground := Ground.phase }, { on := 3, ground := Ground.phase }, { on := 4, ground := Ground.phase }, { on := 5, ground := Ground.phase }, { on := 6, ground := Ground.phase }, { on := 7, ground := Ground.phase }, { on := 8, ground := Ground.phase }], guard := none }) rfl (fun K hK => ?_) AllReadyH.nil
      have a0 : W3.cell? ⟨TB, 0, none⟩ = some (.int .i64 0) := vtbc.1.2 0 (by simp)
      have a1 : W3.cell? ⟨TB, 1, none⟩ = some (.int .i64 0) := vtbc.1.2 1 (by simp)
      have g0 : W3.frozen? ⟨TB, 0, none⟩ = false := vtbc.2 0 (by simp)
      have g1 : W3.frozen? ⟨TB, 1, none⟩ = false := vtbc.2 1 (by simp)
      have gl := vtbc.1.1
      go_simp
      try go_wp2_with fail
      have hk4 := @KWH.put w ta tl tc _ _ _ (@KWH.put w ta tl tc _ _ _ hk3 TB 0 (.int .i64 yh) hwTB hgTB) TB 1 (.int .i64 ys) hwTB hgTB
      have vtbcc := BlkW.set (BlkW.set vtbc 0 (.int .i64 yh) (by simp)) 1 (.int .i64 ys) (by simp)
      have vocc := BlkW.other (BlkW.other voc TB 0 (.int .i64 yh) (by omega)) TB 1 (.int .i64 ys) (by omega)
      clear a0 a1 g0 g1 gl
      refine hK.out _ _ (HSX.out _ hk4.1) (fun _ => ?_)
      clear hK K
      try simp only [Act.put, SL]
      obtain ⟨W4, hW4⟩ : ∃ B, B = (W3.setCell ⟨TB, 0, none⟩ (.int .i64 yh)).setCell ⟨TB, 1, none⟩ (.int .i64 ys) := ⟨_, rfl⟩
      rw [← hW4] at hk4 vtbcc vocc ⊢
      clear hW4
      refine wpAnyH_done (by kernel_rfl) ?_ _
      have HKF := hid_intro hk4
      have HOF := hid_intro vocc.1
      have HTF := hid_intro vtbcc.1
      go_wp2_with fail
      go_meet
      case rel => exact ⟨OB, TB, rfl, rfl, HKF, HOF, HTF, hid_intro (fun g hg => ⟨hgOB g hg, hgTB g hg⟩)⟩

    case rest =>
     obtain ⟨OB, TB, rfl, rfl, HKc, HOc, HTc, HGN⟩ := hcut
     clear HK
     have HKd : Hid (KWH w ta tl tc P bv wc.drew) := hid_intro (@KWH.below w ta tl tc _ _ _ _ HKc.out (Below.refl _ _).drew)
     have HOd := hid_intro (HOc.out.below (Below.refl _ _).drew)
     have HTd := hid_intro (HTc.out.below (Below.refl _ _).drew)
     clear HKc HOc HTc
     go_wp2_with fail
     refine wp_region_held_drew (S := (fun W => Below w.heap.size w W ∧ w.heap.size < W.heap.size ∧ OB < W.heap.size ∧ TB < W.heap.size ∧ W.cell? ⟨w.heap.size, 1, none⟩ = some (.func (.func 90) #[] #[]) ∧ W.cell? ⟨w.heap.size, 2, none⟩ = some (.func (.func 91) #[] #[]) ∧ W.cell? ⟨OB, 0, none⟩ = some (.int .i64 xh) ∧ W.cell? ⟨OB, 1, none⟩ = some (.int .i64 xs) ∧ W.cell? ⟨TB, 0, none⟩ = some (.int .i64 yh) ∧ W.cell? ⟨TB, 1, none⟩ = some (.int .i64 ys))) (by kernel_rfl) (K5 (w := w) (ta := ta) (tl := tl) (tc := tc) HKd.out HOd.out HTd.out) (fun hHeld => ?_)
     obtain ⟨Wd, hWd⟩ : ∃ Wd, Wd = wc.drew := ⟨_, rfl⟩
     rw [← hWd] at HKd HOd HTd ⊢
     try rw [← hWd] at hHeld
     clear hWd
     refine tk (i := 0) (oi := { dst := some 29, op := Op.fieldAddr 95 (Operand.tmp 2) 1, type := 0, pos := "l07_window.go:68", after := #[], guard := none }) (v := ?_) ?_ ?_
     rotate_left
     ·(intro w hSw; (try dsimp only at hSw); go_simp) <;> with_reducible rfl
     try simp only [Act.put, SL]
     refine tk (i := 1) (oi := { dst := some 30, op := Op.load 92 (Operand.tmp 29), type := 92, pos := "l07_window.go:68", after := #[{ on := 0, ground := Ground.data }], guard := none }) (v := ?_) ?_ ?_
     rotate_left
     ·(intro w hSw; (try dsimp only at hSw); go_simp) <;> with_reducible rfl
     try simp only [Act.put, SL]
     refine tk (i := 2) (oi := { dst := some 31, op := Op.load 65 (Operand.tmp 8), type := 65, pos := "l07_window.go:68", after := #[], guard := none }) (v := ?_) ?_ ?_
     rotate_left
     ·(intro w hSw; (try dsimp only at hSw); go_simp) <;> with_reducible rfl
     try simp only [Act.put, SL]
     refine tk (i := 4) (oi := { dst := some 33, op := Op.fieldAddr 95 (Operand.tmp 2) 1, type := 0, pos := "l07_window.go:68", after := #[], guard := none }) (v := ?_) ?_ ?_
     rotate_left
     ·(intro w hSw; (try dsimp only at hSw); go_simp) <;> with_reducible rfl
     try simp only [Act.put, SL]
     refine tk (i := 5) (oi := { dst := some 34, op := Op.load 92 (Operand.tmp 33), type := 92, pos := "l07_window.go:68", after := #[{ on := 4, ground := Ground.data }], guard := none }) (v := ?_) ?_ ?_
     rotate_left
     ·(intro w hSw; (try dsimp only at hSw); go_simp) <;> with_reducible rfl
     try simp only [Act.put, SL]
     refine tk (i := 6) (oi := { dst := some 35, op := Op.load 65 (Operand.tmp 9), type := 65, pos := "l07_window.go:68", after := #[], guard := none }) (v := ?_) ?_ ?_
     rotate_left
     ·(intro w hSw; (try dsimp only at hSw); go_simp) <;> with_reducible rfl
     try simp only [Act.put, SL]
     refine wpAnyH_ready (rs := [3]) (by kernel_rfl) (by simp) ?_
     refine AllReadyH.cons (o := { dst := some 32, op := Op.call { callee := Callee.value (Operand.tmp 30), args := #[Operand.tmp 31], argTypes := #[65] }, type := 2, pos := "l07_window.go:68", after := #[{ on := 1, ground := Ground.data }, { on := 2, ground := Ground.data }], guard := none }) rfl (fun K hK => ?_) AllReadyH.nil
     go_simp
     go_at_call 90
     refine (hkey xh xs _).mono ?_
     rintro e q1 ⟨rfl, hq1⟩
     try go_wp2_with fail
     have hkq1 := @KWH.below w ta tl tc _ _ _ _ HKd.out hq1
     have hoq1 := HOd.out.below hq1
     have htq1 := HTd.out.below hq1
     refine hK.out _ _ (K5 (w := w) (ta := ta) (tl := tl) (tc := tc) hkq1 hoq1 htq1) (fun _ => ?_)
     clear hK K
     try simp only [Act.put, SL]
     refine wpAnyH_ready (rs := [7]) (by kernel_rfl) (by simp) ?_
     refine AllReadyH.cons (o := { dst := some 36, op := Op.call { callee := Callee.value (Operand.tmp 34), args := #[Operand.tmp 35], argTypes := #[65] }, type := 2, pos := "l07_window.go:68", after := #[{ on := 5, ground := Ground.data }, { on := 6, ground := Ground.data }, { on := 3, ground := Ground.chain }], guard := none }) rfl (fun K hK => ?_) AllReadyH.nil
     go_simp
     go_at_call 90
     refine (hkey yh ys _).mono ?_
     rintro e q2 ⟨rfl, hq2⟩
     try go_wp2_with fail
     have hkq2 := @KWH.below w ta tl tc _ _ _ _ hkq1 hq2
     have hoq2 := hoq1.below hq2
     have htq2 := htq1.below hq2
     refine hK.out _ _ (K5 (w := w) (ta := ta) (tl := tl) (tc := tc) hkq2 hoq2 htq2) (fun _ => ?_)
     clear hK K
     try simp only [Act.put, SL]
     refine wpAnyH_ready (rs := [8]) (by kernel_rfl) (by simp) ?_
     refine AllReadyH.cons (o := { dst := some 37, op := Op.call { callee := Callee.value (Operand.func 106), args := #[Operand.tmp 32, Operand.tmp 36], argTypes := #[2, 2] }, type := 3, pos := "l07_window.go:68", after := #[{ on := 3, ground := Ground.data }, { on := 7, ground := Ground.data }, { on := 7, ground := Ground.chain }], guard := none }) rfl (fun K hK => ?_) AllReadyH.nil
     go_simp
     go_at_call 106
     refine (HC.out _).mono ?_
     rintro e wh ⟨rfl, hwh⟩
     rw [hwh]
     clear hwh wh
     try go_wp2_with fail
     refine hK.out _ _ (K5 (w := w) (ta := ta) (tl := tl) (tc := tc) hkq2 hoq2 htq2) (fun _ => ?_)
     clear hK K
     try simp only [Act.put, SL]
     refine tk (i := 9) (oi := { dst := some 10, op := Op.assign (Operand.tmp 37), type := 3, pos := "l07_window.go:68", after := #[{ on := 8, ground := Ground.data }, { on := 8, ground := Ground.chain }, { on := 0, ground := Ground.phase }, { on := 1, ground := Ground.phase }, { on := 2, ground := Ground.phase }, { on := 3, ground := Ground.phase }, { on := 4, ground := Ground.phase }, { on := 5, ground := Ground.phase }, { on := 6, ground := Ground.phase }, { on := 7, ground := Ground.phase }, { on := 8, ground := Ground.phase }], guard := none }) (v := ?_) ?_ ?_
     rotate_left
     ·(intro w hSw; (try dsimp only at hSw); go_simp) <;> with_reducible rfl
     try simp only [Act.put, SL]
     refine wpAnyH_done (by kernel_rfl) ?_ _
     have HK2 := hid_intro hkq2
     have HO2 := hid_intro hoq2
     have HT2 := hid_intro htq2
     clear hkq2 hoq2 htq2
     obtain ⟨W2, hW2⟩ : ∃ W2, W2 = q2 := ⟨_, rfl⟩
     rw [← hW2] at HK2 HO2 HT2 ⊢
     clear hW2
     go_wp2_with fail

     by_cases hrc : rc = 1
     ·have hr1 : rc = 1 := hrc
      obtain rfl : rl = 0 := by omega
      subst hr1
      have HKd : Hid (KWH w ta tl tc P bv W2.drew) := hid_intro (@KWH.below w ta tl tc _ _ _ _ HK2.out (Below.refl _ _).drew)
      have HOd := hid_intro (HO2.out.below (Below.refl _ _).drew)
      have HTd := hid_intro (HT2.out.below (Below.refl _ _).drew)
      clear HK2 HO2 HT2
      refine wp_region_held_drew (S := (fun W => Below w.heap.size w W ∧ w.heap.size < W.heap.size ∧ OB < W.heap.size ∧ TB < W.heap.size ∧ W.cell? ⟨w.heap.size, 1, none⟩ = some (.func (.func 90) #[] #[]) ∧ W.cell? ⟨w.heap.size, 2, none⟩ = some (.func (.func 91) #[] #[]) ∧ W.cell? ⟨OB, 0, none⟩ = some (.int .i64 xh) ∧ W.cell? ⟨OB, 1, none⟩ = some (.int .i64 xs) ∧ W.cell? ⟨TB, 0, none⟩ = some (.int .i64 yh) ∧ W.cell? ⟨TB, 1, none⟩ = some (.int .i64 ys))) (by kernel_rfl) (K5 (w := w) (ta := ta) (tl := tl) (tc := tc) HKd.out HOd.out HTd.out) (fun hHeld => ?_)
      obtain ⟨Wd, hWd⟩ : ∃ Wd, Wd = W2.drew := ⟨_, rfl⟩
      rw [← hWd] at HKd HOd HTd ⊢
      try rw [← hWd] at hHeld
      clear hWd
      refine tk (i := 0) (oi := { dst := some 62, op := Op.move (Operand.tmp 5), type := 30, pos := "l07_window.go:72", after := #[], guard := none }) (v := ?_) ?_ ?_
      rotate_left
      ·(intro w hSw; (try dsimp only at hSw); go_simp) <;> with_reducible rfl
      try simp only [Act.put, SL]
      refine tk (i := 1) (oi := { dst := some 63, op := Op.load 65 (Operand.tmp 9), type := 65, pos := "l07_window.go:72", after := #[], guard := none }) (v := ?_) ?_ ?_
      rotate_left
      ·(intro w hSw; (try dsimp only at hSw); go_simp) <;> with_reducible rfl
      try simp only [Act.put, SL]
      refine tk (i := 4) (oi := { dst := some 66, op := Op.move (Operand.tmp 7), type := 30, pos := "l07_window.go:72", after := #[], guard := none }) (v := ?_) ?_ ?_
      rotate_left
      ·(intro w hSw; (try dsimp only at hSw); go_simp) <;> with_reducible rfl
      try simp only [Act.put, SL]
      refine tk (i := 5) (oi := { dst := some 67, op := Op.slice 30 (Operand.tmp 66) (some (Operand.const (Value.int IntKind.i64 1))) none none, type := 30, pos := "l07_window.go:72", after := #[{ on := 4, ground := Ground.data }], guard := none }) (v := ?_) ?_ ?_
      rotate_left
      ·(intro w hSw; (try dsimp only at hSw); go_simp) <;> with_reducible rfl
      try simp only [Act.put, SL]
      refine wpAnyH_ready (rs := [2]) (by kernel_rfl) (by simp) ?_
      refine AllReadyH.cons (o := { dst := some 64, op := Op.buildSlice 30 1 #[(0, Operand.tmp 63)], type := 30, pos := "l07_window.go:72", after := #[{ on := 1, ground := Ground.data }], guard := none }) rfl (fun K hK => ?_) AllReadyH.nil
      go_simp
      try go_wp2_with fail
      have hk8 := @KWH.below w ta tl tc _ _ _ _ HKd.out ((Below.refl Wd.heap.size Wd).alloc (Nat.le_refl _) (Obj.cells #[.int .i64 yh, .int .i64 ys] 65))
      have ho8 := HOd.out.below ((Below.refl Wd.heap.size Wd).alloc (Nat.le_refl _) (Obj.cells #[.int .i64 yh, .int .i64 ys] 65))
      have ht8 := HTd.out.below ((Below.refl Wd.heap.size Wd).alloc (Nat.le_refl _) (Obj.cells #[.int .i64 yh, .int .i64 ys] 65))
      have hz2' := HKd.out.2.1.1.1
      have hz3 := HKd.out.2.2.1.1.1
      refine hK.out _ _ (K5 (w := w) (ta := ta) (tl := tl) (tc := tc) hk8 ho8 ht8) (fun _ => ?_)
      clear hK K
      try simp only [Act.put, SL]
      refine wpAnyH_ready (rs := [3]) (by kernel_rfl) (by simp) ?_
      refine AllReadyH.cons (o := { dst := some 65, op := Op.call { callee := Callee.builtin Builtin.append, args := #[Operand.tmp 62, Operand.tmp 64], argTypes := #[30, 30] }, type := 30, pos := "l07_window.go:72", after := #[{ on := 0, ground := Ground.data }, { on := 2, ground := Ground.data }], guard := none }) rfl (fun K hK => ?_) AllReadyH.nil
      refine step_append_own rfl _ _ 30 rfl (w.heap.size + 3) 65 i0 (.agg #[.int .i64 0, .int .i64 0]) 2 16 Tryd.underlying30 hi hz0 hz1 hz2 rfl sz3 _ _ _ rfl hk8.2.2.2 ⟨Wd.heap.size, 0, none⟩ 1 1 [.int .i64 yh, .int .i64 ys] rfl rfl (h2_cells _ _ _) (h2_one _ _) sz1 sz2 (by simp; omega) ?_
      intro v' w4 hown hgrow hne
      have hk9 : KWH w ta tl tc (P ++ [⟨yh, ys⟩]) v' w4 := @KWH.app w ta tl tc _ _ _ _ _ _ _ hk8 hown hgrow
      have ho9 := hblk_grown ho8 hgrow (fun e => (HGN.out _ e.symm).1 rfl)
      have ht9 := hblk_grown ht8 hgrow (fun e => (HGN.out _ e.symm).2 rfl)
      refine hK.out _ _ (K5 (w := w) (ta := ta) (tl := tl) (tc := tc) hk9 ho9 ht9) (fun _ => ?_)
      clear hK K
      try simp only [Act.put, SL]
      refine tk (i := 6) (oi := { dst := some 5, op := Op.assign (Operand.tmp 65), type := 30, pos := "l07_window.go:72", after := #[{ on := 3, ground := Ground.data }, { on := 3, ground := Ground.chain }, { on := 0, ground := Ground.phase }, { on := 1, ground := Ground.phase }, { on := 2, ground := Ground.phase }, { on := 3, ground := Ground.phase }, { on := 4, ground := Ground.textOnly Departure.lateStores }, { on := 5, ground := Ground.textOnly Departure.lateStoresUnsure }], guard := none }) (v := ?_) ?_ ?_
      rotate_left
      ·(intro w hSw; (try dsimp only at hSw); go_simp) <;> with_reducible rfl
      try simp only [Act.put, SL]
      refine tk (i := 7) (oi := { dst := some 7, op := Op.assign (Operand.tmp 67), type := 30, pos := "l07_window.go:72", after := #[{ on := 5, ground := Ground.data }, { on := 6, ground := Ground.chain }, { on := 0, ground := Ground.phase }, { on := 1, ground := Ground.phase }, { on := 2, ground := Ground.phase }, { on := 3, ground := Ground.phase }, { on := 4, ground := Ground.phase }, { on := 5, ground := Ground.phase }, { on := 6, ground := Ground.phase }], guard := none }) (v := ?_) ?_ ?_
      rotate_left
      ·(intro w hSw; (try dsimp only at hSw); go_simp) <;> with_reducible rfl
      try simp only [Act.put, SL]
      refine wpAnyH_done (by kernel_rfl) ?_ _
      have HKF := hid_intro hk9
      clear hk9 hk8 ho8 ht8 ho9 ht9 hown hgrow hne hz2' hz3 HKd HOd HTd
      go_wp2_with fail
      go_roundw
      case rel => exact ⟨P ++ [(⟨yh, ys⟩ : H)], ((⟨xh, xs⟩ : H) :: L), Q, HLL, hid_intro (KR1.out (by first | rfl | trivial)), by have := HLn.out; have := HRn.out; simp; omega, HSL, hid_intro (fun z hz => HSQ.out z (List.mem_cons_of_mem _ hz)), hid_intro (by rw [← HR.out, List.append_assoc]; exact congrArg _ HMG.out.symm), HKF⟩
      case measure => first | (simp [slen]; done) | (simp [slen]; omega)
     ·have hr1 : (1 : Int) ≤ (rc : Int) := by omega
      have hr2 : (1 : Int) ≤ (rl : Int) + 1 := by omega
      have HKd : Hid (KWH w ta tl tc P bv W2.drew) := hid_intro (@KWH.below w ta tl tc _ _ _ _ HK2.out (Below.refl _ _).drew)
      have HOd := hid_intro (HO2.out.below (Below.refl _ _).drew)
      have HTd := hid_intro (HT2.out.below (Below.refl _ _).drew)
      clear HK2 HO2 HT2
      refine wp_region_held_drew (S := (fun W => Below w.heap.size w W ∧ w.heap.size < W.heap.size ∧ OB < W.heap.size ∧ TB < W.heap.size ∧ W.cell? ⟨w.heap.size, 1, none⟩ = some (.func (.func 90) #[] #[]) ∧ W.cell? ⟨w.heap.size, 2, none⟩ = some (.func (.func 91) #[] #[]) ∧ W.cell? ⟨OB, 0, none⟩ = some (.int .i64 xh) ∧ W.cell? ⟨OB, 1, none⟩ = some (.int .i64 xs) ∧ W.cell? ⟨TB, 0, none⟩ = some (.int .i64 yh) ∧ W.cell? ⟨TB, 1, none⟩ = some (.int .i64 ys))) (by kernel_rfl) (K5 (w := w) (ta := ta) (tl := tl) (tc := tc) HKd.out HOd.out HTd.out) (fun hHeld => ?_)
      obtain ⟨Wd, hWd⟩ : ∃ Wd, Wd = W2.drew := ⟨_, rfl⟩
      rw [← hWd] at HKd HOd HTd ⊢
      try rw [← hWd] at hHeld
      clear hWd
      refine tk (i := 0) (oi := { dst := some 62, op := Op.move (Operand.tmp 5), type := 30, pos := "l07_window.go:72", after := #[], guard := none }) (v := ?_) ?_ ?_
      rotate_left
      ·(intro w hSw; (try dsimp only at hSw); go_simp) <;> with_reducible rfl
      try simp only [Act.put, SL]
      refine tk (i := 1) (oi := { dst := some 63, op := Op.load 65 (Operand.tmp 9), type := 65, pos := "l07_window.go:72", after := #[], guard := none }) (v := ?_) ?_ ?_
      rotate_left
      ·(intro w hSw; (try dsimp only at hSw); go_simp) <;> with_reducible rfl
      try simp only [Act.put, SL]
      refine tk (i := 4) (oi := { dst := some 66, op := Op.move (Operand.tmp 7), type := 30, pos := "l07_window.go:72", after := #[], guard := none }) (v := ?_) ?_ ?_
      rotate_left
      ·(intro w hSw; (try dsimp only at hSw); go_simp) <;> with_reducible rfl
      try simp only [Act.put, SL]
      refine tk (i := 5) (oi := { dst := some 67, op := Op.slice 30 (Operand.tmp 66) (some (Operand.const (Value.int IntKind.i64 1))) none none, type := 30, pos := "l07_window.go:72", after := #[{ on := 4, ground := Ground.data }], guard := none }) (v := ?_) ?_ ?_
      rotate_left
      ·(intro w hSw; (try dsimp only at hSw); go_simp) <;> with_reducible rfl
      try simp only [Act.put, SL]
      refine wpAnyH_ready (rs := [2]) (by kernel_rfl) (by simp) ?_
      refine AllReadyH.cons (o := { dst := some 64, op := Op.buildSlice 30 1 #[(0, Operand.tmp 63)], type := 30, pos := "l07_window.go:72", after := #[{ on := 1, ground := Ground.data }], guard := none }) rfl (fun K hK => ?_) AllReadyH.nil
      go_simp
      try go_wp2_with fail
      have hk8 := @KWH.below w ta tl tc _ _ _ _ HKd.out ((Below.refl Wd.heap.size Wd).alloc (Nat.le_refl _) (Obj.cells #[.int .i64 yh, .int .i64 ys] 65))
      have ho8 := HOd.out.below ((Below.refl Wd.heap.size Wd).alloc (Nat.le_refl _) (Obj.cells #[.int .i64 yh, .int .i64 ys] 65))
      have ht8 := HTd.out.below ((Below.refl Wd.heap.size Wd).alloc (Nat.le_refl _) (Obj.cells #[.int .i64 yh, .int .i64 ys] 65))
      have hz2' := HKd.out.2.1.1.1
      have hz3 := HKd.out.2.2.1.1.1
      refine hK.out _ _ (K5 (w := w) (ta := ta) (tl := tl) (tc := tc) hk8 ho8 ht8) (fun _ => ?_)
      clear hK K
      try simp only [Act.put, SL]
      refine wpAnyH_ready (rs := [3]) (by kernel_rfl) (by simp) ?_
      refine AllReadyH.cons (o := { dst := some 65, op := Op.call { callee := Callee.builtin Builtin.append, args := #[Operand.tmp 62, Operand.tmp 64], argTypes := #[30, 30] }, type := 30, pos := "l07_window.go:72", after := #[{ on := 0, ground := Ground.data }, { on := 2, ground := Ground.data }], guard := none }) rfl (fun K hK => ?_) AllReadyH.nil
      refine step_append_own rfl _ _ 30 rfl (w.heap.size + 3) 65 i0 (.agg #[.int .i64 0, .int .i64 0]) 2 16 Tryd.underlying30 hi hz0 hz1 hz2 rfl sz3 _ _ _ rfl hk8.2.2.2 ⟨Wd.heap.size, 0, none⟩ 1 1 [.int .i64 yh, .int .i64 ys] rfl rfl (h2_cells _ _ _) (h2_one _ _) sz1 sz2 (by simp; omega) ?_
      intro v' w4 hown hgrow hne
      have hk9 : KWH w ta tl tc (P ++ [⟨yh, ys⟩]) v' w4 := @KWH.app w ta tl tc _ _ _ _ _ _ _ hk8 hown hgrow
      have ho9 := hblk_grown ho8 hgrow (fun e => (HGN.out _ e.symm).1 rfl)
      have ht9 := hblk_grown ht8 hgrow (fun e => (HGN.out _ e.symm).2 rfl)
      refine hK.out _ _ (K5 (w := w) (ta := ta) (tl := tl) (tc := tc) hk9 ho9 ht9) (fun _ => ?_)
      clear hK K
      try simp only [Act.put, SL]
      refine tk (i := 6) (oi := { dst := some 5, op := Op.assign (Operand.tmp 65), type := 30, pos := "l07_window.go:72", after := #[{ on := 3, ground := Ground.data }, { on := 3, ground := Ground.chain }, { on := 0, ground := Ground.phase }, { on := 1, ground := Ground.phase }, { on := 2, ground := Ground.phase }, { on := 3, ground := Ground.phase }, { on := 4, ground := Ground.textOnly Departure.lateStores }, { on := 5, ground := Ground.textOnly Departure.lateStoresUnsure }], guard := none }) (v := ?_) ?_ ?_
      rotate_left
      ·(intro w hSw; (try dsimp only at hSw); go_simp) <;> with_reducible rfl
      try simp only [Act.put, SL]
      refine tk (i := 7) (oi := { dst := some 7, op := Op.assign (Operand.tmp 67), type := 30, pos := "l07_window.go:72", after := #[{ on := 5, ground := Ground.data }, { on := 6, ground := Ground.chain }, { on := 0, ground := Ground.phase }, { on := 1, ground := Ground.phase }, { on := 2, ground := Ground.phase }, { on := 3, ground := Ground.phase }, { on := 4, ground := Ground.phase }, { on := 5, ground := Ground.phase }, { on := 6, ground := Ground.phase }], guard := none }) (v := ?_) ?_ ?_
      rotate_left
      ·(intro w hSw; (try dsimp only at hSw); go_simp) <;> with_reducible rfl
      try simp only [Act.put, SL]
      refine wpAnyH_done (by kernel_rfl) ?_ _
      have HKF := hid_intro hk9
      clear hk9 hk8 ho8 ht8 ho9 ht9 hown hgrow hne hz2' hz3 HKd HOd HTd
      go_wp2_with fail
      go_roundw
      case rel => exact ⟨P ++ [(⟨yh, ys⟩ : H)], ((⟨xh, xs⟩ : H) :: L), Q, HLL, hid_intro (KR2.out hrc), by have := HLn.out; have := HRn.out; simp; omega, HSL, hid_intro (fun z hz => HSQ.out z (List.mem_cons_of_mem _ hz)), hid_intro (by rw [← HR.out, List.append_assoc]; exact congrArg _ HMG.out.symm), HKF⟩
      case measure => first | (simp [slen]; done) | (simp [slen]; omega)
   ·have hcm : cmpH xh yh = 0 := by unfold cmpH; rw [if_neg (by omega), if_neg (by omega)]
    have HMG : Hid (mrg hlt addH ((⟨xh, xs⟩ : H) :: L) (⟨yh, ys⟩ :: Q) = ⟨xh, xs + ys⟩ :: mrg hlt addH L Q) := hid_intro (by rw [mrg, if_neg (by unfold hlt; simp; omega), if_neg (by unfold hlt; simp; omega)]; rfl)
    clear h1
    have HC : Hid (∀ w, Calls Tryd.prog 106 #[.int .i64 xh, .int .i64 yh] w fun e w' => e = .returned (.int .i64 (0)) ∧ w' = w) := hid_intro (fun w => by have h := cmpI xh yh w; rw [hcm] at h; exact h)
    clear hcm
    go_wp2_with fail
    go_cut [8, 9] from 23 to 28 (fun v8 v9 wx => ∃ OB TB, v8 = .pointer (some ⟨OB, 0, none⟩) ∧ v9 = .pointer (some ⟨TB, 0, none⟩) ∧ Hid (KWH w ta tl tc P bv wx) ∧ Hid (Blk OB [.int .i64 xh, .int .i64 xs] wx) ∧ Hid (Blk TB [.int .i64 yh, .int .i64 ys] wx) ∧ Hid (∀ g, bv.ownBlock = some g → g ≠ OB ∧ g ≠ TB))
    case first =>
     have HKd : Hid (KWH w ta tl tc P bv wr.drew) := hid_intro (@KWH.below w ta tl tc _ _ _ _ HK.out (Below.refl _ _).drew)
     refine wp_region_held_drew (S := (fun W => Below w.heap.size w W ∧ b < W.heap.size ∧ b2 < W.heap.size ∧ W.cell? ⟨b, off, none⟩ = some (.int .i64 xh) ∧ W.cell? ⟨b, off + 1, none⟩ = some (.int .i64 xs) ∧ W.cell? ⟨b2, off2, none⟩ = some (.int .i64 yh) ∧ W.cell? ⟨b2, off2 + 1, none⟩ = some (.int .i64 ys))) (by kernel_rfl) (HSX.out _ HKd.out.1) (fun hHeld => ?_)
     obtain ⟨Wd, hWd⟩ : ∃ Wd, Wd = wr.drew := ⟨_, rfl⟩
     rw [← hWd] at HKd ⊢
     try rw [← hWd] at hHeld
     clear hWd
     refine tk (i := 0) (oi := { dst := some 23, op := Op.move (Operand.tmp 6), type := 30, pos := "l07_window.go:67", after := #[], guard := none }) (v := ?_) ?_ ?_
     rotate_left
     ·(intro w hSw; (try dsimp only at hSw); go_simp) <;> with_reducible rfl
     try simp only [Act.put, SL]
     refine tk (i := 1) (oi := { dst := some 24, op := Op.indexAddr 30 (Operand.tmp 23) (Operand.const (Value.int IntKind.i64 0)), type := 0, pos := "l07_window.go:67", after := #[{ on := 0, ground := Ground.data }], guard := none }) (v := ?_) ?_ ?_
     rotate_left
     ·(intro w hSw; (try dsimp only at hSw); go_simp) <;> with_reducible rfl
     try simp only [Act.put, SL]
     refine tk (i := 2) (oi := { dst := some 25, op := Op.load 65 (Operand.tmp 24), type := 65, pos := "l07_window.go:67", after := #[{ on := 1, ground := Ground.data }], guard := none }) (v := ?_) ?_ ?_
     rotate_left
     ·(intro w hSw; (try dsimp only at hSw); go_simp) <;> with_reducible rfl
     try simp only [Act.put, SL]
     refine tk (i := 3) (oi := { dst := some 26, op := Op.move (Operand.tmp 7), type := 30, pos := "l07_window.go:67", after := #[{ on := 8, ground := Ground.gcOnly Departure.lateStores }], guard := none }) (v := ?_) ?_ ?_
     rotate_left
     ·(intro w hSw; (try dsimp only at hSw); go_simp) <;> with_reducible rfl
     try simp only [Act.put, SL]
     refine tk (i := 4) (oi := { dst := some 27, op := Op.indexAddr 30 (Operand.tmp 26) (Operand.const (Value.int IntKind.i64 0)), type := 0, pos := "l07_window.go:67", after := #[{ on := 3, ground := Ground.data }, { on := 8, ground := Ground.gcOnly Departure.lateStores }], guard := none }) (v := ?_) ?_ ?_
     rotate_left
     ·(intro w hSw; (try dsimp only at hSw); go_simp) <;> with_reducible rfl
     try simp only [Act.put, SL]
     refine tk (i := 5) (oi := { dst := some 28, op := Op.load 65 (Operand.tmp 27), type := 65, pos := "l07_window.go:67", after := #[{ on := 4, ground := Ground.data }, { on := 8, ground := Ground.gcOnly Departure.lateStores }], guard := none }) (v := ?_) ?_ ?_
     rotate_left
     ·(intro w hSw; (try dsimp only at hSw); go_simp) <;> with_reducible rfl
     try simp only [Act.put, SL]
     refine wpAnyH_ready (rs := [6, 7]) (by kernel_rfl) (by simp) ?_
     refine AllReadyH.cons (o := { dst := some 8, op := Op.alloc 65, type := 0, pos := "l07_window.go:67", after := #[], guard := none }) rfl (fun K hK => ?_) (AllReadyH.cons (o := { dst := some 9, op := Op.alloc 65, type := 0, pos := "l07_window.go:67", after := #[], guard := none }) rfl (fun K hK => ?_) AllReadyH.nil)
     ·go_simp
      try go_wp2_with fail
      have hk1 := @KWH.below w ta tl tc _ _ _ _ HKd.out ((Below.refl Wd.heap.size Wd).alloc (Nat.le_refl _) (Obj.cells #[.int .i64 0, .int .i64 0] 65))
      have vo := BlkW.new Wd [.int .i64 0, .int .i64 0] 65
      have hlo1 := HKd.out.2.2.2
      have hsz1 := HKd.out.1.size
      refine hK.out _ _ (HSX.out _ hk1.1) (fun _ => ?_)
      clear hK K
      try simp only [Act.put, SL]
      obtain ⟨OB, hOB⟩ : ∃ B, B = Wd.heap.size := ⟨_, rfl⟩
      obtain ⟨W1, hW1⟩ : ∃ B, B = Wd.alloc (Obj.cells #[.int .i64 0, .int .i64 0] 65) := ⟨_, rfl⟩
      have hgOB : ∀ g, bv.ownBlock = some g → g ≠ OB := fun g hg => by have := (hlo1.lt g hg).2; omega
      have hwOB : w.heap.size + 3 ≤ OB := by have := HKd.out.2.2.1.1.1; omega
      rw [← hW1] at hk1 vo ⊢
      rw [← hOB] at vo ⊢
      clear hW1 hOB
      refine wpAnyH_ready (rs := [7]) (by kernel_rfl) (by simp) ?_
      refine AllReadyH.cons (o := { dst := some 9, op := Op.alloc 65, type := 0, pos := "l07_window.go:67", after := #[], guard := none }) rfl (fun K hK => ?_) AllReadyH.nil
      go_simp
      try go_wp2_with fail
      have hk2 := @KWH.below w ta tl tc _ _ _ _ hk1 ((Below.refl W1.heap.size W1).alloc (Nat.le_refl _) (Obj.cells #[.int .i64 0, .int .i64 0] 65))
      have vt := BlkW.new W1 [.int .i64 0, .int .i64 0] 65
      have hlo2 := hk1.2.2.2
      have hsz2 := hk1.1.size
      have vob := BlkW.below vo ((Below.refl W1.heap.size W1).alloc (Nat.le_refl _) (Obj.cells #[.int .i64 0, .int .i64 0] 65))
      have hl2 : OB < W1.heap.size := vo.1.1
      refine hK.out _ _ (HSX.out _ hk2.1) (fun _ => ?_)
      clear hK K
      try simp only [Act.put, SL]
      obtain ⟨TB, hTB⟩ : ∃ B, B = W1.heap.size := ⟨_, rfl⟩
      obtain ⟨W2, hW2⟩ : ∃ B, B = W1.alloc (Obj.cells #[.int .i64 0, .int .i64 0] 65) := ⟨_, rfl⟩
      have hgTB : ∀ g, bv.ownBlock = some g → g ≠ TB := fun g hg => by have := (hlo2.lt g hg).2; omega
      have hwTB : w.heap.size + 3 ≤ TB := by have := hk1.2.2.1.1.1; omega
      have hne : OB ≠ TB := by omega
      rw [← hW2] at hk2 vt ⊢
      rw [← hW2] at vob
      rw [← hTB] at vt ⊢
      clear hW2 hTB
      refine wpAnyH_ready (rs := [8]) (by kernel_rfl) (by simp) ?_
      refine AllReadyH.cons (o := { dst := none, op := Op.store 65 (Operand.tmp 8) (Operand.tmp 25), type := 0, pos := "l07_window.go:67", after := #[{ on := 6, ground := Ground.data }, { on := 2, ground := Ground.data }, { on := 0, ground := Ground.phase }, { on := 1, ground := Ground.phase }, { on := 2, ground := Ground.phase }, { on := 3, ground := Ground.textOnly Departure.lateStores }, { on := 4, ground := Ground.textOnly Departure.lateStores }, { on := 5, ground := Ground.textOnly Departure.lateStores }, { on := 6, ground := Ground.phase }, { on := 7, ground := Ground.phase }], guard := none }) rfl (fun K hK => ?_) AllReadyH.nil
      have a0 : W2.cell? ⟨OB, 0, none⟩ = some (.int .i64 0) := vob.1.2 0 (by simp)
      have a1 : W2.cell? ⟨OB, 1, none⟩ = some (.int .i64 0) := vob.1.2 1 (by simp)
      have g0 : W2.frozen? ⟨OB, 0, none⟩ = false := vob.2 0 (by simp)
      have g1 : W2.frozen? ⟨OB, 1, none⟩ = false := vob.2 1 (by simp)
      have gl := vob.1.1
      go_simp
      try go_wp2_with fail
      have hk3 := @KWH.put w ta tl tc _ _ _ (@KWH.put w ta tl tc _ _ _ hk2 OB 0 (.int .i64 xh) hwOB hgOB) OB 1 (.int .i64 xs) hwOB hgOB
      have vobc := BlkW.set (BlkW.set vob 0 (.int .i64 xh) (by simp)) 1 (.int .i64 xs) (by simp)
      have vtc := BlkW.other (BlkW.other vt OB 0 (.int .i64 xh) (by omega)) OB 1 (.int .i64 xs) (by omega)
      clear a0 a1 g0 g1 gl
      refine hK.out _ _ (HSX.out _ hk3.1) (fun _ => ?_)
      clear hK K
      try simp only [Act.put, SL]
      obtain ⟨W3, hW3⟩ : ∃ B, B = (W2.setCell ⟨OB, 0, none⟩ (.int .i64 xh)).setCell ⟨OB, 1, none⟩ (.int .i64 xs) := ⟨_, rfl⟩
      rw [← hW3] at hk3 vobc vtc ⊢
      clear hW3
      refine wpAnyH_ready (rs := [9]) (by kernel_rfl) (by simp) ?_
      refine AllReadyH.cons (o := { dst := none, op := Op.store 65 (Operand.tmp 9) (Operand.tmp 28), type := 0, pos := "l07_window.go:67", after := #[{ on := 7, ground := Ground.data }, { on := 5, ground := Ground.data }, { on := 8, ground := Ground.chain }, { on := 0, ground := Ground.phase }, { on := 1, ground := Ground.phase }, { on := 2, ground := Ground.phase }, { on := 3, ground := Ground.phase }, { on := 4, ground := Ground.phase }, { on := 5, ground := Ground.phase }, { on := 6, ground := Ground.phase }, { on := 7, ground := Ground.phase }, { on := 8, ground := Ground.phase }], guard := none }) rfl (fun K hK => ?_) AllReadyH.nil
      have a0 : W3.cell? ⟨TB, 0, none⟩ = some (.int .i64 0) := vtc.1.2 0 (by simp)
      have a1 : W3.cell? ⟨TB, 1, none⟩ = some (.int .i64 0) := vtc.1.2 1 (by simp)
      have g0 : W3.frozen? ⟨TB, 0, none⟩ = false := vtc.2 0 (by simp)
      have g1 : W3.frozen? ⟨TB, 1, none⟩ = false := vtc.2 1 (by simp)
      have gl := vtc.1.1
      go_simp
      try go_wp2_with fail
      have hk4 := @KWH.put w ta tl tc _ _ _ (@KWH.put w ta tl tc _ _ _ hk3 TB 0 (.int .i64 yh) hwTB hgTB) TB 1 (.int .i64 ys) hwTB hgTB
      have vtcc := BlkW.set (BlkW.set vtc 0 (.int .i64 yh) (by simp)) 1 (.int .i64 ys) (by simp)
      have vobcc := BlkW.other (BlkW.other vobc TB 0 (.int .i64 yh) (by omega)) TB 1 (.int .i64 ys) (by omega)
      clear a0 a1 g0 g1 gl
      refine hK.out _ _ (HSX.out _ hk4.1) (fun _ => ?_)
      clear hK K
      try simp only [Act.put, SL]
      obtain ⟨W4, hW4⟩ : ∃ B, B = (W3.setCell ⟨TB, 0, none⟩ (.int .i64 yh)).setCell ⟨TB, 1, none⟩ (.int .i64 ys) := ⟨_, rfl⟩
      rw [← hW4] at hk4 vtcc vobcc ⊢
      clear hW4
      refine wpAnyH_done (by kernel_rfl) ?_ _
      have HKF := hid_intro hk4
      have HOF := hid_intro vobcc.1
      have HTF := hid_intro vtcc.1
      go_wp2_with fail
      go_meet
      case rel => exact ⟨OB, TB, rfl, rfl, HKF, HOF, HTF, hid_intro (fun g hg => ⟨hgOB g hg, hgTB g hg⟩)⟩
     ·go_simp
      try go_wp2_with fail
      have hk1 := @KWH.below w ta tl tc _ _ _ _ HKd.out ((Below.refl Wd.heap.size Wd).alloc (Nat.le_refl _) (Obj.cells #[.int .i64 0, .int .i64 0] 65))
      have vt := BlkW.new Wd [.int .i64 0, .int .i64 0] 65
      have hlo1 := HKd.out.2.2.2
      have hsz1 := HKd.out.1.size
      refine hK.out _ _ (HSX.out _ hk1.1) (fun _ => ?_)
      clear hK K
      try simp only [Act.put, SL]
      obtain ⟨TB, hTB⟩ : ∃ B, B = Wd.heap.size := ⟨_, rfl⟩
      obtain ⟨W1, hW1⟩ : ∃ B, B = Wd.alloc (Obj.cells #[.int .i64 0, .int .i64 0] 65) := ⟨_, rfl⟩
      have hgTB : ∀ g, bv.ownBlock = some g → g ≠ TB := fun g hg => by have := (hlo1.lt g hg).2; omega
      have hwTB : w.heap.size + 3 ≤ TB := by have := HKd.out.2.2.1.1.1; omega
      rw [← hW1] at hk1 vt ⊢
      rw [← hTB] at vt ⊢
      clear hW1 hTB
      refine wpAnyH_ready (rs := [6]) (by kernel_rfl) (by simp) ?_
      refine AllReadyH.cons (o := { dst := some 8, op := Op.alloc 65, type := 0, pos := "l07_window.go:67", after := #[], guard := none }) rfl (fun K hK => ?_) AllReadyH.nil
      go_simp
      try go_wp2_with fail
      have hk2 := @KWH.below w ta tl tc _ _ _ _ hk1 ((Below.refl W1.heap.size W1).alloc (Nat.le_refl _) (Obj.cells #[.int .i64 0, .int .i64 0] 65))
      have vo := BlkW.new W1 [.int .i64 0, .int .i64 0] 65
      have hlo2 := hk1.2.2.2
      have hsz2 := hk1.1.size
      have vtb := BlkW.below vt ((Below.refl W1.heap.size W1).alloc (Nat.le_refl _) (Obj.cells #[.int .i64 0, .int .i64 0] 65))
      have hl2 : TB < W1.heap.size := vt.1.1
      refine hK.out _ _ (HSX.out _ hk2.1) (fun _ => ?_)
      clear hK K
      try simp only [Act.put, SL]
      obtain ⟨OB, hOB⟩ : ∃ B, B = W1.heap.size := ⟨_, rfl⟩
      obtain ⟨W2, hW2⟩ : ∃ B, B = W1.alloc (Obj.cells #[.int .i64 0, .int .i64 0] 65) := ⟨_, rfl⟩
      have hgOB : ∀ g, bv.ownBlock = some g → g ≠ OB := fun g hg => by have := (hlo2.lt g hg).2; omega
      have hwOB : w.heap.size + 3 ≤ OB := by have := hk1.2.2.1.1.1; omega
      have hne : TB ≠ OB := by omega
      rw [← hW2] at hk2 vo ⊢
      rw [← hW2] at vtb
      rw [← hOB] at vo ⊢
      clear hW2 hOB
      refine wpAnyH_ready (rs := [8]) (by kernel_rfl) (by simp) ?_
      refine AllReadyH.cons (o := { dst := none, op := Op.store 65 (Operand.tmp 8) (Operand.tmp 25), type := 0, pos := "l07_window.go:67", after := #[{ on := 6, ground := Ground.data }, { on := 2, ground := Ground.data }, { on := 0, ground := Ground.phase }, { on := 1, ground := Ground.phase }, { on := 2, ground := Ground.phase }, { on := 3, ground := Ground.textOnly Departure.lateStores }, { on := 4, ground := Ground.textOnly Departure.lateStores }, { on := 5, ground := Ground.textOnly Departure.lateStores }, { on := 6, ground := Ground.phase }, { on := 7, ground := Ground.phase }], guard := none }) rfl (fun K hK => ?_) AllReadyH.nil
      have a0 : W2.cell? ⟨OB, 0, none⟩ = some (.int .i64 0) := vo.1.2 0 (by simp)
      have a1 : W2.cell? ⟨OB, 1, none⟩ = some (.int .i64 0) := vo.1.2 1 (by simp)
      have g0 : W2.frozen? ⟨OB, 0, none⟩ = false := vo.2 0 (by simp)
      have g1 : W2.frozen? ⟨OB, 1, none⟩ = false := vo.2 1 (by simp)
      have gl := vo.1.1
      go_simp
      try go_wp2_with fail
      have hk3 := @KWH.put w ta tl tc _ _ _ (@KWH.put w ta tl tc _ _ _ hk2 OB 0 (.int .i64 xh) hwOB hgOB) OB 1 (.int .i64 xs) hwOB hgOB
      have voc := BlkW.set (BlkW.set vo 0 (.int .i64 xh) (by simp)) 1 (.int .i64 xs) (by simp)
      have vtbc := BlkW.other (BlkW.other vtb OB 0 (.int .i64 xh) (by omega)) OB 1 (.int .i64 xs) (by omega)
      clear a0 a1 g0 g1 gl
      refine hK.out _ _ (HSX.out _ hk3.1) (fun _ => ?_)
      clear hK K
      try simp only [Act.put, SL]
      obtain ⟨W3, hW3⟩ : ∃ B, B = (W2.setCell ⟨OB, 0, none⟩ (.int .i64 xh)).setCell ⟨OB, 1, none⟩ (.int .i64 xs) := ⟨_, rfl⟩
      rw [← hW3] at hk3 voc vtbc ⊢
      clear hW3
      refine wpAnyH_ready (rs := [9]) (by kernel_rfl) (by simp) ?_
      refine AllReadyH.cons (o := { dst := none, op := Op.store 65 (Operand.tmp 9) (Operand.tmp 28), type := 0, pos := "l07_window.go:67", after := #[{ on := 7, ground := Ground.data }, { on := 5, ground := Ground.data }, { on := 8, ground := Ground.chain }, { on := 0, ground := Ground.phase }, { on := 1, ground := Ground.phase }, { on := 2, ground := Ground.phase }, { on := 3, ground := Ground.phase }, { on := 4, ground := Ground.phase }, { on := 5, ground := Ground.phase }, { on := 6, ground := Ground.phase }, { on := 7, ground := Ground.phase }, { on := 8, ground := Ground.phase }], guard := none }) rfl (fun K hK => ?_) AllReadyH.nil
      have a0 : W3.cell? ⟨TB, 0, none⟩ = some (.int .i64 0) := vtbc.1.2 0 (by simp)
      have a1 : W3.cell? ⟨TB, 1, none⟩ = some (.int .i64 0) := vtbc.1.2 1 (by simp)
      have g0 : W3.frozen? ⟨TB, 0, none⟩ = false := vtbc.2 0 (by simp)
      have g1 : W3.frozen? ⟨TB, 1, none⟩ = false := vtbc.2 1 (by simp)
      have gl := vtbc.1.1
      go_simp
      try go_wp2_with fail
      have hk4 := @KWH.put w ta tl tc _ _ _ (@KWH.put w ta tl tc _ _ _ hk3 TB 0 (.int .i64 yh) hwTB hgTB) TB 1 (.int .i64 ys) hwTB hgTB
      have vtbcc := BlkW.set (BlkW.set vtbc 0 (.int .i64 yh) (by simp)) 1 (.int .i64 ys) (by simp)
      have vocc := BlkW.other (BlkW.other voc TB 0 (.int .i64 yh) (by omega)) TB 1 (.int .i64 ys) (by omega)
      clear a0 a1 g0 g1 gl
      refine hK.out _ _ (HSX.out _ hk4.1) (fun _ => ?_)
      clear hK K
      try simp only [Act.put, SL]
      obtain ⟨W4, hW4⟩ : ∃ B, B = (W3.setCell ⟨TB, 0, none⟩ (.int .i64 yh)).setCell ⟨TB, 1, none⟩ (.int .i64 ys) := ⟨_, rfl⟩
      rw [← hW4] at hk4 vtbcc vocc ⊢
      clear hW4
      refine wpAnyH_done (by kernel_rfl) ?_ _
      have HKF := hid_intro hk4
      have HOF := hid_intro vocc.1
      have HTF := hid_intro vtbcc.1
      go_wp2_with fail
      go_meet
      case rel => exact ⟨OB, TB, rfl, rfl, HKF, HOF, HTF, hid_intro (fun g hg => ⟨hgOB g hg, hgTB g hg⟩)⟩

    case rest =>
     obtain ⟨OB, TB, rfl, rfl, HKc, HOc, HTc, HGN⟩ := hcut
     clear HK
     have HKd : Hid (KWH w ta tl tc P bv wc.drew) := hid_intro (@KWH.below w ta tl tc _ _ _ _ HKc.out (Below.refl _ _).drew)
     have HOd := hid_intro (HOc.out.below (Below.refl _ _).drew)
     have HTd := hid_intro (HTc.out.below (Below.refl _ _).drew)
     clear HKc HOc HTc
     go_wp2_with fail
     refine wp_region_held_drew (S := (fun W => Below w.heap.size w W ∧ w.heap.size < W.heap.size ∧ OB < W.heap.size ∧ TB < W.heap.size ∧ W.cell? ⟨w.heap.size, 1, none⟩ = some (.func (.func 90) #[] #[]) ∧ W.cell? ⟨w.heap.size, 2, none⟩ = some (.func (.func 91) #[] #[]) ∧ W.cell? ⟨OB, 0, none⟩ = some (.int .i64 xh) ∧ W.cell? ⟨OB, 1, none⟩ = some (.int .i64 xs) ∧ W.cell? ⟨TB, 0, none⟩ = some (.int .i64 yh) ∧ W.cell? ⟨TB, 1, none⟩ = some (.int .i64 ys))) (by kernel_rfl) (K5 (w := w) (ta := ta) (tl := tl) (tc := tc) HKd.out HOd.out HTd.out) (fun hHeld => ?_)
     obtain ⟨Wd, hWd⟩ : ∃ Wd, Wd = wc.drew := ⟨_, rfl⟩
     rw [← hWd] at HKd HOd HTd ⊢
     try rw [← hWd] at hHeld
     clear hWd
     refine tk (i := 0) (oi := { dst := some 29, op := Op.fieldAddr 95 (Operand.tmp 2) 1, type := 0, pos := "l07_window.go:68", after := #[], guard := none }) (v := ?_) ?_ ?_
     rotate_left
     ·(intro w hSw; (try dsimp only at hSw); go_simp) <;> with_reducible rfl
     try simp only [Act.put, SL]
     refine tk (i := 1) (oi := { dst := some 30, op := Op.load 92 (Operand.tmp 29), type := 92, pos := "l07_window.go:68", after := #[{ on := 0, ground := Ground.data }], guard := none }) (v := ?_) ?_ ?_
     rotate_left
     ·(intro w hSw; (try dsimp only at hSw); go_simp) <;> with_reducible rfl
     try simp only [Act.put, SL]
     refine tk (i := 2) (oi := { dst := some 31, op := Op.load 65 (Operand.tmp 8), type := 65, pos := "l07_window.go:68", after := #[], guard := none }) (v := ?_) ?_ ?_
     rotate_left
     ·(intro w hSw; (try dsimp only at hSw); go_simp) <;> with_reducible rfl
     try simp only [Act.put, SL]
     refine tk (i := 4) (oi := { dst := some 33, op := Op.fieldAddr 95 (Operand.tmp 2) 1, type := 0, pos := "l07_window.go:68", after := #[], guard := none }) (v := ?_) ?_ ?_
     rotate_left
     ·(intro w hSw; (try dsimp only at hSw); go_simp) <;> with_reducible rfl
     try simp only [Act.put, SL]
     refine tk (i := 5) (oi := { dst := some 34, op := Op.load 92 (Operand.tmp 33), type := 92, pos := "l07_window.go:68", after := #[{ on := 4, ground := Ground.data }], guard := none }) (v := ?_) ?_ ?_
     rotate_left
     ·(intro w hSw; (try dsimp only at hSw); go_simp) <;> with_reducible rfl
     try simp only [Act.put, SL]
     refine tk (i := 6) (oi := { dst := some 35, op := Op.load 65 (Operand.tmp 9), type := 65, pos := "l07_window.go:68", after := #[], guard := none }) (v := ?_) ?_ ?_
     rotate_left
     ·(intro w hSw; (try dsimp only at hSw); go_simp) <;> with_reducible rfl
     try simp only [Act.put, SL]
     refine wpAnyH_ready (rs := [3]) (by kernel_rfl) (by simp) ?_
     refine AllReadyH.cons (o := { dst := some 32, op := Op.call { callee := Callee.value (Operand.tmp 30), args := #[Operand.tmp 31], argTypes := #[65] }, type := 2, pos := "l07_window.go:68", after := #[{ on := 1, ground := Ground.data }, { on := 2, ground := Ground.data }], guard := none }) rfl (fun K hK => ?_) AllReadyH.nil
     go_simp
     go_at_call 90
     refine (hkey xh xs _).mono ?_
     rintro e q1 ⟨rfl, hq1⟩
     try go_wp2_with fail
     have hkq1 := @KWH.below w ta tl tc _ _ _ _ HKd.out hq1
     have hoq1 := HOd.out.below hq1
     have htq1 := HTd.out.below hq1
     refine hK.out _ _ (K5 (w := w) (ta := ta) (tl := tl) (tc := tc) hkq1 hoq1 htq1) (fun _ => ?_)
     clear hK K
     try simp only [Act.put, SL]
     refine wpAnyH_ready (rs := [7]) (by kernel_rfl) (by simp) ?_
     refine AllReadyH.cons (o := { dst := some 36, op := Op.call { callee := Callee.value (Operand.tmp 34), args := #[Operand.tmp 35], argTypes := #[65] }, type := 2, pos := "l07_window.go:68", after := #[{ on := 5, ground := Ground.data }, { on := 6, ground := Ground.data }, { on := 3, ground := Ground.chain }], guard := none }) rfl (fun K hK => ?_) AllReadyH.nil
     go_simp
     go_at_call 90
     refine (hkey yh ys _).mono ?_
     rintro e q2 ⟨rfl, hq2⟩
     try go_wp2_with fail
     have hkq2 := @KWH.below w ta tl tc _ _ _ _ hkq1 hq2
     have hoq2 := hoq1.below hq2
     have htq2 := htq1.below hq2
     refine hK.out _ _ (K5 (w := w) (ta := ta) (tl := tl) (tc := tc) hkq2 hoq2 htq2) (fun _ => ?_)
     clear hK K
     try simp only [Act.put, SL]
     refine wpAnyH_ready (rs := [8]) (by kernel_rfl) (by simp) ?_
     refine AllReadyH.cons (o := { dst := some 37, op := Op.call { callee := Callee.value (Operand.func 106), args := #[Operand.tmp 32, Operand.tmp 36], argTypes := #[2, 2] }, type := 3, pos := "l07_window.go:68", after := #[{ on := 3, ground := Ground.data }, { on := 7, ground := Ground.data }, { on := 7, ground := Ground.chain }], guard := none }) rfl (fun K hK => ?_) AllReadyH.nil
     go_simp
     go_at_call 106
     refine (HC.out _).mono ?_
     rintro e wh ⟨rfl, hwh⟩
     rw [hwh]
     clear hwh wh
     try go_wp2_with fail
     refine hK.out _ _ (K5 (w := w) (ta := ta) (tl := tl) (tc := tc) hkq2 hoq2 htq2) (fun _ => ?_)
     clear hK K
     try simp only [Act.put, SL]
     refine tk (i := 9) (oi := { dst := some 10, op := Op.assign (Operand.tmp 37), type := 3, pos := "l07_window.go:68", after := #[{ on := 8, ground := Ground.data }, { on := 8, ground := Ground.chain }, { on := 0, ground := Ground.phase }, { on := 1, ground := Ground.phase }, { on := 2, ground := Ground.phase }, { on := 3, ground := Ground.phase }, { on := 4, ground := Ground.phase }, { on := 5, ground := Ground.phase }, { on := 6, ground := Ground.phase }, { on := 7, ground := Ground.phase }, { on := 8, ground := Ground.phase }], guard := none }) (v := ?_) ?_ ?_
     rotate_left
     ·(intro w hSw; (try dsimp only at hSw); go_simp) <;> with_reducible rfl
     try simp only [Act.put, SL]
     refine wpAnyH_done (by kernel_rfl) ?_ _
     have HK2 := hid_intro hkq2
     have HO2 := hid_intro hoq2
     have HT2 := hid_intro htq2
     clear hkq2 hoq2 htq2
     obtain ⟨W2, hW2⟩ : ∃ W2, W2 = q2 := ⟨_, rfl⟩
     rw [← hW2] at HK2 HO2 HT2 ⊢
     clear hW2
     go_wp2_with fail

     by_cases hlc : lc = 1
     ·have hl1 : lc = 1 := hlc
      obtain rfl : ll = 0 := by omega
      subst hl1
      by_cases hrc : rc = 1
      ·have hr1 : rc = 1 := hrc
       obtain rfl : rl = 0 := by omega
       subst hr1
       have HKd : Hid (KWH w ta tl tc P bv W2.drew) := hid_intro (@KWH.below w ta tl tc _ _ _ _ HK2.out (Below.refl _ _).drew)
       have HOd := hid_intro (HO2.out.below (Below.refl _ _).drew)
       have HTd := hid_intro (HT2.out.below (Below.refl _ _).drew)
       clear HK2 HO2 HT2
       refine wp_region_held_drew (S := (fun W => Below w.heap.size w W ∧ w.heap.size < W.heap.size ∧ OB < W.heap.size ∧ TB < W.heap.size ∧ W.cell? ⟨w.heap.size, 1, none⟩ = some (.func (.func 90) #[] #[]) ∧ W.cell? ⟨w.heap.size, 2, none⟩ = some (.func (.func 91) #[] #[]) ∧ W.cell? ⟨OB, 0, none⟩ = some (.int .i64 xh) ∧ W.cell? ⟨OB, 1, none⟩ = some (.int .i64 xs) ∧ W.cell? ⟨TB, 0, none⟩ = some (.int .i64 yh) ∧ W.cell? ⟨TB, 1, none⟩ = some (.int .i64 ys))) (by kernel_rfl) (K5 (w := w) (ta := ta) (tl := tl) (tc := tc) HKd.out HOd.out HTd.out) (fun hHeld => ?_)
       obtain ⟨Wd, hWd⟩ : ∃ Wd, Wd = W2.drew := ⟨_, rfl⟩
       rw [← hWd] at HKd HOd HTd ⊢
       try rw [← hWd] at hHeld
       clear hWd
       refine tk (i := 0) (oi := { dst := some 38, op := Op.move (Operand.tmp 5), type := 30, pos := "l07_window.go:74", after := #[], guard := none }) (v := ?_) ?_ ?_
       rotate_left
       ·(intro w hSw; (try dsimp only at hSw); go_simp) <;> with_reducible rfl
       try simp only [Act.put, SL]
       refine tk (i := 1) (oi := { dst := some 39, op := Op.fieldAddr 95 (Operand.tmp 2) 2, type := 0, pos := "l07_window.go:74", after := #[], guard := none }) (v := ?_) ?_ ?_
       rotate_left
       ·(intro w hSw; (try dsimp only at hSw); go_simp) <;> with_reducible rfl
       try simp only [Act.put, SL]
       refine tk (i := 2) (oi := { dst := some 40, op := Op.load 93 (Operand.tmp 39), type := 93, pos := "l07_window.go:74", after := #[{ on := 1, ground := Ground.data }], guard := none }) (v := ?_) ?_ ?_
       rotate_left
       ·(intro w hSw; (try dsimp only at hSw); go_simp) <;> with_reducible rfl
       try simp only [Act.put, SL]
       refine tk (i := 3) (oi := { dst := some 41, op := Op.load 65 (Operand.tmp 8), type := 65, pos := "l07_window.go:74", after := #[], guard := none }) (v := ?_) ?_ ?_
       rotate_left
       ·(intro w hSw; (try dsimp only at hSw); go_simp) <;> with_reducible rfl
       try simp only [Act.put, SL]
       refine tk (i := 4) (oi := { dst := some 42, op := Op.load 65 (Operand.tmp 9), type := 65, pos := "l07_window.go:74", after := #[], guard := none }) (v := ?_) ?_ ?_
       rotate_left
       ·(intro w hSw; (try dsimp only at hSw); go_simp) <;> with_reducible rfl
       try simp only [Act.put, SL]
       refine tk (i := 8) (oi := { dst := some 46, op := Op.move (Operand.tmp 6), type := 30, pos := "l07_window.go:74", after := #[], guard := none }) (v := ?_) ?_ ?_
       rotate_left
       ·(intro w hSw; (try dsimp only at hSw); go_simp) <;> with_reducible rfl
       try simp only [Act.put, SL]
       refine tk (i := 9) (oi := { dst := some 47, op := Op.slice 30 (Operand.tmp 46) (some (Operand.const (Value.int IntKind.i64 1))) none none, type := 30, pos := "l07_window.go:74", after := #[{ on := 8, ground := Ground.data }], guard := none }) (v := ?_) ?_ ?_
       rotate_left
       ·(intro w hSw; (try dsimp only at hSw); go_simp) <;> with_reducible rfl
       try simp only [Act.put, SL]
       refine tk (i := 10) (oi := { dst := some 48, op := Op.move (Operand.tmp 7), type := 30, pos := "l07_window.go:74", after := #[], guard := none }) (v := ?_) ?_ ?_
       rotate_left
       ·(intro w hSw; (try dsimp only at hSw); go_simp) <;> with_reducible rfl
       try simp only [Act.put, SL]
       refine tk (i := 11) (oi := { dst := some 49, op := Op.slice 30 (Operand.tmp 48) (some (Operand.const (Value.int IntKind.i64 1))) none none, type := 30, pos := "l07_window.go:74", after := #[{ on := 10, ground := Ground.data }], guard := none }) (v := ?_) ?_ ?_
       rotate_left
       ·(intro w hSw; (try dsimp only at hSw); go_simp) <;> with_reducible rfl
       try simp only [Act.put, SL]
       refine wpAnyH_ready (rs := [5]) (by kernel_rfl) (by simp) ?_
       refine AllReadyH.cons (o := { dst := some 43, op := Op.call { callee := Callee.value (Operand.tmp 40), args := #[Operand.tmp 41, Operand.tmp 42], argTypes := #[65, 65] }, type := 65, pos := "l07_window.go:74", after := #[{ on := 2, ground := Ground.data }, { on := 3, ground := Ground.data }, { on := 4, ground := Ground.data }], guard := none }) rfl (fun K hK => ?_) AllReadyH.nil
       go_simp
       go_at_call 91
       refine (hmeet ⟨xh, xs⟩ ⟨yh, ys⟩ _ ⟨sx1, sx2⟩ ⟨sy1, sy2⟩).mono ?_
       rintro e q7 ⟨rfl, hq7⟩
       try go_wp2_with fail
       have hk7 := @KWH.below w ta tl tc _ _ _ _ HKd.out hq7
       have ho7 := HOd.out.below hq7
       have ht7 := HTd.out.below hq7
       unfold addH
       dsimp only
       refine hK.out _ _ (K5 (w := w) (ta := ta) (tl := tl) (tc := tc) hk7 ho7 ht7) (fun _ => ?_)
       clear hK K
       try simp only [Act.put, SL]
       refine wpAnyH_ready (rs := [6]) (by kernel_rfl) (by simp) ?_
       refine AllReadyH.cons (o := { dst := some 44, op := Op.buildSlice 30 1 #[(0, Operand.tmp 43)], type := 30, pos := "l07_window.go:74", after := #[{ on := 5, ground := Ground.data }], guard := none }) rfl (fun K hK => ?_) AllReadyH.nil
       go_simp
       try go_wp2_with fail
       have hk8 := @KWH.below w ta tl tc _ _ _ _ hk7 ((Below.refl q7.heap.size q7).alloc (Nat.le_refl _) (Obj.cells #[.int .i64 xh, .int .i64 (xs + ys)] 65))
       have ho8 := ho7.below ((Below.refl q7.heap.size q7).alloc (Nat.le_refl _) (Obj.cells #[.int .i64 xh, .int .i64 (xs + ys)] 65))
       have ht8 := ht7.below ((Below.refl q7.heap.size q7).alloc (Nat.le_refl _) (Obj.cells #[.int .i64 xh, .int .i64 (xs + ys)] 65))
       have hz2' := hk7.2.1.1.1
       have hz3 := hk7.2.2.1.1.1
       refine hK.out _ _ (K5 (w := w) (ta := ta) (tl := tl) (tc := tc) hk8 ho8 ht8) (fun _ => ?_)
       clear hK K
       try simp only [Act.put, SL]
       refine wpAnyH_ready (rs := [7]) (by kernel_rfl) (by simp) ?_
       refine AllReadyH.cons (o := { dst := some 45, op := Op.call { callee := Callee.builtin Builtin.append, args := #[Operand.tmp 38, Operand.tmp 44], argTypes := #[30, 30] }, type := 30, pos := "l07_window.go:74", after := #[{ on := 0, ground := Ground.data }, { on := 6, ground := Ground.data }, { on := 5, ground := Ground.chain }], guard := none }) rfl (fun K hK => ?_) AllReadyH.nil
       refine step_append_own rfl _ _ 30 rfl (w.heap.size + 3) 65 i0 (.agg #[.int .i64 0, .int .i64 0]) 2 16 Tryd.underlying30 hi hz0 hz1 hz2 rfl sz3 _ _ _ rfl hk8.2.2.2 ⟨q7.heap.size, 0, none⟩ 1 1 [.int .i64 xh, .int .i64 (xs + ys)] rfl rfl (h2_cells _ _ _) (h2_one _ _) sz1 sz2 (by simp; omega) ?_
       intro v' w4 hown hgrow hne
       have hk9 : KWH w ta tl tc (P ++ [⟨xh, (xs + ys)⟩]) v' w4 := @KWH.app w ta tl tc _ _ _ _ _ _ _ hk8 hown hgrow
       have ho9 := hblk_grown ho8 hgrow (fun e => (HGN.out _ e.symm).1 rfl)
       have ht9 := hblk_grown ht8 hgrow (fun e => (HGN.out _ e.symm).2 rfl)
       refine hK.out _ _ (K5 (w := w) (ta := ta) (tl := tl) (tc := tc) hk9 ho9 ht9) (fun _ => ?_)
       clear hK K
       try simp only [Act.put, SL]
       refine tk (i := 12) (oi := { dst := some 5, op := Op.assign (Operand.tmp 45), type := 30, pos := "l07_window.go:74", after := #[{ on := 7, ground := Ground.data }, { on := 7, ground := Ground.chain }, { on := 0, ground := Ground.phase }, { on := 1, ground := Ground.phase }, { on := 2, ground := Ground.phase }, { on := 3, ground := Ground.phase }, { on := 4, ground := Ground.phase }, { on := 5, ground := Ground.phase }, { on := 6, ground := Ground.phase }, { on := 7, ground := Ground.phase }, { on := 8, ground := Ground.textOnly Departure.lateStores }, { on := 9, ground := Ground.textOnly Departure.lateStoresUnsure }, { on := 10, ground := Ground.textOnly Departure.lateStores }, { on := 11, ground := Ground.textOnly Departure.lateStoresUnsure }], guard := none }) (v := ?_) ?_ ?_
       rotate_left
       ·(intro w hSw; (try dsimp only at hSw); go_simp) <;> with_reducible rfl
       try simp only [Act.put, SL]
       refine tk (i := 13) (oi := { dst := some 6, op := Op.assign (Operand.tmp 47), type := 30, pos := "l07_window.go:74", after := #[{ on := 9, ground := Ground.data }, { on := 12, ground := Ground.chain }, { on := 0, ground := Ground.phase }, { on := 1, ground := Ground.phase }, { on := 2, ground := Ground.phase }, { on := 3, ground := Ground.phase }, { on := 4, ground := Ground.phase }, { on := 5, ground := Ground.phase }, { on := 6, ground := Ground.phase }, { on := 7, ground := Ground.phase }, { on := 8, ground := Ground.phase }, { on := 9, ground := Ground.phase }, { on := 10, ground := Ground.textOnly Departure.lateStores }, { on := 11, ground := Ground.textOnly Departure.lateStoresUnsure }, { on := 12, ground := Ground.phase }], guard := none }) (v := ?_) ?_ ?_
       rotate_left
       ·(intro w hSw; (try dsimp only at hSw); go_simp) <;> with_reducible rfl
       try simp only [Act.put, SL]
       refine tk (i := 14) (oi := { dst := some 7, op := Op.assign (Operand.tmp 49), type := 30, pos := "l07_window.go:74", after := #[{ on := 11, ground := Ground.data }, { on := 13, ground := Ground.chain }, { on := 0, ground := Ground.phase }, { on := 1, ground := Ground.phase }, { on := 2, ground := Ground.phase }, { on := 3, ground := Ground.phase }, { on := 4, ground := Ground.phase }, { on := 5, ground := Ground.phase }, { on := 6, ground := Ground.phase }, { on := 7, ground := Ground.phase }, { on := 8, ground := Ground.phase }, { on := 9, ground := Ground.phase }, { on := 10, ground := Ground.phase }, { on := 11, ground := Ground.phase }, { on := 12, ground := Ground.phase }, { on := 13, ground := Ground.phase }], guard := none }) (v := ?_) ?_ ?_
       rotate_left
       ·(intro w hSw; (try dsimp only at hSw); go_simp) <;> with_reducible rfl
       try simp only [Act.put, SL]
       refine wpAnyH_done (by kernel_rfl) ?_ _
       have HKF := hid_intro hk9
       clear hk9 hk8 ho8 ht8 ho9 ht9 hown hgrow hne hz2' hz3 HKd HOd HTd
       go_wp2_with fail
       go_roundw
       case rel => exact ⟨P ++ [(⟨xh, xs + ys⟩ : H)], L, Q, hid_intro (KL1.out (by first | rfl | trivial)), hid_intro (KR1.out (by first | rfl | trivial)), by have := HLn.out; have := HRn.out; simp; omega, hid_intro (fun z hz => HSL.out z (List.mem_cons_of_mem _ hz)), hid_intro (fun z hz => HSQ.out z (List.mem_cons_of_mem _ hz)), hid_intro (by rw [← HR.out, List.append_assoc]; exact congrArg _ HMG.out.symm), HKF⟩
       case measure => first | (simp [slen]; done) | (simp [slen]; omega)
      ·have hr1 : (1 : Int) ≤ (rc : Int) := by omega
       have hr2 : (1 : Int) ≤ (rl : Int) + 1 := by omega
       have HKd : Hid (KWH w ta tl tc P bv W2.drew) := hid_intro (@KWH.below w ta tl tc _ _ _ _ HK2.out (Below.refl _ _).drew)
       have HOd := hid_intro (HO2.out.below (Below.refl _ _).drew)
       have HTd := hid_intro (HT2.out.below (Below.refl _ _).drew)
       clear HK2 HO2 HT2
       refine wp_region_held_drew (S := (fun W => Below w.heap.size w W ∧ w.heap.size < W.heap.size ∧ OB < W.heap.size ∧ TB < W.heap.size ∧ W.cell? ⟨w.heap.size, 1, none⟩ = some (.func (.func 90) #[] #[]) ∧ W.cell? ⟨w.heap.size, 2, none⟩ = some (.func (.func 91) #[] #[]) ∧ W.cell? ⟨OB, 0, none⟩ = some (.int .i64 xh) ∧ W.cell? ⟨OB, 1, none⟩ = some (.int .i64 xs) ∧ W.cell? ⟨TB, 0, none⟩ = some (.int .i64 yh) ∧ W.cell? ⟨TB, 1, none⟩ = some (.int .i64 ys))) (by kernel_rfl) (K5 (w := w) (ta := ta) (tl := tl) (tc := tc) HKd.out HOd.out HTd.out) (fun hHeld => ?_)
       obtain ⟨Wd, hWd⟩ : ∃ Wd, Wd = W2.drew := ⟨_, rfl⟩
       rw [← hWd] at HKd HOd HTd ⊢
       try rw [← hWd] at hHeld
       clear hWd
       refine tk (i := 0) (oi := { dst := some 38, op := Op.move (Operand.tmp 5), type := 30, pos := "l07_window.go:74", after := #[], guard := none }) (v := ?_) ?_ ?_
       rotate_left
       ·(intro w hSw; (try dsimp only at hSw); go_simp) <;> with_reducible rfl
       try simp only [Act.put, SL]
       refine tk (i := 1) (oi := { dst := some 39, op := Op.fieldAddr 95 (Operand.tmp 2) 2, type := 0, pos := "l07_window.go:74", after := #[], guard := none }) (v := ?_) ?_ ?_
       rotate_left
       ·(intro w hSw; (try dsimp only at hSw); go_simp) <;> with_reducible rfl
       try simp only [Act.put, SL]
       refine tk (i := 2) (oi := { dst := some 40, op := Op.load 93 (Operand.tmp 39), type := 93, pos := "l07_window.go:74", after := #[{ on := 1, ground := Ground.data }], guard := none }) (v := ?_) ?_ ?_
       rotate_left
       ·(intro w hSw; (try dsimp only at hSw); go_simp) <;> with_reducible rfl
       try simp only [Act.put, SL]
       refine tk (i := 3) (oi := { dst := some 41, op := Op.load 65 (Operand.tmp 8), type := 65, pos := "l07_window.go:74", after := #[], guard := none }) (v := ?_) ?_ ?_
       rotate_left
       ·(intro w hSw; (try dsimp only at hSw); go_simp) <;> with_reducible rfl
       try simp only [Act.put, SL]
       refine tk (i := 4) (oi := { dst := some 42, op := Op.load 65 (Operand.tmp 9), type := 65, pos := "l07_window.go:74", after := #[], guard := none }) (v := ?_) ?_ ?_
       rotate_left
       ·(intro w hSw; (try dsimp only at hSw); go_simp) <;> with_reducible rfl
       try simp only [Act.put, SL]
       refine tk (i := 8) (oi := { dst := some 46, op := Op.move (Operand.tmp 6), type := 30, pos := "l07_window.go:74", after := #[], guard := none }) (v := ?_) ?_ ?_
       rotate_left
       ·(intro w hSw; (try dsimp only at hSw); go_simp) <;> with_reducible rfl
       try simp only [Act.put, SL]
       refine tk (i := 9) (oi := { dst := some 47, op := Op.slice 30 (Operand.tmp 46) (some (Operand.const (Value.int IntKind.i64 1))) none none, type := 30, pos := "l07_window.go:74", after := #[{ on := 8, ground := Ground.data }], guard := none }) (v := ?_) ?_ ?_
       rotate_left
       ·(intro w hSw; (try dsimp only at hSw); go_simp) <;> with_reducible rfl
       try simp only [Act.put, SL]
       refine tk (i := 10) (oi := { dst := some 48, op := Op.move (Operand.tmp 7), type := 30, pos := "l07_window.go:74", after := #[], guard := none }) (v := ?_) ?_ ?_
       rotate_left
       ·(intro w hSw; (try dsimp only at hSw); go_simp) <;> with_reducible rfl
       try simp only [Act.put, SL]
       refine tk (i := 11) (oi := { dst := some 49, op := Op.slice 30 (Operand.tmp 48) (some (Operand.const (Value.int IntKind.i64 1))) none none, type := 30, pos := "l07_window.go:74", after := #[{ on := 10, ground := Ground.data }], guard := none }) (v := ?_) ?_ ?_
       rotate_left
       ·(intro w hSw; (try dsimp only at hSw); go_simp) <;> with_reducible rfl
       try simp only [Act.put, SL]
       refine wpAnyH_ready (rs := [5]) (by kernel_rfl) (by simp) ?_
       refine AllReadyH.cons (o := { dst := some 43, op := Op.call { callee := Callee.value (Operand.tmp 40), args := #[Operand.tmp 41, Operand.tmp 42], argTypes := #[65, 65] }, type := 65, pos := "l07_window.go:74", after := #[{ on := 2, ground := Ground.data }, { on := 3, ground := Ground.data }, { on := 4, ground := Ground.data }], guard := none }) rfl (fun K hK => ?_) AllReadyH.nil
       go_simp
       go_at_call 91
       refine (hmeet ⟨xh, xs⟩ ⟨yh, ys⟩ _ ⟨sx1, sx2⟩ ⟨sy1, sy2⟩).mono ?_
       rintro e q7 ⟨rfl, hq7⟩
       try go_wp2_with fail
       have hk7 := @KWH.below w ta tl tc _ _ _ _ HKd.out hq7
       have ho7 := HOd.out.below hq7
       have ht7 := HTd.out.below hq7
       unfold addH
       dsimp only
       refine hK.out _ _ (K5 (w := w) (ta := ta) (tl := tl) (tc := tc) hk7 ho7 ht7) (fun _ => ?_)
       clear hK K
       try simp only [Act.put, SL]
       refine wpAnyH_ready (rs := [6]) (by kernel_rfl) (by simp) ?_
       refine AllReadyH.cons (o := { dst := some 44, op := Op.buildSlice 30 1 #[(0, Operand.tmp 43)], type := 30, pos := "l07_window.go:74", after := #[{ on := 5, ground := Ground.data }], guard := none }) rfl (fun K hK => ?_) AllReadyH.nil
       go_simp
       try go_wp2_with fail
       have hk8 := @KWH.below w ta tl tc _ _ _ _ hk7 ((Below.refl q7.heap.size q7).alloc (Nat.le_refl _) (Obj.cells #[.int .i64 xh, .int .i64 (xs + ys)] 65))
       have ho8 := ho7.below ((Below.refl q7.heap.size q7).alloc (Nat.le_refl _) (Obj.cells #[.int .i64 xh, .int .i64 (xs + ys)] 65))
       have ht8 := ht7.below ((Below.refl q7.heap.size q7).alloc (Nat.le_refl _) (Obj.cells #[.int .i64 xh, .int .i64 (xs + ys)] 65))
       have hz2' := hk7.2.1.1.1
       have hz3 := hk7.2.2.1.1.1
       refine hK.out _ _ (K5 (w := w) (ta := ta) (tl := tl) (tc := tc) hk8 ho8 ht8) (fun _ => ?_)
       clear hK K
       try simp only [Act.put, SL]
       refine wpAnyH_ready (rs := [7]) (by kernel_rfl) (by simp) ?_
       refine AllReadyH.cons (o := { dst := some 45, op := Op.call { callee := Callee.builtin Builtin.append, args := #[Operand.tmp 38, Operand.tmp 44], argTypes := #[30, 30] }, type := 30, pos := "l07_window.go:74", after := #[{ on := 0, ground := Ground.data }, { on := 6, ground := Ground.data }, { on := 5, ground := Ground.chain }], guard := none }) rfl (fun K hK => ?_) AllReadyH.nil
       refine step_append_own rfl _ _ 30 rfl (w.heap.size + 3) 65 i0 (.agg #[.int .i64 0, .int .i64 0]) 2 16 Tryd.underlying30 hi hz0 hz1 hz2 rfl sz3 _ _ _ rfl hk8.2.2.2 ⟨q7.heap.size, 0, none⟩ 1 1 [.int .i64 xh, .int .i64 (xs + ys)] rfl rfl (h2_cells _ _ _) (h2_one _ _) sz1 sz2 (by simp; omega) ?_
       intro v' w4 hown hgrow hne
       have hk9 : KWH w ta tl tc (P ++ [⟨xh, (xs + ys)⟩]) v' w4 := @KWH.app w ta tl tc _ _ _ _ _ _ _ hk8 hown hgrow
       have ho9 := hblk_grown ho8 hgrow (fun e => (HGN.out _ e.symm).1 rfl)
       have ht9 := hblk_grown ht8 hgrow (fun e => (HGN.out _ e.symm).2 rfl)
       refine hK.out _ _ (K5 (w := w) (ta := ta) (tl := tl) (tc := tc) hk9 ho9 ht9) (fun _ => ?_)
       clear hK K
       try simp only [Act.put, SL]
       refine tk (i := 12) (oi := { dst := some 5, op := Op.assign (Operand.tmp 45), type := 30, pos := "l07_window.go:74", after := #[{ on := 7, ground := Ground.data }, { on := 7, ground := Ground.chain }, { on := 0, ground := Ground.phase }, { on := 1, ground := Ground.phase }, { on := 2, ground := Ground.phase }, { on := 3, ground := Ground.phase }, { on := 4, ground := Ground.phase }, { on := 5, ground := Ground.phase }, { on := 6, ground := Ground.phase }, { on := 7, ground := Ground.phase }, { on := 8, ground := Ground.textOnly Departure.lateStores }, { on := 9, ground := Ground.textOnly Departure.lateStoresUnsure }, { on := 10, ground := Ground.textOnly Departure.lateStores }, { on := 11, ground := Ground.textOnly Departure.lateStoresUnsure }], guard := none }) (v := ?_) ?_ ?_
       rotate_left
       ·(intro w hSw; (try dsimp only at hSw); go_simp) <;> with_reducible rfl
       try simp only [Act.put, SL]
       refine tk (i := 13) (oi := { dst := some 6, op := Op.assign (Operand.tmp 47), type := 30, pos := "l07_window.go:74", after := #[{ on := 9, ground := Ground.data }, { on := 12, ground := Ground.chain }, { on := 0, ground := Ground.phase }, { on := 1, ground := Ground.phase }, { on := 2, ground := Ground.phase }, { on := 3, ground := Ground.phase }, { on := 4, ground := Ground.phase }, { on := 5, ground := Ground.phase }, { on := 6, ground := Ground.phase }, { on := 7, ground := Ground.phase }, { on := 8, ground := Ground.phase }, { on := 9, ground := Ground.phase }, { on := 10, ground := Ground.textOnly Departure.lateStores }, { on := 11, ground := Ground.textOnly Departure.lateStoresUnsure }, { on := 12, ground := Ground.phase }], guard := none }) (v := ?_) ?_ ?_
       rotate_left
       ·(intro w hSw; (try dsimp only at hSw); go_simp) <;> with_reducible rfl
       try simp only [Act.put, SL]
       refine tk (i := 14) (oi := { dst := some 7, op := Op.assign (Operand.tmp 49), type := 30, pos := "l07_window.go:74", after := #[{ on := 11, ground := Ground.data }, { on := 13, ground := Ground.chain }, { on := 0, ground := Ground.phase }, { on := 1, ground := Ground.phase }, { on := 2, ground := Ground.phase }, { on := 3, ground := Ground.phase }, { on := 4, ground := Ground.phase }, { on := 5, ground := Ground.phase }, { on := 6, ground := Ground.phase }, { on := 7, ground := Ground.phase }, { on := 8, ground := Ground.phase }, { on := 9, ground := Ground.phase }, { on := 10, ground := Ground.phase }, { on := 11, ground := Ground.phase }, { on := 12, ground := Ground.phase }, { on := 13, ground := Ground.phase }], guard := none }) (v := ?_) ?_ ?_
       rotate_left
       ·(intro w hSw; (try dsimp only at hSw); go_simp) <;> with_reducible rfl
       try simp only [Act.put, SL]
       refine wpAnyH_done (by kernel_rfl) ?_ _
       have HKF := hid_intro hk9
       clear hk9 hk8 ho8 ht8 ho9 ht9 hown hgrow hne hz2' hz3 HKd HOd HTd
       go_wp2_with fail
       go_roundw
       case rel => exact ⟨P ++ [(⟨xh, xs + ys⟩ : H)], L, Q, hid_intro (KL1.out (by first | rfl | trivial)), hid_intro (KR2.out hrc), by have := HLn.out; have := HRn.out; simp; omega, hid_intro (fun z hz => HSL.out z (List.mem_cons_of_mem _ hz)), hid_intro (fun z hz => HSQ.out z (List.mem_cons_of_mem _ hz)), hid_intro (by rw [← HR.out, List.append_assoc]; exact congrArg _ HMG.out.symm), HKF⟩
       case measure => first | (simp [slen]; done) | (simp [slen]; omega)
     ·have hl1 : (1 : Int) ≤ (lc : Int) := by omega
      have hl2 : (1 : Int) ≤ (ll : Int) + 1 := by omega
      by_cases hrc : rc = 1
      ·have hr1 : rc = 1 := hrc
       obtain rfl : rl = 0 := by omega
       subst hr1
       have HKd : Hid (KWH w ta tl tc P bv W2.drew) := hid_intro (@KWH.below w ta tl tc _ _ _ _ HK2.out (Below.refl _ _).drew)
       have HOd := hid_intro (HO2.out.below (Below.refl _ _).drew)
       have HTd := hid_intro (HT2.out.below (Below.refl _ _).drew)
       clear HK2 HO2 HT2
       refine wp_region_held_drew (S := (fun W => Below w.heap.size w W ∧ w.heap.size < W.heap.size ∧ OB < W.heap.size ∧ TB < W.heap.size ∧ W.cell? ⟨w.heap.size, 1, none⟩ = some (.func (.func 90) #[] #[]) ∧ W.cell? ⟨w.heap.size, 2, none⟩ = some (.func (.func 91) #[] #[]) ∧ W.cell? ⟨OB, 0, none⟩ = some (.int .i64 xh) ∧ W.cell? ⟨OB, 1, none⟩ = some (.int .i64 xs) ∧ W.cell? ⟨TB, 0, none⟩ = some (.int .i64 yh) ∧ W.cell? ⟨TB, 1, none⟩ = some (.int .i64 ys))) (by kernel_rfl) (K5 (w := w) (ta := ta) (tl := tl) (tc := tc) HKd.out HOd.out HTd.out) (fun hHeld => ?_)
       obtain ⟨Wd, hWd⟩ : ∃ Wd, Wd = W2.drew := ⟨_, rfl⟩
       rw [← hWd] at HKd HOd HTd ⊢
       try rw [← hWd] at hHeld
       clear hWd
       refine tk (i := 0) (oi := { dst := some 38, op := Op.move (Operand.tmp 5), type := 30, pos := "l07_window.go:74", after := #[], guard := none }) (v := ?_) ?_ ?_
       rotate_left
       ·(intro w hSw; (try dsimp only at hSw); go_simp) <;> with_reducible rfl
       try simp only [Act.put, SL]
       refine tk (i := 1) (oi := { dst := some 39, op := Op.fieldAddr 95 (Operand.tmp 2) 2, type := 0, pos := "l07_window.go:74", after := #[], guard := none }) (v := ?_) ?_ ?_
       rotate_left
       ·(intro w hSw; (try dsimp only at hSw); go_simp) <;> with_reducible rfl
       try simp only [Act.put, SL]
       refine tk (i := 2) (oi := { dst := some 40, op := Op.load 93 (Operand.tmp 39), type := 93, pos := "l07_window.go:74", after := #[{ on := 1, ground := Ground.data }], guard := none }) (v := ?_) ?_ ?_
       rotate_left
       ·(intro w hSw; (try dsimp only at hSw); go_simp) <;> with_reducible rfl
       try simp only [Act.put, SL]
       refine tk (i := 3) (oi := { dst := some 41, op := Op.load 65 (Operand.tmp 8), type := 65, pos := "l07_window.go:74", after := #[], guard := none }) (v := ?_) ?_ ?_
       rotate_left
       ·(intro w hSw; (try dsimp only at hSw); go_simp) <;> with_reducible rfl
       try simp only [Act.put, SL]
       refine tk (i := 4) (oi := { dst := some 42, op := Op.load 65 (Operand.tmp 9), type := 65, pos := "l07_window.go:74", after := #[], guard := none }) (v := ?_) ?_ ?_
       rotate_left
       ·(intro w hSw; (try dsimp only at hSw); go_simp) <;> with_reducible rfl
       try simp only [Act.put, SL]
       refine tk (i := 8) (oi := { dst := some 46, op := Op.move (Operand.tmp 6), type := 30, pos := "l07_window.go:74", after := #[], guard := none }) (v := ?_) ?_ ?_
       rotate_left
       ·(intro w hSw; (try dsimp only at hSw); go_simp) <;> with_reducible rfl
       try simp only [Act.put, SL]
       refine tk (i := 9) (oi := { dst := some 47, op := Op.slice 30 (Operand.tmp 46) (some (Operand.const (Value.int IntKind.i64 1))) none none, type := 30, pos := "l07_window.go:74", after := #[{ on := 8, ground := Ground.data }], guard := none }) (v := ?_) ?_ ?_
       rotate_left
       ·(intro w hSw; (try dsimp only at hSw); go_simp) <;> with_reducible rfl
       try simp only [Act.put, SL]
       refine tk (i := 10) (oi := { dst := some 48, op := Op.move (Operand.tmp 7), type := 30, pos := "l07_window.go:74", after := #[], guard := none }) (v := ?_) ?_ ?_
       rotate_left
       ·(intro w hSw; (try dsimp only at hSw); go_simp) <;> with_reducible rfl
       try simp only [Act.put, SL]
       refine tk (i := 11) (oi := { dst := some 49, op := Op.slice 30 (Operand.tmp 48) (some (Operand.const (Value.int IntKind.i64 1))) none none, type := 30, pos := "l07_window.go:74", after := #[{ on := 10, ground := Ground.data }], guard := none }) (v := ?_) ?_ ?_
       rotate_left
       ·(intro w hSw; (try dsimp only at hSw); go_simp) <;> with_reducible rfl
       try simp only [Act.put, SL]
       refine wpAnyH_ready (rs := [5]) (by kernel_rfl) (by simp) ?_
       refine AllReadyH.cons (o := { dst := some 43, op := Op.call { callee := Callee.value (Operand.tmp 40), args := #[Operand.tmp 41, Operand.tmp 42], argTypes := #[65, 65] }, type := 65, pos := "l07_window.go:74", after := #[{ on := 2, ground := Ground.data }, { on := 3, ground := Ground.data }, { on := 4, ground := Ground.data }], guard := none }) rfl (fun K hK => ?_) AllReadyH.nil
       go_simp
       go_at_call 91
       refine (hmeet ⟨xh, xs⟩ ⟨yh, ys⟩ _ ⟨sx1, sx2⟩ ⟨sy1, sy2⟩).mono ?_
       rintro e q7 ⟨rfl, hq7⟩
       try go_wp2_with fail
       have hk7 := @KWH.below w ta tl tc _ _ _ _ HKd.out hq7
       have ho7 := HOd.out.below hq7
       have ht7 := HTd.out.below hq7
       unfold addH
       dsimp only
       refine hK.out _ _ (K5 (w := w) (ta := ta) (tl := tl) (tc := tc) hk7 ho7 ht7) (fun _ => ?_)
       clear hK K
       try simp only [Act.put, SL]
       refine wpAnyH_ready (rs := [6]) (by kernel_rfl) (by simp) ?_
       refine AllReadyH.cons (o := { dst := some 44, op := Op.buildSlice 30 1 #[(0, Operand.tmp 43)], type := 30, pos := "l07_window.go:74", after := #[{ on := 5, ground := Ground.data }], guard := none }) rfl (fun K hK => ?_) AllReadyH.nil
       go_simp
       try go_wp2_with fail
       have hk8 := @KWH.below w ta tl tc _ _ _ _ hk7 ((Below.refl q7.heap.size q7).alloc (Nat.le_refl _) (Obj.cells #[.int .i64 xh, .int .i64 (xs + ys)] 65))
       have ho8 := ho7.below ((Below.refl q7.heap.size q7).alloc (Nat.le_refl _) (Obj.cells #[.int .i64 xh, .int .i64 (xs + ys)] 65))
       have ht8 := ht7.below ((Below.refl q7.heap.size q7).alloc (Nat.le_refl _) (Obj.cells #[.int .i64 xh, .int .i64 (xs + ys)] 65))
       have hz2' := hk7.2.1.1.1
       have hz3 := hk7.2.2.1.1.1
       refine hK.out _ _ (K5 (w := w) (ta := ta) (tl := tl) (tc := tc) hk8 ho8 ht8) (fun _ => ?_)
       clear hK K
       try simp only [Act.put, SL]
       refine wpAnyH_ready (rs := [7]) (by kernel_rfl) (by simp) ?_
       refine AllReadyH.cons (o := { dst := some 45, op := Op.call { callee := Callee.builtin Builtin.append, args := #[Operand.tmp 38, Operand.tmp 44], argTypes := #[30, 30] }, type := 30, pos := "l07_window.go:74", after := #[{ on := 0, ground := Ground.data }, { on := 6, ground := Ground.data }, { on := 5, ground := Ground.chain }], guard := none }) rfl (fun K hK => ?_) AllReadyH.nil
       refine step_append_own rfl _ _ 30 rfl (w.heap.size + 3) 65 i0 (.agg #[.int .i64 0, .int .i64 0]) 2 16 Tryd.underlying30 hi hz0 hz1 hz2 rfl sz3 _ _ _ rfl hk8.2.2.2 ⟨q7.heap.size, 0, none⟩ 1 1 [.int .i64 xh, .int .i64 (xs + ys)] rfl rfl (h2_cells _ _ _) (h2_one _ _) sz1 sz2 (by simp; omega) ?_
       intro v' w4 hown hgrow hne
       have hk9 : KWH w ta tl tc (P ++ [⟨xh, (xs + ys)⟩]) v' w4 := @KWH.app w ta tl tc _ _ _ _ _ _ _ hk8 hown hgrow
       have ho9 := hblk_grown ho8 hgrow (fun e => (HGN.out _ e.symm).1 rfl)
       have ht9 := hblk_grown ht8 hgrow (fun e => (HGN.out _ e.symm).2 rfl)
       refine hK.out _ _ (K5 (w := w) (ta := ta) (tl := tl) (tc := tc) hk9 ho9 ht9) (fun _ => ?_)
       clear hK K
       try simp only [Act.put, SL]
       refine tk (i := 12) (oi := { dst := some 5, op := Op.assign (Operand.tmp 45), type := 30, pos := "l07_window.go:74", after := #[{ on := 7, ground := Ground.data }, { on := 7, ground := Ground.chain }, { on := 0, ground := Ground.phase }, { on := 1, ground := Ground.phase }, { on := 2, ground := Ground.phase }, { on := 3, ground := Ground.phase }, { on := 4, ground := Ground.phase }, { on := 5, ground := Ground.phase }, { on := 6, ground := Ground.phase }, { on := 7, ground := Ground.phase }, { on := 8, ground := Ground.textOnly Departure.lateStores }, { on := 9, ground := Ground.textOnly Departure.lateStoresUnsure }, { on := 10, ground := Ground.textOnly Departure.lateStores }, { on := 11, ground := Ground.textOnly Departure.lateStoresUnsure }], guard := none }) (v := ?_) ?_ ?_
       rotate_left
       ·(intro w hSw; (try dsimp only at hSw); go_simp) <;> with_reducible rfl
       try simp only [Act.put, SL]
       refine tk (i := 13) (oi := { dst := some 6, op := Op.assign (Operand.tmp 47), type := 30, pos := "l07_window.go:74", after := #[{ on := 9, ground := Ground.data }, { on := 12, ground := Ground.chain }, { on := 0, ground := Ground.phase }, { on := 1, ground := Ground.phase }, { on := 2, ground := Ground.phase }, { on := 3, ground := Ground.phase }, { on := 4, ground := Ground.phase }, { on := 5, ground := Ground.phase }, { on := 6, ground := Ground.phase }, { on := 7, ground := Ground.phase }, { on := 8, ground := Ground.phase }, { on := 9, ground := Ground.phase }, { on := 10, ground := Ground.textOnly Departure.lateStores }, { on := 11, ground := Ground.textOnly Departure.lateStoresUnsure }, { on := 12, ground := Ground.phase }], guard := none }) (v := ?_) ?_ ?_
       rotate_left
       ·(intro w hSw; (try dsimp only at hSw); go_simp) <;> with_reducible rfl
       try simp only [Act.put, SL]
       refine tk (i := 14) (oi := { dst := some 7, op := Op.assign (Operand.tmp 49), type := 30, pos := "l07_window.go:74", after := #[{ on := 11, ground := Ground.data }, { on := 13, ground := Ground.chain }, { on := 0, ground := Ground.phase }, { on := 1, ground := Ground.phase }, { on := 2, ground := Ground.phase }, { on := 3, ground := Ground.phase }, { on := 4, ground := Ground.phase }, { on := 5, ground := Ground.phase }, { on := 6, ground := Ground.phase }, { on := 7, ground := Ground.phase }, { on := 8, ground := Ground.phase }, { on := 9, ground := Ground.phase }, { on := 10, ground := Ground.phase }, { on := 11, ground := Ground.phase }, { on := 12, ground := Ground.phase }, { on := 13, ground := Ground.phase }], guard := none }) (v := ?_) ?_ ?_
       rotate_left
       ·(intro w hSw; (try dsimp only at hSw); go_simp) <;> with_reducible rfl
       try simp only [Act.put, SL]
       refine wpAnyH_done (by kernel_rfl) ?_ _
       have HKF := hid_intro hk9
       clear hk9 hk8 ho8 ht8 ho9 ht9 hown hgrow hne hz2' hz3 HKd HOd HTd
       go_wp2_with fail
       go_roundw
       case rel => exact ⟨P ++ [(⟨xh, xs + ys⟩ : H)], L, Q, hid_intro (KL2.out hlc), hid_intro (KR1.out (by first | rfl | trivial)), by have := HLn.out; have := HRn.out; simp; omega, hid_intro (fun z hz => HSL.out z (List.mem_cons_of_mem _ hz)), hid_intro (fun z hz => HSQ.out z (List.mem_cons_of_mem _ hz)), hid_intro (by rw [← HR.out, List.append_assoc]; exact congrArg _ HMG.out.symm), HKF⟩
       case measure => first | (simp [slen]; done) | (simp [slen]; omega)
      ·have hr1 : (1 : Int) ≤ (rc : Int) := by omega
       have hr2 : (1 : Int) ≤ (rl : Int) + 1 := by omega
       have HKd : Hid (KWH w ta tl tc P bv W2.drew) := hid_intro (@KWH.below w ta tl tc _ _ _ _ HK2.out (Below.refl _ _).drew)
       have HOd := hid_intro (HO2.out.below (Below.refl _ _).drew)
       have HTd := hid_intro (HT2.out.below (Below.refl _ _).drew)
       clear HK2 HO2 HT2
       refine wp_region_held_drew (S := (fun W => Below w.heap.size w W ∧ w.heap.size < W.heap.size ∧ OB < W.heap.size ∧ TB < W.heap.size ∧ W.cell? ⟨w.heap.size, 1, none⟩ = some (.func (.func 90) #[] #[]) ∧ W.cell? ⟨w.heap.size, 2, none⟩ = some (.func (.func 91) #[] #[]) ∧ W.cell? ⟨OB, 0, none⟩ = some (.int .i64 xh) ∧ W.cell? ⟨OB, 1, none⟩ = some (.int .i64 xs) ∧ W.cell? ⟨TB, 0, none⟩ = some (.int .i64 yh) ∧ W.cell? ⟨TB, 1, none⟩ = some (.int .i64 ys))) (by kernel_rfl) (K5 (w := w) (ta := ta) (tl := tl) (tc := tc) HKd.out HOd.out HTd.out) (fun hHeld => ?_)
       obtain ⟨Wd, hWd⟩ : ∃ Wd, Wd = W2.drew := ⟨_, rfl⟩
       rw [← hWd] at HKd HOd HTd ⊢
       try rw [← hWd] at hHeld
       clear hWd
       refine tk (i := 0) (oi := { dst := some 38, op := Op.move (Operand.tmp 5), type := 30, pos := "l07_window.go:74", after := #[], guard := none }) (v := ?_) ?_ ?_
       rotate_left
       ·(intro w hSw; (try dsimp only at hSw); go_simp) <;> with_reducible rfl
       try simp only [Act.put, SL]
       refine tk (i := 1) (oi := { dst := some 39, op := Op.fieldAddr 95 (Operand.tmp 2) 2, type := 0, pos := "l07_window.go:74", after := #[], guard := none }) (v := ?_) ?_ ?_
       rotate_left
       ·(intro w hSw; (try dsimp only at hSw); go_simp) <;> with_reducible rfl
       try simp only [Act.put, SL]
       refine tk (i := 2) (oi := { dst := some 40, op := Op.load 93 (Operand.tmp 39), type := 93, pos := "l07_window.go:74", after := #[{ on := 1, ground := Ground.data }], guard := none }) (v := ?_) ?_ ?_
       rotate_left
       ·(intro w hSw; (try dsimp only at hSw); go_simp) <;> with_reducible rfl
       try simp only [Act.put, SL]
       refine tk (i := 3) (oi := { dst := some 41, op := Op.load 65 (Operand.tmp 8), type := 65, pos := "l07_window.go:74", after := #[], guard := none }) (v := ?_) ?_ ?_
       rotate_left
       ·(intro w hSw; (try dsimp only at hSw); go_simp) <;> with_reducible rfl
       try simp only [Act.put, SL]
       refine tk (i := 4) (oi := { dst := some 42, op := Op.load 65 (Operand.tmp 9), type := 65, pos := "l07_window.go:74", after := #[], guard := none }) (v := ?_) ?_ ?_
       rotate_left
       ·(intro w hSw; (try dsimp only at hSw); go_simp) <;> with_reducible rfl
       try simp only [Act.put, SL]
       refine tk (i := 8) (oi := { dst := some 46, op := Op.move (Operand.tmp 6), type := 30, pos := "l07_window.go:74", after := #[], guard := none }) (v := ?_) ?_ ?_
       rotate_left
       ·(intro w hSw; (try dsimp only at hSw); go_simp) <;> with_reducible rfl
       try simp only [Act.put, SL]
       refine tk (i := 9) (oi := { dst := some 47, op := Op.slice 30 (Operand.tmp 46) (some (Operand.const (Value.int IntKind.i64 1))) none none, type := 30, pos := "l07_window.go:74", after := #[{ on := 8, ground := Ground.data }], guard := none }) (v := ?_) ?_ ?_
       rotate_left
       ·(intro w hSw; (try dsimp only at hSw); go_simp) <;> with_reducible rfl
       try simp only [Act.put, SL]
       refine tk (i := 10) (oi := { dst := some 48, op := Op.move (Operand.tmp 7), type := 30, pos := "l07_window.go:74", after := #[], guard := none }) (v := ?_) ?_ ?_
       rotate_left
       ·(intro w hSw; (try dsimp only at hSw); go_simp) <;> with_reducible rfl
       try simp only [Act.put, SL]
       refine tk (i := 11) (oi := { dst := some 49, op := Op.slice 30 (Operand.tmp 48) (some (Operand.const (Value.int IntKind.i64 1))) none none, type := 30, pos := "l07_window.go:74", after := #[{ on := 10, ground := Ground.data }], guard := none }) (v := ?_) ?_ ?_
       rotate_left
       ·(intro w hSw; (try dsimp only at hSw); go_simp) <;> with_reducible rfl
       try simp only [Act.put, SL]
       refine wpAnyH_ready (rs := [5]) (by kernel_rfl) (by simp) ?_
       refine AllReadyH.cons (o := { dst := some 43, op := Op.call { callee := Callee.value (Operand.tmp 40), args := #[Operand.tmp 41, Operand.tmp 42], argTypes := #[65, 65] }, type := 65, pos := "l07_window.go:74", after := #[{ on := 2, ground := Ground.data }, { on := 3, ground := Ground.data }, { on := 4, ground := Ground.data }], guard := none }) rfl (fun K hK => ?_) AllReadyH.nil
       go_simp
       go_at_call 91
       refine (hmeet ⟨xh, xs⟩ ⟨yh, ys⟩ _ ⟨sx1, sx2⟩ ⟨sy1, sy2⟩).mono ?_
       rintro e q7 ⟨rfl, hq7⟩
       try go_wp2_with fail
       have hk7 := @KWH.below w ta tl tc _ _ _ _ HKd.out hq7
       have ho7 := HOd.out.below hq7
       have ht7 := HTd.out.below hq7
       unfold addH
       dsimp only
       refine hK.out _ _ (K5 (w := w) (ta := ta) (tl := tl) (tc := tc) hk7 ho7 ht7) (fun _ => ?_)
       clear hK K
       try simp only [Act.put, SL]
       refine wpAnyH_ready (rs := [6]) (by kernel_rfl) (by simp) ?_
       refine AllReadyH.cons (o := { dst := some 44, op := Op.buildSlice 30 1 #[(0, Operand.tmp 43)], type := 30, pos := "l07_window.go:74", after := #[{ on := 5, ground := Ground.data }], guard := none }) rfl (fun K hK => ?_) AllReadyH.nil
       go_simp
       try go_wp2_with fail
       have hk8 := @KWH.below w ta tl tc _ _ _ _ hk7 ((Below.refl q7.heap.size q7).alloc (Nat.le_refl _) (Obj.cells #[.int .i64 xh, .int .i64 (xs + ys)] 65))
       have ho8 := ho7.below ((Below.refl q7.heap.size q7).alloc (Nat.le_refl _) (Obj.cells #[.int .i64 xh, .int .i64 (xs + ys)] 65))
       have ht8 := ht7.below ((Below.refl q7.heap.size q7).alloc (Nat.le_refl _) (Obj.cells #[.int .i64 xh, .int .i64 (xs + ys)] 65))
       have hz2' := hk7.2.1.1.1
       have hz3 := hk7.2.2.1.1.1
       refine hK.out _ _ (K5 (w := w) (ta := ta) (tl := tl) (tc := tc) hk8 ho8 ht8) (fun _ => ?_)
       clear hK K
       try simp only [Act.put, SL]
       refine wpAnyH_ready (rs := [7]) (by kernel_rfl) (by simp) ?_
       refine AllReadyH.cons (o := { dst := some 45, op := Op.call { callee := Callee.builtin Builtin.append, args := #[Operand.tmp 38, Operand.tmp 44], argTypes := #[30, 30] }, type := 30, pos := "l07_window.go:74", after := #[{ on := 0, ground := Ground.data }, { on := 6, ground := Ground.data }, { on := 5, ground := Ground.chain }], guard := none }) rfl (fun K hK => ?_) AllReadyH.nil
       refine step_append_own rfl _ _ 30 rfl (w.heap.size + 3) 65 i0 (.agg #[.int .i64 0, .int .i64 0]) 2 16 Tryd.underlying30 hi hz0 hz1 hz2 rfl sz3 _ _ _ rfl hk8.2.2.2 ⟨q7.heap.size, 0, none⟩ 1 1 [.int .i64 xh, .int .i64 (xs + ys)] rfl rfl (h2_cells _ _ _) (h2_one _ _) sz1 sz2 (by simp; omega) ?_
       intro v' w4 hown hgrow hne
       have hk9 : KWH w ta tl tc (P ++ [⟨xh, (xs + ys)⟩]) v' w4 := @KWH.app w ta tl tc _ _ _ _ _ _ _ hk8 hown hgrow
       have ho9 := hblk_grown ho8 hgrow (fun e => (HGN.out _ e.symm).1 rfl)
       have ht9 := hblk_grown ht8 hgrow (fun e => (HGN.out _ e.symm).2 rfl)
       refine hK.out _ _ (K5 (w := w) (ta := ta) (tl := tl) (tc := tc) hk9 ho9 ht9) (fun _ => ?_)
       clear hK K
       try simp only [Act.put, SL]
       refine tk (i := 12) (oi := { dst := some 5, op := Op.assign (Operand.tmp 45), type := 30, pos := "l07_window.go:74", after := #[{ on := 7, ground := Ground.data }, { on := 7, ground := Ground.chain }, { on := 0, ground := Ground.phase }, { on := 1, ground := Ground.phase }, { on := 2, ground := Ground.phase }, { on := 3, ground := Ground.phase }, { on := 4, ground := Ground.phase }, { on := 5, ground := Ground.phase }, { on := 6, ground := Ground.phase }, { on := 7, ground := Ground.phase }, { on := 8, ground := Ground.textOnly Departure.lateStores }, { on := 9, ground := Ground.textOnly Departure.lateStoresUnsure }, { on := 10, ground := Ground.textOnly Departure.lateStores }, { on := 11, ground := Ground.textOnly Departure.lateStoresUnsure }], guard := none }) (v := ?_) ?_ ?_
       rotate_left
       ·(intro w hSw; (try dsimp only at hSw); go_simp) <;> with_reducible rfl
       try simp only [Act.put, SL]
       refine tk (i := 13) (oi := { dst := some 6, op := Op.assign (Operand.tmp 47), type := 30, pos := "l07_window.go:74", after := #[{ on := 9, ground := Ground.data }, { on := 12, ground := Ground.chain }, { on := 0, ground := Ground.phase }, { on := 1, ground := Ground.phase }, { on := 2, ground := Ground.phase }, { on := 3, ground := Ground.phase }, { on := 4, ground := Ground.phase }, { on := 5, ground := Ground.phase }, { on := 6, ground := Ground.phase }, { on := 7, ground := Ground.phase }, { on := 8, ground := Ground.phase }, { on := 9, ground := Ground.phase }, { on := 10, ground := Ground.textOnly Departure.lateStores }, { on := 11, ground := Ground.textOnly Departure.lateStoresUnsure }, { on := 12, ground := Ground.phase }], guard := none }) (v := ?_) ?_ ?_
       rotate_left
       ·(intro w hSw; (try dsimp only at hSw); go_simp) <;> with_reducible rfl
       try simp only [Act.put, SL]
       refine tk (i := 14) (oi := { dst := some 7, op := Op.assign (Operand.tmp 49), type := 30, pos := "l07_window.go:74", after := #[{ on := 11, ground := Ground.data }, { on := 13, ground := Ground.chain }, { on := 0, ground := Ground.phase }, { on := 1, ground := Ground.phase }, { on := 2, ground := Ground.phase }, { on := 3, ground := Ground.phase }, { on := 4, ground := Ground.phase }, { on := 5, ground := Ground.phase }, { on := 6, ground := Ground.phase }, { on := 7, ground := Ground.phase }, { on := 8, ground := Ground.phase }, { on := 9, ground := Ground.phase }, { on := 10, ground := Ground.phase }, { on := 11, ground := Ground.phase }, { on := 12, ground := Ground.phase }, { on := 13, ground := Ground.phase }], guard := none }) (v := ?_) ?_ ?_
       rotate_left
       ·(intro w hSw; (try dsimp only at hSw); go_simp) <;> with_reducible rfl
       try simp only [Act.put, SL]
       refine wpAnyH_done (by kernel_rfl) ?_ _
       have HKF := hid_intro hk9
       clear hk9 hk8 ho8 ht8 ho9 ht9 hown hgrow hne hz2' hz3 HKd HOd HTd
       go_wp2_with fail
       go_roundw
       case rel => exact ⟨P ++ [(⟨xh, xs + ys⟩ : H)], L, Q, hid_intro (KL2.out hlc), hid_intro (KR2.out hrc), by have := HLn.out; have := HRn.out; simp; omega, hid_intro (fun z hz => HSL.out z (List.mem_cons_of_mem _ hz)), hid_intro (fun z hz => HSQ.out z (List.mem_cons_of_mem _ hz)), hid_intro (by rw [← HR.out, List.append_assoc]; exact congrArg _ HMG.out.symm), HKF⟩
       case measure => first | (simp [slen]; done) | (simp [slen]; omega)
end WinR
end Go.Proofs.YtnlmpejgiakepaaDoor
