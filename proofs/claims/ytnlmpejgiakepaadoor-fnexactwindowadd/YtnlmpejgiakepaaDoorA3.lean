/-
  Two rising lists of tags laid into one, the program's way. The conditions: at most 1048575 of both together; a list that is nil has no room, any other room for what it holds.
  Small parts of joining windows: how two numbers stand, two of one hour, the sums of both. The conditions: sums that are far from running over.
-/
import Derived.Deep.QuietTactic
import Derived.Laws.AppendOwnNone
import Derived.Laws.EntriesVeiled
import Derived.Test.YtnlmpejgiakepaaDoorA2
namespace Go.Proofs.YtnlmpejgiakepaaDoor
open Go.ChangeShapes Go.WideShapes Go.ChangeAt Go.RowKit
set_option linter.unusedVariables false
set_option linter.unusedSimpArgs false
namespace WinR
open RowG (MadeG Rws cellsAll cellsAll_len cellsAll_get own_made take_more getD_mem)
open CatR (Blk Blk.new)
open LtR
theorem bdN2 {B : Nat} {a w : World} (h : Below B a w) (n : Nat) : Below B a (w.drewN n) := ⟨h.os, h.tape, h.output, h.size, h.block⟩
/-- How many a list holds. -/
def slen : Value → Nat
 | .slice _ n _ => n
 | _ => 0
/-- A list's value: these texts, in the world at the start. -/
def Lst (w : World) (v : Value) (L : List ByteArray) : Prop := ∃ ao c, v = .slice ao L.length c ∧ SlOk ao L.length c ∧ Tgs ao L w
theorem Lst.tail {w : World} {ao : Option Addr} {c : Nat} {X : ByteArray} {L : List ByteArray} (hS : SlOk ao (X :: L).length c) (h : Tgs ao (X :: L) w) : ∃ b off, ao = some ⟨b, off, none⟩ ∧ b < w.heap.size ∧ w.cell? ⟨b, off, none⟩ = some (.string X) ∧ L.length + 1 ≤ c ∧ c ≤ maxLen ∧ (c = 1 → Lst w (.slice (some ⟨b, off, none⟩) 0 0) L) ∧ (¬ c = 1 → Lst w (.slice (some ⟨b, off + 1, none⟩) L.length (c - 1)) L) := by
 obtain ⟨b, off, rfl, hbl, c0⟩ := h.at 0 (by simp)
 rcases hS with ⟨h0, _⟩ | ⟨b', off', he, h1, h2⟩
 ·cases h0
 ·refine ⟨b, off, rfl, hbl, by simpa using c0, by simpa using h1, h2, fun hc => ?_, fun hc => ?_⟩
  ·have : L = [] := List.length_eq_zero_iff.1 (by simp at h1; omega)
   subst this
   exact ⟨_, _, rfl, .inr ⟨b, off, rfl, Nat.le_refl _, by unfold maxLen; omega⟩, .inl rfl⟩
  ·refine ⟨_, _, rfl, .inr ⟨b, off + 1, rfl, by simp at h1; omega, by omega⟩, ?_⟩
   rcases h with h | ⟨b', off', he, _, hc'⟩
   ·simp at h
   ·simp only [Option.some.injEq, Addr.mk.injEq, and_true] at he
    obtain ⟨rfl, rfl⟩ := he
    refine .inr ⟨b, off + 1, rfl, hbl, fun j hj => ?_⟩
    have := hc' (j + 1) (by simpa using hj)
    intro i hi
    have := this i hi
    simp only [List.getD_cons_succ] at this
    rw [← this]
    congr 2
    omega
/-- What stands in the round: the list's box, the answer's box, what was laid so far. -/
def KW (w : World) (ta : Option Addr) (tl tc : Nat) (P : List ByteArray) (bv : Value) (W : World) : Prop := Below w.heap.size w W ∧ BlkW w.heap.size [.slice ta tl tc, .func (.func 88) #[] #[], .func (.func 89) #[] #[]] W ∧ BlkW (w.heap.size + 2) [.slice none 0 0, .nilFunc, .nilFunc] W ∧ W.ownsRow (w.heap.size + 3) 9 1 bv P.length (cellsAll tcells P)
theorem KW.below {w : World} {ta : Option Addr} {tl tc : Nat} {P : List ByteArray} {bv : Value} {W W' : World} (h : KW w ta tl tc P bv W) (hb : Below W.heap.size W W') : KW w ta tl tc P bv W' :=
 ⟨h.1.trans (hb.mono h.1.size), h.2.1.below hb, h.2.2.1.below hb, RowG.own_below h.2.2.2 hb⟩
theorem KW.app {w : World} {ta : Option Addr} {tl tc : Nat} {P : List ByteArray} {bv : Value} {W W' : World} {x : ByteArray} {v' : Value} (h : KW w ta tl tc P bv W) (ho : W'.ownsRow (w.heap.size + 3) 9 1 v' (P.length + 1) (cellsAll tcells P ++ [.string x])) (hg : W.grownBy W' bv.ownBlock) : KW w ta tl tc (P ++ [x]) v' W' := by
 refine ⟨h.1.grown hg h.1.size (fun c hc => by have := (h.2.2.2.lt c hc).1; omega), BlkW.grown h.2.1 hg (fun e => by have := (h.2.2.2.lt _ e.symm).1; omega), BlkW.grown h.2.2.1 hg (fun e => by have := (h.2.2.2.lt _ e.symm).1; omega), ?_⟩
 rw [RowG.cellsAll_app, List.length_append]
 exact ho
theorem KW.appL {w : World} {ta : Option Addr} {tl tc : Nat} {P L : List ByteArray} {bv : Value} {W W' : World} {v' : Value} (h : KW w ta tl tc P bv W) (ho : W'.ownsRow (w.heap.size + 3) 9 1 v' (P.length + L.length) (cellsAll tcells P ++ cellsAll tcells L)) (hg : W.grownBy W' bv.ownBlock) : KW w ta tl tc (P ++ L) v' W' := by
 refine ⟨h.1.grown hg h.1.size (fun c hc => by have := (h.2.2.2.lt c hc).1; omega), BlkW.grown h.2.1 hg (fun e => by have := (h.2.2.2.lt _ e.symm).1; omega), BlkW.grown h.2.2.1 hg (fun e => by have := (h.2.2.2.lt _ e.symm).1; omega), ?_⟩
 rw [show cellsAll tcells (P ++ L) = cellsAll tcells P ++ cellsAll tcells L by simp [cellsAll], List.length_append]
 exact ho
theorem KW.nil {w : World} {ta : Option Addr} {tl tc : Nat} {P : List ByteArray} {bv : Value} {W : World} (h : KW w ta tl tc P bv W) : KW w ta tl tc (P ++ []) bv W := by rw [List.append_nil]; exact h
theorem tgs_src {b off : Nat} {L : List ByteArray} {w W : World} (h : Tgs (some ⟨b, off, none⟩) L w) (hW : Below w.heap.size w W) : ∀ j u, (cellsAll tcells L)[j]? = some u → W.cell? ((⟨b, off, none⟩ : Addr).add j) = some u := by
 intro j u hj
 have h2 := rws_sub (i := 0) (n := L.length) t_len (h.below hW) j u (by simpa using hj)
 rw [Nat.zero_mul, Nat.add_zero] at h2
 exact h2
theorem tmeet (x y : ByteArray) (w : World) : Calls Tryd.prog 89 #[.string x, .string y] w fun e w' => e = .returned (.string x) ∧ w' = w := by
 go_enter Tryd.func89, Tryd.ntmps89
 go_wp2
 go_ret
 exact ⟨rfl, rfl⟩
theorem nanS (x : ByteArray) (w : World) : Calls Tryd.prog 116 #[.string x] w fun e w' => e = .returned (.bool false) ∧ w' = w := by
 go_enter Tryd.func116, Tryd.ntmps116
 go_wp2
 go_ret
 exact ⟨by simp, rfl⟩
/-- How two texts stand. -/
def cmpT (x y : ByteArray) : Int := if lt x y = true then -1 else if lt y x = true then 1 else 0
theorem cmpS (x y : ByteArray) (w : World) : Calls Tryd.prog 105 #[.string x, .string y] w fun e w' => e = .returned (.int .i64 (cmpT x y)) ∧ w' = w := by
 have HN := hid_intro nanS
 unfold cmpT lt
 cases h1 : Op.bytesLess x.toList y.toList
 ·cases h2 : Op.bytesLess y.toList x.toList
  ·obtain rfl : x = y := toList_inj (bl_total h1 h2)
   have he : (x.toList == x.toList) = true := by simp
   go_enter Tryd.func105, Tryd.ntmps105
   go_wp2_with (first | (go_at_call 116; refine (HN.out _ _).mono ?_; rintro e w' ⟨rfl, rfl⟩))
   go_ret
   exact ⟨by first | rfl | simp, rfl⟩
  ·have he : (x.toList == y.toList) = false := by
    cases h : (x.toList == y.toList)
    ·rfl
    ·rw [beq_iff_eq.1 h, bl_irrefl] at h2; cases h2
   go_enter Tryd.func105, Tryd.ntmps105
   go_wp2_with (first | (go_at_call 116; refine (HN.out _ _).mono ?_; rintro e w' ⟨rfl, rfl⟩))
   go_ret
   exact ⟨by first | rfl | simp, rfl⟩
 ·go_enter Tryd.func105, Tryd.ntmps105
  go_wp2_with (first | (go_at_call 116; refine (HN.out _ _).mono ?_; rintro e w' ⟨rfl, rfl⟩))
  go_ret
  exact ⟨by first | rfl | simp, rfl⟩
set_option maxRecDepth 100000 in
set_option maxHeartbeats 16000000 in
theorem with_tags (A0 B0 : List ByteArray) (ta tb : Option Addr) (tc tb2 : Nat) (w : World) (hlen : A0.length + B0.length ≤ 1048575) (sa : SlOk ta A0.length tc) (sb : SlOk tb B0.length tb2) (hA : Tgs ta A0 w) (hB : Tgs tb B0 w) :
  Calls Tryd.prog 78 #[.agg #[.slice ta A0.length tc, .func (.func 88) #[] #[], .func (.func 89) #[] #[]], .agg #[.slice tb B0.length tb2, .func (.func 88) #[] #[], .func (.func 89) #[] #[]]] w fun e w' => ∃ ao c, e = .returned (.agg #[.slice ao (mrg lt fstT A0 B0).length c, .func (.func 88) #[] #[], .func (.func 89) #[] #[]]) ∧ Tgs ao (mrg lt fstT A0 B0) w' ∧ ((mrg lt fstT A0 B0).length = 0 ∨ ∀ b off, ao = some ⟨b, off, none⟩ → w.heap.size ≤ b) ∧ Below w.heap.size w w' := by
 obtain ⟨i0, hi, hz0, hz1, hz2⟩ := info_parts infoT
 have HLA : Hid (Lst w (.slice ta A0.length tc) A0) := hid_intro ⟨_, _, rfl, sa, hA⟩
 have HLB : Hid (Lst w (.slice tb B0.length tb2) B0) := hid_intro ⟨_, _, rfl, sb, hB⟩
 have HKEY := hid_intro tkey
 have HCMP := hid_intro cmpS
 obtain ⟨R, hR⟩ : ∃ R, R = mrg lt fstT A0 B0 := ⟨_, rfl⟩
 have HM0 : Hid ([] ++ mrg lt fstT A0 B0 = R) := hid_intro hR.symm
 rw [← hR]
 clear hR
 obtain ⟨tl, htl⟩ : ∃ tl, tl = A0.length := ⟨_, rfl⟩
 obtain ⟨bl, hbl⟩ : ∃ bl, bl = B0.length := ⟨_, rfl⟩
 have HTL := hid_intro htl
 have HBL := hid_intro hbl
 rw [← htl] at HLA ⊢
 rw [← hbl] at HLB ⊢
 clear htl hbl sa sb hA hB
 obtain ⟨W0, hW0⟩ : ∃ W0, W0 = ((w.alloc (.cells #[.slice ta tl tc, .func (.func 88) #[] #[], .func (.func 89) #[] #[]] 91)).alloc (.cells #[.slice tb bl tb2, .func (.func 88) #[] #[], .func (.func 89) #[] #[]] 91)).alloc (.cells #[.slice none 0 0, .nilFunc, .nilFunc] 91) := ⟨_, rfl⟩
 have HW0 := hid_intro hW0
 have HK0 : Hid (KW w ta tl tc [] (.slice none 0 0) W0) := hid_intro (by
  rw [hW0]
  refine ⟨(((Below.refl _ _).alloc (Nat.le_refl _) _).alloc (by simp) _).alloc (by simp; omega) _, ((BlkW.new w [.slice ta tl tc, .func (.func 88) #[] #[], .func (.func 89) #[] #[]] 91).below (al _ _)).below (al _ _), ?_, World.ownsRow_nil _ _ _ _⟩
  have h := BlkW.new ((w.alloc (.cells #[.slice ta tl tc, .func (.func 88) #[] #[], .func (.func 89) #[] #[]] 91)).alloc (.cells #[.slice tb bl tb2, .func (.func 88) #[] #[], .func (.func 89) #[] #[]] 91)) [.slice none 0 0, .nilFunc, .nilFunc] 91
  rw [show ((w.alloc (.cells #[.slice ta tl tc, .func (.func 88) #[] #[], .func (.func 89) #[] #[]] 91)).alloc (.cells #[.slice tb bl tb2, .func (.func 88) #[] #[], .func (.func 89) #[] #[]] 91)).heap.size = w.heap.size + 2 by simp] at h
  exact h)
 have HY0 : Hid (Blk (w.heap.size + 1) [.slice tb bl tb2, .func (.func 88) #[] #[], .func (.func 89) #[] #[]] W0) := hid_intro (by
  have h := Blk.new (w.alloc (.cells #[.slice ta tl tc, .func (.func 88) #[] #[], .func (.func 89) #[] #[]] 91)) [.slice tb bl tb2, .func (.func 88) #[] #[], .func (.func 89) #[] #[]] 91
  rw [show (w.alloc (.cells #[.slice ta tl tc, .func (.func 88) #[] #[], .func (.func 89) #[] #[]] 91)).heap.size = w.heap.size + 1 by simp] at h
  rw [hW0]
  exact h.below (al _ _))
 clear hW0
 go_enter Tryd.func78, Tryd.ntmps78
 go_wp2_with fail
 rw [← HW0.out]
 have x0 : W0.cell? ⟨w.heap.size, 0, none⟩ = some (.slice ta tl tc) := HK0.out.2.1.1.2 0 (by simp)
 have y0 : W0.cell? ⟨w.heap.size + 1, 0, none⟩ = some (.slice tb bl tb2) := HY0.out.2 0 (by simp)
 have xl := HK0.out.2.1.1.1
 have yl := HY0.out.1
 go_quiet (fail)
 go_wp2_with fail
 obtain ⟨W1, hW1⟩ : ∃ W1, W1 = W0.drewN nq := ⟨_, rfl⟩
 rw [← hW1]
 have HK1 : Hid (KW w ta tl tc [] (.slice none 0 0) W1) := hid_intro (by rw [hW1]; exact @KW.below w ta tl tc _ _ _ _ HK0.out (bdN2 (Below.refl _ _) _))
 clear hW1 HK0 HY0 HW0 x0 y0 xl yl
 go_loopw [5, 6, 7] (fun bv lv rv wr => ∃ (P L Q : List ByteArray), Hid (Lst w lv L) ∧ Hid (Lst w rv Q) ∧ P.length + L.length + Q.length ≤ 1048575 ∧ Hid (P ++ mrg lt fstT L Q = R) ∧ Hid (KW w ta tl tc P bv wr)) (fun _ lv rv _ => slen lv + slen rv)
 case atStart => exact ⟨[], A0, B0, HLA, HLB, by simp; exact hlen, HM0, HK1⟩
 case round =>
  clear HLA HLB HM0 HK1
  obtain ⟨P, L, Q, HL, HQ, hN, HR, HK⟩ := hrel
  obtain ⟨bv, hbv⟩ : ∃ bv, bv = u5 := ⟨_, rfl⟩
  subst hbv
  obtain ⟨la, lc, rfl, sl, hl⟩ := HL.out
  obtain ⟨ra, rc, rfl, sr, hr⟩ := HQ.out
  cases L with
  | nil =>
   have HRR : Hid (P ++ [] ++ Q = R) := hid_intro (by rw [← HR.out, List.append_nil]; simp [mrg])
   have HTL1x := hid_intro hl
   have HTRx := hid_intro hr
   obtain ⟨rl, hrl⟩ : ∃ rl, rl = Q.length := ⟨_, rfl⟩
   have HRn := hid_intro hrl
   have HLn : Hid (0 = 0) := hid_intro rfl
   simp only [List.length_nil] at hN sl ⊢
   rw [← hrl] at hN sr ⊢
   clear HL HQ hl hr hrl
   rcases sl with ⟨rfl, _, rfl⟩ | ⟨b, off, rfl, n1, n2⟩
   ·rcases sr with ⟨rfl, hr0, rfl⟩ | ⟨b2, off2, rfl, m1, m2⟩
    ·subst hr0
     obtain rfl : Q = [] := List.length_eq_zero_iff.1 HRn.out.symm
     have HKe := HK
     rw [show P = R from by rw [← HRR.out]; simp] at HKe
     have ho := HKe.out.2.2.2
     obtain ⟨ao, cp, rfl, hm⟩ := own_made (z := tz) t_len ho
     have HM := hid_intro hm
     have HNE : Hid (R.length = 0 ∨ ∀ b off, ao = some ⟨b, off, none⟩ → w.heap.size + 3 ≤ b) := hid_intro (by
      rcases hm.own with h0 | ⟨g, e1, e2, _⟩
      ·exact .inl h0
      ·exact .inr (fun b off q => by rw [e1] at q; simp at q; omega))
     clear hm ho
     obtain ⟨⟨xl, xk⟩, xf⟩ := HKe.out.2.1
     have x0 : wr.cell? ⟨w.heap.size, 0, none⟩ = some (.slice ta tl tc) := xk 0 (by simp)
     have x1 : wr.cell? ⟨w.heap.size, 1, none⟩ = some (.func (.func 88) #[] #[]) := xk 1 (by simp)
     have x2 : wr.cell? ⟨w.heap.size, 2, none⟩ = some (.func (.func 89) #[] #[]) := xk 2 (by simp)
     have xf0 : wr.frozen? ⟨w.heap.size, 0, none⟩ = false := xf 0 (by simp)
     obtain ⟨⟨zl, zk⟩, zf⟩ := HKe.out.2.2.1
     have z0 : wr.cell? ⟨w.heap.size + 2, 0, none⟩ = some (.slice none 0 0) := zk 0 (by simp)
     have z1 : wr.cell? ⟨w.heap.size + 2, 1, none⟩ = some .nilFunc := zk 1 (by simp)
     have z2 : wr.cell? ⟨w.heap.size + 2, 2, none⟩ = some .nilFunc := zk 2 (by simp)
     have zf0 : wr.frozen? ⟨w.heap.size + 2, 0, none⟩ = false := zf 0 (by simp)
     have zf1 : wr.frozen? ⟨w.heap.size + 2, 1, none⟩ = false := zf 1 (by simp)
     have zf2 : wr.frozen? ⟨w.heap.size + 2, 2, none⟩ = false := zf 2 (by simp)
     clear xk xf zk zf
     go_wp2_with (at_builtin; refine wpList_append_own_none rfl _ _ 22 rfl (w.heap.size + 3) 9 i0 1 Tryd.underlying22 hi _ _ _ rfl HKe.out.2.2.2 rfl ?_)
     refine bodyPost_ret (v := .agg #[.slice ao R.length cp, .func (.func 88) #[] #[], .func (.func 89) #[] #[]]) (by simp [results, Tryd.results78, go_sem, z0, z1, z2]) rfl ?_
     have q3 : R.length = 0 ∨ ∀ b off, ao = some ⟨b, off, none⟩ → w.heap.size ≤ b := HNE.out.imp id (fun h b off e => by have := h b off e; omega)
     first | refine ⟨ao, ⟨cp, rfl⟩, ?_, (by first | exact q3 | simpa using q3), ?_⟩ | refine ⟨ao, cp, rfl, ?_, (by first | exact q3 | simpa using q3), ?_⟩
     ·have q0 : R.length = 0 ∨ ∀ b off, ao = some ⟨b, off, none⟩ → b ≠ w.heap.size := HNE.out.imp id (fun h b off e => by have := h b off e; omega)
      have q2 : R.length = 0 ∨ ∀ b off, ao = some ⟨b, off, none⟩ → b ≠ w.heap.size + 1 + 1 := HNE.out.imp id (fun h b off e => by have := h b off e; omega)
      exact (Rws.put (Rws.put (Rws.put (Rws.put HM.out.rws w.heap.size 0 (.slice ao R.length cp) q0) (w.heap.size + 1 + 1) 0 (.slice ao R.length cp) q2) (w.heap.size + 1 + 1) 1 (.func (.func 88) #[] #[]) q2) (w.heap.size + 1 + 1) 2 (.func (.func 89) #[] #[]) q2)
     ·have hb2 : w.heap.size ≤ w.heap.size + 1 + 1 := by omega
      exact ((((HKe.out.1.setCell (Nat.le_refl _) _).setCell hb2 _).setCell hb2 _).setCell hb2 _)
    ·have HTR1 := hid_intro HTRx.out
     clear HTRx
     unfold maxLen at m2
     go_wp2_with (first | (at_builtin; refine wpList_append_own_none rfl _ _ 22 rfl (w.heap.size + 3) 9 i0 1 Tryd.underlying22 hi _ _ _ rfl HK.out.2.2.2 rfl ?_) | (at_builtin; refine wpList_append_own _ rfl _ _ 22 rfl (w.heap.size + 3) 9 i0 (.string ⟨#[]⟩) 1 16 Tryd.underlying22 hi hz0 hz1 hz2 rfl (by decide) _ _ _ rfl HK.out.2.2.2 ⟨b2, off2, none⟩ rl rc (cellsAll tcells Q) rfl ?l0 ?d0 ?e0 ?f0 ?g0 ?s0 ?_))
     case l0 => first | rfl | (rw [cellsAll_len t_len]; first | rfl | (have := HLn.out; simp; omega) | (have := HRn.out; simp; omega))
     case d0 => exact fun j u hj => by have h := tgs_src HTR1.out HK.out.1 j u hj; first | exact h | (rw [Addr.add_lit] at h; exact h)
     case e0 => exact t_one _
     case f0 => unfold maxLen; have := HLn.out; have := HRn.out; (try simp only [List.length_append, List.length_cons, List.length_nil]); omega
     case g0 => have := HLn.out; have := HRn.out; (try simp only [List.length_append, List.length_cons, List.length_nil]); omega
     case s0 => have := HK.out.2.2.1.1.1; omega
     intro v0 w0 hown hgrow hne
     have HK0 : Hid (KW w ta tl tc (P ++ Q) v0 w0) := hid_intro (@KW.appL w ta tl tc _ _ _ _ _ _ HK.out (by first | exact hown | simpa using hown | (have h := hown; rw [HLn.out] at h; exact h) | (have h := hown; rw [HRn.out] at h; exact h) | (have h := hown; rw [HLn.out] at h; simpa using h) | (have h := hown; rw [HRn.out] at h; simpa using h)) hgrow)
     clear hown hgrow hne
     have HKe := HK0
     rw [show P ++ Q = R from by rw [← HRR.out]; simp] at HKe
     clear HK0
     have ho := HKe.out.2.2.2
     obtain ⟨ao, cp, rfl, hm⟩ := own_made (z := tz) t_len ho
     have HM := hid_intro hm
     have HNE : Hid (R.length = 0 ∨ ∀ b off, ao = some ⟨b, off, none⟩ → w.heap.size + 3 ≤ b) := hid_intro (by
      rcases hm.own with h0 | ⟨g, e1, e2, _⟩
      ·exact .inl h0
      ·exact .inr (fun b off q => by rw [e1] at q; simp at q; omega))
     clear hm ho
     obtain ⟨⟨xl, xk⟩, xf⟩ := HKe.out.2.1
     have x0 : w0.cell? ⟨w.heap.size, 0, none⟩ = some (.slice ta tl tc) := xk 0 (by simp)
     have x1 : w0.cell? ⟨w.heap.size, 1, none⟩ = some (.func (.func 88) #[] #[]) := xk 1 (by simp)
     have x2 : w0.cell? ⟨w.heap.size, 2, none⟩ = some (.func (.func 89) #[] #[]) := xk 2 (by simp)
     have xf0 : w0.frozen? ⟨w.heap.size, 0, none⟩ = false := xf 0 (by simp)
     obtain ⟨⟨zl, zk⟩, zf⟩ := HKe.out.2.2.1
     have z0 : w0.cell? ⟨w.heap.size + 2, 0, none⟩ = some (.slice none 0 0) := zk 0 (by simp)
     have z1 : w0.cell? ⟨w.heap.size + 2, 1, none⟩ = some .nilFunc := zk 1 (by simp)
     have z2 : w0.cell? ⟨w.heap.size + 2, 2, none⟩ = some .nilFunc := zk 2 (by simp)
     have zf0 : w0.frozen? ⟨w.heap.size + 2, 0, none⟩ = false := zf 0 (by simp)
     have zf1 : w0.frozen? ⟨w.heap.size + 2, 1, none⟩ = false := zf 1 (by simp)
     have zf2 : w0.frozen? ⟨w.heap.size + 2, 2, none⟩ = false := zf 2 (by simp)
     clear xk xf zk zf
     go_wp2_with fail
     refine bodyPost_ret (v := .agg #[.slice ao R.length cp, .func (.func 88) #[] #[], .func (.func 89) #[] #[]]) (by simp [results, Tryd.results78, go_sem, z0, z1, z2]) rfl ?_
     have q3 : R.length = 0 ∨ ∀ b off, ao = some ⟨b, off, none⟩ → w.heap.size ≤ b := HNE.out.imp id (fun h b off e => by have := h b off e; omega)
     first | refine ⟨ao, ⟨cp, rfl⟩, ?_, (by first | exact q3 | simpa using q3), ?_⟩ | refine ⟨ao, cp, rfl, ?_, (by first | exact q3 | simpa using q3), ?_⟩
     ·have q0 : R.length = 0 ∨ ∀ b off, ao = some ⟨b, off, none⟩ → b ≠ w.heap.size := HNE.out.imp id (fun h b off e => by have := h b off e; omega)
      have q2 : R.length = 0 ∨ ∀ b off, ao = some ⟨b, off, none⟩ → b ≠ w.heap.size + 1 + 1 := HNE.out.imp id (fun h b off e => by have := h b off e; omega)
      exact (Rws.put (Rws.put (Rws.put (Rws.put HM.out.rws w.heap.size 0 (.slice ao R.length cp) q0) (w.heap.size + 1 + 1) 0 (.slice ao R.length cp) q2) (w.heap.size + 1 + 1) 1 (.func (.func 88) #[] #[]) q2) (w.heap.size + 1 + 1) 2 (.func (.func 89) #[] #[]) q2)
     ·have hb2 : w.heap.size ≤ w.heap.size + 1 + 1 := by omega
      exact ((((HKe.out.1.setCell (Nat.le_refl _) _).setCell hb2 _).setCell hb2 _).setCell hb2 _)
   ·have HTL1 := hid_intro HTL1x.out
    unfold maxLen at n2
    rcases sr with ⟨rfl, hr0, rfl⟩ | ⟨b2, off2, rfl, m1, m2⟩
    ·subst hr0
     obtain rfl : Q = [] := List.length_eq_zero_iff.1 HRn.out.symm
     go_wp2_with (at_builtin; refine wpList_append_own _ rfl _ _ 22 rfl (w.heap.size + 3) 9 i0 (.string ⟨#[]⟩) 1 16 Tryd.underlying22 hi hz0 hz1 hz2 rfl (by decide) _ _ _ rfl HK.out.2.2.2 ⟨b, off, none⟩ 0 lc (cellsAll tcells []) rfl ?l0 ?d0 ?e0 ?f0 ?g0 ?s0 ?_)
     case l0 => first | rfl | (rw [cellsAll_len t_len]; first | rfl | (have := HLn.out; simp; omega) | (have := HRn.out; simp; omega))
     case d0 => exact fun j u hj => by have h := tgs_src HTL1.out HK.out.1 j u hj; first | exact h | (rw [Addr.add_lit] at h; exact h)
     case e0 => exact t_one _
     case f0 => unfold maxLen; have := HLn.out; have := HRn.out; (try simp only [List.length_append, List.length_cons, List.length_nil]); omega
     case g0 => have := HLn.out; have := HRn.out; (try simp only [List.length_append, List.length_cons, List.length_nil]); omega
     case s0 => have := HK.out.2.2.1.1.1; omega
     intro v0 w0 hown hgrow hne
     have HK0 : Hid (KW w ta tl tc (P ++ []) v0 w0) := hid_intro (@KW.appL w ta tl tc _ _ _ _ _ _ HK.out (by first | exact hown | simpa using hown | (have h := hown; rw [HLn.out] at h; exact h) | (have h := hown; rw [HRn.out] at h; exact h) | (have h := hown; rw [HLn.out] at h; simpa using h) | (have h := hown; rw [HRn.out] at h; simpa using h)) hgrow)
     clear hown hgrow hne
     have HKe := HK0
     rw [show P ++ [] = R from by rw [← HRR.out]; simp] at HKe
     clear HK0
     have ho := HKe.out.2.2.2
     obtain ⟨ao, cp, rfl, hm⟩ := own_made (z := tz) t_len ho
     have HM := hid_intro hm
     have HNE : Hid (R.length = 0 ∨ ∀ b off, ao = some ⟨b, off, none⟩ → w.heap.size + 3 ≤ b) := hid_intro (by
      rcases hm.own with h0 | ⟨g, e1, e2, _⟩
      ·exact .inl h0
      ·exact .inr (fun b off q => by rw [e1] at q; simp at q; omega))
     clear hm ho
     obtain ⟨⟨xl, xk⟩, xf⟩ := HKe.out.2.1
     have x0 : w0.cell? ⟨w.heap.size, 0, none⟩ = some (.slice ta tl tc) := xk 0 (by simp)
     have x1 : w0.cell? ⟨w.heap.size, 1, none⟩ = some (.func (.func 88) #[] #[]) := xk 1 (by simp)
     have x2 : w0.cell? ⟨w.heap.size, 2, none⟩ = some (.func (.func 89) #[] #[]) := xk 2 (by simp)
     have xf0 : w0.frozen? ⟨w.heap.size, 0, none⟩ = false := xf 0 (by simp)
     obtain ⟨⟨zl, zk⟩, zf⟩ := HKe.out.2.2.1
     have z0 : w0.cell? ⟨w.heap.size + 2, 0, none⟩ = some (.slice none 0 0) := zk 0 (by simp)
     have z1 : w0.cell? ⟨w.heap.size + 2, 1, none⟩ = some .nilFunc := zk 1 (by simp)
     have z2 : w0.cell? ⟨w.heap.size + 2, 2, none⟩ = some .nilFunc := zk 2 (by simp)
     have zf0 : w0.frozen? ⟨w.heap.size + 2, 0, none⟩ = false := zf 0 (by simp)
     have zf1 : w0.frozen? ⟨w.heap.size + 2, 1, none⟩ = false := zf 1 (by simp)
     have zf2 : w0.frozen? ⟨w.heap.size + 2, 2, none⟩ = false := zf 2 (by simp)
     clear xk xf zk zf
     go_wp2_with (at_builtin; refine wpList_append_own_none rfl _ _ 22 rfl (w.heap.size + 3) 9 i0 1 Tryd.underlying22 hi _ _ _ rfl HKe.out.2.2.2 rfl ?_)
     refine bodyPost_ret (v := .agg #[.slice ao R.length cp, .func (.func 88) #[] #[], .func (.func 89) #[] #[]]) (by simp [results, Tryd.results78, go_sem, z0, z1, z2]) rfl ?_
     have q3 : R.length = 0 ∨ ∀ b off, ao = some ⟨b, off, none⟩ → w.heap.size ≤ b := HNE.out.imp id (fun h b off e => by have := h b off e; omega)
     first | refine ⟨ao, ⟨cp, rfl⟩, ?_, (by first | exact q3 | simpa using q3), ?_⟩ | refine ⟨ao, cp, rfl, ?_, (by first | exact q3 | simpa using q3), ?_⟩
     ·have q0 : R.length = 0 ∨ ∀ b off, ao = some ⟨b, off, none⟩ → b ≠ w.heap.size := HNE.out.imp id (fun h b off e => by have := h b off e; omega)
      have q2 : R.length = 0 ∨ ∀ b off, ao = some ⟨b, off, none⟩ → b ≠ w.heap.size + 1 + 1 := HNE.out.imp id (fun h b off e => by have := h b off e; omega)
      exact (Rws.put (Rws.put (Rws.put (Rws.put HM.out.rws w.heap.size 0 (.slice ao R.length cp) q0) (w.heap.size + 1 + 1) 0 (.slice ao R.length cp) q2) (w.heap.size + 1 + 1) 1 (.func (.func 88) #[] #[]) q2) (w.heap.size + 1 + 1) 2 (.func (.func 89) #[] #[]) q2)
     ·have hb2 : w.heap.size ≤ w.heap.size + 1 + 1 := by omega
      exact ((((HKe.out.1.setCell (Nat.le_refl _) _).setCell hb2 _).setCell hb2 _).setCell hb2 _)
    ·have HTR1 := hid_intro HTRx.out
     clear HTRx
     unfold maxLen at m2
     go_wp2_with (at_builtin; refine wpList_append_own _ rfl _ _ 22 rfl (w.heap.size + 3) 9 i0 (.string ⟨#[]⟩) 1 16 Tryd.underlying22 hi hz0 hz1 hz2 rfl (by decide) _ _ _ rfl HK.out.2.2.2 ⟨b, off, none⟩ 0 lc (cellsAll tcells []) rfl ?l0 ?d0 ?e0 ?f0 ?g0 ?s0 ?_)
     case l0 => first | rfl | (rw [cellsAll_len t_len]; first | rfl | (have := HLn.out; simp; omega) | (have := HRn.out; simp; omega))
     case d0 => exact fun j u hj => by have h := tgs_src HTL1.out HK.out.1 j u hj; first | exact h | (rw [Addr.add_lit] at h; exact h)
     case e0 => exact t_one _
     case f0 => unfold maxLen; have := HLn.out; have := HRn.out; (try simp only [List.length_append, List.length_cons, List.length_nil]); omega
     case g0 => have := HLn.out; have := HRn.out; (try simp only [List.length_append, List.length_cons, List.length_nil]); omega
     case s0 => have := HK.out.2.2.1.1.1; omega
     intro v0 w0 hown hgrow hne
     have HK0 : Hid (KW w ta tl tc (P ++ []) v0 w0) := hid_intro (@KW.appL w ta tl tc _ _ _ _ _ _ HK.out (by first | exact hown | simpa using hown | (have h := hown; rw [HLn.out] at h; exact h) | (have h := hown; rw [HRn.out] at h; exact h) | (have h := hown; rw [HLn.out] at h; simpa using h) | (have h := hown; rw [HRn.out] at h; simpa using h)) hgrow)
     clear hown hgrow hne
     go_wp2_with (at_builtin; refine wpList_append_own _ rfl _ _ 22 rfl (w.heap.size + 3) 9 i0 (.string ⟨#[]⟩) 1 16 Tryd.underlying22 hi hz0 hz1 hz2 rfl (by decide) _ _ _ rfl HK0.out.2.2.2 ⟨b2, off2, none⟩ rl rc (cellsAll tcells Q) rfl ?l1 ?d1 ?e1 ?f1 ?g1 ?s1 ?_)
     case l1 => first | rfl | (rw [cellsAll_len t_len]; first | rfl | (have := HLn.out; simp; omega) | (have := HRn.out; simp; omega))
     case d1 => exact fun j u hj => by have h := tgs_src HTR1.out HK0.out.1 j u hj; first | exact h | (rw [Addr.add_lit] at h; exact h)
     case e1 => exact t_one _
     case f1 => unfold maxLen; have := HLn.out; have := HRn.out; (try simp only [List.length_append, List.length_cons, List.length_nil]); omega
     case g1 => have := HLn.out; have := HRn.out; (try simp only [List.length_append, List.length_cons, List.length_nil]); omega
     case s1 => have := HK0.out.2.2.1.1.1; omega
     intro v1 w1 hown hgrow hne
     have HK1 : Hid (KW w ta tl tc ((P ++ []) ++ Q) v1 w1) := hid_intro (@KW.appL w ta tl tc _ _ _ _ _ _ HK0.out (by first | exact hown | simpa using hown | (have h := hown; rw [HLn.out] at h; exact h) | (have h := hown; rw [HRn.out] at h; exact h) | (have h := hown; rw [HLn.out] at h; simpa using h) | (have h := hown; rw [HRn.out] at h; simpa using h)) hgrow)
     clear hown hgrow hne
     have HKe := HK1
     rw [HRR.out] at HKe
     clear HK1
     have ho := HKe.out.2.2.2
     obtain ⟨ao, cp, rfl, hm⟩ := own_made (z := tz) t_len ho
     have HM := hid_intro hm
     have HNE : Hid (R.length = 0 ∨ ∀ b off, ao = some ⟨b, off, none⟩ → w.heap.size + 3 ≤ b) := hid_intro (by
      rcases hm.own with h0 | ⟨g, e1, e2, _⟩
      ·exact .inl h0
      ·exact .inr (fun b off q => by rw [e1] at q; simp at q; omega))
     clear hm ho
     obtain ⟨⟨xl, xk⟩, xf⟩ := HKe.out.2.1
     have x0 : w1.cell? ⟨w.heap.size, 0, none⟩ = some (.slice ta tl tc) := xk 0 (by simp)
     have x1 : w1.cell? ⟨w.heap.size, 1, none⟩ = some (.func (.func 88) #[] #[]) := xk 1 (by simp)
     have x2 : w1.cell? ⟨w.heap.size, 2, none⟩ = some (.func (.func 89) #[] #[]) := xk 2 (by simp)
     have xf0 : w1.frozen? ⟨w.heap.size, 0, none⟩ = false := xf 0 (by simp)
     obtain ⟨⟨zl, zk⟩, zf⟩ := HKe.out.2.2.1
     have z0 : w1.cell? ⟨w.heap.size + 2, 0, none⟩ = some (.slice none 0 0) := zk 0 (by simp)
     have z1 : w1.cell? ⟨w.heap.size + 2, 1, none⟩ = some .nilFunc := zk 1 (by simp)
     have z2 : w1.cell? ⟨w.heap.size + 2, 2, none⟩ = some .nilFunc := zk 2 (by simp)
     have zf0 : w1.frozen? ⟨w.heap.size + 2, 0, none⟩ = false := zf 0 (by simp)
     have zf1 : w1.frozen? ⟨w.heap.size + 2, 1, none⟩ = false := zf 1 (by simp)
     have zf2 : w1.frozen? ⟨w.heap.size + 2, 2, none⟩ = false := zf 2 (by simp)
     clear xk xf zk zf
     go_wp2_with fail
     refine bodyPost_ret (v := .agg #[.slice ao R.length cp, .func (.func 88) #[] #[], .func (.func 89) #[] #[]]) (by simp [results, Tryd.results78, go_sem, z0, z1, z2]) rfl ?_
     have q3 : R.length = 0 ∨ ∀ b off, ao = some ⟨b, off, none⟩ → w.heap.size ≤ b := HNE.out.imp id (fun h b off e => by have := h b off e; omega)
     first | refine ⟨ao, ⟨cp, rfl⟩, ?_, (by first | exact q3 | simpa using q3), ?_⟩ | refine ⟨ao, cp, rfl, ?_, (by first | exact q3 | simpa using q3), ?_⟩
     ·have q0 : R.length = 0 ∨ ∀ b off, ao = some ⟨b, off, none⟩ → b ≠ w.heap.size := HNE.out.imp id (fun h b off e => by have := h b off e; omega)
      have q2 : R.length = 0 ∨ ∀ b off, ao = some ⟨b, off, none⟩ → b ≠ w.heap.size + 1 + 1 := HNE.out.imp id (fun h b off e => by have := h b off e; omega)
      exact (Rws.put (Rws.put (Rws.put (Rws.put HM.out.rws w.heap.size 0 (.slice ao R.length cp) q0) (w.heap.size + 1 + 1) 0 (.slice ao R.length cp) q2) (w.heap.size + 1 + 1) 1 (.func (.func 88) #[] #[]) q2) (w.heap.size + 1 + 1) 2 (.func (.func 89) #[] #[]) q2)
     ·have hb2 : w.heap.size ≤ w.heap.size + 1 + 1 := by omega
      exact ((((HKe.out.1.setCell (Nat.le_refl _) _).setCell hb2 _).setCell hb2 _).setCell hb2 _)
  | cons X L =>
  cases Q with
  | nil =>
   have HRR : Hid (P ++ (X :: L) ++ [] = R) := hid_intro (by rw [← HR.out, List.append_nil]; simp [mrg])
   have HTL1x := hid_intro hl
   obtain ⟨ll, hll⟩ : ∃ ll, ll = L.length := ⟨_, rfl⟩
   have HLn := hid_intro hll
   have HRn : Hid (0 = 0) := hid_intro rfl
   simp only [List.length_nil, List.length_cons] at hN sl sr ⊢
   rw [← hll] at hN sl ⊢
   have HTR1x := hid_intro hr
   clear HL HQ hl hr hll
   have p1 : (0 : Int) < ((ll + 1 : Nat) : Int) := by omega
   rcases sl with ⟨rfl, h0, _⟩ | ⟨b, off, rfl, n1, n2⟩
   ·omega
   ·have HTL1 := hid_intro HTL1x.out
    unfold maxLen at n2
    rcases sr with ⟨rfl, _, rfl⟩ | ⟨b2, off2, rfl, m1, m2⟩
    ·go_wp2_with (at_builtin; refine wpList_append_own _ rfl _ _ 22 rfl (w.heap.size + 3) 9 i0 (.string ⟨#[]⟩) 1 16 Tryd.underlying22 hi hz0 hz1 hz2 rfl (by decide) _ _ _ rfl HK.out.2.2.2 ⟨b, off, none⟩ (ll + 1) lc (cellsAll tcells (X :: L)) rfl ?l0 ?d0 ?e0 ?f0 ?g0 ?s0 ?_)
     case l0 => first | rfl | (rw [cellsAll_len t_len]; first | rfl | (have := HLn.out; simp; omega) | (have := HRn.out; simp; omega))
     case d0 => exact fun j u hj => by have h := tgs_src HTL1.out HK.out.1 j u hj; first | exact h | (rw [Addr.add_lit] at h; exact h)
     case e0 => exact t_one _
     case f0 => unfold maxLen; have := HLn.out; have := HRn.out; (try simp only [List.length_append, List.length_cons, List.length_nil]); omega
     case g0 => have := HLn.out; have := HRn.out; (try simp only [List.length_append, List.length_cons, List.length_nil]); omega
     case s0 => have := HK.out.2.2.1.1.1; omega
     intro v0 w0 hown hgrow hne
     have HK0 : Hid (KW w ta tl tc (P ++ (X :: L)) v0 w0) := hid_intro (@KW.appL w ta tl tc _ _ _ _ _ _ HK.out (by first | exact hown | simpa using hown | (have h := hown; rw [HLn.out] at h; exact h) | (have h := hown; rw [HRn.out] at h; exact h) | (have h := hown; rw [HLn.out] at h; simpa using h) | (have h := hown; rw [HRn.out] at h; simpa using h)) hgrow)
     clear hown hgrow hne
     have HKe := HK0
     rw [show P ++ (X :: L) = R from by rw [← HRR.out]; simp] at HKe
     clear HK0
     have ho := HKe.out.2.2.2
     obtain ⟨ao, cp, rfl, hm⟩ := own_made (z := tz) t_len ho
     have HM := hid_intro hm
     have HNE : Hid (R.length = 0 ∨ ∀ b off, ao = some ⟨b, off, none⟩ → w.heap.size + 3 ≤ b) := hid_intro (by
      rcases hm.own with h0 | ⟨g, e1, e2, _⟩
      ·exact .inl h0
      ·exact .inr (fun b off q => by rw [e1] at q; simp at q; omega))
     clear hm ho
     obtain ⟨⟨xl, xk⟩, xf⟩ := HKe.out.2.1
     have x0 : w0.cell? ⟨w.heap.size, 0, none⟩ = some (.slice ta tl tc) := xk 0 (by simp)
     have x1 : w0.cell? ⟨w.heap.size, 1, none⟩ = some (.func (.func 88) #[] #[]) := xk 1 (by simp)
     have x2 : w0.cell? ⟨w.heap.size, 2, none⟩ = some (.func (.func 89) #[] #[]) := xk 2 (by simp)
     have xf0 : w0.frozen? ⟨w.heap.size, 0, none⟩ = false := xf 0 (by simp)
     obtain ⟨⟨zl, zk⟩, zf⟩ := HKe.out.2.2.1
     have z0 : w0.cell? ⟨w.heap.size + 2, 0, none⟩ = some (.slice none 0 0) := zk 0 (by simp)
     have z1 : w0.cell? ⟨w.heap.size + 2, 1, none⟩ = some .nilFunc := zk 1 (by simp)
     have z2 : w0.cell? ⟨w.heap.size + 2, 2, none⟩ = some .nilFunc := zk 2 (by simp)
     have zf0 : w0.frozen? ⟨w.heap.size + 2, 0, none⟩ = false := zf 0 (by simp)
     have zf1 : w0.frozen? ⟨w.heap.size + 2, 1, none⟩ = false := zf 1 (by simp)
     have zf2 : w0.frozen? ⟨w.heap.size + 2, 2, none⟩ = false := zf 2 (by simp)
     clear xk xf zk zf
     go_wp2_with (at_builtin; refine wpList_append_own_none rfl _ _ 22 rfl (w.heap.size + 3) 9 i0 1 Tryd.underlying22 hi _ _ _ rfl HKe.out.2.2.2 rfl ?_)
     refine bodyPost_ret (v := .agg #[.slice ao R.length cp, .func (.func 88) #[] #[], .func (.func 89) #[] #[]]) (by simp [results, Tryd.results78, go_sem, z0, z1, z2]) rfl ?_
     have q3 : R.length = 0 ∨ ∀ b off, ao = some ⟨b, off, none⟩ → w.heap.size ≤ b := HNE.out.imp id (fun h b off e => by have := h b off e; omega)
     first | refine ⟨ao, ⟨cp, rfl⟩, ?_, (by first | exact q3 | simpa using q3), ?_⟩ | refine ⟨ao, cp, rfl, ?_, (by first | exact q3 | simpa using q3), ?_⟩
     ·have q0 : R.length = 0 ∨ ∀ b off, ao = some ⟨b, off, none⟩ → b ≠ w.heap.size := HNE.out.imp id (fun h b off e => by have := h b off e; omega)
      have q2 : R.length = 0 ∨ ∀ b off, ao = some ⟨b, off, none⟩ → b ≠ w.heap.size + 1 + 1 := HNE.out.imp id (fun h b off e => by have := h b off e; omega)
      exact (Rws.put (Rws.put (Rws.put (Rws.put HM.out.rws w.heap.size 0 (.slice ao R.length cp) q0) (w.heap.size + 1 + 1) 0 (.slice ao R.length cp) q2) (w.heap.size + 1 + 1) 1 (.func (.func 88) #[] #[]) q2) (w.heap.size + 1 + 1) 2 (.func (.func 89) #[] #[]) q2)
     ·have hb2 : w.heap.size ≤ w.heap.size + 1 + 1 := by omega
      exact ((((HKe.out.1.setCell (Nat.le_refl _) _).setCell hb2 _).setCell hb2 _).setCell hb2 _)
    ·have HTR1 := hid_intro HTR1x.out
     unfold maxLen at m2
     go_wp2_with (at_builtin; refine wpList_append_own _ rfl _ _ 22 rfl (w.heap.size + 3) 9 i0 (.string ⟨#[]⟩) 1 16 Tryd.underlying22 hi hz0 hz1 hz2 rfl (by decide) _ _ _ rfl HK.out.2.2.2 ⟨b, off, none⟩ (ll + 1) lc (cellsAll tcells (X :: L)) rfl ?l0 ?d0 ?e0 ?f0 ?g0 ?s0 ?_)
     case l0 => first | rfl | (rw [cellsAll_len t_len]; first | rfl | (have := HLn.out; simp; omega) | (have := HRn.out; simp; omega))
     case d0 => exact fun j u hj => by have h := tgs_src HTL1.out HK.out.1 j u hj; first | exact h | (rw [Addr.add_lit] at h; exact h)
     case e0 => exact t_one _
     case f0 => unfold maxLen; have := HLn.out; have := HRn.out; (try simp only [List.length_append, List.length_cons, List.length_nil]); omega
     case g0 => have := HLn.out; have := HRn.out; (try simp only [List.length_append, List.length_cons, List.length_nil]); omega
     case s0 => have := HK.out.2.2.1.1.1; omega
     intro v0 w0 hown hgrow hne
     have HK0 : Hid (KW w ta tl tc (P ++ (X :: L)) v0 w0) := hid_intro (@KW.appL w ta tl tc _ _ _ _ _ _ HK.out (by first | exact hown | simpa using hown | (have h := hown; rw [HLn.out] at h; exact h) | (have h := hown; rw [HRn.out] at h; exact h) | (have h := hown; rw [HLn.out] at h; simpa using h) | (have h := hown; rw [HRn.out] at h; simpa using h)) hgrow)
     clear hown hgrow hne
     go_wp2_with (at_builtin; refine wpList_append_own _ rfl _ _ 22 rfl (w.heap.size + 3) 9 i0 (.string ⟨#[]⟩) 1 16 Tryd.underlying22 hi hz0 hz1 hz2 rfl (by decide) _ _ _ rfl HK0.out.2.2.2 ⟨b2, off2, none⟩ 0 rc (cellsAll tcells []) rfl ?l1 ?d1 ?e1 ?f1 ?g1 ?s1 ?_)
     case l1 => first | rfl | (rw [cellsAll_len t_len]; first | rfl | (have := HLn.out; simp; omega) | (have := HRn.out; simp; omega))
     case d1 => exact fun j u hj => by have h := tgs_src HTR1.out HK0.out.1 j u hj; first | exact h | (rw [Addr.add_lit] at h; exact h)
     case e1 => exact t_one _
     case f1 => unfold maxLen; have := HLn.out; have := HRn.out; (try simp only [List.length_append, List.length_cons, List.length_nil]); omega
     case g1 => have := HLn.out; have := HRn.out; (try simp only [List.length_append, List.length_cons, List.length_nil]); omega
     case s1 => have := HK0.out.2.2.1.1.1; omega
     intro v1 w1 hown hgrow hne
     have HK1 : Hid (KW w ta tl tc ((P ++ (X :: L)) ++ []) v1 w1) := hid_intro (@KW.appL w ta tl tc _ _ _ _ _ _ HK0.out (by first | exact hown | simpa using hown | (have h := hown; rw [HLn.out] at h; exact h) | (have h := hown; rw [HRn.out] at h; exact h) | (have h := hown; rw [HLn.out] at h; simpa using h) | (have h := hown; rw [HRn.out] at h; simpa using h)) hgrow)
     clear hown hgrow hne
     have HKe := HK1
     rw [HRR.out] at HKe
     clear HK1
     have ho := HKe.out.2.2.2
     obtain ⟨ao, cp, rfl, hm⟩ := own_made (z := tz) t_len ho
     have HM := hid_intro hm
     have HNE : Hid (R.length = 0 ∨ ∀ b off, ao = some ⟨b, off, none⟩ → w.heap.size + 3 ≤ b) := hid_intro (by
      rcases hm.own with h0 | ⟨g, e1, e2, _⟩
      ·exact .inl h0
      ·exact .inr (fun b off q => by rw [e1] at q; simp at q; omega))
     clear hm ho
     obtain ⟨⟨xl, xk⟩, xf⟩ := HKe.out.2.1
     have x0 : w1.cell? ⟨w.heap.size, 0, none⟩ = some (.slice ta tl tc) := xk 0 (by simp)
     have x1 : w1.cell? ⟨w.heap.size, 1, none⟩ = some (.func (.func 88) #[] #[]) := xk 1 (by simp)
     have x2 : w1.cell? ⟨w.heap.size, 2, none⟩ = some (.func (.func 89) #[] #[]) := xk 2 (by simp)
     have xf0 : w1.frozen? ⟨w.heap.size, 0, none⟩ = false := xf 0 (by simp)
     obtain ⟨⟨zl, zk⟩, zf⟩ := HKe.out.2.2.1
     have z0 : w1.cell? ⟨w.heap.size + 2, 0, none⟩ = some (.slice none 0 0) := zk 0 (by simp)
     have z1 : w1.cell? ⟨w.heap.size + 2, 1, none⟩ = some .nilFunc := zk 1 (by simp)
     have z2 : w1.cell? ⟨w.heap.size + 2, 2, none⟩ = some .nilFunc := zk 2 (by simp)
     have zf0 : w1.frozen? ⟨w.heap.size + 2, 0, none⟩ = false := zf 0 (by simp)
     have zf1 : w1.frozen? ⟨w.heap.size + 2, 1, none⟩ = false := zf 1 (by simp)
     have zf2 : w1.frozen? ⟨w.heap.size + 2, 2, none⟩ = false := zf 2 (by simp)
     clear xk xf zk zf
     go_wp2_with fail
     refine bodyPost_ret (v := .agg #[.slice ao R.length cp, .func (.func 88) #[] #[], .func (.func 89) #[] #[]]) (by simp [results, Tryd.results78, go_sem, z0, z1, z2]) rfl ?_
     have q3 : R.length = 0 ∨ ∀ b off, ao = some ⟨b, off, none⟩ → w.heap.size ≤ b := HNE.out.imp id (fun h b off e => by have := h b off e; omega)
     first | refine ⟨ao, ⟨cp, rfl⟩, ?_, (by first | exact q3 | simpa using q3), ?_⟩ | refine ⟨ao, cp, rfl, ?_, (by first | exact q3 | simpa using q3), ?_⟩
     ·have q0 : R.length = 0 ∨ ∀ b off, ao = some ⟨b, off, none⟩ → b ≠ w.heap.size := HNE.out.imp id (fun h b off e => by have := h b off e; omega)
      have q2 : R.length = 0 ∨ ∀ b off, ao = some ⟨b, off, none⟩ → b ≠ w.heap.size + 1 + 1 := HNE.out.imp id (fun h b off e => by have := h b off e; omega)
      exact (Rws.put (Rws.put (Rws.put (Rws.put HM.out.rws w.heap.size 0 (.slice ao R.length cp) q0) (w.heap.size + 1 + 1) 0 (.slice ao R.length cp) q2) (w.heap.size + 1 + 1) 1 (.func (.func 88) #[] #[]) q2) (w.heap.size + 1 + 1) 2 (.func (.func 89) #[] #[]) q2)
     ·have hb2 : w.heap.size ≤ w.heap.size + 1 + 1 := by omega
      exact ((((HKe.out.1.setCell (Nat.le_refl _) _).setCell hb2 _).setCell hb2 _).setCell hb2 _)
  | cons Y Q =>
   obtain ⟨b, off, rfl, hbl, cx, n1, n2, k1, k2⟩ := Lst.tail sl hl
   obtain ⟨b2, off2, rfl, hb2, cy, m1, m2, j1, j2⟩ := Lst.tail sr hr
   have KL1 := hid_intro k1
   have KL2 := hid_intro k2
   have KR1 := hid_intro j1
   have KR2 := hid_intro j2
   have HCX : Hid (∀ W, Below w.heap.size w W → b < W.heap.size ∧ W.cell? ⟨b, off, none⟩ = some (.string X)) := hid_intro (fun W hW => ⟨Nat.lt_of_lt_of_le hbl hW.size, (hW.cell (p := ⟨b, off, none⟩) hbl).trans cx⟩)
   have HCY : Hid (∀ W, Below w.heap.size w W → b2 < W.heap.size ∧ W.cell? ⟨b2, off2, none⟩ = some (.string Y)) := hid_intro (fun W hW => ⟨Nat.lt_of_lt_of_le hb2 hW.size, (hW.cell (p := ⟨b2, off2, none⟩) hb2).trans cy⟩)
   have HLL := hid_intro HL.out
   have HQQ := hid_intro HQ.out
   simp only [List.length_cons] at hN HLL HQQ ⊢
   obtain ⟨ll, hll⟩ : ∃ ll, ll = L.length := ⟨_, rfl⟩
   obtain ⟨rl, hrl⟩ : ∃ rl, rl = Q.length := ⟨_, rfl⟩
   have HLn := hid_intro hll
   have HRn := hid_intro hrl
   rw [← hll] at n1 hN KL2 HLL ⊢
   rw [← hrl] at m1 hN KR2 HQQ ⊢
   clear hll hrl k1 k2 j1 j2 sl sr hl hr HL HQ cx cy hbl hb2
   unfold maxLen at n2 m2
   have sz1 : P.length + 1 ≤ maxLen := by unfold maxLen; omega
   have sz2 : (P.length + 1) * 16 ≤ 140737488355328 := by omega
   have sz3 : 0 < 1 := by omega
   obtain ⟨gx, cX⟩ := HCX.out wr HK.out.1
   obtain ⟨gy, cY⟩ := HCY.out wr HK.out.1
   have p1 : (0 : Int) < ((ll + 1 : Nat) : Int) := by omega
   have p2 : (0 : Int) < ((rl + 1 : Nat) : Int) := by omega
   cases hlt : lt X Y
   ·cases hgt : lt Y X
    ·have hcm : cmpT X Y = 0 := by unfold cmpT; rw [hlt, hgt]; rfl
     have HMG : Hid (mrg lt fstT (X :: L) (Y :: Q) = X :: mrg lt fstT L Q) := hid_intro (by rw [mrg, if_neg (by rw [hlt]; simp), if_neg (by rw [hgt]; simp)]; rfl)
     have HC : Hid (∀ w, Calls Tryd.prog 105 #[.string X, .string Y] w fun e w' => e = .returned (.int .i64 (0)) ∧ w' = w) := hid_intro (fun w => by have h := cmpS X Y w; rw [hcm] at h; exact h)
     clear hcm
     try clear hlt
     try clear hgt
     go_wp2_with fail
     go_quiet (fail)
     go_wp2_with fail
     obtain ⟨W1, hW1⟩ : ∃ W1, W1 = wr.drewN nq := ⟨_, rfl⟩
     rw [← hW1]
     have HK1 : Hid (KW w ta tl tc P bv W1) := hid_intro (by rw [hW1]; exact @KW.below w ta tl tc _ _ _ _ HK.out (bdN2 (Below.refl _ _) _))
     clear hW1 HK gx gy cX cY
     have x1 : W1.cell? ⟨w.heap.size, 1, none⟩ = some (.func (.func 88) #[] #[]) := HK1.out.2.1.1.2 1 (by simp)
     have xl := HK1.out.2.1.1.1
     go_quiet ((first | (go_at_call 88; exact Calls.quiet_of_same (HKEY.out _ _)) | (go_at_call 105; exact Calls.quiet_of_same (HC.out _))))
     go_wp2_with fail
     obtain ⟨W2, hW2⟩ : ∃ W2, W2 = W1.drewN nq := ⟨_, rfl⟩
     rw [← hW2]
     have HK2 : Hid (KW w ta tl tc P bv W2) := hid_intro (by rw [hW2]; exact @KW.below w ta tl tc _ _ _ _ HK1.out (bdN2 (Below.refl _ _) _))
     clear hW2 HK1 x1 xl HC
     by_cases hlc : lc = 1
     ·have hl1 : lc = 1 := hlc
      obtain rfl : ll = 0 := by omega
      subst hl1
      by_cases hrc : rc = 1
      ·have hr1 : rc = 1 := hrc
       obtain rfl : rl = 0 := by omega
       subst hr1
       have HS0 : Hid (KW w ta tl tc P bv W2.drew) := hid_intro (@KW.below w ta tl tc _ _ _ _ HK2.out (Below.refl _ _).drew)
       clear HK2
       refine wp_region_held_drew (S := (fun W => Below w.heap.size w W ∧ w.heap.size < W.heap.size ∧ W.cell? ⟨w.heap.size, 2, none⟩ = some (.func (.func 89) #[] #[]))) (by kernel_rfl) ⟨HS0.out.1, HS0.out.2.1.1.1, HS0.out.2.1.1.2 2 (by simp)⟩ (fun hHeld => ?_)
       obtain ⟨Wd, hWd⟩ : ∃ Wd, Wd = W2.drew := ⟨_, rfl⟩
       rw [← hWd] at HS0 ⊢
       try rw [← hWd] at hHeld
       clear hWd
       refine tk (i := 0) (oi := { dst := some 38, op := Op.move (Operand.tmp 5), type := 22, pos := "l07_window.go:74", after := #[], guard := none }) (v := ?_) ?_ ?_
       rotate_left
       ·(intro w hSw; (try dsimp only at hSw); go_simp) <;> with_reducible rfl
       try simp only [Act.put, SL]
       refine tk (i := 1) (oi := { dst := some 39, op := Op.fieldAddr 91 (Operand.tmp 2) 2, type := 0, pos := "l07_window.go:74", after := #[], guard := none }) (v := ?_) ?_ ?_
       rotate_left
       ·(intro w hSw; (try dsimp only at hSw); go_simp) <;> with_reducible rfl
       try simp only [Act.put, SL]
       refine tk (i := 2) (oi := { dst := some 40, op := Op.load 89 (Operand.tmp 39), type := 89, pos := "l07_window.go:74", after := #[{ on := 1, ground := Ground.data }], guard := none }) (v := ?_) ?_ ?_
       rotate_left
       ·(intro w hSw; (try dsimp only at hSw); go_simp) <;> with_reducible rfl
       try simp only [Act.put, SL]
       refine tk (i := 3) (oi := { dst := some 41, op := Op.move (Operand.tmp 8), type := 9, pos := "l07_window.go:74", after := #[], guard := none }) (v := ?_) ?_ ?_
       rotate_left
       ·(intro w hSw; (try dsimp only at hSw); go_simp) <;> with_reducible rfl
       try simp only [Act.put, SL]
       refine tk (i := 4) (oi := { dst := some 42, op := Op.move (Operand.tmp 9), type := 9, pos := "l07_window.go:74", after := #[], guard := none }) (v := ?_) ?_ ?_
       rotate_left
       ·(intro w hSw; (try dsimp only at hSw); go_simp) <;> with_reducible rfl
       try simp only [Act.put, SL]
       refine tk (i := 8) (oi := { dst := some 46, op := Op.move (Operand.tmp 6), type := 22, pos := "l07_window.go:74", after := #[], guard := none }) (v := ?_) ?_ ?_
       rotate_left
       ·(intro w hSw; (try dsimp only at hSw); go_simp) <;> with_reducible rfl
       try simp only [Act.put, SL]
       refine tk (i := 9) (oi := { dst := some 47, op := Op.slice 22 (Operand.tmp 46) (some (Operand.const (Value.int IntKind.i64 1))) none none, type := 22, pos := "l07_window.go:74", after := #[{ on := 8, ground := Ground.data }], guard := none }) (v := ?_) ?_ ?_
       rotate_left
       ·(intro w hSw; (try dsimp only at hSw); go_simp) <;> with_reducible rfl
       try simp only [Act.put, SL]
       refine tk (i := 10) (oi := { dst := some 48, op := Op.move (Operand.tmp 7), type := 22, pos := "l07_window.go:74", after := #[], guard := none }) (v := ?_) ?_ ?_
       rotate_left
       ·(intro w hSw; (try dsimp only at hSw); go_simp) <;> with_reducible rfl
       try simp only [Act.put, SL]
       refine tk (i := 11) (oi := { dst := some 49, op := Op.slice 22 (Operand.tmp 48) (some (Operand.const (Value.int IntKind.i64 1))) none none, type := 22, pos := "l07_window.go:74", after := #[{ on := 10, ground := Ground.data }], guard := none }) (v := ?_) ?_ ?_
       rotate_left
       ·(intro w hSw; (try dsimp only at hSw); go_simp) <;> with_reducible rfl
       try simp only [Act.put, SL]
       refine wpAnyH_ready (rs := [5]) (by kernel_rfl) (by simp) ?_
       refine AllReadyH.cons (o := { dst := some 43, op := Op.call { callee := Callee.value (Operand.tmp 40), args := #[Operand.tmp 41, Operand.tmp 42], argTypes := #[9, 9] }, type := 9, pos := "l07_window.go:74", after := #[{ on := 2, ground := Ground.data }, { on := 3, ground := Ground.data }, { on := 4, ground := Ground.data }], guard := none }) rfl (fun K hK => ?_) AllReadyH.nil
       go_simp
       go_at_call 89
       refine (tmeet X Y _).mono ?_
       rintro e wh ⟨rfl, hwh⟩
       rw [hwh]
       clear hwh wh
       try go_wp2_with fail
       refine hK.out _ _ ⟨HS0.out.1, HS0.out.2.1.1.1, HS0.out.2.1.1.2 2 (by simp)⟩ (fun _ => ?_)
       clear hK K
       try simp only [Act.put, SL]
       refine wpAnyH_ready (rs := [6]) (by kernel_rfl) (by simp) ?_
       refine AllReadyH.cons (o := { dst := some 44, op := Op.buildSlice 22 1 #[(0, Operand.tmp 43)], type := 22, pos := "l07_window.go:74", after := #[{ on := 5, ground := Ground.data }], guard := none }) rfl (fun K hK => ?_) AllReadyH.nil
       go_simp
       try go_wp2_with fail
       have hk2 := @KW.below w ta tl tc _ _ _ _ HS0.out ((Below.refl Wd.heap.size Wd).alloc (Nat.le_refl _) (Obj.cells #[.string X] 9))
       have hz2' := HS0.out.2.1.1.1
       have hz3 := HS0.out.2.2.1.1.1
       refine hK.out _ _ ⟨hk2.1, hk2.2.1.1.1, hk2.2.1.1.2 2 (by simp)⟩ (fun _ => ?_)
       clear hK K
       try simp only [Act.put, SL]
       refine wpAnyH_ready (rs := [7]) (by kernel_rfl) (by simp) ?_
       refine AllReadyH.cons (o := { dst := some 45, op := Op.call { callee := Callee.builtin Builtin.append, args := #[Operand.tmp 38, Operand.tmp 44], argTypes := #[22, 22] }, type := 22, pos := "l07_window.go:74", after := #[{ on := 0, ground := Ground.data }, { on := 6, ground := Ground.data }, { on := 5, ground := Ground.chain }], guard := none }) rfl (fun K hK => ?_) AllReadyH.nil
       refine step_append_own rfl _ _ 22 rfl (w.heap.size + 3) 9 i0 (.string ⟨#[]⟩) 1 16 Tryd.underlying22 hi hz0 hz1 hz2 rfl sz3 _ _ _ rfl hk2.2.2.2 ⟨Wd.heap.size, 0, none⟩ 1 1 [.string X] rfl rfl (one_cell _ _ _) (one_one _) sz1 sz2 (by simp; omega) ?_
       intro v' w4 hown hgrow hne
       have hk3 : KW w ta tl tc (P ++ [X]) v' w4 := @KW.app w ta tl tc _ _ _ _ _ _ hk2 hown hgrow
       refine hK.out _ _ ⟨hk3.1, hk3.2.1.1.1, hk3.2.1.1.2 2 (by simp)⟩ (fun _ => ?_)
       clear hK K
       try simp only [Act.put, SL]
       refine tk (i := 12) (oi := { dst := some 5, op := Op.assign (Operand.tmp 45), type := 22, pos := "l07_window.go:74", after := #[{ on := 7, ground := Ground.data }, { on := 7, ground := Ground.chain }, { on := 0, ground := Ground.phase }, { on := 1, ground := Ground.phase }, { on := 2, ground := Ground.phase }, { on := 3, ground := Ground.phase }, { on := 4, ground := Ground.phase }, { on := 5, ground := Ground.phase }, { on := 6, ground := Ground.phase }, { on := 7, ground := Ground.phase }, { on := 8, ground := Ground.textOnly Departure.lateStores }, { on := 9, ground := Ground.textOnly Departure.lateStoresUnsure }, { on := 10, ground := Ground.textOnly Departure.lateStores }, { on := 11, ground := Ground.textOnly Departure.lateStoresUnsure }], guard := none }) (v := ?_) ?_ ?_
       rotate_left
       ·(intro w hSw; (try dsimp only at hSw); go_simp) <;> with_reducible rfl
       try simp only [Act.put, SL]
       refine tk (i := 13) (oi := { dst := some 6, op := Op.assign (Operand.tmp 47), type := 22, pos := "l07_window.go:74", after := #[{ on := 9, ground := Ground.data }, { on := 12, ground := Ground.chain }, { on := 0, ground := Ground.phase }, { on := 1, ground := Ground.phase }, { on := 2, ground := Ground.phase }, { on := 3, ground := Ground.phase }, { on := 4, ground := Ground.phase }, { on := 5, ground := Ground.phase }, { on := 6, ground := Ground.phase }, { on := 7, ground := Ground.phase }, { on := 8, ground := Ground.phase }, { on := 9, ground := Ground.phase }, { on := 10, ground := Ground.textOnly Departure.lateStores }, { on := 11, ground := Ground.textOnly Departure.lateStoresUnsure }, { on := 12, ground := Ground.phase }], guard := none }) (v := ?_) ?_ ?_
       rotate_left
       ·(intro w hSw; (try dsimp only at hSw); go_simp) <;> with_reducible rfl
       try simp only [Act.put, SL]
       refine tk (i := 14) (oi := { dst := some 7, op := Op.assign (Operand.tmp 49), type := 22, pos := "l07_window.go:74", after := #[{ on := 11, ground := Ground.data }, { on := 13, ground := Ground.chain }, { on := 0, ground := Ground.phase }, { on := 1, ground := Ground.phase }, { on := 2, ground := Ground.phase }, { on := 3, ground := Ground.phase }, { on := 4, ground := Ground.phase }, { on := 5, ground := Ground.phase }, { on := 6, ground := Ground.phase }, { on := 7, ground := Ground.phase }, { on := 8, ground := Ground.phase }, { on := 9, ground := Ground.phase }, { on := 10, ground := Ground.phase }, { on := 11, ground := Ground.phase }, { on := 12, ground := Ground.phase }, { on := 13, ground := Ground.phase }], guard := none }) (v := ?_) ?_ ?_
       rotate_left
       ·(intro w hSw; (try dsimp only at hSw); go_simp) <;> with_reducible rfl
       try simp only [Act.put, SL]
       refine wpAnyH_done (by kernel_rfl) ?_ _
       have HKF := hid_intro hk3
       clear hk3 hk2 hown hgrow hne hz2' hz3 HS0
       go_wp2_with fail
       go_roundw
       case rel => exact ⟨P ++ [X], L, Q, hid_intro (KL1.out (by first | rfl | trivial)), hid_intro (KR1.out (by first | rfl | trivial)), by have := HLn.out; have := HRn.out; simp; omega, hid_intro (by rw [← HR.out, List.append_assoc]; exact congrArg _ HMG.out.symm), HKF⟩
       case measure => first | (simp [slen]; done) | (simp [slen]; omega)
      ·have hr1 : (1 : Int) ≤ (rc : Int) := by omega
       have hr2 : (1 : Int) ≤ (rl : Int) + 1 := by omega
       have HS0 : Hid (KW w ta tl tc P bv W2.drew) := hid_intro (@KW.below w ta tl tc _ _ _ _ HK2.out (Below.refl _ _).drew)
       clear HK2
       refine wp_region_held_drew (S := (fun W => Below w.heap.size w W ∧ w.heap.size < W.heap.size ∧ W.cell? ⟨w.heap.size, 2, none⟩ = some (.func (.func 89) #[] #[]))) (by kernel_rfl) ⟨HS0.out.1, HS0.out.2.1.1.1, HS0.out.2.1.1.2 2 (by simp)⟩ (fun hHeld => ?_)
       obtain ⟨Wd, hWd⟩ : ∃ Wd, Wd = W2.drew := ⟨_, rfl⟩
       rw [← hWd] at HS0 ⊢
       try rw [← hWd] at hHeld
       clear hWd
       refine tk (i := 0) (oi := { dst := some 38, op := Op.move (Operand.tmp 5), type := 22, pos := "l07_window.go:74", after := #[], guard := none }) (v := ?_) ?_ ?_
       rotate_left
       ·(intro w hSw; (try dsimp only at hSw); go_simp) <;> with_reducible rfl
       try simp only [Act.put, SL]
       refine tk (i := 1) (oi := { dst := some 39, op := Op.fieldAddr 91 (Operand.tmp 2) 2, type := 0, pos := "l07_window.go:74", after := #[], guard := none }) (v := ?_) ?_ ?_
       rotate_left
       ·(intro w hSw; (try dsimp only at hSw); go_simp) <;> with_reducible rfl
       try simp only [Act.put, SL]
       refine tk (i := 2) (oi := { dst := some 40, op := Op.load 89 (Operand.tmp 39), type := 89, pos := "l07_window.go:74", after := #[{ on := 1, ground := Ground.data }], guard := none }) (v := ?_) ?_ ?_
       rotate_left
       ·(intro w hSw; (try dsimp only at hSw); go_simp) <;> with_reducible rfl
       try simp only [Act.put, SL]
       refine tk (i := 3) (oi := { dst := some 41, op := Op.move (Operand.tmp 8), type := 9, pos := "l07_window.go:74", after := #[], guard := none }) (v := ?_) ?_ ?_
       rotate_left
       ·(intro w hSw; (try dsimp only at hSw); go_simp) <;> with_reducible rfl
       try simp only [Act.put, SL]
       refine tk (i := 4) (oi := { dst := some 42, op := Op.move (Operand.tmp 9), type := 9, pos := "l07_window.go:74", after := #[], guard := none }) (v := ?_) ?_ ?_
       rotate_left
       ·(intro w hSw; (try dsimp only at hSw); go_simp) <;> with_reducible rfl
       try simp only [Act.put, SL]
       refine tk (i := 8) (oi := { dst := some 46, op := Op.move (Operand.tmp 6), type := 22, pos := "l07_window.go:74", after := #[], guard := none }) (v := ?_) ?_ ?_
       rotate_left
       ·(intro w hSw; (try dsimp only at hSw); go_simp) <;> with_reducible rfl
       try simp only [Act.put, SL]
       refine tk (i := 9) (oi := { dst := some 47, op := Op.slice 22 (Operand.tmp 46) (some (Operand.const (Value.int IntKind.i64 1))) none none, type := 22, pos := "l07_window.go:74", after := #[{ on := 8, ground := Ground.data }], guard := none }) (v := ?_) ?_ ?_
       rotate_left
       ·(intro w hSw; (try dsimp only at hSw); go_simp) <;> with_reducible rfl
       try simp only [Act.put, SL]
       refine tk (i := 10) (oi := { dst := some 48, op := Op.move (Operand.tmp 7), type := 22, pos := "l07_window.go:74", after := #[], guard := none }) (v := ?_) ?_ ?_
       rotate_left
       ·(intro w hSw; (try dsimp only at hSw); go_simp) <;> with_reducible rfl
       try simp only [Act.put, SL]
       refine tk (i := 11) (oi := { dst := some 49, op := Op.slice 22 (Operand.tmp 48) (some (Operand.const (Value.int IntKind.i64 1))) none none, type := 22, pos := "l07_window.go:74", after := #[{ on := 10, ground := Ground.data }], guard := none }) (v := ?_) ?_ ?_
       rotate_left
       ·(intro w hSw; (try dsimp only at hSw); go_simp) <;> with_reducible rfl
       try simp only [Act.put, SL]
       refine wpAnyH_ready (rs := [5]) (by kernel_rfl) (by simp) ?_
       refine AllReadyH.cons (o := { dst := some 43, op := Op.call { callee := Callee.value (Operand.tmp 40), args := #[Operand.tmp 41, Operand.tmp 42], argTypes := #[9, 9] }, type := 9, pos := "l07_window.go:74", after := #[{ on := 2, ground := Ground.data }, { on := 3, ground := Ground.data }, { on := 4, ground := Ground.data }], guard := none }) rfl (fun K hK => ?_) AllReadyH.nil
       go_simp
       go_at_call 89
       refine (tmeet X Y _).mono ?_
       rintro e wh ⟨rfl, hwh⟩
       rw [hwh]
       clear hwh wh
       try go_wp2_with fail
       refine hK.out _ _ ⟨HS0.out.1, HS0.out.2.1.1.1, HS0.out.2.1.1.2 2 (by simp)⟩ (fun _ => ?_)
       clear hK K
       try simp only [Act.put, SL]
       refine wpAnyH_ready (rs := [6]) (by kernel_rfl) (by simp) ?_
       refine AllReadyH.cons (o := { dst := some 44, op := Op.buildSlice 22 1 #[(0, Operand.tmp 43)], type := 22, pos := "l07_window.go:74", after := #[{ on := 5, ground := Ground.data }], guard := none }) rfl (fun K hK => ?_) AllReadyH.nil
       go_simp
       try go_wp2_with fail
       have hk2 := @KW.below w ta tl tc _ _ _ _ HS0.out ((Below.refl Wd.heap.size Wd).alloc (Nat.le_refl _) (Obj.cells #[.string X] 9))
       have hz2' := HS0.out.2.1.1.1
       have hz3 := HS0.out.2.2.1.1.1
       refine hK.out _ _ ⟨hk2.1, hk2.2.1.1.1, hk2.2.1.1.2 2 (by simp)⟩ (fun _ => ?_)
       clear hK K
       try simp only [Act.put, SL]
       refine wpAnyH_ready (rs := [7]) (by kernel_rfl) (by simp) ?_
       refine AllReadyH.cons (o := { dst := some 45, op := Op.call { callee := Callee.builtin Builtin.append, args := #[Operand.tmp 38, Operand.tmp 44], argTypes := #[22, 22] }, type := 22, pos := "l07_window.go:74", after := #[{ on := 0, ground := Ground.data }, { on := 6, ground := Ground.data }, { on := 5, ground := Ground.chain }], guard := none }) rfl (fun K hK => ?_) AllReadyH.nil
       refine step_append_own rfl _ _ 22 rfl (w.heap.size + 3) 9 i0 (.string ⟨#[]⟩) 1 16 Tryd.underlying22 hi hz0 hz1 hz2 rfl sz3 _ _ _ rfl hk2.2.2.2 ⟨Wd.heap.size, 0, none⟩ 1 1 [.string X] rfl rfl (one_cell _ _ _) (one_one _) sz1 sz2 (by simp; omega) ?_
       intro v' w4 hown hgrow hne
       have hk3 : KW w ta tl tc (P ++ [X]) v' w4 := @KW.app w ta tl tc _ _ _ _ _ _ hk2 hown hgrow
       refine hK.out _ _ ⟨hk3.1, hk3.2.1.1.1, hk3.2.1.1.2 2 (by simp)⟩ (fun _ => ?_)
       clear hK K
       try simp only [Act.put, SL]
       refine tk (i := 12) (oi := { dst := some 5, op := Op.assign (Operand.tmp 45), type := 22, pos := "l07_window.go:74", after := #[{ on := 7, ground := Ground.data }, { on := 7, ground := Ground.chain }, { on := 0, ground := Ground.phase }, { on := 1, ground := Ground.phase }, { on := 2, ground := Ground.phase }, { on := 3, ground := Ground.phase }, { on := 4, ground := Ground.phase }, { on := 5, ground := Ground.phase }, { on := 6, ground := Ground.phase }, { on := 7, ground := Ground.phase }, { on := 8, ground := Ground.textOnly Departure.lateStores }, { on := 9, ground := Ground.textOnly Departure.lateStoresUnsure }, { on := 10, ground := Ground.textOnly Departure.lateStores }, { on := 11, ground := Ground.textOnly Departure.lateStoresUnsure }], guard := none }) (v := ?_) ?_ ?_
       rotate_left
       ·(intro w hSw; (try dsimp only at hSw); go_simp) <;> with_reducible rfl
       try simp only [Act.put, SL]
       refine tk (i := 13) (oi := { dst := some 6, op := Op.assign (Operand.tmp 47), type := 22, pos := "l07_window.go:74", after := #[{ on := 9, ground := Ground.data }, { on := 12, ground := Ground.chain }, { on := 0, ground := Ground.phase }, { on := 1, ground := Ground.phase }, { on := 2, ground := Ground.phase }, { on := 3, ground := Ground.phase }, { on := 4, ground := Ground.phase }, { on := 5, ground := Ground.phase }, { on := 6, ground := Ground.phase }, { on := 7, ground := Ground.phase }, { on := 8, ground := Ground.phase }, { on := 9, ground := Ground.phase }, { on := 10, ground := Ground.textOnly Departure.lateStores }, { on := 11, ground := Ground.textOnly Departure.lateStoresUnsure }, { on := 12, ground := Ground.phase }], guard := none }) (v := ?_) ?_ ?_
       rotate_left
       ·(intro w hSw; (try dsimp only at hSw); go_simp) <;> with_reducible rfl
       try simp only [Act.put, SL]
       refine tk (i := 14) (oi := { dst := some 7, op := Op.assign (Operand.tmp 49), type := 22, pos := "l07_window.go:74", after := #[{ on := 11, ground := Ground.data }, { on := 13, ground := Ground.chain }, { on := 0, ground := Ground.phase }, { on := 1, ground := Ground.phase }, { on := 2, ground := Ground.phase }, { on := 3, ground := Ground.phase }, { on := 4, ground := Ground.phase }, { on := 5, ground := Ground.phase }, { on := 6, ground := Ground.phase }, { on := 7, ground := Ground.phase }, { on := 8, ground := Ground.phase }, { on := 9, ground := Ground.phase }, { on := 10, ground := Ground.phase }, { on := 11, ground := Ground.phase }, { on := 12, ground := Ground.phase }, { on := 13, ground := Ground.phase }], guard := none }) (v := ?_) ?_ ?_
       rotate_left
       ·(intro w hSw; (try dsimp only at hSw); go_simp) <;> with_reducible rfl
       try simp only [Act.put, SL]
       refine wpAnyH_done (by kernel_rfl) ?_ _
       have HKF := hid_intro hk3
       clear hk3 hk2 hown hgrow hne hz2' hz3 HS0
       go_wp2_with fail
       go_roundw
       case rel => exact ⟨P ++ [X], L, Q, hid_intro (KL1.out (by first | rfl | trivial)), hid_intro (KR2.out hrc), by have := HLn.out; have := HRn.out; simp; omega, hid_intro (by rw [← HR.out, List.append_assoc]; exact congrArg _ HMG.out.symm), HKF⟩
       case measure => first | (simp [slen]; done) | (simp [slen]; omega)
     ·have hl1 : (1 : Int) ≤ (lc : Int) := by omega
      have hl2 : (1 : Int) ≤ (ll : Int) + 1 := by omega
      by_cases hrc : rc = 1
      ·have hr1 : rc = 1 := hrc
       obtain rfl : rl = 0 := by omega
       subst hr1
       have HS0 : Hid (KW w ta tl tc P bv W2.drew) := hid_intro (@KW.below w ta tl tc _ _ _ _ HK2.out (Below.refl _ _).drew)
       clear HK2
       refine wp_region_held_drew (S := (fun W => Below w.heap.size w W ∧ w.heap.size < W.heap.size ∧ W.cell? ⟨w.heap.size, 2, none⟩ = some (.func (.func 89) #[] #[]))) (by kernel_rfl) ⟨HS0.out.1, HS0.out.2.1.1.1, HS0.out.2.1.1.2 2 (by simp)⟩ (fun hHeld => ?_)
       obtain ⟨Wd, hWd⟩ : ∃ Wd, Wd = W2.drew := ⟨_, rfl⟩
       rw [← hWd] at HS0 ⊢
       try rw [← hWd] at hHeld
       clear hWd
       refine tk (i := 0) (oi := { dst := some 38, op := Op.move (Operand.tmp 5), type := 22, pos := "l07_window.go:74", after := #[], guard := none }) (v := ?_) ?_ ?_
       rotate_left
       ·(intro w hSw; (try dsimp only at hSw); go_simp) <;> with_reducible rfl
       try simp only [Act.put, SL]
       refine tk (i := 1) (oi := { dst := some 39, op := Op.fieldAddr 91 (Operand.tmp 2) 2, type := 0, pos := "l07_window.go:74", after := #[], guard := none }) (v := ?_) ?_ ?_
       rotate_left
       ·(intro w hSw; (try dsimp only at hSw); go_simp) <;> with_reducible rfl
       try simp only [Act.put, SL]
       refine tk (i := 2) (oi := { dst := some 40, op := Op.load 89 (Operand.tmp 39), type := 89, pos := "l07_window.go:74", after := #[{ on := 1, ground := Ground.data }], guard := none }) (v := ?_) ?_ ?_
       rotate_left
       ·(intro w hSw; (try dsimp only at hSw); go_simp) <;> with_reducible rfl
       try simp only [Act.put, SL]
       refine tk (i := 3) (oi := { dst := some 41, op := Op.move (Operand.tmp 8), type := 9, pos := "l07_window.go:74", after := #[], guard := none }) (v := ?_) ?_ ?_
       rotate_left
       ·(intro w hSw; (try dsimp only at hSw); go_simp) <;> with_reducible rfl
       try simp only [Act.put, SL]
       refine tk (i := 4) (oi := { dst := some 42, op := Op.move (Operand.tmp 9), type := 9, pos := "l07_window.go:74", after := #[], guard := none }) (v := ?_) ?_ ?_
       rotate_left
       ·(intro w hSw; (try dsimp only at hSw); go_simp) <;> with_reducible rfl
       try simp only [Act.put, SL]
       refine tk (i := 8) (oi := { dst := some 46, op := Op.move (Operand.tmp 6), type := 22, pos := "l07_window.go:74", after := #[], guard := none }) (v := ?_) ?_ ?_
       rotate_left
       ·(intro w hSw; (try dsimp only at hSw); go_simp) <;> with_reducible rfl
       try simp only [Act.put, SL]
       refine tk (i := 9) (oi := { dst := some 47, op := Op.slice 22 (Operand.tmp 46) (some (Operand.const (Value.int IntKind.i64 1))) none none, type := 22, pos := "l07_window.go:74", after := #[{ on := 8, ground := Ground.data }], guard := none }) (v := ?_) ?_ ?_
       rotate_left
       ·(intro w hSw; (try dsimp only at hSw); go_simp) <;> with_reducible rfl
       try simp only [Act.put, SL]
       refine tk (i := 10) (oi := { dst := some 48, op := Op.move (Operand.tmp 7), type := 22, pos := "l07_window.go:74", after := #[], guard := none }) (v := ?_) ?_ ?_
       rotate_left
       ·(intro w hSw; (try dsimp only at hSw); go_simp) <;> with_reducible rfl
       try simp only [Act.put, SL]
       refine tk (i := 11) (oi := { dst := some 49, op := Op.slice 22 (Operand.tmp 48) (some (Operand.const (Value.int IntKind.i64 1))) none none, type := 22, pos := "l07_window.go:74", after := #[{ on := 10, ground := Ground.data }], guard := none }) (v := ?_) ?_ ?_
       rotate_left
       ·(intro w hSw; (try dsimp only at hSw); go_simp) <;> with_reducible rfl
       try simp only [Act.put, SL]
       refine wpAnyH_ready (rs := [5]) (by kernel_rfl) (by simp) ?_
       refine AllReadyH.cons (o := { dst := some 43, op := Op.call { callee := Callee.value (Operand.tmp 40), args := #[Operand.tmp 41, Operand.tmp 42], argTypes := #[9, 9] }, type := 9, pos := "l07_window.go:74", after := #[{ on := 2, ground := Ground.data }, { on := 3, ground := Ground.data }, { on := 4, ground := Ground.data }], guard := none }) rfl (fun K hK => ?_) AllReadyH.nil
       go_simp
       go_at_call 89
       refine (tmeet X Y _).mono ?_
       rintro e wh ⟨rfl, hwh⟩
       rw [hwh]
       clear hwh wh
       try go_wp2_with fail
       refine hK.out _ _ ⟨HS0.out.1, HS0.out.2.1.1.1, HS0.out.2.1.1.2 2 (by simp)⟩ (fun _ => ?_)
       clear hK K
       try simp only [Act.put, SL]
       refine wpAnyH_ready (rs := [6]) (by kernel_rfl) (by simp) ?_
       refine AllReadyH.cons (o := { dst := some 44, op := Op.buildSlice 22 1 #[(0, Operand.tmp 43)], type := 22, pos := "l07_window.go:74", after := #[{ on := 5, ground := Ground.data }], guard := none }) rfl (fun K hK => ?_) AllReadyH.nil
       go_simp
       try go_wp2_with fail
       have hk2 := @KW.below w ta tl tc _ _ _ _ HS0.out ((Below.refl Wd.heap.size Wd).alloc (Nat.le_refl _) (Obj.cells #[.string X] 9))
       have hz2' := HS0.out.2.1.1.1
       have hz3 := HS0.out.2.2.1.1.1
       refine hK.out _ _ ⟨hk2.1, hk2.2.1.1.1, hk2.2.1.1.2 2 (by simp)⟩ (fun _ => ?_)
       clear hK K
       try simp only [Act.put, SL]
       refine wpAnyH_ready (rs := [7]) (by kernel_rfl) (by simp) ?_
       refine AllReadyH.cons (o := { dst := some 45, op := Op.call { callee := Callee.builtin Builtin.append, args := #[Operand.tmp 38, Operand.tmp 44], argTypes := #[22, 22] }, type := 22, pos := "l07_window.go:74", after := #[{ on := 0, ground := Ground.data }, { on := 6, ground := Ground.data }, { on := 5, ground := Ground.chain }], guard := none }) rfl (fun K hK => ?_) AllReadyH.nil
       refine step_append_own rfl _ _ 22 rfl (w.heap.size + 3) 9 i0 (.string ⟨#[]⟩) 1 16 Tryd.underlying22 hi hz0 hz1 hz2 rfl sz3 _ _ _ rfl hk2.2.2.2 ⟨Wd.heap.size, 0, none⟩ 1 1 [.string X] rfl rfl (one_cell _ _ _) (one_one _) sz1 sz2 (by simp; omega) ?_
       intro v' w4 hown hgrow hne
       have hk3 : KW w ta tl tc (P ++ [X]) v' w4 := @KW.app w ta tl tc _ _ _ _ _ _ hk2 hown hgrow
       refine hK.out _ _ ⟨hk3.1, hk3.2.1.1.1, hk3.2.1.1.2 2 (by simp)⟩ (fun _ => ?_)
       clear hK K
       try simp only [Act.put, SL]
       refine tk (i := 12) (oi := { dst := some 5, op := Op.assign (Operand.tmp 45), type := 22, pos := "l07_window.go:74", after := #[{ on := 7, ground := Ground.data }, { on := 7, ground := Ground.chain }, { on := 0, ground := Ground.phase }, { on := 1, ground := Ground.phase }, { on := 2, ground := Ground.phase }, { on := 3, ground := Ground.phase }, { on := 4, ground := Ground.phase }, { on := 5, ground := Ground.phase }, { on := 6, ground := Ground.phase }, { on := 7, ground := Ground.phase }, { on := 8, ground := Ground.textOnly Departure.lateStores }, { on := 9, ground := Ground.textOnly Departure.lateStoresUnsure }, { on := 10, ground := Ground.textOnly Departure.lateStores }, { on := 11, ground := Ground.textOnly Departure.lateStoresUnsure }], guard := none }) (v := ?_) ?_ ?_
       rotate_left
       ·(intro w hSw; (try dsimp only at hSw); go_simp) <;> with_reducible rfl
       try simp only [Act.put, SL]
       refine tk (i := 13) (oi := { dst := some 6, op := Op.assign (Operand.tmp 47), type := 22, pos := "l07_window.go:74", after := #[{ on := 9, ground := Ground.data }, { on := 12, ground := Ground.chain }, { on := 0, ground := Ground.phase }, { on := 1, ground := Ground.phase }, { on := 2, ground := Ground.phase }, { on := 3, ground := Ground.phase }, { on := 4, ground := Ground.phase }, { on := 5, ground := Ground.phase }, { on := 6, ground := Ground.phase }, { on := 7, ground := Ground.phase }, { on := 8, ground := Ground.phase }, { on := 9, ground := Ground.phase }, { on := 10, ground := Ground.textOnly Departure.lateStores }, { on := 11, ground := Ground.textOnly Departure.lateStoresUnsure }, { on := 12, ground := Ground.phase }], guard := none }) (v := ?_) ?_ ?_
       rotate_left
       ·(intro w hSw; (try dsimp only at hSw); go_simp) <;> with_reducible rfl
       try simp only [Act.put, SL]
       refine tk (i := 14) (oi := { dst := some 7, op := Op.assign (Operand.tmp 49), type := 22, pos := "l07_window.go:74", after := #[{ on := 11, ground := Ground.data }, { on := 13, ground := Ground.chain }, { on := 0, ground := Ground.phase }, { on := 1, ground := Ground.phase }, { on := 2, ground := Ground.phase }, { on := 3, ground := Ground.phase }, { on := 4, ground := Ground.phase }, { on := 5, ground := Ground.phase }, { on := 6, ground := Ground.phase }, { on := 7, ground := Ground.phase }, { on := 8, ground := Ground.phase }, { on := 9, ground := Ground.phase }, { on := 10, ground := Ground.phase }, { on := 11, ground := Ground.phase }, { on := 12, ground := Ground.phase }, { on := 13, ground := Ground.phase }], guard := none }) (v := ?_) ?_ ?_
       rotate_left
       ·(intro w hSw; (try dsimp only at hSw); go_simp) <;> with_reducible rfl
       try simp only [Act.put, SL]
       refine wpAnyH_done (by kernel_rfl) ?_ _
       have HKF := hid_intro hk3
       clear hk3 hk2 hown hgrow hne hz2' hz3 HS0
       go_wp2_with fail
       go_roundw
       case rel => exact ⟨P ++ [X], L, Q, hid_intro (KL2.out hlc), hid_intro (KR1.out (by first | rfl | trivial)), by have := HLn.out; have := HRn.out; simp; omega, hid_intro (by rw [← HR.out, List.append_assoc]; exact congrArg _ HMG.out.symm), HKF⟩
       case measure => first | (simp [slen]; done) | (simp [slen]; omega)
      ·have hr1 : (1 : Int) ≤ (rc : Int) := by omega
       have hr2 : (1 : Int) ≤ (rl : Int) + 1 := by omega
       have HS0 : Hid (KW w ta tl tc P bv W2.drew) := hid_intro (@KW.below w ta tl tc _ _ _ _ HK2.out (Below.refl _ _).drew)
       clear HK2
       refine wp_region_held_drew (S := (fun W => Below w.heap.size w W ∧ w.heap.size < W.heap.size ∧ W.cell? ⟨w.heap.size, 2, none⟩ = some (.func (.func 89) #[] #[]))) (by kernel_rfl) ⟨HS0.out.1, HS0.out.2.1.1.1, HS0.out.2.1.1.2 2 (by simp)⟩ (fun hHeld => ?_)
       obtain ⟨Wd, hWd⟩ : ∃ Wd, Wd = W2.drew := ⟨_, rfl⟩
       rw [← hWd] at HS0 ⊢
       try rw [← hWd] at hHeld
       clear hWd
       refine tk (i := 0) (oi := { dst := some 38, op := Op.move (Operand.tmp 5), type := 22, pos := "l07_window.go:74", after := #[], guard := none }) (v := ?_) ?_ ?_
       rotate_left
       ·(intro w hSw; (try dsimp only at hSw); go_simp) <;> with_reducible rfl
       try simp only [Act.put, SL]
       refine tk (i := 1) (oi := { dst := some 39, op := Op.fieldAddr 91 (Operand.tmp 2) 2, type := 0, pos := "l07_window.go:74", after := #[], guard := none }) (v := ?_) ?_ ?_
       rotate_left
       ·(intro w hSw; (try dsimp only at hSw); go_simp) <;> with_reducible rfl
       try simp only [Act.put, SL]
       refine tk (i := 2) (oi := { dst := some 40, op := Op.load 89 (Operand.tmp 39), type := 89, pos := "l07_window.go:74", after := #[{ on := 1, ground := Ground.data }], guard := none }) (v := ?_) ?_ ?_
       rotate_left
       ·(intro w hSw; (try dsimp only at hSw); go_simp) <;> with_reducible rfl
       try simp only [Act.put, SL]
       refine tk (i := 3) (oi := { dst := some 41, op := Op.move (Operand.tmp 8), type := 9, pos := "l07_window.go:74", after := #[], guard := none }) (v := ?_) ?_ ?_
       rotate_left
       ·(intro w hSw; (try dsimp only at hSw); go_simp) <;> with_reducible rfl
       try simp only [Act.put, SL]
       refine tk (i := 4) (oi := { dst := some 42, op := Op.move (Operand.tmp 9), type := 9, pos := "l07_window.go:74", after := #[], guard := none }) (v := ?_) ?_ ?_
       rotate_left
       ·(intro w hSw; (try dsimp only at hSw); go_simp) <;> with_reducible rfl
       try simp only [Act.put, SL]
       refine tk (i := 8) (oi := { dst := some 46, op := Op.move (Operand.tmp 6), type := 22, pos := "l07_window.go:74", after := #[], guard := none }) (v := ?_) ?_ ?_
       rotate_left
       ·(intro w hSw; (try dsimp only at hSw); go_simp) <;> with_reducible rfl
       try simp only [Act.put, SL]
       refine tk (i := 9) (oi := { dst := some 47, op := Op.slice 22 (Operand.tmp 46) (some (Operand.const (Value.int IntKind.i64 1))) none none, type := 22, pos := "l07_window.go:74", after := #[{ on := 8, ground := Ground.data }], guard := none }) (v := ?_) ?_ ?_
       rotate_left
       ·(intro w hSw; (try dsimp only at hSw); go_simp) <;> with_reducible rfl
       try simp only [Act.put, SL]
       refine tk (i := 10) (oi := { dst := some 48, op := Op.move (Operand.tmp 7), type := 22, pos := "l07_window.go:74", after := #[], guard := none }) (v := ?_) ?_ ?_
       rotate_left
       ·(intro w hSw; (try dsimp only at hSw); go_simp) <;> with_reducible rfl
       try simp only [Act.put, SL]
       refine tk (i := 11) (oi := { dst := some 49, op := Op.slice 22 (Operand.tmp 48) (some (Operand.const (Value.int IntKind.i64 1))) none none, type := 22, pos := "l07_window.go:74", after := #[{ on := 10, ground := Ground.data }], guard := none }) (v := ?_) ?_ ?_
       rotate_left
       ·(intro w hSw; (try dsimp only at hSw); go_simp) <;> with_reducible rfl
       try simp only [Act.put, SL]
       refine wpAnyH_ready (rs := [5]) (by kernel_rfl) (by simp) ?_
       refine AllReadyH.cons (o := { dst := some 43, op := Op.call { callee := Callee.value (Operand.tmp 40), args := #[Operand.tmp 41, Operand.tmp 42], argTypes := #[9, 9] }, type := 9, pos := "l07_window.go:74", after := #[{ on := 2, ground := Ground.data }, { on := 3, ground := Ground.data }, { on := 4, ground := Ground.data }], guard := none }) rfl (fun K hK => ?_) AllReadyH.nil
       go_simp
       go_at_call 89
       refine (tmeet X Y _).mono ?_
       rintro e wh ⟨rfl, hwh⟩
       rw [hwh]
       clear hwh wh
       try go_wp2_with fail
       refine hK.out _ _ ⟨HS0.out.1, HS0.out.2.1.1.1, HS0.out.2.1.1.2 2 (by simp)⟩ (fun _ => ?_)
       clear hK K
       try simp only [Act.put, SL]
       refine wpAnyH_ready (rs := [6]) (by kernel_rfl) (by simp) ?_
       refine AllReadyH.cons (o := { dst := some 44, op := Op.buildSlice 22 1 #[(0, Operand.tmp 43)], type := 22, pos := "l07_window.go:74", after := #[{ on := 5, ground := Ground.data }], guard := none }) rfl (fun K hK => ?_) AllReadyH.nil
       go_simp
       try go_wp2_with fail
       have hk2 := @KW.below w ta tl tc _ _ _ _ HS0.out ((Below.refl Wd.heap.size Wd).alloc (Nat.le_refl _) (Obj.cells #[.string X] 9))
       have hz2' := HS0.out.2.1.1.1
       have hz3 := HS0.out.2.2.1.1.1
       refine hK.out _ _ ⟨hk2.1, hk2.2.1.1.1, hk2.2.1.1.2 2 (by simp)⟩ (fun _ => ?_)
       clear hK K
       try simp only [Act.put, SL]
       refine wpAnyH_ready (rs := [7]) (by kernel_rfl) (by simp) ?_
       refine AllReadyH.cons (o := { dst := some 45, op := Op.call { callee := Callee.builtin Builtin.append, args := #[Operand.tmp 38, Operand.tmp 44], argTypes := #[22, 22] }, type := 22, pos := "l07_window.go:74", after := #[{ on := 0, ground := Ground.data }, { on := 6, ground := Ground.data }, { on := 5, ground := Ground.chain }], guard := none }) rfl (fun K hK => ?_) AllReadyH.nil
       refine step_append_own rfl _ _ 22 rfl (w.heap.size + 3) 9 i0 (.string ⟨#[]⟩) 1 16 Tryd.underlying22 hi hz0 hz1 hz2 rfl sz3 _ _ _ rfl hk2.2.2.2 ⟨Wd.heap.size, 0, none⟩ 1 1 [.string X] rfl rfl (one_cell _ _ _) (one_one _) sz1 sz2 (by simp; omega) ?_
       intro v' w4 hown hgrow hne
       have hk3 : KW w ta tl tc (P ++ [X]) v' w4 := @KW.app w ta tl tc _ _ _ _ _ _ hk2 hown hgrow
       refine hK.out _ _ ⟨hk3.1, hk3.2.1.1.1, hk3.2.1.1.2 2 (by simp)⟩ (fun _ => ?_)
       clear hK K
       try simp only [Act.put, SL]
       refine tk (i := 12) (oi := { dst := some 5, op := Op.assign (Operand.tmp 45), type := 22, pos := "l07_window.go:74", after := #[{ on := 7, ground := Ground.data }, { on := 7, ground := Ground.chain }, { on := 0, ground := Ground.phase }, { on := 1, ground := Ground.phase }, { on := 2, ground := Ground.phase }, { on := 3, ground := Ground.phase }, { on := 4, ground := Ground.phase }, { on := 5, ground := Ground.phase }, { on := 6, ground := Ground.phase }, { on := 7, ground := Ground.phase }, { on := 8, ground := Ground.textOnly Departure.lateStores }, { on := 9, ground := Ground.textOnly Departure.lateStoresUnsure }, { on := 10, ground := Ground.textOnly Departure.lateStores }, { on := 11, ground := Ground.textOnly Departure.lateStoresUnsure }], guard := none }) (v := ?_) ?_ ?_
       rotate_left
       ·(intro w hSw; (try dsimp only at hSw); go_simp) <;> with_reducible rfl
       try simp only [Act.put, SL]
       refine tk (i := 13) (oi := { dst := some 6, op := Op.assign (Operand.tmp 47), type := 22, pos := "l07_window.go:74", after := #[{ on := 9, ground := Ground.data }, { on := 12, ground := Ground.chain }, { on := 0, ground := Ground.phase }, { on := 1, ground := Ground.phase }, { on := 2, ground := Ground.phase }, { on := 3, ground := Ground.phase }, { on := 4, ground := Ground.phase }, { on := 5, ground := Ground.phase }, { on := 6, ground := Ground.phase }, { on := 7, ground := Ground.phase }, { on := 8, ground := Ground.phase }, { on := 9, ground := Ground.phase }, { on := 10, ground := Ground.textOnly Departure.lateStores }, { on := 11, ground := Ground.textOnly Departure.lateStoresUnsure }, { on := 12, ground := Ground.phase }], guard := none }) (v := ?_) ?_ ?_
       rotate_left
       ·(intro w hSw; (try dsimp only at hSw); go_simp) <;> with_reducible rfl
       try simp only [Act.put, SL]
       refine tk (i := 14) (oi := { dst := some 7, op := Op.assign (Operand.tmp 49), type := 22, pos := "l07_window.go:74", after := #[{ on := 11, ground := Ground.data }, { on := 13, ground := Ground.chain }, { on := 0, ground := Ground.phase }, { on := 1, ground := Ground.phase }, { on := 2, ground := Ground.phase }, { on := 3, ground := Ground.phase }, { on := 4, ground := Ground.phase }, { on := 5, ground := Ground.phase }, { on := 6, ground := Ground.phase }, { on := 7, ground := Ground.phase }, { on := 8, ground := Ground.phase }, { on := 9, ground := Ground.phase }, { on := 10, ground := Ground.phase }, { on := 11, ground := Ground.phase }, { on := 12, ground := Ground.phase }, { on := 13, ground := Ground.phase }], guard := none }) (v := ?_) ?_ ?_
       rotate_left
       ·(intro w hSw; (try dsimp only at hSw); go_simp) <;> with_reducible rfl
       try simp only [Act.put, SL]
       refine wpAnyH_done (by kernel_rfl) ?_ _
       have HKF := hid_intro hk3
       clear hk3 hk2 hown hgrow hne hz2' hz3 HS0
       go_wp2_with fail
       go_roundw
       case rel => exact ⟨P ++ [X], L, Q, hid_intro (KL2.out hlc), hid_intro (KR2.out hrc), by have := HLn.out; have := HRn.out; simp; omega, hid_intro (by rw [← HR.out, List.append_assoc]; exact congrArg _ HMG.out.symm), HKF⟩
       case measure => first | (simp [slen]; done) | (simp [slen]; omega)
    ·have hcm : cmpT X Y = 1 := by unfold cmpT; rw [hlt, hgt]; rfl
     have HMG : Hid (mrg lt fstT (X :: L) (Y :: Q) = Y :: mrg lt fstT (X :: L) Q) := hid_intro (by rw [mrg, if_neg (by rw [hlt]; simp), if_pos hgt])
     have HC : Hid (∀ w, Calls Tryd.prog 105 #[.string X, .string Y] w fun e w' => e = .returned (.int .i64 (1)) ∧ w' = w) := hid_intro (fun w => by have h := cmpS X Y w; rw [hcm] at h; exact h)
     clear hcm
     try clear hlt
     try clear hgt
     go_wp2_with fail
     go_quiet (fail)
     go_wp2_with fail
     obtain ⟨W1, hW1⟩ : ∃ W1, W1 = wr.drewN nq := ⟨_, rfl⟩
     rw [← hW1]
     have HK1 : Hid (KW w ta tl tc P bv W1) := hid_intro (by rw [hW1]; exact @KW.below w ta tl tc _ _ _ _ HK.out (bdN2 (Below.refl _ _) _))
     clear hW1 HK gx gy cX cY
     have x1 : W1.cell? ⟨w.heap.size, 1, none⟩ = some (.func (.func 88) #[] #[]) := HK1.out.2.1.1.2 1 (by simp)
     have xl := HK1.out.2.1.1.1
     go_quiet ((first | (go_at_call 88; exact Calls.quiet_of_same (HKEY.out _ _)) | (go_at_call 105; exact Calls.quiet_of_same (HC.out _))))
     go_wp2_with fail
     obtain ⟨W2, hW2⟩ : ∃ W2, W2 = W1.drewN nq := ⟨_, rfl⟩
     rw [← hW2]
     have HK2 : Hid (KW w ta tl tc P bv W2) := hid_intro (by rw [hW2]; exact @KW.below w ta tl tc _ _ _ _ HK1.out (bdN2 (Below.refl _ _) _))
     clear hW2 HK1 x1 xl HC
     by_cases hrc : rc = 1
     ·have hr1 : rc = 1 := hrc
      obtain rfl : rl = 0 := by omega
      subst hr1
      have HS0 : Hid (KW w ta tl tc P bv W2.drew) := hid_intro (@KW.below w ta tl tc _ _ _ _ HK2.out (Below.refl _ _).drew)
      clear HK2
      refine wp_region_held_drew (S := (fun W => Below w.heap.size w W ∧ w.heap.size < W.heap.size ∧ W.cell? ⟨w.heap.size, 2, none⟩ = some (.func (.func 89) #[] #[]))) (by kernel_rfl) ⟨HS0.out.1, HS0.out.2.1.1.1, HS0.out.2.1.1.2 2 (by simp)⟩ (fun hHeld => ?_)
      obtain ⟨Wd, hWd⟩ : ∃ Wd, Wd = W2.drew := ⟨_, rfl⟩
      rw [← hWd] at HS0 ⊢
      try rw [← hWd] at hHeld
      clear hWd
      refine tk (i := 0) (oi := { dst := some 62, op := Op.move (Operand.tmp 5), type := 22, pos := "l07_window.go:72", after := #[], guard := none }) (v := ?_) ?_ ?_
      rotate_left
      ·(intro w hSw; (try dsimp only at hSw); go_simp) <;> with_reducible rfl
      try simp only [Act.put, SL]
      refine tk (i := 1) (oi := { dst := some 63, op := Op.move (Operand.tmp 9), type := 9, pos := "l07_window.go:72", after := #[], guard := none }) (v := ?_) ?_ ?_
      rotate_left
      ·(intro w hSw; (try dsimp only at hSw); go_simp) <;> with_reducible rfl
      try simp only [Act.put, SL]
      refine tk (i := 4) (oi := { dst := some 66, op := Op.move (Operand.tmp 7), type := 22, pos := "l07_window.go:72", after := #[], guard := none }) (v := ?_) ?_ ?_
      rotate_left
      ·(intro w hSw; (try dsimp only at hSw); go_simp) <;> with_reducible rfl
      try simp only [Act.put, SL]
      refine tk (i := 5) (oi := { dst := some 67, op := Op.slice 22 (Operand.tmp 66) (some (Operand.const (Value.int IntKind.i64 1))) none none, type := 22, pos := "l07_window.go:72", after := #[{ on := 4, ground := Ground.data }], guard := none }) (v := ?_) ?_ ?_
      rotate_left
      ·(intro w hSw; (try dsimp only at hSw); go_simp) <;> with_reducible rfl
      try simp only [Act.put, SL]
      refine wpAnyH_ready (rs := [2]) (by kernel_rfl) (by simp) ?_
      refine AllReadyH.cons (o := { dst := some 64, op := Op.buildSlice 22 1 #[(0, Operand.tmp 63)], type := 22, pos := "l07_window.go:72", after := #[{ on := 1, ground := Ground.data }], guard := none }) rfl (fun K hK => ?_) AllReadyH.nil
      go_simp
      try go_wp2_with fail
      have hk2 := @KW.below w ta tl tc _ _ _ _ HS0.out ((Below.refl Wd.heap.size Wd).alloc (Nat.le_refl _) (Obj.cells #[.string Y] 9))
      have hz2' := HS0.out.2.1.1.1
      have hz3 := HS0.out.2.2.1.1.1
      refine hK.out _ _ ⟨hk2.1, hk2.2.1.1.1, hk2.2.1.1.2 2 (by simp)⟩ (fun _ => ?_)
      clear hK K
      try simp only [Act.put, SL]
      refine wpAnyH_ready (rs := [3]) (by kernel_rfl) (by simp) ?_
      refine AllReadyH.cons (o := { dst := some 65, op := Op.call { callee := Callee.builtin Builtin.append, args := #[Operand.tmp 62, Operand.tmp 64], argTypes := #[22, 22] }, type := 22, pos := "l07_window.go:72", after := #[{ on := 0, ground := Ground.data }, { on := 2, ground := Ground.data }], guard := none }) rfl (fun K hK => ?_) AllReadyH.nil
      refine step_append_own rfl _ _ 22 rfl (w.heap.size + 3) 9 i0 (.string ⟨#[]⟩) 1 16 Tryd.underlying22 hi hz0 hz1 hz2 rfl sz3 _ _ _ rfl hk2.2.2.2 ⟨Wd.heap.size, 0, none⟩ 1 1 [.string Y] rfl rfl (one_cell _ _ _) (one_one _) sz1 sz2 (by simp; omega) ?_
      intro v' w4 hown hgrow hne
      have hk3 : KW w ta tl tc (P ++ [Y]) v' w4 := @KW.app w ta tl tc _ _ _ _ _ _ hk2 hown hgrow
      refine hK.out _ _ ⟨hk3.1, hk3.2.1.1.1, hk3.2.1.1.2 2 (by simp)⟩ (fun _ => ?_)
      clear hK K
      try simp only [Act.put, SL]
      refine tk (i := 6) (oi := { dst := some 5, op := Op.assign (Operand.tmp 65), type := 22, pos := "l07_window.go:72", after := #[{ on := 3, ground := Ground.data }, { on := 3, ground := Ground.chain }, { on := 0, ground := Ground.phase }, { on := 1, ground := Ground.phase }, { on := 2, ground := Ground.phase }, { on := 3, ground := Ground.phase }, { on := 4, ground := Ground.textOnly Departure.lateStores }, { on := 5, ground := Ground.textOnly Departure.lateStoresUnsure }], guard := none }) (v := ?_) ?_ ?_
      rotate_left
      ·(intro w hSw; (try dsimp only at hSw); go_simp) <;> with_reducible rfl
      try simp only [Act.put, SL]
      refine tk (i := 7) (oi := { dst := some 7, op := Op.assign (Operand.tmp 67), type := 22, pos := "l07_window.go:72", after := #[{ on := 5, ground := Ground.data }, { on := 6, ground := Ground.chain }, { on := 0, ground := Ground.phase }, { on := 1, ground := Ground.phase }, { on := 2, ground := Ground.phase }, { on := 3, ground := Ground.phase }, { on := 4, ground := Ground.phase }, { on := 5, ground := Ground.phase }, { on := 6, ground := Ground.phase }], guard := none }) (v := ?_) ?_ ?_
      rotate_left
      ·(intro w hSw; (try dsimp only at hSw); go_simp) <;> with_reducible rfl
      try simp only [Act.put, SL]
      refine wpAnyH_done (by kernel_rfl) ?_ _
      have HKF := hid_intro hk3
      clear hk3 hk2 hown hgrow hne hz2' hz3 HS0
      go_wp2_with fail
      go_roundw
      case rel => exact ⟨P ++ [Y], (X :: L), Q, HLL, hid_intro (KR1.out (by first | rfl | trivial)), by have := HLn.out; have := HRn.out; simp; omega, hid_intro (by rw [← HR.out, List.append_assoc]; exact congrArg _ HMG.out.symm), HKF⟩
      case measure => first | (simp [slen]; done) | (simp [slen]; omega)
     ·have hr1 : (1 : Int) ≤ (rc : Int) := by omega
      have hr2 : (1 : Int) ≤ (rl : Int) + 1 := by omega
      have HS0 : Hid (KW w ta tl tc P bv W2.drew) := hid_intro (@KW.below w ta tl tc _ _ _ _ HK2.out (Below.refl _ _).drew)
      clear HK2
      refine wp_region_held_drew (S := (fun W => Below w.heap.size w W ∧ w.heap.size < W.heap.size ∧ W.cell? ⟨w.heap.size, 2, none⟩ = some (.func (.func 89) #[] #[]))) (by kernel_rfl) ⟨HS0.out.1, HS0.out.2.1.1.1, HS0.out.2.1.1.2 2 (by simp)⟩ (fun hHeld => ?_)
      obtain ⟨Wd, hWd⟩ : ∃ Wd, Wd = W2.drew := ⟨_, rfl⟩
      rw [← hWd] at HS0 ⊢
      try rw [← hWd] at hHeld
      clear hWd
      refine tk (i := 0) (oi := { dst := some 62, op := Op.move (Operand.tmp 5), type := 22, pos := "l07_window.go:72", after := #[], guard := none }) (v := ?_) ?_ ?_
      rotate_left
      ·(intro w hSw; (try dsimp only at hSw); go_simp) <;> with_reducible rfl
      try simp only [Act.put, SL]
      refine tk (i := 1) (oi := { dst := some 63, op := Op.move (Operand.tmp 9), type := 9, pos := "l07_window.go:72", after := #[], guard := none }) (v := ?_) ?_ ?_
      rotate_left
      ·(intro w hSw; (try dsimp only at hSw); go_simp) <;> with_reducible rfl
      try simp only [Act.put, SL]
      refine tk (i := 4) (oi := { dst := some 66, op := Op.move (Operand.tmp 7), type := 22, pos := "l07_window.go:72", after := #[], guard := none }) (v := ?_) ?_ ?_
      rotate_left
      ·(intro w hSw; (try dsimp only at hSw); go_simp) <;> with_reducible rfl
      try simp only [Act.put, SL]
      refine tk (i := 5) (oi := { dst := some 67, op := Op.slice 22 (Operand.tmp 66) (some (Operand.const (Value.int IntKind.i64 1))) none none, type := 22, pos := "l07_window.go:72", after := #[{ on := 4, ground := Ground.data }], guard := none }) (v := ?_) ?_ ?_
      rotate_left
      ·(intro w hSw; (try dsimp only at hSw); go_simp) <;> with_reducible rfl
      try simp only [Act.put, SL]
      refine wpAnyH_ready (rs := [2]) (by kernel_rfl) (by simp) ?_
      refine AllReadyH.cons (o := { dst := some 64, op := Op.buildSlice 22 1 #[(0, Operand.tmp 63)], type := 22, pos := "l07_window.go:72", after := #[{ on := 1, ground := Ground.data }], guard := none }) rfl (fun K hK => ?_) AllReadyH.nil
      go_simp
      try go_wp2_with fail
      have hk2 := @KW.below w ta tl tc _ _ _ _ HS0.out ((Below.refl Wd.heap.size Wd).alloc (Nat.le_refl _) (Obj.cells #[.string Y] 9))
      have hz2' := HS0.out.2.1.1.1
      have hz3 := HS0.out.2.2.1.1.1
      refine hK.out _ _ ⟨hk2.1, hk2.2.1.1.1, hk2.2.1.1.2 2 (by simp)⟩ (fun _ => ?_)
      clear hK K
      try simp only [Act.put, SL]
      refine wpAnyH_ready (rs := [3]) (by kernel_rfl) (by simp) ?_
      refine AllReadyH.cons (o := { dst := some 65, op := Op.call { callee := Callee.builtin Builtin.append, args := #[Operand.tmp 62, Operand.tmp 64], argTypes := #[22, 22] }, type := 22, pos := "l07_window.go:72", after := #[{ on := 0, ground := Ground.data }, { on := 2, ground := Ground.data }], guard := none }) rfl (fun K hK => ?_) AllReadyH.nil
      refine step_append_own rfl _ _ 22 rfl (w.heap.size + 3) 9 i0 (.string ⟨#[]⟩) 1 16 Tryd.underlying22 hi hz0 hz1 hz2 rfl sz3 _ _ _ rfl hk2.2.2.2 ⟨Wd.heap.size, 0, none⟩ 1 1 [.string Y] rfl rfl (one_cell _ _ _) (one_one _) sz1 sz2 (by simp; omega) ?_
      intro v' w4 hown hgrow hne
      have hk3 : KW w ta tl tc (P ++ [Y]) v' w4 := @KW.app w ta tl tc _ _ _ _ _ _ hk2 hown hgrow
      refine hK.out _ _ ⟨hk3.1, hk3.2.1.1.1, hk3.2.1.1.2 2 (by simp)⟩ (fun _ => ?_)
      clear hK K
      try simp only [Act.put, SL]
      refine tk (i := 6) (oi := { dst := some 5, op := Op.assign (Operand.tmp 65), type := 22, pos := "l07_window.go:72", after := #[{ on := 3, ground := Ground.data }, { on := 3, ground := Ground.chain }, { on := 0, ground := Ground.phase }, { on := 1, ground := Ground.phase }, { on := 2, ground := Ground.phase }, { on := 3, ground := Ground.phase }, { on := 4, ground := Ground.textOnly Departure.lateStores }, { on := 5, ground := Ground.textOnly Departure.lateStoresUnsure }], guard := none }) (v := ?_) ?_ ?_
      rotate_left
      ·(intro w hSw; (try dsimp only at hSw); go_simp) <;> with_reducible rfl
      try simp only [Act.put, SL]
      refine tk (i := 7) (oi := { dst := some 7, op := Op.assign (Operand.tmp 67), type := 22, pos := "l07_window.go:72", after := #[{ on := 5, ground := Ground.data }, { on := 6, ground := Ground.chain }, { on := 0, ground := Ground.phase }, { on := 1, ground := Ground.phase }, { on := 2, ground := Ground.phase }, { on := 3, ground := Ground.phase }, { on := 4, ground := Ground.phase }, { on := 5, ground := Ground.phase }, { on := 6, ground := Ground.phase }], guard := none }) (v := ?_) ?_ ?_
      rotate_left
      ·(intro w hSw; (try dsimp only at hSw); go_simp) <;> with_reducible rfl
      try simp only [Act.put, SL]
      refine wpAnyH_done (by kernel_rfl) ?_ _
      have HKF := hid_intro hk3
      clear hk3 hk2 hown hgrow hne hz2' hz3 HS0
      go_wp2_with fail
      go_roundw
      case rel => exact ⟨P ++ [Y], (X :: L), Q, HLL, hid_intro (KR2.out hrc), by have := HLn.out; have := HRn.out; simp; omega, hid_intro (by rw [← HR.out, List.append_assoc]; exact congrArg _ HMG.out.symm), HKF⟩
      case measure => first | (simp [slen]; done) | (simp [slen]; omega)
   ·have hcm : cmpT X Y = -1 := by unfold cmpT; rw [hlt]; rfl
    have HMG : Hid (mrg lt fstT (X :: L) (Y :: Q) = X :: mrg lt fstT L (Y :: Q)) := hid_intro (by rw [mrg, if_pos hlt])
    have HC : Hid (∀ w, Calls Tryd.prog 105 #[.string X, .string Y] w fun e w' => e = .returned (.int .i64 (-1)) ∧ w' = w) := hid_intro (fun w => by have h := cmpS X Y w; rw [hcm] at h; exact h)
    clear hcm
    try clear hlt
    try clear hgt
    go_wp2_with fail
    go_quiet (fail)
    go_wp2_with fail
    obtain ⟨W1, hW1⟩ : ∃ W1, W1 = wr.drewN nq := ⟨_, rfl⟩
    rw [← hW1]
    have HK1 : Hid (KW w ta tl tc P bv W1) := hid_intro (by rw [hW1]; exact @KW.below w ta tl tc _ _ _ _ HK.out (bdN2 (Below.refl _ _) _))
    clear hW1 HK gx gy cX cY
    have x1 : W1.cell? ⟨w.heap.size, 1, none⟩ = some (.func (.func 88) #[] #[]) := HK1.out.2.1.1.2 1 (by simp)
    have xl := HK1.out.2.1.1.1
    go_quiet ((first | (go_at_call 88; exact Calls.quiet_of_same (HKEY.out _ _)) | (go_at_call 105; exact Calls.quiet_of_same (HC.out _))))
    go_wp2_with fail
    obtain ⟨W2, hW2⟩ : ∃ W2, W2 = W1.drewN nq := ⟨_, rfl⟩
    rw [← hW2]
    have HK2 : Hid (KW w ta tl tc P bv W2) := hid_intro (by rw [hW2]; exact @KW.below w ta tl tc _ _ _ _ HK1.out (bdN2 (Below.refl _ _) _))
    clear hW2 HK1 x1 xl HC
    by_cases hlc : lc = 1
    ·have hl1 : lc = 1 := hlc
     obtain rfl : ll = 0 := by omega
     subst hl1
     have HS0 : Hid (KW w ta tl tc P bv W2.drew) := hid_intro (@KW.below w ta tl tc _ _ _ _ HK2.out (Below.refl _ _).drew)
     clear HK2
     refine wp_region_held_drew (S := (fun W => Below w.heap.size w W ∧ w.heap.size < W.heap.size ∧ W.cell? ⟨w.heap.size, 2, none⟩ = some (.func (.func 89) #[] #[]))) (by kernel_rfl) ⟨HS0.out.1, HS0.out.2.1.1.1, HS0.out.2.1.1.2 2 (by simp)⟩ (fun hHeld => ?_)
     obtain ⟨Wd, hWd⟩ : ∃ Wd, Wd = W2.drew := ⟨_, rfl⟩
     rw [← hWd] at HS0 ⊢
     try rw [← hWd] at hHeld
     clear hWd
     refine tk (i := 0) (oi := { dst := some 53, op := Op.move (Operand.tmp 5), type := 22, pos := "l07_window.go:70", after := #[], guard := none }) (v := ?_) ?_ ?_
     rotate_left
     ·(intro w hSw; (try dsimp only at hSw); go_simp) <;> with_reducible rfl
     try simp only [Act.put, SL]
     refine tk (i := 1) (oi := { dst := some 54, op := Op.move (Operand.tmp 8), type := 9, pos := "l07_window.go:70", after := #[], guard := none }) (v := ?_) ?_ ?_
     rotate_left
     ·(intro w hSw; (try dsimp only at hSw); go_simp) <;> with_reducible rfl
     try simp only [Act.put, SL]
     refine tk (i := 4) (oi := { dst := some 57, op := Op.move (Operand.tmp 6), type := 22, pos := "l07_window.go:70", after := #[], guard := none }) (v := ?_) ?_ ?_
     rotate_left
     ·(intro w hSw; (try dsimp only at hSw); go_simp) <;> with_reducible rfl
     try simp only [Act.put, SL]
     refine tk (i := 5) (oi := { dst := some 58, op := Op.slice 22 (Operand.tmp 57) (some (Operand.const (Value.int IntKind.i64 1))) none none, type := 22, pos := "l07_window.go:70", after := #[{ on := 4, ground := Ground.data }], guard := none }) (v := ?_) ?_ ?_
     rotate_left
     ·(intro w hSw; (try dsimp only at hSw); go_simp) <;> with_reducible rfl
     try simp only [Act.put, SL]
     refine wpAnyH_ready (rs := [2]) (by kernel_rfl) (by simp) ?_
     refine AllReadyH.cons (o := { dst := some 55, op := Op.buildSlice 22 1 #[(0, Operand.tmp 54)], type := 22, pos := "l07_window.go:70", after := #[{ on := 1, ground := Ground.data }], guard := none }) rfl (fun K hK => ?_) AllReadyH.nil
     go_simp
     try go_wp2_with fail
     have hk2 := @KW.below w ta tl tc _ _ _ _ HS0.out ((Below.refl Wd.heap.size Wd).alloc (Nat.le_refl _) (Obj.cells #[.string X] 9))
     have hz2' := HS0.out.2.1.1.1
     have hz3 := HS0.out.2.2.1.1.1
     refine hK.out _ _ ⟨hk2.1, hk2.2.1.1.1, hk2.2.1.1.2 2 (by simp)⟩ (fun _ => ?_)
     clear hK K
     try simp only [Act.put, SL]
     refine wpAnyH_ready (rs := [3]) (by kernel_rfl) (by simp) ?_
     refine AllReadyH.cons (o := { dst := some 56, op := Op.call { callee := Callee.builtin Builtin.append, args := #[Operand.tmp 53, Operand.tmp 55], argTypes := #[22, 22] }, type := 22, pos := "l07_window.go:70", after := #[{ on := 0, ground := Ground.data }, { on := 2, ground := Ground.data }], guard := none }) rfl (fun K hK => ?_) AllReadyH.nil
     refine step_append_own rfl _ _ 22 rfl (w.heap.size + 3) 9 i0 (.string ⟨#[]⟩) 1 16 Tryd.underlying22 hi hz0 hz1 hz2 rfl sz3 _ _ _ rfl hk2.2.2.2 ⟨Wd.heap.size, 0, none⟩ 1 1 [.string X] rfl rfl (one_cell _ _ _) (one_one _) sz1 sz2 (by simp; omega) ?_
     intro v' w4 hown hgrow hne
     have hk3 : KW w ta tl tc (P ++ [X]) v' w4 := @KW.app w ta tl tc _ _ _ _ _ _ hk2 hown hgrow
     refine hK.out _ _ ⟨hk3.1, hk3.2.1.1.1, hk3.2.1.1.2 2 (by simp)⟩ (fun _ => ?_)
     clear hK K
     try simp only [Act.put, SL]
     refine tk (i := 6) (oi := { dst := some 5, op := Op.assign (Operand.tmp 56), type := 22, pos := "l07_window.go:70", after := #[{ on := 3, ground := Ground.data }, { on := 3, ground := Ground.chain }, { on := 0, ground := Ground.phase }, { on := 1, ground := Ground.phase }, { on := 2, ground := Ground.phase }, { on := 3, ground := Ground.phase }, { on := 4, ground := Ground.textOnly Departure.lateStores }, { on := 5, ground := Ground.textOnly Departure.lateStoresUnsure }], guard := none }) (v := ?_) ?_ ?_
     rotate_left
     ·(intro w hSw; (try dsimp only at hSw); go_simp) <;> with_reducible rfl
     try simp only [Act.put, SL]
     refine tk (i := 7) (oi := { dst := some 6, op := Op.assign (Operand.tmp 58), type := 22, pos := "l07_window.go:70", after := #[{ on := 5, ground := Ground.data }, { on := 6, ground := Ground.chain }, { on := 0, ground := Ground.phase }, { on := 1, ground := Ground.phase }, { on := 2, ground := Ground.phase }, { on := 3, ground := Ground.phase }, { on := 4, ground := Ground.phase }, { on := 5, ground := Ground.phase }, { on := 6, ground := Ground.phase }], guard := none }) (v := ?_) ?_ ?_
     rotate_left
     ·(intro w hSw; (try dsimp only at hSw); go_simp) <;> with_reducible rfl
     try simp only [Act.put, SL]
     refine wpAnyH_done (by kernel_rfl) ?_ _
     have HKF := hid_intro hk3
     clear hk3 hk2 hown hgrow hne hz2' hz3 HS0
     go_wp2_with fail
     go_roundw
     case rel => exact ⟨P ++ [X], L, (Y :: Q), hid_intro (KL1.out (by first | rfl | trivial)), HQQ, by have := HLn.out; have := HRn.out; simp; omega, hid_intro (by rw [← HR.out, List.append_assoc]; exact congrArg _ HMG.out.symm), HKF⟩
     case measure => first | (simp [slen]; done) | (simp [slen]; omega)
    ·have hl1 : (1 : Int) ≤ (lc : Int) := by omega
     have hl2 : (1 : Int) ≤ (ll : Int) + 1 := by omega
     have HS0 : Hid (KW w ta tl tc P bv W2.drew) := hid_intro (@KW.below w ta tl tc _ _ _ _ HK2.out (Below.refl _ _).drew)
     clear HK2
     refine wp_region_held_drew (S := (fun W => Below w.heap.size w W ∧ w.heap.size < W.heap.size ∧ W.cell? ⟨w.heap.size, 2, none⟩ = some (.func (.func 89) #[] #[]))) (by kernel_rfl) ⟨HS0.out.1, HS0.out.2.1.1.1, HS0.out.2.1.1.2 2 (by simp)⟩ (fun hHeld => ?_)
     obtain ⟨Wd, hWd⟩ : ∃ Wd, Wd = W2.drew := ⟨_, rfl⟩
     rw [← hWd] at HS0 ⊢
     try rw [← hWd] at hHeld
     clear hWd
     refine tk (i := 0) (oi := { dst := some 53, op := Op.move (Operand.tmp 5), type := 22, pos := "l07_window.go:70", after := #[], guard := none }) (v := ?_) ?_ ?_
     rotate_left
     ·(intro w hSw; (try dsimp only at hSw); go_simp) <;> with_reducible rfl
     try simp only [Act.put, SL]
     refine tk (i := 1) (oi := { dst := some 54, op := Op.move (Operand.tmp 8), type := 9, pos := "l07_window.go:70", after := #[], guard := none }) (v := ?_) ?_ ?_
     rotate_left
     ·(intro w hSw; (try dsimp only at hSw); go_simp) <;> with_reducible rfl
     try simp only [Act.put, SL]
     refine tk (i := 4) (oi := { dst := some 57, op := Op.move (Operand.tmp 6), type := 22, pos := "l07_window.go:70", after := #[], guard := none }) (v := ?_) ?_ ?_
     rotate_left
     ·(intro w hSw; (try dsimp only at hSw); go_simp) <;> with_reducible rfl
     try simp only [Act.put, SL]
     refine tk (i := 5) (oi := { dst := some 58, op := Op.slice 22 (Operand.tmp 57) (some (Operand.const (Value.int IntKind.i64 1))) none none, type := 22, pos := "l07_window.go:70", after := #[{ on := 4, ground := Ground.data }], guard := none }) (v := ?_) ?_ ?_
     rotate_left
     ·(intro w hSw; (try dsimp only at hSw); go_simp) <;> with_reducible rfl
     try simp only [Act.put, SL]
     refine wpAnyH_ready (rs := [2]) (by kernel_rfl) (by simp) ?_
     refine AllReadyH.cons (o := { dst := some 55, op := Op.buildSlice 22 1 #[(0, Operand.tmp 54)], type := 22, pos := "l07_window.go:70", after := #[{ on := 1, ground := Ground.data }], guard := none }) rfl (fun K hK => ?_) AllReadyH.nil
     go_simp
     try go_wp2_with fail
     have hk2 := @KW.below w ta tl tc _ _ _ _ HS0.out ((Below.refl Wd.heap.size Wd).alloc (Nat.le_refl _) (Obj.cells #[.string X] 9))
     have hz2' := HS0.out.2.1.1.1
     have hz3 := HS0.out.2.2.1.1.1
     refine hK.out _ _ ⟨hk2.1, hk2.2.1.1.1, hk2.2.1.1.2 2 (by simp)⟩ (fun _ => ?_)
     clear hK K
     try simp only [Act.put, SL]
     refine wpAnyH_ready (rs := [3]) (by kernel_rfl) (by simp) ?_
     refine AllReadyH.cons (o := { dst := some 56, op := Op.call { callee := Callee.builtin Builtin.append, args := #[Operand.tmp 53, Operand.tmp 55], argTypes := #[22, 22] }, type := 22, pos := "l07_window.go:70", after := #[{ on := 0, ground := Ground.data }, { on := 2, ground := Ground.data }], guard := none }) rfl (fun K hK => ?_) AllReadyH.nil
     refine step_append_own rfl _ _ 22 rfl (w.heap.size + 3) 9 i0 (.string ⟨#[]⟩) 1 16 Tryd.underlying22 hi hz0 hz1 hz2 rfl sz3 _ _ _ rfl hk2.2.2.2 ⟨Wd.heap.size, 0, none⟩ 1 1 [.string X] rfl rfl (one_cell _ _ _) (one_one _) sz1 sz2 (by simp; omega) ?_
     intro v' w4 hown hgrow hne
     have hk3 : KW w ta tl tc (P ++ [X]) v' w4 := @KW.app w ta tl tc _ _ _ _ _ _ hk2 hown hgrow
     refine hK.out _ _ ⟨hk3.1, hk3.2.1.1.1, hk3.2.1.1.2 2 (by simp)⟩ (fun _ => ?_)
     clear hK K
     try simp only [Act.put, SL]
     refine tk (i := 6) (oi := { dst := some 5, op := Op.assign (Operand.tmp 56), type := 22, pos := "l07_window.go:70", after := #[{ on := 3, ground := Ground.data }, { on := 3, ground := Ground.chain }, { on := 0, ground := Ground.phase }, { on := 1, ground := Ground.phase }, { on := 2, ground := Ground.phase }, { on := 3, ground := Ground.phase }, { on := 4, ground := Ground.textOnly Departure.lateStores }, { on := 5, ground := Ground.textOnly Departure.lateStoresUnsure }], guard := none }) (v := ?_) ?_ ?_
     rotate_left
     ·(intro w hSw; (try dsimp only at hSw); go_simp) <;> with_reducible rfl
     try simp only [Act.put, SL]
     refine tk (i := 7) (oi := { dst := some 6, op := Op.assign (Operand.tmp 58), type := 22, pos := "l07_window.go:70", after := #[{ on := 5, ground := Ground.data }, { on := 6, ground := Ground.chain }, { on := 0, ground := Ground.phase }, { on := 1, ground := Ground.phase }, { on := 2, ground := Ground.phase }, { on := 3, ground := Ground.phase }, { on := 4, ground := Ground.phase }, { on := 5, ground := Ground.phase }, { on := 6, ground := Ground.phase }], guard := none }) (v := ?_) ?_ ?_
     rotate_left
     ·(intro w hSw; (try dsimp only at hSw); go_simp) <;> with_reducible rfl
     try simp only [Act.put, SL]
     refine wpAnyH_done (by kernel_rfl) ?_ _
     have HKF := hid_intro hk3
     clear hk3 hk2 hown hgrow hne hz2' hz3 HS0
     go_wp2_with fail
     go_roundw
     case rel => exact ⟨P ++ [X], L, (Y :: Q), hid_intro (KL2.out hlc), HQQ, by have := HLn.out; have := HRn.out; simp; omega, hid_intro (by rw [← HR.out, List.append_assoc]; exact congrArg _ HMG.out.symm), HKF⟩
     case measure => first | (simp [slen]; done) | (simp [slen]; omega)

end WinR
end Go.Proofs.YtnlmpejgiakepaaDoor
namespace Go.Proofs.YtnlmpejgiakepaaDoor
open Go.ChangeShapes Go.WideShapes Go.ChangeAt Go.RowKit
set_option linter.unusedVariables false
namespace WinR
theorem nanI (x : Int) (w : World) : Calls Tryd.prog 117 #[.int .i64 x] w fun e w' => e = .returned (.bool false) ∧ w' = w := by
 go_enter Tryd.func117, Tryd.ntmps117
 go_wp2
 go_ret
 exact ⟨by simp, rfl⟩
/-- How two hours stand. -/
def cmpH (x y : Int) : Int := if x < y then -1 else if y < x then 1 else 0
theorem cmpI (x y : Int) (w : World) : Calls Tryd.prog 106 #[.int .i64 x, .int .i64 y] w fun e w' => e = .returned (.int .i64 (cmpH x y)) ∧ w' = w := by
 have HN := hid_intro nanI
 unfold cmpH
 rcases (show x < y ∨ (¬ x < y ∧ y < x) ∨ (¬ x < y ∧ ¬ y < x) by omega) with h1 | ⟨h1, h2⟩ | ⟨h1, h2⟩
 ·rw [if_pos h1]
  go_enter Tryd.func106, Tryd.ntmps106
  go_wp2_with (first | (go_at_call 117; refine (HN.out _ _).mono ?_; rintro e w' ⟨rfl, rfl⟩))
  go_ret
  exact ⟨by first | rfl | simp, rfl⟩
 ·rw [if_neg h1, if_pos h2]
  go_enter Tryd.func106, Tryd.ntmps106
  go_wp2_with (first | (go_at_call 117; refine (HN.out _ _).mono ?_; rintro e w' ⟨rfl, rfl⟩))
  go_ret
  exact ⟨by first | rfl | simp, rfl⟩
 ·rw [if_neg h1, if_neg h2]
  go_enter Tryd.func106, Tryd.ntmps106
  go_wp2_with (first | (go_at_call 117; refine (HN.out _ _).mono ?_; rintro e w' ⟨rfl, rfl⟩))
  go_ret
  exact ⟨by first | rfl | simp, rfl⟩
theorem hmeet (x y : H) (w : World) (hx : 0 ≤ x.s ∧ x.s ≤ 1000000000000000) (hy : 0 ≤ y.s ∧ y.s ≤ 1000000000000000) : Calls Tryd.prog 91 #[.agg #[.int .i64 x.h, .int .i64 x.s], .agg #[.int .i64 y.h, .int .i64 y.s]] w fun e w' => e = .returned (.agg #[.int .i64 (addH x y).h, .int .i64 (addH x y).s]) ∧ Below w.heap.size w w' := by
 obtain ⟨a, s⟩ := x
 obtain ⟨b, t⟩ := y
 unfold addH
 dsimp only at *
 go_enter Tryd.func91, Tryd.ntmps91
 go_wp2_with fail
 refine bodyPost_ret (v := .agg #[.int .i64 a, .int .i64 (s + t)]) (by simp [results, Tryd.results91, go_sem]) rfl ⟨rfl, ?_⟩
 repeat' first | exact Below.refl _ _ | apply Below.setCell | apply Below.alloc
 all_goals first | omega | (simp; done) | (simp; omega)
theorem splus (e1 s1 m1 e2 s2 m2 : Int) (w : World) (h1 : 0 ≤ e1 ∧ e1 ≤ 1000000000000000) (h2 : 0 ≤ e2 ∧ e2 ≤ 1000000000000000) (h3 : 0 ≤ s1 ∧ s1 ≤ 1000000000000000) (h4 : 0 ≤ s2 ∧ s2 ≤ 1000000000000000) :
  Calls Tryd.prog 77 #[.agg #[.int .i64 e1, .int .i64 s1, .int .i64 m1], .agg #[.int .i64 e2, .int .i64 s2, .int .i64 m2]] w fun e w' => e = .returned (.agg #[.int .i64 (e1 + e2), .int .i64 (s1 + s2), .int .i64 (max m1 m2)]) ∧ Below w.heap.size w w' := by
 by_cases h : m1 < m2
 ·rw [show max m1 m2 = m2 by omega]
  go_enter Tryd.func77, Tryd.ntmps77
  go_wp2_with fail
  refine bodyPost_ret (v := .agg #[.int .i64 (e1 + e2), .int .i64 (s1 + s2), .int .i64 m2]) (by simp [results, Tryd.results77, go_sem]) rfl ⟨rfl, ?_⟩
  repeat' first | exact Below.refl _ _ | apply Below.setCell | apply Below.alloc
  all_goals first | omega | (simp; done) | (simp; omega)
 ·rw [show max m1 m2 = m1 by omega]
  go_enter Tryd.func77, Tryd.ntmps77
  go_wp2_with fail
  refine bodyPost_ret (v := .agg #[.int .i64 (e1 + e2), .int .i64 (s1 + s2), .int .i64 m1]) (by simp [results, Tryd.results77, go_sem]) rfl ⟨rfl, ?_⟩
  repeat' first | exact Below.refl _ _ | apply Below.setCell | apply Below.alloc
  all_goals first | omega | (simp; done) | (simp; omega)
theorem smax (x y : Int) (w : World) : Calls Tryd.prog 48 #[.int .i64 x, .int .i64 y] w fun e w' => e = .returned (.int .i64 (max x y)) ∧ w' = w := by
 by_cases h : y < x
 ·rw [show max x y = x by omega]
  go_enter Tryd.func48, Tryd.ntmps48
  go_wp2
  go_ret
  exact ⟨rfl, rfl⟩
 ·rw [show max x y = y by omega]
  go_enter Tryd.func48, Tryd.ntmps48
  go_wp2
  go_ret
  exact ⟨rfl, rfl⟩
end WinR
end Go.Proofs.YtnlmpejgiakepaaDoor
