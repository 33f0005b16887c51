/-
  The law's own marks in a window's lists: written, and found again. The conditions: lists of at most 1048576, marks from 1 to 10000000 on.
-/
import Derived.Test.YtmeemmbpkjfleaaDoorWdX
import Derived.Test.YtmeemmbpkjfleaaDoorMarkT
import Derived.Deep.RegionHeld3
namespace Go.Proofs.YtmeemmbpkjfleaaDoor
open Go.ChangeShapes Go.WideShapes Go.ChangeAt Go.RowKit
set_option linter.unusedVariables false
namespace WinR
open RowG (Wr MadeG grown_set)
open EvtR (Pt)
open CatR (Blk Blk.new)
open MarkR (mk mT mark_any)
/-- Only blocks between two numbers are written. -/
structure Outs (base top : Nat) (w w' : World) : Prop where
  os : w'.os = w.os
  tape : w'.tape = w.tape
  output : w'.output = w.output
  size : w.heap.size ≤ w'.heap.size
  block : ∀ k, k < w.heap.size → k < base ∨ top ≤ k → w'.heap[k]? = w.heap[k]?
theorem Outs.refl (base top : Nat) (w : World) : Outs base top w w := ⟨rfl, rfl, rfl, Nat.le_refl _, fun _ _ _ => rfl⟩
theorem Outs.trans {base top : Nat} {w w1 w2 : World} (h : Outs base top w w1) (h2 : Outs base top w1 w2) : Outs base top w w2 :=
  ⟨h2.os.trans h.os, h2.tape.trans h.tape, h2.output.trans h.output, Nat.le_trans h.size h2.size, fun k hk hn => (h2.block k (Nat.lt_of_lt_of_le hk h.size) hn).trans (h.block k hk hn)⟩
theorem Outs.below {base top : Nat} {w w1 w2 : World} (h : Outs base top w w1) (hb : Below w1.heap.size w1 w2) : Outs base top w w2 :=
  h.trans ⟨hb.os, hb.tape, hb.output, hb.size, fun k hk _ => hb.block k hk⟩
theorem Outs.grown {base top : Nat} {w w1 w2 : World} {g : Nat} (h : Outs base top w w1) (hg : w1.grownBy w2 (some g)) (h1 : base ≤ g) (h2 : g < top) : Outs base top w w2 :=
  h.trans ⟨hg.os, hg.tape, hg.output, hg.size, fun k hk hn => hg.block k hk (by simp; omega)⟩
theorem Outs.bel {base top : Nat} {w w' : World} (h : Outs base top w w') {B : Nat} (hB : B ≤ base) (hw : B ≤ w.heap.size) : Below B w w' :=
  ⟨h.os, h.tape, h.output, by have := h.size; omega, fun k hk => h.block k (by omega) (.inl (by omega))⟩
theorem Outs.blkw {base top b : Nat} {cs : List Value} {w w' : World} (h : Outs base top w w') (hp : BlkW b cs w) (hg : b < base ∨ top ≤ b) : BlkW b cs w' := by
  have e := h.block b hp.1.1 hg
  exact ⟨⟨Nat.lt_of_lt_of_le hp.1.1 h.size, fun i hi => (World.cell?_of_block (a := ⟨b, i, none⟩) e).trans (hp.1.2 i hi)⟩, fun i hi => (World.frozen?_of_block (a := ⟨b, i, none⟩) e).trans (hp.2 i hi)⟩
theorem Outs.blk {base top b : Nat} {cs : List Value} {w w' : World} (h : Outs base top w w') (hp : Blk b cs w) (hg : b < base ∨ top ≤ b) : Blk b cs w' := by
  have e := h.block b hp.1 hg
  exact ⟨Nat.lt_of_lt_of_le hp.1 h.size, fun i hi => (World.cell?_of_block (a := ⟨b, i, none⟩) e).trans (hp.2 i hi)⟩
theorem gtrans {w w1 w2 : World} {g : Option Nat} (h1 : w.grownBy w1 g) (h2 : w1.grownBy w2 g) : w.grownBy w2 g :=
  ⟨h2.os.trans h1.os, h2.tape.trans h1.tape, h2.output.trans h1.output, Nat.le_trans h1.size h2.size, fun k hk hne => (h2.block k (by have := h1.size; omega) hne).trans (h1.block k hk hne)⟩
theorem rgrown {w w' : World} (hb : Below w.heap.size w w') (row : Option Nat) : w.grownBy w' row := ⟨hb.os, hb.tape, hb.output, hb.size, fun k hk _ => hb.block k hk⟩
/-- The cells of marked tags, of marked hours. -/
def mtC (K o : Nat) : Option Value := some (.string (mT (K + o)))
def mhC (K o : Nat) : Option Value := some (.int .i64 ((K + o : Nat) : Int))
theorem mark_st {f : Nat → Option Value} {g m j : Nat} {w0 w : World} (hp : Pt g m w) (hm : Wr f j g w) (hg : w0.grownBy w (some g)) (hj : j < m) (v : Value) (hv : f j = some v) :
    Pt g m (w.setCell ⟨g, j, none⟩ v) ∧ Wr f (j + 1) g (w.setCell ⟨g, j, none⟩ v) ∧ w0.grownBy (w.setCell ⟨g, j, none⟩ v) (some g) :=
  ⟨hp.set _ _, hm.more hp hj v hv, gtrans hg (grown_set _ g _ _)⟩
set_option maxRecDepth 100000 in
set_option maxHeartbeats 4000000 in
theorem markT (g n cap K : Nat) (w : World) (hn : n ≤ 1048576) (hK : 1 ≤ K ∧ K ≤ 10000000) (h0 : Pt g n w) :
    Calls Tryd.prog 41 #[.slice (some ⟨g, 0, none⟩) n cap, .int .i64 K] w fun e w' => e = .returned (.int .i64 (K + n : Nat)) ∧ Pt g n w' ∧ Wr (mtC K) n g w' ∧ w.grownBy w' (some g) := by
  have HP := hid_intro h0
  obtain ⟨k1, k2⟩ := hK
  have HT : Hid (∀ (z : Int) (L : Nat), z = L → 1 ≤ L → L < 100000000 → ∀ w, Calls Tryd.prog 80 #[.int .i64 z] w fun e w' => e = .returned (.string (mT L)) ∧ Below w.heap.size w w') := hid_intro (fun z L e h0 h w => by subst e; exact mark_any L h0 h w)
  clear h0
  go_enter Tryd.func41, Tryd.ntmps41
  go_wp2_with fail
  go_loopw [5, 1] (fun x z wr => ∃ i : Nat, x = .int .i64 (i : Int) ∧ z = .int .i64 ((K : Int) + (i : Int)) ∧ i ≤ n ∧ Hid (Pt g n wr) ∧ Hid (Wr (mtC K) i g wr) ∧ Hid (w.grownBy wr (some g))) (fun x _ _ => n - (intOf x).toNat)
  case atStart => exact ⟨0, rfl, by simp, by omega, HP, hid_intro (fun o ho => absurd ho (by omega)), hid_intro ⟨rfl, rfl, rfl, Nat.le_refl _, fun _ _ _ => rfl⟩⟩
  case round =>
    obtain ⟨i, rfl, rfl, hi, HP, HM, HG⟩ := hrel
    by_cases hin : i = n
    · subst hin
      go_wp2_with fail
      go_ret
      exact ⟨by go_num, HP.out, HM.out, HG.out⟩
    · have h1 : (i : Int) < (n : Int) := by omega
      go_wp2_with fail
      refine (HT.out _ (K + i) (by push_cast; omega) (by omega) (by omega) _).mono ?_
      rintro e w1 ⟨rfl, hb⟩
      have HP1 := hid_intro (HP.out.below hb)
      have HM1 := hid_intro (HM.out.below HP.out hb)
      have HG1 := hid_intro (gtrans HG.out (rgrown hb _))
      obtain ⟨v0, c0⟩ := HP1.out.has i (by omega)
      have f0 := HP1.out.free i (by omega)
      have HS := hid_intro (mark_st HP1.out HM1.out HG1.out (by omega) (.string (mT (K + i))) rfl)
      clear hb HP HM HG HP1 HM1 HG1
      go_wp2_with fail
      go_roundw
      case rel => exact ⟨i + 1, by go_num, by (congr 1) <;> omega, by omega, hid_intro HS.out.1, hid_intro HS.out.2.1, hid_intro HS.out.2.2⟩
      case measure => simp [intOf]; omega
set_option maxRecDepth 100000 in
set_option maxHeartbeats 4000000 in
theorem markH (g n cap K : Nat) (w : World) (hn : n ≤ 1048576) (hK : 1 ≤ K ∧ K ≤ 20000000) (h0 : Pt g (n * 2) w) :
    Calls Tryd.prog 42 #[.slice (some ⟨g, 0, none⟩) n cap, .int .i64 K] w fun e w' => e = .returned (.int .i64 (K + 2 * n : Nat)) ∧ Pt g (n * 2) w' ∧ Wr (mhC K) (n * 2) g w' ∧ w.grownBy w' (some g) := by
  have HP := hid_intro h0
  obtain ⟨k1, k2⟩ := hK
  clear h0
  go_enter Tryd.func42, Tryd.ntmps42
  go_wp2_with fail
  go_loopw [5, 1] (fun x z wr => ∃ i : Nat, x = .int .i64 (i : Int) ∧ z = .int .i64 ((K : Int) + 2 * (i : Int)) ∧ i ≤ n ∧ Hid (Pt g (n * 2) wr) ∧ Hid (Wr (mhC K) (i * 2) g wr) ∧ Hid (w.grownBy wr (some g))) (fun x _ _ => n - (intOf x).toNat)
  case atStart => exact ⟨0, rfl, by simp, by omega, HP, hid_intro (fun o ho => absurd ho (by omega)), hid_intro ⟨rfl, rfl, rfl, Nat.le_refl _, fun _ _ _ => rfl⟩⟩
  case round =>
    obtain ⟨i, rfl, rfl, hi, HP, HM, HG⟩ := hrel
    by_cases hin : i = n
    · subst hin
      go_wp2_with fail
      go_ret
      exact ⟨by go_num, HP.out, HM.out, HG.out⟩
    · have h1 : (i : Int) < (n : Int) := by omega
      obtain ⟨v0, c0⟩ := HP.out.has (i * 2) (by omega)
      have f0 := HP.out.free (i * 2) (by omega)
      obtain ⟨v1, c1⟩ := HP.out.has (i * 2 + 1) (by omega)
      have f1 := HP.out.free (i * 2 + 1) (by omega)
      have HS := hid_intro (mark_st HP.out HM.out HG.out (by omega) (.int .i64 ((K : Int) + 2 * (i : Int))) (by unfold mhC; congr 2; push_cast; omega))
      have HS2 := hid_intro (mark_st HS.out.1 HS.out.2.1 HS.out.2.2 (by omega) (.int .i64 ((K : Int) + 2 * (i : Int) + 1)) (by unfold mhC; congr 2; push_cast; omega))
      clear HP HM HG HS
      go_wp2_with fail
      go_roundw
      case rel => exact ⟨i + 1, by go_num, by (congr 1) <;> omega, by omega, hid_intro HS2.out.1, hid_intro (by rw [show (i + 1) * 2 = i * 2 + 1 + 1 by omega]; exact HS2.out.2.1), hid_intro HS2.out.2.2⟩
      case measure => simp [intOf]; omega
/-- What a round of the marked tags reads. -/
def MTx (w : World) (g o : Nat) (t0 : ByteArray) (W : World) : Prop := Below w.heap.size w W ∧ g < W.heap.size ∧ W.cell? ⟨g, o, none⟩ = some (.string t0)
theorem MTx.below {w w1 w2 : World} {g o : Nat} {t0 : ByteArray} (h : MTx w g o t0 w1) (hb : Below w1.heap.size w1 w2) : MTx w g o t0 w2 :=
  ⟨h.1.trans (hb.mono h.1.size), Nat.lt_of_lt_of_le h.2.1 hb.size, (hb.cell (p := ⟨g, o, none⟩) h.2.1).trans h.2.2⟩
set_option maxRecDepth 100000 in
set_option maxHeartbeats 4000000 in
theorem heldT (g n cap K : Nat) (w : World) (hn : n ≤ 1048576) (hK : 1 ≤ K ∧ K ≤ 10000000) (h0 : g < w.heap.size) (hm : Wr (mtC K) n g w) :
    Calls Tryd.prog 81 #[.slice (some ⟨g, 0, none⟩) n cap, .int .i64 K] w fun e w' => e = .returned (.int .i64 (K + n : Nat)) ∧ Below w.heap.size w w' := by
  have HP := hid_intro h0
  have HM := hid_intro hm
  obtain ⟨k1, k2⟩ := hK
  clear h0 hm
  go_enter Tryd.func81, Tryd.ntmps81
  go_wp2_with fail
  go_loopw [5, 1] (fun x z wr => ∃ i : Nat, x = .int .i64 (i : Int) ∧ z = .int .i64 ((K : Int) + (i : Int)) ∧ i ≤ n ∧ Hid (Below w.heap.size w wr)) (fun x _ _ => n - (intOf x).toNat)
  case atStart => exact ⟨0, rfl, by simp, by omega, hid_intro (Below.refl _ _)⟩
  case round =>
    obtain ⟨i, rfl, rfl, hi, HB⟩ := hrel
    by_cases hin : i = n
    · subst hin
      go_wp2_with fail
      go_ret
      exact ⟨by go_num, HB.out⟩
    · have h1 : (i : Int) < (n : Int) := by omega
      have q0 : wr.cell? ⟨g, i, none⟩ = some (.string (mT (K + i))) := (HB.out.cell (p := ⟨g, i, none⟩) HP.out).trans (HM.out i (by omega))
      have HT0 : Hid (∀ w, Calls Tryd.prog 80 #[.int .i64 ((K : Int) + (i : Int))] w fun e w' => e = .returned (.string (mT (K + i))) ∧ Below w.heap.size w w') := hid_intro (fun w => by have := mark_any (K + i) (by omega) (by omega) w; rw [show ((K + i : Nat) : Int) = (K : Int) + (i : Int) by omega] at this; exact this)
      generalize mT (K + i) = T0 at *
      have hgl : g < wr.heap.size := Nat.lt_of_lt_of_le HP.out HB.out.size
      have HS0 : Hid (MTx w g i T0 wr.drew) := hid_intro (MTx.below ⟨HB.out, hgl, q0⟩ (Below.refl _ _).drew)
      go_wp2_with fail
      go_region_held3 (fun w' => Below w.heap.size w w' ∧ g < w'.heap.size ∧ w'.cell? ⟨g, i, none⟩ = some (.string T0)) (first | assumption | (exact HS0.out) | (exact MTx.below (w := w) (g := g) (o := i) (t0 := T0) (by assumption) hb))
        (first | (go_at_call 80; refine (HT0.out _).mono ?_; rintro e w' ⟨rfl, hb⟩))
      rename_i hS
      have HB2 := hid_intro hS.1
      clear hS HS0 q0
      go_wp2_with fail
      go_roundw
      case rel => exact ⟨i + 1, by go_num, by (congr 1) <;> omega, by omega, HB2⟩
      case measure => simp [intOf]; omega
set_option maxRecDepth 100000 in
set_option maxHeartbeats 4000000 in
theorem heldH (g n cap K : Nat) (w : World) (hn : n ≤ 1048576) (hK : 1 ≤ K ∧ K ≤ 20000000) (h0 : g < w.heap.size) (hm : Wr (mhC K) (n * 2) g w) :
    Calls Tryd.prog 82 #[.slice (some ⟨g, 0, none⟩) n cap, .int .i64 K] w fun e w' => e = .returned (.int .i64 (K + 2 * n : Nat)) ∧ Below w.heap.size w w' := by
  have HP := hid_intro h0
  have HM := hid_intro hm
  obtain ⟨k1, k2⟩ := hK
  clear h0 hm
  go_enter Tryd.func82, Tryd.ntmps82
  go_wp2_with fail
  go_loopw [5, 1] (fun x z wr => ∃ i : Nat, x = .int .i64 (i : Int) ∧ z = .int .i64 ((K : Int) + 2 * (i : Int)) ∧ i ≤ n ∧ Hid (Below w.heap.size w wr)) (fun x _ _ => n - (intOf x).toNat)
  case atStart => exact ⟨0, rfl, by simp, by omega, hid_intro (Below.refl _ _)⟩
  case round =>
    obtain ⟨i, rfl, rfl, hi, HB⟩ := hrel
    by_cases hin : i = n
    · subst hin
      go_wp2_with fail
      go_ret
      exact ⟨by go_num, HB.out⟩
    · have h1 : (i : Int) < (n : Int) := by omega
      have q0 : wr.cell? ⟨g, i * 2, none⟩ = some (.int .i64 ((K : Int) + 2 * (i : Int))) := ((HB.out.cell (p := ⟨g, i * 2, none⟩) HP.out).trans (HM.out (i * 2) (by omega))).trans (by unfold mhC; congr 2; push_cast; omega)
      have q1 : wr.cell? ⟨g, i * 2 + 1, none⟩ = some (.int .i64 ((K : Int) + 2 * (i : Int) + 1)) := ((HB.out.cell (p := ⟨g, i * 2 + 1, none⟩) HP.out).trans (HM.out (i * 2 + 1) (by omega))).trans (by unfold mhC; congr 2; push_cast; omega)
      go_wp2_with fail
      try (go_quiet (fail); go_wp2_with fail)
      go_roundw
      case rel => exact ⟨i + 1, by go_num, by (congr 1) <;> omega, by omega, hid_intro (by first | exact HB.out | exact bdN HB.out _)⟩
      case measure => simp [intOf]; omega
set_option maxHeartbeats 4000000 in
theorem nil_any (f : Nat) (hf : f = 41 ∨ f = 42 ∨ f = 81 ∨ f = 82) (ao : Option Addr) (cap K : Nat) (w : World) (hK : K ≤ 20000000) : Calls Tryd.prog f #[.slice ao 0 cap, .int .i64 K] w fun e w' => e = .returned (.int .i64 K) ∧ Below w.heap.size w w' := by
  rcases hf with rfl | rfl | rfl | rfl
  · go_enter Tryd.func41, Tryd.ntmps41
    go_wp2_with fail
    go_loopw [5, 1] (fun x z wr => x = .int .i64 0 ∧ z = .int .i64 (K : Int) ∧ Hid (Below w.heap.size w wr)) (fun x _ _ => 0)
    case atStart => exact ⟨rfl, rfl, hid_intro (Below.refl _ _)⟩
    case round =>
      obtain ⟨rfl, rfl, HB⟩ := hrel
      go_wp2_with fail
      go_ret
      exact ⟨rfl, HB.out⟩
  · go_enter Tryd.func42, Tryd.ntmps42
    go_wp2_with fail
    go_loopw [5, 1] (fun x z wr => x = .int .i64 0 ∧ z = .int .i64 (K : Int) ∧ Hid (Below w.heap.size w wr)) (fun x _ _ => 0)
    case atStart => exact ⟨rfl, rfl, hid_intro (Below.refl _ _)⟩
    case round =>
      obtain ⟨rfl, rfl, HB⟩ := hrel
      go_wp2_with fail
      go_ret
      exact ⟨rfl, HB.out⟩
  · go_enter Tryd.func81, Tryd.ntmps81
    go_wp2_with fail
    go_loopw [5, 1] (fun x z wr => x = .int .i64 0 ∧ z = .int .i64 (K : Int) ∧ Hid (Below w.heap.size w wr)) (fun x _ _ => 0)
    case atStart => exact ⟨rfl, rfl, hid_intro (Below.refl _ _)⟩
    case round =>
      obtain ⟨rfl, rfl, HB⟩ := hrel
      go_wp2_with fail
      go_ret
      exact ⟨rfl, HB.out⟩
  · go_enter Tryd.func82, Tryd.ntmps82
    go_wp2_with fail
    go_loopw [5, 1] (fun x z wr => x = .int .i64 0 ∧ z = .int .i64 (K : Int) ∧ Hid (Below w.heap.size w wr)) (fun x _ _ => 0)
    case atStart => exact ⟨rfl, rfl, hid_intro (Below.refl _ _)⟩
    case round =>
      obtain ⟨rfl, rfl, HB⟩ := hrel
      go_wp2_with fail
      go_ret
      exact ⟨rfl, HB.out⟩
/-- The marks stand in the window's lists. -/
def MkdW (ta ha : Option Addr) (tl hl K : Nat) (w : World) : Prop := (tl = 0 ∨ ∃ g, ta = some ⟨g, 0, none⟩ ∧ Pt g tl w ∧ Wr (mtC K) tl g w) ∧ (hl = 0 ∨ ∃ g, ha = some ⟨g, 0, none⟩ ∧ Pt g (hl * 2) w ∧ Wr (mhC (K + tl)) (hl * 2) g w)
theorem MkdW.below {ta ha : Option Addr} {tl hl K : Nat} {w w' : World} (h : MkdW ta ha tl hl K w) (hb : Below w.heap.size w w') : MkdW ta ha tl hl K w' :=
  ⟨h.1.imp id (fun ⟨g, e, p, q⟩ => ⟨g, e, p.below hb, q.below p hb⟩), h.2.imp id (fun ⟨g, e, p, q⟩ => ⟨g, e, p.below hb, q.below p hb⟩)⟩
theorem pt_out {base top g m : Nat} {w w' : World} (h : Outs base top w w') (hp : Pt g m w) (hg : g < base ∨ top ≤ g) : Pt g m w' := by
  have e := h.block g hp.lt hg
  exact ⟨Nat.lt_of_lt_of_le hp.lt h.size, fun o ho => by obtain ⟨v, hv⟩ := hp.has o ho; exact ⟨v, (World.cell?_of_block (a := ⟨g, o, none⟩) e).trans hv⟩, fun o ho => (World.frozen?_of_block (a := ⟨g, o, none⟩) e).trans (hp.free o ho)⟩
theorem wr_grown {f : Nat → Option Value} {n g m x : Nat} {w w' : World} (h : Wr f n g w) (hp : Pt g m w) (hg : w.grownBy w' (some x)) (hx : g ≠ x) : Wr f n g w' :=
  fun o ho => (World.cell?_of_block (a := ⟨g, o, none⟩) (hg.block g hp.lt (by simp; exact hx))).trans (h o ho)
theorem pt_grown {g m x : Nat} {w w' : World} (hp : Pt g m w) (hg : w.grownBy w' (some x)) (hx : g ≠ x) : Pt g m w' := by
  have e := hg.block g hp.lt (by simp; exact hx)
  exact ⟨Nat.lt_of_lt_of_le hp.lt hg.size, fun o ho => by obtain ⟨v, hv⟩ := hp.has o ho; exact ⟨v, (World.cell?_of_block (a := ⟨g, o, none⟩) e).trans hv⟩, fun o ho => (World.frozen?_of_block (a := ⟨g, o, none⟩) e).trans (hp.free o ho)⟩
set_option maxRecDepth 100000 in
set_option maxHeartbeats 4000000 in
theorem markW_in (a m : ByteArray) (mo ev su mx : Int) (ta : Option Addr) (tl tc : Nat) (ha : Option Addr) (hl hc K base top : Nat) (w : World) (lt : tl ≤ 1048576) (lh : hl ≤ 1048576) (hK : 1 ≤ K ∧ K ≤ 10000000) (htop : top ≤ w.heap.size)
    (hT : tl = 0 ∨ ∃ g, ta = some ⟨g, 0, none⟩ ∧ base ≤ g ∧ g < top ∧ Pt g tl w) (hH : hl = 0 ∨ ∃ g, ha = some ⟨g, 0, none⟩ ∧ base ≤ g ∧ g < top ∧ Pt g (hl * 2) w) (hA : Apart ta ha tl hl) :
    Calls Tryd.prog 13 #[.agg #[.string a, .string m, .int .i64 mo, .int .i64 ev, .int .i64 su, .int .i64 mx, .slice ta tl tc, .slice ha hl hc], .int .i64 K] w fun e w' => e = .returned (.int .i64 (K + tl + 2 * hl : Nat)) ∧ MkdW ta ha tl hl K w' ∧ Outs base top w w' := by
  have HT : Hid (∀ W, Below w.heap.size w W → Calls Tryd.prog 41 #[.slice ta tl tc, .int .i64 K] W fun e w' => e = .returned (.int .i64 (K + tl : Nat)) ∧ (tl = 0 ∨ ∃ g, ta = some ⟨g, 0, none⟩ ∧ Pt g tl w' ∧ Wr (mtC K) tl g w') ∧ (hl = 0 ∨ ∃ g, ha = some ⟨g, 0, none⟩ ∧ base ≤ g ∧ g < top ∧ Pt g (hl * 2) w') ∧ Outs base top w w' ∧ ∀ b cs, Blk b cs W → b < base ∨ top ≤ b → Blk b cs w') := hid_intro (fun W hW => by
    have O0 := (Outs.refl base top w).below hW
    rcases Nat.eq_zero_or_pos tl with rfl | hpos
    · exact (nil_any _ (.inl rfl) ta tc K W (by omega)).mono fun e w' ⟨e1, e2⟩ => ⟨e1, .inl rfl, hH.imp id (fun ⟨g, q1, q2, q3, q4⟩ => ⟨g, q1, q2, q3, (q4.below hW).below e2⟩), O0.below e2, fun b cs hb _ => hb.below e2⟩
    · obtain ⟨g, rfl, g1, g2, hp⟩ := hT.resolve_left (by omega)
      refine (markT g tl tc K W lt hK (hp.below hW)).mono fun e w' ⟨e1, e2, e3, e4⟩ => ⟨e1, .inr ⟨g, rfl, e2, e3⟩, ?_, O0.grown e4 g1 g2, fun b cs hb hn => ?_⟩
      · rcases Nat.eq_zero_or_pos hl with rfl | hpos2
        · exact .inl rfl
        · obtain ⟨g', rfl, q2, q3, q4⟩ := hH.resolve_left (by omega)
          have := (hA.resolve_left (by omega)).resolve_left (by omega) g 0 g' 0 rfl rfl
          exact .inr ⟨g', rfl, q2, q3, pt_grown (q4.below hW) e4 (fun e => this e.symm)⟩
      · have e := e4.block b hb.1 (by simp; omega)
        exact ⟨Nat.lt_of_lt_of_le hb.1 e4.size, fun i hi => (World.cell?_of_block (a := ⟨b, i, none⟩) e).trans (hb.2 i hi)⟩)
  have HH : Hid (∀ W, Outs base top w W → (tl = 0 ∨ ∃ g, ta = some ⟨g, 0, none⟩ ∧ Pt g tl W ∧ Wr (mtC K) tl g W) → (hl = 0 ∨ ∃ g, ha = some ⟨g, 0, none⟩ ∧ base ≤ g ∧ g < top ∧ Pt g (hl * 2) W) → Calls Tryd.prog 42 #[.slice ha hl hc, .int .i64 (K + tl : Nat)] W fun e w' => e = .returned (.int .i64 (K + tl + 2 * hl : Nat)) ∧ MkdW ta ha tl hl K w' ∧ Outs base top w w') := hid_intro (fun W O0 hm hh => by
    rcases Nat.eq_zero_or_pos hl with rfl | hpos
    · exact (nil_any _ (.inr (.inl rfl)) ha hc (K + tl) W (by omega)).mono fun e w' ⟨e1, e2⟩ => ⟨e1, ⟨hm.imp id (fun ⟨g, q1, q2, q3⟩ => ⟨g, q1, q2.below e2, q3.below q2 e2⟩), .inl rfl⟩, O0.below e2⟩
    · obtain ⟨g, rfl, g1, g2, hp⟩ := hh.resolve_left (by omega)
      refine (markH g hl hc (K + tl) W lh (by omega) hp).mono fun e w' ⟨e1, e2, e3, e4⟩ => ⟨e1, ⟨?_, .inr ⟨g, rfl, e2, e3⟩⟩, O0.grown e4 g1 g2⟩
      rcases Nat.eq_zero_or_pos tl with rfl | hpos2
      · exact .inl rfl
      · obtain ⟨g', rfl, q2, q3⟩ := hm.resolve_left (by omega)
        have := (hA.resolve_left (by omega)).resolve_left (by omega) g' 0 g 0 rfl rfl
        exact .inr ⟨g', rfl, pt_grown q2 e4 this, wr_grown q3 q2 e4 this⟩)
  have HB0 : Hid (Below w.heap.size w (w.alloc (.cells #[.string a, .string m, .int .i64 mo, .int .i64 ev, .int .i64 su, .int .i64 mx, .slice ta tl tc, .slice ha hl hc] 29))) := hid_intro ((Below.refl _ _).alloc (Nat.le_refl _) _)
  have HX0 := hid_intro (Blk.new w [.string a, .string m, .int .i64 mo, .int .i64 ev, .int .i64 su, .int .i64 mx, .slice ta tl tc, .slice ha hl hc] 29)
  have HTP := hid_intro htop
  generalize MkdW ta ha tl hl K = MM at *
  clear hT hH hA htop
  go_enter Tryd.func13, Tryd.ntmps13
  go_wp2_with fail
  refine (HT.out _ HB0.out).mono ?_
  rintro e w1 ⟨rfl, ht1, hh1, ho1, hbk⟩
  have HX1 := hid_intro (hbk _ _ HX0.out (.inr HTP.out))
  have HT1 := hid_intro ht1
  have HH1 := hid_intro hh1
  have HO1 := hid_intro ho1
  clear ht1 hh1 ho1 hbk
  obtain ⟨xl, xc⟩ := HX1.out
  have x7 : w1.cell? ⟨w.heap.size, 7, none⟩ = some (.slice ha hl hc) := xc 7 (by simp)
  clear xc
  go_wp2_with fail
  refine (HH.out _ HO1.out HT1.out HH1.out).mono ?_
  rintro e w2 ⟨rfl, hm2, ho2⟩
  have HM2 := hid_intro hm2
  have HO2 := hid_intro ho2
  clear hm2 ho2
  go_wp2_with fail
  go_ret
  exact ⟨rfl, HM2.out, HO2.out⟩
set_option maxRecDepth 100000 in
set_option maxHeartbeats 4000000 in
theorem heldW_in (a m : ByteArray) (mo ev su mx : Int) (ta : Option Addr) (tl tc : Nat) (ha : Option Addr) (hl hc K : Nat) (w : World) (lt : tl ≤ 1048576) (lh : hl ≤ 1048576) (hK : 1 ≤ K ∧ K ≤ 10000000) (hM : MkdW ta ha tl hl K w) :
    Calls Tryd.prog 43 #[.agg #[.string a, .string m, .int .i64 mo, .int .i64 ev, .int .i64 su, .int .i64 mx, .slice ta tl tc, .slice ha hl hc], .int .i64 K] w fun e w' => e = .returned (.int .i64 (K + tl + 2 * hl : Nat)) ∧ Below w.heap.size w w' := by
  have HT : Hid (∀ W, Below w.heap.size w W → Calls Tryd.prog 81 #[.slice ta tl tc, .int .i64 K] W fun e w' => e = .returned (.int .i64 (K + tl : Nat)) ∧ Below W.heap.size W w') := hid_intro (fun W hW => by
    rcases Nat.eq_zero_or_pos tl with rfl | hpos
    · exact nil_any _ (.inr (.inr (.inl rfl))) ta tc K W (by omega)
    · obtain ⟨g, rfl, q2, q3⟩ := (hM.below hW).1.resolve_left (by omega)
      exact heldT g tl tc K W lt hK q2.lt q3)
  have HH : Hid (∀ W, Below w.heap.size w W → Calls Tryd.prog 82 #[.slice ha hl hc, .int .i64 (K + tl : Nat)] W fun e w' => e = .returned (.int .i64 (K + tl + 2 * hl : Nat)) ∧ Below W.heap.size W w') := hid_intro (fun W hW => by
    rcases Nat.eq_zero_or_pos hl with rfl | hpos
    · exact nil_any _ (.inr (.inr (.inr rfl))) ha hc (K + tl) W (by omega)
    · obtain ⟨g, rfl, q2, q3⟩ := (hM.below hW).2.resolve_left (by omega)
      exact heldH g hl hc (K + tl) W lh (by omega) q2.lt q3)
  have HB0 : Hid (Below w.heap.size w (w.alloc (.cells #[.string a, .string m, .int .i64 mo, .int .i64 ev, .int .i64 su, .int .i64 mx, .slice ta tl tc, .slice ha hl hc] 29))) := hid_intro ((Below.refl _ _).alloc (Nat.le_refl _) _)
  have HX0 := hid_intro (Blk.new w [.string a, .string m, .int .i64 mo, .int .i64 ev, .int .i64 su, .int .i64 mx, .slice ta tl tc, .slice ha hl hc] 29)
  have n1 : ¬ (((K + tl : Nat) : Int) < 0) := by omega
  have n2 : ¬ (((K + tl + 2 * hl : Nat) : Int) < 0) := by omega
  generalize K + tl + 2 * hl = K2 at *
  generalize hK1 : K + tl = K1 at *
  clear hM
  go_enter Tryd.func43, Tryd.ntmps43
  go_wp2_with fail
  refine (HT.out _ HB0.out).mono ?_
  rintro e w1 ⟨rfl, hb1⟩
  have HB1 := hid_intro (HB0.out.trans (hb1.mono HB0.out.size))
  have HX1 := hid_intro (HX0.out.below hb1)
  clear hb1
  obtain ⟨xl, xc⟩ := HX1.out
  have x7 : w1.cell? ⟨w.heap.size, 7, none⟩ = some (.slice ha hl hc) := xc 7 (by simp)
  clear xc
  go_wp2_with fail
  refine (HH.out _ HB1.out).mono ?_
  rintro e w2 ⟨rfl, hb2⟩
  have HB2 := hid_intro (HB1.out.trans (hb2.mono HB1.out.size))
  clear hb2
  go_wp2_with fail
  go_ret
  exact ⟨rfl, HB2.out⟩
/-- A window that was made is marked. -/
theorem markW (base top K : Nat) (x : Wd) (ta : Option Addr) (tc : Nat) (ha : Option Addr) (hc : Nat) (w : World) (lt : x.ts.length ≤ 1048576) (lh : x.hs.length ≤ 1048576) (hK : 1 ≤ K ∧ K ≤ 10000000) (htop : top ≤ w.heap.size)
    (h1 : MadeG 1 tcells tz base ta x.ts w) (h2 : MadeG 2 H.cells H.zero base ha x.hs w) (h3 : Apart ta ha x.ts.length x.hs.length) (t1 : ∀ g, ta = some ⟨g, 0, none⟩ → g < top) (t2 : ∀ g, ha = some ⟨g, 0, none⟩ → g < top) :
    Calls Tryd.prog 13 #[.agg (wcells x ta tc ha hc), .int .i64 K] w fun e w' => e = .returned (.int .i64 (K + x.ts.length + 2 * x.hs.length : Nat)) ∧ MkdW ta ha x.ts.length x.hs.length K w' ∧ Outs base top w w' :=
  markW_in x.a x.m x.mo x.ev x.su x.mx ta x.ts.length tc ha x.hs.length hc K base top w lt lh hK htop (h1.own.imp id (fun ⟨g, e1, e2, e3⟩ => ⟨g, e1, e2, t1 g e1, by rw [Nat.mul_one] at e3; exact e3⟩)) (h2.own.imp id (fun ⟨g, e1, e2, e3⟩ => ⟨g, e1, e2, t2 g e1, e3⟩)) h3
end WinR
end Go.Proofs.YtmeemmbpkjfleaaDoor
