/-
  The model's LedgerRead. The conditions: what the readers ask for.
  The law's own mark, a text. The condition: its number is 1 to 99999999.
  The law's own marks in a list of lines: written, and found again. The condition: at most 1048576 lines to write, 40 to find.
  Sizes of lists of lines, and the law's own marks in them, from any number on. The condition: at most 1048576 lines.
  Marks upon a list of lines, from any number on, and their reading. The condition: at most 1048576 lines.
  Worlds that differ in some blocks alone. No condition.
  The law's own marks in a list of documents. The condition: at most 1048576 documents and lines together.
  Marks upon a list of documents of one's own, and their reading. The conditions: at most 1048576 documents, the marks below 5300001.
  Answers that hold documents: held against each other, marked, and their marks read. The conditions: at most 1048576 documents, small ones; the marks below 5300001.
  A ledger read: for every text there is one answer that both sides hand back. The condition: the text has at most 1048576 bytes.
  An answer with documents marked as a whole, and its marks read later on. The conditions: at most 1048576 documents, small ones; the marks below 5300001.
-/
import Derived.Lib.ConvBytes
import Derived.Laws.BytesArg
import Derived.Deep.RegionHeld3
import Derived.Test.YtppdilomefoaaaaR3
namespace Go.Proofs.Ytppdilomefoaaaa
open Go.ChangeShapes Go.WideShapes Go.ChangeAt Go.RowKit
set_option linter.unusedVariables false
namespace LedR
open OwG LinR DocR
open RowG (MadeG Rws cellsAll hid_intro)
open EvtR (Pt SAfter gtrans)
open CatR (Blk Blk.new)
/-- What one call of the model's reader leaves. -/
abbrev SRd (f g : Nat) (s : ByteArray) (o o' : Option Nat) (v : Value) : Prop := ∀ W, SAfter g s o W → Calls Try.prog f #[.pointer (some ⟨g, 0, none⟩)] W fun e w' => e = .returned v ∧ SAfter g s o' w' ∧ W.grownBy w' (some g)
abbrev SMn (M g : Nat) (s : ByteArray) (o o' : Option Nat) (n : Nat) : Prop := ∀ W, SAfter g s o W → Calls Try.prog 16 #[.pointer (some ⟨g, 0, none⟩), .int .i64 M] W fun e w' => e = .returned (.int .i64 (n : Nat)) ∧ SAfter g s o' w' ∧ W.grownBy w' (some g)
/-- How a document is read. -/
def DocRd (g : Nat) (s : ByteArray) (o o' : Option Nat) (d : D) : Prop := ∃ (o1 o2 o3 : Option Nat) (PH : Nat → Option Nat) (LH : Nat → List N) (hh : Nat → ByteArray) (ss : Nat → Int),
  SRd 17 g s o o1 (.string d.a) ∧ SRd 18 g s o1 o2 (.int .i64 d.mo) ∧ SRd 18 g s o2 o3 (.int .i64 d.sq) ∧ SMn 6 g s o3 (PH 0) d.ls.length ∧
  (∀ i, ∃ om, SRd 17 g s (PH i) om (.string (hh i)) ∧ SRd 18 g s om (PH (i + 1)) (.int .i64 (ss i))) ∧
  (∀ i, PH i = none → PH (i + 1) = none) ∧ PH d.ls.length = o' ∧ LH 0 = [] ∧ (∀ i, LH (i + 1) = LH i ++ [⟨hh i, ss i⟩]) ∧ LH d.ls.length = d.ls ∧ d.ls.length ≤ 6
theorem pt_grownG {p n : Nat} {W W' : World} {g : Nat} (h : Pt p n W) (hg : W.grownBy W' (some g)) (hne : p ≠ g) : Pt p n W' := pt_row h hg (by simp; exact hne)
theorem exit_of {P : Nat → Option Nat} (hN : ∀ k, P k = none → P (k + 1) = none) {k C : Nat} (hk : k ≤ C) : (k < C ∧ P k ≠ none) ∨ (P k = P C ∧ (P C ≠ none → k = C)) := by
  by_cases q : k < C
  · by_cases q2 : P k = none
    · have := stay hN q2 (C - k)
      rw [show k + (C - k) = C by omega] at this
      exact .inr ⟨q2.trans this.symm, fun h => absurd this h⟩
    · exact .inl ⟨q, q2⟩
  · obtain rfl : k = C := by omega
    exact .inr ⟨rfl, fun _ => rfl⟩
theorem exit_two {P : Nat → Option Nat} {k C : Nat} (heq : P k = P C) (hall : P C ≠ none → k = C) (hk : k ≤ C) : (¬ (0 : Int) < (C : Int) - (k : Int)) ∨ ((0 : Int) < (C : Int) - (k : Int) ∧ decide (P k = none) = true) := by
  by_cases q : k < C
  · refine .inr ⟨by omega, decide_eq_true ?_⟩
    rcases h9 : P C with _ | p
    · rw [heq, h9]
    · have := hall (by rw [h9]; simp)
      omega
  · exact .inl (by omega)
/-- What the model hands back. -/
def SPL (s T : ByteArray) (o : Option Nat) (C : Nat) (ds : List D) (w : World) (e : Ending) (w' : World) : Prop := ((¬ (o ≠ none ∧ s.size ≠ 0 ∧ T = s) ∧ e = .returned (.agg #[.slice none 0 0, .string ⟨#[]⟩, .int .i64 0, .int .i64 0, .slice none 0 0, .int .i64 3])) ∨ ((o ≠ none ∧ s.size ≠ 0 ∧ T = s) ∧ ∃ ao cap, e = .returned (.agg #[.slice ao C cap, .string ⟨#[]⟩, .int .i64 0, .int .i64 0, .slice none 0 0, .int .i64 0]) ∧ DsO w.heap.size (.slice ao C cap) ds w')) ∧ Below w.heap.size w w'
theorem spl_bad {s T : ByteArray} {o : Option Nat} {C : Nat} {ds : List D} {w w' : World} (h : ¬ (o ≠ none ∧ s.size ≠ 0 ∧ T = s)) (hb : Below w.heap.size w w') : SPL s T o C ds w (.returned (.agg #[.slice none 0 0, .string ⟨#[]⟩, .int .i64 0, .int .i64 0, .slice none 0 0, .int .i64 3])) w' := ⟨.inl ⟨h, rfl⟩, hb⟩
theorem spl_ok {s T : ByteArray} {o : Option Nat} {C : Nat} {ds : List D} {w w' : World} {ao : Option Addr} {cap : Nat} (h : o ≠ none ∧ s.size ≠ 0 ∧ T = s) (hd : DsO w.heap.size (.slice ao C cap) ds w') (hb : Below w.heap.size w w') : SPL s T o C ds w (.returned (.agg #[.slice ao C cap, .string ⟨#[]⟩, .int .i64 0, .int .i64 0, .slice none 0 0, .int .i64 0])) w' := ⟨.inr ⟨h, ao, cap, rfl, hd⟩, hb⟩
set_option maxRecDepth 100000 in
set_option maxHeartbeats 16000000 in
theorem slr_in (s : ByteArray) (C : Nat) (PD : Nat → Option Nat) (LD : Nat → List D) (dd : Nat → D) (T : ByteArray) (w : World) (hs8 : s.size ≤ 8000) (hC : C ≤ 30)
    (rc : ∀ g, SMn 30 g s (some 0) (PD 0) C)
    (rd : ∀ k g, DocRd g s (PD k) (PD (k + 1)) (dd k))
    (hNP : ∀ k, PD k = none → PD (k + 1) = none)
    (hwb : ∀ ao cap W, Dcs ao (LD C) W → Calls Try.prog 13 #[.slice ao C cap] W fun e w' => e = .returned (.string T) ∧ Below W.heap.size W w')
    (hL0 : LD 0 = []) (hLM : ∀ k, LD (k + 1) = LD k ++ [dd k]) (hLL : ∀ k, (LD k).length = k) :
    Calls Try.prog 5 #[.string s] w fun e w' => SPL s T (PD C) C (LD C) w e w' := by
  obtain ⟨i0, hi, hz0, hz1, hz2⟩ := info_parts infoD
  obtain ⟨j0, gi, gz0, gz1, gz2⟩ := info_parts infoN
  have HRC := hid_intro rc
  have HRD := hid_intro rd
  have HNP := hid_intro hNP
  have HWB := hid_intro hwb
  have HL0 := hid_intro hL0
  have HLM := hid_intro hLM
  have HLL := hid_intro hLL
  have h8 : ¬ (8000 : Int) < (s.size : Int) := by omega
  clear rc rd hNP hwb hL0 hLM hLL
  obtain ⟨W0, hW0⟩ : ∃ W0, W0 = ((w.alloc (.cells #[.slice none 0 0, .string ⟨#[]⟩, .int .i64 0, .int .i64 0, .slice none 0 0, .int .i64 0] 27)).alloc (.cells #[.string s, .int .i64 0, .bool false] 40)).alloc (.cells #[] 25) := ⟨_, rfl⟩
  have al0 : Below (w.heap.size + 2) ((w.alloc (.cells #[.slice none 0 0, .string ⟨#[]⟩, .int .i64 0, .int .i64 0, .slice none 0 0, .int .i64 0] 27)).alloc (.cells #[.string s, .int .i64 0, .bool false] 40)) W0 := by rw [hW0]; exact (Below.refl _ _).alloc (by simp) _
  have HB0 : Hid (Below w.heap.size w W0) := hid_intro (by rw [hW0]; exact (((Below.refl _ _).alloc (Nat.le_refl _) _).alloc (by simp) _).alloc (by simp; omega) _)
  have HP0 : Hid (Pt w.heap.size 6 W0) := hid_intro (((StR.pt_new w [.slice none 0 0, .string ⟨#[]⟩, .int .i64 0, .int .i64 0, .slice none 0 0, .int .i64 0] 27).below ((Below.refl _ _).alloc (Nat.le_refl _) _)).below (al0.mono (by simp)))
  have HA0 : Hid (SAfter (w.heap.size + 1) s (some 0) W0) := hid_intro (by rw [hW0]; exact ⟨by omega, by simp, by simp [go_sem], by simp [go_sem], by simp [go_sem], by simp [go_sem], by simp [go_sem], by simp [go_sem]⟩)
  have hS0 : w.heap.size + 2 ≤ W0.heap.size := by rw [hW0]; simp
  have HD0 : Hid (DsO (w.heap.size + 2) (.slice (some ⟨w.heap.size + 2, 0, none⟩) 0 0) (LD 0) W0) := hid_intro (by
    rw [HL0.out, hW0]
    obtain ⟨X, hX⟩ : ∃ X, X = ((w.alloc (.cells #[.slice none 0 0, .string ⟨#[]⟩, .int .i64 0, .int .i64 0, .slice none 0 0, .int .i64 0] 27)).alloc (.cells #[.string s, .int .i64 0, .bool false] 40)) := ⟨_, rfl⟩
    have e : X.heap.size = w.heap.size + 2 := by rw [hX]; simp
    have h := own_empty X (w.heap.size + 2) 25 4 (by omega)
    rw [e] at h
    rw [← hX]
    exact ⟨[], rfl, h, (fun x h => absurd h (by simp)), List.Pairwise.nil⟩)
  have HW := hid_intro hW0
  clear hW0 al0
  go_enter Try.func5, Try.ntmps5
  go_wp2_with fail
  rw [← HW.out]
  clear HW
  refine (HRC.out _ _ HA0.out).mono ?_
  rintro e w1 ⟨rfl, hA1, hg1⟩
  have HA1 := hid_intro hA1
  have HB1 : Hid (Below w.heap.size w w1) := hid_intro (HB0.out.grown hg1 HB0.out.size (fun k e => by simp only [Option.some.injEq] at e; omega))
  have HP1 : Hid (Pt w.heap.size 6 w1) := hid_intro (StR.pt_far HP0.out hg1 (by omega))
  have hS1 : w.heap.size + 2 ≤ w1.heap.size := by have := hg1.size; omega
  have HD1 := hid_intro (HD0.out.far hg1 (by omega))
  clear hA1 hg1 HA0 HB0 HP0 hS0 HD0
  go_wp2_with fail
  go_loopw [4, 5] (fun v z wr => ∃ k : Nat, k ≤ C ∧ z = .int .i64 ((C : Int) - (k : Int)) ∧ Hid (SAfter (w.heap.size + 1) s (PD k) wr) ∧ Hid (Below w.heap.size w wr) ∧ Hid (Pt w.heap.size 6 wr) ∧ Hid (w.heap.size + 2 ≤ wr.heap.size) ∧ Hid (PD k ≠ none → DsO (w.heap.size + 2) v (LD k) wr)) (fun v z _ => (intOf z).toNat)
  case atStart => exact ⟨0, by omega, by simp, HA1, HB1, HP1, hid_intro hS1, hid_intro (fun _ => HD1.out)⟩
  case round =>
    clear HA1 HB1 HP1 HD1 hS1
    obtain ⟨k, hk, rfl, HA, HB, HP, HS, HD⟩ := hrel
    obtain ⟨pp, hSR⟩ := HA.out.open
    obtain ⟨gl, g0, g1, g2, gf0, gf1, gf2⟩ := hSR
    rcases exit_of HNP.out hk with ⟨hlt, hno⟩ | ⟨heq, hall⟩
    · obtain ⟨Wo, hWo⟩ : ∃ Wo, Wo = wr := ⟨_, rfl⟩
      subst hWo
      have hlt2 : (0 : Int) < (C : Int) - (k : Int) := by omega
      rw [decide_eq_false hno] at g2
      obtain ⟨xs, hx1, hx2, hx3, hx4⟩ := HD.out hno
      rw [HLL.out k] at hx2
      have HX1 := hid_intro hx1
      have HX2 := hid_intro hx2
      have HX3 := hid_intro hx3
      have HX4 := hid_intro hx4
      obtain ⟨o1, o2, o3, PH, LH, hh, ss, r1, r2, r3, rcc, rh, hNH, hPE, hH0, hHM, hHE, h6⟩ := HRD.out k (w.heap.size + 1)
      have HLM2 := hid_intro (HLM.out k)
      clear hx1 hx2 hx3 hx4 HD hno
      generalize dd k = X at *
      obtain ⟨a, mo, sq, ls⟩ := X
      dsimp only at *
      obtain ⟨Dn, hDn⟩ : ∃ Dn, Dn = ls.length := ⟨_, rfl⟩
      rw [← hDn] at rcc hPE hHE h6
      have R1 := hid_intro r1
      have R2 := hid_intro r2
      have R3 := hid_intro r3
      have RCC := hid_intro rcc
      have RH := hid_intro rh
      have HNH := hid_intro hNH
      have HPE := hid_intro hPE
      have HH0 := hid_intro hH0
      have HHM := hid_intro hHM
      have HHE := hid_intro hHE
      have HDN := hid_intro hDn
      have HG : Hid (Wo.grownBy Wo (some (w.heap.size + 1))) := hid_intro (EvtR.rgrown (Below.refl _ _) _)
      clear r1 r2 r3 rcc rh hNH hPE hH0 hHM hHE hDn
      go_wp2_with fail
      clear gl g0 g1 g2 gf0 gf1 gf2
      refine (R1.out _ HA.out).mono ?_
      rintro e q1 ⟨rfl, hA, hq⟩
      replace HA := hid_intro hA
      replace HG := hid_intro (gtrans HG.out hq)
      clear hA hq
      obtain ⟨wA, hwA⟩ : ∃ z, z = q1.alloc (.cells #[.string a, .int .i64 0, .int .i64 0, .slice none 0 0] 25) := ⟨_, rfl⟩
      have al : Below q1.heap.size q1 wA := by rw [hwA]; exact (Below.refl _ _).alloc (Nat.le_refl _) _
      have HV : Hid (BlkW q1.heap.size [.string a, .int .i64 0, .int .i64 0, .slice none 0 0] wA) := hid_intro (by rw [hwA]; exact BlkW.new q1 [.string a, .int .i64 0, .int .i64 0, .slice none 0 0] 25)
      have hlo : Wo.heap.size ≤ q1.heap.size := HG.out.size
      have hlo2 : w.heap.size + 2 ≤ q1.heap.size := by have := HS.out; omega
      replace HA := hid_intro (satt HA.out al)
      replace HG := hid_intro (gtrans HG.out (EvtR.rgrown al _))
      have HW := hid_intro hwA
      obtain ⟨bV, hbV⟩ : ∃ z, z = q1.heap.size := ⟨_, rfl⟩
      rw [← hbV] at HV hlo hlo2
      have HBV := hid_intro hbV
      clear hwA hbV al
      go_wp2_with fail
      rw [← HW.out, ← HBV.out]
      clear HW HBV
      refine (R2.out _ HA.out).mono ?_
      rintro e q2 ⟨rfl, hA, hq⟩
      replace HA := hid_intro hA
      replace HG := hid_intro (gtrans HG.out hq)
      replace HV := hid_intro (blkW_grown HV.out hq (by simp; omega))
      clear hA hq
      have hl := HV.out.1.1
      have hc := HV.out.1.2 1 (by simp)
      have hf := HV.out.2 1 (by simp)
      simp only [List.getElem?_cons_zero, List.getElem?_cons_succ] at hc
      have hgs := RowG.grown_set q2 bV 1 (.int .i64 mo)
      replace HV := hid_intro (HV.out.set 1 (.int .i64 mo) (by simp))
      replace HA := hid_intro (HA.out.grown hgs (by simp; omega))
      replace HG := hid_intro (gnewG HG.out hgs (by omega))
      simp only [List.set_cons_zero, List.set_cons_succ] at HV
      obtain ⟨wz0, hwz⟩ : ∃ z, z = q2.setCell ⟨bV, 1, none⟩ (.int .i64 mo) := ⟨_, rfl⟩
      rw [← hwz] at HA HG HV
      have HW := hid_intro hwz
      clear hwz hgs
      go_wp2_with fail
      rw [← HW.out]
      clear HW hl hc hf
      refine (R3.out _ HA.out).mono ?_
      rintro e q3 ⟨rfl, hA, hq⟩
      replace HA := hid_intro hA
      replace HG := hid_intro (gtrans HG.out hq)
      replace HV := hid_intro (blkW_grown HV.out hq (by simp; omega))
      clear hA hq
      have hl := HV.out.1.1
      have hc := HV.out.1.2 2 (by simp)
      have hf := HV.out.2 2 (by simp)
      simp only [List.getElem?_cons_zero, List.getElem?_cons_succ] at hc
      have hgs := RowG.grown_set q3 bV 2 (.int .i64 sq)
      replace HV := hid_intro (HV.out.set 2 (.int .i64 sq) (by simp))
      replace HA := hid_intro (HA.out.grown hgs (by simp; omega))
      replace HG := hid_intro (gnewG HG.out hgs (by omega))
      simp only [List.set_cons_zero, List.set_cons_succ] at HV
      obtain ⟨wz1, hwz⟩ : ∃ z, z = q3.setCell ⟨bV, 2, none⟩ (.int .i64 sq) := ⟨_, rfl⟩
      rw [← hwz] at HA HG HV
      have HW := hid_intro hwz
      clear hwz hgs
      go_wp2_with fail
      rw [← HW.out]
      clear HW hl hc hf
      refine (RCC.out _ HA.out).mono ?_
      rintro e wC ⟨rfl, hA, hq⟩
      replace HA := hid_intro hA
      replace HG := hid_intro (gtrans HG.out hq)
      replace HV := hid_intro (blkW_grown HV.out hq (by simp; omega))
      clear hA hq
      go_wp2_with fail
      go_loopw [7] (fun z wx => ∃ (i : Nat) (ha : Option Addr) (hc : Nat), i ≤ Dn ∧ z = .int .i64 ((Dn : Int) - (i : Int)) ∧ Hid (SAfter (w.heap.size + 1) s (PH i) wx) ∧ Hid (Wo.grownBy wx (some (w.heap.size + 1))) ∧ Hid (BlkW bV [.string a, .int .i64 mo, .int .i64 sq, .slice ha i hc] wx) ∧ Hid (wx.ownsRow (bV + 1) 45 2 (.slice ha i hc) i (cellsAll N.cells (LH i)))) (fun z _ => (intOf z).toNat)
      case atStart => exact ⟨0, none, 0, by omega, by simp, HA, HG, HV, hid_intro (by rw [HH0.out]; exact World.ownsRow_nil _ _ _ _)⟩
      case round =>
        clear HA HG HV
        obtain ⟨i, ha, hc, hki, rfl, HA, HG, HV, HO⟩ := hrel
        obtain ⟨pp, hSR⟩ := HA.out.open
        obtain ⟨gl, g0, g1, g2, gf0, gf1, gf2⟩ := hSR
        rcases exit_of HNH.out hki with ⟨hlt3, hno3⟩ | ⟨heq3, hall3⟩
        · have hlt4 : (0 : Int) < (Dn : Int) - (i : Int) := by omega
          rw [decide_eq_false hno3] at g2
          obtain ⟨om, rd1, rd2⟩ := RH.out i
          have RD1 := hid_intro rd1
          have RD2 := hid_intro rd2
          clear rd1 rd2 hno3
          have HLN := hid_intro (HHM.out i)
          generalize hh i = X at *
          generalize ss i = Y at *
          go_wp2_with fail
          clear gl g0 g1 g2 gf0 gf1 gf2
          refine (RD1.out _ HA.out).mono ?_
          rintro e u1 ⟨rfl, hA, hq⟩
          replace HA := hid_intro hA
          replace HG := hid_intro (gtrans HG.out hq)
          replace HV := hid_intro (blkW_grown HV.out hq (by simp; omega))
          replace HO := hid_intro (own_keepG HO.out hq (by omega))
          clear hA hq
          obtain ⟨u2, hu2⟩ : ∃ z, z = u1.alloc (.cells #[.string X, .int .i64 0] 45) := ⟨_, rfl⟩
          have al : Below u1.heap.size u1 u2 := by rw [hu2]; exact (Below.refl _ _).alloc (Nat.le_refl _) _
          have HQ : Hid (BlkW u1.heap.size [.string X, .int .i64 0] u2) := hid_intro (by rw [hu2]; exact BlkW.new u1 [.string X, .int .i64 0] 45)
          have hlq : bV < u1.heap.size := HV.out.1.1
          have HQO : Hid (∀ b, (.slice ha i hc : Value).ownBlock = some b → b < u1.heap.size) := hid_intro (fun b hb => (HO.out.lt b hb).2)
          replace HA := hid_intro (satt HA.out al)
          replace HG := hid_intro (gtrans HG.out (EvtR.rgrown al _))
          replace HV := hid_intro (HV.out.below al)
          replace HO := hid_intro (RowG.own_below HO.out al)
          have HW := hid_intro hu2
          obtain ⟨bQ, hbQ⟩ : ∃ z, z = u1.heap.size := ⟨_, rfl⟩
          rw [← hbQ] at HQ hlq HQO
          have HBQ := hid_intro hbQ
          clear hu2 hbQ al
          go_wp2_with fail
          rw [← HW.out, ← HBQ.out]
          clear HW HBQ
          refine (RD2.out _ HA.out).mono ?_
          rintro e u3 ⟨rfl, hA, hq⟩
          replace HQ := hid_intro (blkW_grown HQ.out hq (by simp; omega))
          replace HA := hid_intro hA
          replace HG := hid_intro (gtrans HG.out hq)
          replace HV := hid_intro (blkW_grown HV.out hq (by simp; omega))
          replace HO := hid_intro (own_keepG HO.out hq (by omega))
          clear hA hq
          have hl := HQ.out.1.1
          have vl := HV.out.1.1
          have v7 := HV.out.1.2 3 (by simp)
          have f7 := HV.out.2 3 (by simp)
          have hqv : bQ ≠ bV := by omega
          have hvq : bV ≠ bQ := by omega
          have hcc := HQ.out.1.2 1 (by simp)
          have hc0 := HQ.out.1.2 0 (by simp)
          have hff := HQ.out.2 1 (by simp)
          simp only [List.getElem?_cons_zero, List.getElem?_cons_succ] at hcc hc0 v7
          have hgs := RowG.grown_set u3 bQ 1 (.int .i64 Y)
          replace HA := hid_intro (HA.out.grown hgs (by simp; omega))
          replace HG := hid_intro (gnewG HG.out hgs (by omega))
          replace HV := hid_intro (blkW_grown HV.out hgs (by simp; omega))
          replace HO := hid_intro (own_keepO HO.out hgs (fun b hb => by have := HQO.out b hb; simp; omega))
          have hnw : ∀ j u, ([.string X, .int .i64 Y] : List Value)[j]? = some u → ((u3.setCell ⟨bQ, 1, none⟩ (.int .i64 Y)).alloc (.cells #[.string X, .int .i64 Y] 45)).cell? ((⟨u3.heap.size, 0, none⟩ : Addr).add j) = some u := by
            have h := new_cells (u3.setCell ⟨bQ, 1, none⟩ (.int .i64 Y)) [.string X, .int .i64 Y] 45
            simpa using h
          have HAL2 := hid_intro (fun b (hb : (.slice ha i hc : Value).ownBlock = some b) => (HO.out.lt b hb).1)
          have hbv : bV + 1 ≤ u3.heap.size := by omega
          clear hgs
          go_wp2_with (at_builtin; refine wpList_append_own _ rfl _ _ 23 rfl (bV + 1) 45 j0 (.agg #[.string ⟨#[]⟩, .int .i64 0]) 2 24 Try.underlying23 gi gz0 gz1 gz2 rfl (by decide) _ _ _ rfl (HO.out.alloc _) ⟨u3.heap.size, 0, none⟩ 1 1 [.string X, .int .i64 Y] rfl rfl hnw (ln_one _ _) ?d3 ?d4 ?d5 ?_)
          case d3 => unfold maxLen; omega
          case d4 => omega
          case d5 => simp; omega
          intro v9 w9 hown hgrow hne
          have hO9 : w9.ownsRow (bV + 1) 45 2 v9 (i + 1) (cellsAll N.cells (LH (i + 1))) := by rw [HLN.out, cellsAll_snoc]; exact hown
          have al := ((Below.refl _ (u3.setCell ⟨bQ, 1, none⟩ (.int .i64 Y))).alloc (Nat.le_refl _) (.cells #[.string X, .int .i64 Y] 45))
          replace HA := hid_intro ((satt HA.out al).grown hgrow (fun e => by have := HAL2.out _ e.symm; omega))
          replace HG := hid_intro (gnewR (gtrans HG.out (EvtR.rgrown al _)) hgrow (fun X e => by have := HAL2.out _ e; omega))
          replace HV := hid_intro (blkW_grown (HV.out.below al) hgrow (fun e => by have := HAL2.out _ e.symm; omega))
          obtain ⟨sb, sc, rfl⟩ := own_form hO9
          have HO9 := hid_intro hO9
          clear hown hgrow hne hnw hO9 al hl hcc hc0 hff vl v7 f7 HO HQ HAL2
          have vl := HV.out.1.1
          have v7 := HV.out.1.2 3 (by simp)
          have f7 := HV.out.2 3 (by simp)
          simp only [List.getElem?_cons_zero, List.getElem?_cons_succ] at v7
          have hgs := RowG.grown_set w9 bV 3 (.slice (some ⟨sb, 0, none⟩) (i + 1) sc)
          have HA9 := hid_intro (HA.out.grown hgs (by simp; omega))
          have HG9 := hid_intro (gnewG HG.out hgs (by omega))
          have HV9 := hid_intro (HV.out.set 3 (.slice (some ⟨sb, 0, none⟩) (i + 1) sc) (by simp))
          have HO8 := hid_intro (own_keepG HO9.out hgs (by omega))
          simp only [List.set_cons_zero, List.set_cons_succ] at HV9
          clear hgs HA HG HV HO9
          go_wp2_with fail
          go_roundw
          case rel => exact ⟨i + 1, some ⟨sb, 0, none⟩, sc, by omega, by go_num, HA9, HG9, HV9, HO8⟩
          case measure => simp [intOf]; omega
        · rcases exit_two heq3 hall3 hki with hex3 | ⟨hex3, hd3⟩
          · have HPN : Hid (SAfter (w.heap.size + 1) s (PD (k + 1)) wr) := hid_intro (by rw [← HPE.out, ← heq3]; exact HA.out)
            have HII : Hid (PD (k + 1) ≠ none → i = Dn) := hid_intro (fun h => hall3 (by rw [HPE.out]; exact h))
            clear hall3 heq3
            have v0 : wr.cell? ⟨bV, 0, none⟩ = some (.string a) := HV.out.1.2 0 (by simp)
            have v1 : wr.cell? ⟨bV, 1, none⟩ = some (.int .i64 mo) := HV.out.1.2 1 (by simp)
            have v2 : wr.cell? ⟨bV, 2, none⟩ = some (.int .i64 sq) := HV.out.1.2 2 (by simp)
            have v3 : wr.cell? ⟨bV, 3, none⟩ = some (.slice ha i hc) := HV.out.1.2 3 (by simp)
            have vl := HV.out.1.1
            have HO2 := hid_intro (own_keepG HX2.out HG.out (by omega))
            obtain ⟨w3, hw3⟩ : ∃ z, z = wr.alloc (.cells #[.string a, .int .i64 mo, .int .i64 sq, .slice ha i hc] 25) := ⟨_, rfl⟩
            have al : Below wr.heap.size wr w3 := by rw [hw3]; exact (Below.refl _ _).alloc (Nat.le_refl _) _
            have HAL := hid_intro al
            have HO3 := hid_intro (RowG.own_below HO2.out al)
            have HNW : Hid (∀ j u, ([.string a, .int .i64 mo, .int .i64 sq, .slice ha i hc] : List Value)[j]? = some u → w3.cell? ((⟨wr.heap.size, 0, none⟩ : Addr).add j) = some u) := hid_intro (by rw [hw3]; exact new_cells wr [.string a, .int .i64 mo, .int .i64 sq, .slice ha i hc] 25)
            have HW3 := hid_intro hw3
            have HS3 : Hid (w.heap.size + 2 ≤ w3.heap.size) := hid_intro (by have := al.size; omega)
            clear al hw3 HO2
            have hsz1 : k + 1 ≤ maxLen := by unfold maxLen; omega
            have hsz2 : (k + 1) * 56 ≤ 140737488355328 := by omega
            have HDO : Hid (∀ u ∈ ([.string a, .int .i64 mo, .int .i64 sq, .slice ha i hc] : List Value), u.oneCell' = true) := hid_intro (by intro u hu; simp at hu; rcases hu with rfl | rfl | rfl | rfl <;> rfl)
            go_wp2_with (at_builtin; rw [← HW3.out]; refine wpList_append_own _ rfl _ _ 22 rfl (w.heap.size + 2) 25 i0 (.agg #[.string ⟨#[]⟩, .int .i64 0, .int .i64 0, .slice none 0 0]) 4 56 Try.underlying22 hi hz0 hz1 hz2 rfl (by decide) _ _ _ rfl HO3.out ⟨wr.heap.size, 0, none⟩ 1 1 [.string a, .int .i64 mo, .int .i64 sq, .slice ha i hc] rfl rfl HNW.out HDO.out hsz1 hsz2 HS3.out ?_)
            intro v' w9 hown hgrow hne
            have HD9 : Hid (PD (k + 1) ≠ none → DsO (w.heap.size + 2) v' (LD (k + 1)) w9) := hid_intro (fun h => by
              have hin := HII.out h
              have hn : wr.ownsRow Wo.heap.size 45 2 (.slice ha ls.length hc) ls.length (cellsAll N.cells ls) := by
                have h9 := HO.out
                rw [hin, HHE.out, HDN.out] at h9
                exact OwG.own_low h9 (by omega)
              rw [HLM2.out]
              refine dso_step (d := ⟨a, mo, sq, ls⟩) HX1.out HX3.out HX4.out HG.out (by omega) HS.out hn HAL.out ?_ hgrow ?_
              · rw [HLL.out k]; exact HO3.out
              · rw [HLL.out k]
                have h8 := hown
                rw [hin, HDN.out] at h8
                exact h8)
            have HA9 := hid_intro ((satt HPN.out HAL.out).grown hgrow (fun e => by have := (HO3.out.lt _ e.symm).1; omega))
            have hgo9 : Below w.heap.size w wr := HB.out.grown HG.out HB.out.size (fun k e => by simp only [Option.some.injEq] at e; omega)
            have HB9 : Hid (Below w.heap.size w w9) := hid_intro ((hgo9.trans (HAL.out.mono hgo9.size)).grown hgrow (hgo9.trans (HAL.out.mono hgo9.size)).size (fun k e => by have := (HO3.out.lt k e).1; omega))
            have HP9 : Hid (Pt w.heap.size 6 w9) := hid_intro (pt_row ((pt_grownG HP.out HG.out (by omega)).below HAL.out) hgrow (fun e => by have := (HO3.out.lt _ e.symm).1; omega))
            have HS9 : Hid (w.heap.size + 2 ≤ w9.heap.size) := hid_intro (by have := hgrow.size; have := HS3.out; omega)
            clear hown hgrow hne hgo9
            go_wp2_with fail
            go_roundw
            case rel => exact ⟨k + 1, by omega, by go_num, HA9, HB9, HP9, HS9, HD9⟩
            case measure => simp [intOf]; omega
          · rw [hd3] at g2
            have HPN : Hid (SAfter (w.heap.size + 1) s (PD (k + 1)) wr) := hid_intro (by rw [← HPE.out, ← heq3]; exact HA.out)
            have HBN : Hid (PD (k + 1) = none) := hid_intro (by rw [← HPE.out, ← heq3]; exact of_decide_eq_true hd3)
            clear hd3 hall3 heq3
            have v0 : wr.cell? ⟨bV, 0, none⟩ = some (.string a) := HV.out.1.2 0 (by simp)
            have v1 : wr.cell? ⟨bV, 1, none⟩ = some (.int .i64 mo) := HV.out.1.2 1 (by simp)
            have v2 : wr.cell? ⟨bV, 2, none⟩ = some (.int .i64 sq) := HV.out.1.2 2 (by simp)
            have v3 : wr.cell? ⟨bV, 3, none⟩ = some (.slice ha i hc) := HV.out.1.2 3 (by simp)
            have vl := HV.out.1.1
            have HO2 := hid_intro (own_keepG HX2.out HG.out (by omega))
            obtain ⟨w3, hw3⟩ : ∃ z, z = wr.alloc (.cells #[.string a, .int .i64 mo, .int .i64 sq, .slice ha i hc] 25) := ⟨_, rfl⟩
            have al : Below wr.heap.size wr w3 := by rw [hw3]; exact (Below.refl _ _).alloc (Nat.le_refl _) _
            have HAL := hid_intro al
            have HO3 := hid_intro (RowG.own_below HO2.out al)
            have HNW : Hid (∀ j u, ([.string a, .int .i64 mo, .int .i64 sq, .slice ha i hc] : List Value)[j]? = some u → w3.cell? ((⟨wr.heap.size, 0, none⟩ : Addr).add j) = some u) := hid_intro (by rw [hw3]; exact new_cells wr [.string a, .int .i64 mo, .int .i64 sq, .slice ha i hc] 25)
            have HW3 := hid_intro hw3
            have HS3 : Hid (w.heap.size + 2 ≤ w3.heap.size) := hid_intro (by have := al.size; omega)
            clear al hw3 HO2
            have hsz1 : k + 1 ≤ maxLen := by unfold maxLen; omega
            have hsz2 : (k + 1) * 56 ≤ 140737488355328 := by omega
            have HDO : Hid (∀ u ∈ ([.string a, .int .i64 mo, .int .i64 sq, .slice ha i hc] : List Value), u.oneCell' = true) := hid_intro (by intro u hu; simp at hu; rcases hu with rfl | rfl | rfl | rfl <;> rfl)
            go_wp2_with (at_builtin; rw [← HW3.out]; refine wpList_append_own _ rfl _ _ 22 rfl (w.heap.size + 2) 25 i0 (.agg #[.string ⟨#[]⟩, .int .i64 0, .int .i64 0, .slice none 0 0]) 4 56 Try.underlying22 hi hz0 hz1 hz2 rfl (by decide) _ _ _ rfl HO3.out ⟨wr.heap.size, 0, none⟩ 1 1 [.string a, .int .i64 mo, .int .i64 sq, .slice ha i hc] rfl rfl HNW.out HDO.out hsz1 hsz2 HS3.out ?_)
            intro v' w9 hown hgrow hne
            have HD9 : Hid (PD (k + 1) ≠ none → DsO (w.heap.size + 2) v' (LD (k + 1)) w9) := hid_intro (fun h => absurd HBN.out h)
            have HA9 := hid_intro ((satt HPN.out HAL.out).grown hgrow (fun e => by have := (HO3.out.lt _ e.symm).1; omega))
            have hgo9 : Below w.heap.size w wr := HB.out.grown HG.out HB.out.size (fun k e => by simp only [Option.some.injEq] at e; omega)
            have HB9 : Hid (Below w.heap.size w w9) := hid_intro ((hgo9.trans (HAL.out.mono hgo9.size)).grown hgrow (hgo9.trans (HAL.out.mono hgo9.size)).size (fun k e => by have := (HO3.out.lt k e).1; omega))
            have HP9 : Hid (Pt w.heap.size 6 w9) := hid_intro (pt_row ((pt_grownG HP.out HG.out (by omega)).below HAL.out) hgrow (fun e => by have := (HO3.out.lt _ e.symm).1; omega))
            have HS9 : Hid (w.heap.size + 2 ≤ w9.heap.size) := hid_intro (by have := hgrow.size; have := HS3.out; omega)
            clear hown hgrow hne hgo9
            go_wp2_with fail
            go_roundw
            case rel => exact ⟨k + 1, by omega, by go_num, HA9, HB9, HP9, HS9, HD9⟩
            case measure => simp [intOf]; omega
    · rcases exit_two heq hall hk with hex | ⟨hex, hd⟩
      · by_cases hn : PD k = none
        · have HNO : Hid (¬ (PD C ≠ none ∧ s.size ≠ 0 ∧ T = s)) := hid_intro (fun q => q.1 (by rw [← heq]; exact hn))
          rw [decide_eq_true hn] at g2
          clear heq hall hn
          have hp9 := HP.out
          have hl9 := hp9.lt
          obtain ⟨ov0, r0⟩ := hp9.has 0 (by omega)
          have f0 := hp9.free 0 (by omega)
          obtain ⟨ov1, r1⟩ := hp9.has 1 (by omega)
          have f1 := hp9.free 1 (by omega)
          obtain ⟨ov2, r2⟩ := hp9.has 2 (by omega)
          have f2 := hp9.free 2 (by omega)
          obtain ⟨ov3, r3⟩ := hp9.has 3 (by omega)
          have f3 := hp9.free 3 (by omega)
          obtain ⟨ov4, r4⟩ := hp9.has 4 (by omega)
          have f4 := hp9.free 4 (by omega)
          obtain ⟨ov5, r5⟩ := hp9.has 5 (by omega)
          have f5 := hp9.free 5 (by omega)
          have hgf := StR.stL_grown w.heap.size [.slice none 0 0, .string ⟨#[]⟩, .int .i64 0, .int .i64 0, .slice none 0 0, .int .i64 3] 0 wr
          have HBF := hid_intro (HB.out.grown hgf HB.out.size (fun k e => by simp only [Option.some.injEq] at e; omega))
          simp only [StR.stL, Nat.zero_add, Nat.reduceAdd] at HBF
          clear hgf hp9
          go_wp2_with fail
          refine bodyPost_ret (v := .agg #[.slice none 0 0, .string ⟨#[]⟩, .int .i64 0, .int .i64 0, .slice none 0 0, .int .i64 3]) (by simp [results, Try.results5, go_sem, r0, r1, r2, r3, r4, r5]) rfl (spl_bad HNO.out HBF.out)
        · have hDn : PD C ≠ none := by rw [← heq]; exact hn
          obtain rfl : k = C := hall hDn
          rw [decide_eq_false hn] at g2
          clear heq hall
          have HDs := hid_intro (HD.out hn)
          clear HD
          by_cases h0 : s.size = 0
          · have he := EvtR.empty_of s h0
            have HNO : Hid (¬ (PD k ≠ none ∧ s.size ≠ 0 ∧ T = s)) := hid_intro (fun q => q.2.1 h0)
            have hp9 := HP.out
            have hl9 := hp9.lt
            obtain ⟨ov0, r0⟩ := hp9.has 0 (by omega)
            have f0 := hp9.free 0 (by omega)
            obtain ⟨ov1, r1⟩ := hp9.has 1 (by omega)
            have f1 := hp9.free 1 (by omega)
            obtain ⟨ov2, r2⟩ := hp9.has 2 (by omega)
            have f2 := hp9.free 2 (by omega)
            obtain ⟨ov3, r3⟩ := hp9.has 3 (by omega)
            have f3 := hp9.free 3 (by omega)
            obtain ⟨ov4, r4⟩ := hp9.has 4 (by omega)
            have f4 := hp9.free 4 (by omega)
            obtain ⟨ov5, r5⟩ := hp9.has 5 (by omega)
            have f5 := hp9.free 5 (by omega)
            have hgf := StR.stL_grown w.heap.size [.slice none 0 0, .string ⟨#[]⟩, .int .i64 0, .int .i64 0, .slice none 0 0, .int .i64 3] 0 wr
            have HBF := hid_intro (HB.out.grown hgf HB.out.size (fun k e => by simp only [Option.some.injEq] at e; omega))
            simp only [StR.stL, Nat.zero_add, Nat.reduceAdd] at HBF
            clear hgf hp9
            go_wp2_with fail
            refine bodyPost_ret (v := .agg #[.slice none 0 0, .string ⟨#[]⟩, .int .i64 0, .int .i64 0, .slice none 0 0, .int .i64 3]) (by simp [results, Try.results5, go_sem, r0, r1, r2, r3, r4, r5]) rfl (spl_bad HNO.out HBF.out)
          · obtain ⟨he, he2⟩ := EvtR.full_of s h0
            obtain ⟨ao, cap, rfl, hdc⟩ := HDs.out.dcs
            have HCW := hid_intro (HWB.out ao cap wr hdc)
            rw [HLL.out k] at HDs ⊢
            clear hdc
            by_cases hTs : T = s
            · have hq : (T.toList == s.toList) = true := by rw [hTs]; simp
              have HOK : Hid (PD k ≠ none ∧ s.size ≠ 0 ∧ T = s) := hid_intro ⟨hn, h0, hTs⟩
              clear hTs
              go_wp2_with fail
              refine HCW.out.mono ?_
              rintro e wJ ⟨rfl, hbJ⟩
              replace HB := hid_intro (HB.out.trans (hbJ.mono HB.out.size))
              replace HP := hid_intro (HP.out.below hbJ)
              replace HDs := hid_intro (HDs.out.below hbJ)
              clear hbJ HA gl g0 g1 g2 gf0 gf1 gf2 HCW
              have hp9 := HP.out
              have hl9 := hp9.lt
              obtain ⟨ov0, r0⟩ := hp9.has 0 (by omega)
              have f0 := hp9.free 0 (by omega)
              obtain ⟨ov1, r1⟩ := hp9.has 1 (by omega)
              have f1 := hp9.free 1 (by omega)
              obtain ⟨ov2, r2⟩ := hp9.has 2 (by omega)
              have f2 := hp9.free 2 (by omega)
              obtain ⟨ov3, r3⟩ := hp9.has 3 (by omega)
              have f3 := hp9.free 3 (by omega)
              obtain ⟨ov4, r4⟩ := hp9.has 4 (by omega)
              have f4 := hp9.free 4 (by omega)
              obtain ⟨ov5, r5⟩ := hp9.has 5 (by omega)
              have f5 := hp9.free 5 (by omega)
              have hgf := StR.stL_grown w.heap.size [.slice ao k cap, .string ⟨#[]⟩, .int .i64 0, .int .i64 0, .slice none 0 0, .int .i64 0] 0 wJ
              have HBF := hid_intro (HB.out.grown hgf HB.out.size (fun k e => by simp only [Option.some.injEq] at e; omega))
              have HDF := hid_intro (HDs.out.far hgf (by omega))
              simp only [StR.stL, Nat.zero_add, Nat.reduceAdd] at HBF HDF
              clear hgf hp9
              go_wp2_with fail
              refine bodyPost_ret (v := .agg #[.slice ao k cap, .string ⟨#[]⟩, .int .i64 0, .int .i64 0, .slice none 0 0, .int .i64 0]) (by simp [results, Try.results5, go_sem, r0, r1, r2, r3, r4, r5]) rfl (spl_ok HOK.out (HDF.out.low (by omega)) HBF.out)
            · have hq : (T.toList == s.toList) = false := by
                simp only [beq_eq_false_iff_ne, ne_eq]
                exact fun h => hTs (LtR.toList_inj h)
              have HNO : Hid (¬ (PD k ≠ none ∧ s.size ≠ 0 ∧ T = s)) := hid_intro (fun q => hTs q.2.2)
              have hqn : T.toList ≠ s.toList := fun h => hTs (LtR.toList_inj h)
              clear hTs
              go_wp2_with fail
              refine HCW.out.mono ?_
              rintro e wJ ⟨rfl, hbJ⟩
              replace HB := hid_intro (HB.out.trans (hbJ.mono HB.out.size))
              replace HP := hid_intro (HP.out.below hbJ)
              replace HDs := hid_intro (HDs.out.below hbJ)
              clear hbJ HA gl g0 g1 g2 gf0 gf1 gf2 HCW
              have hp9 := HP.out
              have hl9 := hp9.lt
              obtain ⟨ov0, r0⟩ := hp9.has 0 (by omega)
              have f0 := hp9.free 0 (by omega)
              obtain ⟨ov1, r1⟩ := hp9.has 1 (by omega)
              have f1 := hp9.free 1 (by omega)
              obtain ⟨ov2, r2⟩ := hp9.has 2 (by omega)
              have f2 := hp9.free 2 (by omega)
              obtain ⟨ov3, r3⟩ := hp9.has 3 (by omega)
              have f3 := hp9.free 3 (by omega)
              obtain ⟨ov4, r4⟩ := hp9.has 4 (by omega)
              have f4 := hp9.free 4 (by omega)
              obtain ⟨ov5, r5⟩ := hp9.has 5 (by omega)
              have f5 := hp9.free 5 (by omega)
              have hgf := StR.stL_grown w.heap.size [.slice none 0 0, .string ⟨#[]⟩, .int .i64 0, .int .i64 0, .slice none 0 0, .int .i64 3] 0 wJ
              have HBF := hid_intro (HB.out.grown hgf HB.out.size (fun k e => by simp only [Option.some.injEq] at e; omega))
              simp only [StR.stL, Nat.zero_add, Nat.reduceAdd] at HBF
              clear hgf hp9
              go_wp2_with fail
              refine bodyPost_ret (v := .agg #[.slice none 0 0, .string ⟨#[]⟩, .int .i64 0, .int .i64 0, .slice none 0 0, .int .i64 3]) (by simp [results, Try.results5, go_sem, r0, r1, r2, r3, r4, r5]) rfl (spl_bad HNO.out HBF.out)
      · have hn : PD k = none := of_decide_eq_true hd
        have HNO : Hid (¬ (PD C ≠ none ∧ s.size ≠ 0 ∧ T = s)) := hid_intro (fun q => q.1 (by rw [← heq]; exact hn))
        rw [hd] at g2
        clear heq hall hn
        have hp9 := HP.out
        have hl9 := hp9.lt
        obtain ⟨ov0, r0⟩ := hp9.has 0 (by omega)
        have f0 := hp9.free 0 (by omega)
        obtain ⟨ov1, r1⟩ := hp9.has 1 (by omega)
        have f1 := hp9.free 1 (by omega)
        obtain ⟨ov2, r2⟩ := hp9.has 2 (by omega)
        have f2 := hp9.free 2 (by omega)
        obtain ⟨ov3, r3⟩ := hp9.has 3 (by omega)
        have f3 := hp9.free 3 (by omega)
        obtain ⟨ov4, r4⟩ := hp9.has 4 (by omega)
        have f4 := hp9.free 4 (by omega)
        obtain ⟨ov5, r5⟩ := hp9.has 5 (by omega)
        have f5 := hp9.free 5 (by omega)
        have hgf := StR.stL_grown w.heap.size [.slice none 0 0, .string ⟨#[]⟩, .int .i64 0, .int .i64 0, .slice none 0 0, .int .i64 3] 0 wr
        have HBF := hid_intro (HB.out.grown hgf HB.out.size (fun k e => by simp only [Option.some.injEq] at e; omega))
        simp only [StR.stL, Nat.zero_add, Nat.reduceAdd] at HBF
        clear hgf hp9
        go_wp2_with fail
        refine bodyPost_ret (v := .agg #[.slice none 0 0, .string ⟨#[]⟩, .int .i64 0, .int .i64 0, .slice none 0 0, .int .i64 3]) (by simp [results, Try.results5, go_sem, r0, r1, r2, r3, r4, r5]) rfl (spl_bad HNO.out HBF.out)
end LedR
end Go.Proofs.Ytppdilomefoaaaa
namespace Go.Proofs.Ytppdilomefoaaaa
open Go.ChangeShapes Go.WideShapes Go.ChangeAt Go.RowKit
set_option linter.unusedVariables false
namespace MarkR
theorem hid_intro {p : Prop} (h : p) : Hid p := h
theorem conv_m (w : World) (z : Int) : (convert 32 9 (.slice (some ⟨w.heap.size, 0, none⟩) 1 1)).run Try.prog (w.alloc (Obj.cells #[.int .u8 z] 5)) = .ok (.string (strOfNums [z])) (w.alloc (Obj.cells #[.int .u8 z] 5)) := by
  refine run_convert_bytes_arg _ 32 5 Try.underlying32 Try.underlying5 w.heap.size 0 1 1 _ rfl ?_ 9 Try.underlying9
  intro i hi
  match i, hi with
  | 0, _ => simp [go_sem]
/-- The digits put ahead of a text. -/
def mk : Nat → Nat → ByteArray → ByteArray
  | 0, _, out => out
  | f + 1, k, out => if k = 0 then out else mk f (k / 10) (strOfNums [48 + ((k % 10 : Nat) : Int)] ++ out)
def mT (k : Nat) : ByteArray := (⟨#[109]⟩ : ByteArray) ++ mk 9 k ⟨#[]⟩
set_option maxRecDepth 100000 in
set_option maxHeartbeats 4000000 in
theorem mark_any (K : Nat) (h0 : 1 ≤ K) (h : K < 100000000) (w : World) : Calls Try.prog 48 #[.int .i64 K] w fun e w' => e = .returned (.string (mT K)) ∧ Below w.heap.size w w' := by
  have h1 : ¬ (K : Int) ≤ 0 := by omega
  have HT : Hid (mT K = (⟨#[109]⟩ : ByteArray) ++ mk 9 K ⟨#[]⟩) := rfl
  generalize mT K = R at *
  go_enter Try.func48, Try.ntmps48
  go_wp2_with fail
  go_loopw [0, 3] (fun x z wr => ∃ (f k : Nat) (out : ByteArray), x = .int .i64 (k : Int) ∧ z = .string out ∧ k < 10 ^ f ∧ f ≤ 9 ∧ Hid (mk 9 K ⟨#[]⟩ = mk f k out) ∧ out.size + f = 9 ∧ Hid (Below w.heap.size w wr)) (fun x _ _ => (intOf x).toNat)
  case atStart => exact ⟨9, K, ⟨#[]⟩, rfl, rfl, by omega, by omega, rfl, rfl, hid_intro (Below.refl _ _)⟩
  case round =>
    obtain ⟨f, k, out, rfl, rfl, hk, hf, HD, hz, HB⟩ := hrel
    by_cases hk0 : k = 0
    · subst hk0
      have HO : Hid (R = (⟨#[109]⟩ : ByteArray) ++ out) := hid_intro (by rw [HT.out, HD.out]; cases f <;> simp [mk])
      have q1 : ¬ 9223372036854775807 < 1 + out.size := by omega
      go_wp2_with fail
      go_ret
      exact ⟨ret_str HO.out.symm, HB.out⟩
    · obtain ⟨g, rfl⟩ : ∃ g, f = g + 1 := ⟨f - 1, by rcases f with _ | f; simp at hk; omega; omega⟩
      have hk2 : k / 10 < 10 ^ g := by rw [Nat.pow_succ] at hk; omega
      have HD2 : Hid (mk 9 K ⟨#[]⟩ = mk g (k / 10) (strOfNums [48 + ((k % 10 : Nat) : Int)] ++ out)) := hid_intro (by rw [HD.out, mk, if_neg hk0])
      have hkb : k < 1000000000 := by
        have : 10 ^ (g + 1) ≤ 10 ^ 9 := Nat.pow_le_pow_right (by omega) hf
        omega
      have k1 : (0 : Int) < (k : Int) := by omega
      have e1 : (k : Int) % 10 = ((k % 10 : Nat) : Int) := by omega
      have e2 : (k : Int) / 10 = ((k / 10 : Nat) : Int) := by omega
      have e3 : (k : Int).tmod 10 = ((k % 10 : Nat) : Int) := by rw [Int.tmod_eq_emod_of_nonneg (by omega)]; omega
      have e4 : (k : Int).tdiv 10 = ((k / 10 : Nat) : Int) := by rw [Int.tdiv_eq_ediv_of_nonneg (by omega)]; omega
      have d10 : k % 10 < 10 := by omega
      have dk : k / 10 < k := by omega
      have hC : (strOfNums [48 + ((k % 10 : Nat) : Int)]).size = 1 := strOfNums_size _
      have hcv := conv_m wr (48 + ((k % 10 : Nat) : Int))
      generalize k % 10 = d at *
      generalize k / 10 = q at *
      generalize strOfNums [48 + (d : Int)] = T at *
      have q1 : ¬ 9223372036854775807 < T.size + out.size := by omega
      have HDk := hid_intro dk
      clear dk hk HD
      go_wp2_with fail
      go_roundw
      case rel => exact ⟨g, q, T ++ out, rfl, rfl, hk2, by omega, HD2, by rw [ByteArray.size_append]; omega, hid_intro (HB.out.alloc HB.out.size _)⟩
      case measure => simp [intOf]; have := HDk.out; omega
end MarkR
end Go.Proofs.Ytppdilomefoaaaa
namespace Go.Proofs.Ytppdilomefoaaaa
open Go.ChangeShapes Go.WideShapes Go.ChangeAt Go.RowKit
set_option linter.unusedVariables false
namespace LinR
open RowG
open EvtR (Pt)
open MarkR (mk mT mark_any)
/-- A marked line. -/
def mN (k : Nat) : N := ⟨mT k, ((k + 1 : Nat) : Int)⟩
/-- The cells of marked lines. -/
def mC (o : Nat) : Option Value := (mN (1 + 2 * (o / 2))).cells[o % 2]?
theorem mC_at (i x : Nat) (hx : x < 2) : mC (i * 2 + x) = (mN (1 + 2 * i)).cells[x]? := by
  have e1 : (i * 2 + x) / 2 = i := by omega
  have e2 : (i * 2 + x) % 2 = x := by omega
  unfold mC
  rw [e1, e2]
theorem rgrown {w w' : World} (hb : Below w.heap.size w w') (row : Option Nat) : w.grownBy w' row := ⟨hb.os, hb.tape, hb.output, hb.size, fun k hk _ => hb.block k hk⟩
theorem gtrans {w w1 w2 : World} {g : Option Nat} (h1 : w.grownBy w1 g) (h2 : w1.grownBy w2 g) : w.grownBy w2 g :=
  ⟨h2.os.trans h1.os, h2.tape.trans h1.tape, h2.output.trans h1.output, Nat.le_trans h1.size h2.size, fun k hk hne => (h2.block k (by have := h1.size; omega) hne).trans (h1.block k hk hne)⟩
/-- One more cell marked. -/
theorem mark_step {g m i : Nat} {w0 w : World} (hp : Pt g m w) (x : Nat) (hm : Wr mC (i * 2 + x) g w) (hg : w0.grownBy w (some g)) (hx : x < 2) (hj : i * 2 + x < m) (v : Value) (hv : (mN (1 + 2 * i)).cells[x]? = some v) :
    Pt g m (w.setCell ⟨g, i * 2 + x, none⟩ v) ∧ Wr mC (i * 2 + (x + 1)) g (w.setCell ⟨g, i * 2 + x, none⟩ v) ∧ w0.grownBy (w.setCell ⟨g, i * 2 + x, none⟩ v) (some g) :=
  ⟨hp.set _ _, hm.more hp hj v ((mC_at i x hx).trans hv), gtrans hg (grown_set _ g _ _)⟩
set_option maxRecDepth 100000 in
set_option maxHeartbeats 4000000 in
theorem marks_any (g n cap : Nat) (w : World) (hn : n ≤ 1048576) (h0 : Pt g (n * 2) w) :
    Calls Try.prog 49 #[.slice (some ⟨g, 0, none⟩) n cap, .int .i64 1] w fun e w' => e = .returned (.int .i64 (1 + 2 * n : Nat)) ∧ Pt g (n * 2) w' ∧ Wr mC (n * 2) g w' ∧ w.grownBy w' (some g) := by
  have HP := hid_intro h0
  have HT : Hid (∀ (z : Int) (K : Nat), z = K → 1 ≤ K → K < 100000000 → ∀ w, Calls Try.prog 48 #[.int .i64 z] w fun e w' => e = .returned (.string (mT K)) ∧ Below w.heap.size w w') := hid_intro (fun z K e h0 h w => by subst e; exact mark_any K h0 h w)
  clear h0
  go_enter Try.func49, Try.ntmps49
  go_wp2_with fail
  go_loopw [5, 1] (fun x z wr => ∃ i : Nat, x = .int .i64 (i : Int) ∧ z = .int .i64 (1 + 2 * (i : Int)) ∧ i ≤ n ∧ Hid (Pt g (n * 2) wr) ∧ Hid (Wr mC (i * 2) g wr) ∧ Hid (w.grownBy wr (some g))) (fun x _ _ => n - (intOf x).toNat)
  case atStart => exact ⟨0, rfl, rfl, by omega, HP, hid_intro (fun o ho => absurd ho (by omega)), hid_intro ⟨rfl, rfl, rfl, Nat.le_refl _, fun _ _ _ => rfl⟩⟩
  case round =>
    obtain ⟨i, rfl, rfl, hi, HP, HM, HG⟩ := hrel
    by_cases hin : i = n
    · subst hin
      go_wp2_with fail
      go_ret
      exact ⟨by go_num, HP.out, HM.out, HG.out⟩
    · have h1 : (i : Int) < (n : Int) := by omega
      go_wp2_with fail
      refine (HT.out _ (1 + 2 * i) (by push_cast; omega) (by omega) (by omega) _).mono ?_
      rintro e w1 ⟨rfl, hb⟩
      have HP1 := hid_intro (HP.out.below hb)
      have HM1 := hid_intro (HM.out.below HP.out hb)
      have HG1 := hid_intro (gtrans HG.out (rgrown hb _))
      obtain ⟨v0, c0⟩ := HP1.out.has (i * 2) (by omega)
      have f0 := HP1.out.free (i * 2) (by omega)
      obtain ⟨v1, c1⟩ := HP1.out.has (i * 2 + 1) (by omega)
      have f1 := HP1.out.free (i * 2 + 1) (by omega)
      have HS := hid_intro (mark_step (i := i) HP1.out 0 HM1.out HG1.out (by omega) (by omega) (.string (mT (1 + 2 * i))) rfl)
      have HS2 := hid_intro (mark_step (i := i) HS.out.1 1 HS.out.2.1 HS.out.2.2 (by omega) (by omega) (.int .i64 (1 + 2 * (i : Int) + 1)) (by simp [mN, N.cells]))
      clear hb HP HM HG HP1 HM1 HG1 HS
      go_wp2_with fail
      go_roundw
      case rel => exact ⟨i + 1, by go_num, by go_num, by omega, hid_intro HS2.out.1, hid_intro (by have := HS2.out.2.1; rw [show (i + 1) * 2 = i * 2 + (1 + 1) by omega]; exact this), hid_intro HS2.out.2.2⟩
      case measure => simp [intOf]; omega
theorem mC_cell {n i g : Nat} {w : World} (h : Wr mC (n * 2) g w) (hi : i < n) (x : Nat) (hx : x < 2) : w.cell? ⟨g, i * 2 + x, none⟩ = (mN (1 + 2 * i)).cells[x]? :=
  (h (i * 2 + x) (by omega)).trans (mC_at i x hx)
/-- One line's marks, in a world grown. -/
def BoxM (w : World) (g o : Nat) (t0 : ByteArray) (n : Int) (w' : World) : Prop := Below w.heap.size w w' ∧ g < w'.heap.size ∧ w'.cell? ⟨g, o, none⟩ = some (.string t0) ∧ w'.cell? ⟨g, o + 1, none⟩ = some (.int .i64 n)
theorem BoxM.below {w w1 w2 : World} {g o : Nat} {t0 : ByteArray} {n : Int} (h : BoxM w g o t0 n w1) (hb : Below w1.heap.size w1 w2) : BoxM w g o t0 n w2 := by
  obtain ⟨h0, hl, c0, c1⟩ := h
  have c := fun x => hb.cell (p := ⟨g, x, none⟩) hl
  exact ⟨h0.trans (hb.mono h0.size), by have := hb.size; omega, (c _).trans c0, (c _).trans c1⟩
theorem BoxM.drew {w w1 : World} {g o : Nat} {t0 : ByteArray} {n : Int} (h : BoxM w g o t0 n w1) : BoxM w g o t0 n w1.drew := ⟨h.1.drew, h.2⟩
set_option maxRecDepth 100000 in
set_option maxHeartbeats 4000000 in
theorem held_any (g n cap : Nat) (w : World) (hn : n ≤ 1048576) (h0 : Pt g (n * 2) w) (hm : Wr mC (n * 2) g w) :
    Calls Try.prog 50 #[.slice (some ⟨g, 0, none⟩) n cap, .int .i64 1] w fun e w' => e = .returned (.int .i64 (1 + 2 * n : Nat)) ∧ Below w.heap.size w w' := by
  have HP := hid_intro h0
  have HM := hid_intro hm
  clear h0 hm
  go_enter Try.func50, Try.ntmps50
  go_wp2_with fail
  go_loopw [5, 1] (fun x z wr => ∃ i : Nat, x = .int .i64 (i : Int) ∧ z = .int .i64 (1 + 2 * (i : Int)) ∧ i ≤ n ∧ Hid (Below w.heap.size w wr)) (fun x _ _ => n - (intOf x).toNat)
  case atStart => exact ⟨0, rfl, rfl, by omega, hid_intro (Below.refl _ _)⟩
  case round =>
    obtain ⟨i, rfl, rfl, hi, HB⟩ := hrel
    by_cases hin : i = n
    · subst hin
      go_wp2_with fail
      go_ret
      exact ⟨by go_num, HB.out⟩
    · have h1 : (i : Int) < (n : Int) := by omega
      have HC : Hid (∀ x, x < 2 → wr.cell? ⟨g, i * 2 + x, none⟩ = (mN (1 + 2 * i)).cells[x]?) := hid_intro (fun x hx => (HB.out.cell (p := ⟨g, i * 2 + x, none⟩) HP.out.lt).trans (mC_cell HM.out (by omega) x hx))
      have q0 : wr.cell? ⟨g, i * 2, none⟩ = some (.string (mT (1 + 2 * i))) := HC.out 0 (by omega)
      have q1 : wr.cell? ⟨g, i * 2 + 1, none⟩ = some (.int .i64 (1 + 2 * (i : Int) + 1)) := (HC.out 1 (by omega)).trans (by simp [mN, N.cells])
      have HT0 : Hid (∀ w, Calls Try.prog 48 #[.int .i64 (1 + 2 * (i : Int))] w fun e w' => e = .returned (.string (mT (1 + 2 * i))) ∧ Below w.heap.size w w') := hid_intro (fun w => by have := mark_any (1 + 2 * i) (by omega) (by omega) w; rw [show ((1 + 2 * i : Nat) : Int) = 1 + 2 * (i : Int) by omega] at this; exact this)
      clear HC
      generalize mT (1 + 2 * i) = T0 at *
      have HS0 : Hid (BoxM w g (i * 2) T0 (1 + 2 * (i : Int) + 1) wr) := hid_intro ⟨HB.out, by have := HB.out.size; have := HP.out.lt; omega, q0, q1⟩
      have HS1 := hid_intro HS0.out.drew
      go_wp2_with fail
      go_region_held3 (fun w' => Below w.heap.size w w' ∧ g < w'.heap.size ∧ w'.cell? ⟨g, i * 2, none⟩ = some (.string T0) ∧ w'.cell? ⟨g, i * 2 + 1, none⟩ = some (.int .i64 (1 + 2 * (i : Int) + 1))) (first | assumption | (exact HS0.out) | (exact HS1.out) | (exact BoxM.below (w := w) (g := g) (o := i * 2) (t0 := T0) (n := 1 + 2 * (i : Int) + 1) (by assumption) hb))
        (first | (go_at_call 48; refine (HT0.out _).mono ?_; rintro e w' ⟨rfl, hb⟩))
      rename_i hS
      replace HS0 := hid_intro hS
      have q0 := HS0.out.2.2.1
      have q1 := HS0.out.2.2.2
      clear hS HS1
      have HB2 := hid_intro HS0.out.1
      go_wp2_with fail
      go_roundw
      case rel => exact ⟨i + 1, by go_num, by go_num, by omega, HB2⟩
      case measure => simp [intOf]; omega
set_option maxHeartbeats 4000000 in
theorem marks_nil (ao : Option Addr) (cap : Nat) (w : World) : Calls Try.prog 49 #[.slice ao 0 cap, .int .i64 1] w fun e w' => e = .returned (.int .i64 1) ∧ Below w.heap.size w w' := by
  go_enter Try.func49, Try.ntmps49
  go_wp2_with fail
  go_loopw [5, 1] (fun x z wr => x = .int .i64 0 ∧ z = .int .i64 1 ∧ Hid (Below w.heap.size w wr)) (fun x _ _ => 0)
  case atStart => exact ⟨rfl, rfl, hid_intro (Below.refl _ _)⟩
  case round =>
    obtain ⟨rfl, rfl, HB⟩ := hrel
    go_wp2_with fail
    go_ret
    exact ⟨rfl, HB.out⟩
set_option maxHeartbeats 4000000 in
theorem held_nil (ao : Option Addr) (cap : Nat) (w : World) : Calls Try.prog 50 #[.slice ao 0 cap, .int .i64 1] w fun e w' => e = .returned (.int .i64 1) ∧ Below w.heap.size w w' := by
  go_enter Try.func50, Try.ntmps50
  go_wp2_with fail
  go_loopw [5, 1] (fun x z wr => x = .int .i64 0 ∧ z = .int .i64 1 ∧ Hid (Below w.heap.size w wr)) (fun x _ _ => 0)
  case atStart => exact ⟨rfl, rfl, hid_intro (Below.refl _ _)⟩
  case round =>
    obtain ⟨rfl, rfl, HB⟩ := hrel
    go_wp2_with fail
    go_ret
    exact ⟨rfl, HB.out⟩
/-- The marks stand in the list. -/
def Mkd (ao : Option Addr) (n : Nat) (w : World) : Prop := n = 0 ∨ ∃ g, ao = some ⟨g, 0, none⟩ ∧ Pt g (n * 2) w ∧ Wr mC (n * 2) g w
theorem Mkd.below {ao : Option Addr} {n : Nat} {w w' : World} (h : Mkd ao n w) (hb : Below w.heap.size w w') : Mkd ao n w' := by
  rcases h with h | ⟨g, rfl, hp, hm⟩
  · exact .inl h
  · exact .inr ⟨g, rfl, hp.below hb, hm.below hp hb⟩
theorem heldL (ao : Option Addr) (n cap : Nat) (w : World) (hn : n ≤ 1048576) (h : Mkd ao n w) :
    Calls Try.prog 50 #[.slice ao n cap, .int .i64 1] w fun e w' => e = .returned (.int .i64 (1 + 2 * n : Nat)) ∧ Below w.heap.size w w' := by
  rcases h with rfl | ⟨g, rfl, hp, hm⟩
  · exact held_nil ao cap w
  · exact held_any g n cap w hn hp hm
theorem markL (base : Nat) (ao : Option Addr) (l : List N) (cap : Nat) (w : World) (top : Nat) (hn : l.length ≤ 1048576) (h : MadeG 2 N.cells N.zero base ao l w) (ht : l.length = 0 ∨ ∀ g, ao = some ⟨g, 0, none⟩ → g < top) :
    Calls Try.prog 49 #[.slice ao l.length cap, .int .i64 1] w fun e w' => e = .returned (.int .i64 (1 + 2 * l.length : Nat)) ∧ Mkd ao l.length w' ∧ ∃ g, w.grownBy w' g ∧ ∀ x, g = some x → base ≤ x ∧ x < top := by
  rcases Nat.eq_zero_or_pos l.length with h0 | h0
  · rw [h0]
    exact (marks_nil ao cap w).mono fun e w' h => ⟨h.1, .inl rfl, none, rgrown h.2 _, by simp⟩
  · obtain ⟨g, rfl, hg, hp⟩ := h.own.resolve_left (by omega)
    have htp := ht.resolve_left (by omega) g rfl
    exact (marks_any g l.length cap w hn hp).mono fun e w' h => ⟨h.1, .inr ⟨g, rfl, h.2.1, h.2.2.1⟩, some g, h.2.2.2, fun x hx => by cases hx; exact ⟨hg, htp⟩⟩
end LinR
end Go.Proofs.Ytppdilomefoaaaa
namespace Go.Proofs.Ytppdilomefoaaaa
open Go.ChangeShapes Go.WideShapes Go.ChangeAt Go.RowKit
set_option linter.unusedVariables false
namespace LinR
open RowG
open EvtR (Pt)
open MarkR (mk mT mark_any)
/-- What is left of a size. -/
def szH (lf : Int) (es : List N) : Int := if (es.length : Int) + szL es ≤ lf then lf - (es.length : Int) - szL es else -1
theorem szH_small {lf : Int} {es : List N} (h1 : lf ≤ 1048576) (h : ¬ szH lf es < 0) : es.length ≤ 1048576 ∧ (∀ e ∈ es, e.i.size ≤ 1048576) ∧ 0 ≤ szH lf es ∧ szH lf es ≤ 1048576 := by
  unfold szH at *
  have hn := szL_nn es
  by_cases q : (es.length : Int) + szL es ≤ lf
  · rw [if_pos q]
    exact ⟨by omega, fun e he => by have := szL_mem he; omega, by omega, by omega⟩
  · rw [if_neg q] at h
    exact absurd (by omega) h
set_option maxRecDepth 100000 in
set_option maxHeartbeats 4000000 in
theorem marksK (K : Nat) (hK0 : 1 ≤ K) (hK : K ≤ 6000000) (g n cap : Nat) (w : World) (hn : n ≤ 1048576) (h0 : Pt g (n * 2) w) :
    Calls Try.prog 49 #[.slice (some ⟨g, 0, none⟩) n cap, .int .i64 K] w fun e w' => e = .returned (.int .i64 (K + 2 * n : Nat)) ∧ w.grownBy w' (some g) ∧ ∀ n', Pt g n' w → Pt g n' w' := by
  have HP := hid_intro h0
  have HT : Hid (∀ (z : Int) (K : Nat), z = K → 1 ≤ K → K < 100000000 → ∀ w, Calls Try.prog 48 #[.int .i64 z] w fun e w' => e = .returned (.string (mT K)) ∧ Below w.heap.size w w') := hid_intro (fun z K e h0 h w => by subst e; exact mark_any K h0 h w)
  clear h0
  go_enter Try.func49, Try.ntmps49
  go_wp2_with fail
  go_loopw [5, 1] (fun x z wr => ∃ i : Nat, x = .int .i64 (i : Int) ∧ z = .int .i64 ((K : Int) + 2 * (i : Int)) ∧ i ≤ n ∧ Hid (Pt g (n * 2) wr) ∧ Hid (w.grownBy wr (some g)) ∧ Hid (∀ n', Pt g n' w → Pt g n' wr)) (fun x _ _ => n - (intOf x).toNat)
  case atStart => exact ⟨0, rfl, by go_num, by omega, HP, hid_intro ⟨rfl, rfl, rfl, Nat.le_refl _, fun _ _ _ => rfl⟩, hid_intro (fun _ h => h)⟩
  case round =>
    obtain ⟨i, rfl, rfl, hi, HP, HG, HA⟩ := hrel
    by_cases hin : i = n
    · subst hin
      go_wp2_with fail
      go_ret
      exact ⟨by go_num, HG.out, HA.out⟩
    · have h1 : (i : Int) < (n : Int) := by omega
      go_wp2_with fail
      refine (HT.out _ (K + 2 * i) (by push_cast; omega) (by omega) (by omega) _).mono ?_
      rintro e w1 ⟨rfl, hb⟩
      have HP1 := hid_intro (HP.out.below hb)
      have HG1 := hid_intro (gtrans HG.out (rgrown hb _))
      have HA2 : Hid (∀ n', Pt g n' w → Pt g n' ((w1.setCell ⟨g, i * 2, none⟩ (.string (mT (K + 2 * i)))).setCell ⟨g, i * 2 + 1, none⟩ (.int .i64 ((K : Int) + 2 * (i : Int) + 1)))) := hid_intro (fun n' h => (((HA.out n' h).below hb).set _ _).set _ _)
      obtain ⟨v0, c0⟩ := HP1.out.has (i * 2) (by omega)
      have f0 := HP1.out.free (i * 2) (by omega)
      obtain ⟨v1, c1⟩ := HP1.out.has (i * 2 + 1) (by omega)
      have f1 := HP1.out.free (i * 2 + 1) (by omega)
      have HS := hid_intro (gtrans (gtrans HG1.out (grown_set _ g (i * 2) (.string (mT (K + 2 * i))))) (grown_set _ g (i * 2 + 1) (.int .i64 ((K : Int) + 2 * (i : Int) + 1))))
      have HP2 := hid_intro ((HP1.out.set (i * 2) (.string (mT (K + 2 * i)))).set (i * 2 + 1) (.int .i64 ((K : Int) + 2 * (i : Int) + 1)))
      clear hb HP HG HG1 HP1 HA
      go_wp2_with fail
      go_roundw
      case rel => exact ⟨i + 1, by go_num, by go_num, by omega, HP2, HS, HA2⟩
      case measure => simp [intOf]; omega
set_option maxHeartbeats 4000000 in
theorem marks0K (K : Int) (ao : Option Addr) (cap : Nat) (w : World) : Calls Try.prog 49 #[.slice ao 0 cap, .int .i64 K] w fun e w' => e = .returned (.int .i64 K) ∧ Below w.heap.size w w' := by
  go_enter Try.func49, Try.ntmps49
  go_wp2_with fail
  go_loopw [5, 1] (fun x z wr => x = .int .i64 0 ∧ z = .int .i64 K ∧ Hid (Below w.heap.size w wr)) (fun x _ _ => 0)
  case atStart => exact ⟨rfl, rfl, hid_intro (Below.refl _ _)⟩
  case round =>
    obtain ⟨rfl, rfl, HB⟩ := hrel
    go_wp2_with fail
    go_ret
    exact ⟨rfl, HB.out⟩
theorem pt_far {p q n : Nat} {W W' : World} (h : Pt p n W) (hg : W.grownBy W' (some q)) (hne : p ≠ q) : Pt p n W' := by
  have e := hg.block p h.lt (by simp; omega)
  exact ⟨by have := hg.size; have := h.lt; omega, fun o ho => by obtain ⟨v, hv⟩ := h.has o ho; exact ⟨v, (World.cell?_of_block (a := ⟨p, o, none⟩) e).trans hv⟩, fun o ho => (World.frozen?_of_block (a := ⟨p, o, none⟩) e).trans (h.free o ho)⟩
theorem made_far {base x : Nat} {bo : Option Addr} {D : List N} {w w' : World} (h : MadeG 2 N.cells N.zero base bo D w) (hg : w.grownBy w' (some x)) (hx : x < base) : MadeG 2 N.cells N.zero base bo D w' :=
  ⟨Rws.grown h.rws hg (h.own.imp id (fun ⟨g, h1, h2, h3⟩ b' off' e hr => by
      rw [h1] at e
      simp only [Option.some.injEq, Addr.mk.injEq] at e
      cases hr
      omega)), h.own.imp id (fun ⟨g, h1, h2, h3⟩ => ⟨g, h1, h2, pt_far h3 hg (by omega)⟩)⟩
theorem lis_far {ao : Option Addr} {es : List N} {w0 w w' : World} {row : Option Nat} (h0 : Lis ao es w0) (h : Lis ao es w) (hg : w.grownBy w' row) (hb : ∀ x, row = some x → w0.heap.size ≤ x) : Lis ao es w' := by
  refine Rws.grown h hg ?_
  rcases h0 with h1 | ⟨b, off, rfl, hl, _⟩
  · exact .inl h1
  · refine .inr (fun b' off' e hr => ?_)
    have := hb b' hr.symm
    simp only [Option.some.injEq, Addr.mk.injEq] at e
    omega
theorem made_top {base : Nat} {ao : Option Addr} {l : List N} {w : World} (h : MadeG 2 N.cells N.zero base ao l w) : l.length = 0 ∨ ∀ g, ao = some ⟨g, 0, none⟩ → g < w.heap.size :=
  h.own.imp id (fun ⟨g, h1, h2, h3⟩ g' e => by rw [h1] at e; cases e; exact h3.lt)
end LinR
end Go.Proofs.Ytppdilomefoaaaa
namespace Go.Proofs.Ytppdilomefoaaaa
open Go.ChangeShapes Go.WideShapes Go.ChangeAt Go.RowKit
set_option linter.unusedVariables false
namespace LinR
open RowG
open EvtR (Pt cell_put cell_far)
open MarkR (mk mT mark_any)
/-- The marks from K on stand in the first lines of a block. -/
def LM (K n g : Nat) (w : World) : Prop := g < w.heap.size ∧ ∀ i, i < n → w.cell? ⟨g, i * 2, none⟩ = some (.string (mT (K + 2 * i))) ∧ w.cell? ⟨g, i * 2 + 1, none⟩ = some (.int .i64 ((K : Int) + 2 * (i : Int) + 1))
theorem LM.block {K n g : Nat} {w w' : World} (h : LM K n g w) (hs : w.heap.size ≤ w'.heap.size) (hb : w'.heap[g]? = w.heap[g]?) : LM K n g w' :=
  ⟨Nat.lt_of_lt_of_le h.1 hs, fun i hi => ⟨(World.cell?_of_block (a := ⟨g, i * 2, none⟩) hb).trans (h.2 i hi).1, (World.cell?_of_block (a := ⟨g, i * 2 + 1, none⟩) hb).trans (h.2 i hi).2⟩⟩
theorem LM.below {K n g : Nat} {w w' : World} (h : LM K n g w) (hb : Below w.heap.size w w') : LM K n g w' := h.block hb.size (hb.block g h.1)
theorem LM.more {K i g m : Nat} {w : World} (h : LM K i g w) (hp : Pt g m w) (hm : i * 2 + 1 < m) : LM K (i + 1) g ((w.setCell ⟨g, i * 2, none⟩ (.string (mT (K + 2 * i)))).setCell ⟨g, i * 2 + 1, none⟩ (.int .i64 ((K : Int) + 2 * (i : Int) + 1))) := by
  have p1 := hp.set (i * 2) (.string (mT (K + 2 * i)))
  refine ⟨by have := h.1; simpa using this, fun j hj => ?_⟩
  by_cases e : j = i
  · subst e
    exact ⟨by rw [cell_far _ _ (by omega), cell_put hp _ (by omega)], cell_put p1 _ hm _⟩
  · obtain ⟨h1, h2⟩ := h.2 j (by omega)
    exact ⟨by rw [cell_far _ _ (by omega), cell_far _ _ (by omega)]; exact h1, by rw [cell_far _ _ (by omega), cell_far _ _ (by omega)]; exact h2⟩
set_option maxRecDepth 100000 in
set_option maxHeartbeats 4000000 in
theorem marksM (K : Nat) (hK0 : 1 ≤ K) (hK : K ≤ 6000000) (g n cap : Nat) (w : World) (hn : n ≤ 1048576) (h0 : Pt g (n * 2) w) :
    Calls Try.prog 49 #[.slice (some ⟨g, 0, none⟩) n cap, .int .i64 K] w fun e w' => e = .returned (.int .i64 (K + 2 * n : Nat)) ∧ w.grownBy w' (some g) ∧ (∀ n', Pt g n' w → Pt g n' w') ∧ LM K n g w' := by
  have HP := hid_intro h0
  have HT : Hid (∀ (z : Int) (K : Nat), z = K → 1 ≤ K → K < 100000000 → ∀ w, Calls Try.prog 48 #[.int .i64 z] w fun e w' => e = .returned (.string (mT K)) ∧ Below w.heap.size w w') := hid_intro (fun z K e h0 h w => by subst e; exact mark_any K h0 h w)
  have HM0 : Hid (LM K 0 g w) := hid_intro ⟨h0.lt, fun i hi => absurd hi (by omega)⟩
  clear h0
  go_enter Try.func49, Try.ntmps49
  go_wp2_with fail
  go_loopw [5, 1] (fun x z wr => ∃ i : Nat, x = .int .i64 (i : Int) ∧ z = .int .i64 ((K : Int) + 2 * (i : Int)) ∧ i ≤ n ∧ Hid (Pt g (n * 2) wr) ∧ Hid (w.grownBy wr (some g)) ∧ Hid (∀ n', Pt g n' w → Pt g n' wr) ∧ Hid (LM K i g wr)) (fun x _ _ => n - (intOf x).toNat)
  case atStart => exact ⟨0, rfl, by go_num, by omega, HP, hid_intro ⟨rfl, rfl, rfl, Nat.le_refl _, fun _ _ _ => rfl⟩, hid_intro (fun _ h => h), HM0⟩
  case round =>
    clear HM0
    obtain ⟨i, rfl, rfl, hi, HP, HG, HA, HM⟩ := hrel
    by_cases hin : i = n
    · subst hin
      go_wp2_with fail
      go_ret
      exact ⟨by go_num, HG.out, HA.out, HM.out⟩
    · have h1 : (i : Int) < (n : Int) := by omega
      go_wp2_with fail
      refine (HT.out _ (K + 2 * i) (by push_cast; omega) (by omega) (by omega) _).mono ?_
      rintro e w1 ⟨rfl, hb⟩
      have HP1 := hid_intro (HP.out.below hb)
      have HG1 := hid_intro (gtrans HG.out (rgrown hb _))
      have HA2 : Hid (∀ n', Pt g n' w → Pt g n' ((w1.setCell ⟨g, i * 2, none⟩ (.string (mT (K + 2 * i)))).setCell ⟨g, i * 2 + 1, none⟩ (.int .i64 ((K : Int) + 2 * (i : Int) + 1)))) := hid_intro (fun n' h => (((HA.out n' h).below hb).set _ _).set _ _)
      have HM2 := hid_intro ((HM.out.below hb).more HP1.out (by omega))
      obtain ⟨v0, c0⟩ := HP1.out.has (i * 2) (by omega)
      have f0 := HP1.out.free (i * 2) (by omega)
      obtain ⟨v1, c1⟩ := HP1.out.has (i * 2 + 1) (by omega)
      have f1 := HP1.out.free (i * 2 + 1) (by omega)
      have HS := hid_intro (gtrans (gtrans HG1.out (grown_set _ g (i * 2) (.string (mT (K + 2 * i))))) (grown_set _ g (i * 2 + 1) (.int .i64 ((K : Int) + 2 * (i : Int) + 1))))
      have HP2 := hid_intro ((HP1.out.set (i * 2) (.string (mT (K + 2 * i)))).set (i * 2 + 1) (.int .i64 ((K : Int) + 2 * (i : Int) + 1)))
      clear hb HP HG HG1 HP1 HA HM
      go_wp2_with fail
      go_roundw
      case rel => exact ⟨i + 1, by go_num, by go_num, by omega, HP2, HS, HA2, HM2⟩
      case measure => simp [intOf]; omega
set_option maxRecDepth 100000 in
set_option maxHeartbeats 4000000 in
theorem heldM (K : Nat) (hK0 : 1 ≤ K) (hK : K ≤ 6000000) (g n cap : Nat) (w : World) (hn : n ≤ 1048576) (hm : LM K n g w) :
    Calls Try.prog 50 #[.slice (some ⟨g, 0, none⟩) n cap, .int .i64 K] w fun e w' => e = .returned (.int .i64 (K + 2 * n : Nat)) ∧ Below w.heap.size w w' := by
  have HM := hid_intro hm
  have HT : Hid (∀ (z : Int) (K : Nat), z = K → 1 ≤ K → K < 100000000 → ∀ w, Calls Try.prog 48 #[.int .i64 z] w fun e w' => e = .returned (.string (mT K)) ∧ Below w.heap.size w w') := hid_intro (fun z K e h0 h w => by subst e; exact mark_any K h0 h w)
  clear hm
  go_enter Try.func50, Try.ntmps50
  go_wp2_with fail
  go_loopw [5, 1] (fun x z wr => ∃ i : Nat, x = .int .i64 (i : Int) ∧ z = .int .i64 ((K : Int) + 2 * (i : Int)) ∧ i ≤ n ∧ Hid (Below w.heap.size w wr)) (fun x _ _ => n - (intOf x).toNat)
  case atStart => exact ⟨0, rfl, by go_num, by omega, hid_intro (Below.refl _ _)⟩
  case round =>
    obtain ⟨i, rfl, rfl, hi, HB⟩ := hrel
    by_cases hin : i = n
    · subst hin
      go_wp2_with fail
      go_ret
      exact ⟨by go_num, HB.out⟩
    · have h1 : (i : Int) < (n : Int) := by omega
      obtain ⟨q0, q1⟩ := (HM.out.below HB.out).2 i (by omega)
      have HT0 := hid_intro (fun w => HT.out ((K : Int) + 2 * (i : Int)) (K + 2 * i) (by push_cast; omega) (by omega) (by omega) w)
      generalize mT (K + 2 * i) = T0 at *
      have HS0 : Hid (BoxM w g (i * 2) T0 ((K : Int) + 2 * (i : Int) + 1) wr) := hid_intro ⟨HB.out, by have := HB.out.size; have := HM.out.1; omega, q0, q1⟩
      have HS1 := hid_intro HS0.out.drew
      go_wp2_with fail
      go_region_held3 (fun w' => Below w.heap.size w w' ∧ g < w'.heap.size ∧ w'.cell? ⟨g, i * 2, none⟩ = some (.string T0) ∧ w'.cell? ⟨g, i * 2 + 1, none⟩ = some (.int .i64 ((K : Int) + 2 * (i : Int) + 1))) (first | assumption | (exact HS0.out) | (exact HS1.out) | (exact BoxM.below (w := w) (g := g) (o := i * 2) (t0 := T0) (n := (K : Int) + 2 * (i : Int) + 1) (by assumption) hb))
        (first | (go_at_call 48; refine (HT0.out _).mono ?_; rintro e w' ⟨rfl, hb⟩))
      rename_i hS
      replace HS0 := hid_intro hS
      have q0 := HS0.out.2.2.1
      have q1 := HS0.out.2.2.2
      clear hS HS1
      have HB2 := hid_intro HS0.out.1
      go_wp2_with fail
      go_roundw
      case rel => exact ⟨i + 1, by go_num, by go_num, by omega, HB2⟩
      case measure => simp [intOf]; omega
set_option maxHeartbeats 4000000 in
theorem held0K (K : Int) (ao : Option Addr) (cap : Nat) (w : World) : Calls Try.prog 50 #[.slice ao 0 cap, .int .i64 K] w fun e w' => e = .returned (.int .i64 K) ∧ Below w.heap.size w w' := by
  go_enter Try.func50, Try.ntmps50
  go_wp2_with fail
  go_loopw [5, 1] (fun x z wr => x = .int .i64 0 ∧ z = .int .i64 K ∧ Hid (Below w.heap.size w wr)) (fun x _ _ => 0)
  case atStart => exact ⟨rfl, rfl, hid_intro (Below.refl _ _)⟩
  case round =>
    obtain ⟨rfl, rfl, HB⟩ := hrel
    go_wp2_with fail
    go_ret
    exact ⟨rfl, HB.out⟩
end LinR
end Go.Proofs.Ytppdilomefoaaaa
namespace Go.Proofs.Ytppdilomefoaaaa
open Go.ChangeShapes Go.WideShapes Go.ChangeAt Go.RowKit
set_option linter.unusedVariables false
namespace ChG
open EvtR (Pt)
/-- Only blocks of S have changed. -/
structure Chg (S : Nat → Prop) (w w' : World) : Prop where
  os : w'.os = w.os
  tape : w'.tape = w.tape
  output : w'.output = w.output
  size : w.heap.size ≤ w'.heap.size
  block : ∀ b, b < w.heap.size → ¬ S b → w'.heap[b]? = w.heap[b]?
theorem Chg.refl (S : Nat → Prop) (w : World) : Chg S w w := ⟨rfl, rfl, rfl, Nat.le_refl _, fun _ _ _ => rfl⟩
theorem Chg.below {S : Nat → Prop} {w w1 w2 : World} (h : Chg S w w1) (hb : Below w1.heap.size w1 w2) : Chg S w w2 :=
  ⟨hb.os.trans h.os, hb.tape.trans h.tape, hb.output.trans h.output, Nat.le_trans h.size hb.size, fun b h1 h2 => (hb.block b (by have := h.size; omega)).trans (h.block b h1 h2)⟩
theorem Chg.grown {S : Nat → Prop} {x : Nat} {w w1 w2 : World} (h : Chg S w w1) (hg : w1.grownBy w2 (some x)) (hx : S x) : Chg S w w2 :=
  ⟨hg.os.trans h.os, hg.tape.trans h.tape, hg.output.trans h.output, Nat.le_trans h.size hg.size, fun b h1 h2 => (hg.block b (by have := h.size; omega) (by intro e; simp only [Option.some.injEq] at e; subst e; exact h2 hx)).trans (h.block b h1 h2)⟩
theorem Chg.trans {S : Nat → Prop} {w w1 w2 : World} (h : Chg S w w1) (h2 : Chg S w1 w2) : Chg S w w2 :=
  ⟨h2.os.trans h.os, h2.tape.trans h.tape, h2.output.trans h.output, Nat.le_trans h.size h2.size, fun b h1 hs => (h2.block b (by have := h.size; omega) hs).trans (h.block b h1 hs)⟩
theorem Chg.wide {S S' : Nat → Prop} {w w' : World} (h : Chg S w w') (hs : ∀ b, S b → S' b) : Chg S' w w' :=
  ⟨h.os, h.tape, h.output, h.size, fun b h1 h2 => h.block b h1 (fun q => h2 (hs b q))⟩
theorem Chg.of_below {S : Nat → Prop} {w w' : World} (hb : Below w.heap.size w w') : Chg S w w' := (Chg.refl S w).below hb
/-- Nothing below the blocks of S has changed. -/
theorem Chg.out {S : Nat → Prop} {B : Nat} {a w w' : World} (h : Chg S w w') (hb : Below B a w) (hB : ∀ b, S b → B ≤ b) (ha : B ≤ a.heap.size) : Below B a w' :=
  ⟨h.os.trans hb.os, h.tape.trans hb.tape, h.output.trans hb.output, Nat.le_trans hb.size h.size, fun k hk => (h.block k (by have := hb.size; omega) (fun q => by have := hB k q; omega)).trans (hb.block k hk)⟩
theorem pt_block {p n : Nat} {W W' : World} (h : Pt p n W) (hs : W.heap.size ≤ W'.heap.size) (e : W'.heap[p]? = W.heap[p]?) : Pt p n W' :=
  ⟨by have := h.lt; omega, fun o ho => by obtain ⟨v, hv⟩ := h.has o ho; exact ⟨v, (World.cell?_of_block (a := ⟨p, o, none⟩) e).trans hv⟩, fun o ho => (World.frozen?_of_block (a := ⟨p, o, none⟩) e).trans (h.free o ho)⟩
theorem Chg.pt {S : Nat → Prop} {p n : Nat} {W W' : World} (h : Chg S W W') (hp : Pt p n W) (hn : ¬ S p) : Pt p n W' := pt_block hp h.size (h.block p hp.lt hn)
end ChG
end Go.Proofs.Ytppdilomefoaaaa
namespace Go.Proofs.Ytppdilomefoaaaa
open Go.ChangeShapes Go.WideShapes Go.ChangeAt Go.RowKit Go.Deep
set_option linter.unusedVariables false
namespace LedR
open LinR RowG LtR NetR DocR
open EvtR (Pt cell_put cell_far)
open MarkR (mk mT mark_any)
/-- How many lines there are, and how many marks. -/
def lns (ds : List D) : Nat := (ds.map (fun d => d.ls.length)).sum
def tot (ds : List D) : Nat := (ds.map (fun d => 3 + 2 * d.ls.length)).sum
theorem tot_eq (ds : List D) : tot ds = 3 * ds.length + 2 * lns ds := by
  unfold tot lns
  induction ds with
  | nil => rfl
  | cons d ds ih => simp only [List.map_cons, List.sum_cons, List.length_cons]; omega
theorem tot_more (ds : List D) (k : Nat) (h : k < ds.length) : tot (ds.take (k + 1)) = tot (ds.take k) + (3 + 2 * (ds.getD k D.zero).ls.length) := by
  unfold tot
  rw [take_more (z := D.zero) ds k h, List.map_append, List.sum_append]
  simp
theorem tot_le (ds : List D) (k : Nat) : tot (ds.take k) ≤ tot ds := by
  have e : tot ds = tot (ds.take k) + tot (ds.drop k) := by
    unfold tot
    rw [← List.sum_append, ← List.map_append, List.take_append_drop]
  omega
theorem dsz_le {l : Int} {x : D} (h : ¬ dszR l x < 0) : dszR l x ≤ l - (x.ls.length : Int) := by
  unfold dszR LinR.szF at *
  have := szL_nn x.ls
  split at h
  · split at h
    · rename_i h1 h2
      rw [if_pos h1, if_pos h2]
      omega
    · exact absurd (by omega) h
  · exact absurd (by omega) h
theorem lns_le : ∀ {ds : List D} {l : Int}, ¬ dsS l ds < 0 → (lns ds : Int) ≤ l
  | [], l, h => by simp only [dsS] at h; simp [lns]; omega
  | x :: ds, l, h => by
    rw [dsS] at h
    by_cases q : dszR l x < 0
    · rw [if_pos q] at h; exact absurd (by omega) h
    · rw [if_neg q] at h
      have h1 := dsz_le q
      have h2 := lns_le h
      have e : lns (x :: ds) = x.ls.length + lns ds := by simp [lns]
      rw [e]
      omega
theorem tot_small {ds : List D} (h : ¬ szDR ds < 0) : tot ds ≤ 5300000 := by
  have hl := (szDR_small h).1
  unfold szDR at h
  rw [tot_eq]
  split at h
  · exact absurd (by omega) h
  · have := lns_le h
    omega
/-- Nothing outside has changed. -/
structure Ot (g top : Nat) (w w' : World) : Prop where
  os : w'.os = w.os
  tape : w'.tape = w.tape
  output : w'.output = w.output
  size : w.heap.size ≤ w'.heap.size
  block : ∀ b, b < w.heap.size → (b < g ∨ top ≤ b) → w'.heap[b]? = w.heap[b]?
theorem Ot.refl (g top : Nat) (w : World) : Ot g top w w := ⟨rfl, rfl, rfl, Nat.le_refl _, fun _ _ _ => rfl⟩
theorem Ot.below {g top : Nat} {w w1 w2 : World} (h : Ot g top w w1) (hb : Below w1.heap.size w1 w2) : Ot g top w w2 :=
  ⟨hb.os.trans h.os, hb.tape.trans h.tape, hb.output.trans h.output, Nat.le_trans h.size hb.size, fun b h1 h2 => (hb.block b (by have := h.size; omega)).trans (h.block b h1 h2)⟩
theorem Ot.grown {g top x : Nat} {w w1 w2 : World} (h : Ot g top w w1) (hg : w1.grownBy w2 (some x)) (hx : g ≤ x ∧ x < top) : Ot g top w w2 :=
  ⟨hg.os.trans h.os, hg.tape.trans h.tape, hg.output.trans h.output, Nat.le_trans h.size hg.size, fun b h1 h2 => (hg.block b (by have := h.size; omega) (by simp; omega)).trans (h.block b h1 h2)⟩
theorem Ot.lis {g top : Nat} {w0 w w' : World} {ao : Option Addr} {es : List N} (h : Ot g top w w') (h0 : Lis ao es w0) (hI : Lis ao es w) (hg : w0.heap.size ≤ g) (hs : w0.heap.size ≤ w.heap.size) : Lis ao es w' := by
  rcases hI with h1 | ⟨b, off, rfl, hl, hc⟩
  · exact .inl h1
  · rcases h0 with h1 | ⟨b0, off0, e, hl0, _⟩
    · exact .inl h1
    · simp only [Option.some.injEq, Addr.mk.injEq, and_true] at e
      obtain ⟨rfl, rfl⟩ := e
      have eb := h.block b hl (.inl (by omega))
      exact .inr ⟨b, off, rfl, by have := h.size; omega, fun j hj i hi => (World.cell?_of_block (a := ⟨b, off + j * 2 + i, none⟩) eb).trans (hc j hj i hi)⟩
theorem Ot.made {g top base : Nat} {w w' : World} {bo : Option Addr} {l : List N} (h : Ot g top w w') (hm : MadeG 2 N.cells N.zero base bo l w) (hb : top ≤ base) : MadeG 2 N.cells N.zero base bo l w' := by
  rcases hm.own with h0 | ⟨x, rfl, hx, hp⟩
  · obtain rfl : l = [] := List.length_eq_zero_iff.1 h0
    exact made_nil _ _ _
  · have eb := h.block x hp.lt (.inr (by omega))
    refine ⟨?_, .inr ⟨x, rfl, hx, by have := h.size; have := hp.lt; omega, fun o ho => by obtain ⟨v, hv⟩ := hp.has o ho; exact ⟨v, (World.cell?_of_block (a := ⟨x, o, none⟩) eb).trans hv⟩, fun o ho => (World.frozen?_of_block (a := ⟨x, o, none⟩) eb).trans (hp.free o ho)⟩⟩
    rcases hm.rws with h1 | ⟨b, off, e, hl, hc⟩
    · exact .inl h1
    · simp only [Option.some.injEq, Addr.mk.injEq, and_true] at e
      obtain ⟨rfl, rfl⟩ := e
      exact .inr ⟨x, 0, rfl, by have := h.size; omega, fun j hj i hi => (World.cell?_of_block (a := ⟨x, 0 + j * 2 + i, none⟩) eb).trans (hc j hj i hi)⟩
theorem Ot.out {g top B : Nat} {a w w' : World} (h : Ot g top w w') (hb : Below B a w) (hB : B ≤ g) (ha : B ≤ a.heap.size) : Below B a w' :=
  ⟨h.os.trans hb.os, h.tape.trans hb.tape, h.output.trans hb.output, Nat.le_trans hb.size h.size, fun k hk => (h.block k (by have := hb.size; omega) (.inl (by omega))).trans (hb.block k hk)⟩
/-- What is marked yet to be. -/
def DX (g top k : Nat) (ds : List D) (W : World) : Prop := ∀ j, j < k → ∃ la lc, W.cell? ⟨g, j * 4 + 3, none⟩ = some (.slice la (ds.getD j D.zero).ls.length lc) ∧ ((ds.getD j D.zero).ls.length = 0 ∨ ∃ g', la = some ⟨g', 0, none⟩ ∧ g < g' ∧ g' < top ∧ Pt g' ((ds.getD j D.zero).ls.length * 2) W)
theorem DW.dx {g k : Nat} {ds : List D} {W : World} (h : DW g k ds W) : DX g W.heap.size k ds W := fun j hj => by
  obtain ⟨la, lc, _, _, _, c3, _, hn⟩ := h j hj
  exact ⟨la, lc, c3, hn⟩
theorem DX.below {g top k : Nat} {ds : List D} {W W' : World} (h : DX g top k ds W) (hg : g < W.heap.size) (hb : Below W.heap.size W W') : DX g top k ds W' := fun j hj => by
  obtain ⟨la, lc, c3, hn⟩ := h j hj
  exact ⟨la, lc, (hb.cell (p := ⟨g, j * 4 + 3, none⟩) hg).trans c3, hn.imp id (fun ⟨g', e1, e2, e3, e4⟩ => ⟨g', e1, e2, e3, e4.below hb⟩)⟩
theorem DX.put {g top k o : Nat} {ds : List D} {W : World} (h : DX g top k ds W) (ho : o % 4 ≠ 3) (v : Value) : DX g top k ds (W.setCell ⟨g, o, none⟩ v) := fun j hj => by
  obtain ⟨la, lc, c3, hn⟩ := h j hj
  exact ⟨la, lc, (cell_far _ _ (by omega) v).trans c3, hn.imp id (fun ⟨g', e1, e2, e3, e4⟩ => ⟨g', e1, e2, e3, pt_any e4⟩)⟩
theorem DX.grown {g top k x : Nat} {ds : List D} {W W' : World} (h : DX g top k ds W) (hgl : g < W.heap.size) (hg : W.grownBy W' (some x)) (hx : g < x) (ha : ∀ n', Pt x n' W → Pt x n' W') : DX g top k ds W' := fun j hj => by
  obtain ⟨la, lc, c3, hn⟩ := h j hj
  have eb := hg.block g hgl (by simp; omega)
  refine ⟨la, lc, (World.cell?_of_block (a := ⟨g, j * 4 + 3, none⟩) eb).trans c3, hn.imp id (fun ⟨g', e1, e2, e3, e4⟩ => ⟨g', e1, e2, e3, ?_⟩)⟩
  by_cases e : g' = x
  · subst e; exact ha _ e4
  · exact pt_far e4 hg e
set_option maxRecDepth 100000 in
set_option maxHeartbeats 8000000 in
theorem markDs (g top cap : Nat) (ds : List D) (w : World) (hlen : ds.length ≤ 1048576) (hSm : ∀ d ∈ ds, d.Sm) (ht : tot ds ≤ 5300000) (htop : g < top) (hP : Pt g (ds.length * 4) w) (hD : DX g top ds.length ds w) :
    Calls Try.prog 25 #[.slice (some ⟨g, 0, none⟩) ds.length cap, .int .i64 1] w fun e w' => e = .returned (.int .i64 (1 + tot ds : Nat)) ∧ Ot g top w w' := by
  have HSm := hid_intro hSm
  have HT : Hid (∀ (z : Int) (K : Nat), z = K → 1 ≤ K → K < 100000000 → ∀ w, Calls Try.prog 48 #[.int .i64 z] w fun e w' => e = .returned (.string (mT K)) ∧ Below w.heap.size w w') := hid_intro (fun z K e h0 h w => by subst e; exact mark_any K h0 h w)
  have HTL := hid_intro (fun k => tot_le ds k)
  obtain ⟨len, hl⟩ : ∃ len, len = ds.length := ⟨_, rfl⟩
  have HEND : Hid (tot (ds.take len) = tot ds) := hid_intro (by rw [hl, List.take_length])
  rw [← hl] at hlen hP hD ⊢
  have HP := hid_intro hP
  have HD := hid_intro hD
  have HL := hid_intro hl
  clear hP hD hl hSm
  go_enter Try.func25, Try.ntmps25
  go_wp2_with fail
  go_loopw [5, 1] (fun x z wr => ∃ (i K : Nat), x = .int .i64 (i : Int) ∧ z = .int .i64 (K : Int) ∧ i ≤ len ∧ 1 ≤ K ∧ K ≤ 5300001 ∧ Hid (K = 1 + tot (ds.take i)) ∧ Hid (Pt g (len * 4) wr) ∧ Hid (DX g top len ds wr) ∧ Hid (Ot g top w wr)) (fun x _ _ => len - (intOf x).toNat)
  case atStart => exact ⟨0, 1, rfl, rfl, by omega, by omega, by omega, hid_intro (by simp [tot]), HP, HD, hid_intro (Ot.refl _ _ _)⟩
  case round =>
    obtain ⟨i, K, rfl, rfl, hi, k0, k1, HK, HP, HD, HO⟩ := hrel
    by_cases hin : i = len
    · subst hin
      have HE : Hid (K = 1 + tot ds) := hid_intro (by rw [HK.out, HEND.out])
      go_wp2_with fail
      go_ret
      exact ⟨by rw [HE.out]; rfl, HO.out⟩
    · have h1 : (i : Int) < (len : Int) := by omega
      have hil : i < ds.length := by have := HL.out; omega
      have HTM := hid_intro (tot_more ds i hil)
      have hk2 : K + (3 + 2 * (ds.getD i D.zero).ls.length) ≤ 5300001 := by have := HTM.out; have := HTL.out (i + 1); have := HK.out; omega
      have hgl := HP.out.lt
      go_wp2_with fail
      refine (HT.out _ K rfl (by omega) (by omega) _).mono ?_
      rintro e w1 ⟨rfl, hb⟩
      replace HD := hid_intro (HD.out.below hgl hb)
      replace HP := hid_intro (HP.out.below hb)
      replace HO := hid_intro (HO.out.below hb)
      clear hb hgl
      obtain ⟨v0, c0⟩ := HP.out.has (i * 4) (by omega)
      have f0 := HP.out.free (i * 4) (by omega)
      obtain ⟨v1, c1⟩ := HP.out.has (i * 4 + 1) (by omega)
      have f1 := HP.out.free (i * 4 + 1) (by omega)
      obtain ⟨v2, c2⟩ := HP.out.has (i * 4 + 2) (by omega)
      have f2 := HP.out.free (i * 4 + 2) (by omega)
      obtain ⟨la, lc, c3, hn⟩ := HD.out i (by omega)
      have HNL := hid_intro hn
      have hgl := HP.out.lt
      obtain ⟨W3, hW3⟩ : ∃ W3, W3 = ((w1.setCell ⟨g, i * 4, none⟩ (.string (mT K))).setCell ⟨g, i * 4 + 1, none⟩ (.int .i64 ((K : Int) + 1))).setCell ⟨g, i * 4 + 2, none⟩ (.int .i64 ((K : Int) + 1 + 1)) := ⟨_, rfl⟩
      have HD3 : Hid (DX g top len ds W3) := hid_intro (by rw [hW3]; exact ((HD.out.put (by omega) _).put (by omega) _).put (by omega) _)
      have HP3 : Hid (Pt g (len * 4) W3) := hid_intro (by rw [hW3]; exact ((HP.out.set _ _).set _ _).set _ _)
      have HO3 : Hid (Ot g top w W3) := hid_intro (by rw [hW3]; exact ((HO.out.grown (grown_set _ g _ _) ⟨Nat.le_refl _, htop⟩).grown (grown_set _ g _ _) ⟨Nat.le_refl _, htop⟩).grown (grown_set _ g _ _) ⟨Nat.le_refl _, htop⟩)
      have HN3 : Hid ((ds.getD i D.zero).ls.length = 0 ∨ ∃ g', la = some ⟨g', 0, none⟩ ∧ g < g' ∧ g' < top ∧ Pt g' ((ds.getD i D.zero).ls.length * 2) W3) := hid_intro (by rw [hW3]; exact hn.imp id (fun ⟨g', e1, e2, e3, e4⟩ => ⟨g', e1, e2, e3, pt_any (pt_any (pt_any e4))⟩))
      have hln := (HSm.out _ (getD_mem (z := D.zero) ds i hil)).2.1
      generalize hll : (ds.getD i D.zero).ls.length = ll at *
      generalize mT K = T0 at *
      clear hn HNL HD HP HO
      rcases HN3.out with h0 | ⟨g', rfl, e2, e3, e4⟩
      · subst h0
        have HMK := hid_intro (fun z => marks0K z la lc W3)
        go_wp2_with fail
        rw [← hW3]
        refine (HMK.out _).mono ?_
        rintro e w4 ⟨rfl, hb⟩
        replace HD3 := hid_intro (HD3.out.below HP3.out.lt hb)
        replace HP3 := hid_intro (HP3.out.below hb)
        replace HO3 := hid_intro (HO3.out.below hb)
        clear hb hW3
        go_wp2_with fail
        go_roundw
        case rel => exact ⟨i + 1, K + 3, by go_num, by go_num, by omega, by omega, by omega, hid_intro (by rw [HTM.out, HK.out]; omega), HP3, HD3, HO3⟩
        case measure => simp [intOf]; omega
      · have HMK : Hid (∀ z : Int, z = ((K + 3 : Nat) : Int) → Calls Try.prog 49 #[.slice (some ⟨g', 0, none⟩) ll lc, .int .i64 z] W3 fun e w' => e = .returned (.int .i64 ((K + 3) + 2 * ll : Nat)) ∧ W3.grownBy w' (some g') ∧ ∀ n', Pt g' n' W3 → Pt g' n' w') := hid_intro (fun z hz => by subst hz; exact marksK (K + 3) (by omega) (by omega) g' ll lc W3 hln e4)
        have HE4 := hid_intro (show g < g' ∧ g' < top from ⟨e2, e3⟩)
        clear e4
        go_wp2_with fail
        rw [← hW3]
        refine (HMK.out _ (by push_cast; omega)).mono ?_
        rintro e w4 ⟨rfl, hg4, ha4⟩
        have hgl3 := HP3.out.lt
        replace HD3 := hid_intro (HD3.out.grown hgl3 hg4 e2 ha4)
        replace HP3 := hid_intro (pt_far HP3.out hg4 (by omega))
        replace HO3 := hid_intro (HO3.out.grown hg4 ⟨by omega, e3⟩)
        clear hg4 ha4 hW3
        go_wp2_with fail
        go_roundw
        case rel => exact ⟨i + 1, K + 3 + 2 * ll, by go_num, by go_num, by omega, by omega, by omega, hid_intro (by rw [HTM.out, HK.out]; omega), HP3, HD3, HO3⟩
        case measure => simp [intOf]; omega
end LedR
end Go.Proofs.Ytppdilomefoaaaa
namespace Go.Proofs.Ytppdilomefoaaaa
open Go.ChangeShapes Go.WideShapes Go.ChangeAt Go.RowKit
set_option linter.unusedVariables false
namespace LedR
open LinR RowG DocR ChG
open EvtR (Pt cell_put cell_far)
open MarkR (mk mT mark_any)
/-- Documents whose blocks may be written, each once. -/
structure DsB (base g n : Nat) (la : Nat → Option Addr) (ln lc lb : Nat → Nat) (w : World) : Prop where
  low : base ≤ g
  pt : Pt g (n * 4) w
  cell : ∀ j, j < n → w.cell? ⟨g, j * 4 + 3, none⟩ = some (.slice (la j) (ln j) (lc j))
  own : ∀ j, j < n → ln j = 0 ∨ (la j = some ⟨lb j, 0, none⟩ ∧ base ≤ lb j ∧ lb j ≠ g ∧ Pt (lb j) (ln j * 2) w)
  apart : ∀ i j, i < n → j < n → i ≠ j → ln i ≠ 0 → ln j ≠ 0 → lb i ≠ lb j
/-- The blocks of documents. -/
def FtB (g n : Nat) (ln lb : Nat → Nat) (b : Nat) : Prop := b = g ∨ ∃ j, j < n ∧ ln j ≠ 0 ∧ b = lb j
/-- The first documents are marked. -/
def MkB (g n : Nat) (la : Nat → Option Addr) (ln lc lb Kx : Nat → Nat) (w : World) : Prop := g < w.heap.size ∧ ∀ j, j < n → w.cell? ⟨g, j * 4, none⟩ = some (.string (mT (Kx j))) ∧ w.cell? ⟨g, j * 4 + 1, none⟩ = some (.int .i64 ((Kx j : Int) + 1)) ∧ w.cell? ⟨g, j * 4 + 2, none⟩ = some (.int .i64 ((Kx j : Int) + 1 + 1)) ∧ w.cell? ⟨g, j * 4 + 3, none⟩ = some (.slice (la j) (ln j) (lc j)) ∧ (ln j = 0 ∨ (la j = some ⟨lb j, 0, none⟩ ∧ LM (Kx j + 3) (ln j) (lb j) w))
section
variable {base g n : Nat} {la : Nat → Option Addr} {ln lc lb Kx : Nat → Nat} {W W' : World}
theorem DsB.below (h : DsB base g n la ln lc lb W) (hb : Below W.heap.size W W') : DsB base g n la ln lc lb W' :=
  ⟨h.low, h.pt.below hb, fun j hj => (hb.cell (p := ⟨g, j * 4 + 3, none⟩) h.pt.lt).trans (h.cell j hj), fun j hj => (h.own j hj).imp id (fun ⟨e1, e2, e3, e4⟩ => ⟨e1, e2, e3, e4.below hb⟩), h.apart⟩
theorem DsB.put (h : DsB base g n la ln lc lb W) (o : Nat) (ho : o % 4 ≠ 3) (v : Value) : DsB base g n la ln lc lb (W.setCell ⟨g, o, none⟩ v) :=
  ⟨h.low, h.pt.set _ _, fun j hj => (cell_far _ _ (by omega) v).trans (h.cell j hj), fun j hj => (h.own j hj).imp id (fun ⟨e1, e2, e3, e4⟩ => ⟨e1, e2, e3, pt_any e4⟩), h.apart⟩
theorem DsB.grown (h : DsB base g n la ln lc lb W) {x : Nat} (hg : W.grownBy W' (some x)) (hx : x ≠ g) (ha : ∀ n', Pt x n' W → Pt x n' W') : DsB base g n la ln lc lb W' := by
  have eb := hg.block g h.pt.lt (by simp; exact fun e => hx e.symm)
  refine ⟨h.low, OwG.pt_row h.pt hg (by simp; exact fun e => hx e.symm), fun j hj => (World.cell?_of_block (a := ⟨g, j * 4 + 3, none⟩) eb).trans (h.cell j hj), fun j hj => (h.own j hj).imp id (fun ⟨e1, e2, e3, e4⟩ => ⟨e1, e2, e3, ?_⟩), h.apart⟩
  by_cases e : lb j = x
  · subst e; exact ha _ e4
  · exact OwG.pt_row e4 hg (by simp; exact e)
theorem MkB.below (h : MkB g n la ln lc lb Kx W) (hb : Below W.heap.size W W') : MkB g n la ln lc lb Kx W' := by
  refine ⟨by have := hb.size; have := h.1; omega, fun j hj => ?_⟩
  obtain ⟨h0, h1, h2, h3, h4⟩ := h.2 j hj
  have f := fun o => hb.cell (p := ⟨g, o, none⟩) h.1
  exact ⟨(f _).trans h0, (f _).trans h1, (f _).trans h2, (f _).trans h3, h4.imp id (fun ⟨e1, e2⟩ => ⟨e1, e2.below hb⟩)⟩
theorem MkB.chg {S : Nat → Prop} (h : MkB g n la ln lc lb Kx W) (hc : Chg S W W') (hg : ¬ S g) (hl : ∀ j, j < n → ln j ≠ 0 → ¬ S (lb j)) : MkB g n la ln lc lb Kx W' := by
  refine ⟨by have := hc.size; have := h.1; omega, fun j hj => ?_⟩
  obtain ⟨h0, h1, h2, h3, h4⟩ := h.2 j hj
  have eb := hc.block g h.1 hg
  have f := fun o => World.cell?_of_block (a := ⟨g, o, none⟩) eb
  refine ⟨(f _).trans h0, (f _).trans h1, (f _).trans h2, (f _).trans h3, ?_⟩
  by_cases e0 : ln j = 0
  · exact .inl e0
  · rcases h4 with h4 | ⟨e1, e2⟩
    · exact absurd h4 e0
    · exact .inr ⟨e1, e2.block hc.size (hc.block _ e2.1 (hl j hj e0))⟩
theorem MkB.put (h : MkB g n la ln lc lb Kx W) (hlb : ∀ j, j < n → ln j ≠ 0 → lb j ≠ g) (o : Nat) (ho : n * 4 ≤ o) (v : Value) : MkB g n la ln lc lb Kx (W.setCell ⟨g, o, none⟩ v) := by
  refine ⟨by have := h.1; simpa using this, fun j hj => ?_⟩
  obtain ⟨h0, h1, h2, h3, h4⟩ := h.2 j hj
  refine ⟨(cell_far _ _ (by omega) v).trans h0, (cell_far _ _ (by omega) v).trans h1, (cell_far _ _ (by omega) v).trans h2, (cell_far _ _ (by omega) v).trans h3, ?_⟩
  by_cases e0 : ln j = 0
  · exact .inl e0
  · rcases h4 with h4 | ⟨e1, e2⟩
    · exact absurd h4 e0
    · have eb := (grown_set W g o v).block (lb j) e2.1 (by simp; exact hlb j hj e0)
      exact .inr ⟨e1, e2.block (by simp) eb⟩
end
set_option maxRecDepth 100000 in
set_option maxHeartbeats 8000000 in
theorem markB (base g n cap : Nat) (la : Nat → Option Addr) (ln lc lb Kx : Nat → Nat) (w : World) (hn : n ≤ 1048576) (hK0 : 1 ≤ Kx 0) (hKM : ∀ j, j < n → Kx (j + 1) = Kx j + 3 + 2 * ln j) (hK : ∀ j, j ≤ n → 1 ≤ Kx j ∧ Kx j ≤ 5300001) (hln : ∀ j, j < n → ln j ≤ 1048576) (hD : DsB base g n la ln lc lb w) :
    Calls Try.prog 25 #[.slice (some ⟨g, 0, none⟩) n cap, .int .i64 (Kx 0 : Nat)] w fun e w' => e = .returned (.int .i64 (Kx n : Nat)) ∧ MkB g n la ln lc lb Kx w' ∧ Chg (FtB g n ln lb) w w' := by
  have HT : Hid (∀ (z : Int) (K : Nat), z = K → 1 ≤ K → K < 100000000 → ∀ w, Calls Try.prog 48 #[.int .i64 z] w fun e w' => e = .returned (.string (mT K)) ∧ Below w.heap.size w w') := hid_intro (fun z K e h0 h w => by subst e; exact mark_any K h0 h w)
  have HKM := hid_intro hKM
  have HK := hid_intro hK
  have HLN := hid_intro hln
  have HD := hid_intro hD
  have HM0 : Hid (MkB g 0 la ln lc lb Kx w) := hid_intro ⟨hD.pt.lt, fun j hj => absurd hj (by omega)⟩
  clear hKM hK hln hD hK0
  go_enter Try.func25, Try.ntmps25
  go_wp2_with fail
  go_loopw [5, 1] (fun x z wr => ∃ (i : Nat), x = .int .i64 (i : Int) ∧ z = .int .i64 ((Kx i : Nat) : Int) ∧ i ≤ n ∧ Hid (DsB base g n la ln lc lb wr) ∧ Hid (MkB g i la ln lc lb Kx wr) ∧ Hid (Chg (FtB g n ln lb) w wr)) (fun x _ _ => n - (intOf x).toNat)
  case atStart => exact ⟨0, rfl, rfl, by omega, HD, HM0, hid_intro (Chg.refl _ _)⟩
  case round =>
    clear HD HM0
    obtain ⟨i, rfl, rfl, hi, HD, HM, HC⟩ := hrel
    by_cases hin : i = n
    · subst hin
      go_wp2_with fail
      go_ret
      exact ⟨rfl, HM.out, HC.out⟩
    · have h1 : (i : Int) < (n : Int) := by omega
      have hil : i < n := by omega
      obtain ⟨k0, k1⟩ := HK.out i (by omega)
      have k2 := (HK.out (i + 1) (by omega)).2
      have km := HKM.out i hil
      have hll := HLN.out i hil
      have hgl := HD.out.pt.lt
      have HLB : Hid (∀ j, j < i → ln j ≠ 0 → lb j ≠ g) := hid_intro (fun j hj e0 => by
        rcases HD.out.own j (by omega) with h | ⟨_, _, h, _⟩
        · exact absurd h e0
        · exact h)
      go_wp2_with fail
      refine (HT.out _ (Kx i) rfl (by omega) (by omega) _).mono ?_
      rintro e w1 ⟨rfl, hb⟩
      replace HD := hid_intro (HD.out.below hb)
      replace HM := hid_intro (HM.out.below hb)
      replace HC := hid_intro (HC.out.below hb)
      clear hb hgl
      obtain ⟨v0, c0⟩ := HD.out.pt.has (i * 4) (by omega)
      have f0 := HD.out.pt.free (i * 4) (by omega)
      obtain ⟨v1, c1⟩ := HD.out.pt.has (i * 4 + 1) (by omega)
      have f1 := HD.out.pt.free (i * 4 + 1) (by omega)
      obtain ⟨v2, c2⟩ := HD.out.pt.has (i * 4 + 2) (by omega)
      have f2 := HD.out.pt.free (i * 4 + 2) (by omega)
      have c3 := HD.out.cell i hil
      have hgl := HD.out.pt.lt
      have hSg : FtB g n ln lb g := .inl rfl
      generalize hKi : Kx i = K at *
      obtain ⟨W3, hW3⟩ : ∃ W3, W3 = ((w1.setCell ⟨g, i * 4, none⟩ (.string (mT K))).setCell ⟨g, i * 4 + 1, none⟩ (.int .i64 ((K : Int) + 1))).setCell ⟨g, i * 4 + 2, none⟩ (.int .i64 ((K : Int) + 1 + 1)) := ⟨_, rfl⟩
      have HD3 : Hid (DsB base g n la ln lc lb W3) := hid_intro (by rw [hW3]; exact ((HD.out.put _ (by omega) _).put _ (by omega) _).put _ (by omega) _)
      have HM3 : Hid (MkB g i la ln lc lb Kx W3) := hid_intro (by rw [hW3]; exact ((HM.out.put HLB.out _ (by omega) _).put HLB.out _ (by omega) _).put HLB.out _ (by omega) _)
      have HC3 : Hid (Chg (FtB g n ln lb) w W3) := hid_intro (by rw [hW3]; exact ((HC.out.grown (grown_set _ g _ _) hSg).grown (grown_set _ g _ _) hSg).grown (grown_set _ g _ _) hSg)
      have p0 := HD.out.pt
      have p1 := p0.set (i * 4) (.string (mT K))
      have p2 := p1.set (i * 4 + 1) (.int .i64 ((K : Int) + 1))
      have HX3 : Hid (W3.cell? ⟨g, i * 4, none⟩ = some (.string (mT K)) ∧ W3.cell? ⟨g, i * 4 + 1, none⟩ = some (.int .i64 ((K : Int) + 1)) ∧ W3.cell? ⟨g, i * 4 + 2, none⟩ = some (.int .i64 ((K : Int) + 1 + 1))) := hid_intro (by
        rw [hW3]
        refine ⟨?_, ?_, cell_put p2 _ (by omega) _⟩
        · rw [cell_far _ _ (by omega), cell_far _ _ (by omega), cell_put p0 _ (by omega)]
        · rw [cell_far _ _ (by omega), cell_put p1 _ (by omega)])
      clear p0 p1 p2
      have HTK : Hid (mT (Kx i) = mT K) := hid_intro (by rw [hKi])
      have HKi := hid_intro hKi
      generalize mT K = T0 at *
      clear HD HM HC hKi
      rcases HD3.out.own i hil with h0 | ⟨e1, e2, e3, e4⟩
      · rw [h0] at c3
        have HMK := hid_intro (fun z => marks0K z (la i) (lc i) W3)
        have HL0 := hid_intro h0
        go_wp2_with fail
        rw [← hW3]
        refine (HMK.out _).mono ?_
        rintro e w4 ⟨rfl, hb⟩
        have HX4 := hid_intro (show MkB g (i + 1) la ln lc lb Kx w4 from ⟨by have := hb.size; have := HD3.out.pt.lt; omega, fun j hj => by
          by_cases e : j = i
          · subst e
            have f := fun o => hb.cell (p := ⟨g, o, none⟩) HD3.out.pt.lt
            rw [HTK.out, HKi.out]
            exact ⟨(f _).trans HX3.out.1, (f _).trans HX3.out.2.1, (f _).trans HX3.out.2.2, (f _).trans (HD3.out.cell j hil), .inl HL0.out⟩
          · exact (HM3.out.below hb).2 j (by omega)⟩)
        replace HD3 := hid_intro (HD3.out.below hb)
        replace HC3 := hid_intro (HC3.out.below hb)
        have hkk : ((Kx (i + 1) : Nat) : Int) = (K : Int) + 1 + 1 + 1 := by rw [km, h0]; omega
        clear hb hW3
        go_wp2_with fail
        go_roundw
        case rel => exact ⟨i + 1, by go_num, by rw [hkk], by omega, HD3, HX4, HC3⟩
        case measure => simp [intOf]; omega
      · have HMK : Hid (∀ z : Int, z = ((K + 3 : Nat) : Int) → Calls Try.prog 49 #[.slice (some ⟨lb i, 0, none⟩) (ln i) (lc i), .int .i64 z] W3 fun e w' => e = .returned (.int .i64 ((K + 3) + 2 * ln i : Nat)) ∧ W3.grownBy w' (some (lb i)) ∧ (∀ n', Pt (lb i) n' W3 → Pt (lb i) n' w') ∧ LM (K + 3) (ln i) (lb i) w') := hid_intro (fun z hz => by subst hz; exact marksM (K + 3) (by omega) (by omega) (lb i) (ln i) (lc i) W3 hll e4)
        have HE1 := hid_intro e1
        have HE3 := hid_intro e3
        have hSl : ln i ≠ 0 → FtB g n ln lb (lb i) := fun h => .inr ⟨i, hil, h, rfl⟩
        have HSl := hid_intro hSl
        have HC3' : Hid (ln i = 0 ∨ FtB g n ln lb (lb i)) := hid_intro (by by_cases h : ln i = 0; exact .inl h; exact .inr (hSl h))
        rw [e1] at c3
        clear e4 hSl e1
        by_cases hz : ln i = 0
        · rw [hz] at c3
          have HMK0 := hid_intro (fun z => marks0K z (some ⟨lb i, 0, none⟩) (lc i) W3)
          have HL0 := hid_intro hz
          go_wp2_with fail
          rw [← hW3]
          refine (HMK0.out _).mono ?_
          rintro e w4 ⟨rfl, hb⟩
          have HX4 := hid_intro (show MkB g (i + 1) la ln lc lb Kx w4 from ⟨by have := hb.size; have := HD3.out.pt.lt; omega, fun j hj => by
            by_cases e : j = i
            · subst e
              have f := fun o => hb.cell (p := ⟨g, o, none⟩) HD3.out.pt.lt
              rw [HTK.out, HKi.out]
              exact ⟨(f _).trans HX3.out.1, (f _).trans HX3.out.2.1, (f _).trans HX3.out.2.2, (f _).trans (HD3.out.cell j hil), .inl HL0.out⟩
            · exact (HM3.out.below hb).2 j (by omega)⟩)
          replace HD3 := hid_intro (HD3.out.below hb)
          replace HC3 := hid_intro (HC3.out.below hb)
          have hkk : ((Kx (i + 1) : Nat) : Int) = (K : Int) + 1 + 1 + 1 := by rw [km, hz]; omega
          clear hb hW3
          go_wp2_with fail
          go_roundw
          case rel => exact ⟨i + 1, by go_num, by rw [hkk], by omega, HD3, HX4, HC3⟩
          case measure => simp [intOf]; omega
        · go_wp2_with fail
          rw [← hW3]
          refine (HMK.out _ (by push_cast; omega)).mono ?_
          rintro e w4 ⟨rfl, hg4, ha4, hm4⟩
          have HX4 := hid_intro (show MkB g (i + 1) la ln lc lb Kx w4 from ⟨by have := hg4.size; have := HD3.out.pt.lt; omega, fun j hj => by
            by_cases e : j = i
            · subst e
              have eb := hg4.block g HD3.out.pt.lt (by simp; exact fun e => HE3.out e.symm)
              have f := fun o => World.cell?_of_block (a := ⟨g, o, none⟩) eb
              rw [HTK.out, HKi.out]
              exact ⟨(f _).trans HX3.out.1, (f _).trans HX3.out.2.1, (f _).trans HX3.out.2.2, (f _).trans (HD3.out.cell j hil), .inr ⟨HE1.out, hm4⟩⟩
            · have hc : Chg (fun b => b = lb i) W3 w4 := (Chg.refl _ _).grown hg4 rfl
              exact (HM3.out.chg hc (fun q => HE3.out q.symm) (fun j2 hj2 hn2 q => HD3.out.apart j2 i (by omega) hil (by omega) hn2 hz q)).2 j (by omega)⟩)
          replace HD3 := hid_intro (HD3.out.grown hg4 HE3.out ha4)
          replace HC3 := hid_intro (HC3.out.grown hg4 (HSl.out hz))
          have hkk : ((Kx (i + 1) : Nat) : Int) = ((K + 3 + 2 * ln i : Nat) : Int) := by rw [km]
          clear hg4 ha4 hm4 hW3
          go_wp2_with fail
          go_roundw
          case rel => exact ⟨i + 1, by go_num, by rw [hkk]; go_num, by omega, HD3, HX4, HC3⟩
          case measure => simp [intOf]; omega
/-- One document's marks, in a world grown. -/
def BoxD (w : World) (g o : Nat) (t0 : ByteArray) (n1 n2 : Int) (v : Value) (w' : World) : Prop := Below w.heap.size w w' ∧ g < w'.heap.size ∧ w'.cell? ⟨g, o, none⟩ = some (.string t0) ∧ w'.cell? ⟨g, o + 1, none⟩ = some (.int .i64 n1) ∧ w'.cell? ⟨g, o + 2, none⟩ = some (.int .i64 n2) ∧ w'.cell? ⟨g, o + 3, none⟩ = some v
theorem BoxD.below {w w1 w2 : World} {g o : Nat} {t0 : ByteArray} {n1 n2 : Int} {v : Value} (h : BoxD w g o t0 n1 n2 v w1) (hb : Below w1.heap.size w1 w2) : BoxD w g o t0 n1 n2 v w2 := by
  obtain ⟨h0, hl, c0, c1, c2, c3⟩ := h
  have c := fun x => hb.cell (p := ⟨g, x, none⟩) hl
  exact ⟨h0.trans (hb.mono h0.size), by have := hb.size; omega, (c _).trans c0, (c _).trans c1, (c _).trans c2, (c _).trans c3⟩
theorem BoxD.drew {w w1 : World} {g o : Nat} {t0 : ByteArray} {n1 n2 : Int} {v : Value} (h : BoxD w g o t0 n1 n2 v w1) : BoxD w g o t0 n1 n2 v w1.drew := ⟨h.1.drew, h.2⟩
theorem bd_below {w wr w1 w2 : World} {g o : Nat} {t0 : ByteArray} {n1 n2 : Int} {v : Value} (h : Below wr.heap.size wr w1 ∧ BoxD w g o t0 n1 n2 v w1) (hb : Below w1.heap.size w1 w2) : Below wr.heap.size wr w2 ∧ BoxD w g o t0 n1 n2 v w2 := ⟨h.1.trans (hb.mono h.1.size), h.2.below hb⟩
set_option maxRecDepth 100000 in
set_option maxHeartbeats 8000000 in
theorem heldB (g n cap : Nat) (la : Nat → Option Addr) (ln lc lb Kx : Nat → Nat) (w : World) (hn : n ≤ 1048576) (hKM : ∀ j, j < n → Kx (j + 1) = Kx j + 3 + 2 * ln j) (hK : ∀ j, j ≤ n → 1 ≤ Kx j ∧ Kx j ≤ 5300001) (hln : ∀ j, j < n → ln j ≤ 1048576) (hM : MkB g n la ln lc lb Kx w) :
    Calls Try.prog 27 #[.slice (some ⟨g, 0, none⟩) n cap, .int .i64 (Kx 0 : Nat)] w fun e w' => e = .returned (.int .i64 (Kx n : Nat)) ∧ Below w.heap.size w w' := by
  have HT : Hid (∀ (z : Int) (K : Nat), z = K → 1 ≤ K → K < 100000000 → ∀ w, Calls Try.prog 48 #[.int .i64 z] w fun e w' => e = .returned (.string (mT K)) ∧ Below w.heap.size w w') := hid_intro (fun z K e h0 h w => by subst e; exact mark_any K h0 h w)
  have HKM := hid_intro hKM
  have HK := hid_intro hK
  have HLN := hid_intro hln
  have HM := hid_intro hM
  clear hKM hK hln hM
  go_enter Try.func27, Try.ntmps27
  go_wp2_with fail
  go_loopw [5, 1] (fun x z wr => ∃ (i : Nat), x = .int .i64 (i : Int) ∧ z = .int .i64 ((Kx i : Nat) : Int) ∧ i ≤ n ∧ Hid (Below w.heap.size w wr)) (fun x _ _ => n - (intOf x).toNat)
  case atStart => exact ⟨0, rfl, rfl, by omega, hid_intro (Below.refl _ _)⟩
  case round =>
    obtain ⟨i, rfl, rfl, hi, HB⟩ := hrel
    by_cases hin : i = n
    · subst hin
      go_wp2_with fail
      go_ret
      exact ⟨rfl, HB.out⟩
    · have h1 : (i : Int) < (n : Int) := by omega
      have hil : i < n := by omega
      obtain ⟨k0, k1⟩ := HK.out i (by omega)
      have k2 := (HK.out (i + 1) (by omega)).2
      have km := HKM.out i hil
      have hll := HLN.out i hil
      have HMW := hid_intro (HM.out.below HB.out)
      have hgl := HMW.out.1
      obtain ⟨c0, c1, c2, c3, hL⟩ := HMW.out.2 i hil
      have HT0 := hid_intro (fun w => HT.out ((Kx i : Nat) : Int) (Kx i) rfl (by omega) (by omega) w)
      have HLW : Hid (∀ W, Below wr.heap.size wr W → (ln i = 0 ∨ (la i = some ⟨lb i, 0, none⟩ ∧ LM (Kx i + 3) (ln i) (lb i) W))) := hid_intro (fun W hW => hL.imp id (fun ⟨e1, e2⟩ => ⟨e1, e2.below hW⟩))
      clear hL HMW
      generalize Kx i = K at *
      have hk1 : (((K : Int) + 1) == ((K : Int) + 1)) = true := by simp
      generalize mT K = T0 at *
      have HS0 : Hid (BoxD w g (i * 4) T0 ((K : Int) + 1) ((K : Int) + 1 + 1) (.slice (la i) (ln i) (lc i)) wr) := hid_intro ⟨HB.out, hgl, c0, c1, c2, c3⟩
      have HS1 := hid_intro HS0.out.drew
      obtain ⟨Wo, hWo⟩ : ∃ Wo, Wo = wr := ⟨_, rfl⟩
      have HS2 : Hid (Below wr.heap.size wr wr ∧ BoxD w g (i * 4) T0 ((K : Int) + 1) ((K : Int) + 1 + 1) (.slice (la i) (ln i) (lc i)) wr) := hid_intro ⟨Below.refl _ _, HS0.out⟩
      have HS3 : Hid (Below wr.heap.size wr wr.drew ∧ BoxD w g (i * 4) T0 ((K : Int) + 1) ((K : Int) + 1 + 1) (.slice (la i) (ln i) (lc i)) wr.drew) := hid_intro ⟨(Below.refl _ _).drew, HS1.out⟩
      clear hk1 hWo
      go_wp2_with fail
      go_region_held3 (fun w' => Below wr.heap.size wr w' ∧ Below w.heap.size w w' ∧ g < w'.heap.size ∧ w'.cell? ⟨g, i * 4, none⟩ = some (.string T0) ∧ w'.cell? ⟨g, i * 4 + 1, none⟩ = some (.int .i64 ((K : Int) + 1)) ∧ w'.cell? ⟨g, i * 4 + 2, none⟩ = some (.int .i64 ((K : Int) + 1 + 1)) ∧ w'.cell? ⟨g, i * 4 + 3, none⟩ = some (.slice (la i) (ln i) (lc i))) (first | assumption | (exact HS2.out) | (exact HS3.out) | (exact bd_below (by assumption) hb))
        (first | (go_at_call 48; refine (HT0.out _).mono ?_; rintro e w' ⟨rfl, hb⟩))
      rename_i hS
      have HBW := hid_intro hS.1
      have HB2 := hid_intro hS.2.1
      have HLX := hid_intro (HLW.out _ hS.1)
      obtain ⟨_, _, gl2, d0, d1, d2, d3⟩ := hS
      clear HS0 HS1 HS2 HS3 c0 c1 c2 c3 hgl HLW
      by_cases h0 : ln i = 0
      · rw [h0] at d3
        have HMK := hid_intro (fun z W => held0K z (la i) (lc i) W)
        have hkk : ((Kx (i + 1) : Nat) : Int) = (K : Int) + 1 + 1 + 1 := by rw [km, h0]; omega
        have hkn : ¬ (K : Int) + 1 + 1 + 1 < 0 := by omega
        go_wp2_with fail
        refine (HMK.out _ _).mono ?_
        rintro e w4 ⟨rfl, hb⟩
        replace HB2 := hid_intro (HB2.out.trans (hb.mono HB2.out.size))
        clear hb
        go_wp2_with fail
        go_roundw
        case rel => exact ⟨i + 1, by go_num, by rw [hkk], by omega, HB2⟩
        case measure => simp [intOf]; omega
      · rcases HLX.out with q | ⟨e1, e2⟩
        · exact absurd q h0
        rw [e1] at d3
        have HMK := hid_intro (fun (z : Int) (hz : z = ((K + 3 : Nat) : Int)) => by subst hz; exact heldM (K + 3) (by omega) (by omega) (lb i) (ln i) (lc i) _ hll e2)
        have hkk : ((Kx (i + 1) : Nat) : Int) = ((K + 3 + 2 * ln i : Nat) : Int) := by rw [km]
        have hkn : ¬ ((K + 3 + 2 * ln i : Nat) : Int) < 0 := by omega
        clear e2 HLX
        go_wp2_with fail
        refine (HMK.out ((K : Int) + 1 + 1 + 1) (by push_cast; omega)).mono ?_
        rintro e w4 ⟨rfl, hb⟩
        replace HB2 := hid_intro (HB2.out.trans (hb.mono HB2.out.size))
        clear hb
        generalize ((K + 3 + 2 * ln i : Nat) : Int) = Z at *
        go_wp2_with fail
        go_roundw
        case rel => exact ⟨i + 1, by go_num, by rw [hkk], by omega, HB2⟩
        case measure => simp [intOf]; omega
end LedR
end Go.Proofs.Ytppdilomefoaaaa
namespace Go.Proofs.Ytppdilomefoaaaa
open Go.ChangeShapes Go.WideShapes Go.ChangeAt Go.RowKit
set_option linter.unusedVariables false
namespace LedR
open LinR RowG DocR ChG
open EvtR (Pt cell_put cell_far)
open CatR (Blk Blk.new)
/-- An answer that reads so. -/
def LoR (v : Value) (ds : List D) (x : D) (cd : Int) (W : World) : Prop := ∃ ao cap la lc, v = .agg #[.slice ao ds.length cap, .string x.a, .int .i64 x.mo, .int .i64 x.sq, .slice la x.ls.length lc, .int .i64 cd] ∧ Dcs ao ds W ∧ Lis la x.ls W
theorem LoR.below {v : Value} {ds : List D} {x : D} {cd : Int} {W W' : World} (h : LoR v ds x cd W) (hb : Below W.heap.size W W') : LoR v ds x cd W' := by
  obtain ⟨ao, cap, la, lc, rfl, h1, h2⟩ := h
  exact ⟨ao, cap, la, lc, rfl, h1.below hb, h2.below hb⟩
/-- An answer of one's own. -/
def LoO (base : Nat) (v : Value) (ds : List D) (x : D) (cd : Int) (W : World) : Prop := ∃ (vd : Value) (xs : List DA) (la : Option Addr) (lc : Nat), v = .agg #[vd, .string x.a, .int .i64 x.mo, .int .i64 x.sq, .slice la x.ls.length lc, .int .i64 cd] ∧ xs.map DA.d = ds ∧ W.ownsRow base 25 4 vd ds.length (cellsAll DA.cells xs) ∧ (∀ y ∈ xs, LnO base y W) ∧ xs.Pairwise Apt ∧ LnO base ⟨x, la, lc⟩ W ∧ ∀ y ∈ xs, Apt y ⟨x, la, lc⟩
theorem LoO.reads {base : Nat} {v : Value} {ds : List D} {x : D} {cd : Int} {W : World} (h : LoO base v ds x cd W) : LoR v ds x cd W := by
  obtain ⟨vd, xs, la, lc, rfl, h1, h2, h3, h4, h5, _⟩ := h
  obtain ⟨ao, cap, rfl, hd⟩ := DsO.dcs (⟨xs, h1, h2, h3, h4⟩ : DsO base vd ds W)
  obtain ⟨ao', cap', e', hm'⟩ := RowG.own_made (z := N.zero) N.len h5
  unfold DA.v at e'
  cases e'
  exact ⟨ao, cap, la, lc, rfl, hd, hm'.rws⟩
theorem LoO.below {base : Nat} {v : Value} {ds : List D} {x : D} {cd : Int} {W W' : World} (h : LoO base v ds x cd W) (hb : Below W.heap.size W W') : LoO base v ds x cd W' := by
  obtain ⟨vd, xs, la, lc, rfl, h1, h2, h3, h4, h5, h6⟩ := h
  exact ⟨vd, xs, la, lc, rfl, h1, RowG.own_below h2 hb, fun y hy => RowG.own_below (h3 y hy) hb, h4, RowG.own_below h5 hb, h6⟩
theorem loO_of {base : Nat} {vd : Value} {ds : List D} {cd : Int} {W : World} (h : DsO base vd ds W) : LoO base (.agg #[vd, .string ⟨#[]⟩, .int .i64 0, .int .i64 0, .slice none 0 0, .int .i64 cd]) ds D.zero cd W := by
  obtain ⟨xs, h1, h2, h3, h4⟩ := h
  exact ⟨vd, xs, none, 0, rfl, h1, h2, h3, h4, World.ownsRow_nil _ _ _ _, fun y _ b h1 h2 => by simp [DA.v, Value.ownBlock] at h2⟩
/-- The places of the documents' blocks. -/
theorem dsB_of {base : Nat} {v : Value} {xs : List DA} {W : World} (h2 : W.ownsRow base 25 4 v xs.length (cellsAll DA.cells xs)) (h3 : ∀ x ∈ xs, LnO base x W) (h4 : xs.Pairwise Apt) (h0 : xs.length ≠ 0) : ∃ g cap lb, v = .slice (some ⟨g, 0, none⟩) xs.length cap ∧ v.ownBlock = some g ∧ (∀ j, j < xs.length → (xs.getD j DA.zero).d.ls.length ≠ 0 → (xs.getD j DA.zero).v.ownBlock = some (lb j)) ∧ DsB base g xs.length (fun j => (xs.getD j DA.zero).la) (fun j => (xs.getD j DA.zero).d.ls.length) (fun j => (xs.getD j DA.zero).lc) lb W := by
  have hap := fun j (hj : j < xs.length) => OwG.own_apart (h3 _ (RowG.getD_mem (z := DA.zero) xs j hj)) h2 (by decide)
  obtain ⟨ao, cap, rfl, hm⟩ := RowG.own_made (z := DA.zero) DA.len h2
  rcases hm.own with q | ⟨g, rfl, hg, hp⟩
  · exact absurd q h0
  have hl : ∀ j, j < xs.length → (xs.getD j DA.zero).d.ls.length = 0 ∨ ∃ b, (xs.getD j DA.zero).la = some ⟨b, 0, none⟩ ∧ base ≤ b ∧ Pt b ((xs.getD j DA.zero).d.ls.length * 2) W := by
    intro j hj
    have h := h3 _ (RowG.getD_mem (z := DA.zero) xs j hj)
    obtain ⟨ao', cap', e', hm'⟩ := RowG.own_made (z := N.zero) N.len h
    unfold DA.v at e'
    cases e'
    exact hm'.own
  refine ⟨g, cap, fun j => match (xs.getD j DA.zero).la with | some a => a.block | none => 0, rfl, rfl, ?_, hg, hp, ?_, ?_, ?_⟩
  · intro j hj hn
    rcases hl j hj with q | ⟨b, e1, _⟩
    · exact absurd q hn
    · dsimp only
      unfold DA.v
      rw [e1]
      rfl
  · intro j hj
    rcases hm.rws with q | ⟨b, off, e, hb, hc⟩
    · exact absurd q h0
    · simp only [Option.some.injEq, Addr.mk.injEq, and_true] at e
      obtain ⟨rfl, rfl⟩ := e
      have := hc j hj 3 (by omega)
      rw [Nat.zero_add] at this
      exact this
  · intro j hj
    rcases hl j hj with q | ⟨b, e1, e2, e3⟩
    · exact .inl q
    · by_cases hn : (xs.getD j DA.zero).d.ls.length = 0
      · exact .inl hn
      refine .inr ?_
      rw [e1]
      refine ⟨rfl, e2, ?_, e3⟩
      have := hap j hj b (by unfold DA.v; rw [e1]; rfl)
      simp [Value.ownBlock] at this
      exact this
  · intro i j hi hj hne n1 n2 q
    rcases hl i hi with q1 | ⟨b1, e1, _⟩
    · exact n1 q1
    rcases hl j hj with q2 | ⟨b2, e2, _⟩
    · exact n2 q2
    rw [e1, e2] at q
    have q3 : b1 = b2 := q
    subst q3
    have eb1 : (xs.getD i DA.zero).v.ownBlock = some b1 := by unfold DA.v; rw [e1]; rfl
    have eb2 : (xs.getD j DA.zero).v.ownBlock = some b1 := by unfold DA.v; rw [e2]; rfl
    have gi : xs.getD i DA.zero = xs[i] := by simp [List.getD, hi]
    have gj : xs.getD j DA.zero = xs[j] := by simp [List.getD, hj]
    rw [gi] at eb1
    rw [gj] at eb2
    rcases Nat.lt_or_gt_of_ne hne with lt | gt
    · exact List.pairwise_iff_getElem.1 h4 i j hi hj lt b1 eb1 eb2
    · exact List.pairwise_iff_getElem.1 h4 j i hj hi gt b1 eb2 eb1
set_option maxHeartbeats 4000000 in
theorem eqO (v v' : Value) (ds : List D) (x : D) (cd : Int) (w : World) (hlen : ds.length ≤ 1048576) (hSm : ∀ d ∈ ds, d.Sm) (hx : x.ls.length ≤ 1048576) (h : LoR v ds x cd w) (h' : LoR v' ds x cd w) :
    Calls Try.prog 7 #[v, v'] w fun e w' => e = .returned (.bool true) ∧ Below w.heap.size w w' := by
  obtain ⟨ao, cap, la, lc, rfl, h1, h2⟩ := h
  obtain ⟨ao', cap', la', lc', rfl, h1', h2'⟩ := h'
  have HE := hid_intro (fun W (hW : Below w.heap.size w W) => eqDs ao ao' cap cap' ds W hlen hSm (h1.below hW) (h1'.below hW))
  have HD : Hid (∀ W (hW : Below w.heap.size w W), Calls Try.prog 24 #[.agg #[.string x.a, .int .i64 x.mo, .int .i64 x.sq, .slice la x.ls.length lc], .agg #[.string x.a, .int .i64 x.mo, .int .i64 x.sq, .slice la' x.ls.length lc']] W fun e w' => e = .returned (.bool true) ∧ Below W.heap.size W w') := hid_intro (fun W hW => eqD_any _ _ x W hx ⟨la, lc, rfl, h2.below hW⟩ ⟨la', lc', rfl, h2'.below hW⟩)
  clear h1 h2 h1' h2' hSm hx
  generalize ds.length = n at *
  generalize x.a = a at *
  generalize x.mo = mo at *
  generalize x.sq = sq at *
  generalize x.ls.length = ll at *
  obtain ⟨W0, hW0⟩ : ∃ W0, W0 = (w.alloc (.cells #[.slice ao n cap, .string a, .int .i64 mo, .int .i64 sq, .slice la ll lc, .int .i64 cd] 27)).alloc (.cells #[.slice ao' n cap', .string a, .int .i64 mo, .int .i64 sq, .slice la' ll lc', .int .i64 cd] 27) := ⟨_, rfl⟩
  have HB : Hid (Below w.heap.size w W0) := hid_intro (by rw [hW0]; exact ((Below.refl _ _).alloc (Nat.le_refl _) _).alloc (by simp) _)
  have HX : Hid (Blk w.heap.size [.slice ao n cap, .string a, .int .i64 mo, .int .i64 sq, .slice la ll lc, .int .i64 cd] W0) := hid_intro (by rw [hW0]; exact (Blk.new w [.slice ao n cap, .string a, .int .i64 mo, .int .i64 sq, .slice la ll lc, .int .i64 cd] 27).below ((Below.refl _ _).alloc (Nat.le_refl _) _))
  have HY : Hid (Blk (w.heap.size + 1) [.slice ao' n cap', .string a, .int .i64 mo, .int .i64 sq, .slice la' ll lc', .int .i64 cd] W0) := hid_intro (by
    rw [hW0]
    obtain ⟨X, hX⟩ : ∃ X, X = w.alloc (.cells #[.slice ao n cap, .string a, .int .i64 mo, .int .i64 sq, .slice la ll lc, .int .i64 cd] 27) := ⟨_, rfl⟩
    have e : X.heap.size = w.heap.size + 1 := by rw [hX]; simp
    rw [← hX, ← e]
    exact Blk.new X [.slice ao' n cap', .string a, .int .i64 mo, .int .i64 sq, .slice la' ll lc', .int .i64 cd] 27)
  have HW := hid_intro hW0
  clear hW0
  go_enter Try.func7, Try.ntmps7
  go_wp2_with fail
  rw [← HW.out]
  clear HW
  refine (HE.out _ HB.out).mono ?_
  rintro e w1 ⟨rfl, hb1⟩
  have HB1 := hid_intro (HB.out.trans (hb1.mono HB.out.size))
  have HX1 := hid_intro (HX.out.below hb1)
  have HY1 := hid_intro (HY.out.below hb1)
  have xl := HX1.out.1
  have yl := HY1.out.1
  have x1 : w1.cell? ⟨w.heap.size, 1, none⟩ = some (.string a) := HX1.out.2 1 (by simp)
  have x2 : w1.cell? ⟨w.heap.size, 2, none⟩ = some (.int .i64 mo) := HX1.out.2 2 (by simp)
  have x3 : w1.cell? ⟨w.heap.size, 3, none⟩ = some (.int .i64 sq) := HX1.out.2 3 (by simp)
  have x4 : w1.cell? ⟨w.heap.size, 4, none⟩ = some (.slice la ll lc) := HX1.out.2 4 (by simp)
  have y1 : w1.cell? ⟨w.heap.size + 1, 1, none⟩ = some (.string a) := HY1.out.2 1 (by simp)
  have y2 : w1.cell? ⟨w.heap.size + 1, 2, none⟩ = some (.int .i64 mo) := HY1.out.2 2 (by simp)
  have y3 : w1.cell? ⟨w.heap.size + 1, 3, none⟩ = some (.int .i64 sq) := HY1.out.2 3 (by simp)
  have y4 : w1.cell? ⟨w.heap.size + 1, 4, none⟩ = some (.slice la' ll lc') := HY1.out.2 4 (by simp)
  clear hb1 HB HX HY
  go_wp2_with fail
  refine (HD.out _ HB1.out).mono ?_
  rintro e w2 ⟨rfl, hb2⟩
  have HB2 := hid_intro (HB1.out.trans (hb2.mono HB1.out.size))
  have HX2 := hid_intro (HX1.out.below hb2)
  have HY2 := hid_intro (HY1.out.below hb2)
  have xl2 := HX2.out.1
  have yl2 := HY2.out.1
  have x5 : w2.cell? ⟨w.heap.size, 5, none⟩ = some (.int .i64 cd) := HX2.out.2 5 (by simp)
  have y5 : w2.cell? ⟨w.heap.size + 1, 5, none⟩ = some (.int .i64 cd) := HY2.out.2 5 (by simp)
  clear hb2 x1 x2 x3 x4 y1 y2 y3 y4 xl yl HX1 HY1 HB1
  go_wp2_with fail
  go_ret
  exact ⟨rfl, HB2.out⟩
/-- From where on the documents are marked. -/
def KxO (xs : List DA) (j : Nat) : Nat := 1 + tot ((xs.take j).map DA.d)
theorem kxO_more (xs : List DA) (j : Nat) (h : j < xs.length) : KxO xs (j + 1) = KxO xs j + 3 + 2 * (xs.getD j DA.zero).d.ls.length := by
  unfold KxO
  have e : (xs.take (j + 1)).map DA.d = (xs.take j).map DA.d ++ [(xs.getD j DA.zero).d] := by
    rw [RowG.take_more (z := DA.zero) xs j h, List.map_append]
    rfl
  rw [e]
  simp only [tot, List.map_append, List.sum_append, List.map_cons, List.map_nil, List.sum_cons, List.sum_nil]
  omega
theorem kxO_le (xs : List DA) (j : Nat) : KxO xs j ≤ 1 + tot (xs.map DA.d) := by
  unfold KxO
  have h := tot_le (xs.map DA.d) j
  rw [← List.map_take] at h
  omega
set_option maxHeartbeats 4000000 in
theorem markD0 (K : Int) (ao : Option Addr) (cap : Nat) (w : World) : Calls Try.prog 25 #[.slice ao 0 cap, .int .i64 K] w fun e w' => e = .returned (.int .i64 K) ∧ Below w.heap.size w w' := by
  go_enter Try.func25, Try.ntmps25
  go_wp2_with fail
  go_loopw [5, 1] (fun x z wr => x = .int .i64 0 ∧ z = .int .i64 K ∧ Hid (Below w.heap.size w wr)) (fun x _ _ => 0)
  case atStart => exact ⟨rfl, rfl, hid_intro (Below.refl _ _)⟩
  case round =>
    obtain ⟨rfl, rfl, HB⟩ := hrel
    go_wp2_with fail
    go_ret
    exact ⟨rfl, HB.out⟩
set_option maxHeartbeats 4000000 in
theorem heldD0 (K : Int) (ao : Option Addr) (cap : Nat) (w : World) : Calls Try.prog 27 #[.slice ao 0 cap, .int .i64 K] w fun e w' => e = .returned (.int .i64 K) ∧ Below w.heap.size w w' := by
  go_enter Try.func27, Try.ntmps27
  go_wp2_with fail
  go_loopw [5, 1] (fun x z wr => x = .int .i64 0 ∧ z = .int .i64 K ∧ Hid (Below w.heap.size w wr)) (fun x _ _ => 0)
  case atStart => exact ⟨rfl, rfl, hid_intro (Below.refl _ _)⟩
  case round =>
    obtain ⟨rfl, rfl, HB⟩ := hrel
    go_wp2_with fail
    go_ret
    exact ⟨rfl, HB.out⟩
/-- The documents of an answer, marked: how far, and what reading them answers later on. -/
theorem markDsO (base : Nat) (vd : Value) (xs : List DA) (w : World) (hlen : xs.length ≤ 1048576) (hln : ∀ y ∈ xs, y.d.ls.length ≤ 1048576) (ht : tot (xs.map DA.d) ≤ 5300000) (h2 : w.ownsRow base 25 4 vd xs.length (cellsAll DA.cells xs)) (h3 : ∀ x ∈ xs, LnO base x w) (h4 : xs.Pairwise Apt) :
    Calls Try.prog 25 #[vd, .int .i64 1] w fun e w' => e = .returned (.int .i64 (1 + tot (xs.map DA.d) : Nat)) ∧ (∃ S : Nat → Prop, Chg S w w' ∧ (∀ b, S b → base ≤ b ∧ (vd.ownBlock = some b ∨ ∃ y ∈ xs, y.v.ownBlock = some b)) ∧
      (∀ (S' : Nat → Prop) w2, Chg S' w' w2 → (∀ b, S' b → ¬ S b) → Calls Try.prog 27 #[vd, .int .i64 1] w2 fun e w3 => e = .returned (.int .i64 (1 + tot (xs.map DA.d) : Nat)) ∧ Below w2.heap.size w2 w3)) := by
  by_cases h0 : xs.length = 0
  · obtain rfl : xs = [] := List.length_eq_zero_iff.1 h0
    obtain ⟨ao, cap, rfl, hm⟩ := RowG.own_made (z := DA.zero) DA.len h2
    refine (markD0 1 ao cap w).mono ?_
    rintro e w' ⟨rfl, hb⟩
    refine ⟨rfl, fun _ => False, Chg.of_below hb, fun b q => q.elim, fun S' w2 _ _ => ?_⟩
    exact heldD0 1 ao cap w2
  · obtain ⟨g, cap, lb, rfl, hob, hlb, hD⟩ := dsB_of h2 h3 h4 h0
    have hK : ∀ j, j ≤ xs.length → 1 ≤ KxO xs j ∧ KxO xs j ≤ 5300001 := fun j _ => ⟨by unfold KxO; omega, by have := kxO_le xs j; omega⟩
    have hL : ∀ j, j < xs.length → (xs.getD j DA.zero).d.ls.length ≤ 1048576 := fun j hj => hln _ (RowG.getD_mem (z := DA.zero) xs j hj)
    have hz : KxO xs 0 = 1 := by simp [KxO, tot]
    have hN : KxO xs xs.length = 1 + tot (xs.map DA.d) := by unfold KxO; rw [List.take_length]
    have hm := markB base g xs.length cap _ _ _ lb (KxO xs) w hlen (by omega) (fun j hj => kxO_more xs j hj) hK hL hD
    rw [hz, hN] at hm
    refine hm.mono ?_
    rintro e w' ⟨rfl, hM, hC⟩
    refine ⟨rfl, _, hC, ?_, ?_⟩
    · rintro b (rfl | ⟨j, hj, hn, rfl⟩)
      · exact ⟨hD.low, .inl hob⟩
      · refine ⟨?_, .inr ⟨_, RowG.getD_mem (z := DA.zero) xs j hj, hlb j hj hn⟩⟩
        rcases hD.own j hj with q | ⟨_, q, _⟩
        · exact absurd q hn
        · exact q
    · intro S' w2 hc hS
      have hM2 := hM.chg hc (fun q => hS g q (.inl rfl)) (fun j hj hn q => hS _ q (.inr ⟨j, hj, hn, rfl⟩))
      have hh := heldB g xs.length cap _ _ _ lb (KxO xs) w2 hlen (fun j hj => kxO_more xs j hj) hK hL hM2
      rw [hz, hN] at hh
      exact hh
end LedR
end Go.Proofs.Ytppdilomefoaaaa
namespace Go.Proofs.Ytppdilomefoaaaa
open Go.ChangeShapes Go.WideShapes Go.ChangeAt Go.RowKit
set_option linter.unusedVariables false
namespace LedR
open OwG LinR DocR
open RowG (MadeG Rws cellsAll hid_intro)
open EvtR (Pt After SAfter rT pT rN pN rC pC rC_le rT_size)
open CatR (Blk Blk.new)
set_option maxHeartbeats 4000000 in
theorem ilbig (s : ByteArray) (w : World) (h : 8000 < s.size) (hm : s.size ≤ 1048576) :
    Calls Try.prog 6 #[.string s] w fun e w' => e = .returned (.agg #[.slice none 0 0, .string ⟨#[]⟩, .int .i64 0, .int .i64 0, .slice none 0 0, .int .i64 2]) ∧ Below w.heap.size w w' := by
  have h8 : (8000 : Int) < (s.size : Int) := by omega
  go_enter Try.func6, Try.ntmps6
  go_wp2_with fail
  refine bodyPost_ret (v := .agg #[.slice none 0 0, .string ⟨#[]⟩, .int .i64 0, .int .i64 0, .slice none 0 0, .int .i64 2]) (by simp [results, Try.results6, go_sem]) rfl ⟨rfl, ?_⟩
  repeat' first | exact Below.refl _ _ | apply Below.setCell | apply Below.alloc
  all_goals first | omega | (simp; done) | (simp; omega)
set_option maxHeartbeats 4000000 in
theorem slbig (s : ByteArray) (w : World) (h : 8000 < s.size) (hm : s.size ≤ 1048576) :
    Calls Try.prog 5 #[.string s] w fun e w' => e = .returned (.agg #[.slice none 0 0, .string ⟨#[]⟩, .int .i64 0, .int .i64 0, .slice none 0 0, .int .i64 2]) ∧ Below w.heap.size w w' := by
  have h8 : (8000 : Int) < (s.size : Int) := by omega
  go_enter Try.func5, Try.ntmps5
  go_wp2_with fail
  refine bodyPost_ret (v := .agg #[.slice none 0 0, .string ⟨#[]⟩, .int .i64 0, .int .i64 0, .slice none 0 0, .int .i64 2]) (by simp [results, Try.results5, go_sem]) rfl ⟨rfl, ?_⟩
  repeat' first | exact Below.refl _ _ | apply Below.setCell | apply Below.alloc
  all_goals first | omega | (simp; done) | (simp; omega)
theorem smanyL (g : Nat) (s : ByteArray) (o : Option Nat) (M : Nat) (w : World) (hs : s.size ≤ 8000) (h : SAfter g s o w) :
    Calls Try.prog 16 #[.pointer (some ⟨g, 0, none⟩), .int .i64 M] w fun e w' => e = .returned (.int .i64 (rC s o M : Nat)) ∧ SAfter g s (pC s o M) w' ∧ w.grownBy w' (some g) := by
  refine (EvtR.many_any g s o M w hs h).mono ?_
  intro e w' hh
  unfold rC pC
  by_cases q : 0 ≤ rN s o ∧ rN s o ≤ ((M : Nat) : Int)
  · rw [if_pos q] at hh
    rw [if_pos q, if_pos q]
    obtain ⟨⟨rfl, h1⟩, h2⟩ := hh
    exact ⟨by rw [Int.toNat_of_nonneg q.1], h1, h2⟩
  · rw [if_neg q] at hh
    rw [if_neg q, if_neg q]
    obtain ⟨⟨rfl, h1⟩, h2⟩ := hh
    exact ⟨rfl, h1, h2⟩
theorem docRd_of (g : Nat) (s : ByteArray) (o : Option Nat) (hs : s.size ≤ 8000) : DocRd g s o (docP s o) (docR s o) := by
  refine ⟨pT s o, pN s (pT s o), dO3 s o, fun i => (lnsR s (dO4 s o) i).2, fun i => (lnsR s (dO4 s o) i).1, fun i => rT s (lnsR s (dO4 s o) i).2, fun i => rN s (pT s (lnsR s (dO4 s o) i).2), fun W h => EvtR.srtext g s _ W hs h, fun W h => EvtR.srnum g s _ W hs h, fun W h => EvtR.srnum g s _ W hs h, ?_, ?_, ?_, ?_, rfl, ?_, ?_, ?_⟩
  · intro W h
    rw [docR_len]
    exact smanyL g s _ 6 W hs h
  · intro i
    refine ⟨pT s (lnsR s (dO4 s o) i).2, fun W h => EvtR.srtext g s _ W hs h, ?_⟩
    try dsimp only
    rw [lnsR_snoc]
    exact fun W h => EvtR.srnum g s _ W hs h
  · intro i h
    try dsimp only at h ⊢
    rw [lnsR_snoc, h]
    rfl
  · dsimp only
    rw [docR_len]
    rfl
  · intro i
    try dsimp only
    rw [lnsR_snoc]
  · dsimp only
    rw [docR_len]
    rfl
  · rw [docR_len]
    exact rC_le s _ 6
theorem idoc_of (g : Nat) (s : ByteArray) (o : Option Nat) (w : World) (hs : s.size ≤ 8000) (hA : After g s o w) :
    Calls Try.prog 20 #[.pointer (some ⟨g, 0, none⟩)] w fun e w' => ∃ la lc, e = .returned (.agg #[.string (docR s o).a, .int .i64 (docR s o).mo, .int .i64 (docR s o).sq, .slice la (docR s o).ls.length lc]) ∧ w'.ownsRow w.heap.size 45 2 (.slice la (docR s o).ls.length lc) (docR s o).ls.length (cellsAll N.cells (docR s o).ls) ∧ After g s (docP s o) w' ∧ w.grownBy w' (some g) := by
  rw [docR_len]
  exact idoc_in g s o (pT s o) (pN s (pT s o)) (dO3 s o) _ _ _ (dC s o) (fun i => (lnsR s (dO4 s o) i).2) (fun i => (lnsR s (dO4 s o) i).1) (fun i => rT s (lnsR s (dO4 s o) i).2) (fun i => rN s (pT s (lnsR s (dO4 s o) i).2)) w hA (fun w h => EvtR.rword g s _ w hs h) (fun w h => EvtR.rnum g s _ w hs h) (fun w h => EvtR.rnum g s _ w hs h) (fun w h => EvtR.rcount g s _ 6 w hs h)
    (fun i => ⟨pT s (lnsR s (dO4 s o) i).2, fun w h => EvtR.rword g s _ w hs h, by
      try dsimp only
      rw [lnsR_snoc]
      exact fun w h => EvtR.rnum g s _ w hs h⟩)
    (rC_le s _ 6) rfl (fun i => by (try dsimp only); rw [lnsR_snoc])
/-- For every text there is one answer. -/
theorem lread_both (s : ByteArray) (hm : s.size ≤ 1048576) : ∃ (ds : List D) (cd : Int), ds.length ≤ 30 ∧ (∀ d ∈ ds, d.Sm ∧ d.ls.length ≤ 6) ∧
    (∀ w, Calls Try.prog 6 #[.string s] w fun e w' => ∃ v, e = .returned v ∧ LoO w.heap.size v ds D.zero cd w' ∧ Below w.heap.size w w') ∧
    (∀ w, Calls Try.prog 5 #[.string s] w fun e w' => ∃ v, e = .returned v ∧ LoO w.heap.size v ds D.zero cd w' ∧ Below w.heap.size w w') := by
  by_cases h8 : 8000 < s.size
  · refine ⟨[], 2, by simp, (fun d h => absurd h (by simp)), fun w => (ilbig s w h8 hm).mono ?_, fun w => (slbig s w h8 hm).mono ?_⟩
    · rintro e w' ⟨rfl, hb⟩
      exact ⟨_, rfl, loO_of (dso_nil _ _), hb⟩
    · rintro e w' ⟨rfl, hb⟩
      exact ⟨_, rfl, loO_of (dso_nil _ _), hb⟩
  have hs : s.size ≤ 8000 := by omega
  have eL : (docsR s (oD0 s) (nD s)).1 = dsR s := rfl
  have hlen := dsR_le s
  have hsm : ∀ d ∈ dsR s, d.Sm := docsR_all s (docR_sm s) _ _
  have h6 : ∀ d ∈ dsR s, d.ls.length ≤ 6 := docsR_all (P := fun d => d.ls.length ≤ 6) s (fun o => by rw [docR_len]; exact rC_le s _ 6) _ _
  have hwf : ∀ d ∈ dsR s, (Lit.int .i64 d.mo).wf = true := docsR_all (P := fun d => (Lit.int .i64 d.mo).wf = true) s (docR_wf s) _ _
  have hi := fun w => ilr_in s (nD s) (fun k => (docsR s (oD0 s) k).2) (fun k => (docsR s (oD0 s) k).1) (fun k => docR s (docsR s (oD0 s) k).2) (decide (oDE s = some s.size)) (lB (dsR s)) w hs (rC_le s _ 30) (fun g w h => EvtR.rcount g s _ 30 w hs h)
    (fun k g w h => by
      try dsimp only
      rw [docsR_snoc]
      exact idoc_of g s _ w hs h)
    (fun g W q => EvtR.ended_any g s _ W hs q) (fun ao cap W q => by
      have h := impl_ledger ao cap (dsR s) W (by omega) hsm hwf q
      rw [dsR_len] at h
      exact h)
    rfl (fun k => by (try dsimp only); rw [docsR_snoc]) (fun k => docsR_len s k _)
  have hS := fun w => slr_in s (nD s) (fun k => (docsR s (oD0 s) k).2) (fun k => (docsR s (oD0 s) k).1) (fun k => docR s (docsR s (oD0 s) k).2) (lbB (dsR s)) w hs (rC_le s _ 30) (fun g W h => smanyL g s _ 30 W hs h)
    (fun k g => by
      try dsimp only
      rw [docsR_snoc]
      exact docRd_of g s _ hs)
    (fun k h => by
      try dsimp only at h ⊢
      rw [docsR_snoc, h]
      exact docP_none s)
    (fun ao cap W q => by
      have h := spec_lb ao cap (dsR s) W (by omega) hsm q
      rw [dsR_len] at h
      exact h)
    rfl (fun k => by (try dsimp only); rw [docsR_snoc]) (fun k => docsR_len s k _)
  have key := led_same s hs
  by_cases hr : oDE s = some s.size ∧ lB (dsR s) = true
  · refine ⟨dsR s, 0, hlen, fun d hd => ⟨hsm d hd, h6 d hd⟩, fun w => (hi w).mono ?_, fun w => (hS w).mono ?_⟩
    · rintro e w' ⟨⟨q, _⟩ | ⟨_, ao, cap, rfl, hd⟩, hb⟩
      · rw [hr.2, decide_eq_true hr.1] at q
        cases q
      · exact ⟨_, rfl, loO_of hd, hb⟩
    · rintro e w' ⟨⟨q, _⟩ | ⟨_, ao, cap, rfl, hd⟩, hb⟩
      · exact absurd (key.2 hr) q
      · exact ⟨_, rfl, loO_of hd, hb⟩
  · refine ⟨[], 3, by simp, (fun d h => absurd h (by simp)), fun w => (hi w).mono ?_, fun w => (hS w).mono ?_⟩
    · rintro e w' ⟨⟨_, rfl⟩ | ⟨q, _⟩, hb⟩
      · exact ⟨_, rfl, loO_of (dso_nil _ _), hb⟩
      · rw [Bool.and_eq_true, decide_eq_true_eq] at q
        exact absurd q hr
    · rintro e w' ⟨⟨_, rfl⟩ | ⟨q, _⟩, hb⟩
      · exact ⟨_, rfl, loO_of (dso_nil _ _), hb⟩
      · exact absurd (key.1 q) hr
end LedR
end Go.Proofs.Ytppdilomefoaaaa
namespace Go.Proofs.Ytppdilomefoaaaa
open Go.ChangeShapes Go.WideShapes Go.ChangeAt Go.RowKit
set_option linter.unusedVariables false
namespace LedR
open LinR RowG DocR ChG
open EvtR (Pt cell_put cell_far)
open CatR (Blk Blk.new)
theorem markLnO (base K : Nat) (x : DA) (w : World) (hK0 : 1 ≤ K) (hK : K ≤ 5300001) (hx : x.d.ls.length ≤ 1048576) (h : LnO base x w) :
    Calls Try.prog 49 #[x.v, .int .i64 K] w fun e w' => e = .returned (.int .i64 (K + 2 * x.d.ls.length : Nat)) ∧ (∃ S : Nat → Prop, Chg S w w' ∧ (∀ b, S b → base ≤ b ∧ x.v.ownBlock = some b) ∧
      (∀ (S' : Nat → Prop) w2, Chg S' w' w2 → (∀ b, S' b → ¬ S b) → Calls Try.prog 50 #[x.v, .int .i64 K] w2 fun e w3 => e = .returned (.int .i64 (K + 2 * x.d.ls.length : Nat)) ∧ Below w2.heap.size w2 w3)) := by
  obtain ⟨ao, cap, e, hm⟩ := RowG.own_made (z := N.zero) N.len h
  unfold DA.v at e
  cases e
  unfold DA.v
  by_cases h0 : x.d.ls.length = 0
  · rw [h0]
    refine (marks0K K x.la x.lc w).mono ?_
    rintro e w' ⟨rfl, hb⟩
    exact ⟨rfl, fun _ => False, Chg.of_below hb, fun b q => q.elim, fun S' w2 _ _ => held0K K x.la x.lc w2⟩
  · rcases hm.own with q | ⟨g, e1, e2, e3⟩
    · exact absurd q h0
    rw [e1]
    refine (marksM K hK0 (by omega) g x.d.ls.length x.lc w hx e3).mono ?_
    rintro e w' ⟨rfl, hg, ha, hM⟩
    refine ⟨rfl, fun b => b = g, (Chg.refl _ _).grown hg rfl, ?_, fun S' w2 hc hS => ?_⟩
    · rintro b rfl
      exact ⟨e2, rfl⟩
    · exact heldM K hK0 (by omega) g x.d.ls.length x.lc w2 hx (hM.block hc.size (hc.block g hM.1 (fun q => hS g q rfl)))
set_option maxHeartbeats 4000000 in
theorem markDoc_in (a : ByteArray) (mo sq K K2 : Int) (v : Value) (P : World → World → Prop) (w : World) (hb : ∀ W W', Below W.heap.size W W' → Below w.heap.size w W → Below w.heap.size w W')
    (hL : ∀ W, Below w.heap.size w W → Calls Try.prog 49 #[v, .int .i64 K] W fun e w' => e = .returned (.int .i64 K2) ∧ P W w') (hv : ∃ ao n c, v = .slice ao n c) :
    Calls Try.prog 26 #[.agg #[.string a, .int .i64 mo, .int .i64 sq, v], .int .i64 K] w fun e w' => e = .returned (.int .i64 K2) ∧ ∃ W, Below w.heap.size w W ∧ P W w' := by
  obtain ⟨ao, n, c, rfl⟩ := hv
  have HL := hid_intro hL
  have HB : Hid (Below w.heap.size w (w.alloc (.cells #[.string a, .int .i64 mo, .int .i64 sq, .slice ao n c] 25))) := hid_intro ((Below.refl _ _).alloc (Nat.le_refl _) _)
  have HBd := hid_intro HB.out.drew
  clear hL hb
  go_enter Try.func26, Try.ntmps26
  go_wp2_with fail
  refine (HL.out _ (by first | exact HB.out | exact HBd.out)).mono ?_
  rintro e w1 ⟨rfl, hp⟩
  go_wp2_with fail
  go_ret
  exact ⟨rfl, _, (by first | exact HB.out | exact HBd.out), hp⟩
set_option maxHeartbeats 4000000 in
theorem heldDoc_in (a : ByteArray) (mo sq K : Int) (K2 : Nat) (v : Value) (w : World)
    (hL : ∀ W, Below w.heap.size w W → Calls Try.prog 50 #[v, .int .i64 K] W fun e w' => e = .returned (.int .i64 K2) ∧ Below W.heap.size W w') (hv : ∃ ao n c, v = .slice ao n c) :
    Calls Try.prog 28 #[.agg #[.string a, .int .i64 mo, .int .i64 sq, v], .int .i64 K] w fun e w' => e = .returned (.int .i64 K2) ∧ Below w.heap.size w w' := by
  obtain ⟨ao, n, c, rfl⟩ := hv
  have HL := hid_intro hL
  have HB : Hid (Below w.heap.size w (w.alloc (.cells #[.string a, .int .i64 mo, .int .i64 sq, .slice ao n c] 25))) := hid_intro ((Below.refl _ _).alloc (Nat.le_refl _) _)
  have h0 : ¬ ((K2 : Nat) : Int) < 0 := by omega
  clear hL
  go_enter Try.func28, Try.ntmps28
  go_wp2_with fail
  refine (HL.out _ HB.out).mono ?_
  rintro e w1 ⟨rfl, hp⟩
  have HB2 := hid_intro (HB.out.trans (hp.mono HB.out.size))
  clear hp
  go_wp2_with fail
  go_ret
  exact ⟨rfl, HB2.out⟩
set_option maxHeartbeats 4000000 in
theorem markO_in (vd : Value) (a : ByteArray) (mo sq cd : Int) (vl : Value) (K1 K2 : Int) (P Q : World → World → Prop) (w : World) (hvd : ∃ ao n c, vd = .slice ao n c) (hvl : ∃ ao n c, vl = .slice ao n c)
    (hD : ∀ W, Below w.heap.size w W → Calls Try.prog 25 #[vd, .int .i64 1] W fun e w' => e = .returned (.int .i64 K1) ∧ P W w') (hP : ∀ W W', P W W' → W.heap.size ≤ W'.heap.size ∧ ∀ b cs, w.heap.size ≤ b → Below w.heap.size w W → Blk b cs W → Blk b cs W')
    (hL : ∀ W0 W, Below w.heap.size w W0 → P W0 W → Calls Try.prog 26 #[.agg #[.string a, .int .i64 mo, .int .i64 sq, vl], .int .i64 K1] W fun e w' => e = .returned (.int .i64 K2) ∧ Q W w') :
    Calls Try.prog 8 #[.agg #[vd, .string a, .int .i64 mo, .int .i64 sq, vl, .int .i64 cd], .int .i64 1] w fun e w' => e = .returned (.int .i64 K2) ∧ ∃ W0 W1, Below w.heap.size w W0 ∧ P W0 W1 ∧ Q W1 w' := by
  obtain ⟨ao, n, c, rfl⟩ := hvd
  obtain ⟨bo, m, d, rfl⟩ := hvl
  have HD := hid_intro hD
  have HP := hid_intro hP
  have HL := hid_intro hL
  obtain ⟨W0, hW0⟩ : ∃ W0, W0 = w.alloc (.cells #[.slice ao n c, .string a, .int .i64 mo, .int .i64 sq, .slice bo m d, .int .i64 cd] 27) := ⟨_, rfl⟩
  have HB : Hid (Below w.heap.size w W0) := hid_intro (by rw [hW0]; exact (Below.refl _ _).alloc (Nat.le_refl _) _)
  have HX : Hid (Blk w.heap.size [.slice ao n c, .string a, .int .i64 mo, .int .i64 sq, .slice bo m d, .int .i64 cd] W0) := hid_intro (by rw [hW0]; exact Blk.new w [.slice ao n c, .string a, .int .i64 mo, .int .i64 sq, .slice bo m d, .int .i64 cd] 27)
  have HW := hid_intro hW0
  clear hD hP hL hW0
  go_enter Try.func8, Try.ntmps8
  go_wp2_with fail
  rw [← HW.out]
  clear HW
  refine (HD.out _ HB.out).mono ?_
  rintro e w1 ⟨rfl, hp⟩
  have HPw := hid_intro hp
  obtain ⟨hs, hk⟩ := HP.out _ _ hp
  have HX1 := hid_intro (hk _ _ (Nat.le_refl _) HB.out HX.out)
  have xl := HX1.out.1
  have x1 : w1.cell? ⟨w.heap.size, 1, none⟩ = some (.string a) := HX1.out.2 1 (by simp)
  have x2 : w1.cell? ⟨w.heap.size, 2, none⟩ = some (.int .i64 mo) := HX1.out.2 2 (by simp)
  have x3 : w1.cell? ⟨w.heap.size, 3, none⟩ = some (.int .i64 sq) := HX1.out.2 3 (by simp)
  have x4 : w1.cell? ⟨w.heap.size, 4, none⟩ = some (.slice bo m d) := HX1.out.2 4 (by simp)
  have HLD := hid_intro (HL.out _ _ HB.out hp)
  clear hp hs hk HX HP HL
  go_wp2_with fail
  refine HLD.out.mono ?_
  rintro e w2 ⟨rfl, hq⟩
  have HQ := hid_intro hq
  clear hq x1 x2 x3 x4 xl
  go_wp2_with fail
  go_ret
  exact ⟨rfl, _, _, HB.out, HPw.out, HQ.out⟩
set_option maxHeartbeats 4000000 in
theorem heldO_in (vd : Value) (a : ByteArray) (mo sq cd : Int) (vl : Value) (K1 K2 : Nat) (w : World) (hvd : ∃ ao n c, vd = .slice ao n c) (hvl : ∃ ao n c, vl = .slice ao n c)
    (hD : ∀ W, Below w.heap.size w W → Calls Try.prog 27 #[vd, .int .i64 1] W fun e w' => e = .returned (.int .i64 K1) ∧ Below W.heap.size W w')
    (hL : ∀ W, Below w.heap.size w W → Calls Try.prog 28 #[.agg #[.string a, .int .i64 mo, .int .i64 sq, vl], .int .i64 K1] W fun e w' => e = .returned (.int .i64 K2) ∧ Below W.heap.size W w') :
    Calls Try.prog 9 #[.agg #[vd, .string a, .int .i64 mo, .int .i64 sq, vl, .int .i64 cd], .int .i64 1] w fun e w' => e = .returned (.int .i64 K2) ∧ Below w.heap.size w w' := by
  obtain ⟨ao, n, c, rfl⟩ := hvd
  obtain ⟨bo, m, d, rfl⟩ := hvl
  have HD := hid_intro hD
  have HL := hid_intro hL
  obtain ⟨W0, hW0⟩ : ∃ W0, W0 = w.alloc (.cells #[.slice ao n c, .string a, .int .i64 mo, .int .i64 sq, .slice bo m d, .int .i64 cd] 27) := ⟨_, rfl⟩
  have HB : Hid (Below w.heap.size w W0) := hid_intro (by rw [hW0]; exact (Below.refl _ _).alloc (Nat.le_refl _) _)
  have HX : Hid (Blk w.heap.size [.slice ao n c, .string a, .int .i64 mo, .int .i64 sq, .slice bo m d, .int .i64 cd] W0) := hid_intro (by rw [hW0]; exact Blk.new w [.slice ao n c, .string a, .int .i64 mo, .int .i64 sq, .slice bo m d, .int .i64 cd] 27)
  have HW := hid_intro hW0
  have h1 : ¬ ((K1 : Nat) : Int) < 0 := by omega
  have h2 : ¬ ((K2 : Nat) : Int) < 0 := by omega
  clear hD hL hW0
  go_enter Try.func9, Try.ntmps9
  go_wp2_with fail
  rw [← HW.out]
  clear HW
  refine (HD.out _ HB.out).mono ?_
  rintro e w1 ⟨rfl, hb⟩
  have HB1 := hid_intro (HB.out.trans (hb.mono HB.out.size))
  have HX1 := hid_intro (HX.out.below hb)
  have xl := HX1.out.1
  have x1 : w1.cell? ⟨w.heap.size, 1, none⟩ = some (.string a) := HX1.out.2 1 (by simp)
  have x2 : w1.cell? ⟨w.heap.size, 2, none⟩ = some (.int .i64 mo) := HX1.out.2 2 (by simp)
  have x3 : w1.cell? ⟨w.heap.size, 3, none⟩ = some (.int .i64 sq) := HX1.out.2 3 (by simp)
  have x4 : w1.cell? ⟨w.heap.size, 4, none⟩ = some (.slice bo m d) := HX1.out.2 4 (by simp)
  clear hb HX HB
  go_wp2_with fail
  refine (HL.out _ HB1.out).mono ?_
  rintro e w2 ⟨rfl, hb⟩
  have HB2 := hid_intro (HB1.out.trans (hb.mono HB1.out.size))
  clear hb x1 x2 x3 x4 xl
  go_wp2_with fail
  go_ret
  exact ⟨rfl, HB2.out⟩
/-- The whole answer marked, and its marks read later on. -/
theorem markO (base : Nat) (v : Value) (ds : List D) (x : D) (cd : Int) (w : World) (hlen : ds.length ≤ 1048576) (hln : ∀ d ∈ ds, d.ls.length ≤ 1048576) (hx : x.ls.length ≤ 1048576) (ht : tot ds ≤ 5300000) (Wt : World) (h : LoO base v ds x cd Wt) (hWt : Below Wt.heap.size Wt w) :
    Calls Try.prog 8 #[v, .int .i64 1] w fun e w' => ∃ KK : Nat, e = .returned (.int .i64 KK) ∧ Ot base Wt.heap.size w w' ∧
      ∀ w2, Below w'.heap.size w' w2 → Calls Try.prog 9 #[v, .int .i64 1] w2 fun e w3 => e = .returned (.int .i64 KK) ∧ Below w2.heap.size w2 w3 := by
  obtain ⟨vd, xs, la, lc, rfl, h1, h2, h3, h4, h5, h6⟩ := h
  have hl : ds.length = xs.length := by rw [← h1]; simp
  rw [hl] at h2 hlen
  have hlx : ∀ y ∈ xs, y.d.ls.length ≤ 1048576 := fun y hy => hln _ (by rw [← h1]; exact List.mem_map_of_mem hy)
  rw [← h1] at ht
  have hlt : ∀ b, (vd.ownBlock = some b ∨ ∃ y ∈ xs, y.v.ownBlock = some b) → b < Wt.heap.size := by
    rintro b (q | ⟨y, hy, q⟩)
    · exact (h2.lt b q).2
    · exact ((h3 y hy).lt b q).2
  have hlx2 : ∀ b, (DA.mk x la lc).v.ownBlock = some b → b < Wt.heap.size := fun b q => (h5.lt b q).2
  have hts := hWt.size
  replace h2 := RowG.own_below h2 hWt
  replace h3 := fun y hy => (RowG.own_below (h3 y hy) hWt : LnO base y w)
  replace h5 : LnO base ⟨x, la, lc⟩ w := RowG.own_below h5 hWt
  have hvd : ∃ ao n c, vd = .slice ao n c := by
    obtain ⟨ao, cap, e, _⟩ := RowG.own_made (z := DA.zero) DA.len h2
    exact ⟨ao, _, cap, e⟩
  obtain ⟨T, hT⟩ : ∃ T, T = 1 + tot (xs.map DA.d) := ⟨_, rfl⟩
  have hD := fun W (hW : Below w.heap.size w W) => markDsO base vd xs W hlen hlx ht (RowG.own_below h2 hW) (fun y hy => RowG.own_below (h3 y hy) hW) h4
  rw [← hT] at hD
  have hT2 : 1 ≤ T ∧ T ≤ 5300001 := by omega
  clear ht
  let P : World → World → Prop := fun W W' => ∃ S : Nat → Prop, Chg S W W' ∧ (∀ b, S b → base ≤ b ∧ (vd.ownBlock = some b ∨ ∃ y ∈ xs, y.v.ownBlock = some b)) ∧
      (∀ (S' : Nat → Prop) w2, Chg S' W' w2 → (∀ b, S' b → ¬ S b) → Calls Try.prog 27 #[vd, .int .i64 1] w2 fun e w3 => e = .returned (.int .i64 (T : Nat)) ∧ Below w2.heap.size w2 w3)
  let X : DA := ⟨x, la, lc⟩
  let Q : World → World → Prop := fun W W' => ∃ S : Nat → Prop, Chg S W W' ∧ (∀ b, S b → base ≤ b ∧ X.v.ownBlock = some b) ∧
      (∀ (S' : Nat → Prop) w2, Chg S' W' w2 → (∀ b, S' b → ¬ S b) → Calls Try.prog 50 #[X.v, .int .i64 T] w2 fun e w3 => e = .returned (.int .i64 (T + 2 * X.d.ls.length : Nat)) ∧ Below w2.heap.size w2 w3)
  have hxa : ∀ b, (vd.ownBlock = some b ∨ ∃ y ∈ xs, y.v.ownBlock = some b) → X.v.ownBlock ≠ some b := by
    rintro b (q | ⟨y, hy, q⟩) q2
    · exact OwG.own_apart h5 h2 (by decide) b q2 q.symm
    · exact h6 y hy b q q2
  have hlk : ∀ W W', P W W' → Below w.heap.size w W → LnO base X W' := by
    rintro W W' ⟨S, hc, hS, _⟩ hW
    have h7 : LnO base X W := RowG.own_below h5 hW
    refine ⟨h7.1, ?_⟩
    rcases h7.2 with hn | ⟨g, cap, cur, e1, e2, hg, rest⟩
    · exact .inl hn
    · exact .inr ⟨g, cap, cur, e1, e2, (hc.block g (Array.getElem?_eq_some_iff.1 hg).1 (fun q => hxa g (hS g q).2 (by rw [e1]; rfl))).trans hg, rest⟩
  have key := markO_in vd x.a x.mo x.sq cd X.v (T : Nat) (T + 2 * X.d.ls.length : Nat) P (fun W w' => ∃ W2, Below W.heap.size W W2 ∧ Q W2 w') w hvd ⟨_, _, _, rfl⟩ hD
    (fun W W' hp => by
      obtain ⟨S, hc, hS, _⟩ := hp
      refine ⟨hc.size, fun b cs hb hW hB => ?_⟩
      have eb := hc.block b hB.1 (fun q => by have := hlt b (hS b q).2; omega)
      exact ⟨Nat.lt_of_lt_of_le hB.1 hc.size, fun i hi => (World.cell?_of_block (a := ⟨b, i, none⟩) eb).trans (hB.2 i hi)⟩)
    (fun W0 W hW0 hp => markDoc_in x.a x.mo x.sq (T : Nat) (T + 2 * X.d.ls.length : Nat) X.v Q W (fun _ _ q q2 => q2.trans (q.mono q2.size)) (fun W2 hW2 => markLnO base T X W2 hT2.1 hT2.2 hx (RowG.own_below (hlk W0 W hp hW0) hW2)) ⟨_, _, _, rfl⟩)
  refine key.mono ?_
  rintro e w' ⟨rfl, W0, W1, hb0, ⟨S, hc, hS, hH⟩, W2, hb2, ⟨S2, hc2, hS2, hH2⟩⟩
  refine ⟨_, rfl, ⟨?_, ?_, ?_, ?_, fun b hb hq => ?_⟩, fun w2 hw2 => ?_⟩
  · rw [hc2.os, hb2.os, hc.os, hb0.os]
  · rw [hc2.tape, hb2.tape, hc.tape, hb0.tape]
  · rw [hc2.output, hb2.output, hc.output, hb0.output]
  · have := hc2.size
    have := hb2.size
    have := hc.size
    have := hb0.size
    omega
  · have s0 := hb0.size
    have s1 := hc.size
    have s2 := hb2.size
    rw [hc2.block b (by omega) (fun q => by have := (hS2 b q).1; have := hlx2 b (hS2 b q).2; omega), hb2.block b (by omega), hc.block b (by omega) (fun q => by have := (hS b q).1; have := hlt b (hS b q).2; omega), hb0.block b hb]
  · refine heldO_in vd x.a x.mo x.sq cd X.v T (T + 2 * X.d.ls.length) w2 hvd ⟨_, _, _, rfl⟩ (fun W hW => ?_) (fun W hW => ?_)
    · have c1 : Chg S2 W1 W2 := Chg.of_below hb2
      have c2 : Chg S2 W1 w' := c1.trans hc2
      have c3 : Chg S2 W1 w2 := c2.below hw2
      exact hH S2 W (c3.below hW) (fun b q q2 => hxa b (hS b q2).2 (hS2 b q).2)
    · refine heldDoc_in x.a x.mo x.sq (T : Nat) (T + 2 * X.d.ls.length) X.v W (fun W3 hW3 => ?_) ⟨_, _, _, rfl⟩
      exact hH2 (fun _ => False) W3 (((Chg.of_below hw2).below hW).below hW3) (fun b q => q.elim)
end LedR
end Go.Proofs.Ytppdilomefoaaaa
