/-
  The program's WindowRead. The conditions: the text has at most 8000 bytes; the program's table stands in its variable.
  What is shown once is used on every way to it. No condition.
  The model's WindowRead. The conditions: what the readers ask for.
  What WindowJoin and WindowAdd hand back: held against each other, marked, looked at. The condition: lists of at most 1048576.
  A window read: for every text there is one answer that both sides hand back. The condition: the text has at most 1048576 bytes.
  From the row's premise on the program's table to the walk's: its variable holds the months' days; and a world that meets the premise. No condition.
-/
import Derived.Test.YtnlmpejgiakepaaDoorTie
import Derived.ChangeSame
import Derived.ChangeVars
import Derived.JoinedOf
import Derived.ProofKit
import Derived.LaidLaws
import Derived.LaidMore
import Derived.LaidHandle
import Derived.MakeChecks
import Derived.Lib.LaidTab
import Derived.Stop.Joined
import Derived.Test.YtnlmpejgiakepaaDoorR4
namespace Go.Proofs.YtnlmpejgiakepaaDoor
open Go.ChangeShapes Go.WideShapes Go.ChangeAt Go.RowKit
set_option linter.unusedVariables false
namespace WinR
open RowG (MadeG Rws cellsAll)
open EvtR (Pt After Reads gtrans rT pT rN pN rC pC rC_le)
open CatR (Blk Blk.new)
open DateR (Laid)
theorem tgsR_snoc (s : ByteArray) : ∀ (k : Nat) (o : Option Nat), tgsR s o (k + 1) = ((tgsR s o k).1 ++ [rT s (tgsR s o k).2], pT s (tgsR s o k).2)
  | 0, _ => rfl
  | k + 1, o => by
    have h := tgsR_snoc s k (pT s o)
    show (rT s o :: (tgsR s (pT s o) (k + 1)).1, (tgsR s (pT s o) (k + 1)).2) = _
    rw [h]
    rfl
theorem hrsR_snoc (s : ByteArray) : ∀ (k : Nat) (o : Option Nat), hrsR s o (k + 1) = ((hrsR s o k).1 ++ [⟨rN s (hrsR s o k).2, rN s (pN s (hrsR s o k).2)⟩], pN s (pN s (hrsR s o k).2))
  | 0, _ => rfl
  | k + 1, o => by
    have h := hrsR_snoc s k (pN s (pN s o))
    show ((⟨rN s o, rN s (pN s o)⟩ : H) :: (hrsR s (pN s (pN s o)) (k + 1)).1, (hrsR s (pN s (pN s o)) (k + 1)).2) = _
    rw [h]
    rfl
/-- What is read as a window. -/
theorem rwin (s : ByteArray) (hs : s.size ≤ 8000) (g : Nat) (w : World) (hA : After g s (some 0) w) :
    Calls Tryd.prog 38 #[.pointer (some ⟨g, 0, none⟩)] w fun e w' => ∃ ta tc ha hc, e = .returned (.agg #[.string (winR s).a, .string (winR s).m, .int .i64 (winR s).mo, .int .i64 (winR s).ev, .int .i64 (winR s).su, .int .i64 (winR s).mx, .slice ta (nC1 s) tc, .slice ha (nC2 s) hc]) ∧ w'.ownsRow w.heap.size 9 1 (.slice ta (nC1 s) tc) (nC1 s) (cellsAll tcells (winR s).ts) ∧ w'.ownsRow w.heap.size 65 2 (.slice ha (nC2 s) hc) (nC2 s) (cellsAll H.cells (winR s).hs) ∧ After g s (oE s) w' ∧ w.grownBy w' (some g) :=
  iread_in g s (oW s 0) (oW s 1) (oW s 2) (oW s 3) (oW s 4) (oW s 5) (oW s 6) _ _ _ _ _ _ (nC1 s) (nC2 s) (fun k => (tgsR s (oC1 s) k).2) (fun k => (hrsR s (oC2 s) k).2) (fun k => (tgsR s (oC1 s) k).1) (fun k => (hrsR s (oC2 s) k).1) (fun k => rT s (tgsR s (oC1 s) k).2) (fun k => rN s (hrsR s (oC2 s) k).2) (fun k => rN s (pN s (hrsR s (oC2 s) k).2)) w hA
    (fun w h => EvtR.rword g s _ w hs h) (fun w h => EvtR.rword g s _ w hs h) (fun w h => EvtR.rnum g s _ w hs h) (fun w h => EvtR.rnum g s _ w hs h) (fun w h => EvtR.rnum g s _ w hs h) (fun w h => EvtR.rnum g s _ w hs h)
    (fun w h => EvtR.rcount g s _ 12 w hs h) (fun k w h => by
      have e := tgsR_snoc s k (oC1 s)
      rw [e]
      exact EvtR.rword g s _ w hs h)
    (fun w h => EvtR.rcount g s _ 12 w hs h) (fun k => ⟨pN s (hrsR s (oC2 s) k).2, fun w h => EvtR.rnum g s _ w hs h, fun w h => by
      have e := hrsR_snoc s k (oC2 s)
      rw [e]
      exact EvtR.rnum g s _ w hs h⟩)
    (rC_le s _ 12) (rC_le s _ 12) rfl (fun k => by rw [tgsR_snoc]) rfl (fun k => by rw [hrsR_snoc])
theorem own_tg {w : World} {base n : Nat} {ao : Option Addr} {c : Nat} {ts : List ByteArray} (h : w.ownsRow base 9 1 (.slice ao n c) n (cellsAll tcells ts)) (hn : n = ts.length) : Tgs ao ts w := by
  subst hn
  obtain ⟨ao', cap, e, hm⟩ := RowG.own_made (z := tz) t_len h
  cases e
  exact hm.rws
theorem own_hr {w : World} {base n : Nat} {ao : Option Addr} {c : Nat} {hs : List H} (h : w.ownsRow base 65 2 (.slice ao n c) n (cellsAll H.cells hs)) (hn : n = hs.length) : Hrs ao hs w := by
  subst hn
  obtain ⟨ao', cap, e, hm⟩ := RowG.own_made (z := H.zero) H.len h
  cases e
  exact hm.rws
set_option maxRecDepth 100000 in
set_option maxHeartbeats 8000000 in
theorem iwr_in (s : ByteArray) (a m : ByteArray) (mo ev su mx : Int) (C D : Nat) (ts : List ByteArray) (hs : List H) (en r : Bool) (A1 : Nat → World → Prop) (w : World) (hL : Laid w) (hs8 : s.size ≤ 8000) (eT : C = ts.length) (eH : D = hs.length)
    (hA1 : ∀ g W W', A1 g W → W.grownBy W' none → A1 g W')
    (hrd : ∀ g W, After g s (some 0) W → Calls Tryd.prog 38 #[.pointer (some ⟨g, 0, none⟩)] W fun e w' => ∃ ta tc ha hc, e = .returned (.agg #[.string a, .string m, .int .i64 mo, .int .i64 ev, .int .i64 su, .int .i64 mx, .slice ta C tc, .slice ha D hc]) ∧ w'.ownsRow W.heap.size 9 1 (.slice ta C tc) C (cellsAll tcells ts) ∧ w'.ownsRow W.heap.size 65 2 (.slice ha D hc) D (cellsAll H.cells hs) ∧ A1 g w' ∧ W.grownBy w' (some g))
    (hen : ∀ g W, A1 g W → Calls Tryd.prog 39 #[.pointer (some ⟨g, 0, none⟩)] W fun e w' => e = .returned (.bool en) ∧ Below W.heap.size W w')
    (hwr : ∀ ta tc ha hc W, Laid W → Tgs ta ts W → Hrs ha hs W → Calls Tryd.prog 40 #[.agg #[.string a, .string m, .int .i64 mo, .int .i64 ev, .int .i64 su, .int .i64 mx, .slice ta C tc, .slice ha D hc]] W fun e w' => e = .returned (.bool r) ∧ Below W.heap.size W w') :
    Calls Tryd.prog 17 #[.string s] w fun e w' => (((en && r) = false ∧ e = .returned (.agg #[.string ⟨#[]⟩, .string ⟨#[]⟩, .int .i64 0, .int .i64 0, .int .i64 0, .int .i64 0, .slice none 0 0, .slice none 0 0, .int .i64 3])) ∨ ((en && r) = true ∧ ∃ ta tc ha hc, e = .returned (.agg #[.string a, .string m, .int .i64 mo, .int .i64 ev, .int .i64 su, .int .i64 mx, .slice ta C tc, .slice ha D hc, .int .i64 0]) ∧ w'.ownsRow w.heap.size 9 1 (.slice ta C tc) C (cellsAll tcells ts) ∧ w'.ownsRow w.heap.size 65 2 (.slice ha D hc) D (cellsAll H.cells hs))) ∧ Below w.heap.size w w' := by
  have HL := hid_intro hL
  have HA1 := hid_intro hA1
  have HRD := hid_intro hrd
  have HEN := hid_intro hen
  have HWR := hid_intro hwr
  have HET := hid_intro eT
  have HEH := hid_intro eH
  have h8 : ¬ (8000 : Int) < (s.size : Int) := by omega
  clear hL hA1 hrd hen hwr eT eH
  obtain ⟨W0, hW0⟩ : ∃ W0, W0 = (w.alloc (.cells #[.string ⟨#[]⟩, .string ⟨#[]⟩, .int .i64 0, .int .i64 0, .int .i64 0, .int .i64 0, .slice none 0 0, .slice none 0 0, .int .i64 0] 34)).alloc (.cells #[.string s, .int .i64 0, .nilIface] 71) := ⟨_, rfl⟩
  have HB0 : Hid (Below w.heap.size w W0) := hid_intro (by rw [hW0]; exact ((Below.refl _ _).alloc (Nat.le_refl _) _).alloc (by simp) _)
  have HP0 : Hid (Pt w.heap.size 9 W0) := hid_intro (by rw [hW0]; exact (StR.pt_new w [.string ⟨#[]⟩, .string ⟨#[]⟩, .int .i64 0, .int .i64 0, .int .i64 0, .int .i64 0, .slice none 0 0, .slice none 0 0, .int .i64 0] 34).below ((Below.refl _ _).alloc (Nat.le_refl _) _))
  have HAF : Hid (After (w.heap.size + 1) s (some 0) W0) := hid_intro (by rw [hW0]; exact ⟨by omega, by simp, by simp [go_sem], by simp [go_sem], by simp [go_sem], by simp [go_sem], by simp [go_sem], by simp [go_sem]⟩)
  have HS0 : Hid (W0.heap.size = w.heap.size + 2) := hid_intro (by rw [hW0]; simp)
  have HW := hid_intro hW0
  clear hW0
  go_enter Tryd.func17, Tryd.ntmps17
  go_wp2_with fail
  rw [← HW.out]
  clear HW
  refine (HRD.out _ _ HAF.out).mono ?_
  rintro e w1 ⟨ta, tc, ha, hc, rfl, hT1, hH1, hA1, hg1⟩
  have HB1 : Hid (Below w.heap.size w w1) := hid_intro (HB0.out.grown hg1 HB0.out.size (fun k e => by simp only [Option.some.injEq] at e; omega))
  have HP1 : Hid (Pt w.heap.size 9 w1) := hid_intro (StR.pt_far HP0.out hg1 (by omega))
  obtain ⟨w2, hw2⟩ : ∃ z, z = w1.alloc (.cells #[.string a, .string m, .int .i64 mo, .int .i64 ev, .int .i64 su, .int .i64 mx, .slice ta C tc, .slice ha D hc] 32) := ⟨_, rfl⟩
  have al : Below w1.heap.size w1 w2 := by rw [hw2]; exact (Below.refl _ _).alloc (Nat.le_refl _) _
  have HV2 : Hid (Blk w1.heap.size [.string a, .string m, .int .i64 mo, .int .i64 ev, .int .i64 su, .int .i64 mx, .slice ta C tc, .slice ha D hc] w2) := hid_intro (by rw [hw2]; exact Blk.new w1 [.string a, .string m, .int .i64 mo, .int .i64 ev, .int .i64 su, .int .i64 mx, .slice ta C tc, .slice ha D hc] 32)
  have HB2 := hid_intro (HB1.out.trans (al.mono HB1.out.size))
  have HP2 := hid_intro (HP1.out.below al)
  have HT2 := hid_intro (RowG.own_below hT1 al)
  have HH2 := hid_intro (RowG.own_below hH1 al)
  have HA2 : Hid (A1 (w.heap.size + 1) w2) := hid_intro (HA1.out _ _ _ hA1 (EvtR.rgrown al none))
  have HLO : Hid (w.heap.size < W0.heap.size) := hid_intro (by have := HS0.out; omega)
  have HW2 := hid_intro hw2
  obtain ⟨bV, hbV⟩ : ∃ z, z = w1.heap.size := ⟨_, rfl⟩
  rw [← hbV] at HV2
  have HBV := hid_intro hbV
  clear hT1 hH1 hA1 hg1 al hw2 hbV HB0 HP0 HAF HB1 HP1 HRD
  go_wp2_with fail
  rw [← HW2.out, ← HBV.out]
  clear HW2 HBV
  refine (HEN.out _ _ HA2.out).mono ?_
  rintro e w3 ⟨rfl, hb3⟩
  have HB3 := hid_intro (HB2.out.trans (hb3.mono HB2.out.size))
  have HP3 := hid_intro (HP2.out.below hb3)
  have HT3 := hid_intro (RowG.own_below HT2.out hb3)
  have HH3 := hid_intro (RowG.own_below HH2.out hb3)
  have HV3 := hid_intro (HV2.out.below hb3)
  clear hb3 HB2 HP2 HT2 HH2 HA2 HV2 HEN HA1
  cases en
  · have hp9 := HP3.out
    have hl9 := hp9.lt
    obtain ⟨ov0, r0⟩ := hp9.has 0 (by omega)
    have f0 := hp9.free 0 (by omega)
    obtain ⟨ov1, r1⟩ := hp9.has 1 (by omega)
    have f1 := hp9.free 1 (by omega)
    obtain ⟨ov2, r2⟩ := hp9.has 2 (by omega)
    have f2 := hp9.free 2 (by omega)
    obtain ⟨ov3, r3⟩ := hp9.has 3 (by omega)
    have f3 := hp9.free 3 (by omega)
    obtain ⟨ov4, r4⟩ := hp9.has 4 (by omega)
    have f4 := hp9.free 4 (by omega)
    obtain ⟨ov5, r5⟩ := hp9.has 5 (by omega)
    have f5 := hp9.free 5 (by omega)
    obtain ⟨ov6, r6⟩ := hp9.has 6 (by omega)
    have f6 := hp9.free 6 (by omega)
    obtain ⟨ov7, r7⟩ := hp9.has 7 (by omega)
    have f7 := hp9.free 7 (by omega)
    obtain ⟨ov8, r8⟩ := hp9.has 8 (by omega)
    have f8 := hp9.free 8 (by omega)
    have hgf := StR.stL_grown w.heap.size [.string ⟨#[]⟩, .string ⟨#[]⟩, .int .i64 0, .int .i64 0, .int .i64 0, .int .i64 0, .slice none 0 0, .slice none 0 0, .int .i64 3] 0 w3
    have HBF := hid_intro (HB3.out.grown hgf HB3.out.size (fun k e => by simp only [Option.some.injEq] at e; omega))
    simp only [StR.stL, Nat.zero_add, Nat.reduceAdd] at HBF
    clear hgf hp9
    go_wp2_with fail
    refine bodyPost_ret (v := .agg #[.string ⟨#[]⟩, .string ⟨#[]⟩, .int .i64 0, .int .i64 0, .int .i64 0, .int .i64 0, .slice none 0 0, .slice none 0 0, .int .i64 3]) (by simp [results, Tryd.results17, go_sem, r0, r1, r2, r3, r4, r5, r6, r7, r8]) rfl ⟨.inl ⟨rfl, rfl⟩, HBF.out⟩
  have v0 : w3.cell? ⟨bV, 0, none⟩ = some (.string a) := HV3.out.2 0 (by simp)
  have v1 : w3.cell? ⟨bV, 1, none⟩ = some (.string m) := HV3.out.2 1 (by simp)
  have v2 : w3.cell? ⟨bV, 2, none⟩ = some (.int .i64 mo) := HV3.out.2 2 (by simp)
  have v3 : w3.cell? ⟨bV, 3, none⟩ = some (.int .i64 ev) := HV3.out.2 3 (by simp)
  have v4 : w3.cell? ⟨bV, 4, none⟩ = some (.int .i64 su) := HV3.out.2 4 (by simp)
  have v5 : w3.cell? ⟨bV, 5, none⟩ = some (.int .i64 mx) := HV3.out.2 5 (by simp)
  have v6 : w3.cell? ⟨bV, 6, none⟩ = some (.slice ta C tc) := HV3.out.2 6 (by simp)
  have v7 : w3.cell? ⟨bV, 7, none⟩ = some (.slice ha D hc) := HV3.out.2 7 (by simp)
  have vl := HV3.out.1
  go_wp2_with fail
  refine (HWR.out ta tc ha hc _ (HL.out.below HB3.out) (own_tg HT3.out HET.out) (own_hr HH3.out HEH.out)).mono ?_
  rintro e w4 ⟨rfl, hb4⟩
  have HB4 := hid_intro (HB3.out.trans (hb4.mono HB3.out.size))
  have HP4 := hid_intro (HP3.out.below hb4)
  have HT4 := hid_intro (RowG.own_below HT3.out hb4)
  have HH4 := hid_intro (RowG.own_below HH3.out hb4)
  have HV4 := hid_intro (HV3.out.below hb4)
  clear hb4 HB3 HP3 HT3 HH3 HV3 HWR v0 v1 v2 v3 v4 v5 v6 v7 vl
  cases r
  · have hp9 := HP4.out
    have hl9 := hp9.lt
    obtain ⟨ov0, r0⟩ := hp9.has 0 (by omega)
    have f0 := hp9.free 0 (by omega)
    obtain ⟨ov1, r1⟩ := hp9.has 1 (by omega)
    have f1 := hp9.free 1 (by omega)
    obtain ⟨ov2, r2⟩ := hp9.has 2 (by omega)
    have f2 := hp9.free 2 (by omega)
    obtain ⟨ov3, r3⟩ := hp9.has 3 (by omega)
    have f3 := hp9.free 3 (by omega)
    obtain ⟨ov4, r4⟩ := hp9.has 4 (by omega)
    have f4 := hp9.free 4 (by omega)
    obtain ⟨ov5, r5⟩ := hp9.has 5 (by omega)
    have f5 := hp9.free 5 (by omega)
    obtain ⟨ov6, r6⟩ := hp9.has 6 (by omega)
    have f6 := hp9.free 6 (by omega)
    obtain ⟨ov7, r7⟩ := hp9.has 7 (by omega)
    have f7 := hp9.free 7 (by omega)
    obtain ⟨ov8, r8⟩ := hp9.has 8 (by omega)
    have f8 := hp9.free 8 (by omega)
    have hgf := StR.stL_grown w.heap.size [.string ⟨#[]⟩, .string ⟨#[]⟩, .int .i64 0, .int .i64 0, .int .i64 0, .int .i64 0, .slice none 0 0, .slice none 0 0, .int .i64 3] 0 w4
    have HBF := hid_intro (HB4.out.grown hgf HB4.out.size (fun k e => by simp only [Option.some.injEq] at e; omega))
    simp only [StR.stL, Nat.zero_add, Nat.reduceAdd] at HBF
    clear hgf hp9
    go_wp2_with fail
    refine bodyPost_ret (v := .agg #[.string ⟨#[]⟩, .string ⟨#[]⟩, .int .i64 0, .int .i64 0, .int .i64 0, .int .i64 0, .slice none 0 0, .slice none 0 0, .int .i64 3]) (by simp [results, Tryd.results17, go_sem, r0, r1, r2, r3, r4, r5, r6, r7, r8]) rfl ⟨.inl ⟨rfl, rfl⟩, HBF.out⟩
  have v0 : w4.cell? ⟨bV, 0, none⟩ = some (.string a) := HV4.out.2 0 (by simp)
  have v1 : w4.cell? ⟨bV, 1, none⟩ = some (.string m) := HV4.out.2 1 (by simp)
  have v2 : w4.cell? ⟨bV, 2, none⟩ = some (.int .i64 mo) := HV4.out.2 2 (by simp)
  have v3 : w4.cell? ⟨bV, 3, none⟩ = some (.int .i64 ev) := HV4.out.2 3 (by simp)
  have v4 : w4.cell? ⟨bV, 4, none⟩ = some (.int .i64 su) := HV4.out.2 4 (by simp)
  have v5 : w4.cell? ⟨bV, 5, none⟩ = some (.int .i64 mx) := HV4.out.2 5 (by simp)
  have v6 : w4.cell? ⟨bV, 6, none⟩ = some (.slice ta C tc) := HV4.out.2 6 (by simp)
  have v7 : w4.cell? ⟨bV, 7, none⟩ = some (.slice ha D hc) := HV4.out.2 7 (by simp)
  have vl := HV4.out.1
  have hp9 := HP4.out
  have hl9 := hp9.lt
  obtain ⟨ov0, r0⟩ := hp9.has 0 (by omega)
  have f0 := hp9.free 0 (by omega)
  obtain ⟨ov1, r1⟩ := hp9.has 1 (by omega)
  have f1 := hp9.free 1 (by omega)
  obtain ⟨ov2, r2⟩ := hp9.has 2 (by omega)
  have f2 := hp9.free 2 (by omega)
  obtain ⟨ov3, r3⟩ := hp9.has 3 (by omega)
  have f3 := hp9.free 3 (by omega)
  obtain ⟨ov4, r4⟩ := hp9.has 4 (by omega)
  have f4 := hp9.free 4 (by omega)
  obtain ⟨ov5, r5⟩ := hp9.has 5 (by omega)
  have f5 := hp9.free 5 (by omega)
  obtain ⟨ov6, r6⟩ := hp9.has 6 (by omega)
  have f6 := hp9.free 6 (by omega)
  obtain ⟨ov7, r7⟩ := hp9.has 7 (by omega)
  have f7 := hp9.free 7 (by omega)
  obtain ⟨ov8, r8⟩ := hp9.has 8 (by omega)
  have f8 := hp9.free 8 (by omega)
  have hgf := StR.stL_grown w.heap.size [.string a, .string m, .int .i64 mo, .int .i64 ev, .int .i64 su, .int .i64 mx, .slice ta C tc, .slice ha D hc, .int .i64 0] 0 w4
  have HBF := hid_intro (HB4.out.grown hgf HB4.out.size (fun k e => by simp only [Option.some.injEq] at e; omega))
  have HTF := hid_intro (own_keepG HT4.out hgf HLO.out)
  have HHF := hid_intro (own_keepG HH4.out hgf HLO.out)
  simp only [StR.stL, Nat.zero_add, Nat.reduceAdd] at HBF HTF HHF
  clear hgf hp9
  go_wp2_with fail
  refine bodyPost_ret (v := .agg #[.string a, .string m, .int .i64 mo, .int .i64 ev, .int .i64 su, .int .i64 mx, .slice ta C tc, .slice ha D hc, .int .i64 0]) (by simp [results, Tryd.results17, go_sem, r0, r1, r2, r3, r4, r5, r6, r7, r8]) rfl ⟨.inr ⟨rfl, ta, tc, ha, hc, rfl, own_low HTF.out (Nat.le_of_lt HLO.out), own_low HHF.out (Nat.le_of_lt HLO.out)⟩, HBF.out⟩
end WinR
end Go.Proofs.YtnlmpejgiakepaaDoor
namespace Go.Proofs.YtnlmpejgiakepaaDoor
open Go.ChangeShapes Go.WideShapes Go.ChangeAt Go.RowKit
set_option linter.unusedVariables false
namespace MemoR
theorem memo0 {goal : Prop} (F : World → Prop) {G : World → Prop} (h1 : Hid (∀ W, F W → G W) → goal) (h2 : ∀ W, F W → G W) : goal := h1 h2
theorem memo1 {goal : Prop} (F : Nat → World → Prop) {G : Nat → World → Prop} (h1 : Hid (∀ x0 W, F x0 W → G x0 W) → goal) (h2 : ∀ x0 W, F x0 W → G x0 W) : goal := h1 h2
theorem memo2 {goal : Prop} (F : Nat → Nat → World → Prop) {G : Nat → Nat → World → Prop} (h1 : Hid (∀ x0 x1 W, F x0 x1 W → G x0 x1 W) → goal) (h2 : ∀ x0 x1 W, F x0 x1 W → G x0 x1 W) : goal := h1 h2
theorem memo3 {goal : Prop} (F : Nat → Nat → Nat → World → Prop) {G : Nat → Nat → Nat → World → Prop} (h1 : Hid (∀ x0 x1 x2 W, F x0 x1 x2 W → G x0 x1 x2 W) → goal) (h2 : ∀ x0 x1 x2 W, F x0 x1 x2 W → G x0 x1 x2 W) : goal := h1 h2
theorem memo4 {goal : Prop} (F : Nat → Nat → Nat → Nat → World → Prop) {G : Nat → Nat → Nat → Nat → World → Prop} (h1 : Hid (∀ x0 x1 x2 x3 W, F x0 x1 x2 x3 W → G x0 x1 x2 x3 W) → goal) (h2 : ∀ x0 x1 x2 x3 W, F x0 x1 x2 x3 W → G x0 x1 x2 x3 W) : goal := h1 h2
theorem memo5 {goal : Prop} (F : Nat → Nat → Nat → Nat → Nat → World → Prop) {G : Nat → Nat → Nat → Nat → Nat → World → Prop} (h1 : Hid (∀ x0 x1 x2 x3 x4 W, F x0 x1 x2 x3 x4 W → G x0 x1 x2 x3 x4 W) → goal) (h2 : ∀ x0 x1 x2 x3 x4 W, F x0 x1 x2 x3 x4 W → G x0 x1 x2 x3 x4 W) : goal := h1 h2
theorem memo6 {goal : Prop} (F : Nat → Nat → Nat → Nat → Nat → Nat → World → Prop) {G : Nat → Nat → Nat → Nat → Nat → Nat → World → Prop} (h1 : Hid (∀ x0 x1 x2 x3 x4 x5 W, F x0 x1 x2 x3 x4 x5 W → G x0 x1 x2 x3 x4 x5 W) → goal) (h2 : ∀ x0 x1 x2 x3 x4 x5 W, F x0 x1 x2 x3 x4 x5 W → G x0 x1 x2 x3 x4 x5 W) : goal := h1 h2
theorem memo7 {goal : Prop} (F : Nat → Nat → Nat → Nat → Nat → Nat → Nat → World → Prop) {G : Nat → Nat → Nat → Nat → Nat → Nat → Nat → World → Prop} (h1 : Hid (∀ x0 x1 x2 x3 x4 x5 x6 W, F x0 x1 x2 x3 x4 x5 x6 W → G x0 x1 x2 x3 x4 x5 x6 W) → goal) (h2 : ∀ x0 x1 x2 x3 x4 x5 x6 W, F x0 x1 x2 x3 x4 x5 x6 W → G x0 x1 x2 x3 x4 x5 x6 W) : goal := h1 h2
theorem memo8 {goal : Prop} (F : Nat → Nat → Nat → Nat → Nat → Nat → Nat → Nat → World → Prop) {G : Nat → Nat → Nat → Nat → Nat → Nat → Nat → Nat → World → Prop} (h1 : Hid (∀ x0 x1 x2 x3 x4 x5 x6 x7 W, F x0 x1 x2 x3 x4 x5 x6 x7 W → G x0 x1 x2 x3 x4 x5 x6 x7 W) → goal) (h2 : ∀ x0 x1 x2 x3 x4 x5 x6 x7 W, F x0 x1 x2 x3 x4 x5 x6 x7 W → G x0 x1 x2 x3 x4 x5 x6 x7 W) : goal := h1 h2
theorem memo9 {goal : Prop} (F : Nat → Nat → Nat → Nat → Nat → Nat → Nat → Nat → Nat → World → Prop) {G : Nat → Nat → Nat → Nat → Nat → Nat → Nat → Nat → Nat → World → Prop} (h1 : Hid (∀ x0 x1 x2 x3 x4 x5 x6 x7 x8 W, F x0 x1 x2 x3 x4 x5 x6 x7 x8 W → G x0 x1 x2 x3 x4 x5 x6 x7 x8 W) → goal) (h2 : ∀ x0 x1 x2 x3 x4 x5 x6 x7 x8 W, F x0 x1 x2 x3 x4 x5 x6 x7 x8 W → G x0 x1 x2 x3 x4 x5 x6 x7 x8 W) : goal := h1 h2
end MemoR
end Go.Proofs.YtnlmpejgiakepaaDoor
namespace Go.Proofs.YtnlmpejgiakepaaDoor
open Go.ChangeShapes Go.WideShapes Go.ChangeAt Go.RowKit
set_option linter.unusedVariables false
namespace WinR
open MemoR
open RowG (MadeG Rws cellsAll)
open EvtR (Pt SAfter gtrans)
open CatR (Blk Blk.new)
theorem satt {g : Nat} {s : ByteArray} {o : Option Nat} {w w' : World} (h : SAfter g s o w) (hb : Below w.heap.size w w') : SAfter g s o w' := h.grown (EvtR.rgrown hb none) (by simp)
theorem stay {P : Nat → Option Nat} (h : ∀ k, P k = none → P (k + 1) = none) {i : Nat} (hi : P i = none) : ∀ n, P (i + n) = none
  | 0 => hi
  | n + 1 => h _ (stay h hi n)
theorem pt_row {p n : Nat} {W W' : World} {row : Option Nat} (h : Pt p n W) (hg : W.grownBy W' row) (hne : some p ≠ row) : Pt p n W' := by
  have e := hg.block p h.lt hne
  exact ⟨by have := hg.size; have := h.lt; omega, fun o ho => by obtain ⟨v, hv⟩ := h.has o ho; exact ⟨v, (World.cell?_of_block (a := ⟨p, o, none⟩) e).trans hv⟩, fun o ho => (World.frozen?_of_block (a := ⟨p, o, none⟩) e).trans (h.free o ho)⟩
theorem s_nil {s : ByteArray} (h : s.size = 0) : s = ⟨#[]⟩ := by
  apply ByteArray.ext
  exact Array.eq_empty_of_size_eq_zero h
theorem sill3 (w : World) : Calls Tryd.prog 22 #[.int .i64 3] w fun e w' => e = .returned (.agg #[.string ⟨#[]⟩, .string ⟨#[]⟩, .int .i64 0, .int .i64 0, .int .i64 0, .int .i64 0, .slice none 0 0, .slice none 0 0, .int .i64 3]) ∧ Below w.heap.size w w' := by
  go_enter Tryd.func22, Tryd.ntmps22
  go_wp2
  refine bodyPost_ret (v := .agg #[.string ⟨#[]⟩, .string ⟨#[]⟩, .int .i64 0, .int .i64 0, .int .i64 0, .int .i64 0, .slice none 0 0, .slice none 0 0, .int .i64 3]) (by simp [results, Tryd.results22, go_sem]) rfl ⟨rfl, ?_⟩
  repeat' first | exact Below.refl _ _ | apply Below.setCell | apply Below.alloc
  all_goals first | omega | (simp; done) | (simp; omega)
set_option maxRecDepth 100000 in
set_option maxHeartbeats 16000000 in
theorem swr_in (s : ByteArray) (o1 o2 o3 o4 o5 o6 : Option Nat) (a m : ByteArray) (mo ev su mx : Int) (C D : Nat) (PT PH : Nat → Option Nat) (LT : Nat → List ByteArray) (LH : Nat → List H) (tg : Nat → ByteArray) (hh ss : Nat → Int) (T : ByteArray) (w : World) (hs8 : s.size ≤ 8000)
    (r1 : ∀ W, SAfter (w.heap.size + 1) s (some 0) W → Calls Tryd.prog 34 #[.pointer (some ⟨w.heap.size + 1, 0, none⟩)] W fun e w' => e = .returned (.string a) ∧ SAfter (w.heap.size + 1) s o1 w' ∧ W.grownBy w' (some (w.heap.size + 1)))
    (r2 : ∀ W, SAfter (w.heap.size + 1) s o1 W → Calls Tryd.prog 34 #[.pointer (some ⟨w.heap.size + 1, 0, none⟩)] W fun e w' => e = .returned (.string m) ∧ SAfter (w.heap.size + 1) s o2 w' ∧ W.grownBy w' (some (w.heap.size + 1)))
    (r3 : ∀ W, SAfter (w.heap.size + 1) s o2 W → Calls Tryd.prog 35 #[.pointer (some ⟨w.heap.size + 1, 0, none⟩)] W fun e w' => e = .returned (.int .i64 mo) ∧ SAfter (w.heap.size + 1) s o3 w' ∧ W.grownBy w' (some (w.heap.size + 1)))
    (r4 : ∀ W, SAfter (w.heap.size + 1) s o3 W → Calls Tryd.prog 35 #[.pointer (some ⟨w.heap.size + 1, 0, none⟩)] W fun e w' => e = .returned (.int .i64 ev) ∧ SAfter (w.heap.size + 1) s o4 w' ∧ W.grownBy w' (some (w.heap.size + 1)))
    (r5 : ∀ W, SAfter (w.heap.size + 1) s o4 W → Calls Tryd.prog 35 #[.pointer (some ⟨w.heap.size + 1, 0, none⟩)] W fun e w' => e = .returned (.int .i64 su) ∧ SAfter (w.heap.size + 1) s o5 w' ∧ W.grownBy w' (some (w.heap.size + 1)))
    (r6 : ∀ W, SAfter (w.heap.size + 1) s o5 W → Calls Tryd.prog 35 #[.pointer (some ⟨w.heap.size + 1, 0, none⟩)] W fun e w' => e = .returned (.int .i64 mx) ∧ SAfter (w.heap.size + 1) s o6 w' ∧ W.grownBy w' (some (w.heap.size + 1)))
    (rc1 : ∀ W, SAfter (w.heap.size + 1) s o6 W → Calls Tryd.prog 36 #[.pointer (some ⟨w.heap.size + 1, 0, none⟩), .int .i64 12] W fun e w' => e = .returned (.int .i64 (C : Nat)) ∧ SAfter (w.heap.size + 1) s (PT 0) w' ∧ W.grownBy w' (some (w.heap.size + 1)))
    (rt : ∀ k, ∀ W, SAfter (w.heap.size + 1) s (PT k) W → Calls Tryd.prog 34 #[.pointer (some ⟨w.heap.size + 1, 0, none⟩)] W fun e w' => e = .returned (.string (tg k)) ∧ SAfter (w.heap.size + 1) s (PT (k + 1)) w' ∧ W.grownBy w' (some (w.heap.size + 1)))
    (rc2 : ∀ W, SAfter (w.heap.size + 1) s (PT C) W → Calls Tryd.prog 36 #[.pointer (some ⟨w.heap.size + 1, 0, none⟩), .int .i64 12] W fun e w' => e = .returned (.int .i64 (D : Nat)) ∧ SAfter (w.heap.size + 1) s (PH 0) w' ∧ W.grownBy w' (some (w.heap.size + 1)))
    (rh : ∀ k, ∃ om, (∀ W, SAfter (w.heap.size + 1) s (PH k) W → Calls Tryd.prog 35 #[.pointer (some ⟨w.heap.size + 1, 0, none⟩)] W fun e w' => e = .returned (.int .i64 (hh k)) ∧ SAfter (w.heap.size + 1) s om w' ∧ W.grownBy w' (some (w.heap.size + 1))) ∧ (∀ W, SAfter (w.heap.size + 1) s om W → Calls Tryd.prog 35 #[.pointer (some ⟨w.heap.size + 1, 0, none⟩)] W fun e w' => e = .returned (.int .i64 (ss k)) ∧ SAfter (w.heap.size + 1) s (PH (k + 1)) w' ∧ W.grownBy w' (some (w.heap.size + 1))))
    (hNT : ∀ k, PT k = none → PT (k + 1) = none) (hNH : ∀ k, PH k = none → PH (k + 1) = none) (hNP : PT C = none → PH 0 = none)
    (hC : C ≤ 12) (hD : D ≤ 12) (hT0 : LT 0 = []) (hTM : ∀ k, LT (k + 1) = LT k ++ [tg k]) (hH0 : LH 0 = []) (hHM : ∀ k, LH (k + 1) = LH k ++ [⟨hh k, ss k⟩])
    (hTL : C = (LT C).length) (hHL : D = (LH D).length)
    (hwb : ∀ ta tc ha hc W, Tgs ta (LT C) W → Hrs ha (LH D) W → Calls Tryd.prog 37 #[.agg #[.string a, .string m, .int .i64 mo, .int .i64 ev, .int .i64 su, .int .i64 mx, .slice ta C tc, .slice ha D hc]] W fun e w' => e = .returned (.string T) ∧ Below W.heap.size W w') :
    Calls Tryd.prog 16 #[.string s] w fun e w' => ((¬ (PH D ≠ none ∧ s.size ≠ 0 ∧ T = s) ∧ e = .returned (.agg #[.string ⟨#[]⟩, .string ⟨#[]⟩, .int .i64 0, .int .i64 0, .int .i64 0, .int .i64 0, .slice none 0 0, .slice none 0 0, .int .i64 3])) ∨ ((PH D ≠ none ∧ s.size ≠ 0 ∧ T = s) ∧ ∃ ta tc ha hc, e = .returned (.agg #[.string a, .string m, .int .i64 mo, .int .i64 ev, .int .i64 su, .int .i64 mx, .slice ta C tc, .slice ha D hc, .int .i64 0]) ∧ w'.ownsRow w.heap.size 9 1 (.slice ta C tc) C (cellsAll tcells (LT C)) ∧ w'.ownsRow w.heap.size 65 2 (.slice ha D hc) D (cellsAll H.cells (LH D)))) ∧ Below w.heap.size w w' := by
  obtain ⟨i0, hi, hz0, hz1, hz2⟩ := info_parts infoT
  obtain ⟨j0, gi, gz0, gz1, gz2⟩ := info_parts infoH
  have R1 := hid_intro r1
  have R2 := hid_intro r2
  have R3 := hid_intro r3
  have R4 := hid_intro r4
  have R5 := hid_intro r5
  have R6 := hid_intro r6
  have RC1 := hid_intro rc1
  have RT := hid_intro rt
  have RC2 := hid_intro rc2
  have RH := hid_intro rh
  have HNT := hid_intro hNT
  have HNH := hid_intro hNH
  have HNP := hid_intro hNP
  have HT0 := hid_intro hT0
  have HTM := hid_intro hTM
  have HH0 := hid_intro hH0
  have HHM := hid_intro hHM
  have HTL := hid_intro hTL
  have HHL := hid_intro hHL
  have HWB := hid_intro hwb
  have HIL := hid_intro sill3
  have h8 : ¬ (8000 : Int) < (s.size : Int) := by omega
  obtain ⟨W0, hW0⟩ : ∃ W0, W0 = (w.alloc (.cells #[.string ⟨#[]⟩, .string ⟨#[]⟩, .int .i64 0, .int .i64 0, .int .i64 0, .int .i64 0, .slice none 0 0, .slice none 0 0, .int .i64 0] 34)).alloc (.cells #[.string s, .int .i64 0, .bool false] 60) := ⟨_, rfl⟩
  have HB : Hid (Below w.heap.size w W0) := hid_intro (by rw [hW0]; exact ((Below.refl _ _).alloc (Nat.le_refl _) _).alloc (by simp) _)
  have HP : Hid (Pt w.heap.size 9 W0) := hid_intro (by rw [hW0]; exact (StR.pt_new w [.string ⟨#[]⟩, .string ⟨#[]⟩, .int .i64 0, .int .i64 0, .int .i64 0, .int .i64 0, .slice none 0 0, .slice none 0 0, .int .i64 0] 34).below ((Below.refl _ _).alloc (Nat.le_refl _) _))
  have HA : Hid (SAfter (w.heap.size + 1) s (some 0) W0) := hid_intro (by rw [hW0]; exact ⟨by omega, by simp, by simp [go_sem], by simp [go_sem], by simp [go_sem], by simp [go_sem], by simp [go_sem], by simp [go_sem]⟩)
  have HW := hid_intro hW0
  clear r1 r2 r3 r4 r5 r6 rc1 rt rc2 rh hNT hNH hNP hT0 hTM hH0 hHM hTL hHL hwb hW0
  have sz3 : 0 < 1 := by omega
  have gsz3 : 0 < 2 := by omega
  go_enter Tryd.func16, Tryd.ntmps16
  go_wp2_with fail
  rw [← HW.out]
  clear HW
  refine (R1.out _ HA.out).mono ?_
  rintro e q1 ⟨rfl, hA, hq⟩
  replace HA := hid_intro hA
  replace HB := hid_intro (HB.out.grown hq HB.out.size (fun k e => by simp only [Option.some.injEq] at e; omega))
  replace HP := hid_intro (StR.pt_far HP.out hq (by omega))
  clear hA hq
  obtain ⟨wA, hwA⟩ : ∃ z, z = q1.alloc (.cells #[.string a, .string ⟨#[]⟩, .int .i64 0, .int .i64 0, .int .i64 0, .int .i64 0, .slice none 0 0, .slice none 0 0] 32) := ⟨_, rfl⟩
  have al : Below q1.heap.size q1 wA := by rw [hwA]; exact (Below.refl _ _).alloc (Nat.le_refl _) _
  have HV : Hid (BlkW q1.heap.size [.string a, .string ⟨#[]⟩, .int .i64 0, .int .i64 0, .int .i64 0, .int .i64 0, .slice none 0 0, .slice none 0 0] wA) := hid_intro (by rw [hwA]; exact BlkW.new q1 [.string a, .string ⟨#[]⟩, .int .i64 0, .int .i64 0, .int .i64 0, .int .i64 0, .slice none 0 0, .slice none 0 0] 32)
  have hlo : w.heap.size + 1 < q1.heap.size := HA.out.lt
  replace HA := hid_intro (satt HA.out al)
  replace HB := hid_intro (HB.out.trans (al.mono HB.out.size))
  replace HP := hid_intro (HP.out.below al)
  have HW := hid_intro hwA
  obtain ⟨bV, hbV⟩ : ∃ z, z = q1.heap.size := ⟨_, rfl⟩
  rw [← hbV] at HV hlo
  have HBV := hid_intro hbV
  clear hwA hbV al
  go_wp2_with fail
  rw [← HW.out, ← HBV.out]
  clear HW HBV
  refine (R2.out _ HA.out).mono ?_
  rintro e q2 ⟨rfl, hA, hq⟩
  replace HA := hid_intro hA
  replace HB := hid_intro (HB.out.grown hq HB.out.size (fun k e => by simp only [Option.some.injEq] at e; omega))
  replace HP := hid_intro (StR.pt_far HP.out hq (by omega))
  replace HV := hid_intro (HV.out.grown hq (by simp; omega))
  clear hA hq
  have hl := HV.out.1.1
  have hc := HV.out.1.2 1 (by simp)
  have hf := HV.out.2 1 (by simp)
  simp only [List.getElem?_cons_zero, List.getElem?_cons_succ] at hc
  have hgs := RowG.grown_set q2 bV 1 (.string m)
  replace HV := hid_intro (HV.out.set 1 (.string m) (by simp))
  replace HA := hid_intro (HA.out.grown hgs (by simp; omega))
  replace HB := hid_intro (HB.out.grown hgs HB.out.size (fun k e => by simp only [Option.some.injEq] at e; omega))
  replace HP := hid_intro (StR.pt_far HP.out hgs (by omega))
  simp only [List.set_cons_zero, List.set_cons_succ] at HV
  obtain ⟨wz0, hwz⟩ : ∃ z, z = q2.setCell ⟨bV, 1, none⟩ (.string m) := ⟨_, rfl⟩
  rw [← hwz] at HA HB HP HV
  have HW := hid_intro hwz
  clear hwz hgs
  go_wp2_with fail
  rw [← HW.out]
  clear HW hl hc hf
  refine (R3.out _ HA.out).mono ?_
  rintro e q3 ⟨rfl, hA, hq⟩
  replace HA := hid_intro hA
  replace HB := hid_intro (HB.out.grown hq HB.out.size (fun k e => by simp only [Option.some.injEq] at e; omega))
  replace HP := hid_intro (StR.pt_far HP.out hq (by omega))
  replace HV := hid_intro (HV.out.grown hq (by simp; omega))
  clear hA hq
  have hl := HV.out.1.1
  have hc := HV.out.1.2 2 (by simp)
  have hf := HV.out.2 2 (by simp)
  simp only [List.getElem?_cons_zero, List.getElem?_cons_succ] at hc
  have hgs := RowG.grown_set q3 bV 2 (.int .i64 mo)
  replace HV := hid_intro (HV.out.set 2 (.int .i64 mo) (by simp))
  replace HA := hid_intro (HA.out.grown hgs (by simp; omega))
  replace HB := hid_intro (HB.out.grown hgs HB.out.size (fun k e => by simp only [Option.some.injEq] at e; omega))
  replace HP := hid_intro (StR.pt_far HP.out hgs (by omega))
  simp only [List.set_cons_zero, List.set_cons_succ] at HV
  obtain ⟨wz1, hwz⟩ : ∃ z, z = q3.setCell ⟨bV, 2, none⟩ (.int .i64 mo) := ⟨_, rfl⟩
  rw [← hwz] at HA HB HP HV
  have HW := hid_intro hwz
  clear hwz hgs
  go_wp2_with fail
  rw [← HW.out]
  clear HW hl hc hf
  refine (R4.out _ HA.out).mono ?_
  rintro e q4 ⟨rfl, hA, hq⟩
  replace HA := hid_intro hA
  replace HB := hid_intro (HB.out.grown hq HB.out.size (fun k e => by simp only [Option.some.injEq] at e; omega))
  replace HP := hid_intro (StR.pt_far HP.out hq (by omega))
  replace HV := hid_intro (HV.out.grown hq (by simp; omega))
  clear hA hq
  have hl := HV.out.1.1
  have hc := HV.out.1.2 3 (by simp)
  have hf := HV.out.2 3 (by simp)
  simp only [List.getElem?_cons_zero, List.getElem?_cons_succ] at hc
  have hgs := RowG.grown_set q4 bV 3 (.int .i64 ev)
  replace HV := hid_intro (HV.out.set 3 (.int .i64 ev) (by simp))
  replace HA := hid_intro (HA.out.grown hgs (by simp; omega))
  replace HB := hid_intro (HB.out.grown hgs HB.out.size (fun k e => by simp only [Option.some.injEq] at e; omega))
  replace HP := hid_intro (StR.pt_far HP.out hgs (by omega))
  simp only [List.set_cons_zero, List.set_cons_succ] at HV
  obtain ⟨wz2, hwz⟩ : ∃ z, z = q4.setCell ⟨bV, 3, none⟩ (.int .i64 ev) := ⟨_, rfl⟩
  rw [← hwz] at HA HB HP HV
  have HW := hid_intro hwz
  clear hwz hgs
  go_wp2_with fail
  rw [← HW.out]
  clear HW hl hc hf
  refine (R5.out _ HA.out).mono ?_
  rintro e q5 ⟨rfl, hA, hq⟩
  replace HA := hid_intro hA
  replace HB := hid_intro (HB.out.grown hq HB.out.size (fun k e => by simp only [Option.some.injEq] at e; omega))
  replace HP := hid_intro (StR.pt_far HP.out hq (by omega))
  replace HV := hid_intro (HV.out.grown hq (by simp; omega))
  clear hA hq
  have hl := HV.out.1.1
  have hc := HV.out.1.2 4 (by simp)
  have hf := HV.out.2 4 (by simp)
  simp only [List.getElem?_cons_zero, List.getElem?_cons_succ] at hc
  have hgs := RowG.grown_set q5 bV 4 (.int .i64 su)
  replace HV := hid_intro (HV.out.set 4 (.int .i64 su) (by simp))
  replace HA := hid_intro (HA.out.grown hgs (by simp; omega))
  replace HB := hid_intro (HB.out.grown hgs HB.out.size (fun k e => by simp only [Option.some.injEq] at e; omega))
  replace HP := hid_intro (StR.pt_far HP.out hgs (by omega))
  simp only [List.set_cons_zero, List.set_cons_succ] at HV
  obtain ⟨wz3, hwz⟩ : ∃ z, z = q5.setCell ⟨bV, 4, none⟩ (.int .i64 su) := ⟨_, rfl⟩
  rw [← hwz] at HA HB HP HV
  have HW := hid_intro hwz
  clear hwz hgs
  go_wp2_with fail
  rw [← HW.out]
  clear HW hl hc hf
  refine (R6.out _ HA.out).mono ?_
  rintro e q6 ⟨rfl, hA, hq⟩
  replace HA := hid_intro hA
  replace HB := hid_intro (HB.out.grown hq HB.out.size (fun k e => by simp only [Option.some.injEq] at e; omega))
  replace HP := hid_intro (StR.pt_far HP.out hq (by omega))
  replace HV := hid_intro (HV.out.grown hq (by simp; omega))
  clear hA hq
  have hl := HV.out.1.1
  have hc := HV.out.1.2 5 (by simp)
  have hf := HV.out.2 5 (by simp)
  simp only [List.getElem?_cons_zero, List.getElem?_cons_succ] at hc
  have hgs := RowG.grown_set q6 bV 5 (.int .i64 mx)
  replace HV := hid_intro (HV.out.set 5 (.int .i64 mx) (by simp))
  replace HA := hid_intro (HA.out.grown hgs (by simp; omega))
  replace HB := hid_intro (HB.out.grown hgs HB.out.size (fun k e => by simp only [Option.some.injEq] at e; omega))
  replace HP := hid_intro (StR.pt_far HP.out hgs (by omega))
  simp only [List.set_cons_zero, List.set_cons_succ] at HV
  obtain ⟨wz4, hwz⟩ : ∃ z, z = q6.setCell ⟨bV, 5, none⟩ (.int .i64 mx) := ⟨_, rfl⟩
  rw [← hwz] at HA HB HP HV
  have HW := hid_intro hwz
  clear hwz hgs
  go_wp2_with fail
  rw [← HW.out]
  clear HW hl hc hf
  refine (RC1.out _ HA.out).mono ?_
  rintro e wB ⟨rfl, hA, hq⟩
  replace HA := hid_intro hA
  replace HB := hid_intro (HB.out.grown hq HB.out.size (fun k e => by simp only [Option.some.injEq] at e; omega))
  replace HP := hid_intro (StR.pt_far HP.out hq (by omega))
  replace HV := hid_intro (HV.out.grown hq (by simp; omega))
  clear hA hq
  go_wp2_with fail
  go_loopw [5] (fun z wr => ∃ (k : Nat) (ta : Option Addr) (tc : Nat), k ≤ C ∧ z = .int .i64 ((C : Int) - (k : Int)) ∧ Hid (SAfter (w.heap.size + 1) s (PT k) wr) ∧ Hid (Below w.heap.size w wr) ∧ Hid (Pt w.heap.size 9 wr) ∧ Hid (BlkW bV [.string a, .string m, .int .i64 mo, .int .i64 ev, .int .i64 su, .int .i64 mx, .slice ta k tc, .slice none 0 0] wr) ∧ Hid (wr.ownsRow (bV + 1) 9 1 (.slice ta k tc) k (cellsAll tcells (LT k)))) (fun z _ => (intOf z).toNat)
  case atStart => exact ⟨0, none, 0, by omega, by simp, HA, HB, HP, HV, hid_intro (by rw [HT0.out]; exact World.ownsRow_nil _ _ _ _)⟩
  case round =>
    clear HA HB HP HV
    obtain ⟨k, ta, tc, hk, rfl, HA, HB, HP, HV, HO⟩ := hrel
    obtain ⟨pp, hSR⟩ := HA.out.open
    obtain ⟨gl, g0, g1, g2, gf0, gf1, gf2⟩ := hSR
    have hgo : (k < C ∧ PT k ≠ none) ∨ (PT k = PT C ∧ (PT C ≠ none → k = C)) := by
      by_cases q : k < C
      · by_cases q2 : PT k = none
        · have := stay HNT.out q2 (C - k)
          rw [show k + (C - k) = C by omega] at this
          exact .inr ⟨q2.trans this.symm, fun h => absurd this h⟩
        · exact .inl ⟨q, q2⟩
      · obtain rfl : k = C := by omega
        exact .inr ⟨rfl, fun _ => rfl⟩
    rcases hgo with ⟨hlt, hno⟩ | ⟨heq, hall⟩
    · have hlt2 : (0 : Int) < (C : Int) - (k : Int) := by omega
      have hd : decide (PT k = none) = false := decide_eq_false hno
      rw [hd] at g2
      clear hd hno
      have RD1 := hid_intro (RT.out k)
      have HLM := hid_intro (HTM.out k)
      generalize tg k = X at *
      have sz1 : k + 1 ≤ maxLen := by unfold maxLen; omega
      have sz2 : (k + 1) * 16 ≤ 140737488355328 := by omega
      go_wp2_with fail
      clear gl g0 g1 g2 gf0 gf1 gf2
      have dr := (Below.refl wr.heap.size wr).drew
      have hA0 := satt HA.out dr
      have hB0 := HB.out.trans (dr.mono HB.out.size)
      have hP0 := HP.out.below dr
      have hV0 := HV.out.below dr
      have hO0 := RowG.own_below HO.out dr
      clear dr
      go_wp2_with fail
      refine wp_region_held_drew (S := (fun _ => True)) (by kernel_rfl) trivial (fun hHeld => ?_)
      generalize wr.drew = kd at *
      apply memo3 (fun bN sb sc W => (True) ∧ (SAfter (w.heap.size + 1) s (PT (k + 1)) W) ∧ (Below w.heap.size w W) ∧ (Pt w.heap.size 9 W) ∧ (BlkW bV [.string a, .string m, .int .i64 mo, .int .i64 ev, .int .i64 su, .int .i64 mx, .slice ta k tc, .slice none 0 0] W) ∧ (W.ownsRow (bV + 1) 9 1 (.slice (some ⟨sb, 0, none⟩) (k + 1) sc) (k + 1) (cellsAll tcells (LT (k + 1)))) ∧ True)
      intro N1_3_4_5
      apply memo1 (fun bN W => (True) ∧ (SAfter (w.heap.size + 1) s (PT (k + 1)) W) ∧ (Below w.heap.size w W) ∧ (Pt w.heap.size 9 W) ∧ (BlkW bV [.string a, .string m, .int .i64 mo, .int .i64 ev, .int .i64 su, .int .i64 mx, .slice ta k tc, .slice none 0 0] W) ∧ (W.ownsRow (bV + 1) 9 1 (.slice ta k tc) k (cellsAll tcells (LT k))) ∧ (∀ j u, ([.string X] : List Value)[j]? = some u → W.cell? ((⟨bN, 0, none⟩ : Addr).add j) = some u) ∧ True)
      intro N1_3_4
      apply memo0 (fun  W => (True) ∧ (SAfter (w.heap.size + 1) s (PT (k + 1)) W) ∧ (Below w.heap.size w W) ∧ (Pt w.heap.size 9 W) ∧ (BlkW bV [.string a, .string m, .int .i64 mo, .int .i64 ev, .int .i64 su, .int .i64 mx, .slice ta k tc, .slice none 0 0] W) ∧ (W.ownsRow (bV + 1) 9 1 (.slice ta k tc) k (cellsAll tcells (LT k))) ∧ True)
      intro N1_3
      apply memo1 (fun bN W => (True) ∧ (SAfter (w.heap.size + 1) s (PT (k + 1)) W) ∧ (Below w.heap.size w W) ∧ (Pt w.heap.size 9 W) ∧ (BlkW bV [.string a, .string m, .int .i64 mo, .int .i64 ev, .int .i64 su, .int .i64 mx, .slice ta k tc, .slice none 0 0] W) ∧ (W.ownsRow (bV + 1) 9 1 (.slice ta k tc) k (cellsAll tcells (LT k))) ∧ (∀ j u, ([.string X] : List Value)[j]? = some u → W.cell? ((⟨bN, 0, none⟩ : Addr).add j) = some u) ∧ True)
      intro N3_4
      apply memo0 (fun  W => (True) ∧ (SAfter (w.heap.size + 1) s (PT k) W) ∧ (Below w.heap.size w W) ∧ (Pt w.heap.size 9 W) ∧ (BlkW bV [.string a, .string m, .int .i64 mo, .int .i64 ev, .int .i64 su, .int .i64 mx, .slice ta k tc, .slice none 0 0] W) ∧ (W.ownsRow (bV + 1) 9 1 (.slice ta k tc) k (cellsAll tcells (LT k))) ∧ True)
      intro N1
      apply memo0 (fun  W => (True) ∧ (SAfter (w.heap.size + 1) s (PT (k + 1)) W) ∧ (Below w.heap.size w W) ∧ (Pt w.heap.size 9 W) ∧ (BlkW bV [.string a, .string m, .int .i64 mo, .int .i64 ev, .int .i64 su, .int .i64 mx, .slice ta k tc, .slice none 0 0] W) ∧ (W.ownsRow (bV + 1) 9 1 (.slice ta k tc) k (cellsAll tcells (LT k))) ∧ True)
      intro N3
      · refine wpAnyH_take (i := 0) (oi := { dst := some 46, op := Op.fieldAddr 32 (Operand.tmp 4) 6, type := 0, pos := "l07_window.go:170", after := #[], guard := none }) (v := ?_) rfl (by kernel_rfl) (by kernel_rfl) (by kernel_rfl) (fun _ _ _ h => h) (Or.inl ⟨by rfl, ?_⟩) (by assumption) ?_
        rotate_left
        · (intro w hSw; (try dsimp only at hSw); go_simp) <;> with_reducible rfl
        try simp only [Act.put, List.setIfInBounds_toArray, List.set_cons_zero, List.set_cons_succ]
        refine wpAnyH_take (i := 2) (oi := { dst := some 48, op := Op.move (Operand.tmp 3), type := 58, pos := "l07_window.go:170", after := #[], guard := none }) (v := ?_) rfl (by kernel_rfl) (by kernel_rfl) (by kernel_rfl) (fun _ _ _ h => h) (Or.inl ⟨by rfl, ?_⟩) (by assumption) ?_
        rotate_left
        · (intro w hSw; (try dsimp only at hSw); go_simp) <;> with_reducible rfl
        try simp only [Act.put, List.setIfInBounds_toArray, List.set_cons_zero, List.set_cons_succ]
        refine wpAnyH_ready (rs := [1, 3]) (by kernel_rfl) (by simp) ?_
        refine AllReadyH.cons (o := { dst := some 47, op := Op.load 22 (Operand.tmp 46), type := 22, pos := "l07_window.go:170", after := #[{ on := 0, ground := Ground.data }], guard := none }) rfl (fun K hK => ?_) (AllReadyH.cons (o := { dst := some 49, op := Op.call { callee := Callee.value (Operand.func 34), args := #[Operand.tmp 48], argTypes := #[58] }, type := 9, pos := "l07_window.go:170", after := #[{ on := 2, ground := Ground.data }], guard := none }) rfl (fun K hK => ?_) AllReadyH.nil)
        · have c6 := hV0.1.2 6 (by simp)
          have l6 := hV0.1.1
          simp only [List.getElem?_cons_zero, List.getElem?_cons_succ] at c6
          go_simp
          try go_wp2_with fail
          refine hK.out _ _ trivial (fun _ => ?_)
          clear hK K
          try simp only [Act.put, List.setIfInBounds_toArray, List.set_cons_zero, List.set_cons_succ]
          clear c6 l6
          exact N1.out  kd ⟨trivial, hA0, hB0, hP0, hV0, hO0, trivial⟩
        · go_simp
          go_at_call 34
          refine (RD1.out _ hA0).mono ?_
          rintro e q1 ⟨rfl, hA1, hq1⟩
          try go_wp2_with fail
          have hB1 := hB0.grown hq1 hB0.size (fun k e => by simp only [Option.some.injEq] at e; omega)
          have hP1 := StR.pt_far hP0 hq1 (by omega)
          have hV1 := hV0.grown hq1 (by simp; omega)
          have hO1 := own_keepG hO0 hq1 (by omega)
          refine hK.out _ _ trivial (fun _ => ?_)
          clear hK K
          try simp only [Act.put, List.setIfInBounds_toArray, List.set_cons_zero, List.set_cons_succ]
          exact N3.out  q1 ⟨trivial, hA1, hB1, hP1, hV1, hO1, trivial⟩
      · rintro  W ⟨hTr, hA0, hB0, hP0, hV0, hO0, _⟩
        refine wpAnyH_ready (rs := [1, 4]) (by kernel_rfl) (by simp) ?_
        refine AllReadyH.cons (o := { dst := some 47, op := Op.load 22 (Operand.tmp 46), type := 22, pos := "l07_window.go:170", after := #[{ on := 0, ground := Ground.data }], guard := none }) rfl (fun K hK => ?_) (AllReadyH.cons (o := { dst := some 50, op := Op.buildSlice 22 1 #[(0, Operand.tmp 49)], type := 22, pos := "l07_window.go:170", after := #[{ on := 3, ground := Ground.data }], guard := none }) rfl (fun K hK => ?_) AllReadyH.nil)
        · have c6 := hV0.1.2 6 (by simp)
          have l6 := hV0.1.1
          simp only [List.getElem?_cons_zero, List.getElem?_cons_succ] at c6
          go_simp
          try go_wp2_with fail
          refine hK.out _ _ trivial (fun _ => ?_)
          clear hK K
          try simp only [Act.put, List.setIfInBounds_toArray, List.set_cons_zero, List.set_cons_succ]
          clear c6 l6
          exact N1_3.out  W ⟨trivial, hA0, hB0, hP0, hV0, hO0, trivial⟩
        · go_simp
          try go_wp2_with fail
          have hA1 := satt hA0 ((Below.refl W.heap.size W).alloc (Nat.le_refl _) (Obj.cells #[.string X] 9))
          have hB1 := hB0.trans (((Below.refl W.heap.size W).alloc (Nat.le_refl _) (Obj.cells #[.string X] 9)).mono hB0.size)
          have hP1 := hP0.below ((Below.refl W.heap.size W).alloc (Nat.le_refl _) (Obj.cells #[.string X] 9))
          have hV1 := hV0.below ((Below.refl W.heap.size W).alloc (Nat.le_refl _) (Obj.cells #[.string X] 9))
          have hO1 := RowG.own_below hO0 ((Below.refl W.heap.size W).alloc (Nat.le_refl _) (Obj.cells #[.string X] 9))
          have hnw : ∀ j u, ([.string X] : List Value)[j]? = some u → (W.alloc (Obj.cells #[.string X] 9)).cell? ((⟨W.heap.size, 0, none⟩ : Addr).add j) = some u := one_cell W X 9
          refine hK.out _ _ trivial (fun _ => ?_)
          clear hK K
          try simp only [Act.put, List.setIfInBounds_toArray, List.set_cons_zero, List.set_cons_succ]
          obtain ⟨bN, hbN⟩ : ∃ z, z = W.heap.size := ⟨_, rfl⟩
          rw [← hbN] at hnw ⊢
          obtain ⟨k1, hk1⟩ : ∃ z, z = W.alloc (Obj.cells #[.string X] 9) := ⟨_, rfl⟩
          rw [← hk1] at hnw hA1 hB1 hP1 hV1 hO1 ⊢
          exact N3_4.out bN k1 ⟨trivial, hA1, hB1, hP1, hV1, hO1, hnw, trivial⟩
      · rintro  W ⟨hTr, hA0, hB0, hP0, hV0, hO0, _⟩
        refine wpAnyH_ready (rs := [3]) (by kernel_rfl) (by simp) ?_
        refine AllReadyH.cons (o := { dst := some 49, op := Op.call { callee := Callee.value (Operand.func 34), args := #[Operand.tmp 48], argTypes := #[58] }, type := 9, pos := "l07_window.go:170", after := #[{ on := 2, ground := Ground.data }], guard := none }) rfl (fun K hK => ?_) AllReadyH.nil
        go_simp
        go_at_call 34
        refine (RD1.out _ hA0).mono ?_
        rintro e q1 ⟨rfl, hA1, hq1⟩
        try go_wp2_with fail
        have hB1 := hB0.grown hq1 hB0.size (fun k e => by simp only [Option.some.injEq] at e; omega)
        have hP1 := StR.pt_far hP0 hq1 (by omega)
        have hV1 := hV0.grown hq1 (by simp; omega)
        have hO1 := own_keepG hO0 hq1 (by omega)
        refine hK.out _ _ trivial (fun _ => ?_)
        clear hK K
        try simp only [Act.put, List.setIfInBounds_toArray, List.set_cons_zero, List.set_cons_succ]
        exact N1_3.out  q1 ⟨trivial, hA1, hB1, hP1, hV1, hO1, trivial⟩
      · rintro bN W ⟨hTr, hA0, hB0, hP0, hV0, hO0, hnw, _⟩
        refine wpAnyH_ready (rs := [1]) (by kernel_rfl) (by simp) ?_
        refine AllReadyH.cons (o := { dst := some 47, op := Op.load 22 (Operand.tmp 46), type := 22, pos := "l07_window.go:170", after := #[{ on := 0, ground := Ground.data }], guard := none }) rfl (fun K hK => ?_) AllReadyH.nil
        have c6 := hV0.1.2 6 (by simp)
        have l6 := hV0.1.1
        simp only [List.getElem?_cons_zero, List.getElem?_cons_succ] at c6
        go_simp
        try go_wp2_with fail
        refine hK.out _ _ trivial (fun _ => ?_)
        clear hK K
        try simp only [Act.put, List.setIfInBounds_toArray, List.set_cons_zero, List.set_cons_succ]
        clear c6 l6
        exact N1_3_4.out bN W ⟨trivial, hA0, hB0, hP0, hV0, hO0, hnw, trivial⟩
      · rintro  W ⟨hTr, hA0, hB0, hP0, hV0, hO0, _⟩
        refine wpAnyH_ready (rs := [4]) (by kernel_rfl) (by simp) ?_
        refine AllReadyH.cons (o := { dst := some 50, op := Op.buildSlice 22 1 #[(0, Operand.tmp 49)], type := 22, pos := "l07_window.go:170", after := #[{ on := 3, ground := Ground.data }], guard := none }) rfl (fun K hK => ?_) AllReadyH.nil
        go_simp
        try go_wp2_with fail
        have hA1 := satt hA0 ((Below.refl W.heap.size W).alloc (Nat.le_refl _) (Obj.cells #[.string X] 9))
        have hB1 := hB0.trans (((Below.refl W.heap.size W).alloc (Nat.le_refl _) (Obj.cells #[.string X] 9)).mono hB0.size)
        have hP1 := hP0.below ((Below.refl W.heap.size W).alloc (Nat.le_refl _) (Obj.cells #[.string X] 9))
        have hV1 := hV0.below ((Below.refl W.heap.size W).alloc (Nat.le_refl _) (Obj.cells #[.string X] 9))
        have hO1 := RowG.own_below hO0 ((Below.refl W.heap.size W).alloc (Nat.le_refl _) (Obj.cells #[.string X] 9))
        have hnw : ∀ j u, ([.string X] : List Value)[j]? = some u → (W.alloc (Obj.cells #[.string X] 9)).cell? ((⟨W.heap.size, 0, none⟩ : Addr).add j) = some u := one_cell W X 9
        refine hK.out _ _ trivial (fun _ => ?_)
        clear hK K
        try simp only [Act.put, List.setIfInBounds_toArray, List.set_cons_zero, List.set_cons_succ]
        obtain ⟨bN, hbN⟩ : ∃ z, z = W.heap.size := ⟨_, rfl⟩
        rw [← hbN] at hnw ⊢
        obtain ⟨k1, hk1⟩ : ∃ z, z = W.alloc (Obj.cells #[.string X] 9) := ⟨_, rfl⟩
        rw [← hk1] at hnw hA1 hB1 hP1 hV1 hO1 ⊢
        exact N1_3_4.out bN k1 ⟨trivial, hA1, hB1, hP1, hV1, hO1, hnw, trivial⟩
      · rintro bN W ⟨hTr, hA0, hB0, hP0, hV0, hO0, hnw, _⟩
        refine wpAnyH_ready (rs := [5]) (by kernel_rfl) (by simp) ?_
        refine AllReadyH.cons (o := { dst := some 51, op := Op.call { callee := Callee.builtin Builtin.append, args := #[Operand.tmp 47, Operand.tmp 50], argTypes := #[22, 22] }, type := 22, pos := "l07_window.go:170", after := #[{ on := 1, ground := Ground.data }, { on := 4, ground := Ground.data }, { on := 3, ground := Ground.chain }], guard := none }) rfl (fun K hK => ?_) AllReadyH.nil
        refine step_append_own rfl _ _ 22 rfl (bV + 1) 9 i0 (.string ⟨#[]⟩) 1 16 Tryd.underlying22 hi hz0 hz1 hz2 rfl sz3 _ _ _ rfl hO0 ⟨bN, 0, none⟩ 1 1 [.string X] rfl rfl hnw (one_one X) sz1 sz2 (hV0.1.1) ?_
        intro v9 w9 hown hgrow hne
        have hA1 := hA0.grown hgrow (fun e => by have := (hO0.lt _ e.symm).1; omega)
        have hB1 := hB0.grown hgrow hB0.size (fun X e => by have := (hO0.lt _ e).1; omega)
        have hP1 : Pt w.heap.size 9 w9 := pt_row hP0 hgrow (fun e => by have := (hO0.lt _ e.symm).1; omega)
        have hV1 := hV0.grown hgrow (fun e => by have := (hO0.lt _ e.symm).1; omega)
        have hO1 : w9.ownsRow (bV + 1) 9 1 v9 (k + 1) (cellsAll tcells (LT (k + 1))) := by rw [HLM.out, cellsAll_snoc]; exact hown
        obtain ⟨sb, sc, rfl⟩ := own_form hO1
        clear hown hgrow hne hnw
        refine hK.out _ _ trivial (fun _ => ?_)
        clear hK K
        try simp only [Act.put, List.setIfInBounds_toArray, List.set_cons_zero, List.set_cons_succ]
        refine wpAnyH_take (i := 6) (oi := { dst := some 52, op := Op.fieldAddr 32 (Operand.tmp 4) 6, type := 0, pos := "l07_window.go:170", after := #[{ on := 0, ground := Ground.phase }, { on := 1, ground := Ground.phase }, { on := 2, ground := Ground.phase }, { on := 3, ground := Ground.phase }, { on := 4, ground := Ground.phase }, { on := 5, ground := Ground.phase }], guard := none }) (v := ?_) rfl (by kernel_rfl) (by kernel_rfl) (by kernel_rfl) (fun _ _ _ h => h) (Or.inl ⟨by rfl, ?_⟩) (by assumption) ?_
        rotate_left
        · (intro w hSw; (try dsimp only at hSw); go_simp) <;> with_reducible rfl
        try simp only [Act.put, List.setIfInBounds_toArray, List.set_cons_zero, List.set_cons_succ]
        exact N1_3_4_5.out bN sb sc w9 ⟨trivial, hA1, hB1, hP1, hV1, hO1, trivial⟩
      · rintro bN sb sc W ⟨hTr, hA0, hB0, hP0, hV0, hO0, _⟩
        refine wpAnyH_ready (rs := [7]) (by kernel_rfl) (by simp) ?_
        refine AllReadyH.cons (o := { dst := none, op := Op.store 22 (Operand.tmp 52) (Operand.tmp 51), type := 0, pos := "l07_window.go:170", after := #[{ on := 6, ground := Ground.data }, { on := 5, ground := Ground.data }, { on := 5, ground := Ground.chain }, { on := 0, ground := Ground.phase }, { on := 1, ground := Ground.phase }, { on := 2, ground := Ground.phase }, { on := 3, ground := Ground.phase }, { on := 4, ground := Ground.phase }, { on := 5, ground := Ground.phase }], guard := none }) rfl (fun K hK => ?_) AllReadyH.nil
        have c6 := hV0.1.2 6 (by simp)
        have l6 := hV0.1.1
        have f6 := hV0.2 6 (by simp)
        simp only [List.getElem?_cons_zero, List.getElem?_cons_succ] at c6
        go_simp
        try go_wp2_with fail
        have hg := RowG.grown_set W bV 6 (.slice (some ⟨sb, 0, none⟩) (k + 1) sc)
        have hA9 := hA0.grown hg (by simp; omega)
        have hB9 := hB0.grown hg hB0.size (fun k e => by simp only [Option.some.injEq] at e; omega)
        have hP9 := StR.pt_far hP0 hg (by omega)
        have hV9 := hV0.set 6 (.slice (some ⟨sb, 0, none⟩) (k + 1) sc) (by simp)
        have hO9 := own_keepG hO0 hg (by omega)
        simp only [List.set_cons_zero, List.set_cons_succ] at hV9
        refine hK.out _ _ trivial (fun _ => ?_)
        clear hK K
        try simp only [Act.put, List.setIfInBounds_toArray, List.set_cons_zero, List.set_cons_succ]
        generalize (W.setCell ⟨bV, 6, none⟩ (.slice (some ⟨sb, 0, none⟩) (k + 1) sc)) = kk at *
        refine wpAnyH_done (by kernel_rfl) ?_ _
        have HA9 := hid_intro hA9
        have HB9 := hid_intro hB9
        have HP9 := hid_intro hP9
        have HV9 := hid_intro hV9
        have HO9 := hid_intro hO9
        clear hA9 hB9 hP9 hV9 hO9 hg c6 l6 f6
        go_wp2_with fail
        go_roundw
        case rel => exact ⟨k + 1, some ⟨sb, 0, none⟩, sc, by omega, by go_num, HA9, HB9, HP9, HV9, HO9⟩
        case measure => simp [intOf]; omega
    · have HAL := hid_intro hall
      replace HA : Hid (SAfter (w.heap.size + 1) s (PT C) wr) := hid_intro (by rw [← heq]; exact HA.out)
      have hex : (¬ (0 : Int) < (C : Int) - (k : Int)) ∨ ((0 : Int) < (C : Int) - (k : Int) ∧ decide (PT k = none) = true) := by
        by_cases q : k < C
        · refine .inr ⟨by omega, decide_eq_true ?_⟩
          rcases h9 : PT C with _ | p
          · rw [heq, h9]
          · have := hall (by rw [h9]; simp)
            omega
        · exact .inl (by omega)
      clear heq hall
      obtain ⟨K, hK1⟩ : ∃ K, K = k := ⟨_, rfl⟩
      have hcut : True := trivial
      clear hcut hK1 K
      rcases hex with hex | ⟨hex, hd⟩
      · go_wp2_with fail
        clear g0 g1 g2 gl gf0 gf1 gf2
        refine (RC2.out _ HA.out).mono ?_
        rintro e wC ⟨rfl, hA, hq⟩
        replace HA := hid_intro hA
        replace HB := hid_intro (HB.out.grown hq HB.out.size (fun k e => by simp only [Option.some.injEq] at e; omega))
        replace HP := hid_intro (StR.pt_far HP.out hq (by omega))
        replace HV := hid_intro (HV.out.grown hq (by simp; omega))
        replace HO := hid_intro (own_keepG HO.out hq (by omega))
        clear hA hq
        have HT := HO
        clear HO
        go_wp2_with fail
        go_loopw [6] (fun z wx => ∃ (i : Nat) (ha : Option Addr) (hc : Nat), i ≤ D ∧ z = .int .i64 ((D : Int) - (i : Int)) ∧ Hid (SAfter (w.heap.size + 1) s (PH i) wx) ∧ Hid (Below w.heap.size w wx) ∧ Hid (Pt w.heap.size 9 wx) ∧ Hid (BlkW bV [.string a, .string m, .int .i64 mo, .int .i64 ev, .int .i64 su, .int .i64 mx, .slice ta k tc, .slice ha i hc] wx) ∧ Hid (wx.ownsRow (bV + 1) 9 1 (.slice ta k tc) k (cellsAll tcells (LT k))) ∧ Hid (wx.ownsRow (bV + 1) 65 2 (.slice ha i hc) i (cellsAll H.cells (LH i)))) (fun z _ => (intOf z).toNat)
        case atStart => exact ⟨0, none, 0, by omega, by simp, HA, HB, HP, HV, HT, hid_intro (by rw [HH0.out]; exact World.ownsRow_nil _ _ _ _)⟩
        case round =>
          clear HA HB HP HV HT
          obtain ⟨i, ha, hc, hki, rfl, HA, HB, HP, HV, HT, HO⟩ := hrel
          obtain ⟨pp, hSR⟩ := HA.out.open
          obtain ⟨gl, g0, g1, g2, gf0, gf1, gf2⟩ := hSR
          have hgo : (i < D ∧ PH i ≠ none) ∨ (PH i = PH D ∧ (PH D ≠ none → i = D)) := by
            by_cases q : i < D
            · by_cases q2 : PH i = none
              · have := stay HNH.out q2 (D - i)
                rw [show i + (D - i) = D by omega] at this
                exact .inr ⟨q2.trans this.symm, fun h => absurd this h⟩
              · exact .inl ⟨q, q2⟩
            · obtain rfl : i = D := by omega
              exact .inr ⟨rfl, fun _ => rfl⟩
          rcases hgo with ⟨hlt, hno⟩ | ⟨heq, hall2⟩
          · have hlt2 : (0 : Int) < (D : Int) - (i : Int) := by omega
            have hd : decide (PH i = none) = false := decide_eq_false hno
            rw [hd] at g2
            clear hd hno
            obtain ⟨om, rd1, rd2⟩ := RH.out i
            have RD1 := hid_intro rd1
            have RD2 := hid_intro rd2
            clear rd1 rd2
            have HLM := hid_intro (HHM.out i)
            generalize hh i = X at *
            generalize ss i = Y at *
            go_wp2_with fail
            clear gl g0 g1 g2 gf0 gf1 gf2
            refine (RD1.out _ HA.out).mono ?_
            rintro e u1 ⟨rfl, hA, hq⟩
            replace HA := hid_intro hA
            replace HB := hid_intro (HB.out.grown hq HB.out.size (fun k e => by simp only [Option.some.injEq] at e; omega))
            replace HP := hid_intro (StR.pt_far HP.out hq (by omega))
            replace HV := hid_intro (HV.out.grown hq (by simp; omega))
            replace HT := hid_intro (own_keepG HT.out hq (by omega))
            replace HO := hid_intro (own_keepG HO.out hq (by omega))
            clear hA hq
            obtain ⟨u2, hu2⟩ : ∃ z, z = u1.alloc (.cells #[.int .i64 X, .int .i64 0] 65) := ⟨_, rfl⟩
            have al : Below u1.heap.size u1 u2 := by rw [hu2]; exact (Below.refl _ _).alloc (Nat.le_refl _) _
            have HQ : Hid (BlkW u1.heap.size [.int .i64 X, .int .i64 0] u2) := hid_intro (by rw [hu2]; exact BlkW.new u1 [.int .i64 X, .int .i64 0] 65)
            have hlq : bV < u1.heap.size := HV.out.1.1
            have HQT : Hid (∀ b, (.slice ta k tc : Value).ownBlock = some b → b < u1.heap.size) := hid_intro (fun b hb => (HT.out.lt b hb).2)
            have HQO : Hid (∀ b, (.slice ha i hc : Value).ownBlock = some b → b < u1.heap.size) := hid_intro (fun b hb => (HO.out.lt b hb).2)
            replace HA := hid_intro (satt HA.out al)
            replace HB := hid_intro (HB.out.trans (al.mono HB.out.size))
            replace HP := hid_intro (HP.out.below al)
            replace HV := hid_intro (HV.out.below al)
            replace HT := hid_intro (RowG.own_below HT.out al)
            replace HO := hid_intro (RowG.own_below HO.out al)
            have HW := hid_intro hu2
            obtain ⟨bQ, hbQ⟩ : ∃ z, z = u1.heap.size := ⟨_, rfl⟩
            rw [← hbQ] at HQ hlq HQO HQT
            have HBQ := hid_intro hbQ
            clear hu2 hbQ al
            go_wp2_with fail
            rw [← HW.out, ← HBQ.out]
            clear HW HBQ
            refine (RD2.out _ HA.out).mono ?_
            rintro e u3 ⟨rfl, hA, hq⟩
            replace HQ := hid_intro (HQ.out.grown hq (by simp; omega))
            replace HA := hid_intro hA
            replace HB := hid_intro (HB.out.grown hq HB.out.size (fun k e => by simp only [Option.some.injEq] at e; omega))
            replace HP := hid_intro (StR.pt_far HP.out hq (by omega))
            replace HV := hid_intro (HV.out.grown hq (by simp; omega))
            replace HT := hid_intro (own_keepG HT.out hq (by omega))
            replace HO := hid_intro (own_keepG HO.out hq (by omega))
            clear hA hq
            have hl := HQ.out.1.1
            have vl := HV.out.1.1
            have v7 := HV.out.1.2 7 (by simp)
            have f7 := HV.out.2 7 (by simp)
            have hqv : bQ ≠ bV := by omega
            have hvq : bV ≠ bQ := by omega
            have hcc := HQ.out.1.2 1 (by simp)
            have hc0 := HQ.out.1.2 0 (by simp)
            have hff := HQ.out.2 1 (by simp)
            simp only [List.getElem?_cons_zero, List.getElem?_cons_succ] at hcc hc0 v7
            have hgs := RowG.grown_set u3 bQ 1 (.int .i64 Y)
            replace HQ := hid_intro (HQ.out.set 1 (.int .i64 Y) (by simp))
            replace HA := hid_intro (HA.out.grown hgs (by simp; omega))
            replace HB := hid_intro (HB.out.grown hgs HB.out.size (fun k e => by simp only [Option.some.injEq] at e; omega))
            replace HP := hid_intro (StR.pt_far HP.out hgs (by omega))
            replace HV := hid_intro (HV.out.grown hgs (by simp; omega))
            replace HT := hid_intro (own_keepO HT.out hgs (fun b hb => by have := HQT.out b hb; simp; omega))
            replace HO := hid_intro (own_keepO HO.out hgs (fun b hb => by have := HQO.out b hb; simp; omega))
            simp only [List.set_cons_zero, List.set_cons_succ] at HQ
            have hnw : ∀ j u, ([.int .i64 X, .int .i64 Y] : List Value)[j]? = some u → ((u3.setCell ⟨bQ, 1, none⟩ (.int .i64 Y)).alloc (.cells #[.int .i64 X, .int .i64 Y] 65)).cell? ((⟨u3.heap.size, 0, none⟩ : Addr).add j) = some u := by
              have h := hr_cells (u3.setCell ⟨bQ, 1, none⟩ (.int .i64 Y)) X Y 65
              simpa using h
            have HAL2 := hid_intro (fun b (hb : (.slice ha i hc : Value).ownBlock = some b) => (HO.out.lt b hb).1)
            have hbv : bV + 1 ≤ u3.heap.size := by omega
            clear hgs
            go_wp2_with (at_builtin; refine wpList_append_own _ rfl _ _ 30 rfl (bV + 1) 65 j0 (.agg #[.int .i64 0, .int .i64 0]) 2 16 Tryd.underlying30 gi gz0 gz1 gz2 rfl (by decide) _ _ _ rfl (HO.out.alloc _) ⟨u3.heap.size, 0, none⟩ 1 1 [.int .i64 X, .int .i64 Y] rfl rfl hnw (hr_one _ _) ?d3 ?d4 ?d5 ?_)
            case d3 => unfold maxLen; omega
            case d4 => omega
            case d5 => simp; omega
            intro v9 w9 hown hgrow hne
            have hO9 : w9.ownsRow (bV + 1) 65 2 v9 (i + 1) (cellsAll H.cells (LH (i + 1))) := by rw [HLM.out, cellsAll_snoc]; exact hown
            have al := ((Below.refl _ (u3.setCell ⟨bQ, 1, none⟩ (.int .i64 Y))).alloc (Nat.le_refl _) (.cells #[.int .i64 X, .int .i64 Y] 65))
            replace HA := hid_intro ((satt HA.out al).grown hgrow (fun e => by have := HAL2.out _ e.symm; omega))
            replace HB := hid_intro ((HB.out.trans (al.mono HB.out.size)).grown hgrow (HB.out.trans (al.mono HB.out.size)).size (fun X e => by have := HAL2.out _ e; omega))
            replace HP := hid_intro (pt_row (HP.out.below al) hgrow (fun e => by have := HAL2.out _ e.symm; omega))
            replace HV := hid_intro ((HV.out.below al).grown hgrow (fun e => by have := HAL2.out _ e.symm; omega))
            replace HT := hid_intro (own_keepO (RowG.own_below HT.out al) hgrow (own_apart (RowG.own_below HT.out al) (RowG.own_below HO.out al) (by decide)))
            obtain ⟨sb, sc, rfl⟩ := own_form hO9
            have HO9 := hid_intro hO9
            clear hown hgrow hne hnw hO9 al hl hcc hc0 hff vl v7 f7 HO HQ HAL2
            have vl := HV.out.1.1
            have v7 := HV.out.1.2 7 (by simp)
            have f7 := HV.out.2 7 (by simp)
            simp only [List.getElem?_cons_zero, List.getElem?_cons_succ] at v7
            have hgs := RowG.grown_set w9 bV 7 (.slice (some ⟨sb, 0, none⟩) (i + 1) sc)
            have HA9 := hid_intro (HA.out.grown hgs (by simp; omega))
            have HB9 := hid_intro (HB.out.grown hgs HB.out.size (fun k e => by simp only [Option.some.injEq] at e; omega))
            have HP9 := hid_intro (StR.pt_far HP.out hgs (by omega))
            have HV9 := hid_intro (HV.out.set 7 (.slice (some ⟨sb, 0, none⟩) (i + 1) sc) (by simp))
            have HT9 := hid_intro (own_keepG HT.out hgs (by omega))
            have HO8 := hid_intro (own_keepG HO9.out hgs (by omega))
            simp only [List.set_cons_zero, List.set_cons_succ] at HV9
            clear hgs HA HB HP HV HT HO9
            go_wp2_with fail
            go_roundw
            case rel => exact ⟨i + 1, some ⟨sb, 0, none⟩, sc, by omega, by go_num, HA9, HB9, HP9, HV9, HT9, HO8⟩
            case measure => simp [intOf]; omega
          · have hex2 : (¬ (0 : Int) < (D : Int) - (i : Int)) ∨ ((0 : Int) < (D : Int) - (i : Int) ∧ decide (PH i = none) = true) := by
              by_cases q : i < D
              · refine .inr ⟨by omega, decide_eq_true ?_⟩
                rcases h9 : PH D with _ | p
                · rw [heq, h9]
                · have := hall2 (by rw [h9]; simp)
                  omega
              · exact .inl (by omega)
            rcases hex2 with hex2 | ⟨hex2, hd2⟩
            · have hD2 : PH i = none ∨ PH i ≠ none := by by_cases q : PH i = none; exact .inl q; exact .inr q
              rcases hD2 with hn | hn
              · have HNO : Hid (¬ (PH D ≠ none ∧ s.size ≠ 0 ∧ T = s)) := hid_intro (fun q => q.1 (by rw [← heq]; exact hn))
                rw [decide_eq_true hn] at g2
                clear heq hall2 hn
                go_wp2_with fail
                clear gl g0 g1 g2 gf0 gf1 gf2
                refine (HIL.out _).mono ?_
                rintro e wI ⟨rfl, hbI⟩
                have HBI := hid_intro (HB.out.trans (hbI.mono HB.out.size))
                have HPI := hid_intro (HP.out.below hbI)
                clear hbI
                have hp9 := HPI.out
                have hl9 := hp9.lt
                obtain ⟨ov0, r0⟩ := hp9.has 0 (by omega)
                have f0 := hp9.free 0 (by omega)
                obtain ⟨ov1, r1⟩ := hp9.has 1 (by omega)
                have f1 := hp9.free 1 (by omega)
                obtain ⟨ov2, r2⟩ := hp9.has 2 (by omega)
                have f2 := hp9.free 2 (by omega)
                obtain ⟨ov3, r3⟩ := hp9.has 3 (by omega)
                have f3 := hp9.free 3 (by omega)
                obtain ⟨ov4, r4⟩ := hp9.has 4 (by omega)
                have f4 := hp9.free 4 (by omega)
                obtain ⟨ov5, r5⟩ := hp9.has 5 (by omega)
                have f5 := hp9.free 5 (by omega)
                obtain ⟨ov6, r6⟩ := hp9.has 6 (by omega)
                have f6 := hp9.free 6 (by omega)
                obtain ⟨ov7, r7⟩ := hp9.has 7 (by omega)
                have f7 := hp9.free 7 (by omega)
                obtain ⟨ov8, r8⟩ := hp9.has 8 (by omega)
                have f8 := hp9.free 8 (by omega)
                have hgf := StR.stL_grown w.heap.size [.string ⟨#[]⟩, .string ⟨#[]⟩, .int .i64 0, .int .i64 0, .int .i64 0, .int .i64 0, .slice none 0 0, .slice none 0 0, .int .i64 3] 0 wI
                have HBF := hid_intro (HBI.out.grown hgf HBI.out.size (fun k e => by simp only [Option.some.injEq] at e; omega))
                simp only [StR.stL, Nat.zero_add, Nat.reduceAdd] at HBF
                clear hgf hp9
                go_wp2_with fail
                refine bodyPost_ret (v := .agg #[.string ⟨#[]⟩, .string ⟨#[]⟩, .int .i64 0, .int .i64 0, .int .i64 0, .int .i64 0, .slice none 0 0, .slice none 0 0, .int .i64 3]) (by simp [results, Tryd.results16, go_sem, r0, r1, r2, r3, r4, r5, r6, r7, r8]) rfl ⟨.inl ⟨HNO.out, rfl⟩, HBF.out⟩
              · have hDn : PH D ≠ none := by rw [← heq]; exact hn
                obtain rfl : i = D := hall2 hDn
                have hCn : PT C ≠ none := by
                  intro q
                  have := stay HNH.out (HNP.out q) i
                  rw [Nat.zero_add] at this
                  exact hn this
                obtain rfl : k = C := HAL.out hCn
                rw [decide_eq_false hn] at g2
                clear heq hall2
                by_cases h0 : s.size = 0
                · have he := EvtR.empty_of s h0
                  have HNO : Hid (¬ (PH i ≠ none ∧ s.size ≠ 0 ∧ T = s)) := hid_intro (fun q => q.2.1 h0)
                  go_wp2_with fail
                  clear gl g0 g1 g2 gf0 gf1 gf2
                  refine (HIL.out _).mono ?_
                  rintro e wI ⟨rfl, hbI⟩
                  have HBI := hid_intro (HB.out.trans (hbI.mono HB.out.size))
                  have HPI := hid_intro (HP.out.below hbI)
                  clear hbI
                  have hp9 := HPI.out
                  have hl9 := hp9.lt
                  obtain ⟨ov0, r0⟩ := hp9.has 0 (by omega)
                  have f0 := hp9.free 0 (by omega)
                  obtain ⟨ov1, r1⟩ := hp9.has 1 (by omega)
                  have f1 := hp9.free 1 (by omega)
                  obtain ⟨ov2, r2⟩ := hp9.has 2 (by omega)
                  have f2 := hp9.free 2 (by omega)
                  obtain ⟨ov3, r3⟩ := hp9.has 3 (by omega)
                  have f3 := hp9.free 3 (by omega)
                  obtain ⟨ov4, r4⟩ := hp9.has 4 (by omega)
                  have f4 := hp9.free 4 (by omega)
                  obtain ⟨ov5, r5⟩ := hp9.has 5 (by omega)
                  have f5 := hp9.free 5 (by omega)
                  obtain ⟨ov6, r6⟩ := hp9.has 6 (by omega)
                  have f6 := hp9.free 6 (by omega)
                  obtain ⟨ov7, r7⟩ := hp9.has 7 (by omega)
                  have f7 := hp9.free 7 (by omega)
                  obtain ⟨ov8, r8⟩ := hp9.has 8 (by omega)
                  have f8 := hp9.free 8 (by omega)
                  have hgf := StR.stL_grown w.heap.size [.string ⟨#[]⟩, .string ⟨#[]⟩, .int .i64 0, .int .i64 0, .int .i64 0, .int .i64 0, .slice none 0 0, .slice none 0 0, .int .i64 3] 0 wI
                  have HBF := hid_intro (HBI.out.grown hgf HBI.out.size (fun k e => by simp only [Option.some.injEq] at e; omega))
                  simp only [StR.stL, Nat.zero_add, Nat.reduceAdd] at HBF
                  clear hgf hp9
                  go_wp2_with fail
                  refine bodyPost_ret (v := .agg #[.string ⟨#[]⟩, .string ⟨#[]⟩, .int .i64 0, .int .i64 0, .int .i64 0, .int .i64 0, .slice none 0 0, .slice none 0 0, .int .i64 3]) (by simp [results, Tryd.results16, go_sem, r0, r1, r2, r3, r4, r5, r6, r7, r8]) rfl ⟨.inl ⟨HNO.out, rfl⟩, HBF.out⟩
                obtain ⟨he, he2⟩ := EvtR.full_of s h0
                have v0 : wr.cell? ⟨bV, 0, none⟩ = some (.string a) := HV.out.1.2 0 (by simp)
                have v1 : wr.cell? ⟨bV, 1, none⟩ = some (.string m) := HV.out.1.2 1 (by simp)
                have v2 : wr.cell? ⟨bV, 2, none⟩ = some (.int .i64 mo) := HV.out.1.2 2 (by simp)
                have v3 : wr.cell? ⟨bV, 3, none⟩ = some (.int .i64 ev) := HV.out.1.2 3 (by simp)
                have v4 : wr.cell? ⟨bV, 4, none⟩ = some (.int .i64 su) := HV.out.1.2 4 (by simp)
                have v5 : wr.cell? ⟨bV, 5, none⟩ = some (.int .i64 mx) := HV.out.1.2 5 (by simp)
                have v6 : wr.cell? ⟨bV, 6, none⟩ = some (.slice ta k tc) := HV.out.1.2 6 (by simp)
                have v7 : wr.cell? ⟨bV, 7, none⟩ = some (.slice ha i hc) := HV.out.1.2 7 (by simp)
                have vl := HV.out.1.1
                have HCW := hid_intro (HWB.out ta tc ha hc wr (own_tg HT.out HTL.out) (own_hr HO.out HHL.out))
                by_cases hTs : T = s
                · have hq : (T.toList == s.toList) = true := by rw [hTs]; simp
                  have HOK : Hid (PH i ≠ none ∧ s.size ≠ 0 ∧ T = s) := hid_intro ⟨hn, h0, hTs⟩
                  clear hTs
                  go_wp2_with fail
                  refine HCW.out.mono ?_
                  rintro e wJ ⟨rfl, hbJ⟩
                  replace HB := hid_intro (HB.out.trans (hbJ.mono HB.out.size))
                  replace HP := hid_intro (HP.out.below hbJ)
                  replace HV := hid_intro (HV.out.below hbJ)
                  replace HT := hid_intro (RowG.own_below HT.out hbJ)
                  replace HO := hid_intro (RowG.own_below HO.out hbJ)
                  clear hbJ HA gl g0 g1 g2 gf0 gf1 gf2 HCW
                  clear v0 v1 v2 v3 v4 v5 v6 v7 vl
                  have v0 : wJ.cell? ⟨bV, 0, none⟩ = some (.string a) := HV.out.1.2 0 (by simp)
                  have v1 : wJ.cell? ⟨bV, 1, none⟩ = some (.string m) := HV.out.1.2 1 (by simp)
                  have v2 : wJ.cell? ⟨bV, 2, none⟩ = some (.int .i64 mo) := HV.out.1.2 2 (by simp)
                  have v3 : wJ.cell? ⟨bV, 3, none⟩ = some (.int .i64 ev) := HV.out.1.2 3 (by simp)
                  have v4 : wJ.cell? ⟨bV, 4, none⟩ = some (.int .i64 su) := HV.out.1.2 4 (by simp)
                  have v5 : wJ.cell? ⟨bV, 5, none⟩ = some (.int .i64 mx) := HV.out.1.2 5 (by simp)
                  have v6 : wJ.cell? ⟨bV, 6, none⟩ = some (.slice ta k tc) := HV.out.1.2 6 (by simp)
                  have v7 : wJ.cell? ⟨bV, 7, none⟩ = some (.slice ha i hc) := HV.out.1.2 7 (by simp)
                  have vl := HV.out.1.1
                  have hp9 := HP.out
                  have hl9 := hp9.lt
                  obtain ⟨ov0, r0⟩ := hp9.has 0 (by omega)
                  have f0 := hp9.free 0 (by omega)
                  obtain ⟨ov1, r1⟩ := hp9.has 1 (by omega)
                  have f1 := hp9.free 1 (by omega)
                  obtain ⟨ov2, r2⟩ := hp9.has 2 (by omega)
                  have f2 := hp9.free 2 (by omega)
                  obtain ⟨ov3, r3⟩ := hp9.has 3 (by omega)
                  have f3 := hp9.free 3 (by omega)
                  obtain ⟨ov4, r4⟩ := hp9.has 4 (by omega)
                  have f4 := hp9.free 4 (by omega)
                  obtain ⟨ov5, r5⟩ := hp9.has 5 (by omega)
                  have f5 := hp9.free 5 (by omega)
                  obtain ⟨ov6, r6⟩ := hp9.has 6 (by omega)
                  have f6 := hp9.free 6 (by omega)
                  obtain ⟨ov7, r7⟩ := hp9.has 7 (by omega)
                  have f7 := hp9.free 7 (by omega)
                  obtain ⟨ov8, r8⟩ := hp9.has 8 (by omega)
                  have f8 := hp9.free 8 (by omega)
                  have hgf := StR.stL_grown w.heap.size [.string a, .string m, .int .i64 mo, .int .i64 ev, .int .i64 su, .int .i64 mx, .slice ta k tc, .slice ha i hc, .int .i64 0] 0 wJ
                  have HBF := hid_intro (HB.out.grown hgf HB.out.size (fun k e => by simp only [Option.some.injEq] at e; omega))
                  have HTF := hid_intro (own_keepG HT.out hgf (by omega))
                  have HHF := hid_intro (own_keepG HO.out hgf (by omega))
                  simp only [StR.stL, Nat.zero_add, Nat.reduceAdd] at HBF HTF HHF
                  clear hgf hp9
                  go_wp2_with fail
                  refine bodyPost_ret (v := .agg #[.string a, .string m, .int .i64 mo, .int .i64 ev, .int .i64 su, .int .i64 mx, .slice ta k tc, .slice ha i hc, .int .i64 0]) (by simp [results, Tryd.results16, go_sem, r0, r1, r2, r3, r4, r5, r6, r7, r8]) rfl ⟨.inr ⟨HOK.out, ta, tc, ha, hc, rfl, own_low HTF.out (by omega), own_low HHF.out (by omega)⟩, HBF.out⟩
                · have hq : (T.toList == s.toList) = false := by
                    simp only [beq_eq_false_iff_ne, ne_eq]
                    exact fun h => hTs (LtR.toList_inj h)
                  have HNO : Hid (¬ (PH i ≠ none ∧ s.size ≠ 0 ∧ T = s)) := hid_intro (fun q => hTs q.2.2)
                  have hqn : T.toList ≠ s.toList := fun h => hTs (LtR.toList_inj h)
                  clear hTs
                  go_wp2_with fail
                  refine HCW.out.mono ?_
                  rintro e wJ ⟨rfl, hbJ⟩
                  replace HB := hid_intro (HB.out.trans (hbJ.mono HB.out.size))
                  replace HP := hid_intro (HP.out.below hbJ)
                  replace HV := hid_intro (HV.out.below hbJ)
                  replace HT := hid_intro (RowG.own_below HT.out hbJ)
                  replace HO := hid_intro (RowG.own_below HO.out hbJ)
                  clear hbJ HA gl g0 g1 g2 gf0 gf1 gf2 HCW
                  clear v0 v1 v2 v3 v4 v5 v6 v7 vl
                  go_wp2_with fail
                  refine (HIL.out _).mono ?_
                  rintro e wI ⟨rfl, hbI⟩
                  have HBI := hid_intro (HB.out.trans (hbI.mono HB.out.size))
                  have HPI := hid_intro (HP.out.below hbI)
                  clear hbI
                  have hp9 := HPI.out
                  have hl9 := hp9.lt
                  obtain ⟨ov0, r0⟩ := hp9.has 0 (by omega)
                  have f0 := hp9.free 0 (by omega)
                  obtain ⟨ov1, r1⟩ := hp9.has 1 (by omega)
                  have f1 := hp9.free 1 (by omega)
                  obtain ⟨ov2, r2⟩ := hp9.has 2 (by omega)
                  have f2 := hp9.free 2 (by omega)
                  obtain ⟨ov3, r3⟩ := hp9.has 3 (by omega)
                  have f3 := hp9.free 3 (by omega)
                  obtain ⟨ov4, r4⟩ := hp9.has 4 (by omega)
                  have f4 := hp9.free 4 (by omega)
                  obtain ⟨ov5, r5⟩ := hp9.has 5 (by omega)
                  have f5 := hp9.free 5 (by omega)
                  obtain ⟨ov6, r6⟩ := hp9.has 6 (by omega)
                  have f6 := hp9.free 6 (by omega)
                  obtain ⟨ov7, r7⟩ := hp9.has 7 (by omega)
                  have f7 := hp9.free 7 (by omega)
                  obtain ⟨ov8, r8⟩ := hp9.has 8 (by omega)
                  have f8 := hp9.free 8 (by omega)
                  have hgf := StR.stL_grown w.heap.size [.string ⟨#[]⟩, .string ⟨#[]⟩, .int .i64 0, .int .i64 0, .int .i64 0, .int .i64 0, .slice none 0 0, .slice none 0 0, .int .i64 3] 0 wI
                  have HBF := hid_intro (HBI.out.grown hgf HBI.out.size (fun k e => by simp only [Option.some.injEq] at e; omega))
                  simp only [StR.stL, Nat.zero_add, Nat.reduceAdd] at HBF
                  clear hgf hp9
                  go_wp2_with fail
                  refine bodyPost_ret (v := .agg #[.string ⟨#[]⟩, .string ⟨#[]⟩, .int .i64 0, .int .i64 0, .int .i64 0, .int .i64 0, .slice none 0 0, .slice none 0 0, .int .i64 3]) (by simp [results, Tryd.results16, go_sem, r0, r1, r2, r3, r4, r5, r6, r7, r8]) rfl ⟨.inl ⟨HNO.out, rfl⟩, HBF.out⟩
            · have hn : PH i = none := of_decide_eq_true hd2
              have HNO : Hid (¬ (PH D ≠ none ∧ s.size ≠ 0 ∧ T = s)) := hid_intro (fun q => q.1 (by rw [← heq]; exact hn))
              rw [hd2] at g2
              clear heq hall2 hn hd2
              go_wp2_with fail
              clear gl g0 g1 g2 gf0 gf1 gf2
              refine (HIL.out _).mono ?_
              rintro e wI ⟨rfl, hbI⟩
              have HBI := hid_intro (HB.out.trans (hbI.mono HB.out.size))
              have HPI := hid_intro (HP.out.below hbI)
              clear hbI
              have hp9 := HPI.out
              have hl9 := hp9.lt
              obtain ⟨ov0, r0⟩ := hp9.has 0 (by omega)
              have f0 := hp9.free 0 (by omega)
              obtain ⟨ov1, r1⟩ := hp9.has 1 (by omega)
              have f1 := hp9.free 1 (by omega)
              obtain ⟨ov2, r2⟩ := hp9.has 2 (by omega)
              have f2 := hp9.free 2 (by omega)
              obtain ⟨ov3, r3⟩ := hp9.has 3 (by omega)
              have f3 := hp9.free 3 (by omega)
              obtain ⟨ov4, r4⟩ := hp9.has 4 (by omega)
              have f4 := hp9.free 4 (by omega)
              obtain ⟨ov5, r5⟩ := hp9.has 5 (by omega)
              have f5 := hp9.free 5 (by omega)
              obtain ⟨ov6, r6⟩ := hp9.has 6 (by omega)
              have f6 := hp9.free 6 (by omega)
              obtain ⟨ov7, r7⟩ := hp9.has 7 (by omega)
              have f7 := hp9.free 7 (by omega)
              obtain ⟨ov8, r8⟩ := hp9.has 8 (by omega)
              have f8 := hp9.free 8 (by omega)
              have hgf := StR.stL_grown w.heap.size [.string ⟨#[]⟩, .string ⟨#[]⟩, .int .i64 0, .int .i64 0, .int .i64 0, .int .i64 0, .slice none 0 0, .slice none 0 0, .int .i64 3] 0 wI
              have HBF := hid_intro (HBI.out.grown hgf HBI.out.size (fun k e => by simp only [Option.some.injEq] at e; omega))
              simp only [StR.stL, Nat.zero_add, Nat.reduceAdd] at HBF
              clear hgf hp9
              go_wp2_with fail
              refine bodyPost_ret (v := .agg #[.string ⟨#[]⟩, .string ⟨#[]⟩, .int .i64 0, .int .i64 0, .int .i64 0, .int .i64 0, .slice none 0 0, .slice none 0 0, .int .i64 3]) (by simp [results, Tryd.results16, go_sem, r0, r1, r2, r3, r4, r5, r6, r7, r8]) rfl ⟨.inl ⟨HNO.out, rfl⟩, HBF.out⟩
      · rw [hd] at g2
        go_wp2_with fail
        clear g0 g1 g2 gl gf0 gf1 gf2
        refine (RC2.out _ HA.out).mono ?_
        rintro e wC ⟨rfl, hA, hq⟩
        replace HA := hid_intro hA
        replace HB := hid_intro (HB.out.grown hq HB.out.size (fun k e => by simp only [Option.some.injEq] at e; omega))
        replace HP := hid_intro (StR.pt_far HP.out hq (by omega))
        replace HV := hid_intro (HV.out.grown hq (by simp; omega))
        replace HO := hid_intro (own_keepG HO.out hq (by omega))
        clear hA hq
        have HT := HO
        clear HO
        go_wp2_with fail
        go_loopw [6] (fun z wx => ∃ (i : Nat) (ha : Option Addr) (hc : Nat), i ≤ D ∧ z = .int .i64 ((D : Int) - (i : Int)) ∧ Hid (SAfter (w.heap.size + 1) s (PH i) wx) ∧ Hid (Below w.heap.size w wx) ∧ Hid (Pt w.heap.size 9 wx) ∧ Hid (BlkW bV [.string a, .string m, .int .i64 mo, .int .i64 ev, .int .i64 su, .int .i64 mx, .slice ta k tc, .slice ha i hc] wx) ∧ Hid (wx.ownsRow (bV + 1) 9 1 (.slice ta k tc) k (cellsAll tcells (LT k))) ∧ Hid (wx.ownsRow (bV + 1) 65 2 (.slice ha i hc) i (cellsAll H.cells (LH i)))) (fun z _ => (intOf z).toNat)
        case atStart => exact ⟨0, none, 0, by omega, by simp, HA, HB, HP, HV, HT, hid_intro (by rw [HH0.out]; exact World.ownsRow_nil _ _ _ _)⟩
        case round =>
          clear HA HB HP HV HT
          obtain ⟨i, ha, hc, hki, rfl, HA, HB, HP, HV, HT, HO⟩ := hrel
          obtain ⟨pp, hSR⟩ := HA.out.open
          obtain ⟨gl, g0, g1, g2, gf0, gf1, gf2⟩ := hSR
          have hgo : (i < D ∧ PH i ≠ none) ∨ (PH i = PH D ∧ (PH D ≠ none → i = D)) := by
            by_cases q : i < D
            · by_cases q2 : PH i = none
              · have := stay HNH.out q2 (D - i)
                rw [show i + (D - i) = D by omega] at this
                exact .inr ⟨q2.trans this.symm, fun h => absurd this h⟩
              · exact .inl ⟨q, q2⟩
            · obtain rfl : i = D := by omega
              exact .inr ⟨rfl, fun _ => rfl⟩
          rcases hgo with ⟨hlt, hno⟩ | ⟨heq, hall2⟩
          · have hlt2 : (0 : Int) < (D : Int) - (i : Int) := by omega
            have hd : decide (PH i = none) = false := decide_eq_false hno
            rw [hd] at g2
            clear hd hno
            obtain ⟨om, rd1, rd2⟩ := RH.out i
            have RD1 := hid_intro rd1
            have RD2 := hid_intro rd2
            clear rd1 rd2
            have HLM := hid_intro (HHM.out i)
            generalize hh i = X at *
            generalize ss i = Y at *
            go_wp2_with fail
            clear gl g0 g1 g2 gf0 gf1 gf2
            refine (RD1.out _ HA.out).mono ?_
            rintro e u1 ⟨rfl, hA, hq⟩
            replace HA := hid_intro hA
            replace HB := hid_intro (HB.out.grown hq HB.out.size (fun k e => by simp only [Option.some.injEq] at e; omega))
            replace HP := hid_intro (StR.pt_far HP.out hq (by omega))
            replace HV := hid_intro (HV.out.grown hq (by simp; omega))
            replace HT := hid_intro (own_keepG HT.out hq (by omega))
            replace HO := hid_intro (own_keepG HO.out hq (by omega))
            clear hA hq
            obtain ⟨u2, hu2⟩ : ∃ z, z = u1.alloc (.cells #[.int .i64 X, .int .i64 0] 65) := ⟨_, rfl⟩
            have al : Below u1.heap.size u1 u2 := by rw [hu2]; exact (Below.refl _ _).alloc (Nat.le_refl _) _
            have HQ : Hid (BlkW u1.heap.size [.int .i64 X, .int .i64 0] u2) := hid_intro (by rw [hu2]; exact BlkW.new u1 [.int .i64 X, .int .i64 0] 65)
            have hlq : bV < u1.heap.size := HV.out.1.1
            have HQT : Hid (∀ b, (.slice ta k tc : Value).ownBlock = some b → b < u1.heap.size) := hid_intro (fun b hb => (HT.out.lt b hb).2)
            have HQO : Hid (∀ b, (.slice ha i hc : Value).ownBlock = some b → b < u1.heap.size) := hid_intro (fun b hb => (HO.out.lt b hb).2)
            replace HA := hid_intro (satt HA.out al)
            replace HB := hid_intro (HB.out.trans (al.mono HB.out.size))
            replace HP := hid_intro (HP.out.below al)
            replace HV := hid_intro (HV.out.below al)
            replace HT := hid_intro (RowG.own_below HT.out al)
            replace HO := hid_intro (RowG.own_below HO.out al)
            have HW := hid_intro hu2
            obtain ⟨bQ, hbQ⟩ : ∃ z, z = u1.heap.size := ⟨_, rfl⟩
            rw [← hbQ] at HQ hlq HQO HQT
            have HBQ := hid_intro hbQ
            clear hu2 hbQ al
            go_wp2_with fail
            rw [← HW.out, ← HBQ.out]
            clear HW HBQ
            refine (RD2.out _ HA.out).mono ?_
            rintro e u3 ⟨rfl, hA, hq⟩
            replace HQ := hid_intro (HQ.out.grown hq (by simp; omega))
            replace HA := hid_intro hA
            replace HB := hid_intro (HB.out.grown hq HB.out.size (fun k e => by simp only [Option.some.injEq] at e; omega))
            replace HP := hid_intro (StR.pt_far HP.out hq (by omega))
            replace HV := hid_intro (HV.out.grown hq (by simp; omega))
            replace HT := hid_intro (own_keepG HT.out hq (by omega))
            replace HO := hid_intro (own_keepG HO.out hq (by omega))
            clear hA hq
            have hl := HQ.out.1.1
            have vl := HV.out.1.1
            have v7 := HV.out.1.2 7 (by simp)
            have f7 := HV.out.2 7 (by simp)
            have hqv : bQ ≠ bV := by omega
            have hvq : bV ≠ bQ := by omega
            have hcc := HQ.out.1.2 1 (by simp)
            have hc0 := HQ.out.1.2 0 (by simp)
            have hff := HQ.out.2 1 (by simp)
            simp only [List.getElem?_cons_zero, List.getElem?_cons_succ] at hcc hc0 v7
            have hgs := RowG.grown_set u3 bQ 1 (.int .i64 Y)
            replace HQ := hid_intro (HQ.out.set 1 (.int .i64 Y) (by simp))
            replace HA := hid_intro (HA.out.grown hgs (by simp; omega))
            replace HB := hid_intro (HB.out.grown hgs HB.out.size (fun k e => by simp only [Option.some.injEq] at e; omega))
            replace HP := hid_intro (StR.pt_far HP.out hgs (by omega))
            replace HV := hid_intro (HV.out.grown hgs (by simp; omega))
            replace HT := hid_intro (own_keepO HT.out hgs (fun b hb => by have := HQT.out b hb; simp; omega))
            replace HO := hid_intro (own_keepO HO.out hgs (fun b hb => by have := HQO.out b hb; simp; omega))
            simp only [List.set_cons_zero, List.set_cons_succ] at HQ
            have hnw : ∀ j u, ([.int .i64 X, .int .i64 Y] : List Value)[j]? = some u → ((u3.setCell ⟨bQ, 1, none⟩ (.int .i64 Y)).alloc (.cells #[.int .i64 X, .int .i64 Y] 65)).cell? ((⟨u3.heap.size, 0, none⟩ : Addr).add j) = some u := by
              have h := hr_cells (u3.setCell ⟨bQ, 1, none⟩ (.int .i64 Y)) X Y 65
              simpa using h
            have HAL2 := hid_intro (fun b (hb : (.slice ha i hc : Value).ownBlock = some b) => (HO.out.lt b hb).1)
            have hbv : bV + 1 ≤ u3.heap.size := by omega
            clear hgs
            go_wp2_with (at_builtin; refine wpList_append_own _ rfl _ _ 30 rfl (bV + 1) 65 j0 (.agg #[.int .i64 0, .int .i64 0]) 2 16 Tryd.underlying30 gi gz0 gz1 gz2 rfl (by decide) _ _ _ rfl (HO.out.alloc _) ⟨u3.heap.size, 0, none⟩ 1 1 [.int .i64 X, .int .i64 Y] rfl rfl hnw (hr_one _ _) ?d3 ?d4 ?d5 ?_)
            case d3 => unfold maxLen; omega
            case d4 => omega
            case d5 => simp; omega
            intro v9 w9 hown hgrow hne
            have hO9 : w9.ownsRow (bV + 1) 65 2 v9 (i + 1) (cellsAll H.cells (LH (i + 1))) := by rw [HLM.out, cellsAll_snoc]; exact hown
            have al := ((Below.refl _ (u3.setCell ⟨bQ, 1, none⟩ (.int .i64 Y))).alloc (Nat.le_refl _) (.cells #[.int .i64 X, .int .i64 Y] 65))
            replace HA := hid_intro ((satt HA.out al).grown hgrow (fun e => by have := HAL2.out _ e.symm; omega))
            replace HB := hid_intro ((HB.out.trans (al.mono HB.out.size)).grown hgrow (HB.out.trans (al.mono HB.out.size)).size (fun X e => by have := HAL2.out _ e; omega))
            replace HP := hid_intro (pt_row (HP.out.below al) hgrow (fun e => by have := HAL2.out _ e.symm; omega))
            replace HV := hid_intro ((HV.out.below al).grown hgrow (fun e => by have := HAL2.out _ e.symm; omega))
            replace HT := hid_intro (own_keepO (RowG.own_below HT.out al) hgrow (own_apart (RowG.own_below HT.out al) (RowG.own_below HO.out al) (by decide)))
            obtain ⟨sb, sc, rfl⟩ := own_form hO9
            have HO9 := hid_intro hO9
            clear hown hgrow hne hnw hO9 al hl hcc hc0 hff vl v7 f7 HO HQ HAL2
            have vl := HV.out.1.1
            have v7 := HV.out.1.2 7 (by simp)
            have f7 := HV.out.2 7 (by simp)
            simp only [List.getElem?_cons_zero, List.getElem?_cons_succ] at v7
            have hgs := RowG.grown_set w9 bV 7 (.slice (some ⟨sb, 0, none⟩) (i + 1) sc)
            have HA9 := hid_intro (HA.out.grown hgs (by simp; omega))
            have HB9 := hid_intro (HB.out.grown hgs HB.out.size (fun k e => by simp only [Option.some.injEq] at e; omega))
            have HP9 := hid_intro (StR.pt_far HP.out hgs (by omega))
            have HV9 := hid_intro (HV.out.set 7 (.slice (some ⟨sb, 0, none⟩) (i + 1) sc) (by simp))
            have HT9 := hid_intro (own_keepG HT.out hgs (by omega))
            have HO8 := hid_intro (own_keepG HO9.out hgs (by omega))
            simp only [List.set_cons_zero, List.set_cons_succ] at HV9
            clear hgs HA HB HP HV HT HO9
            go_wp2_with fail
            go_roundw
            case rel => exact ⟨i + 1, some ⟨sb, 0, none⟩, sc, by omega, by go_num, HA9, HB9, HP9, HV9, HT9, HO8⟩
            case measure => simp [intOf]; omega
          · have hex2 : (¬ (0 : Int) < (D : Int) - (i : Int)) ∨ ((0 : Int) < (D : Int) - (i : Int) ∧ decide (PH i = none) = true) := by
              by_cases q : i < D
              · refine .inr ⟨by omega, decide_eq_true ?_⟩
                rcases h9 : PH D with _ | p
                · rw [heq, h9]
                · have := hall2 (by rw [h9]; simp)
                  omega
              · exact .inl (by omega)
            rcases hex2 with hex2 | ⟨hex2, hd2⟩
            · have hD2 : PH i = none ∨ PH i ≠ none := by by_cases q : PH i = none; exact .inl q; exact .inr q
              rcases hD2 with hn | hn
              · have HNO : Hid (¬ (PH D ≠ none ∧ s.size ≠ 0 ∧ T = s)) := hid_intro (fun q => q.1 (by rw [← heq]; exact hn))
                rw [decide_eq_true hn] at g2
                clear heq hall2 hn
                go_wp2_with fail
                clear gl g0 g1 g2 gf0 gf1 gf2
                refine (HIL.out _).mono ?_
                rintro e wI ⟨rfl, hbI⟩
                have HBI := hid_intro (HB.out.trans (hbI.mono HB.out.size))
                have HPI := hid_intro (HP.out.below hbI)
                clear hbI
                have hp9 := HPI.out
                have hl9 := hp9.lt
                obtain ⟨ov0, r0⟩ := hp9.has 0 (by omega)
                have f0 := hp9.free 0 (by omega)
                obtain ⟨ov1, r1⟩ := hp9.has 1 (by omega)
                have f1 := hp9.free 1 (by omega)
                obtain ⟨ov2, r2⟩ := hp9.has 2 (by omega)
                have f2 := hp9.free 2 (by omega)
                obtain ⟨ov3, r3⟩ := hp9.has 3 (by omega)
                have f3 := hp9.free 3 (by omega)
                obtain ⟨ov4, r4⟩ := hp9.has 4 (by omega)
                have f4 := hp9.free 4 (by omega)
                obtain ⟨ov5, r5⟩ := hp9.has 5 (by omega)
                have f5 := hp9.free 5 (by omega)
                obtain ⟨ov6, r6⟩ := hp9.has 6 (by omega)
                have f6 := hp9.free 6 (by omega)
                obtain ⟨ov7, r7⟩ := hp9.has 7 (by omega)
                have f7 := hp9.free 7 (by omega)
                obtain ⟨ov8, r8⟩ := hp9.has 8 (by omega)
                have f8 := hp9.free 8 (by omega)
                have hgf := StR.stL_grown w.heap.size [.string ⟨#[]⟩, .string ⟨#[]⟩, .int .i64 0, .int .i64 0, .int .i64 0, .int .i64 0, .slice none 0 0, .slice none 0 0, .int .i64 3] 0 wI
                have HBF := hid_intro (HBI.out.grown hgf HBI.out.size (fun k e => by simp only [Option.some.injEq] at e; omega))
                simp only [StR.stL, Nat.zero_add, Nat.reduceAdd] at HBF
                clear hgf hp9
                go_wp2_with fail
                refine bodyPost_ret (v := .agg #[.string ⟨#[]⟩, .string ⟨#[]⟩, .int .i64 0, .int .i64 0, .int .i64 0, .int .i64 0, .slice none 0 0, .slice none 0 0, .int .i64 3]) (by simp [results, Tryd.results16, go_sem, r0, r1, r2, r3, r4, r5, r6, r7, r8]) rfl ⟨.inl ⟨HNO.out, rfl⟩, HBF.out⟩
              · have hDn : PH D ≠ none := by rw [← heq]; exact hn
                obtain rfl : i = D := hall2 hDn
                have hCn : PT C ≠ none := by
                  intro q
                  have := stay HNH.out (HNP.out q) i
                  rw [Nat.zero_add] at this
                  exact hn this
                obtain rfl : k = C := HAL.out hCn
                omega
            · have hn : PH i = none := of_decide_eq_true hd2
              have HNO : Hid (¬ (PH D ≠ none ∧ s.size ≠ 0 ∧ T = s)) := hid_intro (fun q => q.1 (by rw [← heq]; exact hn))
              rw [hd2] at g2
              clear heq hall2 hn hd2
              go_wp2_with fail
              clear gl g0 g1 g2 gf0 gf1 gf2
              refine (HIL.out _).mono ?_
              rintro e wI ⟨rfl, hbI⟩
              have HBI := hid_intro (HB.out.trans (hbI.mono HB.out.size))
              have HPI := hid_intro (HP.out.below hbI)
              clear hbI
              have hp9 := HPI.out
              have hl9 := hp9.lt
              obtain ⟨ov0, r0⟩ := hp9.has 0 (by omega)
              have f0 := hp9.free 0 (by omega)
              obtain ⟨ov1, r1⟩ := hp9.has 1 (by omega)
              have f1 := hp9.free 1 (by omega)
              obtain ⟨ov2, r2⟩ := hp9.has 2 (by omega)
              have f2 := hp9.free 2 (by omega)
              obtain ⟨ov3, r3⟩ := hp9.has 3 (by omega)
              have f3 := hp9.free 3 (by omega)
              obtain ⟨ov4, r4⟩ := hp9.has 4 (by omega)
              have f4 := hp9.free 4 (by omega)
              obtain ⟨ov5, r5⟩ := hp9.has 5 (by omega)
              have f5 := hp9.free 5 (by omega)
              obtain ⟨ov6, r6⟩ := hp9.has 6 (by omega)
              have f6 := hp9.free 6 (by omega)
              obtain ⟨ov7, r7⟩ := hp9.has 7 (by omega)
              have f7 := hp9.free 7 (by omega)
              obtain ⟨ov8, r8⟩ := hp9.has 8 (by omega)
              have f8 := hp9.free 8 (by omega)
              have hgf := StR.stL_grown w.heap.size [.string ⟨#[]⟩, .string ⟨#[]⟩, .int .i64 0, .int .i64 0, .int .i64 0, .int .i64 0, .slice none 0 0, .slice none 0 0, .int .i64 3] 0 wI
              have HBF := hid_intro (HBI.out.grown hgf HBI.out.size (fun k e => by simp only [Option.some.injEq] at e; omega))
              simp only [StR.stL, Nat.zero_add, Nat.reduceAdd] at HBF
              clear hgf hp9
              go_wp2_with fail
              refine bodyPost_ret (v := .agg #[.string ⟨#[]⟩, .string ⟨#[]⟩, .int .i64 0, .int .i64 0, .int .i64 0, .int .i64 0, .slice none 0 0, .slice none 0 0, .int .i64 3]) (by simp [results, Tryd.results16, go_sem, r0, r1, r2, r3, r4, r5, r6, r7, r8]) rfl ⟨.inl ⟨HNO.out, rfl⟩, HBF.out⟩
end WinR
end Go.Proofs.YtnlmpejgiakepaaDoor
namespace Go.Proofs.YtnlmpejgiakepaaDoor
open Go.ChangeShapes Go.WideShapes Go.ChangeAt Go.RowKit
set_option linter.unusedVariables false
namespace WinR
open RowG (MadeG Rws)
open EvtR (Pt)
open CatR (Blk Blk.new)
def IsO (v : Value) (z : Wd) (cd : Int) (w : World) : Prop := ∃ ta tc ha hc, v = .agg (ocells z ta tc ha hc cd) ∧ Tgs ta z.ts w ∧ Hrs ha z.hs w
theorem IsO.below {v : Value} {z : Wd} {cd : Int} {w w' : World} (h : IsO v z cd w) (hb : Below w.heap.size w w') : IsO v z cd w' := by
  obtain ⟨ta, tc, ha, hc, e, h1, h2⟩ := h
  exact ⟨ta, tc, ha, hc, e, h1.below hb, h2.below hb⟩
theorem NewO.is {base : Nat} {z : Wd} {cd : Int} {v : Value} {w : World} (h : NewO base z cd v w) : IsO v z cd w := by
  obtain ⟨ta, tc, ha, hc, e, h1, h2, _⟩ := h
  exact ⟨ta, tc, ha, hc, e, h1, h2⟩
theorem MadeO.is {base : Nat} {z : Wd} {cd : Int} {v : Value} {w : World} (h : MadeO base z cd v w) : IsO v z cd w := by
  obtain ⟨ta, tc, ha, hc, e, h1, h2, _⟩ := h
  exact ⟨ta, tc, ha, hc, e, h1.rws, h2.rws⟩
set_option maxRecDepth 100000 in
set_option maxHeartbeats 8000000 in
theorem eqO_in (a m : ByteArray) (mo ev su mx cd : Int) (ta : Option Addr) (tl tc : Nat) (ha : Option Addr) (hl hc : Nat) (ta' : Option Addr) (tc' : Nat) (ha' : Option Addr) (hc' : Nat) (w : World)
    (hE : ∀ W, Below w.heap.size w W → Calls Tryd.prog 12 #[.agg #[.string a, .string m, .int .i64 mo, .int .i64 ev, .int .i64 su, .int .i64 mx, .slice ta tl tc, .slice ha hl hc], .agg #[.string a, .string m, .int .i64 mo, .int .i64 ev, .int .i64 su, .int .i64 mx, .slice ta' tl tc', .slice ha' hl hc']] W fun e w' => e = .returned (.bool true) ∧ Below W.heap.size W w') :
    Calls Tryd.prog 11 #[.agg #[.string a, .string m, .int .i64 mo, .int .i64 ev, .int .i64 su, .int .i64 mx, .slice ta tl tc, .slice ha hl hc, .int .i64 cd], .agg #[.string a, .string m, .int .i64 mo, .int .i64 ev, .int .i64 su, .int .i64 mx, .slice ta' tl tc', .slice ha' hl hc', .int .i64 cd]] w fun e w' => e = .returned (.bool true) ∧ Below w.heap.size w w' := by
  have HE := hid_intro hE
  clear hE
  have HA0 : Hid (Below w.heap.size w ((w.alloc (.cells #[.string a, .string m, .int .i64 mo, .int .i64 ev, .int .i64 su, .int .i64 mx, .slice ta tl tc, .slice ha hl hc, .int .i64 cd] 34)).alloc (.cells #[.string a, .string m, .int .i64 mo, .int .i64 ev, .int .i64 su, .int .i64 mx, .slice ta' tl tc', .slice ha' hl hc', .int .i64 cd] 34))) := hid_intro (((Below.refl _ _).alloc (by simp; try omega) _).alloc (by simp; try omega) _)
  have HX0 := hid_intro ((Blk.new w [.string a, .string m, .int .i64 mo, .int .i64 ev, .int .i64 su, .int .i64 mx, .slice ta tl tc, .slice ha hl hc, .int .i64 cd] 34).below ((Below.refl _ _).alloc (Nat.le_refl _) (.cells #[.string a, .string m, .int .i64 mo, .int .i64 ev, .int .i64 su, .int .i64 mx, .slice ta' tl tc', .slice ha' hl hc', .int .i64 cd] 34)))
  have HY0 := hid_intro (Blk.new (w.alloc (.cells #[.string a, .string m, .int .i64 mo, .int .i64 ev, .int .i64 su, .int .i64 mx, .slice ta tl tc, .slice ha hl hc, .int .i64 cd] 34)) [.string a, .string m, .int .i64 mo, .int .i64 ev, .int .i64 su, .int .i64 mx, .slice ta' tl tc', .slice ha' hl hc', .int .i64 cd] 34)
  have e1 : (w.alloc (.cells #[.string a, .string m, .int .i64 mo, .int .i64 ev, .int .i64 su, .int .i64 mx, .slice ta tl tc, .slice ha hl hc, .int .i64 cd] 34)).heap.size = w.heap.size + 1 := by simp
  rw [e1] at HY0
  clear e1
  go_enter Tryd.func11, Tryd.ntmps11
  go_wp2_with fail
  refine (HE.out _ HA0.out).mono ?_
  rintro e w1 ⟨rfl, hb1⟩
  have HB1 := hid_intro (HA0.out.trans (hb1.mono HA0.out.size))
  have hx := HX0.out.below hb1
  have hy := HY0.out.below hb1
  have x8 : w1.cell? ⟨w.heap.size, 8, none⟩ = some (.int .i64 cd) := hx.2 8 (by simp)
  have y8 : w1.cell? ⟨w.heap.size + 1, 8, none⟩ = some (.int .i64 cd) := hy.2 8 (by simp)
  have xl := hx.1
  have yl := hy.1
  clear hx hy hb1 HX0 HY0 HA0
  go_wp2_with fail
  go_ret
  exact ⟨rfl, HB1.out⟩
theorem eqO_any (v v' : Value) (z : Wd) (cd : Int) (w : World) (lt : z.ts.length ≤ 1048576) (lh : z.hs.length ≤ 1048576) (h : IsO v z cd w) (h' : IsO v' z cd w) :
    Calls Tryd.prog 11 #[v, v'] w fun e w' => e = .returned (.bool true) ∧ Below w.heap.size w w' := by
  obtain ⟨ta, tc, ha, hc, rfl, h1, h2⟩ := h
  obtain ⟨ta', tc', ha', hc', rfl, h1', h2'⟩ := h'
  exact eqO_in z.a z.m z.mo z.ev z.su z.mx cd ta z.ts.length tc ha z.hs.length hc ta' tc' ha' hc' w (fun W hW => eqW_any _ _ z W lt lh ⟨ta, tc, ha, hc, rfl, h1.below hW, h2.below hW⟩ ⟨ta', tc', ha', hc', rfl, h1'.below hW, h2'.below hW⟩)
set_option maxRecDepth 100000 in
set_option maxHeartbeats 8000000 in
theorem markO_in (D : World → Prop) (a m : ByteArray) (mo ev su mx cd Q : Int) (ta : Option Addr) (tl tc : Nat) (ha : Option Addr) (hl hc base top : Nat) (w : World)
    (hG : ∀ W, Below w.heap.size w W → Calls Tryd.prog 13 #[.agg #[.string a, .string m, .int .i64 mo, .int .i64 ev, .int .i64 su, .int .i64 mx, .slice ta tl tc, .slice ha hl hc], .int .i64 1] W fun e w' => e = .returned (.int .i64 Q) ∧ D w' ∧ Outs base top W w') :
    Calls Tryd.prog 14 #[.agg #[.string a, .string m, .int .i64 mo, .int .i64 ev, .int .i64 su, .int .i64 mx, .slice ta tl tc, .slice ha hl hc, .int .i64 cd], .int .i64 1] w fun e w' => e = .returned (.int .i64 Q) ∧ D w' ∧ Outs base top w w' := by
  have HG := hid_intro hG
  clear hG
  have HA0 : Hid (Below w.heap.size w (w.alloc (.cells #[.string a, .string m, .int .i64 mo, .int .i64 ev, .int .i64 su, .int .i64 mx, .slice ta tl tc, .slice ha hl hc, .int .i64 cd] 34))) := hid_intro ((Below.refl _ _).alloc (Nat.le_refl _) _)
  go_enter Tryd.func14, Tryd.ntmps14
  go_wp2_with fail
  refine (HG.out _ HA0.out).mono ?_
  rintro e w1 ⟨rfl, hD, ho⟩
  have HD := hid_intro hD
  have HO := hid_intro (((Outs.refl base top w).below HA0.out).trans ho)
  clear hD ho
  go_wp2_with fail
  go_ret
  exact ⟨rfl, HD.out, HO.out⟩
set_option maxRecDepth 100000 in
set_option maxHeartbeats 8000000 in
theorem heldO_in (a m : ByteArray) (mo ev su mx cd Q : Int) (hQ : ¬ Q < 0) (ta : Option Addr) (tl tc : Nat) (ha : Option Addr) (hl hc : Nat) (w : World)
    (hG : ∀ W, Below w.heap.size w W → Calls Tryd.prog 33 #[.agg #[.string a, .string m, .int .i64 mo, .int .i64 ev, .int .i64 su, .int .i64 mx, .slice ta tl tc, .slice ha hl hc], .int .i64 1] W fun e w' => e = .returned (.int .i64 Q) ∧ Below W.heap.size W w') :
    Calls Tryd.prog 15 #[.agg #[.string a, .string m, .int .i64 mo, .int .i64 ev, .int .i64 su, .int .i64 mx, .slice ta tl tc, .slice ha hl hc, .int .i64 cd], .int .i64 1] w fun e w' => e = .returned (.int .i64 Q) ∧ Below w.heap.size w w' := by
  have HG := hid_intro hG
  clear hG
  have HA0 : Hid (Below w.heap.size w (w.alloc (.cells #[.string a, .string m, .int .i64 mo, .int .i64 ev, .int .i64 su, .int .i64 mx, .slice ta tl tc, .slice ha hl hc, .int .i64 cd] 34))) := hid_intro ((Below.refl _ _).alloc (Nat.le_refl _) _)
  go_enter Tryd.func15, Tryd.ntmps15
  go_wp2_with fail
  refine (HG.out _ HA0.out).mono ?_
  rintro e w1 ⟨rfl, hb⟩
  have HO := hid_intro (HA0.out.trans (hb.mono HA0.out.size))
  clear hb
  go_wp2_with fail
  go_ret
  exact ⟨rfl, HO.out⟩
end WinR
end Go.Proofs.YtnlmpejgiakepaaDoor
namespace Go.Proofs.YtnlmpejgiakepaaDoor
open Go.ChangeShapes Go.WideShapes Go.ChangeAt Go.RowKit
set_option linter.unusedVariables false
namespace WinR
open RowG (MadeG Rws cellsAll)
open EvtR (Pt After SAfter rT pT rN pN rC pC rC_le rT_size)
open CatR (Blk Blk.new)
open DateR (Laid)
theorem sill2 (w : World) : Calls Tryd.prog 22 #[.int .i64 2] w fun e w' => e = .returned (.agg #[.string ⟨#[]⟩, .string ⟨#[]⟩, .int .i64 0, .int .i64 0, .int .i64 0, .int .i64 0, .slice none 0 0, .slice none 0 0, .int .i64 2]) ∧ Below w.heap.size w w' := by
  go_enter Tryd.func22, Tryd.ntmps22
  go_wp2
  refine bodyPost_ret (v := .agg #[.string ⟨#[]⟩, .string ⟨#[]⟩, .int .i64 0, .int .i64 0, .int .i64 0, .int .i64 0, .slice none 0 0, .slice none 0 0, .int .i64 2]) (by simp [results, Tryd.results22, go_sem]) rfl ⟨rfl, ?_⟩
  repeat' first | exact Below.refl _ _ | apply Below.setCell | apply Below.alloc
  all_goals first | omega | (simp; done) | (simp; omega)
set_option maxHeartbeats 4000000 in
theorem ibig (s : ByteArray) (w : World) (h : 8000 < s.size) (hm : s.size ≤ 1048576) :
    Calls Tryd.prog 17 #[.string s] w fun e w' => e = .returned (.agg #[.string ⟨#[]⟩, .string ⟨#[]⟩, .int .i64 0, .int .i64 0, .int .i64 0, .int .i64 0, .slice none 0 0, .slice none 0 0, .int .i64 2]) ∧ Below w.heap.size w w' := by
  have h8 : (8000 : Int) < (s.size : Int) := by omega
  go_enter Tryd.func17, Tryd.ntmps17
  go_wp2_with fail
  refine bodyPost_ret (v := .agg #[.string ⟨#[]⟩, .string ⟨#[]⟩, .int .i64 0, .int .i64 0, .int .i64 0, .int .i64 0, .slice none 0 0, .slice none 0 0, .int .i64 2]) (by simp [results, Tryd.results17, go_sem]) rfl ⟨rfl, ?_⟩
  repeat' first | exact Below.refl _ _ | apply Below.setCell | apply Below.alloc
  all_goals first | omega | (simp; done) | (simp; omega)
set_option maxHeartbeats 4000000 in
theorem sbig (s : ByteArray) (w : World) (h : 8000 < s.size) (hm : s.size ≤ 1048576) :
    Calls Tryd.prog 16 #[.string s] w fun e w' => e = .returned (.agg #[.string ⟨#[]⟩, .string ⟨#[]⟩, .int .i64 0, .int .i64 0, .int .i64 0, .int .i64 0, .slice none 0 0, .slice none 0 0, .int .i64 2]) ∧ Below w.heap.size w w' := by
  have h8 : (8000 : Int) < (s.size : Int) := by omega
  obtain ⟨W0, hW0⟩ : ∃ W0, W0 = w.alloc (.cells #[.string ⟨#[]⟩, .string ⟨#[]⟩, .int .i64 0, .int .i64 0, .int .i64 0, .int .i64 0, .slice none 0 0, .slice none 0 0, .int .i64 0] 34) := ⟨_, rfl⟩
  have HB : Hid (Below w.heap.size w W0) := hid_intro (by rw [hW0]; exact (Below.refl _ _).alloc (Nat.le_refl _) _)
  have HP : Hid (Pt w.heap.size 9 W0) := hid_intro (by rw [hW0]; exact StR.pt_new w [.string ⟨#[]⟩, .string ⟨#[]⟩, .int .i64 0, .int .i64 0, .int .i64 0, .int .i64 0, .slice none 0 0, .slice none 0 0, .int .i64 0] 34)
  have HIL := hid_intro sill2
  have HW := hid_intro hW0
  clear hW0
  go_enter Tryd.func16, Tryd.ntmps16
  go_wp2_with fail
  rw [← HW.out]
  clear HW
  refine (HIL.out _).mono ?_
  rintro e wI ⟨rfl, hbI⟩
  have HBI := hid_intro (HB.out.trans (hbI.mono HB.out.size))
  have HPI := hid_intro (HP.out.below hbI)
  clear hbI
  have hp9 := HPI.out
  have hl9 := hp9.lt
  obtain ⟨ov0, r0⟩ := hp9.has 0 (by omega)
  have f0 := hp9.free 0 (by omega)
  obtain ⟨ov1, r1⟩ := hp9.has 1 (by omega)
  have f1 := hp9.free 1 (by omega)
  obtain ⟨ov2, r2⟩ := hp9.has 2 (by omega)
  have f2 := hp9.free 2 (by omega)
  obtain ⟨ov3, r3⟩ := hp9.has 3 (by omega)
  have f3 := hp9.free 3 (by omega)
  obtain ⟨ov4, r4⟩ := hp9.has 4 (by omega)
  have f4 := hp9.free 4 (by omega)
  obtain ⟨ov5, r5⟩ := hp9.has 5 (by omega)
  have f5 := hp9.free 5 (by omega)
  obtain ⟨ov6, r6⟩ := hp9.has 6 (by omega)
  have f6 := hp9.free 6 (by omega)
  obtain ⟨ov7, r7⟩ := hp9.has 7 (by omega)
  have f7 := hp9.free 7 (by omega)
  obtain ⟨ov8, r8⟩ := hp9.has 8 (by omega)
  have f8 := hp9.free 8 (by omega)
  have hgf := StR.stL_grown w.heap.size [.string ⟨#[]⟩, .string ⟨#[]⟩, .int .i64 0, .int .i64 0, .int .i64 0, .int .i64 0, .slice none 0 0, .slice none 0 0, .int .i64 2] 0 wI
  have HBF := hid_intro (HBI.out.grown hgf HBI.out.size (fun k e => by simp only [Option.some.injEq] at e; omega))
  simp only [StR.stL, Nat.zero_add, Nat.reduceAdd] at HBF
  clear hgf hp9
  go_wp2_with fail
  refine bodyPost_ret (v := .agg #[.string ⟨#[]⟩, .string ⟨#[]⟩, .int .i64 0, .int .i64 0, .int .i64 0, .int .i64 0, .slice none 0 0, .slice none 0 0, .int .i64 2]) (by simp [results, Tryd.results16, go_sem, r0, r1, r2, r3, r4, r5, r6, r7, r8]) rfl ⟨rfl, HBF.out⟩
theorem stgs (s : ByteArray) (k : Nat) (h : (tgsR s (oC1 s) k).2 = none) : (tgsR s (oC1 s) (k + 1)).2 = none := by
  rw [tgsR_snoc, h]
  rfl
theorem shrs (s : ByteArray) (k : Nat) (h : (hrsR s (oC2 s) k).2 = none) : (hrsR s (oC2 s) (k + 1)).2 = none := by
  rw [hrsR_snoc, h]
  rfl
theorem smany (g : Nat) (s : ByteArray) (o : Option Nat) (w : World) (hs : s.size ≤ 8000) (h : SAfter g s o w) :
    Calls Tryd.prog 36 #[.pointer (some ⟨g, 0, none⟩), .int .i64 12] w fun e w' => e = .returned (.int .i64 (rC s o 12 : Nat)) ∧ SAfter g s (pC s o 12) w' ∧ w.grownBy w' (some g) := by
  refine (EvtR.many_any g s o 12 w hs h).mono ?_
  intro e w' hh
  unfold rC pC
  by_cases q : 0 ≤ rN s o ∧ rN s o ≤ ((12 : Nat) : Int)
  · rw [if_pos q] at hh
    rw [if_pos q, if_pos q]
    obtain ⟨⟨rfl, h1⟩, h2⟩ := hh
    exact ⟨by rw [Int.toNat_of_nonneg q.1], h1, h2⟩
  · rw [if_neg q] at hh
    rw [if_neg q, if_neg q]
    obtain ⟨⟨rfl, h1⟩, h2⟩ := hh
    exact ⟨rfl, h1, h2⟩
theorem win_sizes (s : ByteArray) : (winR s).a.size ≤ 1048576 ∧ (winR s).m.size ≤ 1048576 ∧ (winR s).ts.length ≤ 12 ∧ (∀ t ∈ (winR s).ts, t.size ≤ 1048576) ∧ (winR s).hs.length ≤ 12 := by
  have k1 := rT_size s (oW s 0)
  have k2 := rT_size s (oW s 1)
  refine ⟨by show (rT s (oW s 0)).size ≤ _; omega, by show (rT s (oW s 1)).size ≤ _; omega, ?_, ?_, ?_⟩
  · show (tgsR s (oC1 s) (nC1 s)).1.length ≤ 12
    rw [tgsR_len]
    exact rC_le s _ 12
  · intro t ht
    have key : ∀ (k : Nat) (o : Option Nat), ∀ t ∈ (tgsR s o k).1, t.size ≤ 8000 := by
      intro k
      induction k with
      | zero => intro o t h; cases h
      | succ k ih =>
        intro o t h
        rcases List.mem_cons.1 h with rfl | h
        · exact rT_size s o
        · exact ih _ t h
    have := key _ _ t ht
    omega
  · show (hrsR s (oC2 s) (nC2 s)).1.length ≤ 12
    rw [hrsR_len]
    exact rC_le s _ 12
theorem apart_own {w : World} {base e size n base' e' size' n' tc hc : Nat} {ta ha : Option Addr} {xs xs' : List Value} (h : w.ownsRow base e size (.slice ta n tc) n xs) (h' : w.ownsRow base' e' size' (.slice ha n' hc) n' xs') (hT : e' ≠ e) : Apart ta ha n n' := by
  have k := own_apart h h' hT
  refine .inr (.inr (fun b o b' o' e1 e2 q => ?_))
  subst e1 e2 q
  exact k b (by simp [Value.ownBlock]) (by simp [Value.ownBlock])
theorem made_own {w : World} {base : Nat} {z : Wd} {tc hc : Nat} {ta ha : Option Addr} (cd : Int) (h : w.ownsRow base 9 1 (.slice ta z.ts.length tc) z.ts.length (cellsAll tcells z.ts)) (h' : w.ownsRow base 65 2 (.slice ha z.hs.length hc) z.hs.length (cellsAll H.cells z.hs)) : MadeO base z cd (.agg (ocells z ta tc ha hc cd)) w := by
  have hA := apart_own h h' (by decide)
  obtain ⟨ao, cap, e, hm⟩ := RowG.own_made (z := tz) t_len h
  obtain ⟨bo, cbp, e', hm'⟩ := RowG.own_made (z := H.zero) H.len h'
  cases e
  cases e'
  exact ⟨ta, tc, ha, hc, rfl, hm, hm', hA⟩
/-- For every text there is one answer. -/
theorem read_both (s : ByteArray) (hm : s.size ≤ 1048576) : ∃ (z : Wd) (cd : Int), z.ts.length ≤ 1048576 ∧ z.hs.length ≤ 1048576 ∧
    (∀ w, Laid w → Calls Tryd.prog 17 #[.string s] w fun e w' => ∃ v, e = .returned v ∧ MadeO w.heap.size z cd v w' ∧ Below w.heap.size w w') ∧
    (∀ w, Calls Tryd.prog 16 #[.string s] w fun e w' => ∃ v, e = .returned v ∧ MadeO w.heap.size z cd v w' ∧ Below w.heap.size w w') := by
  by_cases h8 : 8000 < s.size
  · refine ⟨wz, 2, by simp [wz], by simp [wz], fun w _ => (ibig s w h8 hm).mono ?_, fun w => (sbig s w h8 hm).mono ?_⟩
    · rintro e w' ⟨rfl, hb⟩
      exact ⟨_, rfl, wz_made_o _ _ _, hb⟩
    · rintro e w' ⟨rfl, hb⟩
      exact ⟨_, rfl, wz_made_o _ _ _, hb⟩
  have hs : s.size ≤ 8000 := by omega
  obtain ⟨k1, k2, k3, k4, k5⟩ := win_sizes s
  have eT : nC1 s = (winR s).ts.length := (tgsR_len s _ _).symm
  have eH : nC2 s = (winR s).hs.length := (hrsR_len s _ _).symm
  have hi := fun w hL => iwr_in s (winR s).a (winR s).m (winR s).mo (winR s).ev (winR s).su (winR s).mx (nC1 s) (nC2 s) (winR s).ts (winR s).hs (decide (oE s = some s.size)) (wB (winR s)) (fun g W => After g s (oE s) W) w hL hs eT eH (fun g W W' q hg => after_grown q hg (by simp)) (fun g W q => rwin s hs g W q) (fun g W q => EvtR.ended_any g s _ W hs q) (fun ta tc ha hc W hL q1 q2 => by
    rw [eT, eH]
    exact impl_window_right (winR s) ta tc ha hc W k1 k2 (by omega) k4 (by omega) hL q1 q2)
  have hS := fun w => swr_in s (oW s 1) (oW s 2) (oW s 3) (oW s 4) (oW s 5) (oW s 6) (winR s).a (winR s).m (winR s).mo (winR s).ev (winR s).su (winR s).mx (nC1 s) (nC2 s) (fun k => (tgsR s (oC1 s) k).2) (fun k => (hrsR s (oC2 s) k).2) (fun k => (tgsR s (oC1 s) k).1) (fun k => (hrsR s (oC2 s) k).1) (fun k => rT s (tgsR s (oC1 s) k).2) (fun k => rN s (hrsR s (oC2 s) k).2) (fun k => rN s (pN s (hrsR s (oC2 s) k).2)) (wBy (winR s)) w hs
    (fun w h => EvtR.srtext _ s _ w hs h) (fun w h => EvtR.srtext _ s _ w hs h) (fun w h => EvtR.srnum _ s _ w hs h) (fun w h => EvtR.srnum _ s _ w hs h) (fun w h => EvtR.srnum _ s _ w hs h) (fun w h => EvtR.srnum _ s _ w hs h)
    (fun w h => smany _ s _ w hs h) (fun k w h => by
      have e := tgsR_snoc s k (oC1 s)
      rw [e]
      exact EvtR.srtext _ s _ w hs h)
    (fun w h => smany _ s _ w hs h) (fun k => ⟨pN s (hrsR s (oC2 s) k).2, fun w h => EvtR.srnum _ s _ w hs h, fun w h => by
      have e := hrsR_snoc s k (oC2 s)
      rw [e]
      exact EvtR.srnum _ s _ w hs h⟩)
    (fun k h => stgs s k h) (fun k h => shrs s k h) (fun h => by
      show oC2 s = none
      have h' : oT s = none := h
      unfold oC2
      rw [h']
      unfold pC
      split <;> rfl)
    (rC_le s _ 12) (rC_le s _ 12) rfl (fun k => by rw [tgsR_snoc]) rfl (fun k => by rw [hrsR_snoc]) eT eH (fun ta tc ha hc W q1 q2 => by
      rw [eT, eH]
      exact spec_bytes (winR s) ta tc ha hc W k1 k2 (by omega) k4 (by omega) q1 q2)
  have key := win_same s
  by_cases hr : oE s = some s.size ∧ wB (winR s) = true
  · refine ⟨winR s, 0, by omega, by omega, fun w hL => (hi w hL).mono ?_, fun w => (hS w).mono ?_⟩
    · rintro e w' ⟨⟨q, _⟩ | ⟨_, ta, tc, ha, hc, rfl, o1, o2⟩, hb⟩
      · rw [hr.2, decide_eq_true hr.1] at q
        cases q
      · have o1' : w'.ownsRow w.heap.size 9 1 (.slice ta (nC1 s) tc) (nC1 s) (cellsAll tcells (winR s).ts) := o1
        have o2' : w'.ownsRow w.heap.size 65 2 (.slice ha (nC2 s) hc) (nC2 s) (cellsAll H.cells (winR s).hs) := o2
        rw [eT] at o1'
        rw [eH] at o2'
        rw [eT, eH]
        exact ⟨_, rfl, made_own 0 o1' o2', hb⟩
    · rintro e w' ⟨⟨q, _⟩ | ⟨_, ta, tc, ha, hc, rfl, o1, o2⟩, hb⟩
      · exact absurd (key.2 hr) q
      · have o1' : w'.ownsRow w.heap.size 9 1 (.slice ta (nC1 s) tc) (nC1 s) (cellsAll tcells (winR s).ts) := o1
        have o2' : w'.ownsRow w.heap.size 65 2 (.slice ha (nC2 s) hc) (nC2 s) (cellsAll H.cells (winR s).hs) := o2
        rw [eT] at o1'
        rw [eH] at o2'
        rw [eT, eH]
        exact ⟨_, rfl, made_own 0 o1' o2', hb⟩
  · refine ⟨wz, 3, by simp [wz], by simp [wz], fun w hL => (hi w hL).mono ?_, fun w => (hS w).mono ?_⟩
    · rintro e w' ⟨⟨_, rfl⟩ | ⟨q, _⟩, hb⟩
      · exact ⟨_, rfl, wz_made_o _ _ _, hb⟩
      · rw [Bool.and_eq_true, decide_eq_true_eq] at q
        exact absurd q hr
    · rintro e w' ⟨⟨_, rfl⟩ | ⟨q, _⟩, hb⟩
      · exact ⟨_, rfl, wz_made_o _ _ _, hb⟩
      · exact absurd (key.1 q) hr
end WinR
end Go.Proofs.YtnlmpejgiakepaaDoor
namespace Go.Proofs.YtnlmpejgiakepaaDoor
open Go.ChangeShapes Go.WideShapes Go.RowKit
namespace Lay
theorem own : ownKnob Tryd.prog.godebug = none := by kernel_rfl
theorem laidOut : laidOutB Tryd.prog = true := by kernel_rfl
theorem gv : Tryd.prog.globalNamed "loop.example/g00562/impl.monthLengths" = some 0 := by kernel_rfl
theorem gt : (Tryd.prog.globals[0]?).map (·.type) = some 139 := by kernel_rfl
theorem cellsE : Tryd.prog.cellsOf 2 = 1 := by kernel_rfl
theorem cellsT : Tryd.prog.cellsOf 139 = 12 := by kernel_rfl
def laid {H : Type} : List (String × DataW H) := [("loop.example/g00562/impl.monthLengths", Rows.laid_loop_example_g00562_impl_monthLengths)]
theorem of_tab {W : World} (hT : Lib.TabIs Tryd.prog W "loop.example/g00562/impl.monthLengths" .i64 DateR.tab) : DateR.Laid W := by
  have hc : ∀ k : Nat, k < 12 → W.cell? ⟨0, k, none⟩ = some (.int .i64 (DateR.tab.getD k 0)) := fun k hk => hT.cell gv k hk
  refine ⟨?_, hc⟩
  rcases Nat.lt_or_ge 0 W.heap.size with h | h
  · exact h
  · have h0 : W.heap[0]? = none := Array.getElem?_eq_none h
    have := hc 0 (by omega)
    simp [World.cell?, h0] at this
theorem of_laid {W : World} (h : laidMetH Tryd.prog laid W) : DateR.Laid W := by
  rw [MakeChecks.laidMetH_plain _ _ _ (by kernel_rfl)] at h
  exact of_tab (Lib.tabIs_of_head gv gt Tryd.underlying139 Tryd.underlying2 cellsE cellsT (zs := DateR.tab) (k := .i64) h)
theorem door_met (os : Os) (args : Array Value) : laidMetH Tryd.prog laid ((World.doorLaid Tryd.prog 400 os).forCall (fun _ _ => 0) ⟨#[], args, []⟩).memory :=
  laidMetH_of_parts3 (fuel := 8) (laidMet_of_run' 8 (by kernel_rfl) (by kernel_rfl)) (by kernel_rfl) (by kernel_rfl)
end Lay
end Go.Proofs.YtnlmpejgiakepaaDoor
