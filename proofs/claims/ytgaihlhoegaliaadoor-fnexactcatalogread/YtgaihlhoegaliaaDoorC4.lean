/-
  The model's CatalogRead. The conditions: what the readers ask for.
  The bytes of a right meter, the program's side. The condition: the meter is right.
  The bytes of a catalog, the program's side. The conditions: all in it is small; the program's own error stands in its variable.
  The bytes of a catalog, the model's side. The conditions: all in it is small; for l05Bytes: the catalog is right.
  A catalog read: for every text there is one answer that both sides hand back. The conditions: the text has at most 1048576 bytes; the program's variable holds its error.
  An answer with a catalog: held against another one, marked as a whole, and its marks read later on. The conditions: the catalog is small; the marks are below 5300001.
  From the row's premise on the program's own error to the walk's: its variable holds an error; and a world that meets the premise. No condition.
-/
import Derived.OwnWalk
import Derived.Deep.RegionHeld3
import Derived.Test.YtgaihlhoegaliaaDoorTie
import Derived.ChangeSame
import Derived.ChangeVars
import Derived.JoinedOf
import Derived.ProofKit
import Derived.LaidLaws
import Derived.LaidMore
import Derived.LaidHandle
import Derived.MakeChecks
import Derived.Stop.Joined
import Derived.Stop.LaidErr
import Derived.Test.YtgaihlhoegaliaaDoorC3
namespace Go.Proofs.YtgaihlhoegaliaaDoor
open Go.ChangeShapes Go.WideShapes Go.ChangeAt Go.RowKit
set_option linter.unusedVariables false
namespace CatR
open OwG
open RowG (MadeG Rws cellsAll hid_intro)
open EvtR (Pt After SAfter Reads gtrans)
open DocR (BlkW)
/-- What the model hands back. -/
def SPC (s T : ByteArray) (o : Option Nat) (C D : Nat) (ms : List Me) (cs : List Cr) (w : World) (e : Ending) (w' : World) : Prop := ((¬ (o ≠ none ∧ s.size ≠ 0 ∧ T = s) ∧ e = .returned (.agg #[.slice none 0 0, .slice none 0 0, .int .i64 3])) ∨ ((o ≠ none ∧ s.size ≠ 0 ∧ T = s) ∧ ∃ ma mc ca cc, e = .returned (.agg #[.slice ma C mc, .slice ca D cc, .int .i64 0]) ∧ MsO w.heap.size (.slice ma C mc) ms w' ∧ w'.ownsRow w.heap.size 42 2 (.slice ca D cc) D (cellsAll Cr.cells cs))) ∧ Below w.heap.size w w'
theorem spc_bad {s T : ByteArray} {o : Option Nat} {C D : Nat} {ms : List Me} {cs : List Cr} {w w' : World} (h : ¬ (o ≠ none ∧ s.size ≠ 0 ∧ T = s)) (hb : Below w.heap.size w w') : SPC s T o C D ms cs w (.returned (.agg #[.slice none 0 0, .slice none 0 0, .int .i64 3])) w' := ⟨.inl ⟨h, rfl⟩, hb⟩
theorem spc_ok {s T : ByteArray} {o : Option Nat} {C D : Nat} {ms : List Me} {cs : List Cr} {w w' : World} {ma ca : Option Addr} {mc cc : Nat} (h : o ≠ none ∧ s.size ≠ 0 ∧ T = s) (hm : MsO w.heap.size (.slice ma C mc) ms w') (hc : w'.ownsRow w.heap.size 42 2 (.slice ca D cc) D (cellsAll Cr.cells cs)) (hb : Below w.heap.size w w') : SPC s T o C D ms cs w (.returned (.agg #[.slice ma C mc, .slice ca D cc, .int .i64 0])) w' := ⟨.inr ⟨h, ma, mc, ca, cc, rfl, hm, hc⟩, hb⟩
theorem ba_inj {a b : ByteArray} (h : a.toList = b.toList) : a = b := LtR.toList_inj h
set_option maxRecDepth 100000 in
set_option maxHeartbeats 32000000 in
theorem scr_in (s : ByteArray) (C D : Nat) (PM PC : Nat → Option Nat) (LM : Nat → List Me) (LC : Nat → List Cr) (mm : Nat → Me) (hh : Nat → ByteArray) (ss : Nat → Int) (T : ByteArray) (w : World) (hs8 : s.size ≤ 8000) (hC : C ≤ 6) (hD : D ≤ 6)
    (rc1 : ∀ g, SMn 6 g s (some 0) (PM 0) C)
    (rm : ∀ k g W, SAfter g s (PM k) W → Calls Tryd.prog 10 #[.pointer (some ⟨g, 0, none⟩)] W fun e w' => ∃ (n : Nat) (ta : Option Addr) (tc : Nat) (ts : List Ti), (PM (k + 1) ≠ none → n = (mm k).ts.length ∧ ts = (mm k).ts) ∧ e = .returned (.agg #[.string (mm k).n, .int .i64 (mm k).g, .bool (mm k).wh, .int .i64 (mm k).f, .int .i64 (mm k).l, .slice ta n tc]) ∧ w'.ownsRow W.heap.size 57 2 (.slice ta n tc) n (cellsAll Ti.cells ts) ∧ SAfter g s (PM (k + 1)) w' ∧ W.grownBy w' (some g))
    (rc2 : ∀ g, SMn 6 g s (PM C) (PC 0) D)
    (rh : ∀ i g, ∃ om, SRd 11 g s (PC i) om (.string (hh i)) ∧ SRd 12 g s om (PC (i + 1)) (.int .i64 (ss i)))
    (hNM : ∀ k, PM k = none → PM (k + 1) = none) (hNC : ∀ k, PC k = none → PC (k + 1) = none) (hNX : PM C = none → PC 0 = none)
    (hwb : ∀ ma mc ca cc W, Mes ma C (LM C) W → Crs ca D (LC D) W → Calls Tryd.prog 13 #[.agg #[.slice ma C mc, .slice ca D cc]] W fun e w' => e = .returned (.string T) ∧ Below W.heap.size W w')
    (hM0 : LM 0 = []) (hMM : ∀ k, LM (k + 1) = LM k ++ [mm k]) (hML : ∀ k, (LM k).length = k) (hC0 : LC 0 = []) (hCM : ∀ k, LC (k + 1) = LC k ++ [⟨hh k, ss k⟩]) (hCL : ∀ k, (LC k).length = k) :
    Calls Tryd.prog 4 #[.string s] w fun e w' => SPC s T (PC D) C D (LM C) (LC D) w e w' := by
  obtain ⟨i0, hi, hz0, hz1, hz2⟩ := info_parts infoMe
  obtain ⟨j0, gi, gz0, gz1, gz2⟩ := info_parts infoCr
  have RC1 := hid_intro (rc1 (w.heap.size + 1))
  have RM := hid_intro (fun k => rm k (w.heap.size + 1))
  have RC2 := hid_intro (rc2 (w.heap.size + 1))
  have RH := hid_intro (fun i => rh i (w.heap.size + 1))
  have HNM := hid_intro hNM
  have HNC := hid_intro hNC
  have HNX := hid_intro hNX
  have HWB := hid_intro hwb
  have HM0 := hid_intro hM0
  have HMM := hid_intro hMM
  have HML := hid_intro hML
  have HC0 := hid_intro hC0
  have HCM := hid_intro hCM
  have HCL := hid_intro hCL
  have h8 : ¬ (8000 : Int) < (s.size : Int) := by omega
  clear rc1 rm rc2 rh hNM hNC hNX hwb hM0 hMM hML hC0 hCM hCL
  obtain ⟨W0, hW0⟩ : ∃ W0, W0 = ((w.alloc (.cells #[.slice none 0 0, .slice none 0 0, .int .i64 0] 27)).alloc (.cells #[.string s, .int .i64 0, .bool false] 34)).alloc (.cells #[.slice none 0 0, .slice none 0 0] 25) := ⟨_, rfl⟩
  obtain ⟨W1, hW1⟩ : ∃ W1, W1 = (w.alloc (.cells #[.slice none 0 0, .slice none 0 0, .int .i64 0] 27)).alloc (.cells #[.string s, .int .i64 0, .bool false] 34) := ⟨_, rfl⟩
  have hz : W1.heap.size = w.heap.size + 2 := by rw [hW1]; simp
  have al : Below W1.heap.size W1 W0 := by rw [hW0, ← hW1]; exact (Below.refl _ _).alloc (Nat.le_refl _) _
  have HA : Hid (SAfter (w.heap.size + 1) s (some 0) W0) := hid_intro (satt (by rw [hW1]; exact ⟨by omega, by simp, by simp [go_sem], by simp [go_sem], by simp [go_sem], by simp [go_sem], by simp [go_sem], by simp [go_sem]⟩ : SAfter (w.heap.size + 1) s (some 0) W1) al)
  have HG : Hid (w.grownBy W0 (some (w.heap.size + 1))) := hid_intro (by rw [hW0]; exact galloc (galloc (World.grownBy_alloc w _ _) _) _)
  have HR : Hid (BlkW w.heap.size [.slice none 0 0, .slice none 0 0, .int .i64 0] W0) := hid_intro ((by rw [hW1]; exact (BlkW.new w [.slice none 0 0, .slice none 0 0, .int .i64 0] 27).below ((Below.refl _ _).alloc (Nat.le_refl _) _) : BlkW w.heap.size [.slice none 0 0, .slice none 0 0, .int .i64 0] W1).below al)
  have HV : Hid (BlkW (w.heap.size + 2) [.slice none 0 0, .slice none 0 0] W0) := hid_intro (by rw [hW0, ← hW1, ← hz]; exact BlkW.new W1 [.slice none 0 0, .slice none 0 0] 25)
  have HW := hid_intro hW0
  obtain ⟨bV, hbV⟩ : ∃ z, z = w.heap.size + 2 := ⟨_, rfl⟩
  rw [← hbV] at HV
  have hlo : w.heap.size + 1 < bV := by omega
  have HBV := hid_intro hbV
  clear hW0 hW1 hz al hbV W1
  have gsz6 : 0 < 6 := by omega
  go_enter Tryd.func4, Tryd.ntmps4
  go_wp2_with fail
  rw [← HW.out, ← HBV.out]
  clear HW HBV
  refine (RC1.out _ HA.out).mono ?_
  rintro e wB ⟨rfl, hA, hq⟩
  replace HA := hid_intro hA
  replace HG := hid_intro (gtrans HG.out hq)
  replace HV := hid_intro (blkW_grown HV.out hq (by first | (simp; done) | (simp; omega)))
  replace HR := hid_intro (blkW_grown HR.out hq (by first | (simp; done) | (simp; omega)))
  clear hA hq
  go_wp2_with fail
  go_loopw [5] (fun z wr => ∃ (k : Nat) (v : Value), k ≤ C ∧ z = .int .i64 ((C : Int) - (k : Int)) ∧ Hid (SAfter (w.heap.size + 1) s (PM k) wr) ∧ Hid (w.grownBy wr (some (w.heap.size + 1))) ∧ Hid (BlkW w.heap.size [.slice none 0 0, .slice none 0 0, .int .i64 0] wr) ∧ Hid (BlkW bV [v, .slice none 0 0] wr) ∧ Hid (PM k ≠ none → MsO (bV + 1) v (LM k) wr)) (fun z _ => (intOf z).toNat)
  case atStart => exact ⟨0, .slice none 0 0, by omega, by simp, HA, HG, HR, HV, hid_intro (fun _ => by rw [HM0.out]; exact mso_nil _ _)⟩
  case round =>
    clear HA HG HR HV
    obtain ⟨k, v, hk, rfl, HA, HG, HR, HV, HM⟩ := hrel
    obtain ⟨pp, hSR⟩ := HA.out.open
    obtain ⟨gl, g0, g1, g2, gf0, gf1, gf2⟩ := hSR
    rcases exit_of HNM.out hk with ⟨hlt, hno⟩ | ⟨heq, hall⟩
    · have hlt2 : (0 : Int) < (C : Int) - (k : Int) := by omega
      rw [decide_eq_false hno] at g2
      obtain ⟨ma, mc, rfl, _⟩ := (HM.out hno).mes
      replace HM := hid_intro (HM.out hno)
      rw [HML.out k] at HM HV
      have RMk := hid_intro (RM.out k)
      have HLM := hid_intro (HMM.out k)
      have HLL := hid_intro (HML.out k)
      have sz1 : k + 1 ≤ maxLen := by unfold maxLen; omega
      have sz2 : (k + 1) * 72 ≤ 140737488355328 := by omega
      obtain ⟨L0, hL0⟩ : ∃ z, z = wr.heap.size := ⟨_, rfl⟩
      have hbl : bV + 1 ≤ L0 := by have := HV.out.1.1; omega
      have hM0 := HM.out.lim.below (Below.refl wr.heap.size wr).drew
      have hL1 : L0 ≤ wr.drew.heap.size := by rw [hL0]; exact Nat.le_refl _
      rw [← hL0] at hM0
      have hA0 := satt HA.out (Below.refl wr.heap.size wr).drew
      have hG0 := gtrans HG.out (EvtR.rgrown (Below.refl wr.heap.size wr).drew _)
      have hR0 := HR.out.below (Below.refl wr.heap.size wr).drew
      have hV0 := HV.out.below (Below.refl wr.heap.size wr).drew
      clear hno
      go_wp2_with fail
      clear gl g0 g1 g2 gf0 gf1 gf2
      refine wp_region_held_drew (S := (fun _ => True)) (by kernel_rfl) trivial (fun hHeld => ?_)
      generalize wr.drew = kd at *
      refine wpAnyH_take (i := 0) (oi := { dst := some 29, op := Op.fieldAddr 25 (Operand.tmp 4) 0, type := 0, pos := "l05_catalog.go:140", after := #[], guard := none }) (v := ?_) rfl (by kernel_rfl) (by kernel_rfl) (by kernel_rfl) (fun _ _ _ h => h) (Or.inl ⟨by rfl, ?_⟩) (by assumption) ?_
      rotate_left
      · (intro w hSw; (try dsimp only at hSw); go_simp) <;> with_reducible rfl
      try simp only [Act.put, List.setIfInBounds_toArray, List.set_cons_zero, List.set_cons_succ]
      refine wpAnyH_take (i := 2) (oi := { dst := some 31, op := Op.move (Operand.tmp 3), type := 32, pos := "l05_catalog.go:140", after := #[], guard := none }) (v := ?_) rfl (by kernel_rfl) (by kernel_rfl) (by kernel_rfl) (fun _ _ _ h => h) (Or.inl ⟨by rfl, ?_⟩) (by assumption) ?_
      rotate_left
      · (intro w hSw; (try dsimp only at hSw); go_simp) <;> with_reducible rfl
      try simp only [Act.put, List.setIfInBounds_toArray, List.set_cons_zero, List.set_cons_succ]
      refine wpAnyH_ready (rs := [1, 3]) (by kernel_rfl) (by simp) ?_
      refine AllReadyH.cons (o := { dst := some 30, op := Op.load 22 (Operand.tmp 29), type := 22, pos := "l05_catalog.go:140", after := #[{ on := 0, ground := Ground.data }], guard := none }) rfl (fun K hK => ?_) (AllReadyH.cons (o := { dst := some 32, op := Op.call { callee := Callee.value (Operand.func 10), args := #[Operand.tmp 31], argTypes := #[32] }, type := 38, pos := "l05_catalog.go:140", after := #[{ on := 2, ground := Ground.data }], guard := none }) rfl (fun K hK => ?_) AllReadyH.nil)
      · have c6 := hV0.1.2 0 (by simp)
        have l6 := hV0.1.1
        simp only [List.getElem?_cons_zero] at c6
        go_simp
        try go_wp2_with fail
        refine hK.out _ _ trivial (fun _ => ?_)
        clear hK K
        try simp only [Act.put, List.setIfInBounds_toArray, List.set_cons_zero, List.set_cons_succ]
        clear c6 l6
        refine wpAnyH_ready (rs := [3]) (by kernel_rfl) (by simp) ?_
        refine AllReadyH.cons (o := { dst := some 32, op := Op.call { callee := Callee.value (Operand.func 10), args := #[Operand.tmp 31], argTypes := #[32] }, type := 38, pos := "l05_catalog.go:140", after := #[{ on := 2, ground := Ground.data }], guard := none }) rfl (fun K hK => ?_) AllReadyH.nil
        go_simp
        go_at_call 10
        refine (RMk.out _ hA0).mono ?_
        rintro e q1 ⟨n, ta, tc, ts, hnt, rfl, hNz, hA1, hq1⟩
        try go_wp2_with fail
        have hG1 := gtrans hG0 hq1
        have hR1 := blkW_grown hR0 hq1 (by first | (simp; done) | (simp; omega))
        have hV1 := blkW_grown hV0 hq1 (by first | (simp; done) | (simp; omega))
        have hM1 := hM0.far hq1 (by omega)
        have hN1 := own_low hNz hL1
        have HNT := hid_intro hnt
        clear hNz hnt
        refine hK.out _ _ trivial (fun _ => ?_)
        clear hK K
        try simp only [Act.put, List.setIfInBounds_toArray, List.set_cons_zero, List.set_cons_succ]
        refine wpAnyH_ready (rs := [4]) (by kernel_rfl) (by simp) ?_
        refine AllReadyH.cons (o := { dst := some 33, op := Op.buildSlice 22 1 #[(0, Operand.tmp 32)], type := 22, pos := "l05_catalog.go:140", after := #[{ on := 3, ground := Ground.data }], guard := none }) rfl (fun K hK => ?_) AllReadyH.nil
        go_simp
        try go_wp2_with fail
        have hA2 := satt hA1 ((Below.refl q1.heap.size q1).alloc (Nat.le_refl _) (Obj.cells #[.string (mm k).n, .int .i64 (mm k).g, .bool (mm k).wh, .int .i64 (mm k).f, .int .i64 (mm k).l, .slice ta n tc] 38))
        have hG2 := galloc hG1 (Obj.cells #[.string (mm k).n, .int .i64 (mm k).g, .bool (mm k).wh, .int .i64 (mm k).f, .int .i64 (mm k).l, .slice ta n tc] 38)
        have hR2 := hR1.below ((Below.refl q1.heap.size q1).alloc (Nat.le_refl _) (Obj.cells #[.string (mm k).n, .int .i64 (mm k).g, .bool (mm k).wh, .int .i64 (mm k).f, .int .i64 (mm k).l, .slice ta n tc] 38))
        have hV2 := hV1.below ((Below.refl q1.heap.size q1).alloc (Nat.le_refl _) (Obj.cells #[.string (mm k).n, .int .i64 (mm k).g, .bool (mm k).wh, .int .i64 (mm k).f, .int .i64 (mm k).l, .slice ta n tc] 38))
        have hM2 := hM1.below ((Below.refl q1.heap.size q1).alloc (Nat.le_refl _) (Obj.cells #[.string (mm k).n, .int .i64 (mm k).g, .bool (mm k).wh, .int .i64 (mm k).f, .int .i64 (mm k).l, .slice ta n tc] 38))
        have hN2 := RowG.own_below hN1 ((Below.refl q1.heap.size q1).alloc (Nat.le_refl _) (Obj.cells #[.string (mm k).n, .int .i64 (mm k).g, .bool (mm k).wh, .int .i64 (mm k).f, .int .i64 (mm k).l, .slice ta n tc] 38))
        have hnw : ∀ j u, ([.string (mm k).n, .int .i64 (mm k).g, .bool (mm k).wh, .int .i64 (mm k).f, .int .i64 (mm k).l, .slice ta n tc] : List Value)[j]? = some u → (q1.alloc (Obj.cells #[.string (mm k).n, .int .i64 (mm k).g, .bool (mm k).wh, .int .i64 (mm k).f, .int .i64 (mm k).l, .slice ta n tc] 38)).cell? ((⟨q1.heap.size, 0, none⟩ : Addr).add j) = some u := new_cells q1 [.string (mm k).n, .int .i64 (mm k).g, .bool (mm k).wh, .int .i64 (mm k).f, .int .i64 (mm k).l, .slice ta n tc] 38
        refine hK.out _ _ trivial (fun _ => ?_)
        clear hK K
        try simp only [Act.put, List.setIfInBounds_toArray, List.set_cons_zero, List.set_cons_succ]
        obtain ⟨bN, hbN⟩ : ∃ z, z = q1.heap.size := ⟨_, rfl⟩
        rw [← hbN] at hnw ⊢
        obtain ⟨k2, hk2⟩ : ∃ z, z = q1.alloc (Obj.cells #[.string (mm k).n, .int .i64 (mm k).g, .bool (mm k).wh, .int .i64 (mm k).f, .int .i64 (mm k).l, .slice ta n tc] 38) := ⟨_, rfl⟩
        rw [← hk2] at hnw hA2 hG2 hR2 hV2 hM2 hN2 ⊢
        clear hbN hk2
        refine wpAnyH_ready (rs := [5]) (by kernel_rfl) (by simp) ?_
        refine AllReadyH.cons (o := { dst := some 34, op := Op.call { callee := Callee.builtin Builtin.append, args := #[Operand.tmp 30, Operand.tmp 33], argTypes := #[22, 22] }, type := 22, pos := "l05_catalog.go:140", after := #[{ on := 1, ground := Ground.data }, { on := 4, ground := Ground.data }, { on := 3, ground := Ground.chain }], guard := none }) rfl (fun K hK => ?_) AllReadyH.nil
        obtain ⟨xs, x1, x2, x3, x4, x5⟩ := hM2
        have x2' := x2
        rw [HLL.out] at x2'
        refine DocR.step_append_own rfl _ _ 22 rfl (bV + 1) 38 i0 (.agg #[.string ⟨#[]⟩, .int .i64 0, .bool false, .int .i64 0, .int .i64 0, .slice none 0 0]) 6 72 Tryd.underlying22 hi hz0 hz1 hz2 rfl gsz6 _ _ _ rfl x2' ⟨bN, 0, none⟩ 1 1 [.string (mm k).n, .int .i64 (mm k).g, .bool (mm k).wh, .int .i64 (mm k).f, .int .i64 (mm k).l, .slice ta n tc] rfl rfl hnw (by intro u hu; simp at hu; rcases hu with rfl | rfl | rfl | rfl | rfl | rfl <;> rfl) sz1 sz2 (hV2.1.1) ?_
        intro v9 w9 hown hgrow hne
        have hA3 := hA2.grown hgrow (fun e => by have := (x2'.lt _ e.symm).1; omega)
        have hG3 := gnewR hG2 hgrow (fun X e => by have := (x2'.lt _ e).1; omega)
        have hR3 := blkW_grown hR2 hgrow (fun e => by have := (x2'.lt _ e.symm).1; omega)
        have hV3 := blkW_grown hV2 hgrow (fun e => by have := (x2'.lt _ e.symm).1; omega)
        have hM3 : PM (k + 1) ≠ none → MsO (bV + 1) v9 (LM (k + 1)) w9 := by
          intro hq9
          obtain ⟨e1, e2⟩ := HNT.out hq9
          have hn9 := hN2
          have ho9 := hown
          rw [e1, e2] at hn9
          rw [e1] at ho9
          rw [HLM.out]
          exact mso_snoc x1 x3 x4 x5 hbl hn9 x2 hgrow (by rw [HLL.out]; exact ho9)
        obtain ⟨sb, sc, rfl⟩ := own_form hown
        clear hown hgrow hne hnw x1 x2 x3 x4 x5 x2'
        refine hK.out _ _ trivial (fun _ => ?_)
        clear hK K
        try simp only [Act.put, List.setIfInBounds_toArray, List.set_cons_zero, List.set_cons_succ]
        refine wpAnyH_take (i := 6) (oi := { dst := some 35, op := Op.fieldAddr 25 (Operand.tmp 4) 0, type := 0, pos := "l05_catalog.go:140", after := #[{ on := 0, ground := Ground.phase }, { on := 1, ground := Ground.phase }, { on := 2, ground := Ground.phase }, { on := 3, ground := Ground.phase }, { on := 4, ground := Ground.phase }, { on := 5, ground := Ground.phase }], guard := none }) (v := ?_) rfl (by kernel_rfl) (by kernel_rfl) (by kernel_rfl) (fun _ _ _ h => h) (Or.inl ⟨by rfl, ?_⟩) (by assumption) ?_
        rotate_left
        · (intro w hSw; (try dsimp only at hSw); go_simp) <;> with_reducible rfl
        try simp only [Act.put, List.setIfInBounds_toArray, List.set_cons_zero, List.set_cons_succ]
        refine wpAnyH_ready (rs := [7]) (by kernel_rfl) (by simp) ?_
        refine AllReadyH.cons (o := { dst := none, op := Op.store 22 (Operand.tmp 35) (Operand.tmp 34), type := 0, pos := "l05_catalog.go:140", after := #[{ on := 6, ground := Ground.data }, { on := 5, ground := Ground.data }, { on := 5, ground := Ground.chain }, { on := 0, ground := Ground.phase }, { on := 1, ground := Ground.phase }, { on := 2, ground := Ground.phase }, { on := 3, ground := Ground.phase }, { on := 4, ground := Ground.phase }, { on := 5, ground := Ground.phase }], guard := none }) rfl (fun K hK => ?_) AllReadyH.nil
        have c6 := hV3.1.2 0 (by simp)
        have l6 := hV3.1.1
        have f6 := hV3.2 0 (by simp)
        simp only [List.getElem?_cons_zero] at c6
        go_simp
        try go_wp2_with fail
        have hg := RowG.grown_set w9 bV 0 (.slice (some ⟨sb, 0, none⟩) (k + 1) sc)
        have hA9 := hA3.grown hg (by first | (simp; done) | (simp; omega))
        have hG9 := gnewG hG3 hg (by omega)
        have hR9 := blkW_grown hR3 hg (by first | (simp; done) | (simp; omega))
        have hV9 := hV3.set 0 (.slice (some ⟨sb, 0, none⟩) (k + 1) sc) (by simp)
        have hM9 := fun hq9 => (hM3 hq9).far hg (by omega)
        simp only [List.set_cons_zero] at hV9
        refine hK.out _ _ trivial (fun _ => ?_)
        clear hK K
        try simp only [Act.put, List.setIfInBounds_toArray, List.set_cons_zero, List.set_cons_succ]
        generalize (w9.setCell ⟨bV, 0, none⟩ (.slice (some ⟨sb, 0, none⟩) (k + 1) sc)) = kk at *
        refine wpAnyH_done (by kernel_rfl) ?_ _
        have HA9 := hid_intro hA9
        have HG9 := hid_intro hG9
        have HR9 := hid_intro hR9
        have HV9 := hid_intro hV9
        have HM9 := hid_intro hM9
        clear hA9 hG9 hR9 hV9 hM9 hg c6 l6 f6
        go_wp2_with fail
        go_roundw
        case rel => exact ⟨k + 1, .slice (some ⟨sb, 0, none⟩) (k + 1) sc, by omega, by go_num, HA9, HG9, HR9, HV9, HM9⟩
        case measure => simp [intOf]; omega
      · go_simp
        go_at_call 10
        refine (RMk.out _ hA0).mono ?_
        rintro e q1 ⟨n, ta, tc, ts, hnt, rfl, hNz, hA1, hq1⟩
        try go_wp2_with fail
        have hG1 := gtrans hG0 hq1
        have hR1 := blkW_grown hR0 hq1 (by first | (simp; done) | (simp; omega))
        have hV1 := blkW_grown hV0 hq1 (by first | (simp; done) | (simp; omega))
        have hM1 := hM0.far hq1 (by omega)
        have hN1 := own_low hNz hL1
        have HNT := hid_intro hnt
        clear hNz hnt
        refine hK.out _ _ trivial (fun _ => ?_)
        clear hK K
        try simp only [Act.put, List.setIfInBounds_toArray, List.set_cons_zero, List.set_cons_succ]
        refine wpAnyH_ready (rs := [1, 4]) (by kernel_rfl) (by simp) ?_
        refine AllReadyH.cons (o := { dst := some 30, op := Op.load 22 (Operand.tmp 29), type := 22, pos := "l05_catalog.go:140", after := #[{ on := 0, ground := Ground.data }], guard := none }) rfl (fun K hK => ?_) (AllReadyH.cons (o := { dst := some 33, op := Op.buildSlice 22 1 #[(0, Operand.tmp 32)], type := 22, pos := "l05_catalog.go:140", after := #[{ on := 3, ground := Ground.data }], guard := none }) rfl (fun K hK => ?_) AllReadyH.nil)
        · have c6 := hV1.1.2 0 (by simp)
          have l6 := hV1.1.1
          simp only [List.getElem?_cons_zero] at c6
          go_simp
          try go_wp2_with fail
          refine hK.out _ _ trivial (fun _ => ?_)
          clear hK K
          try simp only [Act.put, List.setIfInBounds_toArray, List.set_cons_zero, List.set_cons_succ]
          clear c6 l6
          refine wpAnyH_ready (rs := [4]) (by kernel_rfl) (by simp) ?_
          refine AllReadyH.cons (o := { dst := some 33, op := Op.buildSlice 22 1 #[(0, Operand.tmp 32)], type := 22, pos := "l05_catalog.go:140", after := #[{ on := 3, ground := Ground.data }], guard := none }) rfl (fun K hK => ?_) AllReadyH.nil
          go_simp
          try go_wp2_with fail
          have hA2 := satt hA1 ((Below.refl q1.heap.size q1).alloc (Nat.le_refl _) (Obj.cells #[.string (mm k).n, .int .i64 (mm k).g, .bool (mm k).wh, .int .i64 (mm k).f, .int .i64 (mm k).l, .slice ta n tc] 38))
          have hG2 := galloc hG1 (Obj.cells #[.string (mm k).n, .int .i64 (mm k).g, .bool (mm k).wh, .int .i64 (mm k).f, .int .i64 (mm k).l, .slice ta n tc] 38)
          have hR2 := hR1.below ((Below.refl q1.heap.size q1).alloc (Nat.le_refl _) (Obj.cells #[.string (mm k).n, .int .i64 (mm k).g, .bool (mm k).wh, .int .i64 (mm k).f, .int .i64 (mm k).l, .slice ta n tc] 38))
          have hV2 := hV1.below ((Below.refl q1.heap.size q1).alloc (Nat.le_refl _) (Obj.cells #[.string (mm k).n, .int .i64 (mm k).g, .bool (mm k).wh, .int .i64 (mm k).f, .int .i64 (mm k).l, .slice ta n tc] 38))
          have hM2 := hM1.below ((Below.refl q1.heap.size q1).alloc (Nat.le_refl _) (Obj.cells #[.string (mm k).n, .int .i64 (mm k).g, .bool (mm k).wh, .int .i64 (mm k).f, .int .i64 (mm k).l, .slice ta n tc] 38))
          have hN2 := RowG.own_below hN1 ((Below.refl q1.heap.size q1).alloc (Nat.le_refl _) (Obj.cells #[.string (mm k).n, .int .i64 (mm k).g, .bool (mm k).wh, .int .i64 (mm k).f, .int .i64 (mm k).l, .slice ta n tc] 38))
          have hnw : ∀ j u, ([.string (mm k).n, .int .i64 (mm k).g, .bool (mm k).wh, .int .i64 (mm k).f, .int .i64 (mm k).l, .slice ta n tc] : List Value)[j]? = some u → (q1.alloc (Obj.cells #[.string (mm k).n, .int .i64 (mm k).g, .bool (mm k).wh, .int .i64 (mm k).f, .int .i64 (mm k).l, .slice ta n tc] 38)).cell? ((⟨q1.heap.size, 0, none⟩ : Addr).add j) = some u := new_cells q1 [.string (mm k).n, .int .i64 (mm k).g, .bool (mm k).wh, .int .i64 (mm k).f, .int .i64 (mm k).l, .slice ta n tc] 38
          refine hK.out _ _ trivial (fun _ => ?_)
          clear hK K
          try simp only [Act.put, List.setIfInBounds_toArray, List.set_cons_zero, List.set_cons_succ]
          obtain ⟨bN, hbN⟩ : ∃ z, z = q1.heap.size := ⟨_, rfl⟩
          rw [← hbN] at hnw ⊢
          obtain ⟨k2, hk2⟩ : ∃ z, z = q1.alloc (Obj.cells #[.string (mm k).n, .int .i64 (mm k).g, .bool (mm k).wh, .int .i64 (mm k).f, .int .i64 (mm k).l, .slice ta n tc] 38) := ⟨_, rfl⟩
          rw [← hk2] at hnw hA2 hG2 hR2 hV2 hM2 hN2 ⊢
          clear hbN hk2
          refine wpAnyH_ready (rs := [5]) (by kernel_rfl) (by simp) ?_
          refine AllReadyH.cons (o := { dst := some 34, op := Op.call { callee := Callee.builtin Builtin.append, args := #[Operand.tmp 30, Operand.tmp 33], argTypes := #[22, 22] }, type := 22, pos := "l05_catalog.go:140", after := #[{ on := 1, ground := Ground.data }, { on := 4, ground := Ground.data }, { on := 3, ground := Ground.chain }], guard := none }) rfl (fun K hK => ?_) AllReadyH.nil
          obtain ⟨xs, x1, x2, x3, x4, x5⟩ := hM2
          have x2' := x2
          rw [HLL.out] at x2'
          refine DocR.step_append_own rfl _ _ 22 rfl (bV + 1) 38 i0 (.agg #[.string ⟨#[]⟩, .int .i64 0, .bool false, .int .i64 0, .int .i64 0, .slice none 0 0]) 6 72 Tryd.underlying22 hi hz0 hz1 hz2 rfl gsz6 _ _ _ rfl x2' ⟨bN, 0, none⟩ 1 1 [.string (mm k).n, .int .i64 (mm k).g, .bool (mm k).wh, .int .i64 (mm k).f, .int .i64 (mm k).l, .slice ta n tc] rfl rfl hnw (by intro u hu; simp at hu; rcases hu with rfl | rfl | rfl | rfl | rfl | rfl <;> rfl) sz1 sz2 (hV2.1.1) ?_
          intro v9 w9 hown hgrow hne
          have hA3 := hA2.grown hgrow (fun e => by have := (x2'.lt _ e.symm).1; omega)
          have hG3 := gnewR hG2 hgrow (fun X e => by have := (x2'.lt _ e).1; omega)
          have hR3 := blkW_grown hR2 hgrow (fun e => by have := (x2'.lt _ e.symm).1; omega)
          have hV3 := blkW_grown hV2 hgrow (fun e => by have := (x2'.lt _ e.symm).1; omega)
          have hM3 : PM (k + 1) ≠ none → MsO (bV + 1) v9 (LM (k + 1)) w9 := by
            intro hq9
            obtain ⟨e1, e2⟩ := HNT.out hq9
            have hn9 := hN2
            have ho9 := hown
            rw [e1, e2] at hn9
            rw [e1] at ho9
            rw [HLM.out]
            exact mso_snoc x1 x3 x4 x5 hbl hn9 x2 hgrow (by rw [HLL.out]; exact ho9)
          obtain ⟨sb, sc, rfl⟩ := own_form hown
          clear hown hgrow hne hnw x1 x2 x3 x4 x5 x2'
          refine hK.out _ _ trivial (fun _ => ?_)
          clear hK K
          try simp only [Act.put, List.setIfInBounds_toArray, List.set_cons_zero, List.set_cons_succ]
          refine wpAnyH_take (i := 6) (oi := { dst := some 35, op := Op.fieldAddr 25 (Operand.tmp 4) 0, type := 0, pos := "l05_catalog.go:140", after := #[{ on := 0, ground := Ground.phase }, { on := 1, ground := Ground.phase }, { on := 2, ground := Ground.phase }, { on := 3, ground := Ground.phase }, { on := 4, ground := Ground.phase }, { on := 5, ground := Ground.phase }], guard := none }) (v := ?_) rfl (by kernel_rfl) (by kernel_rfl) (by kernel_rfl) (fun _ _ _ h => h) (Or.inl ⟨by rfl, ?_⟩) (by assumption) ?_
          rotate_left
          · (intro w hSw; (try dsimp only at hSw); go_simp) <;> with_reducible rfl
          try simp only [Act.put, List.setIfInBounds_toArray, List.set_cons_zero, List.set_cons_succ]
          refine wpAnyH_ready (rs := [7]) (by kernel_rfl) (by simp) ?_
          refine AllReadyH.cons (o := { dst := none, op := Op.store 22 (Operand.tmp 35) (Operand.tmp 34), type := 0, pos := "l05_catalog.go:140", after := #[{ on := 6, ground := Ground.data }, { on := 5, ground := Ground.data }, { on := 5, ground := Ground.chain }, { on := 0, ground := Ground.phase }, { on := 1, ground := Ground.phase }, { on := 2, ground := Ground.phase }, { on := 3, ground := Ground.phase }, { on := 4, ground := Ground.phase }, { on := 5, ground := Ground.phase }], guard := none }) rfl (fun K hK => ?_) AllReadyH.nil
          have c6 := hV3.1.2 0 (by simp)
          have l6 := hV3.1.1
          have f6 := hV3.2 0 (by simp)
          simp only [List.getElem?_cons_zero] at c6
          go_simp
          try go_wp2_with fail
          have hg := RowG.grown_set w9 bV 0 (.slice (some ⟨sb, 0, none⟩) (k + 1) sc)
          have hA9 := hA3.grown hg (by first | (simp; done) | (simp; omega))
          have hG9 := gnewG hG3 hg (by omega)
          have hR9 := blkW_grown hR3 hg (by first | (simp; done) | (simp; omega))
          have hV9 := hV3.set 0 (.slice (some ⟨sb, 0, none⟩) (k + 1) sc) (by simp)
          have hM9 := fun hq9 => (hM3 hq9).far hg (by omega)
          simp only [List.set_cons_zero] at hV9
          refine hK.out _ _ trivial (fun _ => ?_)
          clear hK K
          try simp only [Act.put, List.setIfInBounds_toArray, List.set_cons_zero, List.set_cons_succ]
          generalize (w9.setCell ⟨bV, 0, none⟩ (.slice (some ⟨sb, 0, none⟩) (k + 1) sc)) = kk at *
          refine wpAnyH_done (by kernel_rfl) ?_ _
          have HA9 := hid_intro hA9
          have HG9 := hid_intro hG9
          have HR9 := hid_intro hR9
          have HV9 := hid_intro hV9
          have HM9 := hid_intro hM9
          clear hA9 hG9 hR9 hV9 hM9 hg c6 l6 f6
          go_wp2_with fail
          go_roundw
          case rel => exact ⟨k + 1, .slice (some ⟨sb, 0, none⟩) (k + 1) sc, by omega, by go_num, HA9, HG9, HR9, HV9, HM9⟩
          case measure => simp [intOf]; omega
        · go_simp
          try go_wp2_with fail
          have hA2 := satt hA1 ((Below.refl q1.heap.size q1).alloc (Nat.le_refl _) (Obj.cells #[.string (mm k).n, .int .i64 (mm k).g, .bool (mm k).wh, .int .i64 (mm k).f, .int .i64 (mm k).l, .slice ta n tc] 38))
          have hG2 := galloc hG1 (Obj.cells #[.string (mm k).n, .int .i64 (mm k).g, .bool (mm k).wh, .int .i64 (mm k).f, .int .i64 (mm k).l, .slice ta n tc] 38)
          have hR2 := hR1.below ((Below.refl q1.heap.size q1).alloc (Nat.le_refl _) (Obj.cells #[.string (mm k).n, .int .i64 (mm k).g, .bool (mm k).wh, .int .i64 (mm k).f, .int .i64 (mm k).l, .slice ta n tc] 38))
          have hV2 := hV1.below ((Below.refl q1.heap.size q1).alloc (Nat.le_refl _) (Obj.cells #[.string (mm k).n, .int .i64 (mm k).g, .bool (mm k).wh, .int .i64 (mm k).f, .int .i64 (mm k).l, .slice ta n tc] 38))
          have hM2 := hM1.below ((Below.refl q1.heap.size q1).alloc (Nat.le_refl _) (Obj.cells #[.string (mm k).n, .int .i64 (mm k).g, .bool (mm k).wh, .int .i64 (mm k).f, .int .i64 (mm k).l, .slice ta n tc] 38))
          have hN2 := RowG.own_below hN1 ((Below.refl q1.heap.size q1).alloc (Nat.le_refl _) (Obj.cells #[.string (mm k).n, .int .i64 (mm k).g, .bool (mm k).wh, .int .i64 (mm k).f, .int .i64 (mm k).l, .slice ta n tc] 38))
          have hnw : ∀ j u, ([.string (mm k).n, .int .i64 (mm k).g, .bool (mm k).wh, .int .i64 (mm k).f, .int .i64 (mm k).l, .slice ta n tc] : List Value)[j]? = some u → (q1.alloc (Obj.cells #[.string (mm k).n, .int .i64 (mm k).g, .bool (mm k).wh, .int .i64 (mm k).f, .int .i64 (mm k).l, .slice ta n tc] 38)).cell? ((⟨q1.heap.size, 0, none⟩ : Addr).add j) = some u := new_cells q1 [.string (mm k).n, .int .i64 (mm k).g, .bool (mm k).wh, .int .i64 (mm k).f, .int .i64 (mm k).l, .slice ta n tc] 38
          refine hK.out _ _ trivial (fun _ => ?_)
          clear hK K
          try simp only [Act.put, List.setIfInBounds_toArray, List.set_cons_zero, List.set_cons_succ]
          obtain ⟨bN, hbN⟩ : ∃ z, z = q1.heap.size := ⟨_, rfl⟩
          rw [← hbN] at hnw ⊢
          obtain ⟨k2, hk2⟩ : ∃ z, z = q1.alloc (Obj.cells #[.string (mm k).n, .int .i64 (mm k).g, .bool (mm k).wh, .int .i64 (mm k).f, .int .i64 (mm k).l, .slice ta n tc] 38) := ⟨_, rfl⟩
          rw [← hk2] at hnw hA2 hG2 hR2 hV2 hM2 hN2 ⊢
          clear hbN hk2
          refine wpAnyH_ready (rs := [1]) (by kernel_rfl) (by simp) ?_
          refine AllReadyH.cons (o := { dst := some 30, op := Op.load 22 (Operand.tmp 29), type := 22, pos := "l05_catalog.go:140", after := #[{ on := 0, ground := Ground.data }], guard := none }) rfl (fun K hK => ?_) AllReadyH.nil
          have c6 := hV2.1.2 0 (by simp)
          have l6 := hV2.1.1
          simp only [List.getElem?_cons_zero] at c6
          go_simp
          try go_wp2_with fail
          refine hK.out _ _ trivial (fun _ => ?_)
          clear hK K
          try simp only [Act.put, List.setIfInBounds_toArray, List.set_cons_zero, List.set_cons_succ]
          clear c6 l6
          refine wpAnyH_ready (rs := [5]) (by kernel_rfl) (by simp) ?_
          refine AllReadyH.cons (o := { dst := some 34, op := Op.call { callee := Callee.builtin Builtin.append, args := #[Operand.tmp 30, Operand.tmp 33], argTypes := #[22, 22] }, type := 22, pos := "l05_catalog.go:140", after := #[{ on := 1, ground := Ground.data }, { on := 4, ground := Ground.data }, { on := 3, ground := Ground.chain }], guard := none }) rfl (fun K hK => ?_) AllReadyH.nil
          obtain ⟨xs, x1, x2, x3, x4, x5⟩ := hM2
          have x2' := x2
          rw [HLL.out] at x2'
          refine DocR.step_append_own rfl _ _ 22 rfl (bV + 1) 38 i0 (.agg #[.string ⟨#[]⟩, .int .i64 0, .bool false, .int .i64 0, .int .i64 0, .slice none 0 0]) 6 72 Tryd.underlying22 hi hz0 hz1 hz2 rfl gsz6 _ _ _ rfl x2' ⟨bN, 0, none⟩ 1 1 [.string (mm k).n, .int .i64 (mm k).g, .bool (mm k).wh, .int .i64 (mm k).f, .int .i64 (mm k).l, .slice ta n tc] rfl rfl hnw (by intro u hu; simp at hu; rcases hu with rfl | rfl | rfl | rfl | rfl | rfl <;> rfl) sz1 sz2 (hV2.1.1) ?_
          intro v9 w9 hown hgrow hne
          have hA3 := hA2.grown hgrow (fun e => by have := (x2'.lt _ e.symm).1; omega)
          have hG3 := gnewR hG2 hgrow (fun X e => by have := (x2'.lt _ e).1; omega)
          have hR3 := blkW_grown hR2 hgrow (fun e => by have := (x2'.lt _ e.symm).1; omega)
          have hV3 := blkW_grown hV2 hgrow (fun e => by have := (x2'.lt _ e.symm).1; omega)
          have hM3 : PM (k + 1) ≠ none → MsO (bV + 1) v9 (LM (k + 1)) w9 := by
            intro hq9
            obtain ⟨e1, e2⟩ := HNT.out hq9
            have hn9 := hN2
            have ho9 := hown
            rw [e1, e2] at hn9
            rw [e1] at ho9
            rw [HLM.out]
            exact mso_snoc x1 x3 x4 x5 hbl hn9 x2 hgrow (by rw [HLL.out]; exact ho9)
          obtain ⟨sb, sc, rfl⟩ := own_form hown
          clear hown hgrow hne hnw x1 x2 x3 x4 x5 x2'
          refine hK.out _ _ trivial (fun _ => ?_)
          clear hK K
          try simp only [Act.put, List.setIfInBounds_toArray, List.set_cons_zero, List.set_cons_succ]
          refine wpAnyH_take (i := 6) (oi := { dst := some 35, op := Op.fieldAddr 25 (Operand.tmp 4) 0, type := 0, pos := "l05_catalog.go:140", after := #[{ on := 0, ground := Ground.phase }, { on := 1, ground := Ground.phase }, { on := 2, ground := Ground.phase }, { on := 3, ground := Ground.phase }, { on := 4, ground := Ground.phase }, { on := 5, ground := Ground.phase }], guard := none }) (v := ?_) rfl (by kernel_rfl) (by kernel_rfl) (by kernel_rfl) (fun _ _ _ h => h) (Or.inl ⟨by rfl, ?_⟩) (by assumption) ?_
          rotate_left
          · (intro w hSw; (try dsimp only at hSw); go_simp) <;> with_reducible rfl
          try simp only [Act.put, List.setIfInBounds_toArray, List.set_cons_zero, List.set_cons_succ]
          refine wpAnyH_ready (rs := [7]) (by kernel_rfl) (by simp) ?_
          refine AllReadyH.cons (o := { dst := none, op := Op.store 22 (Operand.tmp 35) (Operand.tmp 34), type := 0, pos := "l05_catalog.go:140", after := #[{ on := 6, ground := Ground.data }, { on := 5, ground := Ground.data }, { on := 5, ground := Ground.chain }, { on := 0, ground := Ground.phase }, { on := 1, ground := Ground.phase }, { on := 2, ground := Ground.phase }, { on := 3, ground := Ground.phase }, { on := 4, ground := Ground.phase }, { on := 5, ground := Ground.phase }], guard := none }) rfl (fun K hK => ?_) AllReadyH.nil
          have c6 := hV3.1.2 0 (by simp)
          have l6 := hV3.1.1
          have f6 := hV3.2 0 (by simp)
          simp only [List.getElem?_cons_zero] at c6
          go_simp
          try go_wp2_with fail
          have hg := RowG.grown_set w9 bV 0 (.slice (some ⟨sb, 0, none⟩) (k + 1) sc)
          have hA9 := hA3.grown hg (by first | (simp; done) | (simp; omega))
          have hG9 := gnewG hG3 hg (by omega)
          have hR9 := blkW_grown hR3 hg (by first | (simp; done) | (simp; omega))
          have hV9 := hV3.set 0 (.slice (some ⟨sb, 0, none⟩) (k + 1) sc) (by simp)
          have hM9 := fun hq9 => (hM3 hq9).far hg (by omega)
          simp only [List.set_cons_zero] at hV9
          refine hK.out _ _ trivial (fun _ => ?_)
          clear hK K
          try simp only [Act.put, List.setIfInBounds_toArray, List.set_cons_zero, List.set_cons_succ]
          generalize (w9.setCell ⟨bV, 0, none⟩ (.slice (some ⟨sb, 0, none⟩) (k + 1) sc)) = kk at *
          refine wpAnyH_done (by kernel_rfl) ?_ _
          have HA9 := hid_intro hA9
          have HG9 := hid_intro hG9
          have HR9 := hid_intro hR9
          have HV9 := hid_intro hV9
          have HM9 := hid_intro hM9
          clear hA9 hG9 hR9 hV9 hM9 hg c6 l6 f6
          go_wp2_with fail
          go_roundw
          case rel => exact ⟨k + 1, .slice (some ⟨sb, 0, none⟩) (k + 1) sc, by omega, by go_num, HA9, HG9, HR9, HV9, HM9⟩
          case measure => simp [intOf]; omega
    · rcases exit_two heq hall hk with hex | ⟨hex, hd⟩
      · have HKC : Hid (PM C ≠ none → k = C) := hid_intro hall
        replace HA : Hid (SAfter (w.heap.size + 1) s (PM C) wr) := hid_intro (by rw [← heq]; exact HA.out)
        replace HM : Hid (PM C ≠ none → MsO (bV + 1) v (LM C) wr) := hid_intro (fun h9 => by have e9 := hall h9; subst e9; exact HM.out h9)
        clear heq hall
        go_wp2_with fail
        clear gl g0 g1 g2 gf0 gf1 gf2
        refine (RC2.out _ HA.out).mono ?_
        rintro e wD ⟨rfl, hA, hq⟩
        replace HA := hid_intro hA
        replace HG := hid_intro (gtrans HG.out hq)
        replace HV := hid_intro (blkW_grown HV.out hq (by first | (simp; done) | (simp; omega)))
        replace HR := hid_intro (blkW_grown HR.out hq (by first | (simp; done) | (simp; omega)))
        replace HM := hid_intro (fun h9 => (HM.out h9).far hq (by omega))
        clear hA hq
        go_wp2_with fail
        go_loopw [6] (fun z wx => ∃ (i : Nat) (ca : Option Addr) (cc : Nat), i ≤ D ∧ z = .int .i64 ((D : Int) - (i : Int)) ∧ Hid (SAfter (w.heap.size + 1) s (PC i) wx) ∧ Hid (w.grownBy wx (some (w.heap.size + 1))) ∧ Hid (BlkW bV [v, .slice ca i cc] wx) ∧ Hid (wx.ownsRow (bV + 1) 42 2 (.slice ca i cc) i (cellsAll Cr.cells (LC i))) ∧ Hid (BlkW w.heap.size [.slice none 0 0, .slice none 0 0, .int .i64 0] wx) ∧ Hid (PM C ≠ none → MsO (bV + 1) v (LM C) wx)) (fun z _ => (intOf z).toNat)
        case atStart => exact ⟨0, none, 0, by omega, by simp, HA, HG, HV, hid_intro (by rw [HC0.out]; exact World.ownsRow_nil _ _ _ _), HR, HM⟩
        case round =>
          clear HA HG HV HR HM
          obtain ⟨i, ca, cc, hki, rfl, HA, HG, HV, HO, HR, HM⟩ := hrel
          obtain ⟨pp, hSR⟩ := HA.out.open
          obtain ⟨gl, g0, g1, g2, gf0, gf1, gf2⟩ := hSR
          rcases exit_of HNC.out hki with ⟨hlt3, hno3⟩ | ⟨heq3, hall3⟩
          · have hlt4 : (0 : Int) < (D : Int) - (i : Int) := by omega
            rw [decide_eq_false hno3] at g2
            obtain ⟨om, rd1, rd2⟩ := RH.out i
            have RD1 := hid_intro rd1
            have RD2 := hid_intro rd2
            clear rd1 rd2 hno3
            have HLN := hid_intro (HCM.out i)
            generalize hh i = X at *
            generalize ss i = Y at *
            go_wp2_with fail
            clear gl g0 g1 g2 gf0 gf1 gf2
            refine (RD1.out _ HA.out).mono ?_
            rintro e u1 ⟨rfl, hA, hq⟩
            replace HA := hid_intro hA
            replace HG := hid_intro (gtrans HG.out hq)
            replace HV := hid_intro (blkW_grown HV.out hq (by first | (simp; done) | (simp; omega)))
            replace HO := hid_intro (own_keepG HO.out hq (by omega))
            replace HR := hid_intro (blkW_grown HR.out hq (by first | (simp; done) | (simp; omega)))
            replace HM := hid_intro (fun h9 => (HM.out h9).far hq (by omega))
            clear hA hq
            obtain ⟨u2, hu2⟩ : ∃ z, z = u1.alloc (.cells #[.string X, .int .i64 0] 42) := ⟨_, rfl⟩
            have al : Below u1.heap.size u1 u2 := by rw [hu2]; exact (Below.refl _ _).alloc (Nat.le_refl _) _
            have HQ : Hid (BlkW u1.heap.size [.string X, .int .i64 0] u2) := hid_intro (by rw [hu2]; exact BlkW.new u1 [.string X, .int .i64 0] 42)
            have hlq : bV < u1.heap.size := HV.out.1.1
            have HQO : Hid (∀ b, (.slice ca i cc : Value).ownBlock = some b → b < u1.heap.size) := hid_intro (fun b hb => (HO.out.lt b hb).2)
            have HMu := HM
            have HX := hid_intro (EvtR.rgrown al (some (w.heap.size + 1)))
            replace HA := hid_intro (satt HA.out al)
            replace HG := hid_intro (gtrans HG.out (EvtR.rgrown al _))
            replace HV := hid_intro (HV.out.below al)
            replace HO := hid_intro (RowG.own_below HO.out al)
            replace HR := hid_intro (HR.out.below al)
            replace HM := hid_intro (fun h9 => (HM.out h9).below al)
            have HW := hid_intro hu2
            obtain ⟨bQ, hbQ⟩ : ∃ z, z = u1.heap.size := ⟨_, rfl⟩
            rw [← hbQ] at HQ hlq HQO
            have HBQ := hid_intro hbQ
            clear hu2 hbQ al
            go_wp2_with fail
            rw [← HW.out, ← HBQ.out]
            clear HW
            refine (RD2.out _ HA.out).mono ?_
            rintro e u3 ⟨rfl, hA, hq⟩
            replace HQ := hid_intro (blkW_grown HQ.out hq (by first | (simp; done) | (simp; omega)))
            replace HX := hid_intro (gtrans HX.out hq)
            replace HA := hid_intro hA
            replace HG := hid_intro (gtrans HG.out hq)
            replace HV := hid_intro (blkW_grown HV.out hq (by first | (simp; done) | (simp; omega)))
            replace HO := hid_intro (own_keepG HO.out hq (by omega))
            replace HR := hid_intro (blkW_grown HR.out hq (by first | (simp; done) | (simp; omega)))
            replace HM := hid_intro (fun h9 => (HM.out h9).far hq (by omega))
            clear hA hq
            have hl := HQ.out.1.1
            have vl := HV.out.1.1
            have v7 := HV.out.1.2 1 (by simp)
            have f7 := HV.out.2 1 (by simp)
            have hqv : bQ ≠ bV := by omega
            have hvq : bV ≠ bQ := by omega
            have hcc := HQ.out.1.2 1 (by simp)
            have hc0 := HQ.out.1.2 0 (by simp)
            have hff := HQ.out.2 1 (by simp)
            simp only [List.getElem?_cons_zero, List.getElem?_cons_succ] at hcc hc0 v7
            have hgs := RowG.grown_set u3 bQ 1 (.int .i64 Y)
            have HXs := hid_intro (gnewG HX.out hgs (Nat.le_of_eq HBQ.out.symm))
            replace HA := hid_intro (HA.out.grown hgs (by first | (simp; done) | (simp; omega)))
            replace HG := hid_intro (gnewG HG.out hgs (by omega))
            replace HV := hid_intro (blkW_grown HV.out hgs (by first | (simp; done) | (simp; omega)))
            replace HO := hid_intro (own_keepO HO.out hgs (fun b hb => by have := HQO.out b hb; simp; omega))
            replace HR := hid_intro (blkW_grown HR.out hgs (by first | (simp; done) | (simp; omega)))
            replace HM := hid_intro (fun h9 => (HMu.out h9).far HXs.out (by omega))
            have hnw : ∀ j u, ([.string X, .int .i64 Y] : List Value)[j]? = some u → ((u3.setCell ⟨bQ, 1, none⟩ (.int .i64 Y)).alloc (.cells #[.string X, .int .i64 Y] 42)).cell? ((⟨u3.heap.size, 0, none⟩ : Addr).add j) = some u := by
              have h := new_cells (u3.setCell ⟨bQ, 1, none⟩ (.int .i64 Y)) [.string X, .int .i64 Y] 42
              simpa using h
            have HAL2 := hid_intro (fun b (hb : (.slice ca i cc : Value).ownBlock = some b) => (HO.out.lt b hb).1)
            have hbv : bV + 1 ≤ u3.heap.size := by omega
            clear hgs
            go_wp2_with (at_builtin; refine wpList_append_own _ rfl _ _ 23 rfl (bV + 1) 42 j0 (.agg #[.string ⟨#[]⟩, .int .i64 0]) 2 24 Tryd.underlying23 gi gz0 gz1 gz2 rfl (by decide) _ _ _ rfl (HO.out.alloc _) ⟨u3.heap.size, 0, none⟩ 1 1 [.string X, .int .i64 Y] rfl rfl hnw (cr_one _ _) ?d3 ?d4 ?d5 ?_)
            case d3 => unfold maxLen; omega
            case d4 => omega
            case d5 => simp; omega
            intro v9 w9 hown hgrow hne
            have hO9 : w9.ownsRow (bV + 1) 42 2 v9 (i + 1) (cellsAll Cr.cells (LC (i + 1))) := by rw [HLN.out, cellsAll_snoc]; exact hown
            have al := ((Below.refl _ (u3.setCell ⟨bQ, 1, none⟩ (.int .i64 Y))).alloc (Nat.le_refl _) (.cells #[.string X, .int .i64 Y] 42))
            replace HR := hid_intro (blkW_grown (HR.out.below al) hgrow (fun e => by have := HAL2.out _ e.symm; omega))
            replace HM := hid_intro (fun h9 => ((HM.out h9).below al).other (RowG.own_below HO.out al) hgrow (by decide) (by decide))
            replace HA := hid_intro ((satt HA.out al).grown hgrow (fun e => by have := HAL2.out _ e.symm; omega))
            replace HG := hid_intro (gnewR (gtrans HG.out (EvtR.rgrown al _)) hgrow (fun X e => by have := HAL2.out _ e; omega))
            replace HV := hid_intro (blkW_grown (HV.out.below al) hgrow (fun e => by have := HAL2.out _ e.symm; omega))
            obtain ⟨sb, sc, rfl⟩ := own_form hO9
            have HO9 := hid_intro hO9
            clear hown hgrow hne hnw hO9 al hl hcc hc0 hff vl v7 f7 HO HQ HAL2 HBQ
            have vl := HV.out.1.1
            have v7 := HV.out.1.2 1 (by simp)
            have f7 := HV.out.2 1 (by simp)
            simp only [List.getElem?_cons_zero, List.getElem?_cons_succ] at v7
            have hgs := RowG.grown_set w9 bV 1 (.slice (some ⟨sb, 0, none⟩) (i + 1) sc)
            have HA9 := hid_intro (HA.out.grown hgs (by first | (simp; done) | (simp; omega)))
            have HG9 := hid_intro (gnewG HG.out hgs (by omega))
            have HV9 := hid_intro (HV.out.set 1 (.slice (some ⟨sb, 0, none⟩) (i + 1) sc) (by simp))
            have HO8 := hid_intro (own_keepG HO9.out hgs (by omega))
            have HR9 := hid_intro (blkW_grown HR.out hgs (by first | (simp; done) | (simp; omega)))
            have HM9 := hid_intro (fun h9 => (HM.out h9).far hgs (by omega))
            simp only [List.set_cons_zero, List.set_cons_succ] at HV9
            clear hgs HA HG HV HO9 HR HM
            go_wp2_with fail
            go_roundw
            case rel => exact ⟨i + 1, some ⟨sb, 0, none⟩, sc, by omega, by go_num, HA9, HG9, HV9, HO8, HR9, HM9⟩
            case measure => simp [intOf]; omega
          · rcases exit_two heq3 hall3 hki with hex3 | ⟨hex3, hd3⟩
            · by_cases hn : PC i = none
              · have HNO : Hid (¬ (PC D ≠ none ∧ s.size ≠ 0 ∧ T = s)) := hid_intro (fun q => q.1 (by rw [← heq3]; exact hn))
                rw [decide_eq_true hn] at g2
                clear heq3 hall3 hn
                have hp9 := blkW_pt HR.out (n := 3) rfl
                have hl9 := hp9.lt
                obtain ⟨ov0, r0⟩ := hp9.has 0 (by omega)
                have f0 := hp9.free 0 (by omega)
                obtain ⟨ov1, r1⟩ := hp9.has 1 (by omega)
                have f1 := hp9.free 1 (by omega)
                obtain ⟨ov2, r2⟩ := hp9.has 2 (by omega)
                have f2 := hp9.free 2 (by omega)
                have hgf := StR.stL_grown w.heap.size [.slice none 0 0, .slice none 0 0, .int .i64 3] 0 wr
                have hbb : Below w.heap.size w wr := (Below.refl _ _).grown HG.out (Nat.le_refl _) (fun k e => by simp only [Option.some.injEq] at e; first | omega | (subst e; omega))
                have HBF := hid_intro (hbb.grown hgf hbb.size (fun k e => by simp only [Option.some.injEq] at e; first | omega | (subst e; omega)))
                simp only [StR.stL, Nat.zero_add, Nat.reduceAdd] at HBF
                clear hgf hp9 hbb
                go_wp2_with fail
                refine bodyPost_ret (v := .agg #[.slice none 0 0, .slice none 0 0, .int .i64 3]) (by simp [results, Tryd.results4, go_sem, r0, r1, r2]) rfl (spc_bad HNO.out HBF.out)
              · have hDn : PC D ≠ none := by rw [← heq3]; exact hn
                obtain rfl : i = D := hall3 hDn
                have hCn : PM C ≠ none := by
                  intro q
                  have := stay HNC.out (HNX.out q) i
                  rw [Nat.zero_add] at this
                  exact hn this
                obtain rfl : k = C := HKC.out hCn
                replace HM := hid_intro (HM.out hCn)
                obtain ⟨ma, mc, rfl, hme⟩ := HM.out.mes
                have HME := hid_intro hme
                rw [HML.out k] at HM HV HME
                clear hme
                rw [decide_eq_false hn] at g2
                clear heq3 hall3
                by_cases h0 : s.size = 0
                · have he := EvtR.empty_of s h0
                  have HNO : Hid (¬ (PC i ≠ none ∧ s.size ≠ 0 ∧ T = s)) := hid_intro (fun q => q.2.1 h0)
                  have hp9 := blkW_pt HR.out (n := 3) rfl
                  have hl9 := hp9.lt
                  obtain ⟨ov0, r0⟩ := hp9.has 0 (by omega)
                  have f0 := hp9.free 0 (by omega)
                  obtain ⟨ov1, r1⟩ := hp9.has 1 (by omega)
                  have f1 := hp9.free 1 (by omega)
                  obtain ⟨ov2, r2⟩ := hp9.has 2 (by omega)
                  have f2 := hp9.free 2 (by omega)
                  have hgf := StR.stL_grown w.heap.size [.slice none 0 0, .slice none 0 0, .int .i64 3] 0 wr
                  have hbb : Below w.heap.size w wr := (Below.refl _ _).grown HG.out (Nat.le_refl _) (fun k e => by simp only [Option.some.injEq] at e; first | omega | (subst e; omega))
                  have HBF := hid_intro (hbb.grown hgf hbb.size (fun k e => by simp only [Option.some.injEq] at e; first | omega | (subst e; omega)))
                  simp only [StR.stL, Nat.zero_add, Nat.reduceAdd] at HBF
                  clear hgf hp9 hbb
                  go_wp2_with fail
                  refine bodyPost_ret (v := .agg #[.slice none 0 0, .slice none 0 0, .int .i64 3]) (by simp [results, Tryd.results4, go_sem, r0, r1, r2]) rfl (spc_bad HNO.out HBF.out)
                · obtain ⟨he, he2⟩ := EvtR.full_of s h0
                  have HCW := hid_intro (HWB.out ma mc ca cc wr HME.out (own_crs HO.out (HCL.out i).symm))
                  have v0 : wr.cell? ⟨bV, 0, none⟩ = some (.slice ma k mc) := HV.out.1.2 0 (by simp)
                  have v1 : wr.cell? ⟨bV, 1, none⟩ = some (.slice ca i cc) := HV.out.1.2 1 (by simp)
                  have vl := HV.out.1.1
                  by_cases hTs : T = s
                  · have hq : (T.toList == s.toList) = true := by rw [hTs]; simp
                    have HOK : Hid (PC i ≠ none ∧ s.size ≠ 0 ∧ T = s) := hid_intro ⟨hn, h0, hTs⟩
                    clear hTs
                    go_wp2_with fail
                    refine HCW.out.mono ?_
                    rintro e wJ ⟨rfl, hbJ⟩
                    replace HG := hid_intro (gtrans HG.out (EvtR.rgrown hbJ _))
                    replace HR := hid_intro (HR.out.below hbJ)
                    replace HV := hid_intro (HV.out.below hbJ)
                    replace HM := hid_intro (HM.out.below hbJ)
                    replace HO := hid_intro (RowG.own_below HO.out hbJ)
                    clear hbJ HA gl g0 g1 g2 gf0 gf1 gf2 HCW v0 v1 vl
                    have v0 : wJ.cell? ⟨bV, 0, none⟩ = some (.slice ma k mc) := HV.out.1.2 0 (by simp)
                    have v1 : wJ.cell? ⟨bV, 1, none⟩ = some (.slice ca i cc) := HV.out.1.2 1 (by simp)
                    have vl := HV.out.1.1
                    have hp9 := blkW_pt HR.out (n := 3) rfl
                    have hl9 := hp9.lt
                    obtain ⟨ov0, r0⟩ := hp9.has 0 (by omega)
                    have f0 := hp9.free 0 (by omega)
                    obtain ⟨ov1, r1⟩ := hp9.has 1 (by omega)
                    have f1 := hp9.free 1 (by omega)
                    obtain ⟨ov2, r2⟩ := hp9.has 2 (by omega)
                    have f2 := hp9.free 2 (by omega)
                    have hgf := StR.stL_grown w.heap.size [.slice ma k mc, .slice ca i cc, .int .i64 0] 0 wJ
                    have hbb : Below w.heap.size w wJ := (Below.refl _ _).grown HG.out (Nat.le_refl _) (fun k e => by simp only [Option.some.injEq] at e; first | omega | (subst e; omega))
                    have HBF := hid_intro (hbb.grown hgf hbb.size (fun k e => by simp only [Option.some.injEq] at e; first | omega | (subst e; omega)))
                    have HMF := hid_intro (HM.out.far hgf (by omega))
                    have HCF := hid_intro (own_keepG HO.out hgf (by omega))
                    simp only [StR.stL, Nat.zero_add, Nat.reduceAdd] at HBF HMF HCF
                    clear hgf hp9 hbb
                    go_wp2_with fail
                    refine bodyPost_ret (v := .agg #[.slice ma k mc, .slice ca i cc, .int .i64 0]) (by simp [results, Tryd.results4, go_sem, r0, r1, r2]) rfl (spc_ok HOK.out (HMF.out.low (by omega)) (own_low HCF.out (by omega)) HBF.out)
                  · have hq : (T.toList == s.toList) = false := by
                      simp only [beq_eq_false_iff_ne, ne_eq]
                      exact fun h => hTs (ba_inj h)
                    have HNO : Hid (¬ (PC i ≠ none ∧ s.size ≠ 0 ∧ T = s)) := hid_intro (fun q => hTs q.2.2)
                    have hqn : T.toList ≠ s.toList := fun h => hTs (ba_inj h)
                    clear hTs
                    go_wp2_with fail
                    refine HCW.out.mono ?_
                    rintro e wJ ⟨rfl, hbJ⟩
                    replace HG := hid_intro (gtrans HG.out (EvtR.rgrown hbJ _))
                    replace HR := hid_intro (HR.out.below hbJ)
                    replace HV := hid_intro (HV.out.below hbJ)
                    replace HM := hid_intro (HM.out.below hbJ)
                    replace HO := hid_intro (RowG.own_below HO.out hbJ)
                    clear hbJ HA gl g0 g1 g2 gf0 gf1 gf2 HCW v0 v1 vl
                    have hp9 := blkW_pt HR.out (n := 3) rfl
                    have hl9 := hp9.lt
                    obtain ⟨ov0, r0⟩ := hp9.has 0 (by omega)
                    have f0 := hp9.free 0 (by omega)
                    obtain ⟨ov1, r1⟩ := hp9.has 1 (by omega)
                    have f1 := hp9.free 1 (by omega)
                    obtain ⟨ov2, r2⟩ := hp9.has 2 (by omega)
                    have f2 := hp9.free 2 (by omega)
                    have hgf := StR.stL_grown w.heap.size [.slice none 0 0, .slice none 0 0, .int .i64 3] 0 wJ
                    have hbb : Below w.heap.size w wJ := (Below.refl _ _).grown HG.out (Nat.le_refl _) (fun k e => by simp only [Option.some.injEq] at e; first | omega | (subst e; omega))
                    have HBF := hid_intro (hbb.grown hgf hbb.size (fun k e => by simp only [Option.some.injEq] at e; first | omega | (subst e; omega)))
                    simp only [StR.stL, Nat.zero_add, Nat.reduceAdd] at HBF
                    clear hgf hp9 hbb
                    go_wp2_with fail
                    refine bodyPost_ret (v := .agg #[.slice none 0 0, .slice none 0 0, .int .i64 3]) (by simp [results, Tryd.results4, go_sem, r0, r1, r2]) rfl (spc_bad HNO.out HBF.out)
            · have hn : PC i = none := of_decide_eq_true hd3
              have HNO : Hid (¬ (PC D ≠ none ∧ s.size ≠ 0 ∧ T = s)) := hid_intro (fun q => q.1 (by rw [← heq3]; exact hn))
              rw [hd3] at g2
              clear heq3 hall3 hn
              have hp9 := blkW_pt HR.out (n := 3) rfl
              have hl9 := hp9.lt
              obtain ⟨ov0, r0⟩ := hp9.has 0 (by omega)
              have f0 := hp9.free 0 (by omega)
              obtain ⟨ov1, r1⟩ := hp9.has 1 (by omega)
              have f1 := hp9.free 1 (by omega)
              obtain ⟨ov2, r2⟩ := hp9.has 2 (by omega)
              have f2 := hp9.free 2 (by omega)
              have hgf := StR.stL_grown w.heap.size [.slice none 0 0, .slice none 0 0, .int .i64 3] 0 wr
              have hbb : Below w.heap.size w wr := (Below.refl _ _).grown HG.out (Nat.le_refl _) (fun k e => by simp only [Option.some.injEq] at e; first | omega | (subst e; omega))
              have HBF := hid_intro (hbb.grown hgf hbb.size (fun k e => by simp only [Option.some.injEq] at e; first | omega | (subst e; omega)))
              simp only [StR.stL, Nat.zero_add, Nat.reduceAdd] at HBF
              clear hgf hp9 hbb
              go_wp2_with fail
              refine bodyPost_ret (v := .agg #[.slice none 0 0, .slice none 0 0, .int .i64 3]) (by simp [results, Tryd.results4, go_sem, r0, r1, r2]) rfl (spc_bad HNO.out HBF.out)
      · rw [hd] at g2
        clear hd
        have HKC : Hid (PM C ≠ none → k = C) := hid_intro hall
        replace HA : Hid (SAfter (w.heap.size + 1) s (PM C) wr) := hid_intro (by rw [← heq]; exact HA.out)
        replace HM : Hid (PM C ≠ none → MsO (bV + 1) v (LM C) wr) := hid_intro (fun h9 => by have e9 := hall h9; subst e9; exact HM.out h9)
        clear heq hall
        go_wp2_with fail
        clear gl g0 g1 g2 gf0 gf1 gf2
        refine (RC2.out _ HA.out).mono ?_
        rintro e wD ⟨rfl, hA, hq⟩
        replace HA := hid_intro hA
        replace HG := hid_intro (gtrans HG.out hq)
        replace HV := hid_intro (blkW_grown HV.out hq (by first | (simp; done) | (simp; omega)))
        replace HR := hid_intro (blkW_grown HR.out hq (by first | (simp; done) | (simp; omega)))
        replace HM := hid_intro (fun h9 => (HM.out h9).far hq (by omega))
        clear hA hq
        go_wp2_with fail
        go_loopw [6] (fun z wx => ∃ (i : Nat) (ca : Option Addr) (cc : Nat), i ≤ D ∧ z = .int .i64 ((D : Int) - (i : Int)) ∧ Hid (SAfter (w.heap.size + 1) s (PC i) wx) ∧ Hid (w.grownBy wx (some (w.heap.size + 1))) ∧ Hid (BlkW bV [v, .slice ca i cc] wx) ∧ Hid (wx.ownsRow (bV + 1) 42 2 (.slice ca i cc) i (cellsAll Cr.cells (LC i))) ∧ Hid (BlkW w.heap.size [.slice none 0 0, .slice none 0 0, .int .i64 0] wx) ∧ Hid (PM C ≠ none → MsO (bV + 1) v (LM C) wx)) (fun z _ => (intOf z).toNat)
        case atStart => exact ⟨0, none, 0, by omega, by simp, HA, HG, HV, hid_intro (by rw [HC0.out]; exact World.ownsRow_nil _ _ _ _), HR, HM⟩
        case round =>
          clear HA HG HV HR HM
          obtain ⟨i, ca, cc, hki, rfl, HA, HG, HV, HO, HR, HM⟩ := hrel
          obtain ⟨pp, hSR⟩ := HA.out.open
          obtain ⟨gl, g0, g1, g2, gf0, gf1, gf2⟩ := hSR
          rcases exit_of HNC.out hki with ⟨hlt3, hno3⟩ | ⟨heq3, hall3⟩
          · have hlt4 : (0 : Int) < (D : Int) - (i : Int) := by omega
            rw [decide_eq_false hno3] at g2
            obtain ⟨om, rd1, rd2⟩ := RH.out i
            have RD1 := hid_intro rd1
            have RD2 := hid_intro rd2
            clear rd1 rd2 hno3
            have HLN := hid_intro (HCM.out i)
            generalize hh i = X at *
            generalize ss i = Y at *
            go_wp2_with fail
            clear gl g0 g1 g2 gf0 gf1 gf2
            refine (RD1.out _ HA.out).mono ?_
            rintro e u1 ⟨rfl, hA, hq⟩
            replace HA := hid_intro hA
            replace HG := hid_intro (gtrans HG.out hq)
            replace HV := hid_intro (blkW_grown HV.out hq (by first | (simp; done) | (simp; omega)))
            replace HO := hid_intro (own_keepG HO.out hq (by omega))
            replace HR := hid_intro (blkW_grown HR.out hq (by first | (simp; done) | (simp; omega)))
            replace HM := hid_intro (fun h9 => (HM.out h9).far hq (by omega))
            clear hA hq
            obtain ⟨u2, hu2⟩ : ∃ z, z = u1.alloc (.cells #[.string X, .int .i64 0] 42) := ⟨_, rfl⟩
            have al : Below u1.heap.size u1 u2 := by rw [hu2]; exact (Below.refl _ _).alloc (Nat.le_refl _) _
            have HQ : Hid (BlkW u1.heap.size [.string X, .int .i64 0] u2) := hid_intro (by rw [hu2]; exact BlkW.new u1 [.string X, .int .i64 0] 42)
            have hlq : bV < u1.heap.size := HV.out.1.1
            have HQO : Hid (∀ b, (.slice ca i cc : Value).ownBlock = some b → b < u1.heap.size) := hid_intro (fun b hb => (HO.out.lt b hb).2)
            have HMu := HM
            have HX := hid_intro (EvtR.rgrown al (some (w.heap.size + 1)))
            replace HA := hid_intro (satt HA.out al)
            replace HG := hid_intro (gtrans HG.out (EvtR.rgrown al _))
            replace HV := hid_intro (HV.out.below al)
            replace HO := hid_intro (RowG.own_below HO.out al)
            replace HR := hid_intro (HR.out.below al)
            replace HM := hid_intro (fun h9 => (HM.out h9).below al)
            have HW := hid_intro hu2
            obtain ⟨bQ, hbQ⟩ : ∃ z, z = u1.heap.size := ⟨_, rfl⟩
            rw [← hbQ] at HQ hlq HQO
            have HBQ := hid_intro hbQ
            clear hu2 hbQ al
            go_wp2_with fail
            rw [← HW.out, ← HBQ.out]
            clear HW
            refine (RD2.out _ HA.out).mono ?_
            rintro e u3 ⟨rfl, hA, hq⟩
            replace HQ := hid_intro (blkW_grown HQ.out hq (by first | (simp; done) | (simp; omega)))
            replace HX := hid_intro (gtrans HX.out hq)
            replace HA := hid_intro hA
            replace HG := hid_intro (gtrans HG.out hq)
            replace HV := hid_intro (blkW_grown HV.out hq (by first | (simp; done) | (simp; omega)))
            replace HO := hid_intro (own_keepG HO.out hq (by omega))
            replace HR := hid_intro (blkW_grown HR.out hq (by first | (simp; done) | (simp; omega)))
            replace HM := hid_intro (fun h9 => (HM.out h9).far hq (by omega))
            clear hA hq
            have hl := HQ.out.1.1
            have vl := HV.out.1.1
            have v7 := HV.out.1.2 1 (by simp)
            have f7 := HV.out.2 1 (by simp)
            have hqv : bQ ≠ bV := by omega
            have hvq : bV ≠ bQ := by omega
            have hcc := HQ.out.1.2 1 (by simp)
            have hc0 := HQ.out.1.2 0 (by simp)
            have hff := HQ.out.2 1 (by simp)
            simp only [List.getElem?_cons_zero, List.getElem?_cons_succ] at hcc hc0 v7
            have hgs := RowG.grown_set u3 bQ 1 (.int .i64 Y)
            have HXs := hid_intro (gnewG HX.out hgs (Nat.le_of_eq HBQ.out.symm))
            replace HA := hid_intro (HA.out.grown hgs (by first | (simp; done) | (simp; omega)))
            replace HG := hid_intro (gnewG HG.out hgs (by omega))
            replace HV := hid_intro (blkW_grown HV.out hgs (by first | (simp; done) | (simp; omega)))
            replace HO := hid_intro (own_keepO HO.out hgs (fun b hb => by have := HQO.out b hb; simp; omega))
            replace HR := hid_intro (blkW_grown HR.out hgs (by first | (simp; done) | (simp; omega)))
            replace HM := hid_intro (fun h9 => (HMu.out h9).far HXs.out (by omega))
            have hnw : ∀ j u, ([.string X, .int .i64 Y] : List Value)[j]? = some u → ((u3.setCell ⟨bQ, 1, none⟩ (.int .i64 Y)).alloc (.cells #[.string X, .int .i64 Y] 42)).cell? ((⟨u3.heap.size, 0, none⟩ : Addr).add j) = some u := by
              have h := new_cells (u3.setCell ⟨bQ, 1, none⟩ (.int .i64 Y)) [.string X, .int .i64 Y] 42
              simpa using h
            have HAL2 := hid_intro (fun b (hb : (.slice ca i cc : Value).ownBlock = some b) => (HO.out.lt b hb).1)
            have hbv : bV + 1 ≤ u3.heap.size := by omega
            clear hgs
            go_wp2_with (at_builtin; refine wpList_append_own _ rfl _ _ 23 rfl (bV + 1) 42 j0 (.agg #[.string ⟨#[]⟩, .int .i64 0]) 2 24 Tryd.underlying23 gi gz0 gz1 gz2 rfl (by decide) _ _ _ rfl (HO.out.alloc _) ⟨u3.heap.size, 0, none⟩ 1 1 [.string X, .int .i64 Y] rfl rfl hnw (cr_one _ _) ?d3 ?d4 ?d5 ?_)
            case d3 => unfold maxLen; omega
            case d4 => omega
            case d5 => simp; omega
            intro v9 w9 hown hgrow hne
            have hO9 : w9.ownsRow (bV + 1) 42 2 v9 (i + 1) (cellsAll Cr.cells (LC (i + 1))) := by rw [HLN.out, cellsAll_snoc]; exact hown
            have al := ((Below.refl _ (u3.setCell ⟨bQ, 1, none⟩ (.int .i64 Y))).alloc (Nat.le_refl _) (.cells #[.string X, .int .i64 Y] 42))
            replace HR := hid_intro (blkW_grown (HR.out.below al) hgrow (fun e => by have := HAL2.out _ e.symm; omega))
            replace HM := hid_intro (fun h9 => ((HM.out h9).below al).other (RowG.own_below HO.out al) hgrow (by decide) (by decide))
            replace HA := hid_intro ((satt HA.out al).grown hgrow (fun e => by have := HAL2.out _ e.symm; omega))
            replace HG := hid_intro (gnewR (gtrans HG.out (EvtR.rgrown al _)) hgrow (fun X e => by have := HAL2.out _ e; omega))
            replace HV := hid_intro (blkW_grown (HV.out.below al) hgrow (fun e => by have := HAL2.out _ e.symm; omega))
            obtain ⟨sb, sc, rfl⟩ := own_form hO9
            have HO9 := hid_intro hO9
            clear hown hgrow hne hnw hO9 al hl hcc hc0 hff vl v7 f7 HO HQ HAL2 HBQ
            have vl := HV.out.1.1
            have v7 := HV.out.1.2 1 (by simp)
            have f7 := HV.out.2 1 (by simp)
            simp only [List.getElem?_cons_zero, List.getElem?_cons_succ] at v7
            have hgs := RowG.grown_set w9 bV 1 (.slice (some ⟨sb, 0, none⟩) (i + 1) sc)
            have HA9 := hid_intro (HA.out.grown hgs (by first | (simp; done) | (simp; omega)))
            have HG9 := hid_intro (gnewG HG.out hgs (by omega))
            have HV9 := hid_intro (HV.out.set 1 (.slice (some ⟨sb, 0, none⟩) (i + 1) sc) (by simp))
            have HO8 := hid_intro (own_keepG HO9.out hgs (by omega))
            have HR9 := hid_intro (blkW_grown HR.out hgs (by first | (simp; done) | (simp; omega)))
            have HM9 := hid_intro (fun h9 => (HM.out h9).far hgs (by omega))
            simp only [List.set_cons_zero, List.set_cons_succ] at HV9
            clear hgs HA HG HV HO9 HR HM
            go_wp2_with fail
            go_roundw
            case rel => exact ⟨i + 1, some ⟨sb, 0, none⟩, sc, by omega, by go_num, HA9, HG9, HV9, HO8, HR9, HM9⟩
            case measure => simp [intOf]; omega
          · rcases exit_two heq3 hall3 hki with hex3 | ⟨hex3, hd3⟩
            · by_cases hn : PC i = none
              · have HNO : Hid (¬ (PC D ≠ none ∧ s.size ≠ 0 ∧ T = s)) := hid_intro (fun q => q.1 (by rw [← heq3]; exact hn))
                rw [decide_eq_true hn] at g2
                clear heq3 hall3 hn
                have hp9 := blkW_pt HR.out (n := 3) rfl
                have hl9 := hp9.lt
                obtain ⟨ov0, r0⟩ := hp9.has 0 (by omega)
                have f0 := hp9.free 0 (by omega)
                obtain ⟨ov1, r1⟩ := hp9.has 1 (by omega)
                have f1 := hp9.free 1 (by omega)
                obtain ⟨ov2, r2⟩ := hp9.has 2 (by omega)
                have f2 := hp9.free 2 (by omega)
                have hgf := StR.stL_grown w.heap.size [.slice none 0 0, .slice none 0 0, .int .i64 3] 0 wr
                have hbb : Below w.heap.size w wr := (Below.refl _ _).grown HG.out (Nat.le_refl _) (fun k e => by simp only [Option.some.injEq] at e; first | omega | (subst e; omega))
                have HBF := hid_intro (hbb.grown hgf hbb.size (fun k e => by simp only [Option.some.injEq] at e; first | omega | (subst e; omega)))
                simp only [StR.stL, Nat.zero_add, Nat.reduceAdd] at HBF
                clear hgf hp9 hbb
                go_wp2_with fail
                refine bodyPost_ret (v := .agg #[.slice none 0 0, .slice none 0 0, .int .i64 3]) (by simp [results, Tryd.results4, go_sem, r0, r1, r2]) rfl (spc_bad HNO.out HBF.out)
              · have hDn : PC D ≠ none := by rw [← heq3]; exact hn
                obtain rfl : i = D := hall3 hDn
                have hCn : PM C ≠ none := by
                  intro q
                  have := stay HNC.out (HNX.out q) i
                  rw [Nat.zero_add] at this
                  exact hn this
                have hkc := HKC.out hCn
                omega
            · have hn : PC i = none := of_decide_eq_true hd3
              have HNO : Hid (¬ (PC D ≠ none ∧ s.size ≠ 0 ∧ T = s)) := hid_intro (fun q => q.1 (by rw [← heq3]; exact hn))
              rw [hd3] at g2
              clear heq3 hall3 hn
              have hp9 := blkW_pt HR.out (n := 3) rfl
              have hl9 := hp9.lt
              obtain ⟨ov0, r0⟩ := hp9.has 0 (by omega)
              have f0 := hp9.free 0 (by omega)
              obtain ⟨ov1, r1⟩ := hp9.has 1 (by omega)
              have f1 := hp9.free 1 (by omega)
              obtain ⟨ov2, r2⟩ := hp9.has 2 (by omega)
              have f2 := hp9.free 2 (by omega)
              have hgf := StR.stL_grown w.heap.size [.slice none 0 0, .slice none 0 0, .int .i64 3] 0 wr
              have hbb : Below w.heap.size w wr := (Below.refl _ _).grown HG.out (Nat.le_refl _) (fun k e => by simp only [Option.some.injEq] at e; first | omega | (subst e; omega))
              have HBF := hid_intro (hbb.grown hgf hbb.size (fun k e => by simp only [Option.some.injEq] at e; first | omega | (subst e; omega)))
              simp only [StR.stL, Nat.zero_add, Nat.reduceAdd] at HBF
              clear hgf hp9 hbb
              go_wp2_with fail
              refine bodyPost_ret (v := .agg #[.slice none 0 0, .slice none 0 0, .int .i64 3]) (by simp [results, Tryd.results4, go_sem, r0, r1, r2]) rfl (spc_bad HNO.out HBF.out)
end CatR
end Go.Proofs.YtgaihlhoegaliaaDoor
namespace Go.Proofs.YtgaihlhoegaliaaDoor
open Go.ChangeShapes Go.WideShapes Go.ChangeAt Go.RowKit
set_option linter.unusedVariables false
namespace CatR
open NumR (numB numB_size)
open JoinR (joinB jl)
theorem infoS : (Tryd.prog.info? 9).map (fun i => (i.zero, i.size, i.bytes)) = some (some (.string ⟨#[]⟩), 1, 16) := by kernel_rfl
theorem own_below {w w' : World} {base e size n : Nat} {v : Value} {xs : List Value} (h : w.ownsRow base e size v n xs) (hb : Below w.heap.size w w') : w'.ownsRow base e size v n xs := by
  refine ⟨h.1, ?_⟩
  rcases h.2 with hn | ⟨g, cap, cur, rfl, h1, hg, rest⟩
  · exact .inl hn
  · exact .inr ⟨g, cap, cur, rfl, h1, (hb.block g (Array.getElem?_eq_some_iff.1 hg).1).trans hg, rest⟩
theorem own_drew {w : World} {base e size n : Nat} {v : Value} {xs : List Value} (h : w.ownsRow base e size v n xs) : w.drew.ownsRow base e size v n xs := h
theorem own_texts {w : World} {base n : Nat} {v : Value} {xs : List ByteArray} (h : w.ownsRow base 9 1 v n (xs.map Value.string)) (hne : v ≠ .slice none 0 0) :
    ∃ g cap, v = .slice (some ⟨g, 0, none⟩) n cap ∧ g < w.heap.size ∧ xs.length = n ∧ n ≤ cap ∧ ∀ k (hk : k < xs.length), w.cell? ⟨g, k, none⟩ = some (.string xs[k]) := by
  have hl := h.1
  have hlen : xs.length = n := by simpa using hl
  rcases h.2 with ⟨h0, _⟩ | ⟨g, cap, cur, hv, _, _, hc, _⟩
  · exact absurd h0 hne
  · refine ⟨g, cap, hv, (h.lt g (by rw [hv]; rfl)).2, hlen, hc, fun k hk => ?_⟩
    have := h.cells (g := g) (by rw [hv]; rfl) k (.string xs[k]) (by simp [List.getElem?_map, List.getElem?_eq_getElem hk])
    rw [← this]
    congr 1
    unfold Addr.add; split <;> simp_all
/-- append to a list of one's own, as one step of a region that draws. -/
theorem step_append_own {P : Program} {w : World} {ops : Array Oper} {o : Oper} {a : Act} {K : Act → World → Prop} {Q : Exit → Act → World → Prop} {E : Prop} (hgd : o.guard = none) (s x : Operand) (t : TypeId)
    (ho : o.op = .call { callee := .builtin .append, args := #[s, x], argTypes := #[t, t] })
    (base : Nat) (e : TypeId) (i : TypeInfo) (z : Value) (size bytes : Nat) (ht : P.underlying t = some (.slice e)) (hi : P.info? e = some i) (hz : i.zero = some z)
    (hsize : i.size = size) (hby : i.bytes = bytes) (hzs : z.cells.size = size) (hsz : 0 < size)
    (v : Value) (n : Nat) (xs : List Value) (hs : a.eval s = v) (hown : w.ownsRow base e size v n xs)
    (ad : Addr) (m c : Nat) (news : List Value) (hx : a.eval x = .slice (some ad) m c) (hl : news.length = m * size) (hnews : ∀ j u, news[j]? = some u → w.cell? (ad.add j) = some u) (h1 : ∀ u ∈ news, u.oneCell' = true)
    (h63 : n + m ≤ maxLen) (hbytes : (n + m) * bytes ≤ 140737488355328) (hbase : base ≤ w.heap.size)
    (h : ∀ v' w', w'.ownsRow base e size v' (n + m) (xs ++ news) → w.grownBy w' v.ownBlock → (v' = .slice none 0 0 ↔ v = .slice none 0 0 ∧ m = 0) → K (a.put o.dst v') w') : if Region.wanted o (yielded ops a.tmps) = true then Oper.wp P o a w K Q else E := by
  have hw : Region.wanted o (yielded ops a.tmps) = true := by simp [Region.wanted, hgd]
  rw [if_pos hw]
  exact wp_append_own w s x t ho base e i z size bytes ht hi hz hsize hby hzs hsz v n xs hs hown ad m c news hx hl hnews h1 h63 hbytes hbase h
theorem own_base {w : World} {base e size n : Nat} {v : Value} {xs : List Value} (h : w.ownsRow base e size v n xs) (hv : v ≠ .slice none 0 0) : base ≤ w.heap.size := by
  rcases h.2 with ⟨h0, _⟩ | ⟨g, cap, cur, h1, h2, hg, _⟩
  · exact absurd h0 hv
  · have := (Array.getElem?_eq_some_iff.1 hg).1
    omega
theorem two_cells (w : World) (x y : ByteArray) (T : TypeId) : ∀ j u, [Value.string x, Value.string y][j]? = some u → (w.alloc (.cells #[.string x, .string y] T)).cell? ((⟨w.heap.size, 0, none⟩ : Addr).add j) = some u := by
  intro j u hj
  match j, hj with
  | 0, hj => simp at hj; subst hj; simp [Addr.add]
  | 1, hj => simp at hj; subst hj; simp [Addr.add, go_sem]
theorem two_one (x y : ByteArray) : ∀ u ∈ [Value.string x, Value.string y], u.oneCell' = true := by
  intro u hu
  simp at hu
  rcases hu with rfl | rfl <;> rfl
/-- What is held while a meter's fields are put. -/
def BM (w : World) (B : Nat) (a0 a1 a2 a3 a4 a5 : Value) (W : World) : Prop := Below w.heap.size w W ∧ B < W.heap.size ∧ W.cell? ⟨B, 0, none⟩ = some a0 ∧ W.cell? ⟨B, 1, none⟩ = some a1 ∧ W.cell? ⟨B, 2, none⟩ = some a2 ∧ W.cell? ⟨B, 3, none⟩ = some a3 ∧ W.cell? ⟨B, 4, none⟩ = some a4 ∧ W.cell? ⟨B, 5, none⟩ = some a5
theorem BM.below {w : World} {B : Nat} {a0 a1 a2 a3 a4 a5 : Value} {W W' : World} (h : BM w B a0 a1 a2 a3 a4 a5 W) (hb : Below W.heap.size W W') : BM w B a0 a1 a2 a3 a4 a5 W' := by
  obtain ⟨h0, l1, p0, p1, p2, p3, p4, p5⟩ := h
  have f := fun o => hb.cell (p := ⟨B, o, none⟩) l1
  have hs := hb.size
  exact ⟨h0.trans (hb.mono h0.size), by omega, (f 0).trans p0, (f 1).trans p1, (f 2).trans p2, (f 3).trans p3, (f 4).trans p4, (f 5).trans p5⟩
theorem BM.drew {w : World} {B : Nat} {a0 a1 a2 a3 a4 a5 : Value} {W : World} (h : BM w B a0 a1 a2 a3 a4 a5 W) : BM w B a0 a1 a2 a3 a4 a5 W.drew := ⟨h.1.drew, h.2⟩
/-- What is held while a pair's fields are put. -/
def BM2 (w : World) (B : Nat) (a0 a1 : Value) (W : World) : Prop := Below w.heap.size w W ∧ B < W.heap.size ∧ W.cell? ⟨B, 0, none⟩ = some a0 ∧ W.cell? ⟨B, 1, none⟩ = some a1
theorem BM2.below {w : World} {B : Nat} {a0 a1 : Value} {W W' : World} (h : BM2 w B a0 a1 W) (hb : Below W.heap.size W W') : BM2 w B a0 a1 W' := by
  obtain ⟨h0, l1, p0, p1⟩ := h
  have f := fun o => hb.cell (p := ⟨B, o, none⟩) l1
  have hs := hb.size
  exact ⟨h0.trans (hb.mono h0.size), by omega, (f 0).trans p0, (f 1).trans p1⟩
theorem BM2.drew {w : World} {B : Nat} {a0 a1 : Value} {W : World} (h : BM2 w B a0 a1 W) : BM2 w B a0 a1 W.drew := ⟨h.1.drew, h.2⟩
theorem BM2.grown {w : World} {B : Nat} {a0 a1 : Value} {W W' : World} {v : Value} {wr : World} {base e size n : Nat} {xs : List Value} (h : BM2 w B a0 a1 W) (hg : W.grownBy W' v.ownBlock) (ho : wr.ownsRow base e size v n xs) (hB : B = wr.heap.size := by rfl) (hbase : w.heap.size ≤ base := by omega) : BM2 w B a0 a1 W' := by
  obtain ⟨h0, l1, p0, p1⟩ := h
  have hne : some B ≠ v.ownBlock := fun e => by have := (ho.lt B e.symm).2; omega
  have e := hg.block B l1 hne
  exact ⟨h0.grown hg h0.size (fun k e => by have := (ho.lt k e).1; omega), by have := hg.size; omega, (World.cell?_of_block (a := ⟨B, 0, none⟩) e).trans p0, (World.cell?_of_block (a := ⟨B, 1, none⟩) e).trans p1⟩
end CatR
end Go.Proofs.YtgaihlhoegaliaaDoor
namespace Go.Proofs.YtgaihlhoegaliaaDoor
open Go.ChangeShapes Go.WideShapes Go.ChangeAt Go.RowKit
set_option linter.unusedVariables false
namespace CatR
open NumR (numB numB_size)
open JoinR (joinB jl)
theorem one_cell (w : World) (x : ByteArray) (T : TypeId) : ∀ j u, [Value.string x][j]? = some u → (w.alloc (.cells #[.string x] T)).cell? ((⟨w.heap.size, 0, none⟩ : Addr).add j) = some u := by
  intro j u hj
  match j, hj with
  | 0, hj => simp at hj; subst hj; simp [Addr.add]
theorem one_one (x : ByteArray) : ∀ u ∈ [Value.string x], u.oneCell' = true := by
  intro u hu
  simp at hu
  subst hu; rfl
theorem blk_grown {b : Nat} {cs : List Value} {w w' : World} {row : Option Nat} (h : Blk b cs w) (hg : w.grownBy w' row) (hne : some b ≠ row) : Blk b cs w' := by
  have e := hg.block b h.1 hne
  exact ⟨by have := hg.size; have := h.1; omega, fun i hi => (World.cell?_of_block (a := ⟨b, i, none⟩) e).trans (h.2 i hi)⟩
/-- The parts so far: the meters', then the credits'. -/
def pA (c : Ca) (k : Nat) : List ByteArray := [numB c.ms.length] ++ (c.ms.take k).map meBy
def pB (c : Ca) (k : Nat) : List ByteArray := ((([numB c.ms.length] ++ c.ms.map meBy) ++ [numB c.cs.length])) ++ (c.cs.take k).flatMap crP
theorem pB_size {c : Ca} (h : caB c = true) (k : Nat) : (joinB (pB c k)).size ≤ 20 * 640 := by
  obtain ⟨⟨m6, hm⟩, ⟨c6, hc⟩⟩ := caB_iff.1 h
  have h1 := join_size_le 640 (pB c k) (fun x hx => by
    unfold pB at hx
    simp only [List.mem_append, List.mem_cons, List.not_mem_nil, or_false, List.mem_map, List.mem_flatMap] at hx
    rcases hx with ((rfl | ⟨m, hmm, rfl⟩) | rfl) | ⟨y, hy, hx⟩
    · exact Nat.le_trans (num_le (by omega) (by omega)) (by omega)
    · obtain ⟨i, hi, rfl⟩ := List.getElem_of_mem hmm
      have e : c.ms.getD i Me.zero = c.ms[i] := by simp [List.getD, hi]
      have := (hm i hi).1
      rw [e] at this
      exact meBy_size this
    · exact Nat.le_trans (num_le (by omega) (by omega)) (by omega)
    · obtain ⟨i, hi, rfl⟩ := List.getElem_of_mem (List.mem_of_mem_take hy)
      have e : c.cs.getD i Cr.zero = c.cs[i] := by simp [List.getD, hi]
      have h2 := (hc i hi).1
      unfold cA cM at h2
      rw [e] at h2
      simp only [crP, List.mem_cons, List.not_mem_nil, or_false] at hx
      rcases hx with rfl | rfl
      · exact Nat.le_trans (txt_le (name_le h2.1).2) (by omega)
      · exact Nat.le_trans (num_le h2.2.1 h2.2.2) (by omega))
  have h2 : (pB c k).length ≤ 20 := by
    unfold pB
    simp only [List.length_append, List.length_cons, List.length_nil, List.length_map, cr_len, List.length_take]
    omega
  exact Nat.le_trans h1 (Nat.mul_le_mul_right _ h2)
end CatR
end Go.Proofs.YtgaihlhoegaliaaDoor
namespace Go.Proofs.YtgaihlhoegaliaaDoor
open Go.ChangeShapes Go.WideShapes Go.ChangeAt Go.RowKit
set_option linter.unusedVariables false
namespace CatR
open NumR (numB numB_size)
open JoinR (joinB jl)
theorem spec_flag (b : Bool) (w : World) : Calls Tryd.prog 41 #[.bool b] w fun e w' => e = .returned (.string (numB (fl b))) ∧ Below w.heap.size w w' := by
  have P1 := hid_intro (fun w => NumR.spec_put 1 w (by omega))
  have P0 := hid_intro (fun w => NumR.spec_put 0 w (by omega))
  cases b
  · rw [show fl false = 0 from rfl]
    generalize numB 0 = X at *
    go_enter Tryd.func41, Tryd.ntmps41
    go_wp2_with fail
    refine (P0.out _).mono ?_
    rintro e w1 ⟨rfl, hb⟩
    go_wp2_with fail
    go_ret
    exact ⟨rfl, hb⟩
  · rw [show fl true = 1 from rfl]
    generalize numB 1 = X at *
    go_enter Tryd.func41, Tryd.ntmps41
    go_wp2_with fail
    refine (P1.out _).mono ?_
    rintro e w1 ⟨rfl, hb⟩
    go_wp2_with fail
    go_ret
    exact ⟨rfl, hb⟩
theorem pA_size {c : Ca} (h : caB c = true) (k : Nat) : (joinB (pA c k)).size ≤ 7 * 640 := by
  obtain ⟨⟨m6, hm⟩, ⟨c6, hc⟩⟩ := caB_iff.1 h
  have h1 := join_size_le 640 (pA c k) (fun x hx => by
    unfold pA at hx
    simp only [List.mem_append, List.mem_cons, List.not_mem_nil, or_false, List.mem_map] at hx
    rcases hx with rfl | ⟨m, hmm, rfl⟩
    · exact Nat.le_trans (num_le (by omega) (by omega)) (by omega)
    · obtain ⟨i, hi, rfl⟩ := List.getElem_of_mem (List.mem_of_mem_take hmm)
      have e : c.ms.getD i Me.zero = c.ms[i] := by simp [List.getD, hi]
      have := (hm i hi).1
      rw [e] at this
      exact meBy_size this)
  have h2 : (pA c k).length ≤ 7 := by
    unfold pA
    simp only [List.length_append, List.length_cons, List.length_nil, List.length_map, List.length_take]
    omega
  exact Nat.le_trans h1 (Nat.mul_le_mul_right _ h2)
theorem app_two (X a b : ByteArray) (l : List ByteArray) (h : X = joinB l) : X ++ a ++ b = joinB (l ++ [a, b]) := by
  rw [joinB_app, joinB_two, h, ByteArray.append_assoc]
theorem app_in (T X a b : ByteArray) (l : List ByteArray) (h : X = T ++ joinB l) : X ++ a ++ b = T ++ joinB (l ++ [a, b]) := by
  rw [joinB_app, joinB_two, h, ByteArray.append_assoc, ByteArray.append_assoc]
theorem app_six (T a b c d e f : ByteArray) : T ++ a ++ b ++ c ++ d ++ e ++ f = T ++ joinB [a, b, c, d, e, f] := by
  rw [show [a, b, c, d, e, f] = [a, b] ++ ([c, d] ++ [e, f]) from rfl, joinB_app, joinB_app, joinB_two, joinB_two, joinB_two]
  simp only [ByteArray.append_assoc]
/-- What is held while a pair of a list is put: the list's own cell, and the pair's two. -/
def BT (w : World) (B o b f : Nat) (x a0 a1 : Value) (W : World) : Prop := Below w.heap.size w W ∧ B < W.heap.size ∧ b < W.heap.size ∧ W.cell? ⟨B, o, none⟩ = some x ∧ W.cell? ⟨b, f, none⟩ = some a0 ∧ W.cell? ⟨b, f + 1, none⟩ = some a1
theorem BT.below {w : World} {B o b f : Nat} {x a0 a1 : Value} {W W' : World} (h : BT w B o b f x a0 a1 W) (hb : Below W.heap.size W W') : BT w B o b f x a0 a1 W' := by
  obtain ⟨h0, l1, l2, p0, p1, p2⟩ := h
  have g1 := fun o => hb.cell (p := ⟨B, o, none⟩) l1
  have g2 := fun o => hb.cell (p := ⟨b, o, none⟩) l2
  have hs := hb.size
  exact ⟨h0.trans (hb.mono h0.size), by omega, by omega, (g1 _).trans p0, (g2 _).trans p1, (g2 _).trans p2⟩
theorem BT.drew {w : World} {B o b f : Nat} {x a0 a1 : Value} {W : World} (h : BT w B o b f x a0 a1 W) : BT w B o b f x a0 a1 W.drew := ⟨h.1.drew, h.2⟩
set_option maxRecDepth 100000 in
set_option maxHeartbeats 8000000 in
theorem spec_l05 (v : Value) (c : Ca) (w : World) (hC : IsCa v c w) (hR : caB c = true) :
    Calls Tryd.prog 24 #[v] w fun e w' => e = .returned (.string (joinB (caP c))) ∧ Below w.heap.size w w' := by
  obtain ⟨ma, mc, ca, cc, rfl, hM, hJ⟩ := hC
  obtain ⟨⟨m6, hmo⟩, ⟨c6, hco⟩⟩ := caB_iff.1 hR
  have HPA := hid_intro (fun k => pA_size (c := c) hR k)
  have HPB := hid_intro (fun k => pB_size (c := c) hR k)
  have HMO := hid_intro hmo
  have HCO := hid_intro hco
  have HM := hid_intro hM
  have HJ := hid_intro hJ
  clear hM hJ hR hmo hco
  have HB : Hid (Below w.heap.size w (w.alloc (.cells #[.slice ma c.ms.length mc, .slice ca c.cs.length cc] 25))) := hid_intro ((Below.refl _ _).alloc (Nat.le_refl _) _)
  have HA : Hid (Blk w.heap.size [.slice ma c.ms.length mc, .slice ca c.cs.length cc] (w.alloc (.cells #[.slice ma c.ms.length mc, .slice ca c.cs.length cc] 25))) := hid_intro (Blk.new w _ _)
  generalize hml : c.ms.length = ml at *
  generalize hcl : c.cs.length = cl at *
  have HML := hid_intro hml
  have HCL := hid_intro hcl
  clear hml hcl
  have P1 := hid_intro (fun w => NumR.spec_put (ml : Int) w (by omega))
  have P2 := hid_intro (fun w => NumR.spec_put (cl : Int) w (by omega))
  have HP1 : Hid (numB (ml : Int) = joinB (pA c 0)) := hid_intro (by unfold pA; rw [HML.out, List.take_zero, List.map_nil, List.append_nil, joinB_one])
  have HP2 : Hid (joinB (pA c ml) ++ numB (cl : Int) = joinB (pB c 0)) := hid_intro (by
    unfold pA pB
    rw [HML.out, HCL.out, List.take_of_length_le (l := c.ms) (i := ml) (by have := HML.out; omega), List.take_zero, List.flatMap_nil, List.append_nil, joinB_app _ [numB (cl : Int)], joinB_one])
  have HP3 : Hid (pB c cl = caP c) := hid_intro (by unfold pB caP; rw [List.take_of_length_le (by have := HCL.out; omega)])
  have h2s : (numB (cl : Int)).size ≤ 40 := num_le (by omega) (by omega)
  generalize numB (ml : Int) = T1 at *
  generalize numB (cl : Int) = T2 at *
  have HRD : Hid (joinB (caP c) = joinB (pB c cl)) := hid_intro (by rw [HP3.out])
  generalize joinB (caP c) = R at *
  go_enter Tryd.func24, Tryd.ntmps24
  go_wp2_with fail
  refine (P1.out _).mono ?_
  rintro e w1 ⟨rfl, hb1⟩
  have HB1 := hid_intro (HB.out.trans (hb1.mono HB.out.size))
  have HA1 := hid_intro (HA.out.below hb1)
  have hl1 := HA1.out.1
  have q0 : w1.cell? ⟨w.heap.size, 0, none⟩ = some (.slice ma ml mc) := HA1.out.2 0 (by simp)
  have q1 : w1.cell? ⟨w.heap.size, 1, none⟩ = some (.slice ca cl cc) := HA1.out.2 1 (by simp)
  clear hb1 HB HA
  go_wp2_with fail
  go_loopw [3, 4] (fun x z wr => ∃ (j : Nat) (T : ByteArray), j ≤ ml ∧ x = .string T ∧ z = .int .i64 j ∧ Hid (T = joinB (pA c j)) ∧ Hid (Below w.heap.size w wr) ∧ Hid (Blk w.heap.size [.slice ma ml mc, .slice ca cl cc] wr)) (fun x z _ => ml - (intOf z).toNat)
  case atStart => exact ⟨0, T1, by omega, rfl, rfl, HP1, HB1, HA1⟩
  case round =>
    clear HB1 HA1 hl1 q0 q1
    obtain ⟨j, T, hj, rfl, rfl, HT, HB, HA⟩ := hrel
    have hTs : T.size ≤ 7 * 640 := by rw [HT.out]; exact HPA.out j
    have hl2 := HA.out.1
    by_cases hlt : j < ml
    · obtain ⟨Wo, hWo⟩ : ∃ Wo, Wo = wr := ⟨_, rfl⟩
      subst hWo
      have hlt2 : (j : Int) < (ml : Int) := by omega
      have hjl : j < c.ms.length := by have := HML.out; omega
      have q0 : Wo.cell? ⟨w.heap.size, 0, none⟩ = some (.slice ma ml mc) := HA.out.2 0 (by simp)
      have q1 : Wo.cell? ⟨w.heap.size, 1, none⟩ = some (.slice ca cl cc) := HA.out.2 1 (by simp)
      obtain ⟨b, off, rfl, hbl, ta, tc, c0, c1, c2, c3, c4, c5, hT⟩ := mes_at (HM.out.below HB.out) j hlt
      have hMR := (HMO.out j (by first | exact hjl | exact hlt)).1
      have HC1 : Hid (joinB (pA c (j + 1)) = joinB (pA c j) ++ meBy (c.ms.getD j Me.zero)) := hid_intro (by unfold pA; rw [take_map c.ms meBy Me.zero j hjl, ← List.append_assoc, joinB_app, joinB_one])
      generalize c.ms.getD j Me.zero = m at *
      obtain ⟨⟨b0, b1⟩, b2, b3, b4, b5⟩ := mright_bd hMR
      have HFB := fl_bd m.wh
      have HB5 := hid_intro b5
      have HSZ := hid_intro (fun k => mePk_size hMR k)
      have S1 := hid_intro (fun w => PutTextL.spec_text m.n w (by omega))
      have S2 := hid_intro (fun w => NumR.spec_put m.g w (by omega))
      have S3 := hid_intro (fun w => spec_flag m.wh w)
      have S4 := hid_intro (fun w => NumR.spec_put m.f w (by omega))
      have S5 := hid_intro (fun w => NumR.spec_put m.l w (by omega))
      have S6 := hid_intro (fun w => NumR.spec_put (m.ts.length : Int) w (by omega))
      have HBY : Hid (meBy m = joinB (meH m ++ m.ts.flatMap tiP)) := rfl
      have HH : Hid (meH m = [numB m.n.size ++ m.n, numB m.g, numB (fl m.wh), numB m.f, numB m.l, numB m.ts.length]) := rfl
      have z1 : (numB (m.n.size : Int) ++ m.n).size ≤ 40 := meH_size hMR _ (by rw [HH.out]; simp)
      have z2 : (numB m.g).size ≤ 40 := num_le b2.1 (by omega)
      have z3 : (numB (fl m.wh)).size ≤ 40 := num_le HFB.1 (by omega)
      have z4 : (numB m.f).size ≤ 40 := num_le b3.1 (by omega)
      have z5 : (numB m.l).size ≤ 40 := num_le b4.1 b4.2
      have z6 : (numB (m.ts.length : Int)).size ≤ 40 := num_le (by omega) (by omega)
      clear hMR b0 b2 b3 b4 b5 HFB
      have HTI := hid_intro hT
      clear hT
      generalize meBy m = MB at *
      generalize meH m = MH at *
      obtain ⟨n, g, wh, f, l, ts⟩ := m
      simp only at *
      generalize numB (n.size : Int) ++ n = Y1 at *
      generalize numB g = Y2 at *
      generalize numB (fl wh) = Y3 at *
      generalize fl wh = F3 at *
      generalize numB f = Y4 at *
      generalize numB l = Y5 at *
      generalize numB (ts.length : Int) = Y6 at *
      generalize htl : ts.length = tl at *
      have HTL := hid_intro htl
      clear htl
      have k1 : ¬ 9223372036854775807 < T.size + Y1.size := by omega
      have k2 : ¬ 9223372036854775807 < T.size + Y1.size + Y2.size := by omega
      have k3 : ¬ 9223372036854775807 < T.size + Y1.size + Y2.size + Y3.size := by omega
      have k4 : ¬ 9223372036854775807 < T.size + Y1.size + Y2.size + Y3.size + Y4.size := by omega
      have k5 : ¬ 9223372036854775807 < T.size + Y1.size + Y2.size + Y3.size + Y4.size + Y5.size := by omega
      have k6 : ¬ 9223372036854775807 < T.size + Y1.size + Y2.size + Y3.size + Y4.size + Y5.size + Y6.size := by omega
      have HTS := hid_intro hTs
      clear z1 z2 z3 z4 z5 z6 hTs
      go_wp2_with fail
      have HS0 : Hid (BM Wo Wo.heap.size (.string n) (.int .i64 g) (.bool wh) (.int .i64 f) (.int .i64 l) (.slice ta tl tc) (Wo.alloc (.cells #[.string n, .int .i64 g, .bool wh, .int .i64 f, .int .i64 l, .slice ta tl tc] 38))) := hid_intro ⟨(Below.refl _ _).alloc (Nat.le_refl _) _, by simp, by simp [go_sem], by simp [go_sem], by simp [go_sem], by simp [go_sem], by simp [go_sem], by simp [go_sem]⟩
      have HS1 := hid_intro HS0.out.drew
      go_region_held3 (fun W => Below Wo.heap.size Wo W ∧ Wo.heap.size < W.heap.size ∧ W.cell? ⟨Wo.heap.size, 0, none⟩ = some (.string n) ∧ W.cell? ⟨Wo.heap.size, 1, none⟩ = some (.int .i64 g) ∧ W.cell? ⟨Wo.heap.size, 2, none⟩ = some (.bool wh) ∧ W.cell? ⟨Wo.heap.size, 3, none⟩ = some (.int .i64 f) ∧ W.cell? ⟨Wo.heap.size, 4, none⟩ = some (.int .i64 l) ∧ W.cell? ⟨Wo.heap.size, 5, none⟩ = some (.slice ta tl tc)) (first | assumption | (exact HS0.out) | (exact HS1.out) | (exact BM.below (w := Wo) (B := Wo.heap.size) (by assumption) hb))
        (first | (go_at_call 40; refine (S1.out _).mono ?_; rintro e w' ⟨rfl, hb⟩) | (go_at_call 41; refine (S3.out _).mono ?_; rintro e w' ⟨rfl, hb⟩) | (go_at_call_of 39 (Value.int .i64 g); refine (S2.out _).mono ?_; rintro e w' ⟨rfl, hb⟩) | (go_at_call_of 39 (Value.int .i64 f); refine (S4.out _).mono ?_; rintro e w' ⟨rfl, hb⟩) | (go_at_call_of 39 (Value.int .i64 l); refine (S5.out _).mono ?_; rintro e w' ⟨rfl, hb⟩) | (go_at_call_of 39 (Value.int .i64 (tl : Int)); refine (S6.out _).mono ?_; rintro e w' ⟨rfl, hb⟩))
      rename_i hS
      obtain ⟨W1, hW1⟩ : ∃ W1, W1 = w' := ⟨_, rfl⟩
      rw [← hW1] at hS ⊢
      have HS2 := hid_intro hS
      have g5 : W1.cell? ⟨Wo.heap.size, 5, none⟩ = some (.slice ta tl tc) := hS.2.2.2.2.2.2.2
      have g6 := hS.2.1
      have HX0 : Hid (T ++ Y1 ++ Y2 ++ Y3 ++ Y4 ++ Y5 ++ Y6 = T ++ joinB (MH ++ (ts.take 0).flatMap tiP)) := hid_intro (by rw [app_six, HH.out, List.take_zero, List.flatMap_nil, List.append_nil])
      clear hS HS0 HS1 k1 k2 k3 k4 k5 k6 c0 c1 c2 c3 c4 c5 hW1 q0 q1
      generalize T ++ Y1 ++ Y2 ++ Y3 ++ Y4 ++ Y5 ++ Y6 = X0 at *
      go_wp2_with fail
      go_loopw [3, 6] (fun x z wx => ∃ (k : Nat) (X : ByteArray), k ≤ tl ∧ x = .string X ∧ z = .int .i64 k ∧ Hid (X = T ++ joinB (MH ++ (ts.take k).flatMap tiP)) ∧ Hid (BM Wo Wo.heap.size (.string n) (.int .i64 g) (.bool wh) (.int .i64 f) (.int .i64 l) (.slice ta tl tc) wx)) (fun x z _ => tl - (intOf z).toNat)
      case atStart => exact ⟨0, X0, by omega, rfl, rfl, HX0, HS2⟩
      case round =>
        clear HX0 HS2 g5 g6
        obtain ⟨k, X, hk, rfl, rfl, HX, HS2⟩ := hrel
        have HBW := hid_intro HS2.out.1
        have HBA := hid_intro (HB.out.trans (HS2.out.1.mono HB.out.size))
        have g5 : wr.cell? ⟨Wo.heap.size, 5, none⟩ = some (.slice ta tl tc) := HS2.out.2.2.2.2.2.2.2
        have g6 := HS2.out.2.1
        by_cases hkt : k < tl
        · have hkt2 : (k : Int) < (tl : Int) := by omega
          obtain ⟨b', off', rfl, hbl', d0, d1⟩ := tis_at (HTI.out.below HBW.out) k hkt
          have c0 : wr.cell? ⟨b', off' + k * 2, none⟩ = some (.int .i64 (tU ts k)) := d0
          have c1 : wr.cell? ⟨b', off' + k * 2 + 1, none⟩ = some (.int .i64 (tP ts k)) := d1
          clear d0 d1
          obtain ⟨⟨u1, u2⟩, u3', u4⟩ := HB5.out k (by first | exact hkt | (have := HTL.out; omega))
          have Q1 := hid_intro (fun w => NumR.spec_put (tU ts k) w (by omega))
          have Q2 := hid_intro (fun w => NumR.spec_put (tP ts k) w (by omega))
          have v1 : (numB (tU ts k)).size ≤ 40 := num_le u1 u2
          have v2 : (numB (tP ts k)).size ≤ 40 := num_le u3' (by omega)
          have HC2 : Hid ((ts.take (k + 1)).flatMap tiP = (ts.take k).flatMap tiP ++ [numB (tU ts k), numB (tP ts k)]) := hid_intro (take_flat ts tiP Ti.zero k (by have := HTL.out; omega))
          have hXs : X.size ≤ 7 * 640 + 640 := by rw [HX.out, ByteArray.size_append]; have := HSZ.out k; have := HTS.out; omega
          generalize numB (tU ts k) = X1 at *
          generalize numB (tP ts k) = X2 at *
          generalize tU ts k = U at *
          generalize tP ts k = P at *
          have k1 : ¬ 9223372036854775807 < X.size + X1.size := by omega
          have k2 : ¬ 9223372036854775807 < X.size + X1.size + X2.size := by omega
          clear u1 u2 u3' u4 v1 v2 hXs
          have HAl : Hid (BT wr Wo.heap.size 5 b' (off' + k * 2) (.slice (some ⟨b', off', none⟩) tl tc) (.int .i64 U) (.int .i64 P) wr) := hid_intro ⟨Below.refl _ _, g6, hbl', g5, c0, c1⟩
          have HAd := hid_intro HAl.out.drew
          go_wp2_with fail
          go_region_held3 (fun W => Below wr.heap.size wr W ∧ Wo.heap.size < W.heap.size ∧ b' < W.heap.size ∧ W.cell? ⟨Wo.heap.size, 5, none⟩ = some (.slice (some ⟨b', off', none⟩) tl tc) ∧ W.cell? ⟨b', off' + k * 2, none⟩ = some (.int .i64 U) ∧ W.cell? ⟨b', off' + k * 2 + 1, none⟩ = some (.int .i64 P))
            (first | assumption | (exact HAl.out) | (exact HAd.out) | (exact BT.below (w := wr) (B := Wo.heap.size) (o := 5) (b := b') (f := off' + k * 2) (by assumption) hb1) | (exact BT.below (w := wr) (B := Wo.heap.size) (o := 5) (b := b') (f := off' + k * 2) (by assumption) hb2))
            (first | (go_at_call_of 39 (Value.int .i64 U); refine (Q1.out _).mono ?_; rintro e w1 ⟨rfl, hb1⟩) | (go_at_call_of 39 (Value.int .i64 P); refine (Q2.out _).mono ?_; rintro e w2 ⟨rfl, hb2⟩))
          rename_i hS
          have HS3 := hid_intro (BM.below HS2.out hS.1)
          have HX1 : Hid (X ++ X1 ++ X2 = T ++ joinB (MH ++ (ts.take (k + 1)).flatMap tiP)) := hid_intro (by rw [HC2.out, ← List.append_assoc]; exact app_in T X X1 X2 _ HX.out)
          clear hS k1 k2 HS2
          go_wp2_with fail
          go_roundw
          case rel => exact ⟨k + 1, X ++ X1 ++ X2, by omega, rfl, by go_num, HX1, HS3⟩
          case measure => simp [intOf]; omega
        · obtain rfl : k = tl := by omega
          have HXE : Hid (X = joinB (pA c (j + 1))) := hid_intro (by
            rw [HC1.out, HBY.out, HX.out, HT.out, List.take_of_length_le (by have := HTL.out; omega)])
          have HAE := hid_intro (HA.out.below HBW.out)
          go_wp2_with fail
          go_roundw
          case rel => exact ⟨j + 1, X, by omega, rfl, by go_num, HXE, HBA, HAE⟩
          case measure => simp [intOf]; omega
    · obtain rfl : j = ml := by omega
      have q0 : wr.cell? ⟨w.heap.size, 0, none⟩ = some (.slice ma j mc) := HA.out.2 0 (by simp)
      have q1 : wr.cell? ⟨w.heap.size, 1, none⟩ = some (.slice ca cl cc) := HA.out.2 1 (by simp)
      have k1 : ¬ 9223372036854775807 < T.size + T2.size := by omega
      go_wp2_with fail
      refine (P2.out _).mono ?_
      rintro e w4 ⟨rfl, hb4⟩
      have HB4 := hid_intro (HB.out.trans (hb4.mono HB.out.size))
      have HA4 := hid_intro (HA.out.below hb4)
      have hl4 := HA4.out.1
      have q2 : w4.cell? ⟨w.heap.size, 1, none⟩ = some (.slice ca cl cc) := HA4.out.2 1 (by simp)
      have HX0 : Hid (T ++ T2 = joinB (pB c 0)) := hid_intro (by rw [HT.out]; exact HP2.out)
      clear hb4 q1 q0
      go_wp2_with fail
      go_loopw [3, 7] (fun x z wx => ∃ (i : Nat) (X : ByteArray), i ≤ cl ∧ x = .string X ∧ z = .int .i64 i ∧ Hid (X = joinB (pB c i)) ∧ Hid (Below w.heap.size w wx) ∧ Hid (Blk w.heap.size [.slice ma j mc, .slice ca cl cc] wx)) (fun x z _ => cl - (intOf z).toNat)
      case atStart => exact ⟨0, T ++ T2, by omega, rfl, rfl, HX0, HB4, HA4⟩
      case round =>
        clear HX0 HB4 HA4 hl4 q2 HB HA hl2 k1
        obtain ⟨i, X, hi, rfl, rfl, HX, HB, HA⟩ := hrel
        have hl2 := HA.out.1
        have q1 : wr.cell? ⟨w.heap.size, 1, none⟩ = some (.slice ca cl cc) := HA.out.2 1 (by simp)
        by_cases hit : i < cl
        · have hit2 : (i : Int) < (cl : Int) := by omega
          have hil : i < c.cs.length := by have := HCL.out; omega
          obtain ⟨b', off', rfl, hbl', d0, d1⟩ := crs_at (HJ.out.below HB.out) i hit
          have c0 : wr.cell? ⟨b', off' + i * 2, none⟩ = some (.string (cA c.cs i)) := d0
          have c1 : wr.cell? ⟨b', off' + i * 2 + 1, none⟩ = some (.int .i64 (cM c.cs i)) := d1
          clear d0 d1
          obtain ⟨⟨u1, u2, u3'⟩, _⟩ := HCO.out i (by first | exact hil | exact hit)
          have u4 := (name_le u1).2
          have Q1 := hid_intro (fun w => PutTextL.spec_text (cA c.cs i) w (by omega))
          have Q2 := hid_intro (fun w => NumR.spec_put (cM c.cs i) w (by omega))
          have v1 : (numB ((cA c.cs i).size : Int) ++ cA c.cs i).size ≤ 40 := txt_le u4
          have v2 : (numB (cM c.cs i)).size ≤ 40 := num_le u2 u3'
          have HC1 : Hid (pB c (i + 1) = pB c i ++ [numB ((cA c.cs i).size : Int) ++ cA c.cs i, numB (cM c.cs i)]) := hid_intro (by unfold pB; rw [take_flat c.cs crP Cr.zero i hil, ← List.append_assoc]; rfl)
          have hXs : X.size ≤ 20 * 640 := by rw [HX.out]; exact HPB.out i
          generalize numB ((cA c.cs i).size : Int) ++ cA c.cs i = X1 at *
          generalize numB (cM c.cs i) = X2 at *
          generalize cA c.cs i = U at *
          generalize cM c.cs i = P at *
          have k1 : ¬ 9223372036854775807 < X.size + X1.size := by omega
          have k2 : ¬ 9223372036854775807 < X.size + X1.size + X2.size := by omega
          clear u1 u2 u3' u4 v1 v2 hXs
          have HAl : Hid (BT wr w.heap.size 1 b' (off' + i * 2) (.slice (some ⟨b', off', none⟩) cl cc) (.string U) (.int .i64 P) wr) := hid_intro ⟨Below.refl _ _, hl2, hbl', q1, c0, c1⟩
          have HAd := hid_intro HAl.out.drew
          go_wp2_with fail
          go_region_held3 (fun W => Below wr.heap.size wr W ∧ w.heap.size < W.heap.size ∧ b' < W.heap.size ∧ W.cell? ⟨w.heap.size, 1, none⟩ = some (.slice (some ⟨b', off', none⟩) cl cc) ∧ W.cell? ⟨b', off' + i * 2, none⟩ = some (.string U) ∧ W.cell? ⟨b', off' + i * 2 + 1, none⟩ = some (.int .i64 P))
            (first | assumption | (exact HAl.out) | (exact HAd.out) | (exact BT.below (w := wr) (B := w.heap.size) (o := 1) (b := b') (f := off' + i * 2) (by assumption) hb1) | (exact BT.below (w := wr) (B := w.heap.size) (o := 1) (b := b') (f := off' + i * 2) (by assumption) hb2))
            (first | (go_at_call 40; refine (Q1.out _).mono ?_; rintro e w1 ⟨rfl, hb1⟩) | (go_at_call 39; refine (Q2.out _).mono ?_; rintro e w2 ⟨rfl, hb2⟩))
          rename_i hS
          have HB5 := hid_intro (HB.out.trans (hS.1.mono HB.out.size))
          have HA5 := hid_intro (HA.out.below hS.1)
          have HX1 : Hid (X ++ X1 ++ X2 = joinB (pB c (i + 1))) := hid_intro (by rw [HC1.out]; exact app_two X X1 X2 _ HX.out)
          clear hS k1 k2
          go_wp2_with fail
          go_roundw
          case rel => exact ⟨i + 1, X ++ X1 ++ X2, by omega, rfl, by go_num, HX1, HB5, HA5⟩
          case measure => simp [intOf]; omega
        · obtain rfl : i = cl := by omega
          go_wp2_with fail
          go_ret
          exact ⟨ret_str (by rw [HRD.out]; exact HX.out), HB.out⟩
theorem spec_cab (v : Value) (c : Ca) (w : World) (hS : c.Small) (hC : IsCa v c w) :
    Calls Tryd.prog 13 #[v] w fun e w' => e = .returned (.string (caBy c)) ∧ Below w.heap.size w w' := by
  have HR := hid_intro (fun W (hW : Below w.heap.size w W) => spec_ca v c W hS (hC.below hW))
  have HL := hid_intro (fun (h : caB c = true) W (hW : Below w.heap.size w W) => spec_l05 v c W (hC.below hW) h)
  have HBY : Hid (caBy c = if caB c = true then joinB (caP c) else ⟨#[]⟩) := rfl
  obtain ⟨ma, mc, ca, cc, rfl, hM, hJ⟩ := hC
  clear hM hJ hS
  generalize caB c = r at *
  generalize caBy c = Y at *
  generalize joinB (caP c) = X at *
  have HB : Hid (Below w.heap.size w (w.alloc (.cells #[.slice ma c.ms.length mc, .slice ca c.cs.length cc] 25))) := hid_intro ((Below.refl _ _).alloc (Nat.le_refl _) _)
  have HA : Hid (Blk w.heap.size [.slice ma c.ms.length mc, .slice ca c.cs.length cc] (w.alloc (.cells #[.slice ma c.ms.length mc, .slice ca c.cs.length cc] 25))) := hid_intro (Blk.new w _ _)
  generalize c.ms.length = ml at *
  generalize c.cs.length = cl at *
  go_enter Tryd.func13, Tryd.ntmps13
  go_wp2_with fail
  refine (HR.out _ HB.out).mono ?_
  rintro e w1 ⟨rfl, hb1⟩
  have HB1 := hid_intro (HB.out.trans (hb1.mono HB.out.size))
  have HA1 := hid_intro (HA.out.below hb1)
  have hl1 := HA1.out.1
  have q0 : w1.cell? ⟨w.heap.size, 0, none⟩ = some (.slice ma ml mc) := HA1.out.2 0 (by simp)
  have q1 : w1.cell? ⟨w.heap.size, 1, none⟩ = some (.slice ca cl cc) := HA1.out.2 1 (by simp)
  clear hb1 HB HA
  cases r
  · go_wp2_with fail
    go_ret
    exact ⟨ret_str (by rw [HBY.out]; first | rw [if_neg (by simp)] | rfl), HB1.out⟩
  · have HRR : Hid (Y = X) := hid_intro (by rw [HBY.out]; (first | rw [if_pos rfl] | rw [if_pos trivial]))
    go_wp2_with fail
    refine (HL.out (by first | exact rfl | trivial) _ HB1.out).mono ?_
    rintro e w2 ⟨rfl, hb2⟩
    have HB2 := hid_intro (HB1.out.trans (hb2.mono HB1.out.size))
    clear hb2
    go_wp2_with fail
    go_ret
    exact ⟨ret_str HRR.out.symm, HB2.out⟩
end CatR
end Go.Proofs.YtgaihlhoegaliaaDoor
namespace Go.Proofs.YtgaihlhoegaliaaDoor
open Go.ChangeShapes Go.WideShapes Go.ChangeAt Go.RowKit
set_option linter.unusedVariables false
namespace CatR
open OwG
open RowG (MadeG Rws cellsAll hid_intro)
open EvtR (Pt After SAfter rT pT rN pN rC pC rC_le rT_size)
open SpR (pC_none)
/-- An answer of one's own. -/
def CoO (base : Nat) (v : Value) (c : Ca) (cd : Int) (W : World) : Prop := ∃ (vm : Value) (ca : Option Addr) (cc : Nat), v = .agg #[vm, .slice ca c.cs.length cc, .int .i64 cd] ∧ MsO base vm c.ms W ∧ W.ownsRow base 42 2 (.slice ca c.cs.length cc) c.cs.length (cellsAll Cr.cells c.cs)
/-- An answer that reads so. -/
def CoR (v : Value) (c : Ca) (cd : Int) (W : World) : Prop := ∃ ma mc ca cc, v = .agg #[.slice ma c.ms.length mc, .slice ca c.cs.length cc, .int .i64 cd] ∧ Mes ma c.ms.length c.ms W ∧ Crs ca c.cs.length c.cs W
theorem CoR.below {v : Value} {c : Ca} {cd : Int} {W W' : World} (h : CoR v c cd W) (hb : Below W.heap.size W W') : CoR v c cd W' := by
  obtain ⟨ma, mc, ca, cc, rfl, h1, h2⟩ := h
  exact ⟨ma, mc, ca, cc, rfl, h1.below hb, h2.below hb⟩
theorem CoO.reads {base : Nat} {v : Value} {c : Ca} {cd : Int} {W : World} (h : CoO base v c cd W) : CoR v c cd W := by
  obtain ⟨vm, ca, cc, rfl, h1, h2⟩ := h
  obtain ⟨ma, mc, rfl, hm⟩ := h1.mes
  exact ⟨ma, mc, ca, cc, rfl, hm, own_crs h2 rfl⟩
set_option maxHeartbeats 4000000 in
theorem icbig (s : ByteArray) (w : World) (h : 8000 < s.size) (hm : s.size ≤ 1048576) :
    Calls Tryd.prog 5 #[.string s] w fun e w' => e = .returned (.agg #[.slice none 0 0, .slice none 0 0, .int .i64 2]) ∧ Below w.heap.size w w' := by
  have h8 : (8000 : Int) < (s.size : Int) := by omega
  go_enter Tryd.func5, Tryd.ntmps5
  go_wp2_with fail
  refine bodyPost_ret (v := .agg #[.slice none 0 0, .slice none 0 0, .int .i64 2]) (by simp [results, Tryd.results5, go_sem]) rfl ⟨rfl, ?_⟩
  repeat' first | exact Below.refl _ _ | apply Below.setCell | apply Below.alloc
  all_goals first | omega | (simp; done) | (simp; omega)
set_option maxHeartbeats 4000000 in
theorem scbig (s : ByteArray) (w : World) (h : 8000 < s.size) (hm : s.size ≤ 1048576) :
    Calls Tryd.prog 4 #[.string s] w fun e w' => e = .returned (.agg #[.slice none 0 0, .slice none 0 0, .int .i64 2]) ∧ Below w.heap.size w w' := by
  have h8 : (8000 : Int) < (s.size : Int) := by omega
  go_enter Tryd.func4, Tryd.ntmps4
  go_wp2_with fail
  refine bodyPost_ret (v := .agg #[.slice none 0 0, .slice none 0 0, .int .i64 2]) (by simp [results, Tryd.results4, go_sem]) rfl ⟨rfl, ?_⟩
  repeat' first | exact Below.refl _ _ | apply Below.setCell | apply Below.alloc
  all_goals first | omega | (simp; done) | (simp; omega)
theorem smanyC (g : Nat) (s : ByteArray) (o : Option Nat) (M : Nat) (w : World) (hs : s.size ≤ 8000) (h : SAfter g s o w) :
    Calls Tryd.prog 9 #[.pointer (some ⟨g, 0, none⟩), .int .i64 M] w fun e w' => e = .returned (.int .i64 (rC s o M : Nat)) ∧ SAfter g s (pC s o M) w' ∧ w.grownBy w' (some g) := by
  refine (EvtR.many_any g s o M w hs h).mono ?_
  intro e w' hh
  unfold rC pC
  by_cases q : 0 ≤ rN s o ∧ rN s o ≤ ((M : Nat) : Int)
  · rw [if_pos q] at hh
    rw [if_pos q, if_pos q]
    obtain ⟨⟨rfl, h1⟩, h2⟩ := hh
    exact ⟨by rw [Int.toNat_of_nonneg q.1], h1, h2⟩
  · rw [if_neg q] at hh
    rw [if_neg q, if_neg q]
    obtain ⟨⟨rfl, h1⟩, h2⟩ := hh
    exact ⟨rfl, h1, h2⟩
theorem ime_of (g : Nat) (s : ByteArray) (o : Option Nat) (w : World) (hs : s.size ≤ 8000) (hA : After g s o w) :
    Calls Tryd.prog 26 #[.pointer (some ⟨g, 0, none⟩)] w fun e w' => ∃ ta tc, e = .returned (.agg #[.string (meR false s o).n, .int .i64 (meR false s o).g, .bool (meR false s o).wh, .int .i64 (meR false s o).f, .int .i64 (meR false s o).l, .slice ta (meR false s o).ts.length tc]) ∧ w'.ownsRow w.heap.size 57 2 (.slice ta (meR false s o).ts.length tc) (meR false s o).ts.length (cellsAll Ti.cells (meR false s o).ts) ∧ After g s (meQ false s o) w' ∧ w.grownBy w' (some g) := by
  rw [meR_len]
  refine ime_in g s o (pT s o) (mO2 s o) (mO3 false s o) (pN s (mO3 false s o)) (mO5 false s o) _ _ _ _ _ (rC s (mO2 s o) 1) (mC false s o) (fun i => (tisR s (mO6 false s o) i).2) (fun i => (tisR s (mO6 false s o) i).1) (fun i => rN s (tisR s (mO6 false s o) i).2) (fun i => rN s (pN s (tisR s (mO6 false s o) i).2)) w hA (fun w h => EvtR.rword g s _ w hs h) (fun w h => EvtR.rnum g s _ w hs h) (fun w h => EvtR.rcount g s _ 1 w hs h) (fun w h => EvtR.rnum g s _ w hs h) (fun w h => EvtR.rnum g s _ w hs h) (fun w h => EvtR.rcount g s _ 5 w hs h)
    (fun i => ⟨pN s (tisR s (mO6 false s o) i).2, fun w h => EvtR.rnum g s _ w hs h, by
      (try dsimp only)
      rw [tisR_snoc]
      exact fun w h => EvtR.rnum g s _ w hs h⟩)
    ?_ (rC_le s _ 5) rfl (fun i => by (try dsimp only); rw [tisR_snoc])
  have := rC_le s (mO2 s o) 1
  show (rC s (mO2 s o) 1 = 0 ∧ mW false s (mO2 s o) = false) ∨ (rC s (mO2 s o) 1 = 1 ∧ mW false s (mO2 s o) = true)
  unfold mW
  simp only [cond_false]
  by_cases q : rC s (mO2 s o) 1 = 1
  · exact .inr ⟨q, decide_eq_true q⟩
  · exact .inl ⟨by omega, decide_eq_false q⟩
theorem sme_of (g : Nat) (s : ByteArray) (o : Option Nat) (w : World) (hs : s.size ≤ 8000) (hA : SAfter g s o w) :
    Calls Tryd.prog 10 #[.pointer (some ⟨g, 0, none⟩)] w fun e w' => ∃ (n : Nat) (ta : Option Addr) (tc : Nat) (ts : List Ti), (meQ true s o ≠ none → n = (meR true s o).ts.length ∧ ts = (meR true s o).ts) ∧ e = .returned (.agg #[.string (meR true s o).n, .int .i64 (meR true s o).g, .bool (meR true s o).wh, .int .i64 (meR true s o).f, .int .i64 (meR true s o).l, .slice ta n tc]) ∧ w'.ownsRow w.heap.size 57 2 (.slice ta n tc) n (cellsAll Ti.cells ts) ∧ SAfter g s (meQ true s o) w' ∧ w.grownBy w' (some g) := by
  have h := sme_in g s o (pT s o) (mO2 s o) (mO3 true s o) (pN s (mO3 true s o)) (mO5 true s o) (meR true s o).n (meR true s o).g (rN s (mO2 s o)) (meR true s o).f (meR true s o).l (meR true s o).wh (mC true s o) (fun i => (tisR s (mO6 true s o) i).2) (fun i => (tisR s (mO6 true s o) i).1) (fun i => rN s (tisR s (mO6 true s o) i).2) (fun i => rN s (pN s (tisR s (mO6 true s o) i).2)) w hA (fun w h => EvtR.srtext g s _ w hs h) (fun w h => EvtR.srnum g s _ w hs h) (fun w h => EvtR.srnum g s _ w hs h) (fun w h => EvtR.srnum g s _ w hs h) (fun w h => EvtR.srnum g s _ w hs h) (fun w h => smanyC g s _ 5 w hs h)
    (fun i => ⟨pN s (tisR s (mO6 true s o) i).2, fun w h => EvtR.srnum g s _ w hs h, by
      (try dsimp only)
      rw [tisR_snoc]
      exact fun w h => EvtR.srnum g s _ w hs h⟩)
    (fun i h => by
      (try dsimp only at h ⊢)
      rw [tisR_snoc, h]
      rfl) rfl (rC_le s _ 5) rfl (fun i => by (try dsimp only); rw [tisR_snoc])
  refine h.mono ?_
  rintro e w' ⟨n, ta, tc, hn, rfl, ho, hA', hg⟩
  refine ⟨n, ta, tc, _, fun hq => ?_, rfl, ho, hA', hg⟩
  have e : n = mC true s o := hn hq
  subst e
  exact ⟨(meR_len true s o).symm, rfl⟩
theorem mesR_all {P : Me → Prop} (b : Bool) (s : ByteArray) (hP : ∀ o, P (meR b s o)) : ∀ (k : Nat) (o : Option Nat), ∀ d ∈ (mesR b s o k).1, P d
  | 0, _, d, h => by cases h
  | k + 1, o, d, h => by
    rcases List.mem_cons.1 h with rfl | h
    · exact hP o
    · exact mesR_all b s hP k _ d h
theorem crsR_all (s : ByteArray) : ∀ (k : Nat) (o : Option Nat), ∀ d ∈ (crsR s o k).1, d.a.size ≤ 8000
  | 0, _, d, h => by cases h
  | k + 1, o, d, h => by
    rcases List.mem_cons.1 h with rfl | h
    · exact rT_size s o
    · exact crsR_all s k _ d h
theorem ca_small (b : Bool) (s : ByteArray) : (caR' b s).Small ∧ (caR' b s).ms.length ≤ 6 ∧ (caR' b s).cs.length ≤ 6 ∧ ∀ m ∈ (caR' b s).ms, m.ts.length ≤ 5 := by
  have n1 : (caR' b s).ms.length = cN0 s := mesR_len b s _ _
  have n2 : (caR' b s).cs.length = cN1 b s := crsR_len s _ _
  have l1 : cN0 s ≤ 6 := rC_le s _ 6
  have l2 : cN1 b s ≤ 6 := rC_le s _ 6
  have hm : ∀ m ∈ (caR' b s).ms, m.Small ∧ m.ts.length ≤ 5 := mesR_all (P := fun m => m.Small ∧ m.ts.length ≤ 5) b s (fun o => by
    have h5 := rC_le s (mO5 b s o) 5
    have ht := rT_size s o
    rw [meR_len]
    refine ⟨⟨?_, ?_⟩, h5⟩
    · show (rT s o).size ≤ _
      omega
    · rw [meR_len]
      unfold mC
      omega) _ _
  refine ⟨⟨by omega, fun i hi => (hm _ (getD_memG _ _ _ hi)).1, by omega, fun i hi => ?_⟩, by omega, by omega, fun m h => (hm m h).2⟩
  have := crsR_all s _ _ _ (getD_memG (caR' b s).cs Cr.zero i hi)
  omega
/-- For every text there is one answer. -/
theorem cread_both (s : ByteArray) (hm : s.size ≤ 1048576) : ∃ (c : Ca) (cd : Int), c.Small ∧ c.ms.length ≤ 6 ∧ c.cs.length ≤ 6 ∧ (∀ m ∈ c.ms, m.ts.length ≤ 5) ∧
    (∀ w, Laid w → Calls Tryd.prog 5 #[.string s] w fun e w' => ∃ v, e = .returned v ∧ CoO w.heap.size v c cd w' ∧ Below w.heap.size w w') ∧
    (∀ w, Calls Tryd.prog 4 #[.string s] w fun e w' => ∃ v, e = .returned v ∧ CoO w.heap.size v c cd w' ∧ Below w.heap.size w w') := by
  have hz : ∀ (base : Nat) (cd : Int) (W : World), CoO base (.agg #[.slice none 0 0, .slice none 0 0, .int .i64 cd]) ⟨[], []⟩ cd W := fun base cd W => ⟨_, none, 0, rfl, mso_nil _ _, World.ownsRow_nil _ _ _ _⟩
  have sz : Ca.Small ⟨[], []⟩ := ⟨by simp, fun i hi => absurd hi (by simp), by simp, fun i hi => absurd hi (by simp)⟩
  by_cases h8 : 8000 < s.size
  · refine ⟨⟨[], []⟩, 2, sz, by simp, by simp, (fun d h => absurd h (by simp)), fun w _ => (icbig s w h8 hm).mono ?_, fun w => (scbig s w h8 hm).mono ?_⟩
    · rintro e w' ⟨rfl, hb⟩
      exact ⟨_, rfl, hz _ _ _, hb⟩
    · rintro e w' ⟨rfl, hb⟩
      exact ⟨_, rfl, hz _ _ _, hb⟩
  have hs : s.size ≤ 8000 := by omega
  obtain ⟨k1, k2, k3, k4⟩ := ca_small false s
  obtain ⟨j1, j2, j3, j4⟩ := ca_small true s
  have n1 : ∀ b, (caR' b s).ms.length = cN0 s := fun b => mesR_len b s _ _
  have n2 : ∀ b, (caR' b s).cs.length = cN1 b s := fun b => crsR_len s _ _
  have hi := fun w hL => icr_in s (cN0 s) (cN1 false s) (caR' false s).ms (caR' false s).cs (decide (cOE false s = some s.size)) (caB (caR' false s)) (fun g W => After g s (cOE false s) W) w hL hs (n1 false).symm (n2 false).symm (fun g W W' q hg => after_grown q hg (by simp))
    (fun g W q => icat_in g s (some 0) (cN0 s) (cN1 false s) (fun k => (mesR false s (cO0 s) k).2) (fun k => (crsR s (cO1 false s) k).2) (fun k => (mesR false s (cO0 s) k).1) (fun k => (crsR s (cO1 false s) k).1) (fun k => meR false s (mesR false s (cO0 s) k).2) (fun k => rT s (crsR s (cO1 false s) k).2) (fun k => rN s (pT s (crsR s (cO1 false s) k).2)) W q (fun w h => EvtR.rcount g s _ 6 w hs h)
      (fun k w h => by
        (try dsimp only)
        rw [mesR_snoc]
        exact ime_of g s _ w hs h)
      (fun w h => EvtR.rcount g s _ 6 w hs h)
      (fun k => ⟨pT s (crsR s (cO1 false s) k).2, fun w h => EvtR.rword g s _ w hs h, by
        (try dsimp only)
        rw [crsR_snoc]
        exact fun w h => EvtR.rnum g s _ w hs h⟩)
      (rC_le s _ 6) (rC_le s _ 6) rfl (fun k => by (try dsimp only); rw [mesR_snoc]) (fun k => mesR_len false s k _) rfl (fun k => by (try dsimp only); rw [crsR_snoc]))
    (fun g W q => EvtR.ended_any g s _ W hs q)
    (fun ma mc ca cc W hL q1 q2 => impl_ca _ (caR' false s) W k1 ⟨ma, mc, ca, cc, by rw [n1, n2], by rw [n1]; exact q1, by rw [n2]; exact q2⟩ hL)
  have hS := fun w => scr_in s (cN0 s) (cN1 true s) (fun k => (mesR true s (cO0 s) k).2) (fun k => (crsR s (cO1 true s) k).2) (fun k => (mesR true s (cO0 s) k).1) (fun k => (crsR s (cO1 true s) k).1) (fun k => meR true s (mesR true s (cO0 s) k).2) (fun k => rT s (crsR s (cO1 true s) k).2) (fun k => rN s (pT s (crsR s (cO1 true s) k).2)) (caBy (caR' true s)) w hs (rC_le s _ 6) (rC_le s _ 6) (fun g W h => smanyC g s _ 6 W hs h)
    (fun k g W h => by
      (try dsimp only)
      rw [mesR_snoc]
      exact sme_of g s _ W hs h)
    (fun g W h => smanyC g s _ 6 W hs h)
    (fun k g => ⟨pT s (crsR s (cO1 true s) k).2, fun w h => EvtR.srtext g s _ w hs h, by
      (try dsimp only)
      rw [crsR_snoc]
      exact fun w h => EvtR.srnum g s _ w hs h⟩)
    (fun k h => by
      (try dsimp only at h ⊢)
      rw [mesR_snoc, h]
      exact meQ_none true s)
    (fun k h => by
      (try dsimp only at h ⊢)
      rw [crsR_snoc, h]
      rfl)
    (fun h => by
      show cO1 true s = none
      have h' : cOM true s = none := h
      unfold cO1
      rw [h']
      exact pC_none s 6)
    (fun ma mc ca cc W q1 q2 => spec_cab _ (caR' true s) W j1 ⟨ma, mc, ca, cc, by rw [n1, n2], by rw [n1]; exact q1, by rw [n2]; exact q2⟩)
    rfl (fun k => by (try dsimp only); rw [mesR_snoc]) (fun k => mesR_len true s k _) rfl (fun k => by (try dsimp only); rw [crsR_snoc]) (fun k => crsR_len s k _)
  have key := ca_same s
  by_cases hr : cOE false s = some s.size ∧ caB (caR' false s) = true
  · have e9 := ca_one hr
    refine ⟨caR' false s, 0, k1, k2, k3, k4, fun w hL => (hi w hL).mono ?_, fun w => (hS w).mono ?_⟩
    · rintro e w' ⟨⟨q, _⟩ | ⟨_, ma, mc, ca, cc, rfl, hm, hc⟩, hb⟩
      · rw [hr.2, decide_eq_true hr.1] at q
        cases q
      · refine ⟨_, rfl, ⟨.slice ma (cN0 s) mc, ca, cc, by rw [n2], hm, ?_⟩, hb⟩
        rw [n2]
        exact hc
    · rintro e w' ⟨⟨q, _⟩ | ⟨_, ma, mc, ca, cc, rfl, hm, hc⟩, hb⟩
      · exact absurd (key.2 hr) q
      · rw [← e9]
        refine ⟨_, rfl, ⟨.slice ma (cN0 s) mc, ca, cc, by rw [n2], hm, ?_⟩, hb⟩
        rw [n2]
        exact hc
  · refine ⟨⟨[], []⟩, 3, sz, by simp, by simp, (fun d h => absurd h (by simp)), fun w hL => (hi w hL).mono ?_, fun w => (hS w).mono ?_⟩
    · rintro e w' ⟨⟨_, rfl⟩ | ⟨q, _⟩, hb⟩
      · exact ⟨_, rfl, hz _ _ _, hb⟩
      · rw [Bool.and_eq_true, decide_eq_true_eq] at q
        exact absurd q hr
    · rintro e w' ⟨⟨_, rfl⟩ | ⟨q, _⟩, hb⟩
      · exact ⟨_, rfl, hz _ _ _, hb⟩
      · exact absurd (key.1 q) hr
end CatR
end Go.Proofs.YtgaihlhoegaliaaDoor
namespace Go.Proofs.YtgaihlhoegaliaaDoor
open Go.ChangeShapes Go.WideShapes Go.ChangeAt Go.RowKit
set_option linter.unusedVariables false
namespace CatR
open ChG
open RowG (cellsAll)
open EvtR (Pt cell_put cell_far)
open MarkR (mk mT mark_any hid_intro)
/-- How many marks a list of meters takes. -/
def totM (ms : List Me) : Nat := (ms.map (fun m => 5 + 2 * m.ts.length)).sum
def KxM (K : Nat) (xs : List MA) (j : Nat) : Nat := K + totM ((xs.take j).map MA.m)
theorem kxM_more (K : Nat) (xs : List MA) (j : Nat) (h : j < xs.length) : KxM K xs (j + 1) = KxM K xs j + 5 + 2 * (xs.getD j MA.zero).m.ts.length := by
  unfold KxM
  have e : (xs.take (j + 1)).map MA.m = (xs.take j).map MA.m ++ [(xs.getD j MA.zero).m] := by
    rw [RowG.take_more (z := MA.zero) xs j h, List.map_append]
    rfl
  rw [e]
  simp only [totM, List.map_append, List.sum_append, List.map_cons, List.map_nil, List.sum_cons, List.sum_nil]
  omega
theorem totM_take : ∀ (ms : List Me) (j : Nat), totM (ms.take j) ≤ totM ms
  | [], j => by simp
  | m :: ms, 0 => by simp [totM]
  | m :: ms, j + 1 => by
    have := totM_take ms j
    simp only [totM, List.take_succ_cons, List.map_cons, List.sum_cons] at *
    omega
theorem kxM_le (K : Nat) (xs : List MA) (j : Nat) : KxM K xs j ≤ K + totM (xs.map MA.m) := by
  unfold KxM
  have h := totM_take (xs.map MA.m) j
  rw [← List.map_take] at h
  omega
set_option maxHeartbeats 4000000 in
theorem markM0 (K : Int) (ao : Option Addr) (cap : Nat) (w : World) : Calls Tryd.prog 33 #[.slice ao 0 cap, .int .i64 K] w fun e w' => e = .returned (.int .i64 K) ∧ Below w.heap.size w w' := by
  go_enter Tryd.func33, Tryd.ntmps33
  go_wp2_with fail
  go_loopw [5, 1] (fun x z wr => x = .int .i64 0 ∧ z = .int .i64 K ∧ Hid (Below w.heap.size w wr)) (fun x _ _ => 0)
  case atStart => exact ⟨rfl, rfl, hid_intro (Below.refl _ _)⟩
  case round =>
    obtain ⟨rfl, rfl, HB⟩ := hrel
    go_wp2_with fail
    go_ret
    exact ⟨rfl, HB.out⟩
set_option maxHeartbeats 4000000 in
theorem heldM0 (K : Int) (ao : Option Addr) (cap : Nat) (w : World) : Calls Tryd.prog 35 #[.slice ao 0 cap, .int .i64 K] w fun e w' => e = .returned (.int .i64 K) ∧ Below w.heap.size w w' := by
  go_enter Tryd.func35, Tryd.ntmps35
  go_wp2_with fail
  go_loopw [5, 1] (fun x z wr => x = .int .i64 0 ∧ z = .int .i64 K ∧ Hid (Below w.heap.size w wr)) (fun x _ _ => 0)
  case atStart => exact ⟨rfl, rfl, hid_intro (Below.refl _ _)⟩
  case round =>
    obtain ⟨rfl, rfl, HB⟩ := hrel
    go_wp2_with fail
    go_ret
    exact ⟨rfl, HB.out⟩
/-- The places of the meters' blocks. -/
theorem msB_of {base : Nat} {v : Value} {xs : List MA} {W : World} (h2 : W.ownsRow base 38 6 v xs.length (cellsAll MA.cells xs)) (h3 : ∀ x ∈ xs, TnO base x W) (h4 : xs.Pairwise AptM) (h0 : xs.length ≠ 0) : ∃ g cap lb, v = .slice (some ⟨g, 0, none⟩) xs.length cap ∧ v.ownBlock = some g ∧ (∀ j, j < xs.length → (xs.getD j MA.zero).m.ts.length ≠ 0 → (xs.getD j MA.zero).v.ownBlock = some (lb j)) ∧ MsB base g xs.length (fun j => (xs.getD j MA.zero).ta) (fun j => (xs.getD j MA.zero).m.ts.length) (fun j => (xs.getD j MA.zero).tc) lb W := by
  have hap := fun j (hj : j < xs.length) => OwG.own_apart (h3 _ (RowG.getD_mem (z := MA.zero) xs j hj)) h2 (by decide)
  obtain ⟨ao, cap, rfl, hm⟩ := RowG.own_made (z := MA.zero) MA.len h2
  rcases hm.own with q | ⟨g, rfl, hg, hp⟩
  · exact absurd q h0
  have hl : ∀ j, j < xs.length → (xs.getD j MA.zero).m.ts.length = 0 ∨ ∃ b, (xs.getD j MA.zero).ta = some ⟨b, 0, none⟩ ∧ base ≤ b ∧ Pt b ((xs.getD j MA.zero).m.ts.length * 2) W := by
    intro j hj
    have h := h3 _ (RowG.getD_mem (z := MA.zero) xs j hj)
    obtain ⟨ao', cap', e', hm'⟩ := RowG.own_made (z := Ti.zero) Ti.len h
    unfold MA.v at e'
    cases e'
    exact hm'.own
  refine ⟨g, cap, fun j => match (xs.getD j MA.zero).ta with | some a => a.block | none => 0, rfl, rfl, ?_, hg, hp, ?_, ?_, ?_⟩
  · intro j hj hn
    rcases hl j hj with q | ⟨b, e1, _⟩
    · exact absurd q hn
    · dsimp only
      unfold MA.v
      rw [e1]
      rfl
  · intro j hj
    rcases hm.rws with q | ⟨b, off, e, hb, hc⟩
    · exact absurd q h0
    · simp only [Option.some.injEq, Addr.mk.injEq, and_true] at e
      obtain ⟨rfl, rfl⟩ := e
      have := hc j hj 5 (by omega)
      rw [Nat.zero_add] at this
      exact this
  · intro j hj
    rcases hl j hj with q | ⟨b, e1, e2, e3⟩
    · exact .inl q
    · by_cases hn : (xs.getD j MA.zero).m.ts.length = 0
      · exact .inl hn
      refine .inr ?_
      rw [e1]
      refine ⟨rfl, e2, ?_, e3⟩
      have := hap j hj b (by unfold MA.v; rw [e1]; rfl)
      simp [Value.ownBlock] at this
      exact this
  · intro i j hi hj hne n1 n2 q
    rcases hl i hi with q1 | ⟨b1, e1, _⟩
    · exact n1 q1
    rcases hl j hj with q2 | ⟨b2, e2, _⟩
    · exact n2 q2
    rw [e1, e2] at q
    have q3 : b1 = b2 := q
    subst q3
    have eb1 : (xs.getD i MA.zero).v.ownBlock = some b1 := by unfold MA.v; rw [e1]; rfl
    have eb2 : (xs.getD j MA.zero).v.ownBlock = some b1 := by unfold MA.v; rw [e2]; rfl
    have gi : xs.getD i MA.zero = xs[i] := by simp [List.getD, hi]
    have gj : xs.getD j MA.zero = xs[j] := by simp [List.getD, hj]
    rw [gi] at eb1
    rw [gj] at eb2
    rcases Nat.lt_or_gt_of_ne hne with lt | gt
    · exact List.pairwise_iff_getElem.1 h4 i j hi hj lt b1 eb1 eb2
    · exact List.pairwise_iff_getElem.1 h4 j i hj hi gt b1 eb2 eb1
/-- The meters marked: how far, and what reading them answers later on. -/
theorem markMsO (base K : Nat) (vm : Value) (xs : List MA) (w : World) (hK0 : 1 ≤ K) (hlen : xs.length ≤ 1048576) (hln : ∀ y ∈ xs, y.m.ts.length ≤ 1048576) (ht : K + totM (xs.map MA.m) ≤ 5300001) (h2 : w.ownsRow base 38 6 vm xs.length (cellsAll MA.cells xs)) (h3 : ∀ x ∈ xs, TnO base x w) (h4 : xs.Pairwise AptM) :
    Calls Tryd.prog 33 #[vm, .int .i64 K] w fun e w' => e = .returned (.int .i64 (K + totM (xs.map MA.m) : Nat)) ∧ (∃ S : Nat → Prop, Chg S w w' ∧ (∀ b, S b → base ≤ b ∧ (vm.ownBlock = some b ∨ ∃ y ∈ xs, y.v.ownBlock = some b)) ∧
      (∀ (S' : Nat → Prop) w2, Chg S' w' w2 → (∀ b, S' b → ¬ S b) → Calls Tryd.prog 35 #[vm, .int .i64 K] w2 fun e w3 => e = .returned (.int .i64 (K + totM (xs.map MA.m) : Nat)) ∧ Below w2.heap.size w2 w3)) := by
  by_cases h0 : xs.length = 0
  · obtain rfl : xs = [] := List.length_eq_zero_iff.1 h0
    obtain ⟨ao, cap, rfl, hm⟩ := RowG.own_made (z := MA.zero) MA.len h2
    refine (markM0 K ao cap w).mono ?_
    rintro e w' ⟨rfl, hb⟩
    exact ⟨rfl, fun _ => False, Chg.of_below hb, fun b q => q.elim, fun S' w2 _ _ => heldM0 K ao cap w2⟩
  · obtain ⟨g, cap, lb, rfl, hob, hlb, hD⟩ := msB_of h2 h3 h4 h0
    have hK : ∀ j, j ≤ xs.length → 1 ≤ KxM K xs j ∧ KxM K xs j ≤ 5300001 := fun j _ => ⟨by unfold KxM; omega, by have := kxM_le K xs j; omega⟩
    have hL : ∀ j, j < xs.length → (xs.getD j MA.zero).m.ts.length ≤ 1048576 := fun j hj => hln _ (RowG.getD_mem (z := MA.zero) xs j hj)
    have hz : KxM K xs 0 = K := by simp [KxM, totM]
    have hN : KxM K xs xs.length = K + totM (xs.map MA.m) := by unfold KxM; rw [List.take_length]
    have hm := markMB base g xs.length cap _ _ _ lb (KxM K xs) w hlen (fun j hj => kxM_more K xs j hj) hK hL hD
    rw [hz, hN] at hm
    refine hm.mono ?_
    rintro e w' ⟨rfl, hM, hC⟩
    refine ⟨rfl, _, hC, ?_, ?_⟩
    · rintro b (rfl | ⟨j, hj, hn, rfl⟩)
      · exact ⟨hD.low, .inl hob⟩
      · refine ⟨?_, .inr ⟨_, RowG.getD_mem (z := MA.zero) xs j hj, hlb j hj hn⟩⟩
        rcases hD.own j hj with q | ⟨_, q, _⟩
        · exact absurd q hn
        · exact q
    · intro S' w2 hc hS
      have hM2 := hM.chg hc (fun q => hS g q (.inl rfl)) (fun j hj hn q => hS _ q (.inr ⟨j, hj, hn, rfl⟩))
      have hh := heldMB g xs.length cap _ _ _ lb (KxM K xs) w2 hlen (fun j hj => kxM_more K xs j hj) hK hL hM2
      rw [hz, hN] at hh
      exact hh
/-- The credits marked: how far, and what reading them answers later on. -/
theorem markCsO (base K : Nat) (ca : Option Addr) (cc : Nat) (cs : List Cr) (w : World) (hK0 : 1 ≤ K) (hK : K ≤ 5300001) (hx : cs.length ≤ 1048576) (h : w.ownsRow base 42 2 (.slice ca cs.length cc) cs.length (cellsAll Cr.cells cs)) :
    Calls Tryd.prog 34 #[.slice ca cs.length cc, .int .i64 K] w fun e w' => e = .returned (.int .i64 (K + 2 * cs.length : Nat)) ∧ (∃ S : Nat → Prop, Chg S w w' ∧ (∀ b, S b → base ≤ b ∧ (.slice ca cs.length cc : Value).ownBlock = some b) ∧
      (∀ (S' : Nat → Prop) w2, Chg S' w' w2 → (∀ b, S' b → ¬ S b) → Calls Tryd.prog 36 #[.slice ca cs.length cc, .int .i64 K] w2 fun e w3 => e = .returned (.int .i64 (K + 2 * cs.length : Nat)) ∧ Below w2.heap.size w2 w3)) := by
  obtain ⟨ao, cap, e, hm⟩ := RowG.own_made (z := Cr.zero) Cr.len h
  cases e
  by_cases h0 : cs.length = 0
  · rw [h0]
    refine (credM0 K ca cc w).mono ?_
    rintro e w' ⟨rfl, hb⟩
    exact ⟨rfl, fun _ => False, Chg.of_below hb, fun b q => q.elim, fun S' w2 _ _ => credH0 K ca cc w2⟩
  · rcases hm.own with q | ⟨g, e1, e2, e3⟩
    · exact absurd q h0
    rw [e1]
    refine (credM K hK0 (by omega) g cs.length cc w hx e3).mono ?_
    rintro e w' ⟨rfl, hg, ha, hM⟩
    refine ⟨rfl, fun b => b = g, (Chg.refl _ _).grown hg rfl, ?_, fun S' w2 hc hS => ?_⟩
    · rintro b rfl
      exact ⟨e2, rfl⟩
    · exact credH K hK0 (by omega) g cs.length cc w2 hx (hM.block hc.size (hc.block g hM.1 (fun q => hS g q rfl)))
set_option maxHeartbeats 4000000 in
theorem markCat_in (vm vc : Value) (K0 K1 K2 : Int) (P Q : World → World → Prop) (w : World) (hvm : ∃ ao n c, vm = .slice ao n c) (hvc : ∃ ao n c, vc = .slice ao n c)
    (hD : ∀ W, Below w.heap.size w W → Calls Tryd.prog 33 #[vm, .int .i64 K0] W fun e w' => e = .returned (.int .i64 K1) ∧ P W w') (hP : ∀ W W', P W W' → ∀ b cs, w.heap.size ≤ b → Below w.heap.size w W → Blk b cs W → Blk b cs W')
    (hL : ∀ W0 W, Below w.heap.size w W0 → P W0 W → Calls Tryd.prog 34 #[vc, .int .i64 K1] W fun e w' => e = .returned (.int .i64 K2) ∧ Q W w') :
    Calls Tryd.prog 18 #[.agg #[vm, vc], .int .i64 K0] w fun e w' => e = .returned (.int .i64 K2) ∧ ∃ W0 W1, Below w.heap.size w W0 ∧ P W0 W1 ∧ Q W1 w' := by
  obtain ⟨ao, n, c, rfl⟩ := hvm
  obtain ⟨bo, m, d, rfl⟩ := hvc
  have HD := hid_intro hD
  have HP := hid_intro hP
  have HL := hid_intro hL
  obtain ⟨W0, hW0⟩ : ∃ W0, W0 = w.alloc (.cells #[.slice ao n c, .slice bo m d] 25) := ⟨_, rfl⟩
  have HB : Hid (Below w.heap.size w W0) := hid_intro (by rw [hW0]; exact (Below.refl _ _).alloc (Nat.le_refl _) _)
  have HX : Hid (Blk w.heap.size [.slice ao n c, .slice bo m d] W0) := hid_intro (by rw [hW0]; exact Blk.new w [.slice ao n c, .slice bo m d] 25)
  have HW := hid_intro hW0
  clear hD hP hL hW0
  go_enter Tryd.func18, Tryd.ntmps18
  go_wp2_with fail
  rw [← HW.out]
  clear HW
  refine (HD.out _ HB.out).mono ?_
  rintro e w1 ⟨rfl, hp⟩
  have HPw := hid_intro hp
  have HX1 := hid_intro (HP.out _ _ hp _ _ (Nat.le_refl _) HB.out HX.out)
  have xl := HX1.out.1
  have x1 : w1.cell? ⟨w.heap.size, 1, none⟩ = some (.slice bo m d) := HX1.out.2 1 (by simp)
  have HLD := hid_intro (HL.out _ _ HB.out hp)
  clear hp HX HP HL
  go_wp2_with fail
  refine HLD.out.mono ?_
  rintro e w2 ⟨rfl, hq⟩
  have HQ := hid_intro hq
  clear hq x1 xl
  go_wp2_with fail
  go_ret
  exact ⟨rfl, _, _, HB.out, HPw.out, HQ.out⟩
set_option maxHeartbeats 4000000 in
theorem heldCat_in (vm vc : Value) (K0 : Int) (K1 K2 : Nat) (w : World) (hvm : ∃ ao n c, vm = .slice ao n c) (hvc : ∃ ao n c, vc = .slice ao n c)
    (hD : ∀ W, Below w.heap.size w W → Calls Tryd.prog 35 #[vm, .int .i64 K0] W fun e w' => e = .returned (.int .i64 K1) ∧ Below W.heap.size W w')
    (hL : ∀ W, Below w.heap.size w W → Calls Tryd.prog 36 #[vc, .int .i64 K1] W fun e w' => e = .returned (.int .i64 K2) ∧ Below W.heap.size W w') :
    Calls Tryd.prog 19 #[.agg #[vm, vc], .int .i64 K0] w fun e w' => e = .returned (.int .i64 K2) ∧ Below w.heap.size w w' := by
  obtain ⟨ao, n, c, rfl⟩ := hvm
  obtain ⟨bo, m, d, rfl⟩ := hvc
  have HD := hid_intro hD
  have HL := hid_intro hL
  obtain ⟨W0, hW0⟩ : ∃ W0, W0 = w.alloc (.cells #[.slice ao n c, .slice bo m d] 25) := ⟨_, rfl⟩
  have HB : Hid (Below w.heap.size w W0) := hid_intro (by rw [hW0]; exact (Below.refl _ _).alloc (Nat.le_refl _) _)
  have HX : Hid (Blk w.heap.size [.slice ao n c, .slice bo m d] W0) := hid_intro (by rw [hW0]; exact Blk.new w [.slice ao n c, .slice bo m d] 25)
  have HW := hid_intro hW0
  have h1 : ¬ ((K1 : Nat) : Int) < 0 := by omega
  have h2 : ¬ ((K2 : Nat) : Int) < 0 := by omega
  clear hD hL hW0
  go_enter Tryd.func19, Tryd.ntmps19
  go_wp2_with fail
  rw [← HW.out]
  clear HW
  refine (HD.out _ HB.out).mono ?_
  rintro e w1 ⟨rfl, hb⟩
  have HB1 := hid_intro (HB.out.trans (hb.mono HB.out.size))
  have HX1 := hid_intro (HX.out.below hb)
  have xl := HX1.out.1
  have x1 : w1.cell? ⟨w.heap.size, 1, none⟩ = some (.slice bo m d) := HX1.out.2 1 (by simp)
  clear hb HX HB
  go_wp2_with fail
  refine (HL.out _ HB1.out).mono ?_
  rintro e w2 ⟨rfl, hb⟩
  have HB2 := hid_intro (HB1.out.trans (hb.mono HB1.out.size))
  clear hb x1 xl
  go_wp2_with fail
  go_ret
  exact ⟨rfl, HB2.out⟩
set_option maxHeartbeats 4000000 in
theorem markCo_in (vm vc : Value) (cd K2 : Int) (P : World → World → Prop) (w : World) (hvm : ∃ ao n c, vm = .slice ao n c) (hvc : ∃ ao n c, vc = .slice ao n c)
    (hD : ∀ W, Below w.heap.size w W → Calls Tryd.prog 18 #[.agg #[vm, vc], .int .i64 1] W fun e w' => e = .returned (.int .i64 K2) ∧ P W w') :
    Calls Tryd.prog 7 #[.agg #[vm, vc, .int .i64 cd], .int .i64 1] w fun e w' => e = .returned (.int .i64 K2) ∧ ∃ W0, Below w.heap.size w W0 ∧ P W0 w' := by
  obtain ⟨ao, n, c, rfl⟩ := hvm
  obtain ⟨bo, m, d, rfl⟩ := hvc
  have HD := hid_intro hD
  obtain ⟨W0, hW0⟩ : ∃ W0, W0 = w.alloc (.cells #[.slice ao n c, .slice bo m d, .int .i64 cd] 27) := ⟨_, rfl⟩
  have HB : Hid (Below w.heap.size w W0) := hid_intro (by rw [hW0]; exact (Below.refl _ _).alloc (Nat.le_refl _) _)
  have HW := hid_intro hW0
  clear hD hW0
  go_enter Tryd.func7, Tryd.ntmps7
  go_wp2_with fail
  rw [← HW.out]
  clear HW
  refine (HD.out _ HB.out).mono ?_
  rintro e w1 ⟨rfl, hp⟩
  have HPw := hid_intro hp
  clear hp
  go_wp2_with fail
  go_ret
  exact ⟨rfl, _, HB.out, HPw.out⟩
set_option maxHeartbeats 4000000 in
theorem heldCo_in (vm vc : Value) (cd : Int) (K2 : Nat) (w : World) (hvm : ∃ ao n c, vm = .slice ao n c) (hvc : ∃ ao n c, vc = .slice ao n c)
    (hD : ∀ W, Below w.heap.size w W → Calls Tryd.prog 19 #[.agg #[vm, vc], .int .i64 1] W fun e w' => e = .returned (.int .i64 K2) ∧ Below W.heap.size W w') :
    Calls Tryd.prog 8 #[.agg #[vm, vc, .int .i64 cd], .int .i64 1] w fun e w' => e = .returned (.int .i64 K2) ∧ Below w.heap.size w w' := by
  obtain ⟨ao, n, c, rfl⟩ := hvm
  obtain ⟨bo, m, d, rfl⟩ := hvc
  have HD := hid_intro hD
  obtain ⟨W0, hW0⟩ : ∃ W0, W0 = w.alloc (.cells #[.slice ao n c, .slice bo m d, .int .i64 cd] 27) := ⟨_, rfl⟩
  have HB : Hid (Below w.heap.size w W0) := hid_intro (by rw [hW0]; exact (Below.refl _ _).alloc (Nat.le_refl _) _)
  have HW := hid_intro hW0
  have h2 : ¬ ((K2 : Nat) : Int) < 0 := by omega
  clear hD hW0
  go_enter Tryd.func8, Tryd.ntmps8
  go_wp2_with fail
  rw [← HW.out]
  clear HW
  refine (HD.out _ HB.out).mono ?_
  rintro e w1 ⟨rfl, hb⟩
  have HB1 := hid_intro (HB.out.trans (hb.mono HB.out.size))
  clear hb
  go_wp2_with fail
  go_ret
  exact ⟨rfl, HB1.out⟩
set_option maxHeartbeats 4000000 in
theorem eqCo (v v' : Value) (c : Ca) (cd : Int) (w : World) (hS : c.Small) (h : CoR v c cd w) (h' : CoR v' c cd w) :
    Calls Tryd.prog 6 #[v, v'] w fun e w' => e = .returned (.bool true) ∧ Below w.heap.size w w' := by
  obtain ⟨ma, mc, ca, cc, rfl, h1, h2⟩ := h
  obtain ⟨ma', mc', ca', cc', rfl, h1', h2'⟩ := h'
  have HE : Hid (∀ W (hW : Below w.heap.size w W), Calls Tryd.prog 17 #[.agg #[.slice ma c.ms.length mc, .slice ca c.cs.length cc], .agg #[.slice ma' c.ms.length mc', .slice ca' c.cs.length cc']] W fun e w' => e = .returned (.bool true) ∧ Below W.heap.size W w') := hid_intro (fun W hW => eqCa_any _ _ c W hS ⟨ma, mc, ca, cc, rfl, h1.below hW, h2.below hW⟩ ⟨ma', mc', ca', cc', rfl, h1'.below hW, h2'.below hW⟩)
  clear h1 h2 h1' h2' hS
  generalize c.ms.length = n at *
  generalize c.cs.length = m at *
  obtain ⟨W0, hW0⟩ : ∃ W0, W0 = (w.alloc (.cells #[.slice ma n mc, .slice ca m cc, .int .i64 cd] 27)).alloc (.cells #[.slice ma' n mc', .slice ca' m cc', .int .i64 cd] 27) := ⟨_, rfl⟩
  have HB : Hid (Below w.heap.size w W0) := hid_intro (by rw [hW0]; exact ((Below.refl _ _).alloc (Nat.le_refl _) _).alloc (by simp) _)
  have HX : Hid (Blk w.heap.size [.slice ma n mc, .slice ca m cc, .int .i64 cd] W0) := hid_intro (by rw [hW0]; exact (Blk.new w [.slice ma n mc, .slice ca m cc, .int .i64 cd] 27).below ((Below.refl _ _).alloc (Nat.le_refl _) _))
  have HY : Hid (Blk (w.heap.size + 1) [.slice ma' n mc', .slice ca' m cc', .int .i64 cd] W0) := hid_intro (by
    rw [hW0]
    obtain ⟨X, hX⟩ : ∃ X, X = w.alloc (.cells #[.slice ma n mc, .slice ca m cc, .int .i64 cd] 27) := ⟨_, rfl⟩
    have e : X.heap.size = w.heap.size + 1 := by rw [hX]; simp
    rw [← hX, ← e]
    exact Blk.new X [.slice ma' n mc', .slice ca' m cc', .int .i64 cd] 27)
  have HW := hid_intro hW0
  clear hW0
  go_enter Tryd.func6, Tryd.ntmps6
  go_wp2_with fail
  rw [← HW.out]
  clear HW
  refine (HE.out _ HB.out).mono ?_
  rintro e w1 ⟨rfl, hb1⟩
  have HB1 := hid_intro (HB.out.trans (hb1.mono HB.out.size))
  have HX1 := hid_intro (HX.out.below hb1)
  have HY1 := hid_intro (HY.out.below hb1)
  have xl := HX1.out.1
  have yl := HY1.out.1
  have x2 : w1.cell? ⟨w.heap.size, 2, none⟩ = some (.int .i64 cd) := HX1.out.2 2 (by simp)
  have y2 : w1.cell? ⟨w.heap.size + 1, 2, none⟩ = some (.int .i64 cd) := HY1.out.2 2 (by simp)
  clear hb1 HB HX HY
  go_wp2_with fail
  go_ret
  exact ⟨rfl, HB1.out⟩
/-- Nothing outside has changed. -/
structure OtC (g top : Nat) (w w' : World) : Prop where
  os : w'.os = w.os
  tape : w'.tape = w.tape
  output : w'.output = w.output
  size : w.heap.size ≤ w'.heap.size
  block : ∀ b, b < w.heap.size → (b < g ∨ top ≤ b) → w'.heap[b]? = w.heap[b]?
theorem OtC.out {g top B : Nat} {a w w' : World} (h : OtC g top w w') (hb : Below B a w) (hB : B ≤ g) (ha : B ≤ a.heap.size) : Below B a w' :=
  ⟨h.os.trans hb.os, h.tape.trans hb.tape, h.output.trans hb.output, Nat.le_trans hb.size h.size, fun k hk => (h.block k (by have := hb.size; omega) (.inl (by omega))).trans (hb.block k hk)⟩
/-- The whole answer marked, and its marks read later on. -/
theorem markCo (base : Nat) (v : Value) (c : Ca) (cd : Int) (w : World) (hlen : c.ms.length ≤ 1048576) (hln : ∀ m ∈ c.ms, m.ts.length ≤ 1048576) (hx : c.cs.length ≤ 1048576) (ht : totM c.ms ≤ 5300000) (Wt : World) (h : CoO base v c cd Wt) (hWt : Below Wt.heap.size Wt w) :
    Calls Tryd.prog 7 #[v, .int .i64 1] w fun e w' => ∃ KK : Nat, e = .returned (.int .i64 KK) ∧ OtC base Wt.heap.size w w' ∧
      ∀ w2, Below w'.heap.size w' w2 → Calls Tryd.prog 8 #[v, .int .i64 1] w2 fun e w3 => e = .returned (.int .i64 KK) ∧ Below w2.heap.size w2 w3 := by
  obtain ⟨vm, ca, cc, rfl, ⟨lim, xs, h1, h2, h3, h4, _⟩, h5⟩ := h
  have hl : c.ms.length = xs.length := by rw [← h1]; simp
  rw [hl] at h2 hlen
  have hlx : ∀ y ∈ xs, y.m.ts.length ≤ 1048576 := fun y hy => hln _ (by rw [← h1]; exact List.mem_map_of_mem hy)
  rw [← h1] at ht
  have hlt : ∀ b, (vm.ownBlock = some b ∨ ∃ y ∈ xs, y.v.ownBlock = some b) → b < Wt.heap.size := by
    rintro b (q | ⟨y, hy, q⟩)
    · exact (h2.lt b q).2
    · exact ((h3 y hy).lt b q).2
  have hlx2 : ∀ b, (.slice ca c.cs.length cc : Value).ownBlock = some b → b < Wt.heap.size := fun b q => (h5.lt b q).2
  have hts := hWt.size
  replace h2 := RowG.own_below h2 hWt
  replace h3 := fun y hy => (RowG.own_below (h3 y hy) hWt : TnO base y w)
  replace h5 := RowG.own_below h5 hWt
  have hvm : ∃ ao n c, vm = .slice ao n c := by
    obtain ⟨ao, cap, e, _⟩ := RowG.own_made (z := MA.zero) MA.len h2
    exact ⟨ao, _, cap, e⟩
  have hvc : ∃ ao n d, (.slice ca c.cs.length cc : Value) = .slice ao n d := ⟨_, _, _, rfl⟩
  obtain ⟨vc, hvc2⟩ : ∃ vc, vc = (.slice ca c.cs.length cc : Value) := ⟨_, rfl⟩
  obtain ⟨T, hT⟩ : ∃ T, T = 1 + totM (xs.map MA.m) := ⟨_, rfl⟩
  have hD := fun W (hW : Below w.heap.size w W) => markMsO base 1 vm xs W (by omega) hlen hlx (by omega) (RowG.own_below h2 hW) (fun y hy => RowG.own_below (h3 y hy) hW) h4
  rw [← hT] at hD
  have hT2 : 1 ≤ T ∧ T ≤ 5300001 := by omega
  clear ht
  let P : World → World → Prop := fun W W' => ∃ S : Nat → Prop, Chg S W W' ∧ (∀ b, S b → base ≤ b ∧ (vm.ownBlock = some b ∨ ∃ y ∈ xs, y.v.ownBlock = some b)) ∧
      (∀ (S' : Nat → Prop) w2, Chg S' W' w2 → (∀ b, S' b → ¬ S b) → Calls Tryd.prog 35 #[vm, .int .i64 (1 : Nat)] w2 fun e w3 => e = .returned (.int .i64 (T : Nat)) ∧ Below w2.heap.size w2 w3)
  let Q : World → World → Prop := fun W W' => ∃ S : Nat → Prop, Chg S W W' ∧ (∀ b, S b → base ≤ b ∧ (.slice ca c.cs.length cc : Value).ownBlock = some b) ∧
      (∀ (S' : Nat → Prop) w2, Chg S' W' w2 → (∀ b, S' b → ¬ S b) → Calls Tryd.prog 36 #[.slice ca c.cs.length cc, .int .i64 T] w2 fun e w3 => e = .returned (.int .i64 (T + 2 * c.cs.length : Nat)) ∧ Below w2.heap.size w2 w3)
  have hxa : ∀ b, (vm.ownBlock = some b ∨ ∃ y ∈ xs, y.v.ownBlock = some b) → (.slice ca c.cs.length cc : Value).ownBlock ≠ some b := by
    rintro b (q | ⟨y, hy, q⟩) q2
    · exact OwG.own_apart h5 h2 (by decide) b q2 q.symm
    · exact OwG.own_apart h5 (h3 y hy) (by decide) b q2 q.symm
  have hlk : ∀ W W', P W W' → Below w.heap.size w W → W'.ownsRow base 42 2 (.slice ca c.cs.length cc) c.cs.length (cellsAll Cr.cells c.cs) := by
    rintro W W' ⟨S, hc, hS, _⟩ hW
    have h7 := RowG.own_below h5 hW
    refine ⟨h7.1, ?_⟩
    rcases h7.2 with hn | ⟨g, cap, cur, e1, e2, hg, rest⟩
    · exact .inl hn
    · exact .inr ⟨g, cap, cur, e1, e2, (hc.block g (Array.getElem?_eq_some_iff.1 hg).1 (fun q => hxa g (hS g q).2 (by rw [e1]; rfl))).trans hg, rest⟩
  have hltw : ∀ W, Below w.heap.size w W → ∀ b, (vm.ownBlock = some b ∨ ∃ y ∈ xs, y.v.ownBlock = some b) → b < w.heap.size := fun W hW b q => by have := hlt b q; omega
  have keyC := fun W (hW : Below w.heap.size w W) => markCat_in vm (.slice ca c.cs.length cc) ((1 : Nat) : Int) (T : Nat) (T + 2 * c.cs.length : Nat) P Q W hvm hvc (fun W2 hW2 => hD W2 (hW.trans (hW2.mono hW.size)))
    (fun W2 W3 hp b cs hb hW2 hB => by
      obtain ⟨S, hc, hS, _⟩ := hp
      have eb := hc.block b hB.1 (fun q => by have := hlt b (hS b q).2; have := hW.size; omega)
      exact ⟨Nat.lt_of_lt_of_le hB.1 hc.size, fun i hi => (World.cell?_of_block (a := ⟨b, i, none⟩) eb).trans (hB.2 i hi)⟩)
    (fun W0 W1 hW0 hp => markCsO base T ca cc c.cs W1 hT2.1 hT2.2 hx (hlk W0 W1 hp (hW.trans (hW0.mono hW.size))))
  have key := markCo_in vm (.slice ca c.cs.length cc) cd (T + 2 * c.cs.length : Nat) (fun W w' => ∃ W0 W1, Below W.heap.size W W0 ∧ P W0 W1 ∧ Q W1 w') w hvm hvc keyC
  refine key.mono ?_
  rintro e w' ⟨rfl, Wa, hba, W0, W1, hb0, ⟨S, hc, hS, hH⟩, ⟨S2, hc2, hS2, hH2⟩⟩
  refine ⟨_, rfl, ⟨?_, ?_, ?_, ?_, fun b hb hq => ?_⟩, fun w2 hw2 => ?_⟩
  · rw [hc2.os, hc.os, hb0.os, hba.os]
  · rw [hc2.tape, hc.tape, hb0.tape, hba.tape]
  · rw [hc2.output, hc.output, hb0.output, hba.output]
  · have := hc2.size
    have := hc.size
    have := hb0.size
    have := hba.size
    omega
  · have sa := hba.size
    have s0 := hb0.size
    have s1 := hc.size
    rw [hc2.block b (by omega) (fun q => by have := (hS2 b q).1; have := hlx2 b (hS2 b q).2; omega), hc.block b (by omega) (fun q => by have := (hS b q).1; have := hlt b (hS b q).2; omega), hb0.block b (by omega), hba.block b hb]
  · refine heldCo_in vm (.slice ca c.cs.length cc) cd (T + 2 * c.cs.length) w2 hvm hvc (fun W hW => ?_)
    refine heldCat_in vm (.slice ca c.cs.length cc) ((1 : Nat) : Int) T (T + 2 * c.cs.length) W hvm hvc (fun W3 hW3 => ?_) (fun W3 hW3 => ?_)
    · exact hH S2 W3 (((hc2.below hw2).below hW).below hW3) (fun b q q2 => hxa b (hS b q2).2 (hS2 b q).2)
    · exact hH2 (fun _ => False) W3 (((Chg.of_below hw2).below hW).below hW3) (fun b q => q.elim)
end CatR
end Go.Proofs.YtgaihlhoegaliaaDoor
namespace Go.Proofs.YtgaihlhoegaliaaDoor
open Go.ChangeShapes Go.WideShapes Go.RowKit
namespace Snm
theorem laidOut : laidOutB Tryd.prog = true := by kernel_rfl
theorem own : ownKnob Tryd.prog.godebug = none := by kernel_rfl
theorem gv : Tryd.prog.globalNamed "loop.example/g00562/impl.errNoMeter" = some 0 := by kernel_rfl
theorem gt : (Tryd.prog.globals[0]?).map (·.type) = some 47 := by kernel_rfl
theorem star : "*" ++ "errors.errorString" = "*errors.errorString" := by decide
theorem row (u : TypeId) (h : Tryd.prog.typeName? 3 u = some "*errors.errorString") : u = 117 :=
  typeName_ptr_named (nm := "errors.errorString") (by rw [star]; kernel_rfl) (by kernel_rfl) (by decide) u (by rw [star]; exact h)
theorem cellsE : Tryd.prog.cellsOf 142 = 1 := by kernel_rfl
theorem cellsS : Tryd.prog.cellsOf 9 = 1 := by kernel_rfl
def laid {H : Type} : List (String × DataW H) := [("loop.example/g00562/impl.errNoMeter", Rows.laid_loop_example_g00562_impl_errNoMeter)]
theorem of_laid {W : World} (h : laidMetH Tryd.prog laid W) : ∃ a : Addr, W.var? Tryd.prog "loop.example/g00562/impl.errNoMeter" = some #[.iface 117 (.pointer (some a))] := by
  rw [MakeChecks.laidMetH_plain _ _ _ (by kernel_rfl)] at h
  obtain ⟨a, s, hv, _⟩ := laid_sentinel h gv gt Tryd.underlying47 row Tryd.underlying117 Tryd.underlying142 rfl rfl Tryd.underlying9 cellsE cellsS
  exact ⟨a, hv⟩
theorem laid_of {W : World} {a : Addr} (h : W.var? Tryd.prog "loop.example/g00562/impl.errNoMeter" = some #[.iface 117 (.pointer (some a))]) : CatR.Laid W := by
  have hg : W.cell? ⟨0, 0, none⟩ = some (.iface 117 (.pointer (some a))) := by simpa using World.var?_cell gv h 0
  refine ⟨?_, a, hg⟩
  rcases Nat.lt_or_ge 0 W.heap.size with h | h
  · exact h
  · have h0 : W.heap[0]? = none := Array.getElem?_eq_none h
    simp [World.cell?, h0] at hg
theorem var_below {W W' : World} {cs : Array Value} (hL : CatR.Laid W) (h : W.var? Tryd.prog "loop.example/g00562/impl.errNoMeter" = some cs) (hb : Below W.heap.size W W') : W'.var? Tryd.prog "loop.example/g00562/impl.errNoMeter" = some cs := by
  unfold World.var? at h ⊢
  rw [gv] at h ⊢
  simp only [Option.bind_some] at h ⊢
  rw [hb.block 0 hL.1]
  exact h
theorem door_met (os : Os) (args : Array Value) : laidMetH Tryd.prog laid ((World.doorLaid Tryd.prog 400 os).forCall (fun _ _ => 0) ⟨#[], args, []⟩).memory :=
  laidMetH_of_parts3 (fuel := 8) (laidMet_of_run' 8 (by kernel_rfl) (by kernel_rfl)) (by kernel_rfl) (by kernel_rfl)
end Snm
end Go.Proofs.YtgaihlhoegaliaaDoor
