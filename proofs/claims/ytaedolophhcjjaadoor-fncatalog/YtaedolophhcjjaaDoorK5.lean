/-
  The program's reading of a catalog. The conditions: what the readers ask for; the program's variable holds its error.
  The program's CatalogRead. The conditions: what the readers ask for; the program's variable holds its error.
  The model's reading of a meter. The conditions: what the readers ask for.
  The order of texts. No condition.
  The model's CatalogRead. The conditions: what the readers ask for.
  A catalog read: for every text there is one answer that both sides hand back. The conditions: the text has at most 1048576 bytes; the program's variable holds its error.
-/
import Derived.Deep.RegionHeld3
import Derived.Test.YtaedolophhcjjaaDoorK4
namespace Go.Proofs.YtaedolophhcjjaaDoor
open Go.ChangeShapes Go.WideShapes Go.ChangeAt Go.RowKit
set_option linter.unusedVariables false
namespace CatR
open OwG
open RowG (MadeG Rws cellsAll hid_intro)
open EvtR (Pt After SAfter Reads gtrans)
open DocR (BlkW)
open MemoR
set_option maxRecDepth 100000 in
set_option maxHeartbeats 16000000 in
theorem icat_in (g : Nat) (s : ByteArray) (o0 : Option Nat) (C D : Nat) (PM PC : Nat → Option Nat) (LM : Nat → List Me) (LC : Nat → List Cr) (mm : Nat → Me) (hh : Nat → ByteArray) (ss : Nat → Int) (w : World) (hA : After g s o0 w)
    (rc1 : ∀ w, After g s o0 w → Calls Tryd.prog 59 #[.pointer (some ⟨g, 0, none⟩), .int .i64 6] w fun e w' => e = .returned (.int .i64 (C : Nat)) ∧ After g s (PM 0) w' ∧ w.grownBy w' (some g))
    (rm : ∀ k w, After g s (PM k) w → Calls Tryd.prog 60 #[.pointer (some ⟨g, 0, none⟩)] w fun e w' => ∃ ta tc, e = .returned (.agg #[.string (mm k).n, .int .i64 (mm k).g, .bool (mm k).wh, .int .i64 (mm k).f, .int .i64 (mm k).l, .slice ta (mm k).ts.length tc]) ∧ w'.ownsRow w.heap.size 72 2 (.slice ta (mm k).ts.length tc) (mm k).ts.length (cellsAll Ti.cells (mm k).ts) ∧ After g s (PM (k + 1)) w' ∧ w.grownBy w' (some g))
    (rc2 : ∀ w, After g s (PM C) w → Calls Tryd.prog 59 #[.pointer (some ⟨g, 0, none⟩), .int .i64 6] w fun e w' => e = .returned (.int .i64 (D : Nat)) ∧ After g s (PC 0) w' ∧ w.grownBy w' (some g))
    (rh : ∀ k, ∃ om, Reads 61 g s (PC k) om (.string (hh k)) ∧ Reads 62 g s om (PC (k + 1)) (.int .i64 (ss k)))
    (hC : C ≤ 6) (hD : D ≤ 6) (hM0 : LM 0 = []) (hMM : ∀ k, LM (k + 1) = LM k ++ [mm k]) (hML : ∀ k, (LM k).length = k) (hC0 : LC 0 = []) (hCM : ∀ k, LC (k + 1) = LC k ++ [⟨hh k, ss k⟩]) :
    Calls Tryd.prog 31 #[.pointer (some ⟨g, 0, none⟩)] w fun e w' => ∃ ma mc ca cc, e = .returned (.agg #[.slice ma C mc, .slice ca D cc]) ∧ MsO w.heap.size (.slice ma C mc) (LM C) w' ∧ w'.ownsRow w.heap.size 53 2 (.slice ca D cc) D (cellsAll Cr.cells (LC D)) ∧ After g s (PC D) w' ∧ w.grownBy w' (some g) := by
  obtain ⟨i0, hi, hz0, hz1, hz2⟩ := info_parts infoMe
  obtain ⟨j0, gi, gz0, gz1, gz2⟩ := info_parts infoCr
  have RC1 := hid_intro rc1
  have RM := hid_intro rm
  have RC2 := hid_intro rc2
  have RH := hid_intro rh
  have HM0 := hid_intro hM0
  have HMM := hid_intro hMM
  have HML := hid_intro hML
  have HC0 := hid_intro hC0
  have HCM := hid_intro hCM
  have hgw : g < w.heap.size := hA.lt
  obtain ⟨W0, hW0⟩ : ∃ W0, W0 = (w.alloc (.cells #[.slice none 0 0, .slice none 0 0] 26)).alloc (.cells #[.slice none 0 0, .slice none 0 0] 26) := ⟨_, rfl⟩
  have HA : Hid (After g s o0 W0) := hid_intro (by rw [hW0]; exact (hA.alloc _).alloc _)
  have HG : Hid (w.grownBy W0 (some g)) := hid_intro (by rw [hW0]; exact galloc (World.grownBy_alloc w _ _) _)
  have HR : Hid (BlkW w.heap.size [.slice none 0 0, .slice none 0 0] W0) := hid_intro (by rw [hW0]; exact (BlkW.new w [.slice none 0 0, .slice none 0 0] 26).below ((Below.refl _ _).alloc (Nat.le_refl _) _))
  have HV : Hid (BlkW (w.heap.size + 1) [.slice none 0 0, .slice none 0 0] W0) := hid_intro (by
    rw [hW0]
    obtain ⟨X, hX⟩ : ∃ X, X = w.alloc (.cells #[.slice none 0 0, .slice none 0 0] 26) := ⟨_, rfl⟩
    have e : X.heap.size = w.heap.size + 1 := by rw [hX]; simp
    rw [← hX, ← e]
    exact BlkW.new X [.slice none 0 0, .slice none 0 0] 26)
  obtain ⟨bV, hbV⟩ : ∃ z, z = w.heap.size + 1 := ⟨_, rfl⟩
  rw [← hbV] at HV
  have hlo : w.heap.size < bV := by omega
  have HW := hid_intro hW0
  have HBV := hid_intro hbV
  clear rc1 rm rc2 rh hM0 hMM hML hC0 hCM hA hW0 hbV
  have gsz3 : 0 < 2 := by omega
  have gsz6 : 0 < 6 := by omega
  go_enter Tryd.func31, Tryd.ntmps31
  go_wp2_with fail
  rw [← HW.out, ← HBV.out]
  clear HW HBV
  refine (RC1.out _ HA.out).mono ?_
  rintro e wB ⟨rfl, hA, hq⟩
  replace HA := hid_intro hA
  replace HG := hid_intro (gtrans HG.out hq)
  replace HR := hid_intro (blkW_grown HR.out hq (by simp; omega))
  replace HV := hid_intro (blkW_grown HV.out hq (by simp; omega))
  clear hA hq
  go_wp2_with fail
  go_loopw [6] (fun z wr => ∃ (k : Nat) (ma : Option Addr) (mc : Nat), k ≤ C ∧ z = .int .i64 k ∧ Hid (After g s (PM k) wr) ∧ Hid (w.grownBy wr (some g)) ∧ Hid (BlkW w.heap.size [.slice none 0 0, .slice none 0 0] wr) ∧ Hid (BlkW bV [.slice ma k mc, .slice none 0 0] wr) ∧ Hid (MsO (bV + 1) (.slice ma k mc) (LM k) wr)) (fun z _ => C - (intOf z).toNat)
  case atStart => exact ⟨0, none, 0, by omega, rfl, HA, HG, HR, HV, hid_intro (by rw [HM0.out]; exact mso_nil _ _)⟩
  case round =>
    clear HA HG HR HV
    obtain ⟨k, ma, mc, hk, rfl, HA, HG, HR, HV, HM⟩ := hrel
    by_cases hlt : k < C
    · have hlt2 : (k : Int) < (C : Int) := by omega
      have RMk := hid_intro (RM.out k)
      have HLM := hid_intro (HMM.out k)
      have HLL := hid_intro (HML.out k)
      have HME := hid_intro (me_one (mm k))
      have sz1 : k + 1 ≤ maxLen := by unfold maxLen; omega
      have sz2 : (k + 1) * 72 ≤ 140737488355328 := by omega
      obtain ⟨L0, hL0⟩ : ∃ z, z = wr.heap.size := ⟨_, rfl⟩
      have hbl : bV + 1 ≤ L0 := by have := HV.out.1.1; omega
      have hM0 := HM.out.lim.below (Below.refl wr.heap.size wr).drew
      have hL1 : L0 ≤ wr.drew.heap.size := by rw [hL0]; exact Nat.le_refl _
      rw [← hL0] at hM0
      have hA0 := EvtR.After.below HA.out (Below.refl wr.heap.size wr).drew
      have hG0 := gtrans HG.out (EvtR.rgrown (Below.refl wr.heap.size wr).drew _)
      have hR0 := HR.out.below (Below.refl wr.heap.size wr).drew
      have hV0 := HV.out.below (Below.refl wr.heap.size wr).drew
      have hbg : g < bV := by omega
      go_wp2_with fail
      refine wp_region_held_drew (S := (fun _ => True)) (by kernel_rfl) trivial (fun hHeld => ?_)
      generalize wr.drew = kd at *
      refine wpAnyH_take (i := 0) (oi := { dst := some 8, op := Op.fieldAddr 26 (Operand.tmp 3) 0, type := 0, pos := "l05_catalog.go:184", after := #[], guard := none }) (v := ?_) rfl (by kernel_rfl) (by kernel_rfl) (by kernel_rfl) (fun _ _ _ h => h) (Or.inl ⟨by rfl, ?_⟩) (by assumption) ?_
      rotate_left
      · (intro w hSw; (try dsimp only at hSw); go_simp) <;> with_reducible rfl
      try simp only [Act.put, List.setIfInBounds_toArray, List.set_cons_zero, List.set_cons_succ]
      refine wpAnyH_take (i := 2) (oi := { dst := some 10, op := Op.move (Operand.tmp 0), type := 57, pos := "l05_catalog.go:184", after := #[], guard := none }) (v := ?_) rfl (by kernel_rfl) (by kernel_rfl) (by kernel_rfl) (fun _ _ _ h => h) (Or.inl ⟨by rfl, ?_⟩) (by assumption) ?_
      rotate_left
      · (intro w hSw; (try dsimp only at hSw); go_simp) <;> with_reducible rfl
      try simp only [Act.put, List.setIfInBounds_toArray, List.set_cons_zero, List.set_cons_succ]
      refine wpAnyH_ready (rs := [1, 3]) (by kernel_rfl) (by simp) ?_
      refine AllReadyH.cons (o := { dst := some 9, op := Op.load 23 (Operand.tmp 8), type := 23, pos := "l05_catalog.go:184", after := #[{ on := 0, ground := Ground.data }], guard := none }) rfl (fun K hK => ?_) (AllReadyH.cons (o := { dst := some 11, op := Op.call { callee := Callee.value (Operand.func 60), args := #[Operand.tmp 10], argTypes := #[57] }, type := 37, pos := "l05_catalog.go:184", after := #[{ on := 2, ground := Ground.data }], guard := none }) rfl (fun K hK => ?_) AllReadyH.nil)
      · have c6 := hV0.1.2 0 (by simp)
        have l6 := hV0.1.1
        simp only [List.getElem?_cons_zero] at c6
        go_simp
        try go_wp2_with fail
        refine hK.out _ _ trivial (fun _ => ?_)
        clear hK K
        try simp only [Act.put, List.setIfInBounds_toArray, List.set_cons_zero, List.set_cons_succ]
        clear c6 l6
        refine wpAnyH_ready (rs := [3]) (by kernel_rfl) (by simp) ?_
        refine AllReadyH.cons (o := { dst := some 11, op := Op.call { callee := Callee.value (Operand.func 60), args := #[Operand.tmp 10], argTypes := #[57] }, type := 37, pos := "l05_catalog.go:184", after := #[{ on := 2, ground := Ground.data }], guard := none }) rfl (fun K hK => ?_) AllReadyH.nil
        go_simp
        go_at_call 60
        refine (RMk.out _ hA0).mono ?_
        rintro e q1 ⟨ta, tc, rfl, hNz, hA1, hq1⟩
        try go_wp2_with fail
        have hG1 := gtrans hG0 hq1
        have hR1 := blkW_grown hR0 hq1 (by simp; omega)
        have hV1 := blkW_grown hV0 hq1 (by simp; omega)
        have hM1 := hM0.far hq1 (by omega)
        have hN1 := own_low hNz hL1
        clear hNz
        refine hK.out _ _ trivial (fun _ => ?_)
        clear hK K
        try simp only [Act.put, List.setIfInBounds_toArray, List.set_cons_zero, List.set_cons_succ]
        refine wpAnyH_ready (rs := [4]) (by kernel_rfl) (by simp) ?_
        refine AllReadyH.cons (o := { dst := some 12, op := Op.buildSlice 23 1 #[(0, Operand.tmp 11)], type := 23, pos := "l05_catalog.go:184", after := #[{ on := 3, ground := Ground.data }], guard := none }) rfl (fun K hK => ?_) AllReadyH.nil
        go_simp
        try go_wp2_with fail
        have hA2 := hA1.alloc (Obj.cells #[.string (mm k).n, .int .i64 (mm k).g, .bool (mm k).wh, .int .i64 (mm k).f, .int .i64 (mm k).l, .slice ta (mm k).ts.length tc] 37)
        have hG2 := galloc hG1 (Obj.cells #[.string (mm k).n, .int .i64 (mm k).g, .bool (mm k).wh, .int .i64 (mm k).f, .int .i64 (mm k).l, .slice ta (mm k).ts.length tc] 37)
        have hR2 := hR1.below ((Below.refl q1.heap.size q1).alloc (Nat.le_refl _) (Obj.cells #[.string (mm k).n, .int .i64 (mm k).g, .bool (mm k).wh, .int .i64 (mm k).f, .int .i64 (mm k).l, .slice ta (mm k).ts.length tc] 37))
        have hV2 := hV1.below ((Below.refl q1.heap.size q1).alloc (Nat.le_refl _) (Obj.cells #[.string (mm k).n, .int .i64 (mm k).g, .bool (mm k).wh, .int .i64 (mm k).f, .int .i64 (mm k).l, .slice ta (mm k).ts.length tc] 37))
        have hM2 := hM1.below ((Below.refl q1.heap.size q1).alloc (Nat.le_refl _) (Obj.cells #[.string (mm k).n, .int .i64 (mm k).g, .bool (mm k).wh, .int .i64 (mm k).f, .int .i64 (mm k).l, .slice ta (mm k).ts.length tc] 37))
        have hN2 := RowG.own_below hN1 ((Below.refl q1.heap.size q1).alloc (Nat.le_refl _) (Obj.cells #[.string (mm k).n, .int .i64 (mm k).g, .bool (mm k).wh, .int .i64 (mm k).f, .int .i64 (mm k).l, .slice ta (mm k).ts.length tc] 37))
        have hnw : ∀ j u, ([.string (mm k).n, .int .i64 (mm k).g, .bool (mm k).wh, .int .i64 (mm k).f, .int .i64 (mm k).l, .slice ta (mm k).ts.length tc] : List Value)[j]? = some u → (q1.alloc (Obj.cells #[.string (mm k).n, .int .i64 (mm k).g, .bool (mm k).wh, .int .i64 (mm k).f, .int .i64 (mm k).l, .slice ta (mm k).ts.length tc] 37)).cell? ((⟨q1.heap.size, 0, none⟩ : Addr).add j) = some u := new_cells q1 [.string (mm k).n, .int .i64 (mm k).g, .bool (mm k).wh, .int .i64 (mm k).f, .int .i64 (mm k).l, .slice ta (mm k).ts.length tc] 37
        refine hK.out _ _ trivial (fun _ => ?_)
        clear hK K
        try simp only [Act.put, List.setIfInBounds_toArray, List.set_cons_zero, List.set_cons_succ]
        obtain ⟨bN, hbN⟩ : ∃ z, z = q1.heap.size := ⟨_, rfl⟩
        rw [← hbN] at hnw ⊢
        obtain ⟨k2, hk2⟩ : ∃ z, z = q1.alloc (Obj.cells #[.string (mm k).n, .int .i64 (mm k).g, .bool (mm k).wh, .int .i64 (mm k).f, .int .i64 (mm k).l, .slice ta (mm k).ts.length tc] 37) := ⟨_, rfl⟩
        rw [← hk2] at hnw hA2 hG2 hR2 hV2 hM2 hN2 ⊢
        clear hbN hk2
        refine wpAnyH_ready (rs := [5]) (by kernel_rfl) (by simp) ?_
        refine AllReadyH.cons (o := { dst := some 13, op := Op.call { callee := Callee.builtin Builtin.append, args := #[Operand.tmp 9, Operand.tmp 12], argTypes := #[23, 23] }, type := 23, pos := "l05_catalog.go:184", after := #[{ on := 1, ground := Ground.data }, { on := 4, ground := Ground.data }, { on := 3, ground := Ground.chain }], guard := none }) rfl (fun K hK => ?_) AllReadyH.nil
        obtain ⟨xs, x1, x2, x3, x4, x5⟩ := hM2
        have x2' := x2
        rw [HLL.out] at x2'
        refine DocR.step_append_own rfl _ _ 23 rfl (bV + 1) 37 i0 (.agg #[.string ⟨#[]⟩, .int .i64 0, .bool false, .int .i64 0, .int .i64 0, .slice none 0 0]) 6 72 Tryd.underlying23 hi hz0 hz1 hz2 rfl gsz6 _ _ _ rfl x2' ⟨bN, 0, none⟩ 1 1 [.string (mm k).n, .int .i64 (mm k).g, .bool (mm k).wh, .int .i64 (mm k).f, .int .i64 (mm k).l, .slice ta (mm k).ts.length tc] rfl rfl hnw (HME.out ta tc) sz1 sz2 (hV2.1.1) ?_
        intro v9 w9 hown hgrow hne
        have hA3 := after_grown hA2 hgrow (fun e => by have := (x2'.lt _ e.symm).1; omega)
        have hG3 := gnewR hG2 hgrow (fun X e => by have := (x2'.lt _ e).1; omega)
        have hR3 := blkW_grown hR2 hgrow (fun e => by have := (x2'.lt _ e.symm).1; omega)
        have hV3 := blkW_grown hV2 hgrow (fun e => by have := (x2'.lt _ e.symm).1; omega)
        have hM3 : MsO (bV + 1) v9 (LM (k + 1)) w9 := by
          rw [HLM.out]
          exact mso_snoc x1 x3 x4 x5 hbl hN2 x2 hgrow (by rw [HLL.out]; exact hown)
        obtain ⟨sb, sc, rfl⟩ := own_form hown
        clear hown hgrow hne hnw x1 x2 x3 x4 x5 x2'
        refine hK.out _ _ trivial (fun _ => ?_)
        clear hK K
        try simp only [Act.put, List.setIfInBounds_toArray, List.set_cons_zero, List.set_cons_succ]
        refine wpAnyH_take (i := 6) (oi := { dst := some 14, op := Op.fieldAddr 26 (Operand.tmp 3) 0, type := 0, pos := "l05_catalog.go:184", after := #[{ on := 0, ground := Ground.phase }, { on := 1, ground := Ground.phase }, { on := 2, ground := Ground.phase }, { on := 3, ground := Ground.phase }, { on := 4, ground := Ground.phase }, { on := 5, ground := Ground.phase }], guard := none }) (v := ?_) rfl (by kernel_rfl) (by kernel_rfl) (by kernel_rfl) (fun _ _ _ h => h) (Or.inl ⟨by rfl, ?_⟩) (by assumption) ?_
        rotate_left
        · (intro w hSw; (try dsimp only at hSw); go_simp) <;> with_reducible rfl
        try simp only [Act.put, List.setIfInBounds_toArray, List.set_cons_zero, List.set_cons_succ]
        refine wpAnyH_ready (rs := [7]) (by kernel_rfl) (by simp) ?_
        refine AllReadyH.cons (o := { dst := none, op := Op.store 23 (Operand.tmp 14) (Operand.tmp 13), type := 0, pos := "l05_catalog.go:184", after := #[{ on := 6, ground := Ground.data }, { on := 5, ground := Ground.data }, { on := 5, ground := Ground.chain }, { on := 0, ground := Ground.phase }, { on := 1, ground := Ground.phase }, { on := 2, ground := Ground.phase }, { on := 3, ground := Ground.phase }, { on := 4, ground := Ground.phase }, { on := 5, ground := Ground.phase }], guard := none }) rfl (fun K hK => ?_) AllReadyH.nil
        have c6 := hV3.1.2 0 (by simp)
        have l6 := hV3.1.1
        have f6 := hV3.2 0 (by simp)
        simp only [List.getElem?_cons_zero] at c6
        go_simp
        try go_wp2_with fail
        have hg := RowG.grown_set w9 bV 0 (.slice (some ⟨sb, 0, none⟩) (k + 1) sc)
        have hA9 := after_grown hA3 hg (by simp; omega)
        have hG9 := gnewG hG3 hg (by omega)
        have hR9 := blkW_grown hR3 hg (by simp; omega)
        have hV9 := hV3.set 0 (.slice (some ⟨sb, 0, none⟩) (k + 1) sc) (by simp)
        have hM9 := hM3.far hg (by omega)
        simp only [List.set_cons_zero] at hV9
        refine hK.out _ _ trivial (fun _ => ?_)
        clear hK K
        try simp only [Act.put, List.setIfInBounds_toArray, List.set_cons_zero, List.set_cons_succ]
        generalize (w9.setCell ⟨bV, 0, none⟩ (.slice (some ⟨sb, 0, none⟩) (k + 1) sc)) = kk at *
        refine wpAnyH_done (by kernel_rfl) ?_ _
        have HA9 := hid_intro hA9
        have HG9 := hid_intro hG9
        have HR9 := hid_intro hR9
        have HV9 := hid_intro hV9
        have HM9 := hid_intro hM9
        clear hA9 hG9 hR9 hV9 hM9 hg c6 l6 f6
        go_wp2_with fail
        go_roundw
        case rel => exact ⟨k + 1, some ⟨sb, 0, none⟩, sc, by omega, by go_num, HA9, HG9, HR9, HV9, HM9⟩
        case measure => simp [intOf]; omega
      · go_simp
        go_at_call 60
        refine (RMk.out _ hA0).mono ?_
        rintro e q1 ⟨ta, tc, rfl, hNz, hA1, hq1⟩
        try go_wp2_with fail
        have hG1 := gtrans hG0 hq1
        have hR1 := blkW_grown hR0 hq1 (by simp; omega)
        have hV1 := blkW_grown hV0 hq1 (by simp; omega)
        have hM1 := hM0.far hq1 (by omega)
        have hN1 := own_low hNz hL1
        clear hNz
        refine hK.out _ _ trivial (fun _ => ?_)
        clear hK K
        try simp only [Act.put, List.setIfInBounds_toArray, List.set_cons_zero, List.set_cons_succ]
        refine wpAnyH_ready (rs := [1, 4]) (by kernel_rfl) (by simp) ?_
        refine AllReadyH.cons (o := { dst := some 9, op := Op.load 23 (Operand.tmp 8), type := 23, pos := "l05_catalog.go:184", after := #[{ on := 0, ground := Ground.data }], guard := none }) rfl (fun K hK => ?_) (AllReadyH.cons (o := { dst := some 12, op := Op.buildSlice 23 1 #[(0, Operand.tmp 11)], type := 23, pos := "l05_catalog.go:184", after := #[{ on := 3, ground := Ground.data }], guard := none }) rfl (fun K hK => ?_) AllReadyH.nil)
        · have c6 := hV1.1.2 0 (by simp)
          have l6 := hV1.1.1
          simp only [List.getElem?_cons_zero] at c6
          go_simp
          try go_wp2_with fail
          refine hK.out _ _ trivial (fun _ => ?_)
          clear hK K
          try simp only [Act.put, List.setIfInBounds_toArray, List.set_cons_zero, List.set_cons_succ]
          clear c6 l6
          refine wpAnyH_ready (rs := [4]) (by kernel_rfl) (by simp) ?_
          refine AllReadyH.cons (o := { dst := some 12, op := Op.buildSlice 23 1 #[(0, Operand.tmp 11)], type := 23, pos := "l05_catalog.go:184", after := #[{ on := 3, ground := Ground.data }], guard := none }) rfl (fun K hK => ?_) AllReadyH.nil
          go_simp
          try go_wp2_with fail
          have hA2 := hA1.alloc (Obj.cells #[.string (mm k).n, .int .i64 (mm k).g, .bool (mm k).wh, .int .i64 (mm k).f, .int .i64 (mm k).l, .slice ta (mm k).ts.length tc] 37)
          have hG2 := galloc hG1 (Obj.cells #[.string (mm k).n, .int .i64 (mm k).g, .bool (mm k).wh, .int .i64 (mm k).f, .int .i64 (mm k).l, .slice ta (mm k).ts.length tc] 37)
          have hR2 := hR1.below ((Below.refl q1.heap.size q1).alloc (Nat.le_refl _) (Obj.cells #[.string (mm k).n, .int .i64 (mm k).g, .bool (mm k).wh, .int .i64 (mm k).f, .int .i64 (mm k).l, .slice ta (mm k).ts.length tc] 37))
          have hV2 := hV1.below ((Below.refl q1.heap.size q1).alloc (Nat.le_refl _) (Obj.cells #[.string (mm k).n, .int .i64 (mm k).g, .bool (mm k).wh, .int .i64 (mm k).f, .int .i64 (mm k).l, .slice ta (mm k).ts.length tc] 37))
          have hM2 := hM1.below ((Below.refl q1.heap.size q1).alloc (Nat.le_refl _) (Obj.cells #[.string (mm k).n, .int .i64 (mm k).g, .bool (mm k).wh, .int .i64 (mm k).f, .int .i64 (mm k).l, .slice ta (mm k).ts.length tc] 37))
          have hN2 := RowG.own_below hN1 ((Below.refl q1.heap.size q1).alloc (Nat.le_refl _) (Obj.cells #[.string (mm k).n, .int .i64 (mm k).g, .bool (mm k).wh, .int .i64 (mm k).f, .int .i64 (mm k).l, .slice ta (mm k).ts.length tc] 37))
          have hnw : ∀ j u, ([.string (mm k).n, .int .i64 (mm k).g, .bool (mm k).wh, .int .i64 (mm k).f, .int .i64 (mm k).l, .slice ta (mm k).ts.length tc] : List Value)[j]? = some u → (q1.alloc (Obj.cells #[.string (mm k).n, .int .i64 (mm k).g, .bool (mm k).wh, .int .i64 (mm k).f, .int .i64 (mm k).l, .slice ta (mm k).ts.length tc] 37)).cell? ((⟨q1.heap.size, 0, none⟩ : Addr).add j) = some u := new_cells q1 [.string (mm k).n, .int .i64 (mm k).g, .bool (mm k).wh, .int .i64 (mm k).f, .int .i64 (mm k).l, .slice ta (mm k).ts.length tc] 37
          refine hK.out _ _ trivial (fun _ => ?_)
          clear hK K
          try simp only [Act.put, List.setIfInBounds_toArray, List.set_cons_zero, List.set_cons_succ]
          obtain ⟨bN, hbN⟩ : ∃ z, z = q1.heap.size := ⟨_, rfl⟩
          rw [← hbN] at hnw ⊢
          obtain ⟨k2, hk2⟩ : ∃ z, z = q1.alloc (Obj.cells #[.string (mm k).n, .int .i64 (mm k).g, .bool (mm k).wh, .int .i64 (mm k).f, .int .i64 (mm k).l, .slice ta (mm k).ts.length tc] 37) := ⟨_, rfl⟩
          rw [← hk2] at hnw hA2 hG2 hR2 hV2 hM2 hN2 ⊢
          clear hbN hk2
          refine wpAnyH_ready (rs := [5]) (by kernel_rfl) (by simp) ?_
          refine AllReadyH.cons (o := { dst := some 13, op := Op.call { callee := Callee.builtin Builtin.append, args := #[Operand.tmp 9, Operand.tmp 12], argTypes := #[23, 23] }, type := 23, pos := "l05_catalog.go:184", after := #[{ on := 1, ground := Ground.data }, { on := 4, ground := Ground.data }, { on := 3, ground := Ground.chain }], guard := none }) rfl (fun K hK => ?_) AllReadyH.nil
          obtain ⟨xs, x1, x2, x3, x4, x5⟩ := hM2
          have x2' := x2
          rw [HLL.out] at x2'
          refine DocR.step_append_own rfl _ _ 23 rfl (bV + 1) 37 i0 (.agg #[.string ⟨#[]⟩, .int .i64 0, .bool false, .int .i64 0, .int .i64 0, .slice none 0 0]) 6 72 Tryd.underlying23 hi hz0 hz1 hz2 rfl gsz6 _ _ _ rfl x2' ⟨bN, 0, none⟩ 1 1 [.string (mm k).n, .int .i64 (mm k).g, .bool (mm k).wh, .int .i64 (mm k).f, .int .i64 (mm k).l, .slice ta (mm k).ts.length tc] rfl rfl hnw (HME.out ta tc) sz1 sz2 (hV2.1.1) ?_
          intro v9 w9 hown hgrow hne
          have hA3 := after_grown hA2 hgrow (fun e => by have := (x2'.lt _ e.symm).1; omega)
          have hG3 := gnewR hG2 hgrow (fun X e => by have := (x2'.lt _ e).1; omega)
          have hR3 := blkW_grown hR2 hgrow (fun e => by have := (x2'.lt _ e.symm).1; omega)
          have hV3 := blkW_grown hV2 hgrow (fun e => by have := (x2'.lt _ e.symm).1; omega)
          have hM3 : MsO (bV + 1) v9 (LM (k + 1)) w9 := by
            rw [HLM.out]
            exact mso_snoc x1 x3 x4 x5 hbl hN2 x2 hgrow (by rw [HLL.out]; exact hown)
          obtain ⟨sb, sc, rfl⟩ := own_form hown
          clear hown hgrow hne hnw x1 x2 x3 x4 x5 x2'
          refine hK.out _ _ trivial (fun _ => ?_)
          clear hK K
          try simp only [Act.put, List.setIfInBounds_toArray, List.set_cons_zero, List.set_cons_succ]
          refine wpAnyH_take (i := 6) (oi := { dst := some 14, op := Op.fieldAddr 26 (Operand.tmp 3) 0, type := 0, pos := "l05_catalog.go:184", after := #[{ on := 0, ground := Ground.phase }, { on := 1, ground := Ground.phase }, { on := 2, ground := Ground.phase }, { on := 3, ground := Ground.phase }, { on := 4, ground := Ground.phase }, { on := 5, ground := Ground.phase }], guard := none }) (v := ?_) rfl (by kernel_rfl) (by kernel_rfl) (by kernel_rfl) (fun _ _ _ h => h) (Or.inl ⟨by rfl, ?_⟩) (by assumption) ?_
          rotate_left
          · (intro w hSw; (try dsimp only at hSw); go_simp) <;> with_reducible rfl
          try simp only [Act.put, List.setIfInBounds_toArray, List.set_cons_zero, List.set_cons_succ]
          refine wpAnyH_ready (rs := [7]) (by kernel_rfl) (by simp) ?_
          refine AllReadyH.cons (o := { dst := none, op := Op.store 23 (Operand.tmp 14) (Operand.tmp 13), type := 0, pos := "l05_catalog.go:184", after := #[{ on := 6, ground := Ground.data }, { on := 5, ground := Ground.data }, { on := 5, ground := Ground.chain }, { on := 0, ground := Ground.phase }, { on := 1, ground := Ground.phase }, { on := 2, ground := Ground.phase }, { on := 3, ground := Ground.phase }, { on := 4, ground := Ground.phase }, { on := 5, ground := Ground.phase }], guard := none }) rfl (fun K hK => ?_) AllReadyH.nil
          have c6 := hV3.1.2 0 (by simp)
          have l6 := hV3.1.1
          have f6 := hV3.2 0 (by simp)
          simp only [List.getElem?_cons_zero] at c6
          go_simp
          try go_wp2_with fail
          have hg := RowG.grown_set w9 bV 0 (.slice (some ⟨sb, 0, none⟩) (k + 1) sc)
          have hA9 := after_grown hA3 hg (by simp; omega)
          have hG9 := gnewG hG3 hg (by omega)
          have hR9 := blkW_grown hR3 hg (by simp; omega)
          have hV9 := hV3.set 0 (.slice (some ⟨sb, 0, none⟩) (k + 1) sc) (by simp)
          have hM9 := hM3.far hg (by omega)
          simp only [List.set_cons_zero] at hV9
          refine hK.out _ _ trivial (fun _ => ?_)
          clear hK K
          try simp only [Act.put, List.setIfInBounds_toArray, List.set_cons_zero, List.set_cons_succ]
          generalize (w9.setCell ⟨bV, 0, none⟩ (.slice (some ⟨sb, 0, none⟩) (k + 1) sc)) = kk at *
          refine wpAnyH_done (by kernel_rfl) ?_ _
          have HA9 := hid_intro hA9
          have HG9 := hid_intro hG9
          have HR9 := hid_intro hR9
          have HV9 := hid_intro hV9
          have HM9 := hid_intro hM9
          clear hA9 hG9 hR9 hV9 hM9 hg c6 l6 f6
          go_wp2_with fail
          go_roundw
          case rel => exact ⟨k + 1, some ⟨sb, 0, none⟩, sc, by omega, by go_num, HA9, HG9, HR9, HV9, HM9⟩
          case measure => simp [intOf]; omega
        · go_simp
          try go_wp2_with fail
          have hA2 := hA1.alloc (Obj.cells #[.string (mm k).n, .int .i64 (mm k).g, .bool (mm k).wh, .int .i64 (mm k).f, .int .i64 (mm k).l, .slice ta (mm k).ts.length tc] 37)
          have hG2 := galloc hG1 (Obj.cells #[.string (mm k).n, .int .i64 (mm k).g, .bool (mm k).wh, .int .i64 (mm k).f, .int .i64 (mm k).l, .slice ta (mm k).ts.length tc] 37)
          have hR2 := hR1.below ((Below.refl q1.heap.size q1).alloc (Nat.le_refl _) (Obj.cells #[.string (mm k).n, .int .i64 (mm k).g, .bool (mm k).wh, .int .i64 (mm k).f, .int .i64 (mm k).l, .slice ta (mm k).ts.length tc] 37))
          have hV2 := hV1.below ((Below.refl q1.heap.size q1).alloc (Nat.le_refl _) (Obj.cells #[.string (mm k).n, .int .i64 (mm k).g, .bool (mm k).wh, .int .i64 (mm k).f, .int .i64 (mm k).l, .slice ta (mm k).ts.length tc] 37))
          have hM2 := hM1.below ((Below.refl q1.heap.size q1).alloc (Nat.le_refl _) (Obj.cells #[.string (mm k).n, .int .i64 (mm k).g, .bool (mm k).wh, .int .i64 (mm k).f, .int .i64 (mm k).l, .slice ta (mm k).ts.length tc] 37))
          have hN2 := RowG.own_below hN1 ((Below.refl q1.heap.size q1).alloc (Nat.le_refl _) (Obj.cells #[.string (mm k).n, .int .i64 (mm k).g, .bool (mm k).wh, .int .i64 (mm k).f, .int .i64 (mm k).l, .slice ta (mm k).ts.length tc] 37))
          have hnw : ∀ j u, ([.string (mm k).n, .int .i64 (mm k).g, .bool (mm k).wh, .int .i64 (mm k).f, .int .i64 (mm k).l, .slice ta (mm k).ts.length tc] : List Value)[j]? = some u → (q1.alloc (Obj.cells #[.string (mm k).n, .int .i64 (mm k).g, .bool (mm k).wh, .int .i64 (mm k).f, .int .i64 (mm k).l, .slice ta (mm k).ts.length tc] 37)).cell? ((⟨q1.heap.size, 0, none⟩ : Addr).add j) = some u := new_cells q1 [.string (mm k).n, .int .i64 (mm k).g, .bool (mm k).wh, .int .i64 (mm k).f, .int .i64 (mm k).l, .slice ta (mm k).ts.length tc] 37
          refine hK.out _ _ trivial (fun _ => ?_)
          clear hK K
          try simp only [Act.put, List.setIfInBounds_toArray, List.set_cons_zero, List.set_cons_succ]
          obtain ⟨bN, hbN⟩ : ∃ z, z = q1.heap.size := ⟨_, rfl⟩
          rw [← hbN] at hnw ⊢
          obtain ⟨k2, hk2⟩ : ∃ z, z = q1.alloc (Obj.cells #[.string (mm k).n, .int .i64 (mm k).g, .bool (mm k).wh, .int .i64 (mm k).f, .int .i64 (mm k).l, .slice ta (mm k).ts.length tc] 37) := ⟨_, rfl⟩
          rw [← hk2] at hnw hA2 hG2 hR2 hV2 hM2 hN2 ⊢
          clear hbN hk2
          refine wpAnyH_ready (rs := [1]) (by kernel_rfl) (by simp) ?_
          refine AllReadyH.cons (o := { dst := some 9, op := Op.load 23 (Operand.tmp 8), type := 23, pos := "l05_catalog.go:184", after := #[{ on := 0, ground := Ground.data }], guard := none }) rfl (fun K hK => ?_) AllReadyH.nil
          have c6 := hV2.1.2 0 (by simp)
          have l6 := hV2.1.1
          simp only [List.getElem?_cons_zero] at c6
          go_simp
          try go_wp2_with fail
          refine hK.out _ _ trivial (fun _ => ?_)
          clear hK K
          try simp only [Act.put, List.setIfInBounds_toArray, List.set_cons_zero, List.set_cons_succ]
          clear c6 l6
          refine wpAnyH_ready (rs := [5]) (by kernel_rfl) (by simp) ?_
          refine AllReadyH.cons (o := { dst := some 13, op := Op.call { callee := Callee.builtin Builtin.append, args := #[Operand.tmp 9, Operand.tmp 12], argTypes := #[23, 23] }, type := 23, pos := "l05_catalog.go:184", after := #[{ on := 1, ground := Ground.data }, { on := 4, ground := Ground.data }, { on := 3, ground := Ground.chain }], guard := none }) rfl (fun K hK => ?_) AllReadyH.nil
          obtain ⟨xs, x1, x2, x3, x4, x5⟩ := hM2
          have x2' := x2
          rw [HLL.out] at x2'
          refine DocR.step_append_own rfl _ _ 23 rfl (bV + 1) 37 i0 (.agg #[.string ⟨#[]⟩, .int .i64 0, .bool false, .int .i64 0, .int .i64 0, .slice none 0 0]) 6 72 Tryd.underlying23 hi hz0 hz1 hz2 rfl gsz6 _ _ _ rfl x2' ⟨bN, 0, none⟩ 1 1 [.string (mm k).n, .int .i64 (mm k).g, .bool (mm k).wh, .int .i64 (mm k).f, .int .i64 (mm k).l, .slice ta (mm k).ts.length tc] rfl rfl hnw (HME.out ta tc) sz1 sz2 (hV2.1.1) ?_
          intro v9 w9 hown hgrow hne
          have hA3 := after_grown hA2 hgrow (fun e => by have := (x2'.lt _ e.symm).1; omega)
          have hG3 := gnewR hG2 hgrow (fun X e => by have := (x2'.lt _ e).1; omega)
          have hR3 := blkW_grown hR2 hgrow (fun e => by have := (x2'.lt _ e.symm).1; omega)
          have hV3 := blkW_grown hV2 hgrow (fun e => by have := (x2'.lt _ e.symm).1; omega)
          have hM3 : MsO (bV + 1) v9 (LM (k + 1)) w9 := by
            rw [HLM.out]
            exact mso_snoc x1 x3 x4 x5 hbl hN2 x2 hgrow (by rw [HLL.out]; exact hown)
          obtain ⟨sb, sc, rfl⟩ := own_form hown
          clear hown hgrow hne hnw x1 x2 x3 x4 x5 x2'
          refine hK.out _ _ trivial (fun _ => ?_)
          clear hK K
          try simp only [Act.put, List.setIfInBounds_toArray, List.set_cons_zero, List.set_cons_succ]
          refine wpAnyH_take (i := 6) (oi := { dst := some 14, op := Op.fieldAddr 26 (Operand.tmp 3) 0, type := 0, pos := "l05_catalog.go:184", after := #[{ on := 0, ground := Ground.phase }, { on := 1, ground := Ground.phase }, { on := 2, ground := Ground.phase }, { on := 3, ground := Ground.phase }, { on := 4, ground := Ground.phase }, { on := 5, ground := Ground.phase }], guard := none }) (v := ?_) rfl (by kernel_rfl) (by kernel_rfl) (by kernel_rfl) (fun _ _ _ h => h) (Or.inl ⟨by rfl, ?_⟩) (by assumption) ?_
          rotate_left
          · (intro w hSw; (try dsimp only at hSw); go_simp) <;> with_reducible rfl
          try simp only [Act.put, List.setIfInBounds_toArray, List.set_cons_zero, List.set_cons_succ]
          refine wpAnyH_ready (rs := [7]) (by kernel_rfl) (by simp) ?_
          refine AllReadyH.cons (o := { dst := none, op := Op.store 23 (Operand.tmp 14) (Operand.tmp 13), type := 0, pos := "l05_catalog.go:184", after := #[{ on := 6, ground := Ground.data }, { on := 5, ground := Ground.data }, { on := 5, ground := Ground.chain }, { on := 0, ground := Ground.phase }, { on := 1, ground := Ground.phase }, { on := 2, ground := Ground.phase }, { on := 3, ground := Ground.phase }, { on := 4, ground := Ground.phase }, { on := 5, ground := Ground.phase }], guard := none }) rfl (fun K hK => ?_) AllReadyH.nil
          have c6 := hV3.1.2 0 (by simp)
          have l6 := hV3.1.1
          have f6 := hV3.2 0 (by simp)
          simp only [List.getElem?_cons_zero] at c6
          go_simp
          try go_wp2_with fail
          have hg := RowG.grown_set w9 bV 0 (.slice (some ⟨sb, 0, none⟩) (k + 1) sc)
          have hA9 := after_grown hA3 hg (by simp; omega)
          have hG9 := gnewG hG3 hg (by omega)
          have hR9 := blkW_grown hR3 hg (by simp; omega)
          have hV9 := hV3.set 0 (.slice (some ⟨sb, 0, none⟩) (k + 1) sc) (by simp)
          have hM9 := hM3.far hg (by omega)
          simp only [List.set_cons_zero] at hV9
          refine hK.out _ _ trivial (fun _ => ?_)
          clear hK K
          try simp only [Act.put, List.setIfInBounds_toArray, List.set_cons_zero, List.set_cons_succ]
          generalize (w9.setCell ⟨bV, 0, none⟩ (.slice (some ⟨sb, 0, none⟩) (k + 1) sc)) = kk at *
          refine wpAnyH_done (by kernel_rfl) ?_ _
          have HA9 := hid_intro hA9
          have HG9 := hid_intro hG9
          have HR9 := hid_intro hR9
          have HV9 := hid_intro hV9
          have HM9 := hid_intro hM9
          clear hA9 hG9 hR9 hV9 hM9 hg c6 l6 f6
          go_wp2_with fail
          go_roundw
          case rel => exact ⟨k + 1, some ⟨sb, 0, none⟩, sc, by omega, by go_num, HA9, HG9, HR9, HV9, HM9⟩
          case measure => simp [intOf]; omega
    · have hlt2 : ¬ (k : Int) < (C : Int) := by omega
      obtain rfl : k = C := by omega
      go_wp2_with fail
      refine (RC2.out _ HA.out).mono ?_
      rintro e wD ⟨rfl, hA, hq⟩
      replace HA := hid_intro hA
      replace HG := hid_intro (gtrans HG.out hq)
      replace HR := hid_intro (blkW_grown HR.out hq (by simp; omega))
      replace HV := hid_intro (blkW_grown HV.out hq (by simp; omega))
      replace HM := hid_intro (HM.out.far hq (by omega))
      clear hA hq
      go_wp2_with fail
      go_loopw [18] (fun z wr => ∃ (i : Nat) (ca : Option Addr) (cc : Nat), i ≤ D ∧ z = .int .i64 i ∧ Hid (After g s (PC i) wr) ∧ Hid (w.grownBy wr (some g)) ∧ Hid (BlkW w.heap.size [.slice none 0 0, .slice none 0 0] wr) ∧ Hid (BlkW bV [.slice ma k mc, .slice ca i cc] wr) ∧ Hid (wr.ownsRow (bV + 1) 53 2 (.slice ca i cc) i (cellsAll Cr.cells (LC i))) ∧ Hid (MsO (bV + 1) (.slice ma k mc) (LM k) wr)) (fun z _ => D - (intOf z).toNat)
      case atStart => exact ⟨0, none, 0, by omega, rfl, HA, HG, HR, HV, hid_intro (by rw [HC0.out]; exact World.ownsRow_nil _ _ _ _), HM⟩
      case round =>
        clear HA HG HR HV HM
        obtain ⟨i, ca, cc, hk2, rfl, HA, HG, HR, HV, HO, HM⟩ := hrel
        by_cases hlt3 : i < D
        · have hlt4 : (i : Int) < (D : Int) := by omega
          obtain ⟨om, rd1, rd2⟩ := RH.out i
          have RD1 := hid_intro rd1
          have RD2 := hid_intro rd2
          clear rd1 rd2
          have HLM := hid_intro (HCM.out i)
          generalize hh i = X at *
          generalize ss i = Y at *
          have sz1 : i + 1 ≤ maxLen := by unfold maxLen; omega
          have sz2 : (i + 1) * 24 ≤ 140737488355328 := by omega
          have hA0 := EvtR.After.below HA.out (Below.refl wr.heap.size wr).drew
          have hG0 := gtrans HG.out (EvtR.rgrown (Below.refl wr.heap.size wr).drew _)
          have hR0 := HR.out.below (Below.refl wr.heap.size wr).drew
          have hV0 := HV.out.below (Below.refl wr.heap.size wr).drew
          have hO0 := RowG.own_below HO.out (Below.refl wr.heap.size wr).drew
          have hM0 := HM.out.below (Below.refl wr.heap.size wr).drew
          have hbg : g < bV := by omega
          go_wp2_with fail
          refine wp_region_held_drew (S := (fun _ => True)) (by kernel_rfl) trivial (fun hHeld => ?_)
          generalize wr.drew = kd at *
          apply memo3 (fun bN sb sc W => (True) ∧ (After g s (PC (i + 1)) W) ∧ (w.grownBy W (some g)) ∧ (BlkW w.heap.size [.slice none 0 0, .slice none 0 0] W) ∧ (BlkW bV [.slice ma k mc, .slice ca i cc] W) ∧ (W.ownsRow (bV + 1) 53 2 (.slice (some ⟨sb, 0, none⟩) (i + 1) sc) (i + 1) (cellsAll Cr.cells (LC (i + 1)))) ∧ (MsO (bV + 1) (.slice ma k mc) (LM k) W) ∧ True)
          intro N1_3_5_7_8
          apply memo1 (fun bN W => (True) ∧ (After g s (PC (i + 1)) W) ∧ (w.grownBy W (some g)) ∧ (BlkW w.heap.size [.slice none 0 0, .slice none 0 0] W) ∧ (BlkW bV [.slice ma k mc, .slice ca i cc] W) ∧ (W.ownsRow (bV + 1) 53 2 (.slice ca i cc) i (cellsAll Cr.cells (LC i))) ∧ (MsO (bV + 1) (.slice ma k mc) (LM k) W) ∧ (∀ j u, ([.string X, .int .i64 Y] : List Value)[j]? = some u → W.cell? ((⟨bN, 0, none⟩ : Addr).add j) = some u) ∧ (bV < bN) ∧ True)
          intro N1_3_5_7
          apply memo0 (fun  W => (True) ∧ (After g s (PC (i + 1)) W) ∧ (w.grownBy W (some g)) ∧ (BlkW w.heap.size [.slice none 0 0, .slice none 0 0] W) ∧ (BlkW bV [.slice ma k mc, .slice ca i cc] W) ∧ (W.ownsRow (bV + 1) 53 2 (.slice ca i cc) i (cellsAll Cr.cells (LC i))) ∧ (MsO (bV + 1) (.slice ma k mc) (LM k) W) ∧ True)
          intro N1_3_5
          apply memo1 (fun bN W => (True) ∧ (After g s (PC (i + 1)) W) ∧ (w.grownBy W (some g)) ∧ (BlkW w.heap.size [.slice none 0 0, .slice none 0 0] W) ∧ (BlkW bV [.slice ma k mc, .slice ca i cc] W) ∧ (W.ownsRow (bV + 1) 53 2 (.slice ca i cc) i (cellsAll Cr.cells (LC i))) ∧ (MsO (bV + 1) (.slice ma k mc) (LM k) W) ∧ (∀ j u, ([.string X, .int .i64 Y] : List Value)[j]? = some u → W.cell? ((⟨bN, 0, none⟩ : Addr).add j) = some u) ∧ (bV < bN) ∧ True)
          intro N3_5_7
          apply memo0 (fun  W => (True) ∧ (After g s om W) ∧ (w.grownBy W (some g)) ∧ (BlkW w.heap.size [.slice none 0 0, .slice none 0 0] W) ∧ (BlkW bV [.slice ma k mc, .slice ca i cc] W) ∧ (W.ownsRow (bV + 1) 53 2 (.slice ca i cc) i (cellsAll Cr.cells (LC i))) ∧ (MsO (bV + 1) (.slice ma k mc) (LM k) W) ∧ True)
          intro N1_3
          apply memo0 (fun  W => (True) ∧ (After g s (PC (i + 1)) W) ∧ (w.grownBy W (some g)) ∧ (BlkW w.heap.size [.slice none 0 0, .slice none 0 0] W) ∧ (BlkW bV [.slice ma k mc, .slice ca i cc] W) ∧ (W.ownsRow (bV + 1) 53 2 (.slice ca i cc) i (cellsAll Cr.cells (LC i))) ∧ (MsO (bV + 1) (.slice ma k mc) (LM k) W) ∧ True)
          intro N3_5
          apply memo0 (fun  W => (True) ∧ (After g s (PC i) W) ∧ (w.grownBy W (some g)) ∧ (BlkW w.heap.size [.slice none 0 0, .slice none 0 0] W) ∧ (BlkW bV [.slice ma k mc, .slice ca i cc] W) ∧ (W.ownsRow (bV + 1) 53 2 (.slice ca i cc) i (cellsAll Cr.cells (LC i))) ∧ (MsO (bV + 1) (.slice ma k mc) (LM k) W) ∧ True)
          intro N1
          apply memo0 (fun  W => (True) ∧ (After g s om W) ∧ (w.grownBy W (some g)) ∧ (BlkW w.heap.size [.slice none 0 0, .slice none 0 0] W) ∧ (BlkW bV [.slice ma k mc, .slice ca i cc] W) ∧ (W.ownsRow (bV + 1) 53 2 (.slice ca i cc) i (cellsAll Cr.cells (LC i))) ∧ (MsO (bV + 1) (.slice ma k mc) (LM k) W) ∧ True)
          intro N3
          · refine wpAnyH_take (i := 0) (oi := { dst := some 20, op := Op.fieldAddr 26 (Operand.tmp 3) 1, type := 0, pos := "l05_catalog.go:187", after := #[], guard := none }) (v := ?_) rfl (by kernel_rfl) (by kernel_rfl) (by kernel_rfl) (fun _ _ _ h => h) (Or.inl ⟨by rfl, ?_⟩) (by assumption) ?_
            rotate_left
            · (intro w hSw; (try dsimp only at hSw); go_simp) <;> with_reducible rfl
            try simp only [Act.put, List.setIfInBounds_toArray, List.set_cons_zero, List.set_cons_succ]
            refine wpAnyH_take (i := 2) (oi := { dst := some 22, op := Op.move (Operand.tmp 0), type := 57, pos := "l05_catalog.go:187", after := #[], guard := none }) (v := ?_) rfl (by kernel_rfl) (by kernel_rfl) (by kernel_rfl) (fun _ _ _ h => h) (Or.inl ⟨by rfl, ?_⟩) (by assumption) ?_
            rotate_left
            · (intro w hSw; (try dsimp only at hSw); go_simp) <;> with_reducible rfl
            try simp only [Act.put, List.setIfInBounds_toArray, List.set_cons_zero, List.set_cons_succ]
            refine wpAnyH_take (i := 4) (oi := { dst := some 24, op := Op.move (Operand.tmp 0), type := 57, pos := "l05_catalog.go:187", after := #[], guard := none }) (v := ?_) rfl (by kernel_rfl) (by kernel_rfl) (by kernel_rfl) (fun _ _ _ h => h) (Or.inl ⟨by rfl, ?_⟩) (by assumption) ?_
            rotate_left
            · (intro w hSw; (try dsimp only at hSw); go_simp) <;> with_reducible rfl
            try simp only [Act.put, List.setIfInBounds_toArray, List.set_cons_zero, List.set_cons_succ]
            refine wpAnyH_ready (rs := [1, 3]) (by kernel_rfl) (by simp) ?_
            refine AllReadyH.cons (o := { dst := some 21, op := Op.load 24 (Operand.tmp 20), type := 24, pos := "l05_catalog.go:187", after := #[{ on := 0, ground := Ground.data }], guard := none }) rfl (fun K hK => ?_) (AllReadyH.cons (o := { dst := some 23, op := Op.call { callee := Callee.value (Operand.func 61), args := #[Operand.tmp 22], argTypes := #[57] }, type := 9, pos := "l05_catalog.go:187", after := #[{ on := 2, ground := Ground.data }], guard := none }) rfl (fun K hK => ?_) AllReadyH.nil)
            · have c6 := hV0.1.2 1 (by simp)
              have l6 := hV0.1.1
              simp only [List.getElem?_cons_zero, List.getElem?_cons_succ] at c6
              go_simp
              try go_wp2_with fail
              refine hK.out _ _ trivial (fun _ => ?_)
              clear hK K
              try simp only [Act.put, List.setIfInBounds_toArray, List.set_cons_zero, List.set_cons_succ]
              clear c6 l6
              exact N1.out  kd ⟨trivial, hA0, hG0, hR0, hV0, hO0, hM0, trivial⟩
            · go_simp
              go_at_call 61
              refine (RD1.out _ hA0).mono ?_
              rintro e q1 ⟨rfl, hA1, hq1⟩
              try go_wp2_with fail
              have hG1 := gtrans hG0 hq1
              have hR1 := blkW_grown hR0 hq1 (by simp; omega)
              have hV1 := blkW_grown hV0 hq1 (by simp; omega)
              have hO1 := own_keepG hO0 hq1 (by omega)
              have hM1 := hM0.far hq1 (by omega)
              refine hK.out _ _ trivial (fun _ => ?_)
              clear hK K
              try simp only [Act.put, List.setIfInBounds_toArray, List.set_cons_zero, List.set_cons_succ]
              exact N3.out  q1 ⟨trivial, hA1, hG1, hR1, hV1, hO1, hM1, trivial⟩
          · rintro  W ⟨hTr, hA0, hG0, hR0, hV0, hO0, hM0, _⟩
            refine wpAnyH_ready (rs := [1, 5]) (by kernel_rfl) (by simp) ?_
            refine AllReadyH.cons (o := { dst := some 21, op := Op.load 24 (Operand.tmp 20), type := 24, pos := "l05_catalog.go:187", after := #[{ on := 0, ground := Ground.data }], guard := none }) rfl (fun K hK => ?_) (AllReadyH.cons (o := { dst := some 25, op := Op.call { callee := Callee.value (Operand.func 62), args := #[Operand.tmp 24], argTypes := #[57] }, type := 2, pos := "l05_catalog.go:187", after := #[{ on := 4, ground := Ground.data }, { on := 3, ground := Ground.chain }], guard := none }) rfl (fun K hK => ?_) AllReadyH.nil)
            · have c6 := hV0.1.2 1 (by simp)
              have l6 := hV0.1.1
              simp only [List.getElem?_cons_zero, List.getElem?_cons_succ] at c6
              go_simp
              try go_wp2_with fail
              refine hK.out _ _ trivial (fun _ => ?_)
              clear hK K
              try simp only [Act.put, List.setIfInBounds_toArray, List.set_cons_zero, List.set_cons_succ]
              clear c6 l6
              exact N1_3.out  W ⟨trivial, hA0, hG0, hR0, hV0, hO0, hM0, trivial⟩
            · go_simp
              go_at_call 62
              refine (RD2.out _ hA0).mono ?_
              rintro e q1 ⟨rfl, hA1, hq1⟩
              try go_wp2_with fail
              have hG1 := gtrans hG0 hq1
              have hR1 := blkW_grown hR0 hq1 (by simp; omega)
              have hV1 := blkW_grown hV0 hq1 (by simp; omega)
              have hO1 := own_keepG hO0 hq1 (by omega)
              have hM1 := hM0.far hq1 (by omega)
              refine hK.out _ _ trivial (fun _ => ?_)
              clear hK K
              try simp only [Act.put, List.setIfInBounds_toArray, List.set_cons_zero, List.set_cons_succ]
              refine wpAnyH_take (i := 6) (oi := { dst := some 26, op := Op.build 53 #[(0, Operand.tmp 23), (1, Operand.tmp 25)], type := 53, pos := "l05_catalog.go:187", after := #[{ on := 3, ground := Ground.data }, { on := 5, ground := Ground.data }], guard := none }) (v := ?_) rfl (by kernel_rfl) (by kernel_rfl) (by kernel_rfl) (fun _ _ _ h => h) (Or.inl ⟨by rfl, ?_⟩) (by assumption) ?_
              rotate_left
              · (intro w hSw; (try dsimp only at hSw); go_simp) <;> with_reducible rfl
              try simp only [Act.put, List.setIfInBounds_toArray, List.set_cons_zero, List.set_cons_succ]
              exact N3_5.out  q1 ⟨trivial, hA1, hG1, hR1, hV1, hO1, hM1, trivial⟩
          · rintro  W ⟨hTr, hA0, hG0, hR0, hV0, hO0, hM0, _⟩
            refine wpAnyH_ready (rs := [3]) (by kernel_rfl) (by simp) ?_
            refine AllReadyH.cons (o := { dst := some 23, op := Op.call { callee := Callee.value (Operand.func 61), args := #[Operand.tmp 22], argTypes := #[57] }, type := 9, pos := "l05_catalog.go:187", after := #[{ on := 2, ground := Ground.data }], guard := none }) rfl (fun K hK => ?_) AllReadyH.nil
            go_simp
            go_at_call 61
            refine (RD1.out _ hA0).mono ?_
            rintro e q1 ⟨rfl, hA1, hq1⟩
            try go_wp2_with fail
            have hG1 := gtrans hG0 hq1
            have hR1 := blkW_grown hR0 hq1 (by simp; omega)
            have hV1 := blkW_grown hV0 hq1 (by simp; omega)
            have hO1 := own_keepG hO0 hq1 (by omega)
            have hM1 := hM0.far hq1 (by omega)
            refine hK.out _ _ trivial (fun _ => ?_)
            clear hK K
            try simp only [Act.put, List.setIfInBounds_toArray, List.set_cons_zero, List.set_cons_succ]
            exact N1_3.out  q1 ⟨trivial, hA1, hG1, hR1, hV1, hO1, hM1, trivial⟩
          · rintro  W ⟨hTr, hA0, hG0, hR0, hV0, hO0, hM0, _⟩
            refine wpAnyH_ready (rs := [1, 7]) (by kernel_rfl) (by simp) ?_
            refine AllReadyH.cons (o := { dst := some 21, op := Op.load 24 (Operand.tmp 20), type := 24, pos := "l05_catalog.go:187", after := #[{ on := 0, ground := Ground.data }], guard := none }) rfl (fun K hK => ?_) (AllReadyH.cons (o := { dst := some 27, op := Op.buildSlice 24 1 #[(0, Operand.tmp 26)], type := 24, pos := "l05_catalog.go:187", after := #[{ on := 6, ground := Ground.data }], guard := none }) rfl (fun K hK => ?_) AllReadyH.nil)
            · have c6 := hV0.1.2 1 (by simp)
              have l6 := hV0.1.1
              simp only [List.getElem?_cons_zero, List.getElem?_cons_succ] at c6
              go_simp
              try go_wp2_with fail
              refine hK.out _ _ trivial (fun _ => ?_)
              clear hK K
              try simp only [Act.put, List.setIfInBounds_toArray, List.set_cons_zero, List.set_cons_succ]
              clear c6 l6
              exact N1_3_5.out  W ⟨trivial, hA0, hG0, hR0, hV0, hO0, hM0, trivial⟩
            · go_simp
              try go_wp2_with fail
              have hA1 := hA0.alloc (Obj.cells #[.string X, .int .i64 Y] 53)
              have hG1 := galloc hG0 (Obj.cells #[.string X, .int .i64 Y] 53)
              have hR1 := hR0.below ((Below.refl W.heap.size W).alloc (Nat.le_refl _) (Obj.cells #[.string X, .int .i64 Y] 53))
              have hV1 := hV0.below ((Below.refl W.heap.size W).alloc (Nat.le_refl _) (Obj.cells #[.string X, .int .i64 Y] 53))
              have hO1 := RowG.own_below hO0 ((Below.refl W.heap.size W).alloc (Nat.le_refl _) (Obj.cells #[.string X, .int .i64 Y] 53))
              have hM1 := hM0.below ((Below.refl W.heap.size W).alloc (Nat.le_refl _) (Obj.cells #[.string X, .int .i64 Y] 53))
              have hnw : ∀ j u, ([.string X, .int .i64 Y] : List Value)[j]? = some u → (W.alloc (Obj.cells #[.string X, .int .i64 Y] 53)).cell? ((⟨W.heap.size, 0, none⟩ : Addr).add j) = some u := new_cells W [.string X, .int .i64 Y] 53
              have hlb : bV < W.heap.size := hV0.1.1
              refine hK.out _ _ trivial (fun _ => ?_)
              clear hK K
              try simp only [Act.put, List.setIfInBounds_toArray, List.set_cons_zero, List.set_cons_succ]
              obtain ⟨bN, hbN⟩ : ∃ z, z = W.heap.size := ⟨_, rfl⟩
              rw [← hbN] at hnw hlb ⊢
              obtain ⟨k1, hk1⟩ : ∃ z, z = W.alloc (Obj.cells #[.string X, .int .i64 Y] 53) := ⟨_, rfl⟩
              rw [← hk1] at hnw hA1 hG1 hR1 hV1 hO1 hM1 ⊢
              exact N3_5_7.out bN k1 ⟨trivial, hA1, hG1, hR1, hV1, hO1, hM1, hnw, hlb, trivial⟩
          · rintro  W ⟨hTr, hA0, hG0, hR0, hV0, hO0, hM0, _⟩
            refine wpAnyH_ready (rs := [5]) (by kernel_rfl) (by simp) ?_
            refine AllReadyH.cons (o := { dst := some 25, op := Op.call { callee := Callee.value (Operand.func 62), args := #[Operand.tmp 24], argTypes := #[57] }, type := 2, pos := "l05_catalog.go:187", after := #[{ on := 4, ground := Ground.data }, { on := 3, ground := Ground.chain }], guard := none }) rfl (fun K hK => ?_) AllReadyH.nil
            go_simp
            go_at_call 62
            refine (RD2.out _ hA0).mono ?_
            rintro e q1 ⟨rfl, hA1, hq1⟩
            try go_wp2_with fail
            have hG1 := gtrans hG0 hq1
            have hR1 := blkW_grown hR0 hq1 (by simp; omega)
            have hV1 := blkW_grown hV0 hq1 (by simp; omega)
            have hO1 := own_keepG hO0 hq1 (by omega)
            have hM1 := hM0.far hq1 (by omega)
            refine hK.out _ _ trivial (fun _ => ?_)
            clear hK K
            try simp only [Act.put, List.setIfInBounds_toArray, List.set_cons_zero, List.set_cons_succ]
            refine wpAnyH_take (i := 6) (oi := { dst := some 26, op := Op.build 53 #[(0, Operand.tmp 23), (1, Operand.tmp 25)], type := 53, pos := "l05_catalog.go:187", after := #[{ on := 3, ground := Ground.data }, { on := 5, ground := Ground.data }], guard := none }) (v := ?_) rfl (by kernel_rfl) (by kernel_rfl) (by kernel_rfl) (fun _ _ _ h => h) (Or.inl ⟨by rfl, ?_⟩) (by assumption) ?_
            rotate_left
            · (intro w hSw; (try dsimp only at hSw); go_simp) <;> with_reducible rfl
            try simp only [Act.put, List.setIfInBounds_toArray, List.set_cons_zero, List.set_cons_succ]
            exact N1_3_5.out  q1 ⟨trivial, hA1, hG1, hR1, hV1, hO1, hM1, trivial⟩
          · rintro bN W ⟨hTr, hA0, hG0, hR0, hV0, hO0, hM0, hnw, hlb, _⟩
            refine wpAnyH_ready (rs := [1]) (by kernel_rfl) (by simp) ?_
            refine AllReadyH.cons (o := { dst := some 21, op := Op.load 24 (Operand.tmp 20), type := 24, pos := "l05_catalog.go:187", after := #[{ on := 0, ground := Ground.data }], guard := none }) rfl (fun K hK => ?_) AllReadyH.nil
            have c6 := hV0.1.2 1 (by simp)
            have l6 := hV0.1.1
            simp only [List.getElem?_cons_zero, List.getElem?_cons_succ] at c6
            go_simp
            try go_wp2_with fail
            refine hK.out _ _ trivial (fun _ => ?_)
            clear hK K
            try simp only [Act.put, List.setIfInBounds_toArray, List.set_cons_zero, List.set_cons_succ]
            clear c6 l6
            exact N1_3_5_7.out bN W ⟨trivial, hA0, hG0, hR0, hV0, hO0, hM0, hnw, hlb, trivial⟩
          · rintro  W ⟨hTr, hA0, hG0, hR0, hV0, hO0, hM0, _⟩
            refine wpAnyH_ready (rs := [7]) (by kernel_rfl) (by simp) ?_
            refine AllReadyH.cons (o := { dst := some 27, op := Op.buildSlice 24 1 #[(0, Operand.tmp 26)], type := 24, pos := "l05_catalog.go:187", after := #[{ on := 6, ground := Ground.data }], guard := none }) rfl (fun K hK => ?_) AllReadyH.nil
            go_simp
            try go_wp2_with fail
            have hA1 := hA0.alloc (Obj.cells #[.string X, .int .i64 Y] 53)
            have hG1 := galloc hG0 (Obj.cells #[.string X, .int .i64 Y] 53)
            have hR1 := hR0.below ((Below.refl W.heap.size W).alloc (Nat.le_refl _) (Obj.cells #[.string X, .int .i64 Y] 53))
            have hV1 := hV0.below ((Below.refl W.heap.size W).alloc (Nat.le_refl _) (Obj.cells #[.string X, .int .i64 Y] 53))
            have hO1 := RowG.own_below hO0 ((Below.refl W.heap.size W).alloc (Nat.le_refl _) (Obj.cells #[.string X, .int .i64 Y] 53))
            have hM1 := hM0.below ((Below.refl W.heap.size W).alloc (Nat.le_refl _) (Obj.cells #[.string X, .int .i64 Y] 53))
            have hnw : ∀ j u, ([.string X, .int .i64 Y] : List Value)[j]? = some u → (W.alloc (Obj.cells #[.string X, .int .i64 Y] 53)).cell? ((⟨W.heap.size, 0, none⟩ : Addr).add j) = some u := new_cells W [.string X, .int .i64 Y] 53
            have hlb : bV < W.heap.size := hV0.1.1
            refine hK.out _ _ trivial (fun _ => ?_)
            clear hK K
            try simp only [Act.put, List.setIfInBounds_toArray, List.set_cons_zero, List.set_cons_succ]
            obtain ⟨bN, hbN⟩ : ∃ z, z = W.heap.size := ⟨_, rfl⟩
            rw [← hbN] at hnw hlb ⊢
            obtain ⟨k1, hk1⟩ : ∃ z, z = W.alloc (Obj.cells #[.string X, .int .i64 Y] 53) := ⟨_, rfl⟩
            rw [← hk1] at hnw hA1 hG1 hR1 hV1 hO1 hM1 ⊢
            exact N1_3_5_7.out bN k1 ⟨trivial, hA1, hG1, hR1, hV1, hO1, hM1, hnw, hlb, trivial⟩
          · rintro bN W ⟨hTr, hA0, hG0, hR0, hV0, hO0, hM0, hnw, hlb, _⟩
            refine wpAnyH_ready (rs := [8]) (by kernel_rfl) (by simp) ?_
            refine AllReadyH.cons (o := { dst := some 28, op := Op.call { callee := Callee.builtin Builtin.append, args := #[Operand.tmp 21, Operand.tmp 27], argTypes := #[24, 24] }, type := 24, pos := "l05_catalog.go:187", after := #[{ on := 1, ground := Ground.data }, { on := 7, ground := Ground.data }, { on := 5, ground := Ground.chain }], guard := none }) rfl (fun K hK => ?_) AllReadyH.nil
            refine DocR.step_append_own rfl _ _ 24 rfl (bV + 1) 53 j0 (.agg #[.string ⟨#[]⟩, .int .i64 0]) 2 24 Tryd.underlying24 gi gz0 gz1 gz2 rfl gsz3 _ _ _ rfl hO0 ⟨bN, 0, none⟩ 1 1 [.string X, .int .i64 Y] rfl rfl hnw (cr_one X Y) sz1 sz2 (hV0.1.1) ?_
            intro v9 w9 hown hgrow hne
            have hA1 := after_grown hA0 hgrow (fun e => by have := (hO0.lt _ e.symm).1; omega)
            have hG1 := gnewR hG0 hgrow (fun X e => by have := (hO0.lt _ e).1; omega)
            have hR1 := blkW_grown hR0 hgrow (fun e => by have := (hO0.lt _ e.symm).1; omega)
            have hV1 := blkW_grown hV0 hgrow (fun e => by have := (hO0.lt _ e.symm).1; omega)
            have hM1 := hM0.other hO0 hgrow (by decide) (by decide)
            have hO1 : w9.ownsRow (bV + 1) 53 2 v9 (i + 1) (cellsAll Cr.cells (LC (i + 1))) := by rw [HLM.out, cellsAll_snoc]; exact hown
            obtain ⟨sb, sc, rfl⟩ := own_form hO1
            clear hown hgrow hne hnw
            refine hK.out _ _ trivial (fun _ => ?_)
            clear hK K
            try simp only [Act.put, List.setIfInBounds_toArray, List.set_cons_zero, List.set_cons_succ]
            refine wpAnyH_take (i := 9) (oi := { dst := some 29, op := Op.fieldAddr 26 (Operand.tmp 3) 1, type := 0, pos := "l05_catalog.go:187", after := #[{ on := 0, ground := Ground.phase }, { on := 1, ground := Ground.phase }, { on := 2, ground := Ground.phase }, { on := 3, ground := Ground.phase }, { on := 4, ground := Ground.phase }, { on := 5, ground := Ground.phase }, { on := 6, ground := Ground.phase }, { on := 7, ground := Ground.phase }, { on := 8, ground := Ground.phase }], guard := none }) (v := ?_) rfl (by kernel_rfl) (by kernel_rfl) (by kernel_rfl) (fun _ _ _ h => h) (Or.inl ⟨by rfl, ?_⟩) (by assumption) ?_
            rotate_left
            · (intro w hSw; (try dsimp only at hSw); go_simp) <;> with_reducible rfl
            try simp only [Act.put, List.setIfInBounds_toArray, List.set_cons_zero, List.set_cons_succ]
            exact N1_3_5_7_8.out bN sb sc w9 ⟨trivial, hA1, hG1, hR1, hV1, hO1, hM1, trivial⟩
          · rintro bN sb sc W ⟨hTr, hA0, hG0, hR0, hV0, hO0, hM0, _⟩
            refine wpAnyH_ready (rs := [10]) (by kernel_rfl) (by simp) ?_
            refine AllReadyH.cons (o := { dst := none, op := Op.store 24 (Operand.tmp 29) (Operand.tmp 28), type := 0, pos := "l05_catalog.go:187", after := #[{ on := 9, ground := Ground.data }, { on := 8, ground := Ground.data }, { on := 8, ground := Ground.chain }, { on := 0, ground := Ground.phase }, { on := 1, ground := Ground.phase }, { on := 2, ground := Ground.phase }, { on := 3, ground := Ground.phase }, { on := 4, ground := Ground.phase }, { on := 5, ground := Ground.phase }, { on := 6, ground := Ground.phase }, { on := 7, ground := Ground.phase }, { on := 8, ground := Ground.phase }], guard := none }) rfl (fun K hK => ?_) AllReadyH.nil
            have c6 := hV0.1.2 1 (by simp)
            have l6 := hV0.1.1
            have f6 := hV0.2 1 (by simp)
            simp only [List.getElem?_cons_zero, List.getElem?_cons_succ] at c6
            go_simp
            try go_wp2_with fail
            have hg := RowG.grown_set W bV 1 (.slice (some ⟨sb, 0, none⟩) (i + 1) sc)
            have hA9 := after_grown hA0 hg (by simp; omega)
            have hG9 := gnewG hG0 hg (by omega)
            have hR9 := blkW_grown hR0 hg (by simp; omega)
            have hV9 := hV0.set 1 (.slice (some ⟨sb, 0, none⟩) (i + 1) sc) (by simp)
            have hO9 := own_keepG hO0 hg (by omega)
            have hM9 := hM0.far hg (by omega)
            simp only [List.set_cons_zero, List.set_cons_succ] at hV9
            refine hK.out _ _ trivial (fun _ => ?_)
            clear hK K
            try simp only [Act.put, List.setIfInBounds_toArray, List.set_cons_zero, List.set_cons_succ]
            generalize (W.setCell ⟨bV, 1, none⟩ (.slice (some ⟨sb, 0, none⟩) (i + 1) sc)) = kk at *
            refine wpAnyH_done (by kernel_rfl) ?_ _
            have HA9 := hid_intro hA9
            have HG9 := hid_intro hG9
            have HR9 := hid_intro hR9
            have HV9 := hid_intro hV9
            have HO9 := hid_intro hO9
            have HM9 := hid_intro hM9
            clear hA9 hG9 hR9 hV9 hO9 hM9 hg c6 l6 f6
            go_wp2_with fail
            go_roundw
            case rel => exact ⟨i + 1, some ⟨sb, 0, none⟩, sc, by omega, by go_num, HA9, HG9, HR9, HV9, HO9, HM9⟩
            case measure => simp [intOf]; omega
        · have hlt4 : ¬ (i : Int) < (D : Int) := by omega
          obtain rfl : i = D := by omega
          obtain ⟨⟨vl, vk⟩, _⟩ := HV.out
          have v0 : wr.cell? ⟨bV, 0, none⟩ = some (.slice ma k mc) := vk 0 (by simp)
          have v1 : wr.cell? ⟨bV, 1, none⟩ = some (.slice ca i cc) := vk 1 (by simp)
          obtain ⟨⟨rl, rk⟩, rf⟩ := HR.out
          have p0 : wr.cell? ⟨w.heap.size, 0, none⟩ = some (.slice none 0 0) := rk 0 (by simp)
          have f0 : wr.frozen? ⟨w.heap.size, 0, none⟩ = false := rf 0 (by simp)
          have p1 : wr.cell? ⟨w.heap.size, 1, none⟩ = some (.slice none 0 0) := rk 1 (by simp)
          have f1 : wr.frozen? ⟨w.heap.size, 1, none⟩ = false := rf 1 (by simp)
          have hg := StR.stL_grown w.heap.size [.slice ma k mc, .slice ca i cc] 0 wr
          have HA9 := hid_intro (after_grown HA.out hg (by simp; omega))
          have HG9 := hid_intro (gnewG HG.out hg (Nat.le_refl _))
          have HO9 := hid_intro (own_keepG HO.out hg (by omega))
          have HM9 := hid_intro (HM.out.far hg (by omega))
          simp only [StR.stL, Nat.zero_add] at HA9 HG9 HO9 HM9
          clear vk rk rf hg HA HG HR HV HO HM
          go_wp2_with fail
          refine bodyPost_ret (v := .agg #[.slice ma k mc, .slice ca i cc]) (by simp [results, Tryd.results31, go_sem, p0, p1]) rfl ⟨_, _, _, _, rfl, HM9.out.low (by omega), own_low HO9.out (by omega), HA9.out, HG9.out⟩
end CatR
end Go.Proofs.YtaedolophhcjjaaDoor
namespace Go.Proofs.YtaedolophhcjjaaDoor
open Go.ChangeShapes Go.WideShapes Go.ChangeAt Go.RowKit
set_option linter.unusedVariables false
namespace CatR
open OwG
open RowG (MadeG Rws cellsAll hid_intro)
open EvtR (Pt After SAfter Reads gtrans)
open DocR (BlkW)
set_option maxRecDepth 100000 in
set_option maxHeartbeats 8000000 in
theorem icr_in (s : ByteArray) (C D : Nat) (ms : List Me) (cs : List Cr) (en r : Bool) (A1 : Nat → World → Prop) (w : World) (hL : Laid w) (hs8 : s.size ≤ 8000) (eM : C = ms.length) (eC : D = cs.length)
    (hA1 : ∀ g W W', A1 g W → W.grownBy W' none → A1 g W')
    (hrd : ∀ g W, After g s (some 0) W → Calls Tryd.prog 31 #[.pointer (some ⟨g, 0, none⟩)] W fun e w' => ∃ ma mc ca cc, e = .returned (.agg #[.slice ma C mc, .slice ca D cc]) ∧ MsO W.heap.size (.slice ma C mc) ms w' ∧ w'.ownsRow W.heap.size 53 2 (.slice ca D cc) D (cellsAll Cr.cells cs) ∧ A1 g w' ∧ W.grownBy w' (some g))
    (hen : ∀ g W, A1 g W → Calls Tryd.prog 32 #[.pointer (some ⟨g, 0, none⟩)] W fun e w' => e = .returned (.bool en) ∧ Below W.heap.size W w')
    (hwr : ∀ ma mc ca cc W, Laid W → Mes ma C ms W → Crs ca D cs W → Calls Tryd.prog 21 #[.agg #[.slice ma C mc, .slice ca D cc]] W fun e w' => e = .returned (.bool r) ∧ Below W.heap.size W w') :
    Calls Tryd.prog 7 #[.string s] w fun e w' => (((en && r) = false ∧ e = .returned (.agg #[.slice none 0 0, .slice none 0 0, .int .i64 3])) ∨ ((en && r) = true ∧ ∃ ma mc ca cc, e = .returned (.agg #[.slice ma C mc, .slice ca D cc, .int .i64 0]) ∧ MsO w.heap.size (.slice ma C mc) ms w' ∧ w'.ownsRow w.heap.size 53 2 (.slice ca D cc) D (cellsAll Cr.cells cs))) ∧ Below w.heap.size w w' := by
  have HL := hid_intro hL
  have HA1 := hid_intro hA1
  have HRD := hid_intro hrd
  have HEN := hid_intro hen
  have HWR := hid_intro hwr
  have HEM := hid_intro eM
  have HEC := hid_intro eC
  have h8 : ¬ (8000 : Int) < (s.size : Int) := by omega
  clear hL hA1 hrd hen hwr eM eC
  obtain ⟨W0, hW0⟩ : ∃ W0, W0 = (w.alloc (.cells #[.slice none 0 0, .slice none 0 0, .int .i64 0] 31)).alloc (.cells #[.string s, .int .i64 0, .nilIface] 61) := ⟨_, rfl⟩
  have HB0 : Hid (Below w.heap.size w W0) := hid_intro (by rw [hW0]; exact ((Below.refl _ _).alloc (Nat.le_refl _) _).alloc (by simp) _)
  have HP0 : Hid (Pt w.heap.size 3 W0) := hid_intro (by rw [hW0]; exact (StR.pt_new w [.slice none 0 0, .slice none 0 0, .int .i64 0] 31).below ((Below.refl _ _).alloc (Nat.le_refl _) _))
  have HAF : Hid (After (w.heap.size + 1) s (some 0) W0) := hid_intro (by rw [hW0]; exact ⟨by omega, by simp, by simp [go_sem], by simp [go_sem], by simp [go_sem], by simp [go_sem], by simp [go_sem], by simp [go_sem]⟩)
  have HS0 : Hid (W0.heap.size = w.heap.size + 2) := hid_intro (by rw [hW0]; simp)
  have HW := hid_intro hW0
  clear hW0
  go_enter Tryd.func7, Tryd.ntmps7
  go_wp2_with fail
  rw [← HW.out]
  clear HW
  refine (HRD.out _ _ HAF.out).mono ?_
  rintro e w1 ⟨ma, mc, ca, cc, rfl, hM1, hC1, hA1, hg1⟩
  have HB1 : Hid (Below w.heap.size w w1) := hid_intro (HB0.out.grown hg1 HB0.out.size (fun k e => by simp only [Option.some.injEq] at e; omega))
  have HP1 : Hid (Pt w.heap.size 3 w1) := hid_intro (StR.pt_far HP0.out hg1 (by omega))
  obtain ⟨w2, hw2⟩ : ∃ z, z = w1.alloc (.cells #[.slice ma C mc, .slice ca D cc] 26) := ⟨_, rfl⟩
  have al : Below w1.heap.size w1 w2 := by rw [hw2]; exact (Below.refl _ _).alloc (Nat.le_refl _) _
  have HV2 : Hid (Blk w1.heap.size [.slice ma C mc, .slice ca D cc] w2) := hid_intro (by rw [hw2]; exact Blk.new w1 [.slice ma C mc, .slice ca D cc] 26)
  have HB2 := hid_intro (HB1.out.trans (al.mono HB1.out.size))
  have HP2 := hid_intro (HP1.out.below al)
  have HM2 := hid_intro (hM1.below al)
  have HC2 := hid_intro (RowG.own_below hC1 al)
  have HA2 : Hid (A1 (w.heap.size + 1) w2) := hid_intro (HA1.out _ _ _ hA1 (EvtR.rgrown al none))
  have HLO : Hid (w.heap.size < W0.heap.size) := hid_intro (by have := HS0.out; omega)
  have HW2 := hid_intro hw2
  obtain ⟨bV, hbV⟩ : ∃ z, z = w1.heap.size := ⟨_, rfl⟩
  rw [← hbV] at HV2
  have HBV := hid_intro hbV
  clear hM1 hC1 hA1 hg1 al hw2 hbV HB0 HP0 HAF HB1 HP1 HRD
  go_wp2_with fail
  rw [← HW2.out, ← HBV.out]
  clear HW2 HBV
  refine (HEN.out _ _ HA2.out).mono ?_
  rintro e w3 ⟨rfl, hb3⟩
  have HB3 := hid_intro (HB2.out.trans (hb3.mono HB2.out.size))
  have HP3 := hid_intro (HP2.out.below hb3)
  have HM3 := hid_intro (HM2.out.below hb3)
  have HC3 := hid_intro (RowG.own_below HC2.out hb3)
  have HV3 := hid_intro (HV2.out.below hb3)
  clear hb3 HB2 HP2 HM2 HC2 HA2 HV2 HEN HA1
  cases en
  · have hp9 := HP3.out
    have hl9 := hp9.lt
    obtain ⟨ov0, r0⟩ := hp9.has 0 (by omega)
    have f0 := hp9.free 0 (by omega)
    obtain ⟨ov1, r1⟩ := hp9.has 1 (by omega)
    have f1 := hp9.free 1 (by omega)
    obtain ⟨ov2, r2⟩ := hp9.has 2 (by omega)
    have f2 := hp9.free 2 (by omega)
    have hgf := StR.stL_grown w.heap.size [.slice none 0 0, .slice none 0 0, .int .i64 3] 0 w3
    have HBF := hid_intro (HB3.out.grown hgf HB3.out.size (fun k e => by simp only [Option.some.injEq] at e; omega))
    simp only [StR.stL, Nat.zero_add, Nat.reduceAdd] at HBF
    clear hgf hp9
    go_wp2_with fail
    refine bodyPost_ret (v := .agg #[.slice none 0 0, .slice none 0 0, .int .i64 3]) (by simp [results, Tryd.results7, go_sem, r0, r1, r2]) rfl ⟨.inl ⟨rfl, rfl⟩, HBF.out⟩
  have v0 : w3.cell? ⟨bV, 0, none⟩ = some (.slice ma C mc) := HV3.out.2 0 (by simp)
  have v1 : w3.cell? ⟨bV, 1, none⟩ = some (.slice ca D cc) := HV3.out.2 1 (by simp)
  have vl := HV3.out.1
  have HMS : Hid (Mes ma C ms w3) := hid_intro (by
    obtain ⟨ao, cap, e, hm⟩ := HM3.out.mes
    rw [← HEM.out] at e hm
    cases e
    exact hm)
  go_wp2_with fail
  refine (HWR.out ma mc ca cc _ (HL.out.below HB3.out) HMS.out (own_crs HC3.out HEC.out)).mono ?_
  rintro e w4 ⟨rfl, hb4⟩
  have HB4 := hid_intro (HB3.out.trans (hb4.mono HB3.out.size))
  have HP4 := hid_intro (HP3.out.below hb4)
  have HM4 := hid_intro (HM3.out.below hb4)
  have HC4 := hid_intro (RowG.own_below HC3.out hb4)
  have HV4 := hid_intro (HV3.out.below hb4)
  clear hb4 HB3 HP3 HM3 HC3 HV3 HWR HMS v0 v1 vl
  cases r
  · have hp9 := HP4.out
    have hl9 := hp9.lt
    obtain ⟨ov0, r0⟩ := hp9.has 0 (by omega)
    have f0 := hp9.free 0 (by omega)
    obtain ⟨ov1, r1⟩ := hp9.has 1 (by omega)
    have f1 := hp9.free 1 (by omega)
    obtain ⟨ov2, r2⟩ := hp9.has 2 (by omega)
    have f2 := hp9.free 2 (by omega)
    have hgf := StR.stL_grown w.heap.size [.slice none 0 0, .slice none 0 0, .int .i64 3] 0 w4
    have HBF := hid_intro (HB4.out.grown hgf HB4.out.size (fun k e => by simp only [Option.some.injEq] at e; omega))
    simp only [StR.stL, Nat.zero_add, Nat.reduceAdd] at HBF
    clear hgf hp9
    go_wp2_with fail
    refine bodyPost_ret (v := .agg #[.slice none 0 0, .slice none 0 0, .int .i64 3]) (by simp [results, Tryd.results7, go_sem, r0, r1, r2]) rfl ⟨.inl ⟨rfl, rfl⟩, HBF.out⟩
  have v0 : w4.cell? ⟨bV, 0, none⟩ = some (.slice ma C mc) := HV4.out.2 0 (by simp)
  have v1 : w4.cell? ⟨bV, 1, none⟩ = some (.slice ca D cc) := HV4.out.2 1 (by simp)
  have vl := HV4.out.1
  have hp9 := HP4.out
  have hl9 := hp9.lt
  obtain ⟨ov0, r0⟩ := hp9.has 0 (by omega)
  have f0 := hp9.free 0 (by omega)
  obtain ⟨ov1, r1⟩ := hp9.has 1 (by omega)
  have f1 := hp9.free 1 (by omega)
  obtain ⟨ov2, r2⟩ := hp9.has 2 (by omega)
  have f2 := hp9.free 2 (by omega)
  have hgf := StR.stL_grown w.heap.size [.slice ma C mc, .slice ca D cc, .int .i64 0] 0 w4
  have HBF := hid_intro (HB4.out.grown hgf HB4.out.size (fun k e => by simp only [Option.some.injEq] at e; omega))
  have HMF := hid_intro (HM4.out.far hgf HLO.out)
  have HCF := hid_intro (own_keepG HC4.out hgf HLO.out)
  simp only [StR.stL, Nat.zero_add, Nat.reduceAdd] at HBF HMF HCF
  clear hgf hp9
  go_wp2_with fail
  refine bodyPost_ret (v := .agg #[.slice ma C mc, .slice ca D cc, .int .i64 0]) (by simp [results, Tryd.results7, go_sem, r0, r1, r2]) rfl ⟨.inr ⟨rfl, ma, mc, ca, cc, rfl, HMF.out.low (Nat.le_of_lt HLO.out), own_low HCF.out (Nat.le_of_lt HLO.out)⟩, HBF.out⟩
end CatR
end Go.Proofs.YtaedolophhcjjaaDoor
namespace Go.Proofs.YtaedolophhcjjaaDoor
open Go.ChangeShapes Go.WideShapes Go.ChangeAt Go.RowKit
set_option linter.unusedVariables false
namespace CatR
open OwG
open RowG (MadeG Rws cellsAll hid_intro)
open EvtR (Pt After SAfter Reads gtrans)
open DocR (BlkW)
/-- What one call of the model's reader leaves. -/
abbrev SRd (f g : Nat) (s : ByteArray) (o o' : Option Nat) (v : Value) : Prop := ∀ W, SAfter g s o W → Calls Tryd.prog f #[.pointer (some ⟨g, 0, none⟩)] W fun e w' => e = .returned v ∧ SAfter g s o' w' ∧ W.grownBy w' (some g)
abbrev SMn (M g : Nat) (s : ByteArray) (o o' : Option Nat) (n : Nat) : Prop := ∀ W, SAfter g s o W → Calls Tryd.prog 36 #[.pointer (some ⟨g, 0, none⟩), .int .i64 M] W fun e w' => e = .returned (.int .i64 (n : Nat)) ∧ SAfter g s o' w' ∧ W.grownBy w' (some g)
theorem exit_of {P : Nat → Option Nat} (hN : ∀ k, P k = none → P (k + 1) = none) {k C : Nat} (hk : k ≤ C) : (k < C ∧ P k ≠ none) ∨ (P k = P C ∧ (P C ≠ none → k = C)) := by
  by_cases q : k < C
  · by_cases q2 : P k = none
    · have := stay hN q2 (C - k)
      rw [show k + (C - k) = C by omega] at this
      exact .inr ⟨q2.trans this.symm, fun h => absurd this h⟩
    · exact .inl ⟨q, q2⟩
  · obtain rfl : k = C := by omega
    exact .inr ⟨rfl, fun _ => rfl⟩
theorem exit_two {P : Nat → Option Nat} {k C : Nat} (heq : P k = P C) (hall : P C ≠ none → k = C) (hk : k ≤ C) : (¬ (0 : Int) < (C : Int) - (k : Int)) ∨ ((0 : Int) < (C : Int) - (k : Int) ∧ decide (P k = none) = true) := by
  by_cases q : k < C
  · refine .inr ⟨by omega, decide_eq_true ?_⟩
    rcases h9 : P C with _ | p
    · rw [heq, h9]
    · have := hall (by rw [h9]; simp)
      omega
  · exact .inl (by omega)
/-- What the reading of a meter hands back. -/
def SmP (g : Nat) (s a : ByteArray) (ag : Int) (wh : Bool) (fr le : Int) (C : Nat) (PH : Nat → Option Nat) (LH : Nat → List Ti) (w : World) (e : Ending) (w' : World) : Prop := ∃ n ta tc, (PH C ≠ none → n = C) ∧ e = .returned (.agg #[.string a, .int .i64 ag, .bool wh, .int .i64 fr, .int .i64 le, .slice ta n tc]) ∧ w'.ownsRow w.heap.size 72 2 (.slice ta n tc) n (cellsAll Ti.cells (LH n)) ∧ SAfter g s (PH C) w' ∧ w.grownBy w' (some g)
set_option maxRecDepth 100000 in
set_option maxHeartbeats 16000000 in
theorem sme_in (g : Nat) (s : ByteArray) (o0 o1 o2 o3 o4 o5 : Option Nat) (a : ByteArray) (ag fn fr le : Int) (wh : Bool) (C : Nat) (PH : Nat → Option Nat) (LH : Nat → List Ti) (hh ss : Nat → Int) (w : World) (hA : SAfter g s o0 w)
    (r1 : SRd 38 g s o0 o1 (.string a)) (r2 : SRd 39 g s o1 o2 (.int .i64 ag)) (r3 : SRd 39 g s o2 o3 (.int .i64 fn)) (r4 : SRd 39 g s o3 o4 (.int .i64 fr)) (r5 : SRd 39 g s o4 o5 (.int .i64 le))
    (rc : SMn 5 g s o5 (PH 0) C) (rh : ∀ i, ∃ om, SRd 39 g s (PH i) om (.int .i64 (hh i)) ∧ SRd 39 g s om (PH (i + 1)) (.int .i64 (ss i)))
    (hNH : ∀ i, PH i = none → PH (i + 1) = none) (hwh : wh = decide (fn = 1)) (hC : C ≤ 5) (hH0 : LH 0 = []) (hHM : ∀ i, LH (i + 1) = LH i ++ [⟨hh i, ss i⟩]) :
    Calls Tryd.prog 37 #[.pointer (some ⟨g, 0, none⟩)] w fun e w' => SmP g s a ag wh fr le C PH LH w e w' := by
  obtain ⟨j0, gi, gz0, gz1, gz2⟩ := info_parts infoTi
  have R1 := hid_intro r1
  have R2 := hid_intro r2
  have R3 := hid_intro r3
  have R4 := hid_intro r4
  have R5 := hid_intro r5
  have RCC := hid_intro rc
  have RH := hid_intro rh
  have HNH := hid_intro hNH
  have HH0 := hid_intro hH0
  have HHM := hid_intro hHM
  have hgw : g < w.heap.size := hA.lt
  obtain ⟨W0, hW0⟩ : ∃ W0, W0 = w.alloc (.cells #[.string ⟨#[]⟩, .int .i64 0, .bool false, .int .i64 0, .int .i64 0, .slice none 0 0] 37) := ⟨_, rfl⟩
  have HA : Hid (SAfter g s o0 W0) := hid_intro (by rw [hW0]; exact satt hA ((Below.refl _ _).alloc (Nat.le_refl _) _))
  have HG : Hid (w.grownBy W0 (some g)) := hid_intro (by rw [hW0]; exact World.grownBy_alloc w _ _)
  have HR : Hid (BlkW w.heap.size [.string ⟨#[]⟩, .int .i64 0, .bool false, .int .i64 0, .int .i64 0, .slice none 0 0] W0) := hid_intro (by rw [hW0]; exact BlkW.new w [.string ⟨#[]⟩, .int .i64 0, .bool false, .int .i64 0, .int .i64 0, .slice none 0 0] 37)
  have HW := hid_intro hW0
  clear r1 r2 r3 r4 r5 rc rh hNH hH0 hHM hA hW0
  have hF : (fn = 1 ∧ wh = true) ∨ (¬ fn = 1 ∧ wh = false) := by
    by_cases h : fn = 1
    · exact .inl ⟨h, by rw [hwh]; exact decide_eq_true h⟩
    · exact .inr ⟨h, by rw [hwh]; exact decide_eq_false h⟩
  clear hwh
  rcases hF with ⟨rfl, rfl⟩ | ⟨hfn, rfl⟩
  · go_enter Tryd.func37, Tryd.ntmps37
    go_wp2_with fail
    rw [← HW.out]
    clear HW
    refine (R1.out _ HA.out).mono ?_
    rintro e q1 ⟨rfl, hA, hq⟩
    replace HA := hid_intro hA
    replace HG := hid_intro (gtrans HG.out hq)
    replace HR := hid_intro (blkW_grown HR.out hq (by simp; omega))
    clear hA hq
    obtain ⟨wA, hwA⟩ : ∃ z, z = q1.alloc (.cells #[.string a, .int .i64 0, .bool false, .int .i64 0, .int .i64 0, .slice none 0 0] 37) := ⟨_, rfl⟩
    have al : Below q1.heap.size q1 wA := by rw [hwA]; exact (Below.refl _ _).alloc (Nat.le_refl _) _
    have HV : Hid (BlkW q1.heap.size [.string a, .int .i64 0, .bool false, .int .i64 0, .int .i64 0, .slice none 0 0] wA) := hid_intro (by rw [hwA]; exact BlkW.new q1 [.string a, .int .i64 0, .bool false, .int .i64 0, .int .i64 0, .slice none 0 0] 37)
    have hlo : w.heap.size < q1.heap.size := HR.out.1.1
    replace HA := hid_intro (satt HA.out al)
    replace HG := hid_intro (gtrans HG.out (EvtR.rgrown al _))
    replace HR := hid_intro (HR.out.below al)
    have HW := hid_intro hwA
    obtain ⟨bV, hbV⟩ : ∃ z, z = q1.heap.size := ⟨_, rfl⟩
    rw [← hbV] at HV hlo
    have HBV := hid_intro hbV
    clear hwA hbV al
    go_wp2_with fail
    rw [← HW.out, ← HBV.out]
    clear HW HBV
    refine (R2.out _ HA.out).mono ?_
    rintro e q2 ⟨rfl, hA, hq⟩
    replace HA := hid_intro hA
    replace HG := hid_intro (gtrans HG.out hq)
    replace HV := hid_intro (blkW_grown HV.out hq (by simp; omega))
    replace HR := hid_intro (blkW_grown HR.out hq (by simp; omega))
    clear hA hq
    have hl := HV.out.1.1
    have hc := HV.out.1.2 1 (by simp)
    have hf := HV.out.2 1 (by simp)
    simp only [List.getElem?_cons_zero, List.getElem?_cons_succ] at hc
    have hgs := RowG.grown_set q2 bV 1 (.int .i64 ag)
    replace HV := hid_intro (HV.out.set 1 (.int .i64 ag) (by simp))
    replace HA := hid_intro (HA.out.grown hgs (by simp; omega))
    replace HG := hid_intro (gnewG HG.out hgs (by omega))
    replace HR := hid_intro (blkW_grown HR.out hgs (by simp; omega))
    simp only [List.set_cons_zero, List.set_cons_succ] at HV
    obtain ⟨wz0, hwz⟩ : ∃ z, z = q2.setCell ⟨bV, 1, none⟩ (.int .i64 ag) := ⟨_, rfl⟩
    rw [← hwz] at HA HG HV HR
    have HW := hid_intro hwz
    clear hwz hgs
    go_wp2_with fail
    rw [← HW.out]
    clear HW hl hc hf
    refine (R3.out _ HA.out).mono ?_
    rintro e q3 ⟨rfl, hA, hq⟩
    replace HA := hid_intro hA
    replace HG := hid_intro (gtrans HG.out hq)
    replace HV := hid_intro (blkW_grown HV.out hq (by simp; omega))
    replace HR := hid_intro (blkW_grown HR.out hq (by simp; omega))
    clear hA hq
    have hl := HV.out.1.1
    have hc := HV.out.1.2 2 (by simp)
    have hf := HV.out.2 2 (by simp)
    simp only [List.getElem?_cons_zero, List.getElem?_cons_succ] at hc
    have hgs := RowG.grown_set q3 bV 2 (.bool true)
    replace HV := hid_intro (HV.out.set 2 (.bool true) (by simp))
    replace HA := hid_intro (HA.out.grown hgs (by simp; omega))
    replace HG := hid_intro (gnewG HG.out hgs (by omega))
    replace HR := hid_intro (blkW_grown HR.out hgs (by simp; omega))
    simp only [List.set_cons_zero, List.set_cons_succ] at HV
    obtain ⟨wz1, hwz⟩ : ∃ z, z = q3.setCell ⟨bV, 2, none⟩ (.bool true) := ⟨_, rfl⟩
    rw [← hwz] at HA HG HV HR
    have HW := hid_intro hwz
    clear hwz hgs
    go_wp2_with fail
    rw [← HW.out]
    clear HW hl hc hf
    refine (R4.out _ HA.out).mono ?_
    rintro e q4 ⟨rfl, hA, hq⟩
    replace HA := hid_intro hA
    replace HG := hid_intro (gtrans HG.out hq)
    replace HV := hid_intro (blkW_grown HV.out hq (by simp; omega))
    replace HR := hid_intro (blkW_grown HR.out hq (by simp; omega))
    clear hA hq
    have hl := HV.out.1.1
    have hc := HV.out.1.2 3 (by simp)
    have hf := HV.out.2 3 (by simp)
    simp only [List.getElem?_cons_zero, List.getElem?_cons_succ] at hc
    have hgs := RowG.grown_set q4 bV 3 (.int .i64 fr)
    replace HV := hid_intro (HV.out.set 3 (.int .i64 fr) (by simp))
    replace HA := hid_intro (HA.out.grown hgs (by simp; omega))
    replace HG := hid_intro (gnewG HG.out hgs (by omega))
    replace HR := hid_intro (blkW_grown HR.out hgs (by simp; omega))
    simp only [List.set_cons_zero, List.set_cons_succ] at HV
    obtain ⟨wz2, hwz⟩ : ∃ z, z = q4.setCell ⟨bV, 3, none⟩ (.int .i64 fr) := ⟨_, rfl⟩
    rw [← hwz] at HA HG HV HR
    have HW := hid_intro hwz
    clear hwz hgs
    go_wp2_with fail
    rw [← HW.out]
    clear HW hl hc hf
    refine (R5.out _ HA.out).mono ?_
    rintro e q5 ⟨rfl, hA, hq⟩
    replace HA := hid_intro hA
    replace HG := hid_intro (gtrans HG.out hq)
    replace HV := hid_intro (blkW_grown HV.out hq (by simp; omega))
    replace HR := hid_intro (blkW_grown HR.out hq (by simp; omega))
    clear hA hq
    have hl := HV.out.1.1
    have hc := HV.out.1.2 4 (by simp)
    have hf := HV.out.2 4 (by simp)
    simp only [List.getElem?_cons_zero, List.getElem?_cons_succ] at hc
    have hgs := RowG.grown_set q5 bV 4 (.int .i64 le)
    replace HV := hid_intro (HV.out.set 4 (.int .i64 le) (by simp))
    replace HA := hid_intro (HA.out.grown hgs (by simp; omega))
    replace HG := hid_intro (gnewG HG.out hgs (by omega))
    replace HR := hid_intro (blkW_grown HR.out hgs (by simp; omega))
    simp only [List.set_cons_zero, List.set_cons_succ] at HV
    obtain ⟨wz3, hwz⟩ : ∃ z, z = q5.setCell ⟨bV, 4, none⟩ (.int .i64 le) := ⟨_, rfl⟩
    rw [← hwz] at HA HG HV HR
    have HW := hid_intro hwz
    clear hwz hgs
    go_wp2_with fail
    rw [← HW.out]
    clear HW hl hc hf
    refine (RCC.out _ HA.out).mono ?_
    rintro e wC ⟨rfl, hA, hq⟩
    replace HA := hid_intro hA
    replace HG := hid_intro (gtrans HG.out hq)
    replace HV := hid_intro (blkW_grown HV.out hq (by simp; omega))
    replace HR := hid_intro (blkW_grown HR.out hq (by simp; omega))
    clear hA hq
    go_wp2_with fail
    go_loopw [4] (fun z wx => ∃ (i : Nat) (ha : Option Addr) (hc : Nat), i ≤ C ∧ z = .int .i64 ((C : Int) - (i : Int)) ∧ Hid (SAfter g s (PH i) wx) ∧ Hid (w.grownBy wx (some g)) ∧ Hid (BlkW bV [.string a, .int .i64 ag, .bool true, .int .i64 fr, .int .i64 le, .slice ha i hc] wx) ∧ Hid (wx.ownsRow (bV + 1) 72 2 (.slice ha i hc) i (cellsAll Ti.cells (LH i))) ∧ Hid (BlkW w.heap.size [.string ⟨#[]⟩, .int .i64 0, .bool false, .int .i64 0, .int .i64 0, .slice none 0 0] wx)) (fun z _ => (intOf z).toNat)
    case atStart => exact ⟨0, none, 0, by omega, by simp, HA, HG, HV, hid_intro (by rw [HH0.out]; exact World.ownsRow_nil _ _ _ _), HR⟩
    case round =>
      clear HA HG HV HR
      obtain ⟨i, ha, hc, hki, rfl, HA, HG, HV, HO, HR⟩ := hrel
      obtain ⟨pp, hSR⟩ := HA.out.open
      obtain ⟨gl, g0, g1, g2, gf0, gf1, gf2⟩ := hSR
      rcases exit_of HNH.out hki with ⟨hlt3, hno3⟩ | ⟨heq3, hall3⟩
      · have hlt4 : (0 : Int) < (C : Int) - (i : Int) := by omega
        rw [decide_eq_false hno3] at g2
        obtain ⟨om, rd1, rd2⟩ := RH.out i
        have RD1 := hid_intro rd1
        have RD2 := hid_intro rd2
        clear rd1 rd2 hno3
        have HLN := hid_intro (HHM.out i)
        generalize hh i = X at *
        generalize ss i = Y at *
        go_wp2_with fail
        clear gl g0 g1 g2 gf0 gf1 gf2
        refine (RD1.out _ HA.out).mono ?_
        rintro e u1 ⟨rfl, hA, hq⟩
        replace HA := hid_intro hA
        replace HG := hid_intro (gtrans HG.out hq)
        replace HV := hid_intro (blkW_grown HV.out hq (by simp; omega))
        replace HO := hid_intro (own_keepG HO.out hq (by omega))
        replace HR := hid_intro (blkW_grown HR.out hq (by simp; omega))
        clear hA hq
        obtain ⟨u2, hu2⟩ : ∃ z, z = u1.alloc (.cells #[.int .i64 X, .int .i64 0] 72) := ⟨_, rfl⟩
        have al : Below u1.heap.size u1 u2 := by rw [hu2]; exact (Below.refl _ _).alloc (Nat.le_refl _) _
        have HQ : Hid (BlkW u1.heap.size [.int .i64 X, .int .i64 0] u2) := hid_intro (by rw [hu2]; exact BlkW.new u1 [.int .i64 X, .int .i64 0] 72)
        have hlq : bV < u1.heap.size := HV.out.1.1
        have HQO : Hid (∀ b, (.slice ha i hc : Value).ownBlock = some b → b < u1.heap.size) := hid_intro (fun b hb => (HO.out.lt b hb).2)
        have hlr : w.heap.size < bV := by omega
        replace HA := hid_intro (satt HA.out al)
        replace HG := hid_intro (gtrans HG.out (EvtR.rgrown al _))
        replace HV := hid_intro (HV.out.below al)
        replace HO := hid_intro (RowG.own_below HO.out al)
        replace HR := hid_intro (HR.out.below al)
        have HW := hid_intro hu2
        obtain ⟨bQ, hbQ⟩ : ∃ z, z = u1.heap.size := ⟨_, rfl⟩
        rw [← hbQ] at HQ hlq HQO
        have HBQ := hid_intro hbQ
        clear hu2 hbQ al
        go_wp2_with fail
        rw [← HW.out, ← HBQ.out]
        clear HW
        refine (RD2.out _ HA.out).mono ?_
        rintro e u3 ⟨rfl, hA, hq⟩
        replace HQ := hid_intro (blkW_grown HQ.out hq (by simp; omega))
        replace HA := hid_intro hA
        replace HG := hid_intro (gtrans HG.out hq)
        replace HV := hid_intro (blkW_grown HV.out hq (by simp; omega))
        replace HO := hid_intro (own_keepG HO.out hq (by omega))
        replace HR := hid_intro (blkW_grown HR.out hq (by simp; omega))
        clear hA hq
        have hl := HQ.out.1.1
        have vl := HV.out.1.1
        have v7 := HV.out.1.2 5 (by simp)
        have f7 := HV.out.2 5 (by simp)
        have hqv : bQ ≠ bV := by omega
        have hvq : bV ≠ bQ := by omega
        have hcc := HQ.out.1.2 1 (by simp)
        have hc0 := HQ.out.1.2 0 (by simp)
        have hff := HQ.out.2 1 (by simp)
        simp only [List.getElem?_cons_zero, List.getElem?_cons_succ] at hcc hc0 v7
        have hgs := RowG.grown_set u3 bQ 1 (.int .i64 Y)
        replace HA := hid_intro (HA.out.grown hgs (by simp; omega))
        replace HG := hid_intro (gnewG HG.out hgs (by omega))
        replace HV := hid_intro (blkW_grown HV.out hgs (by simp; omega))
        replace HO := hid_intro (own_keepO HO.out hgs (fun b hb => by have := HQO.out b hb; simp; omega))
        replace HR := hid_intro (blkW_grown HR.out hgs (by simp; omega))
        have hnw : ∀ j u, ([.int .i64 X, .int .i64 Y] : List Value)[j]? = some u → ((u3.setCell ⟨bQ, 1, none⟩ (.int .i64 Y)).alloc (.cells #[.int .i64 X, .int .i64 Y] 72)).cell? ((⟨u3.heap.size, 0, none⟩ : Addr).add j) = some u := by
          have h := new_cells (u3.setCell ⟨bQ, 1, none⟩ (.int .i64 Y)) [.int .i64 X, .int .i64 Y] 72
          simpa using h
        have HAL2 := hid_intro (fun b (hb : (.slice ha i hc : Value).ownBlock = some b) => (HO.out.lt b hb).1)
        have hbv : bV + 1 ≤ u3.heap.size := by omega
        clear hgs
        go_wp2_with (at_builtin; refine wpList_append_own _ rfl _ _ 35 rfl (bV + 1) 72 j0 (.agg #[.int .i64 0, .int .i64 0]) 2 16 Tryd.underlying35 gi gz0 gz1 gz2 rfl (by decide) _ _ _ rfl (HO.out.alloc _) ⟨u3.heap.size, 0, none⟩ 1 1 [.int .i64 X, .int .i64 Y] rfl rfl hnw (ti_one _ _) ?d3 ?d4 ?d5 ?_)
        case d3 => unfold maxLen; omega
        case d4 => omega
        case d5 => simp; omega
        intro v9 w9 hown hgrow hne
        have hO9 : w9.ownsRow (bV + 1) 72 2 v9 (i + 1) (cellsAll Ti.cells (LH (i + 1))) := by rw [HLN.out, cellsAll_snoc]; exact hown
        have al := ((Below.refl _ (u3.setCell ⟨bQ, 1, none⟩ (.int .i64 Y))).alloc (Nat.le_refl _) (.cells #[.int .i64 X, .int .i64 Y] 72))
        replace HR := hid_intro (blkW_grown (HR.out.below al) hgrow (fun e => by have := HAL2.out _ e.symm; omega))
        replace HA := hid_intro ((satt HA.out al).grown hgrow (fun e => by have := HAL2.out _ e.symm; omega))
        replace HG := hid_intro (gnewR (gtrans HG.out (EvtR.rgrown al _)) hgrow (fun X e => by have := HAL2.out _ e; omega))
        replace HV := hid_intro (blkW_grown (HV.out.below al) hgrow (fun e => by have := HAL2.out _ e.symm; omega))
        obtain ⟨sb, sc, rfl⟩ := own_form hO9
        have HO9 := hid_intro hO9
        clear hown hgrow hne hnw hO9 al hl hcc hc0 hff vl v7 f7 HO HQ HAL2 HBQ
        have vl := HV.out.1.1
        have v7 := HV.out.1.2 5 (by simp)
        have f7 := HV.out.2 5 (by simp)
        simp only [List.getElem?_cons_zero, List.getElem?_cons_succ] at v7
        have hgs := RowG.grown_set w9 bV 5 (.slice (some ⟨sb, 0, none⟩) (i + 1) sc)
        have HA9 := hid_intro (HA.out.grown hgs (by simp; omega))
        have HG9 := hid_intro (gnewG HG.out hgs (by omega))
        have HV9 := hid_intro (HV.out.set 5 (.slice (some ⟨sb, 0, none⟩) (i + 1) sc) (by simp))
        have HO8 := hid_intro (own_keepG HO9.out hgs (by omega))
        have HR9 := hid_intro (blkW_grown HR.out hgs (by simp; omega))
        simp only [List.set_cons_zero, List.set_cons_succ] at HV9
        clear hgs HA HG HV HO9 HR
        go_wp2_with fail
        go_roundw
        case rel => exact ⟨i + 1, some ⟨sb, 0, none⟩, sc, by omega, by go_num, HA9, HG9, HV9, HO8, HR9⟩
        case measure => simp [intOf]; omega
      · rcases exit_two heq3 hall3 hki with hex3 | ⟨hex3, hd3⟩
        · have HNC : Hid (PH C ≠ none → i = C) := hid_intro hall3
          replace HA : Hid (SAfter g s (PH C) wr) := hid_intro (by rw [← heq3]; exact HA.out)
          clear heq3 hall3
          obtain ⟨⟨vl, vk⟩, _⟩ := HV.out
          have v0 : wr.cell? ⟨bV, 0, none⟩ = some (.string a) := vk 0 (by simp)
          have v1 : wr.cell? ⟨bV, 1, none⟩ = some (.int .i64 ag) := vk 1 (by simp)
          have v2 : wr.cell? ⟨bV, 2, none⟩ = some (.bool true) := vk 2 (by simp)
          have v3 : wr.cell? ⟨bV, 3, none⟩ = some (.int .i64 fr) := vk 3 (by simp)
          have v4 : wr.cell? ⟨bV, 4, none⟩ = some (.int .i64 le) := vk 4 (by simp)
          have v5 : wr.cell? ⟨bV, 5, none⟩ = some (.slice ha i hc) := vk 5 (by simp)
          obtain ⟨⟨rl, rk⟩, rf⟩ := HR.out
          have p0 : wr.cell? ⟨w.heap.size, 0, none⟩ = some (.string ⟨#[]⟩) := rk 0 (by simp)
          have f0 : wr.frozen? ⟨w.heap.size, 0, none⟩ = false := rf 0 (by simp)
          have p1 : wr.cell? ⟨w.heap.size, 1, none⟩ = some (.int .i64 0) := rk 1 (by simp)
          have f1 : wr.frozen? ⟨w.heap.size, 1, none⟩ = false := rf 1 (by simp)
          have p2 : wr.cell? ⟨w.heap.size, 2, none⟩ = some (.bool false) := rk 2 (by simp)
          have f2 : wr.frozen? ⟨w.heap.size, 2, none⟩ = false := rf 2 (by simp)
          have p3 : wr.cell? ⟨w.heap.size, 3, none⟩ = some (.int .i64 0) := rk 3 (by simp)
          have f3 : wr.frozen? ⟨w.heap.size, 3, none⟩ = false := rf 3 (by simp)
          have p4 : wr.cell? ⟨w.heap.size, 4, none⟩ = some (.int .i64 0) := rk 4 (by simp)
          have f4 : wr.frozen? ⟨w.heap.size, 4, none⟩ = false := rf 4 (by simp)
          have p5 : wr.cell? ⟨w.heap.size, 5, none⟩ = some (.slice none 0 0) := rk 5 (by simp)
          have f5 : wr.frozen? ⟨w.heap.size, 5, none⟩ = false := rf 5 (by simp)
          have hg := StR.stL_grown w.heap.size [.string a, .int .i64 ag, .bool true, .int .i64 fr, .int .i64 le, .slice ha i hc] 0 wr
          have HA9 := hid_intro (HA.out.grown hg (by simp; omega))
          have HG9 := hid_intro (gnewG HG.out hg (Nat.le_refl _))
          have HO9 := hid_intro (own_keepG HO.out hg (by omega))
          simp only [StR.stL, Nat.zero_add, Nat.reduceAdd] at HA9 HG9 HO9
          clear vk rk rf hg HA HG HR HV HO
          go_wp2_with fail
          refine bodyPost_ret (v := .agg #[.string a, .int .i64 ag, .bool true, .int .i64 fr, .int .i64 le, .slice ha i hc]) (by simp [results, Tryd.results37, go_sem, p0, p1, p2, p3, p4, p5]) rfl (show SmP g s a ag _ fr le C PH LH w _ _ from ⟨_, _, _, HNC.out, rfl, own_low HO9.out (by omega), HA9.out, HG9.out⟩)
        · rw [hd3] at g2
          have HNC : Hid (PH C ≠ none → i = C) := hid_intro hall3
          replace HA : Hid (SAfter g s (PH C) wr) := hid_intro (by rw [← heq3]; exact HA.out)
          clear heq3 hall3 hd3
          obtain ⟨⟨vl, vk⟩, _⟩ := HV.out
          have v0 : wr.cell? ⟨bV, 0, none⟩ = some (.string a) := vk 0 (by simp)
          have v1 : wr.cell? ⟨bV, 1, none⟩ = some (.int .i64 ag) := vk 1 (by simp)
          have v2 : wr.cell? ⟨bV, 2, none⟩ = some (.bool true) := vk 2 (by simp)
          have v3 : wr.cell? ⟨bV, 3, none⟩ = some (.int .i64 fr) := vk 3 (by simp)
          have v4 : wr.cell? ⟨bV, 4, none⟩ = some (.int .i64 le) := vk 4 (by simp)
          have v5 : wr.cell? ⟨bV, 5, none⟩ = some (.slice ha i hc) := vk 5 (by simp)
          obtain ⟨⟨rl, rk⟩, rf⟩ := HR.out
          have p0 : wr.cell? ⟨w.heap.size, 0, none⟩ = some (.string ⟨#[]⟩) := rk 0 (by simp)
          have f0 : wr.frozen? ⟨w.heap.size, 0, none⟩ = false := rf 0 (by simp)
          have p1 : wr.cell? ⟨w.heap.size, 1, none⟩ = some (.int .i64 0) := rk 1 (by simp)
          have f1 : wr.frozen? ⟨w.heap.size, 1, none⟩ = false := rf 1 (by simp)
          have p2 : wr.cell? ⟨w.heap.size, 2, none⟩ = some (.bool false) := rk 2 (by simp)
          have f2 : wr.frozen? ⟨w.heap.size, 2, none⟩ = false := rf 2 (by simp)
          have p3 : wr.cell? ⟨w.heap.size, 3, none⟩ = some (.int .i64 0) := rk 3 (by simp)
          have f3 : wr.frozen? ⟨w.heap.size, 3, none⟩ = false := rf 3 (by simp)
          have p4 : wr.cell? ⟨w.heap.size, 4, none⟩ = some (.int .i64 0) := rk 4 (by simp)
          have f4 : wr.frozen? ⟨w.heap.size, 4, none⟩ = false := rf 4 (by simp)
          have p5 : wr.cell? ⟨w.heap.size, 5, none⟩ = some (.slice none 0 0) := rk 5 (by simp)
          have f5 : wr.frozen? ⟨w.heap.size, 5, none⟩ = false := rf 5 (by simp)
          have hg := StR.stL_grown w.heap.size [.string a, .int .i64 ag, .bool true, .int .i64 fr, .int .i64 le, .slice ha i hc] 0 wr
          have HA9 := hid_intro (HA.out.grown hg (by simp; omega))
          have HG9 := hid_intro (gnewG HG.out hg (Nat.le_refl _))
          have HO9 := hid_intro (own_keepG HO.out hg (by omega))
          simp only [StR.stL, Nat.zero_add, Nat.reduceAdd] at HA9 HG9 HO9
          clear vk rk rf hg HA HG HR HV HO
          go_wp2_with fail
          refine bodyPost_ret (v := .agg #[.string a, .int .i64 ag, .bool true, .int .i64 fr, .int .i64 le, .slice ha i hc]) (by simp [results, Tryd.results37, go_sem, p0, p1, p2, p3, p4, p5]) rfl (show SmP g s a ag _ fr le C PH LH w _ _ from ⟨_, _, _, HNC.out, rfl, own_low HO9.out (by omega), HA9.out, HG9.out⟩)
  · have hfn2 : (fn == 1) = false := by simp [hfn]
    go_enter Tryd.func37, Tryd.ntmps37
    go_wp2_with fail
    rw [← HW.out]
    clear HW
    refine (R1.out _ HA.out).mono ?_
    rintro e q1 ⟨rfl, hA, hq⟩
    replace HA := hid_intro hA
    replace HG := hid_intro (gtrans HG.out hq)
    replace HR := hid_intro (blkW_grown HR.out hq (by simp; omega))
    clear hA hq
    obtain ⟨wA, hwA⟩ : ∃ z, z = q1.alloc (.cells #[.string a, .int .i64 0, .bool false, .int .i64 0, .int .i64 0, .slice none 0 0] 37) := ⟨_, rfl⟩
    have al : Below q1.heap.size q1 wA := by rw [hwA]; exact (Below.refl _ _).alloc (Nat.le_refl _) _
    have HV : Hid (BlkW q1.heap.size [.string a, .int .i64 0, .bool false, .int .i64 0, .int .i64 0, .slice none 0 0] wA) := hid_intro (by rw [hwA]; exact BlkW.new q1 [.string a, .int .i64 0, .bool false, .int .i64 0, .int .i64 0, .slice none 0 0] 37)
    have hlo : w.heap.size < q1.heap.size := HR.out.1.1
    replace HA := hid_intro (satt HA.out al)
    replace HG := hid_intro (gtrans HG.out (EvtR.rgrown al _))
    replace HR := hid_intro (HR.out.below al)
    have HW := hid_intro hwA
    obtain ⟨bV, hbV⟩ : ∃ z, z = q1.heap.size := ⟨_, rfl⟩
    rw [← hbV] at HV hlo
    have HBV := hid_intro hbV
    clear hwA hbV al
    go_wp2_with fail
    rw [← HW.out, ← HBV.out]
    clear HW HBV
    refine (R2.out _ HA.out).mono ?_
    rintro e q2 ⟨rfl, hA, hq⟩
    replace HA := hid_intro hA
    replace HG := hid_intro (gtrans HG.out hq)
    replace HV := hid_intro (blkW_grown HV.out hq (by simp; omega))
    replace HR := hid_intro (blkW_grown HR.out hq (by simp; omega))
    clear hA hq
    have hl := HV.out.1.1
    have hc := HV.out.1.2 1 (by simp)
    have hf := HV.out.2 1 (by simp)
    simp only [List.getElem?_cons_zero, List.getElem?_cons_succ] at hc
    have hgs := RowG.grown_set q2 bV 1 (.int .i64 ag)
    replace HV := hid_intro (HV.out.set 1 (.int .i64 ag) (by simp))
    replace HA := hid_intro (HA.out.grown hgs (by simp; omega))
    replace HG := hid_intro (gnewG HG.out hgs (by omega))
    replace HR := hid_intro (blkW_grown HR.out hgs (by simp; omega))
    simp only [List.set_cons_zero, List.set_cons_succ] at HV
    obtain ⟨wz0, hwz⟩ : ∃ z, z = q2.setCell ⟨bV, 1, none⟩ (.int .i64 ag) := ⟨_, rfl⟩
    rw [← hwz] at HA HG HV HR
    have HW := hid_intro hwz
    clear hwz hgs
    go_wp2_with fail
    rw [← HW.out]
    clear HW hl hc hf
    refine (R3.out _ HA.out).mono ?_
    rintro e q3 ⟨rfl, hA, hq⟩
    replace HA := hid_intro hA
    replace HG := hid_intro (gtrans HG.out hq)
    replace HV := hid_intro (blkW_grown HV.out hq (by simp; omega))
    replace HR := hid_intro (blkW_grown HR.out hq (by simp; omega))
    clear hA hq
    have hl := HV.out.1.1
    have hc := HV.out.1.2 2 (by simp)
    have hf := HV.out.2 2 (by simp)
    simp only [List.getElem?_cons_zero, List.getElem?_cons_succ] at hc
    have hgs := RowG.grown_set q3 bV 2 (.bool false)
    replace HV := hid_intro (HV.out.set 2 (.bool false) (by simp))
    replace HA := hid_intro (HA.out.grown hgs (by simp; omega))
    replace HG := hid_intro (gnewG HG.out hgs (by omega))
    replace HR := hid_intro (blkW_grown HR.out hgs (by simp; omega))
    simp only [List.set_cons_zero, List.set_cons_succ] at HV
    obtain ⟨wz1, hwz⟩ : ∃ z, z = q3.setCell ⟨bV, 2, none⟩ (.bool false) := ⟨_, rfl⟩
    rw [← hwz] at HA HG HV HR
    have HW := hid_intro hwz
    clear hwz hgs
    go_wp2_with fail
    rw [← HW.out]
    clear HW hl hc hf
    refine (R4.out _ HA.out).mono ?_
    rintro e q4 ⟨rfl, hA, hq⟩
    replace HA := hid_intro hA
    replace HG := hid_intro (gtrans HG.out hq)
    replace HV := hid_intro (blkW_grown HV.out hq (by simp; omega))
    replace HR := hid_intro (blkW_grown HR.out hq (by simp; omega))
    clear hA hq
    have hl := HV.out.1.1
    have hc := HV.out.1.2 3 (by simp)
    have hf := HV.out.2 3 (by simp)
    simp only [List.getElem?_cons_zero, List.getElem?_cons_succ] at hc
    have hgs := RowG.grown_set q4 bV 3 (.int .i64 fr)
    replace HV := hid_intro (HV.out.set 3 (.int .i64 fr) (by simp))
    replace HA := hid_intro (HA.out.grown hgs (by simp; omega))
    replace HG := hid_intro (gnewG HG.out hgs (by omega))
    replace HR := hid_intro (blkW_grown HR.out hgs (by simp; omega))
    simp only [List.set_cons_zero, List.set_cons_succ] at HV
    obtain ⟨wz2, hwz⟩ : ∃ z, z = q4.setCell ⟨bV, 3, none⟩ (.int .i64 fr) := ⟨_, rfl⟩
    rw [← hwz] at HA HG HV HR
    have HW := hid_intro hwz
    clear hwz hgs
    go_wp2_with fail
    rw [← HW.out]
    clear HW hl hc hf
    refine (R5.out _ HA.out).mono ?_
    rintro e q5 ⟨rfl, hA, hq⟩
    replace HA := hid_intro hA
    replace HG := hid_intro (gtrans HG.out hq)
    replace HV := hid_intro (blkW_grown HV.out hq (by simp; omega))
    replace HR := hid_intro (blkW_grown HR.out hq (by simp; omega))
    clear hA hq
    have hl := HV.out.1.1
    have hc := HV.out.1.2 4 (by simp)
    have hf := HV.out.2 4 (by simp)
    simp only [List.getElem?_cons_zero, List.getElem?_cons_succ] at hc
    have hgs := RowG.grown_set q5 bV 4 (.int .i64 le)
    replace HV := hid_intro (HV.out.set 4 (.int .i64 le) (by simp))
    replace HA := hid_intro (HA.out.grown hgs (by simp; omega))
    replace HG := hid_intro (gnewG HG.out hgs (by omega))
    replace HR := hid_intro (blkW_grown HR.out hgs (by simp; omega))
    simp only [List.set_cons_zero, List.set_cons_succ] at HV
    obtain ⟨wz3, hwz⟩ : ∃ z, z = q5.setCell ⟨bV, 4, none⟩ (.int .i64 le) := ⟨_, rfl⟩
    rw [← hwz] at HA HG HV HR
    have HW := hid_intro hwz
    clear hwz hgs
    go_wp2_with fail
    rw [← HW.out]
    clear HW hl hc hf
    refine (RCC.out _ HA.out).mono ?_
    rintro e wC ⟨rfl, hA, hq⟩
    replace HA := hid_intro hA
    replace HG := hid_intro (gtrans HG.out hq)
    replace HV := hid_intro (blkW_grown HV.out hq (by simp; omega))
    replace HR := hid_intro (blkW_grown HR.out hq (by simp; omega))
    clear hA hq
    go_wp2_with fail
    go_loopw [4] (fun z wx => ∃ (i : Nat) (ha : Option Addr) (hc : Nat), i ≤ C ∧ z = .int .i64 ((C : Int) - (i : Int)) ∧ Hid (SAfter g s (PH i) wx) ∧ Hid (w.grownBy wx (some g)) ∧ Hid (BlkW bV [.string a, .int .i64 ag, .bool false, .int .i64 fr, .int .i64 le, .slice ha i hc] wx) ∧ Hid (wx.ownsRow (bV + 1) 72 2 (.slice ha i hc) i (cellsAll Ti.cells (LH i))) ∧ Hid (BlkW w.heap.size [.string ⟨#[]⟩, .int .i64 0, .bool false, .int .i64 0, .int .i64 0, .slice none 0 0] wx)) (fun z _ => (intOf z).toNat)
    case atStart => exact ⟨0, none, 0, by omega, by simp, HA, HG, HV, hid_intro (by rw [HH0.out]; exact World.ownsRow_nil _ _ _ _), HR⟩
    case round =>
      clear HA HG HV HR
      obtain ⟨i, ha, hc, hki, rfl, HA, HG, HV, HO, HR⟩ := hrel
      obtain ⟨pp, hSR⟩ := HA.out.open
      obtain ⟨gl, g0, g1, g2, gf0, gf1, gf2⟩ := hSR
      rcases exit_of HNH.out hki with ⟨hlt3, hno3⟩ | ⟨heq3, hall3⟩
      · have hlt4 : (0 : Int) < (C : Int) - (i : Int) := by omega
        rw [decide_eq_false hno3] at g2
        obtain ⟨om, rd1, rd2⟩ := RH.out i
        have RD1 := hid_intro rd1
        have RD2 := hid_intro rd2
        clear rd1 rd2 hno3
        have HLN := hid_intro (HHM.out i)
        generalize hh i = X at *
        generalize ss i = Y at *
        go_wp2_with fail
        clear gl g0 g1 g2 gf0 gf1 gf2
        refine (RD1.out _ HA.out).mono ?_
        rintro e u1 ⟨rfl, hA, hq⟩
        replace HA := hid_intro hA
        replace HG := hid_intro (gtrans HG.out hq)
        replace HV := hid_intro (blkW_grown HV.out hq (by simp; omega))
        replace HO := hid_intro (own_keepG HO.out hq (by omega))
        replace HR := hid_intro (blkW_grown HR.out hq (by simp; omega))
        clear hA hq
        obtain ⟨u2, hu2⟩ : ∃ z, z = u1.alloc (.cells #[.int .i64 X, .int .i64 0] 72) := ⟨_, rfl⟩
        have al : Below u1.heap.size u1 u2 := by rw [hu2]; exact (Below.refl _ _).alloc (Nat.le_refl _) _
        have HQ : Hid (BlkW u1.heap.size [.int .i64 X, .int .i64 0] u2) := hid_intro (by rw [hu2]; exact BlkW.new u1 [.int .i64 X, .int .i64 0] 72)
        have hlq : bV < u1.heap.size := HV.out.1.1
        have HQO : Hid (∀ b, (.slice ha i hc : Value).ownBlock = some b → b < u1.heap.size) := hid_intro (fun b hb => (HO.out.lt b hb).2)
        have hlr : w.heap.size < bV := by omega
        replace HA := hid_intro (satt HA.out al)
        replace HG := hid_intro (gtrans HG.out (EvtR.rgrown al _))
        replace HV := hid_intro (HV.out.below al)
        replace HO := hid_intro (RowG.own_below HO.out al)
        replace HR := hid_intro (HR.out.below al)
        have HW := hid_intro hu2
        obtain ⟨bQ, hbQ⟩ : ∃ z, z = u1.heap.size := ⟨_, rfl⟩
        rw [← hbQ] at HQ hlq HQO
        have HBQ := hid_intro hbQ
        clear hu2 hbQ al
        go_wp2_with fail
        rw [← HW.out, ← HBQ.out]
        clear HW
        refine (RD2.out _ HA.out).mono ?_
        rintro e u3 ⟨rfl, hA, hq⟩
        replace HQ := hid_intro (blkW_grown HQ.out hq (by simp; omega))
        replace HA := hid_intro hA
        replace HG := hid_intro (gtrans HG.out hq)
        replace HV := hid_intro (blkW_grown HV.out hq (by simp; omega))
        replace HO := hid_intro (own_keepG HO.out hq (by omega))
        replace HR := hid_intro (blkW_grown HR.out hq (by simp; omega))
        clear hA hq
        have hl := HQ.out.1.1
        have vl := HV.out.1.1
        have v7 := HV.out.1.2 5 (by simp)
        have f7 := HV.out.2 5 (by simp)
        have hqv : bQ ≠ bV := by omega
        have hvq : bV ≠ bQ := by omega
        have hcc := HQ.out.1.2 1 (by simp)
        have hc0 := HQ.out.1.2 0 (by simp)
        have hff := HQ.out.2 1 (by simp)
        simp only [List.getElem?_cons_zero, List.getElem?_cons_succ] at hcc hc0 v7
        have hgs := RowG.grown_set u3 bQ 1 (.int .i64 Y)
        replace HA := hid_intro (HA.out.grown hgs (by simp; omega))
        replace HG := hid_intro (gnewG HG.out hgs (by omega))
        replace HV := hid_intro (blkW_grown HV.out hgs (by simp; omega))
        replace HO := hid_intro (own_keepO HO.out hgs (fun b hb => by have := HQO.out b hb; simp; omega))
        replace HR := hid_intro (blkW_grown HR.out hgs (by simp; omega))
        have hnw : ∀ j u, ([.int .i64 X, .int .i64 Y] : List Value)[j]? = some u → ((u3.setCell ⟨bQ, 1, none⟩ (.int .i64 Y)).alloc (.cells #[.int .i64 X, .int .i64 Y] 72)).cell? ((⟨u3.heap.size, 0, none⟩ : Addr).add j) = some u := by
          have h := new_cells (u3.setCell ⟨bQ, 1, none⟩ (.int .i64 Y)) [.int .i64 X, .int .i64 Y] 72
          simpa using h
        have HAL2 := hid_intro (fun b (hb : (.slice ha i hc : Value).ownBlock = some b) => (HO.out.lt b hb).1)
        have hbv : bV + 1 ≤ u3.heap.size := by omega
        clear hgs
        go_wp2_with (at_builtin; refine wpList_append_own _ rfl _ _ 35 rfl (bV + 1) 72 j0 (.agg #[.int .i64 0, .int .i64 0]) 2 16 Tryd.underlying35 gi gz0 gz1 gz2 rfl (by decide) _ _ _ rfl (HO.out.alloc _) ⟨u3.heap.size, 0, none⟩ 1 1 [.int .i64 X, .int .i64 Y] rfl rfl hnw (ti_one _ _) ?d3 ?d4 ?d5 ?_)
        case d3 => unfold maxLen; omega
        case d4 => omega
        case d5 => simp; omega
        intro v9 w9 hown hgrow hne
        have hO9 : w9.ownsRow (bV + 1) 72 2 v9 (i + 1) (cellsAll Ti.cells (LH (i + 1))) := by rw [HLN.out, cellsAll_snoc]; exact hown
        have al := ((Below.refl _ (u3.setCell ⟨bQ, 1, none⟩ (.int .i64 Y))).alloc (Nat.le_refl _) (.cells #[.int .i64 X, .int .i64 Y] 72))
        replace HR := hid_intro (blkW_grown (HR.out.below al) hgrow (fun e => by have := HAL2.out _ e.symm; omega))
        replace HA := hid_intro ((satt HA.out al).grown hgrow (fun e => by have := HAL2.out _ e.symm; omega))
        replace HG := hid_intro (gnewR (gtrans HG.out (EvtR.rgrown al _)) hgrow (fun X e => by have := HAL2.out _ e; omega))
        replace HV := hid_intro (blkW_grown (HV.out.below al) hgrow (fun e => by have := HAL2.out _ e.symm; omega))
        obtain ⟨sb, sc, rfl⟩ := own_form hO9
        have HO9 := hid_intro hO9
        clear hown hgrow hne hnw hO9 al hl hcc hc0 hff vl v7 f7 HO HQ HAL2 HBQ
        have vl := HV.out.1.1
        have v7 := HV.out.1.2 5 (by simp)
        have f7 := HV.out.2 5 (by simp)
        simp only [List.getElem?_cons_zero, List.getElem?_cons_succ] at v7
        have hgs := RowG.grown_set w9 bV 5 (.slice (some ⟨sb, 0, none⟩) (i + 1) sc)
        have HA9 := hid_intro (HA.out.grown hgs (by simp; omega))
        have HG9 := hid_intro (gnewG HG.out hgs (by omega))
        have HV9 := hid_intro (HV.out.set 5 (.slice (some ⟨sb, 0, none⟩) (i + 1) sc) (by simp))
        have HO8 := hid_intro (own_keepG HO9.out hgs (by omega))
        have HR9 := hid_intro (blkW_grown HR.out hgs (by simp; omega))
        simp only [List.set_cons_zero, List.set_cons_succ] at HV9
        clear hgs HA HG HV HO9 HR
        go_wp2_with fail
        go_roundw
        case rel => exact ⟨i + 1, some ⟨sb, 0, none⟩, sc, by omega, by go_num, HA9, HG9, HV9, HO8, HR9⟩
        case measure => simp [intOf]; omega
      · rcases exit_two heq3 hall3 hki with hex3 | ⟨hex3, hd3⟩
        · have HNC : Hid (PH C ≠ none → i = C) := hid_intro hall3
          replace HA : Hid (SAfter g s (PH C) wr) := hid_intro (by rw [← heq3]; exact HA.out)
          clear heq3 hall3
          obtain ⟨⟨vl, vk⟩, _⟩ := HV.out
          have v0 : wr.cell? ⟨bV, 0, none⟩ = some (.string a) := vk 0 (by simp)
          have v1 : wr.cell? ⟨bV, 1, none⟩ = some (.int .i64 ag) := vk 1 (by simp)
          have v2 : wr.cell? ⟨bV, 2, none⟩ = some (.bool false) := vk 2 (by simp)
          have v3 : wr.cell? ⟨bV, 3, none⟩ = some (.int .i64 fr) := vk 3 (by simp)
          have v4 : wr.cell? ⟨bV, 4, none⟩ = some (.int .i64 le) := vk 4 (by simp)
          have v5 : wr.cell? ⟨bV, 5, none⟩ = some (.slice ha i hc) := vk 5 (by simp)
          obtain ⟨⟨rl, rk⟩, rf⟩ := HR.out
          have p0 : wr.cell? ⟨w.heap.size, 0, none⟩ = some (.string ⟨#[]⟩) := rk 0 (by simp)
          have f0 : wr.frozen? ⟨w.heap.size, 0, none⟩ = false := rf 0 (by simp)
          have p1 : wr.cell? ⟨w.heap.size, 1, none⟩ = some (.int .i64 0) := rk 1 (by simp)
          have f1 : wr.frozen? ⟨w.heap.size, 1, none⟩ = false := rf 1 (by simp)
          have p2 : wr.cell? ⟨w.heap.size, 2, none⟩ = some (.bool false) := rk 2 (by simp)
          have f2 : wr.frozen? ⟨w.heap.size, 2, none⟩ = false := rf 2 (by simp)
          have p3 : wr.cell? ⟨w.heap.size, 3, none⟩ = some (.int .i64 0) := rk 3 (by simp)
          have f3 : wr.frozen? ⟨w.heap.size, 3, none⟩ = false := rf 3 (by simp)
          have p4 : wr.cell? ⟨w.heap.size, 4, none⟩ = some (.int .i64 0) := rk 4 (by simp)
          have f4 : wr.frozen? ⟨w.heap.size, 4, none⟩ = false := rf 4 (by simp)
          have p5 : wr.cell? ⟨w.heap.size, 5, none⟩ = some (.slice none 0 0) := rk 5 (by simp)
          have f5 : wr.frozen? ⟨w.heap.size, 5, none⟩ = false := rf 5 (by simp)
          have hg := StR.stL_grown w.heap.size [.string a, .int .i64 ag, .bool false, .int .i64 fr, .int .i64 le, .slice ha i hc] 0 wr
          have HA9 := hid_intro (HA.out.grown hg (by simp; omega))
          have HG9 := hid_intro (gnewG HG.out hg (Nat.le_refl _))
          have HO9 := hid_intro (own_keepG HO.out hg (by omega))
          simp only [StR.stL, Nat.zero_add, Nat.reduceAdd] at HA9 HG9 HO9
          clear vk rk rf hg HA HG HR HV HO
          go_wp2_with fail
          refine bodyPost_ret (v := .agg #[.string a, .int .i64 ag, .bool false, .int .i64 fr, .int .i64 le, .slice ha i hc]) (by simp [results, Tryd.results37, go_sem, p0, p1, p2, p3, p4, p5]) rfl (show SmP g s a ag _ fr le C PH LH w _ _ from ⟨_, _, _, HNC.out, rfl, own_low HO9.out (by omega), HA9.out, HG9.out⟩)
        · rw [hd3] at g2
          have HNC : Hid (PH C ≠ none → i = C) := hid_intro hall3
          replace HA : Hid (SAfter g s (PH C) wr) := hid_intro (by rw [← heq3]; exact HA.out)
          clear heq3 hall3 hd3
          obtain ⟨⟨vl, vk⟩, _⟩ := HV.out
          have v0 : wr.cell? ⟨bV, 0, none⟩ = some (.string a) := vk 0 (by simp)
          have v1 : wr.cell? ⟨bV, 1, none⟩ = some (.int .i64 ag) := vk 1 (by simp)
          have v2 : wr.cell? ⟨bV, 2, none⟩ = some (.bool false) := vk 2 (by simp)
          have v3 : wr.cell? ⟨bV, 3, none⟩ = some (.int .i64 fr) := vk 3 (by simp)
          have v4 : wr.cell? ⟨bV, 4, none⟩ = some (.int .i64 le) := vk 4 (by simp)
          have v5 : wr.cell? ⟨bV, 5, none⟩ = some (.slice ha i hc) := vk 5 (by simp)
          obtain ⟨⟨rl, rk⟩, rf⟩ := HR.out
          have p0 : wr.cell? ⟨w.heap.size, 0, none⟩ = some (.string ⟨#[]⟩) := rk 0 (by simp)
          have f0 : wr.frozen? ⟨w.heap.size, 0, none⟩ = false := rf 0 (by simp)
          have p1 : wr.cell? ⟨w.heap.size, 1, none⟩ = some (.int .i64 0) := rk 1 (by simp)
          have f1 : wr.frozen? ⟨w.heap.size, 1, none⟩ = false := rf 1 (by simp)
          have p2 : wr.cell? ⟨w.heap.size, 2, none⟩ = some (.bool false) := rk 2 (by simp)
          have f2 : wr.frozen? ⟨w.heap.size, 2, none⟩ = false := rf 2 (by simp)
          have p3 : wr.cell? ⟨w.heap.size, 3, none⟩ = some (.int .i64 0) := rk 3 (by simp)
          have f3 : wr.frozen? ⟨w.heap.size, 3, none⟩ = false := rf 3 (by simp)
          have p4 : wr.cell? ⟨w.heap.size, 4, none⟩ = some (.int .i64 0) := rk 4 (by simp)
          have f4 : wr.frozen? ⟨w.heap.size, 4, none⟩ = false := rf 4 (by simp)
          have p5 : wr.cell? ⟨w.heap.size, 5, none⟩ = some (.slice none 0 0) := rk 5 (by simp)
          have f5 : wr.frozen? ⟨w.heap.size, 5, none⟩ = false := rf 5 (by simp)
          have hg := StR.stL_grown w.heap.size [.string a, .int .i64 ag, .bool false, .int .i64 fr, .int .i64 le, .slice ha i hc] 0 wr
          have HA9 := hid_intro (HA.out.grown hg (by simp; omega))
          have HG9 := hid_intro (gnewG HG.out hg (Nat.le_refl _))
          have HO9 := hid_intro (own_keepG HO.out hg (by omega))
          simp only [StR.stL, Nat.zero_add, Nat.reduceAdd] at HA9 HG9 HO9
          clear vk rk rf hg HA HG HR HV HO
          go_wp2_with fail
          refine bodyPost_ret (v := .agg #[.string a, .int .i64 ag, .bool false, .int .i64 fr, .int .i64 le, .slice ha i hc]) (by simp [results, Tryd.results37, go_sem, p0, p1, p2, p3, p4, p5]) rfl (show SmP g s a ag _ fr le C PH LH w _ _ from ⟨_, _, _, HNC.out, rfl, own_low HO9.out (by omega), HA9.out, HG9.out⟩)
end CatR
end Go.Proofs.YtaedolophhcjjaaDoor
namespace Go.Proofs.YtaedolophhcjjaaDoor
open Go.RowKit
namespace LtR
open Op (bytesLess)
theorem bl_irrefl : ∀ x : List UInt8, bytesLess x x = false
  | [] => rfl
  | a :: x => by
    rw [bytesLess, bl_irrefl x]
    simp
theorem bl_trans : ∀ {x y z : List UInt8}, bytesLess x y = true → bytesLess y z = true → bytesLess x z = true
  | _, [], _, h, _ => by simp [bytesLess] at h
  | _, _ :: _, [], _, h => by simp [bytesLess] at h
  | [], _ :: _, _ :: _, _, _ => rfl
  | a :: x, b :: y, c :: z, h1, h2 => by
    rw [bytesLess] at *
    simp only [Bool.or_eq_true, Bool.and_eq_true, decide_eq_true_eq, beq_iff_eq] at *
    rcases h1 with h1 | ⟨rfl, h1⟩
    · rcases h2 with h2 | ⟨rfl, h2⟩
      · exact .inl (UInt8.lt_trans h1 h2)
      · exact .inl h1
    · rcases h2 with h2 | ⟨rfl, h2⟩
      · exact .inl h2
      · exact .inr ⟨rfl, bl_trans h1 h2⟩
theorem bl_total : ∀ {x y : List UInt8}, bytesLess x y = false → bytesLess y x = false → x = y
  | [], [], _, _ => rfl
  | [], _ :: _, h, _ => by simp [bytesLess] at h
  | _ :: _, [], _, h => by simp [bytesLess] at h
  | a :: x, b :: y, h1, h2 => by
    rw [bytesLess] at *
    simp only [Bool.or_eq_false_iff, Bool.and_eq_false_iff, decide_eq_false_iff_not, beq_eq_false_iff_ne] at *
    have e : a = b := by
      have p1 := h1.1
      have p2 := h2.1
      rw [UInt8.lt_iff_toNat_lt] at p1 p2
      exact UInt8.toNat.inj (by omega)
    subst e
    rw [bl_total (h1.2.resolve_left (fun h => h rfl)) (h2.2.resolve_left (fun h => h rfl))]
/-- One text is ahead of another. -/
def lt (a b : ByteArray) : Bool := bytesLess a.toList b.toList
theorem toList_inj {a b : ByteArray} (h : a.toList = b.toList) : a = b := by
  rw [ByteArray.toList_eq, ByteArray.toList_eq] at h
  exact ByteArray.ext (Array.ext' h)
theorem lt_irrefl (a : ByteArray) : lt a a = false := bl_irrefl _
theorem lt_trans {a b c : ByteArray} (h1 : lt a b = true) (h2 : lt b c = true) : lt a c = true := bl_trans h1 h2
theorem lt_total {a b : ByteArray} (h1 : lt a b = false) (h2 : lt b a = false) : a = b := toList_inj (bl_total h1 h2)
theorem lt_asymm {a b : ByteArray} (h : lt a b = true) : lt b a = false := by
  cases h2 : lt b a
  · rfl
  · have := lt_trans h h2
    rw [lt_irrefl] at this
    cases this
theorem lt_empty {b : ByteArray} (h : 1 ≤ b.size) : lt ⟨#[]⟩ b = true := by
  unfold lt
  have h1 : (⟨#[]⟩ : ByteArray).toList = [] := by rw [ByteArray.toList_eq]
  rw [h1]
  cases hb : b.toList with
  | nil =>
    rw [ByteArray.toList_eq] at hb
    have : b.data.toList.length = 0 := by rw [hb]; rfl
    have h2 : b.data.toList.length = b.size := rfl
    omega
  | cons x l => rfl
end LtR
end Go.Proofs.YtaedolophhcjjaaDoor
namespace Go.Proofs.YtaedolophhcjjaaDoor
open Go.ChangeShapes Go.WideShapes Go.ChangeAt Go.RowKit
set_option linter.unusedVariables false
namespace CatR
open OwG
open RowG (MadeG Rws cellsAll hid_intro)
open EvtR (Pt After SAfter Reads gtrans)
open DocR (BlkW)
/-- What the model hands back. -/
def SPC (s T : ByteArray) (o : Option Nat) (C D : Nat) (ms : List Me) (cs : List Cr) (w : World) (e : Ending) (w' : World) : Prop := ((¬ (o ≠ none ∧ s.size ≠ 0 ∧ T = s) ∧ e = .returned (.agg #[.slice none 0 0, .slice none 0 0, .int .i64 3])) ∨ ((o ≠ none ∧ s.size ≠ 0 ∧ T = s) ∧ ∃ ma mc ca cc, e = .returned (.agg #[.slice ma C mc, .slice ca D cc, .int .i64 0]) ∧ MsO w.heap.size (.slice ma C mc) ms w' ∧ w'.ownsRow w.heap.size 53 2 (.slice ca D cc) D (cellsAll Cr.cells cs))) ∧ Below w.heap.size w w'
theorem spc_bad {s T : ByteArray} {o : Option Nat} {C D : Nat} {ms : List Me} {cs : List Cr} {w w' : World} (h : ¬ (o ≠ none ∧ s.size ≠ 0 ∧ T = s)) (hb : Below w.heap.size w w') : SPC s T o C D ms cs w (.returned (.agg #[.slice none 0 0, .slice none 0 0, .int .i64 3])) w' := ⟨.inl ⟨h, rfl⟩, hb⟩
theorem spc_ok {s T : ByteArray} {o : Option Nat} {C D : Nat} {ms : List Me} {cs : List Cr} {w w' : World} {ma ca : Option Addr} {mc cc : Nat} (h : o ≠ none ∧ s.size ≠ 0 ∧ T = s) (hm : MsO w.heap.size (.slice ma C mc) ms w') (hc : w'.ownsRow w.heap.size 53 2 (.slice ca D cc) D (cellsAll Cr.cells cs)) (hb : Below w.heap.size w w') : SPC s T o C D ms cs w (.returned (.agg #[.slice ma C mc, .slice ca D cc, .int .i64 0])) w' := ⟨.inr ⟨h, ma, mc, ca, cc, rfl, hm, hc⟩, hb⟩
theorem ba_inj {a b : ByteArray} (h : a.toList = b.toList) : a = b := LtR.toList_inj h
set_option maxRecDepth 100000 in
set_option maxHeartbeats 32000000 in
theorem scr_in (s : ByteArray) (C D : Nat) (PM PC : Nat → Option Nat) (LM : Nat → List Me) (LC : Nat → List Cr) (mm : Nat → Me) (hh : Nat → ByteArray) (ss : Nat → Int) (T : ByteArray) (w : World) (hs8 : s.size ≤ 8000) (hC : C ≤ 6) (hD : D ≤ 6)
    (rc1 : ∀ g, SMn 6 g s (some 0) (PM 0) C)
    (rm : ∀ k g W, SAfter g s (PM k) W → Calls Tryd.prog 37 #[.pointer (some ⟨g, 0, none⟩)] W fun e w' => ∃ (n : Nat) (ta : Option Addr) (tc : Nat) (ts : List Ti), (PM (k + 1) ≠ none → n = (mm k).ts.length ∧ ts = (mm k).ts) ∧ e = .returned (.agg #[.string (mm k).n, .int .i64 (mm k).g, .bool (mm k).wh, .int .i64 (mm k).f, .int .i64 (mm k).l, .slice ta n tc]) ∧ w'.ownsRow W.heap.size 72 2 (.slice ta n tc) n (cellsAll Ti.cells ts) ∧ SAfter g s (PM (k + 1)) w' ∧ W.grownBy w' (some g))
    (rc2 : ∀ g, SMn 6 g s (PM C) (PC 0) D)
    (rh : ∀ i g, ∃ om, SRd 38 g s (PC i) om (.string (hh i)) ∧ SRd 39 g s om (PC (i + 1)) (.int .i64 (ss i)))
    (hNM : ∀ k, PM k = none → PM (k + 1) = none) (hNC : ∀ k, PC k = none → PC (k + 1) = none) (hNX : PM C = none → PC 0 = none)
    (hwb : ∀ ma mc ca cc W, Mes ma C (LM C) W → Crs ca D (LC D) W → Calls Tryd.prog 11 #[.agg #[.slice ma C mc, .slice ca D cc]] W fun e w' => e = .returned (.string T) ∧ Below W.heap.size W w')
    (hM0 : LM 0 = []) (hMM : ∀ k, LM (k + 1) = LM k ++ [mm k]) (hML : ∀ k, (LM k).length = k) (hC0 : LC 0 = []) (hCM : ∀ k, LC (k + 1) = LC k ++ [⟨hh k, ss k⟩]) (hCL : ∀ k, (LC k).length = k) :
    Calls Tryd.prog 13 #[.string s] w fun e w' => SPC s T (PC D) C D (LM C) (LC D) w e w' := by
  obtain ⟨i0, hi, hz0, hz1, hz2⟩ := info_parts infoMe
  obtain ⟨j0, gi, gz0, gz1, gz2⟩ := info_parts infoCr
  have RC1 := hid_intro (rc1 (w.heap.size + 1))
  have RM := hid_intro (fun k => rm k (w.heap.size + 1))
  have RC2 := hid_intro (rc2 (w.heap.size + 1))
  have RH := hid_intro (fun i => rh i (w.heap.size + 1))
  have HNM := hid_intro hNM
  have HNC := hid_intro hNC
  have HNX := hid_intro hNX
  have HWB := hid_intro hwb
  have HM0 := hid_intro hM0
  have HMM := hid_intro hMM
  have HML := hid_intro hML
  have HC0 := hid_intro hC0
  have HCM := hid_intro hCM
  have HCL := hid_intro hCL
  have h8 : ¬ (8000 : Int) < (s.size : Int) := by omega
  clear rc1 rm rc2 rh hNM hNC hNX hwb hM0 hMM hML hC0 hCM hCL
  obtain ⟨W0, hW0⟩ : ∃ W0, W0 = ((w.alloc (.cells #[.slice none 0 0, .slice none 0 0, .int .i64 0] 31)).alloc (.cells #[.string s, .int .i64 0, .bool false] 68)).alloc (.cells #[.slice none 0 0, .slice none 0 0] 26) := ⟨_, rfl⟩
  obtain ⟨W1, hW1⟩ : ∃ W1, W1 = (w.alloc (.cells #[.slice none 0 0, .slice none 0 0, .int .i64 0] 31)).alloc (.cells #[.string s, .int .i64 0, .bool false] 68) := ⟨_, rfl⟩
  have hz : W1.heap.size = w.heap.size + 2 := by rw [hW1]; simp
  have al : Below W1.heap.size W1 W0 := by rw [hW0, ← hW1]; exact (Below.refl _ _).alloc (Nat.le_refl _) _
  have HA : Hid (SAfter (w.heap.size + 1) s (some 0) W0) := hid_intro (satt (by rw [hW1]; exact ⟨by omega, by simp, by simp [go_sem], by simp [go_sem], by simp [go_sem], by simp [go_sem], by simp [go_sem], by simp [go_sem]⟩ : SAfter (w.heap.size + 1) s (some 0) W1) al)
  have HG : Hid (w.grownBy W0 (some (w.heap.size + 1))) := hid_intro (by rw [hW0]; exact galloc (galloc (World.grownBy_alloc w _ _) _) _)
  have HR : Hid (BlkW w.heap.size [.slice none 0 0, .slice none 0 0, .int .i64 0] W0) := hid_intro ((by rw [hW1]; exact (BlkW.new w [.slice none 0 0, .slice none 0 0, .int .i64 0] 31).below ((Below.refl _ _).alloc (Nat.le_refl _) _) : BlkW w.heap.size [.slice none 0 0, .slice none 0 0, .int .i64 0] W1).below al)
  have HV : Hid (BlkW (w.heap.size + 2) [.slice none 0 0, .slice none 0 0] W0) := hid_intro (by rw [hW0, ← hW1, ← hz]; exact BlkW.new W1 [.slice none 0 0, .slice none 0 0] 26)
  have HW := hid_intro hW0
  obtain ⟨bV, hbV⟩ : ∃ z, z = w.heap.size + 2 := ⟨_, rfl⟩
  rw [← hbV] at HV
  have hlo : w.heap.size + 1 < bV := by omega
  have HBV := hid_intro hbV
  clear hW0 hW1 hz al hbV W1
  have gsz6 : 0 < 6 := by omega
  go_enter Tryd.func13, Tryd.ntmps13
  go_wp2_with fail
  rw [← HW.out, ← HBV.out]
  clear HW HBV
  refine (RC1.out _ HA.out).mono ?_
  rintro e wB ⟨rfl, hA, hq⟩
  replace HA := hid_intro hA
  replace HG := hid_intro (gtrans HG.out hq)
  replace HV := hid_intro (blkW_grown HV.out hq (by first | (simp; done) | (simp; omega)))
  replace HR := hid_intro (blkW_grown HR.out hq (by first | (simp; done) | (simp; omega)))
  clear hA hq
  go_wp2_with fail
  go_loopw [5] (fun z wr => ∃ (k : Nat) (v : Value), k ≤ C ∧ z = .int .i64 ((C : Int) - (k : Int)) ∧ Hid (SAfter (w.heap.size + 1) s (PM k) wr) ∧ Hid (w.grownBy wr (some (w.heap.size + 1))) ∧ Hid (BlkW w.heap.size [.slice none 0 0, .slice none 0 0, .int .i64 0] wr) ∧ Hid (BlkW bV [v, .slice none 0 0] wr) ∧ Hid (PM k ≠ none → MsO (bV + 1) v (LM k) wr)) (fun z _ => (intOf z).toNat)
  case atStart => exact ⟨0, .slice none 0 0, by omega, by simp, HA, HG, HR, HV, hid_intro (fun _ => by rw [HM0.out]; exact mso_nil _ _)⟩
  case round =>
    clear HA HG HR HV
    obtain ⟨k, v, hk, rfl, HA, HG, HR, HV, HM⟩ := hrel
    obtain ⟨pp, hSR⟩ := HA.out.open
    obtain ⟨gl, g0, g1, g2, gf0, gf1, gf2⟩ := hSR
    rcases exit_of HNM.out hk with ⟨hlt, hno⟩ | ⟨heq, hall⟩
    · have hlt2 : (0 : Int) < (C : Int) - (k : Int) := by omega
      rw [decide_eq_false hno] at g2
      obtain ⟨ma, mc, rfl, _⟩ := (HM.out hno).mes
      replace HM := hid_intro (HM.out hno)
      rw [HML.out k] at HM HV
      have RMk := hid_intro (RM.out k)
      have HLM := hid_intro (HMM.out k)
      have HLL := hid_intro (HML.out k)
      have sz1 : k + 1 ≤ maxLen := by unfold maxLen; omega
      have sz2 : (k + 1) * 72 ≤ 140737488355328 := by omega
      obtain ⟨L0, hL0⟩ : ∃ z, z = wr.heap.size := ⟨_, rfl⟩
      have hbl : bV + 1 ≤ L0 := by have := HV.out.1.1; omega
      have hM0 := HM.out.lim.below (Below.refl wr.heap.size wr).drew
      have hL1 : L0 ≤ wr.drew.heap.size := by rw [hL0]; exact Nat.le_refl _
      rw [← hL0] at hM0
      have hA0 := satt HA.out (Below.refl wr.heap.size wr).drew
      have hG0 := gtrans HG.out (EvtR.rgrown (Below.refl wr.heap.size wr).drew _)
      have hR0 := HR.out.below (Below.refl wr.heap.size wr).drew
      have hV0 := HV.out.below (Below.refl wr.heap.size wr).drew
      clear hno
      go_wp2_with fail
      clear gl g0 g1 g2 gf0 gf1 gf2
      refine wp_region_held_drew (S := (fun _ => True)) (by kernel_rfl) trivial (fun hHeld => ?_)
      generalize wr.drew = kd at *
      refine wpAnyH_take (i := 0) (oi := { dst := some 29, op := Op.fieldAddr 26 (Operand.tmp 4) 0, type := 0, pos := "l05_catalog.go:140", after := #[], guard := none }) (v := ?_) rfl (by kernel_rfl) (by kernel_rfl) (by kernel_rfl) (fun _ _ _ h => h) (Or.inl ⟨by rfl, ?_⟩) (by assumption) ?_
      rotate_left
      · (intro w hSw; (try dsimp only at hSw); go_simp) <;> with_reducible rfl
      try simp only [Act.put, List.setIfInBounds_toArray, List.set_cons_zero, List.set_cons_succ]
      refine wpAnyH_take (i := 2) (oi := { dst := some 31, op := Op.move (Operand.tmp 3), type := 66, pos := "l05_catalog.go:140", after := #[], guard := none }) (v := ?_) rfl (by kernel_rfl) (by kernel_rfl) (by kernel_rfl) (fun _ _ _ h => h) (Or.inl ⟨by rfl, ?_⟩) (by assumption) ?_
      rotate_left
      · (intro w hSw; (try dsimp only at hSw); go_simp) <;> with_reducible rfl
      try simp only [Act.put, List.setIfInBounds_toArray, List.set_cons_zero, List.set_cons_succ]
      refine wpAnyH_ready (rs := [1, 3]) (by kernel_rfl) (by simp) ?_
      refine AllReadyH.cons (o := { dst := some 30, op := Op.load 23 (Operand.tmp 29), type := 23, pos := "l05_catalog.go:140", after := #[{ on := 0, ground := Ground.data }], guard := none }) rfl (fun K hK => ?_) (AllReadyH.cons (o := { dst := some 32, op := Op.call { callee := Callee.value (Operand.func 37), args := #[Operand.tmp 31], argTypes := #[66] }, type := 37, pos := "l05_catalog.go:140", after := #[{ on := 2, ground := Ground.data }], guard := none }) rfl (fun K hK => ?_) AllReadyH.nil)
      · have c6 := hV0.1.2 0 (by simp)
        have l6 := hV0.1.1
        simp only [List.getElem?_cons_zero] at c6
        go_simp
        try go_wp2_with fail
        refine hK.out _ _ trivial (fun _ => ?_)
        clear hK K
        try simp only [Act.put, List.setIfInBounds_toArray, List.set_cons_zero, List.set_cons_succ]
        clear c6 l6
        refine wpAnyH_ready (rs := [3]) (by kernel_rfl) (by simp) ?_
        refine AllReadyH.cons (o := { dst := some 32, op := Op.call { callee := Callee.value (Operand.func 37), args := #[Operand.tmp 31], argTypes := #[66] }, type := 37, pos := "l05_catalog.go:140", after := #[{ on := 2, ground := Ground.data }], guard := none }) rfl (fun K hK => ?_) AllReadyH.nil
        go_simp
        go_at_call 37
        refine (RMk.out _ hA0).mono ?_
        rintro e q1 ⟨n, ta, tc, ts, hnt, rfl, hNz, hA1, hq1⟩
        try go_wp2_with fail
        have hG1 := gtrans hG0 hq1
        have hR1 := blkW_grown hR0 hq1 (by first | (simp; done) | (simp; omega))
        have hV1 := blkW_grown hV0 hq1 (by first | (simp; done) | (simp; omega))
        have hM1 := hM0.far hq1 (by omega)
        have hN1 := own_low hNz hL1
        have HNT := hid_intro hnt
        clear hNz hnt
        refine hK.out _ _ trivial (fun _ => ?_)
        clear hK K
        try simp only [Act.put, List.setIfInBounds_toArray, List.set_cons_zero, List.set_cons_succ]
        refine wpAnyH_ready (rs := [4]) (by kernel_rfl) (by simp) ?_
        refine AllReadyH.cons (o := { dst := some 33, op := Op.buildSlice 23 1 #[(0, Operand.tmp 32)], type := 23, pos := "l05_catalog.go:140", after := #[{ on := 3, ground := Ground.data }], guard := none }) rfl (fun K hK => ?_) AllReadyH.nil
        go_simp
        try go_wp2_with fail
        have hA2 := satt hA1 ((Below.refl q1.heap.size q1).alloc (Nat.le_refl _) (Obj.cells #[.string (mm k).n, .int .i64 (mm k).g, .bool (mm k).wh, .int .i64 (mm k).f, .int .i64 (mm k).l, .slice ta n tc] 37))
        have hG2 := galloc hG1 (Obj.cells #[.string (mm k).n, .int .i64 (mm k).g, .bool (mm k).wh, .int .i64 (mm k).f, .int .i64 (mm k).l, .slice ta n tc] 37)
        have hR2 := hR1.below ((Below.refl q1.heap.size q1).alloc (Nat.le_refl _) (Obj.cells #[.string (mm k).n, .int .i64 (mm k).g, .bool (mm k).wh, .int .i64 (mm k).f, .int .i64 (mm k).l, .slice ta n tc] 37))
        have hV2 := hV1.below ((Below.refl q1.heap.size q1).alloc (Nat.le_refl _) (Obj.cells #[.string (mm k).n, .int .i64 (mm k).g, .bool (mm k).wh, .int .i64 (mm k).f, .int .i64 (mm k).l, .slice ta n tc] 37))
        have hM2 := hM1.below ((Below.refl q1.heap.size q1).alloc (Nat.le_refl _) (Obj.cells #[.string (mm k).n, .int .i64 (mm k).g, .bool (mm k).wh, .int .i64 (mm k).f, .int .i64 (mm k).l, .slice ta n tc] 37))
        have hN2 := RowG.own_below hN1 ((Below.refl q1.heap.size q1).alloc (Nat.le_refl _) (Obj.cells #[.string (mm k).n, .int .i64 (mm k).g, .bool (mm k).wh, .int .i64 (mm k).f, .int .i64 (mm k).l, .slice ta n tc] 37))
        have hnw : ∀ j u, ([.string (mm k).n, .int .i64 (mm k).g, .bool (mm k).wh, .int .i64 (mm k).f, .int .i64 (mm k).l, .slice ta n tc] : List Value)[j]? = some u → (q1.alloc (Obj.cells #[.string (mm k).n, .int .i64 (mm k).g, .bool (mm k).wh, .int .i64 (mm k).f, .int .i64 (mm k).l, .slice ta n tc] 37)).cell? ((⟨q1.heap.size, 0, none⟩ : Addr).add j) = some u := new_cells q1 [.string (mm k).n, .int .i64 (mm k).g, .bool (mm k).wh, .int .i64 (mm k).f, .int .i64 (mm k).l, .slice ta n tc] 37
        refine hK.out _ _ trivial (fun _ => ?_)
        clear hK K
        try simp only [Act.put, List.setIfInBounds_toArray, List.set_cons_zero, List.set_cons_succ]
        obtain ⟨bN, hbN⟩ : ∃ z, z = q1.heap.size := ⟨_, rfl⟩
        rw [← hbN] at hnw ⊢
        obtain ⟨k2, hk2⟩ : ∃ z, z = q1.alloc (Obj.cells #[.string (mm k).n, .int .i64 (mm k).g, .bool (mm k).wh, .int .i64 (mm k).f, .int .i64 (mm k).l, .slice ta n tc] 37) := ⟨_, rfl⟩
        rw [← hk2] at hnw hA2 hG2 hR2 hV2 hM2 hN2 ⊢
        clear hbN hk2
        refine wpAnyH_ready (rs := [5]) (by kernel_rfl) (by simp) ?_
        refine AllReadyH.cons (o := { dst := some 34, op := Op.call { callee := Callee.builtin Builtin.append, args := #[Operand.tmp 30, Operand.tmp 33], argTypes := #[23, 23] }, type := 23, pos := "l05_catalog.go:140", after := #[{ on := 1, ground := Ground.data }, { on := 4, ground := Ground.data }, { on := 3, ground := Ground.chain }], guard := none }) rfl (fun K hK => ?_) AllReadyH.nil
        obtain ⟨xs, x1, x2, x3, x4, x5⟩ := hM2
        have x2' := x2
        rw [HLL.out] at x2'
        refine DocR.step_append_own rfl _ _ 23 rfl (bV + 1) 37 i0 (.agg #[.string ⟨#[]⟩, .int .i64 0, .bool false, .int .i64 0, .int .i64 0, .slice none 0 0]) 6 72 Tryd.underlying23 hi hz0 hz1 hz2 rfl gsz6 _ _ _ rfl x2' ⟨bN, 0, none⟩ 1 1 [.string (mm k).n, .int .i64 (mm k).g, .bool (mm k).wh, .int .i64 (mm k).f, .int .i64 (mm k).l, .slice ta n tc] rfl rfl hnw (by intro u hu; simp at hu; rcases hu with rfl | rfl | rfl | rfl | rfl | rfl <;> rfl) sz1 sz2 (hV2.1.1) ?_
        intro v9 w9 hown hgrow hne
        have hA3 := hA2.grown hgrow (fun e => by have := (x2'.lt _ e.symm).1; omega)
        have hG3 := gnewR hG2 hgrow (fun X e => by have := (x2'.lt _ e).1; omega)
        have hR3 := blkW_grown hR2 hgrow (fun e => by have := (x2'.lt _ e.symm).1; omega)
        have hV3 := blkW_grown hV2 hgrow (fun e => by have := (x2'.lt _ e.symm).1; omega)
        have hM3 : PM (k + 1) ≠ none → MsO (bV + 1) v9 (LM (k + 1)) w9 := by
          intro hq9
          obtain ⟨e1, e2⟩ := HNT.out hq9
          have hn9 := hN2
          have ho9 := hown
          rw [e1, e2] at hn9
          rw [e1] at ho9
          rw [HLM.out]
          exact mso_snoc x1 x3 x4 x5 hbl hn9 x2 hgrow (by rw [HLL.out]; exact ho9)
        obtain ⟨sb, sc, rfl⟩ := own_form hown
        clear hown hgrow hne hnw x1 x2 x3 x4 x5 x2'
        refine hK.out _ _ trivial (fun _ => ?_)
        clear hK K
        try simp only [Act.put, List.setIfInBounds_toArray, List.set_cons_zero, List.set_cons_succ]
        refine wpAnyH_take (i := 6) (oi := { dst := some 35, op := Op.fieldAddr 26 (Operand.tmp 4) 0, type := 0, pos := "l05_catalog.go:140", after := #[{ on := 0, ground := Ground.phase }, { on := 1, ground := Ground.phase }, { on := 2, ground := Ground.phase }, { on := 3, ground := Ground.phase }, { on := 4, ground := Ground.phase }, { on := 5, ground := Ground.phase }], guard := none }) (v := ?_) rfl (by kernel_rfl) (by kernel_rfl) (by kernel_rfl) (fun _ _ _ h => h) (Or.inl ⟨by rfl, ?_⟩) (by assumption) ?_
        rotate_left
        · (intro w hSw; (try dsimp only at hSw); go_simp) <;> with_reducible rfl
        try simp only [Act.put, List.setIfInBounds_toArray, List.set_cons_zero, List.set_cons_succ]
        refine wpAnyH_ready (rs := [7]) (by kernel_rfl) (by simp) ?_
        refine AllReadyH.cons (o := { dst := none, op := Op.store 23 (Operand.tmp 35) (Operand.tmp 34), type := 0, pos := "l05_catalog.go:140", after := #[{ on := 6, ground := Ground.data }, { on := 5, ground := Ground.data }, { on := 5, ground := Ground.chain }, { on := 0, ground := Ground.phase }, { on := 1, ground := Ground.phase }, { on := 2, ground := Ground.phase }, { on := 3, ground := Ground.phase }, { on := 4, ground := Ground.phase }, { on := 5, ground := Ground.phase }], guard := none }) rfl (fun K hK => ?_) AllReadyH.nil
        have c6 := hV3.1.2 0 (by simp)
        have l6 := hV3.1.1
        have f6 := hV3.2 0 (by simp)
        simp only [List.getElem?_cons_zero] at c6
        go_simp
        try go_wp2_with fail
        have hg := RowG.grown_set w9 bV 0 (.slice (some ⟨sb, 0, none⟩) (k + 1) sc)
        have hA9 := hA3.grown hg (by first | (simp; done) | (simp; omega))
        have hG9 := gnewG hG3 hg (by omega)
        have hR9 := blkW_grown hR3 hg (by first | (simp; done) | (simp; omega))
        have hV9 := hV3.set 0 (.slice (some ⟨sb, 0, none⟩) (k + 1) sc) (by simp)
        have hM9 := fun hq9 => (hM3 hq9).far hg (by omega)
        simp only [List.set_cons_zero] at hV9
        refine hK.out _ _ trivial (fun _ => ?_)
        clear hK K
        try simp only [Act.put, List.setIfInBounds_toArray, List.set_cons_zero, List.set_cons_succ]
        generalize (w9.setCell ⟨bV, 0, none⟩ (.slice (some ⟨sb, 0, none⟩) (k + 1) sc)) = kk at *
        refine wpAnyH_done (by kernel_rfl) ?_ _
        have HA9 := hid_intro hA9
        have HG9 := hid_intro hG9
        have HR9 := hid_intro hR9
        have HV9 := hid_intro hV9
        have HM9 := hid_intro hM9
        clear hA9 hG9 hR9 hV9 hM9 hg c6 l6 f6
        go_wp2_with fail
        go_roundw
        case rel => exact ⟨k + 1, .slice (some ⟨sb, 0, none⟩) (k + 1) sc, by omega, by go_num, HA9, HG9, HR9, HV9, HM9⟩
        case measure => simp [intOf]; omega
      · go_simp
        go_at_call 37
        refine (RMk.out _ hA0).mono ?_
        rintro e q1 ⟨n, ta, tc, ts, hnt, rfl, hNz, hA1, hq1⟩
        try go_wp2_with fail
        have hG1 := gtrans hG0 hq1
        have hR1 := blkW_grown hR0 hq1 (by first | (simp; done) | (simp; omega))
        have hV1 := blkW_grown hV0 hq1 (by first | (simp; done) | (simp; omega))
        have hM1 := hM0.far hq1 (by omega)
        have hN1 := own_low hNz hL1
        have HNT := hid_intro hnt
        clear hNz hnt
        refine hK.out _ _ trivial (fun _ => ?_)
        clear hK K
        try simp only [Act.put, List.setIfInBounds_toArray, List.set_cons_zero, List.set_cons_succ]
        refine wpAnyH_ready (rs := [1, 4]) (by kernel_rfl) (by simp) ?_
        refine AllReadyH.cons (o := { dst := some 30, op := Op.load 23 (Operand.tmp 29), type := 23, pos := "l05_catalog.go:140", after := #[{ on := 0, ground := Ground.data }], guard := none }) rfl (fun K hK => ?_) (AllReadyH.cons (o := { dst := some 33, op := Op.buildSlice 23 1 #[(0, Operand.tmp 32)], type := 23, pos := "l05_catalog.go:140", after := #[{ on := 3, ground := Ground.data }], guard := none }) rfl (fun K hK => ?_) AllReadyH.nil)
        · have c6 := hV1.1.2 0 (by simp)
          have l6 := hV1.1.1
          simp only [List.getElem?_cons_zero] at c6
          go_simp
          try go_wp2_with fail
          refine hK.out _ _ trivial (fun _ => ?_)
          clear hK K
          try simp only [Act.put, List.setIfInBounds_toArray, List.set_cons_zero, List.set_cons_succ]
          clear c6 l6
          refine wpAnyH_ready (rs := [4]) (by kernel_rfl) (by simp) ?_
          refine AllReadyH.cons (o := { dst := some 33, op := Op.buildSlice 23 1 #[(0, Operand.tmp 32)], type := 23, pos := "l05_catalog.go:140", after := #[{ on := 3, ground := Ground.data }], guard := none }) rfl (fun K hK => ?_) AllReadyH.nil
          go_simp
          try go_wp2_with fail
          have hA2 := satt hA1 ((Below.refl q1.heap.size q1).alloc (Nat.le_refl _) (Obj.cells #[.string (mm k).n, .int .i64 (mm k).g, .bool (mm k).wh, .int .i64 (mm k).f, .int .i64 (mm k).l, .slice ta n tc] 37))
          have hG2 := galloc hG1 (Obj.cells #[.string (mm k).n, .int .i64 (mm k).g, .bool (mm k).wh, .int .i64 (mm k).f, .int .i64 (mm k).l, .slice ta n tc] 37)
          have hR2 := hR1.below ((Below.refl q1.heap.size q1).alloc (Nat.le_refl _) (Obj.cells #[.string (mm k).n, .int .i64 (mm k).g, .bool (mm k).wh, .int .i64 (mm k).f, .int .i64 (mm k).l, .slice ta n tc] 37))
          have hV2 := hV1.below ((Below.refl q1.heap.size q1).alloc (Nat.le_refl _) (Obj.cells #[.string (mm k).n, .int .i64 (mm k).g, .bool (mm k).wh, .int .i64 (mm k).f, .int .i64 (mm k).l, .slice ta n tc] 37))
          have hM2 := hM1.below ((Below.refl q1.heap.size q1).alloc (Nat.le_refl _) (Obj.cells #[.string (mm k).n, .int .i64 (mm k).g, .bool (mm k).wh, .int .i64 (mm k).f, .int .i64 (mm k).l, .slice ta n tc] 37))
          have hN2 := RowG.own_below hN1 ((Below.refl q1.heap.size q1).alloc (Nat.le_refl _) (Obj.cells #[.string (mm k).n, .int .i64 (mm k).g, .bool (mm k).wh, .int .i64 (mm k).f, .int .i64 (mm k).l, .slice ta n tc] 37))
          have hnw : ∀ j u, ([.string (mm k).n, .int .i64 (mm k).g, .bool (mm k).wh, .int .i64 (mm k).f, .int .i64 (mm k).l, .slice ta n tc] : List Value)[j]? = some u → (q1.alloc (Obj.cells #[.string (mm k).n, .int .i64 (mm k).g, .bool (mm k).wh, .int .i64 (mm k).f, .int .i64 (mm k).l, .slice ta n tc] 37)).cell? ((⟨q1.heap.size, 0, none⟩ : Addr).add j) = some u := new_cells q1 [.string (mm k).n, .int .i64 (mm k).g, .bool (mm k).wh, .int .i64 (mm k).f, .int .i64 (mm k).l, .slice ta n tc] 37
          refine hK.out _ _ trivial (fun _ => ?_)
          clear hK K
          try simp only [Act.put, List.setIfInBounds_toArray, List.set_cons_zero, List.set_cons_succ]
          obtain ⟨bN, hbN⟩ : ∃ z, z = q1.heap.size := ⟨_, rfl⟩
          rw [← hbN] at hnw ⊢
          obtain ⟨k2, hk2⟩ : ∃ z, z = q1.alloc (Obj.cells #[.string (mm k).n, .int .i64 (mm k).g, .bool (mm k).wh, .int .i64 (mm k).f, .int .i64 (mm k).l, .slice ta n tc] 37) := ⟨_, rfl⟩
          rw [← hk2] at hnw hA2 hG2 hR2 hV2 hM2 hN2 ⊢
          clear hbN hk2
          refine wpAnyH_ready (rs := [5]) (by kernel_rfl) (by simp) ?_
          refine AllReadyH.cons (o := { dst := some 34, op := Op.call { callee := Callee.builtin Builtin.append, args := #[Operand.tmp 30, Operand.tmp 33], argTypes := #[23, 23] }, type := 23, pos := "l05_catalog.go:140", after := #[{ on := 1, ground := Ground.data }, { on := 4, ground := Ground.data }, { on := 3, ground := Ground.chain }], guard := none }) rfl (fun K hK => ?_) AllReadyH.nil
          obtain ⟨xs, x1, x2, x3, x4, x5⟩ := hM2
          have x2' := x2
          rw [HLL.out] at x2'
          refine DocR.step_append_own rfl _ _ 23 rfl (bV + 1) 37 i0 (.agg #[.string ⟨#[]⟩, .int .i64 0, .bool false, .int .i64 0, .int .i64 0, .slice none 0 0]) 6 72 Tryd.underlying23 hi hz0 hz1 hz2 rfl gsz6 _ _ _ rfl x2' ⟨bN, 0, none⟩ 1 1 [.string (mm k).n, .int .i64 (mm k).g, .bool (mm k).wh, .int .i64 (mm k).f, .int .i64 (mm k).l, .slice ta n tc] rfl rfl hnw (by intro u hu; simp at hu; rcases hu with rfl | rfl | rfl | rfl | rfl | rfl <;> rfl) sz1 sz2 (hV2.1.1) ?_
          intro v9 w9 hown hgrow hne
          have hA3 := hA2.grown hgrow (fun e => by have := (x2'.lt _ e.symm).1; omega)
          have hG3 := gnewR hG2 hgrow (fun X e => by have := (x2'.lt _ e).1; omega)
          have hR3 := blkW_grown hR2 hgrow (fun e => by have := (x2'.lt _ e.symm).1; omega)
          have hV3 := blkW_grown hV2 hgrow (fun e => by have := (x2'.lt _ e.symm).1; omega)
          have hM3 : PM (k + 1) ≠ none → MsO (bV + 1) v9 (LM (k + 1)) w9 := by
            intro hq9
            obtain ⟨e1, e2⟩ := HNT.out hq9
            have hn9 := hN2
            have ho9 := hown
            rw [e1, e2] at hn9
            rw [e1] at ho9
            rw [HLM.out]
            exact mso_snoc x1 x3 x4 x5 hbl hn9 x2 hgrow (by rw [HLL.out]; exact ho9)
          obtain ⟨sb, sc, rfl⟩ := own_form hown
          clear hown hgrow hne hnw x1 x2 x3 x4 x5 x2'
          refine hK.out _ _ trivial (fun _ => ?_)
          clear hK K
          try simp only [Act.put, List.setIfInBounds_toArray, List.set_cons_zero, List.set_cons_succ]
          refine wpAnyH_take (i := 6) (oi := { dst := some 35, op := Op.fieldAddr 26 (Operand.tmp 4) 0, type := 0, pos := "l05_catalog.go:140", after := #[{ on := 0, ground := Ground.phase }, { on := 1, ground := Ground.phase }, { on := 2, ground := Ground.phase }, { on := 3, ground := Ground.phase }, { on := 4, ground := Ground.phase }, { on := 5, ground := Ground.phase }], guard := none }) (v := ?_) rfl (by kernel_rfl) (by kernel_rfl) (by kernel_rfl) (fun _ _ _ h => h) (Or.inl ⟨by rfl, ?_⟩) (by assumption) ?_
          rotate_left
          · (intro w hSw; (try dsimp only at hSw); go_simp) <;> with_reducible rfl
          try simp only [Act.put, List.setIfInBounds_toArray, List.set_cons_zero, List.set_cons_succ]
          refine wpAnyH_ready (rs := [7]) (by kernel_rfl) (by simp) ?_
          refine AllReadyH.cons (o := { dst := none, op := Op.store 23 (Operand.tmp 35) (Operand.tmp 34), type := 0, pos := "l05_catalog.go:140", after := #[{ on := 6, ground := Ground.data }, { on := 5, ground := Ground.data }, { on := 5, ground := Ground.chain }, { on := 0, ground := Ground.phase }, { on := 1, ground := Ground.phase }, { on := 2, ground := Ground.phase }, { on := 3, ground := Ground.phase }, { on := 4, ground := Ground.phase }, { on := 5, ground := Ground.phase }], guard := none }) rfl (fun K hK => ?_) AllReadyH.nil
          have c6 := hV3.1.2 0 (by simp)
          have l6 := hV3.1.1
          have f6 := hV3.2 0 (by simp)
          simp only [List.getElem?_cons_zero] at c6
          go_simp
          try go_wp2_with fail
          have hg := RowG.grown_set w9 bV 0 (.slice (some ⟨sb, 0, none⟩) (k + 1) sc)
          have hA9 := hA3.grown hg (by first | (simp; done) | (simp; omega))
          have hG9 := gnewG hG3 hg (by omega)
          have hR9 := blkW_grown hR3 hg (by first | (simp; done) | (simp; omega))
          have hV9 := hV3.set 0 (.slice (some ⟨sb, 0, none⟩) (k + 1) sc) (by simp)
          have hM9 := fun hq9 => (hM3 hq9).far hg (by omega)
          simp only [List.set_cons_zero] at hV9
          refine hK.out _ _ trivial (fun _ => ?_)
          clear hK K
          try simp only [Act.put, List.setIfInBounds_toArray, List.set_cons_zero, List.set_cons_succ]
          generalize (w9.setCell ⟨bV, 0, none⟩ (.slice (some ⟨sb, 0, none⟩) (k + 1) sc)) = kk at *
          refine wpAnyH_done (by kernel_rfl) ?_ _
          have HA9 := hid_intro hA9
          have HG9 := hid_intro hG9
          have HR9 := hid_intro hR9
          have HV9 := hid_intro hV9
          have HM9 := hid_intro hM9
          clear hA9 hG9 hR9 hV9 hM9 hg c6 l6 f6
          go_wp2_with fail
          go_roundw
          case rel => exact ⟨k + 1, .slice (some ⟨sb, 0, none⟩) (k + 1) sc, by omega, by go_num, HA9, HG9, HR9, HV9, HM9⟩
          case measure => simp [intOf]; omega
        · go_simp
          try go_wp2_with fail
          have hA2 := satt hA1 ((Below.refl q1.heap.size q1).alloc (Nat.le_refl _) (Obj.cells #[.string (mm k).n, .int .i64 (mm k).g, .bool (mm k).wh, .int .i64 (mm k).f, .int .i64 (mm k).l, .slice ta n tc] 37))
          have hG2 := galloc hG1 (Obj.cells #[.string (mm k).n, .int .i64 (mm k).g, .bool (mm k).wh, .int .i64 (mm k).f, .int .i64 (mm k).l, .slice ta n tc] 37)
          have hR2 := hR1.below ((Below.refl q1.heap.size q1).alloc (Nat.le_refl _) (Obj.cells #[.string (mm k).n, .int .i64 (mm k).g, .bool (mm k).wh, .int .i64 (mm k).f, .int .i64 (mm k).l, .slice ta n tc] 37))
          have hV2 := hV1.below ((Below.refl q1.heap.size q1).alloc (Nat.le_refl _) (Obj.cells #[.string (mm k).n, .int .i64 (mm k).g, .bool (mm k).wh, .int .i64 (mm k).f, .int .i64 (mm k).l, .slice ta n tc] 37))
          have hM2 := hM1.below ((Below.refl q1.heap.size q1).alloc (Nat.le_refl _) (Obj.cells #[.string (mm k).n, .int .i64 (mm k).g, .bool (mm k).wh, .int .i64 (mm k).f, .int .i64 (mm k).l, .slice ta n tc] 37))
          have hN2 := RowG.own_below hN1 ((Below.refl q1.heap.size q1).alloc (Nat.le_refl _) (Obj.cells #[.string (mm k).n, .int .i64 (mm k).g, .bool (mm k).wh, .int .i64 (mm k).f, .int .i64 (mm k).l, .slice ta n tc] 37))
          have hnw : ∀ j u, ([.string (mm k).n, .int .i64 (mm k).g, .bool (mm k).wh, .int .i64 (mm k).f, .int .i64 (mm k).l, .slice ta n tc] : List Value)[j]? = some u → (q1.alloc (Obj.cells #[.string (mm k).n, .int .i64 (mm k).g, .bool (mm k).wh, .int .i64 (mm k).f, .int .i64 (mm k).l, .slice ta n tc] 37)).cell? ((⟨q1.heap.size, 0, none⟩ : Addr).add j) = some u := new_cells q1 [.string (mm k).n, .int .i64 (mm k).g, .bool (mm k).wh, .int .i64 (mm k).f, .int .i64 (mm k).l, .slice ta n tc] 37
          refine hK.out _ _ trivial (fun _ => ?_)
          clear hK K
          try simp only [Act.put, List.setIfInBounds_toArray, List.set_cons_zero, List.set_cons_succ]
          obtain ⟨bN, hbN⟩ : ∃ z, z = q1.heap.size := ⟨_, rfl⟩
          rw [← hbN] at hnw ⊢
          obtain ⟨k2, hk2⟩ : ∃ z, z = q1.alloc (Obj.cells #[.string (mm k).n, .int .i64 (mm k).g, .bool (mm k).wh, .int .i64 (mm k).f, .int .i64 (mm k).l, .slice ta n tc] 37) := ⟨_, rfl⟩
          rw [← hk2] at hnw hA2 hG2 hR2 hV2 hM2 hN2 ⊢
          clear hbN hk2
          refine wpAnyH_ready (rs := [1]) (by kernel_rfl) (by simp) ?_
          refine AllReadyH.cons (o := { dst := some 30, op := Op.load 23 (Operand.tmp 29), type := 23, pos := "l05_catalog.go:140", after := #[{ on := 0, ground := Ground.data }], guard := none }) rfl (fun K hK => ?_) AllReadyH.nil
          have c6 := hV2.1.2 0 (by simp)
          have l6 := hV2.1.1
          simp only [List.getElem?_cons_zero] at c6
          go_simp
          try go_wp2_with fail
          refine hK.out _ _ trivial (fun _ => ?_)
          clear hK K
          try simp only [Act.put, List.setIfInBounds_toArray, List.set_cons_zero, List.set_cons_succ]
          clear c6 l6
          refine wpAnyH_ready (rs := [5]) (by kernel_rfl) (by simp) ?_
          refine AllReadyH.cons (o := { dst := some 34, op := Op.call { callee := Callee.builtin Builtin.append, args := #[Operand.tmp 30, Operand.tmp 33], argTypes := #[23, 23] }, type := 23, pos := "l05_catalog.go:140", after := #[{ on := 1, ground := Ground.data }, { on := 4, ground := Ground.data }, { on := 3, ground := Ground.chain }], guard := none }) rfl (fun K hK => ?_) AllReadyH.nil
          obtain ⟨xs, x1, x2, x3, x4, x5⟩ := hM2
          have x2' := x2
          rw [HLL.out] at x2'
          refine DocR.step_append_own rfl _ _ 23 rfl (bV + 1) 37 i0 (.agg #[.string ⟨#[]⟩, .int .i64 0, .bool false, .int .i64 0, .int .i64 0, .slice none 0 0]) 6 72 Tryd.underlying23 hi hz0 hz1 hz2 rfl gsz6 _ _ _ rfl x2' ⟨bN, 0, none⟩ 1 1 [.string (mm k).n, .int .i64 (mm k).g, .bool (mm k).wh, .int .i64 (mm k).f, .int .i64 (mm k).l, .slice ta n tc] rfl rfl hnw (by intro u hu; simp at hu; rcases hu with rfl | rfl | rfl | rfl | rfl | rfl <;> rfl) sz1 sz2 (hV2.1.1) ?_
          intro v9 w9 hown hgrow hne
          have hA3 := hA2.grown hgrow (fun e => by have := (x2'.lt _ e.symm).1; omega)
          have hG3 := gnewR hG2 hgrow (fun X e => by have := (x2'.lt _ e).1; omega)
          have hR3 := blkW_grown hR2 hgrow (fun e => by have := (x2'.lt _ e.symm).1; omega)
          have hV3 := blkW_grown hV2 hgrow (fun e => by have := (x2'.lt _ e.symm).1; omega)
          have hM3 : PM (k + 1) ≠ none → MsO (bV + 1) v9 (LM (k + 1)) w9 := by
            intro hq9
            obtain ⟨e1, e2⟩ := HNT.out hq9
            have hn9 := hN2
            have ho9 := hown
            rw [e1, e2] at hn9
            rw [e1] at ho9
            rw [HLM.out]
            exact mso_snoc x1 x3 x4 x5 hbl hn9 x2 hgrow (by rw [HLL.out]; exact ho9)
          obtain ⟨sb, sc, rfl⟩ := own_form hown
          clear hown hgrow hne hnw x1 x2 x3 x4 x5 x2'
          refine hK.out _ _ trivial (fun _ => ?_)
          clear hK K
          try simp only [Act.put, List.setIfInBounds_toArray, List.set_cons_zero, List.set_cons_succ]
          refine wpAnyH_take (i := 6) (oi := { dst := some 35, op := Op.fieldAddr 26 (Operand.tmp 4) 0, type := 0, pos := "l05_catalog.go:140", after := #[{ on := 0, ground := Ground.phase }, { on := 1, ground := Ground.phase }, { on := 2, ground := Ground.phase }, { on := 3, ground := Ground.phase }, { on := 4, ground := Ground.phase }, { on := 5, ground := Ground.phase }], guard := none }) (v := ?_) rfl (by kernel_rfl) (by kernel_rfl) (by kernel_rfl) (fun _ _ _ h => h) (Or.inl ⟨by rfl, ?_⟩) (by assumption) ?_
          rotate_left
          · (intro w hSw; (try dsimp only at hSw); go_simp) <;> with_reducible rfl
          try simp only [Act.put, List.setIfInBounds_toArray, List.set_cons_zero, List.set_cons_succ]
          refine wpAnyH_ready (rs := [7]) (by kernel_rfl) (by simp) ?_
          refine AllReadyH.cons (o := { dst := none, op := Op.store 23 (Operand.tmp 35) (Operand.tmp 34), type := 0, pos := "l05_catalog.go:140", after := #[{ on := 6, ground := Ground.data }, { on := 5, ground := Ground.data }, { on := 5, ground := Ground.chain }, { on := 0, ground := Ground.phase }, { on := 1, ground := Ground.phase }, { on := 2, ground := Ground.phase }, { on := 3, ground := Ground.phase }, { on := 4, ground := Ground.phase }, { on := 5, ground := Ground.phase }], guard := none }) rfl (fun K hK => ?_) AllReadyH.nil
          have c6 := hV3.1.2 0 (by simp)
          have l6 := hV3.1.1
          have f6 := hV3.2 0 (by simp)
          simp only [List.getElem?_cons_zero] at c6
          go_simp
          try go_wp2_with fail
          have hg := RowG.grown_set w9 bV 0 (.slice (some ⟨sb, 0, none⟩) (k + 1) sc)
          have hA9 := hA3.grown hg (by first | (simp; done) | (simp; omega))
          have hG9 := gnewG hG3 hg (by omega)
          have hR9 := blkW_grown hR3 hg (by first | (simp; done) | (simp; omega))
          have hV9 := hV3.set 0 (.slice (some ⟨sb, 0, none⟩) (k + 1) sc) (by simp)
          have hM9 := fun hq9 => (hM3 hq9).far hg (by omega)
          simp only [List.set_cons_zero] at hV9
          refine hK.out _ _ trivial (fun _ => ?_)
          clear hK K
          try simp only [Act.put, List.setIfInBounds_toArray, List.set_cons_zero, List.set_cons_succ]
          generalize (w9.setCell ⟨bV, 0, none⟩ (.slice (some ⟨sb, 0, none⟩) (k + 1) sc)) = kk at *
          refine wpAnyH_done (by kernel_rfl) ?_ _
          have HA9 := hid_intro hA9
          have HG9 := hid_intro hG9
          have HR9 := hid_intro hR9
          have HV9 := hid_intro hV9
          have HM9 := hid_intro hM9
          clear hA9 hG9 hR9 hV9 hM9 hg c6 l6 f6
          go_wp2_with fail
          go_roundw
          case rel => exact ⟨k + 1, .slice (some ⟨sb, 0, none⟩) (k + 1) sc, by omega, by go_num, HA9, HG9, HR9, HV9, HM9⟩
          case measure => simp [intOf]; omega
    · rcases exit_two heq hall hk with hex | ⟨hex, hd⟩
      · have HKC : Hid (PM C ≠ none → k = C) := hid_intro hall
        replace HA : Hid (SAfter (w.heap.size + 1) s (PM C) wr) := hid_intro (by rw [← heq]; exact HA.out)
        replace HM : Hid (PM C ≠ none → MsO (bV + 1) v (LM C) wr) := hid_intro (fun h9 => by have e9 := hall h9; subst e9; exact HM.out h9)
        clear heq hall
        go_wp2_with fail
        clear gl g0 g1 g2 gf0 gf1 gf2
        refine (RC2.out _ HA.out).mono ?_
        rintro e wD ⟨rfl, hA, hq⟩
        replace HA := hid_intro hA
        replace HG := hid_intro (gtrans HG.out hq)
        replace HV := hid_intro (blkW_grown HV.out hq (by first | (simp; done) | (simp; omega)))
        replace HR := hid_intro (blkW_grown HR.out hq (by first | (simp; done) | (simp; omega)))
        replace HM := hid_intro (fun h9 => (HM.out h9).far hq (by omega))
        clear hA hq
        go_wp2_with fail
        go_loopw [6] (fun z wx => ∃ (i : Nat) (ca : Option Addr) (cc : Nat), i ≤ D ∧ z = .int .i64 ((D : Int) - (i : Int)) ∧ Hid (SAfter (w.heap.size + 1) s (PC i) wx) ∧ Hid (w.grownBy wx (some (w.heap.size + 1))) ∧ Hid (BlkW bV [v, .slice ca i cc] wx) ∧ Hid (wx.ownsRow (bV + 1) 53 2 (.slice ca i cc) i (cellsAll Cr.cells (LC i))) ∧ Hid (BlkW w.heap.size [.slice none 0 0, .slice none 0 0, .int .i64 0] wx) ∧ Hid (PM C ≠ none → MsO (bV + 1) v (LM C) wx)) (fun z _ => (intOf z).toNat)
        case atStart => exact ⟨0, none, 0, by omega, by simp, HA, HG, HV, hid_intro (by rw [HC0.out]; exact World.ownsRow_nil _ _ _ _), HR, HM⟩
        case round =>
          clear HA HG HV HR HM
          obtain ⟨i, ca, cc, hki, rfl, HA, HG, HV, HO, HR, HM⟩ := hrel
          obtain ⟨pp, hSR⟩ := HA.out.open
          obtain ⟨gl, g0, g1, g2, gf0, gf1, gf2⟩ := hSR
          rcases exit_of HNC.out hki with ⟨hlt3, hno3⟩ | ⟨heq3, hall3⟩
          · have hlt4 : (0 : Int) < (D : Int) - (i : Int) := by omega
            rw [decide_eq_false hno3] at g2
            obtain ⟨om, rd1, rd2⟩ := RH.out i
            have RD1 := hid_intro rd1
            have RD2 := hid_intro rd2
            clear rd1 rd2 hno3
            have HLN := hid_intro (HCM.out i)
            generalize hh i = X at *
            generalize ss i = Y at *
            go_wp2_with fail
            clear gl g0 g1 g2 gf0 gf1 gf2
            refine (RD1.out _ HA.out).mono ?_
            rintro e u1 ⟨rfl, hA, hq⟩
            replace HA := hid_intro hA
            replace HG := hid_intro (gtrans HG.out hq)
            replace HV := hid_intro (blkW_grown HV.out hq (by first | (simp; done) | (simp; omega)))
            replace HO := hid_intro (own_keepG HO.out hq (by omega))
            replace HR := hid_intro (blkW_grown HR.out hq (by first | (simp; done) | (simp; omega)))
            replace HM := hid_intro (fun h9 => (HM.out h9).far hq (by omega))
            clear hA hq
            obtain ⟨u2, hu2⟩ : ∃ z, z = u1.alloc (.cells #[.string X, .int .i64 0] 53) := ⟨_, rfl⟩
            have al : Below u1.heap.size u1 u2 := by rw [hu2]; exact (Below.refl _ _).alloc (Nat.le_refl _) _
            have HQ : Hid (BlkW u1.heap.size [.string X, .int .i64 0] u2) := hid_intro (by rw [hu2]; exact BlkW.new u1 [.string X, .int .i64 0] 53)
            have hlq : bV < u1.heap.size := HV.out.1.1
            have HQO : Hid (∀ b, (.slice ca i cc : Value).ownBlock = some b → b < u1.heap.size) := hid_intro (fun b hb => (HO.out.lt b hb).2)
            have HMu := HM
            have HX := hid_intro (EvtR.rgrown al (some (w.heap.size + 1)))
            replace HA := hid_intro (satt HA.out al)
            replace HG := hid_intro (gtrans HG.out (EvtR.rgrown al _))
            replace HV := hid_intro (HV.out.below al)
            replace HO := hid_intro (RowG.own_below HO.out al)
            replace HR := hid_intro (HR.out.below al)
            replace HM := hid_intro (fun h9 => (HM.out h9).below al)
            have HW := hid_intro hu2
            obtain ⟨bQ, hbQ⟩ : ∃ z, z = u1.heap.size := ⟨_, rfl⟩
            rw [← hbQ] at HQ hlq HQO
            have HBQ := hid_intro hbQ
            clear hu2 hbQ al
            go_wp2_with fail
            rw [← HW.out, ← HBQ.out]
            clear HW
            refine (RD2.out _ HA.out).mono ?_
            rintro e u3 ⟨rfl, hA, hq⟩
            replace HQ := hid_intro (blkW_grown HQ.out hq (by first | (simp; done) | (simp; omega)))
            replace HX := hid_intro (gtrans HX.out hq)
            replace HA := hid_intro hA
            replace HG := hid_intro (gtrans HG.out hq)
            replace HV := hid_intro (blkW_grown HV.out hq (by first | (simp; done) | (simp; omega)))
            replace HO := hid_intro (own_keepG HO.out hq (by omega))
            replace HR := hid_intro (blkW_grown HR.out hq (by first | (simp; done) | (simp; omega)))
            replace HM := hid_intro (fun h9 => (HM.out h9).far hq (by omega))
            clear hA hq
            have hl := HQ.out.1.1
            have vl := HV.out.1.1
            have v7 := HV.out.1.2 1 (by simp)
            have f7 := HV.out.2 1 (by simp)
            have hqv : bQ ≠ bV := by omega
            have hvq : bV ≠ bQ := by omega
            have hcc := HQ.out.1.2 1 (by simp)
            have hc0 := HQ.out.1.2 0 (by simp)
            have hff := HQ.out.2 1 (by simp)
            simp only [List.getElem?_cons_zero, List.getElem?_cons_succ] at hcc hc0 v7
            have hgs := RowG.grown_set u3 bQ 1 (.int .i64 Y)
            have HXs := hid_intro (gnewG HX.out hgs (Nat.le_of_eq HBQ.out.symm))
            replace HA := hid_intro (HA.out.grown hgs (by first | (simp; done) | (simp; omega)))
            replace HG := hid_intro (gnewG HG.out hgs (by omega))
            replace HV := hid_intro (blkW_grown HV.out hgs (by first | (simp; done) | (simp; omega)))
            replace HO := hid_intro (own_keepO HO.out hgs (fun b hb => by have := HQO.out b hb; simp; omega))
            replace HR := hid_intro (blkW_grown HR.out hgs (by first | (simp; done) | (simp; omega)))
            replace HM := hid_intro (fun h9 => (HMu.out h9).far HXs.out (by omega))
            have hnw : ∀ j u, ([.string X, .int .i64 Y] : List Value)[j]? = some u → ((u3.setCell ⟨bQ, 1, none⟩ (.int .i64 Y)).alloc (.cells #[.string X, .int .i64 Y] 53)).cell? ((⟨u3.heap.size, 0, none⟩ : Addr).add j) = some u := by
              have h := new_cells (u3.setCell ⟨bQ, 1, none⟩ (.int .i64 Y)) [.string X, .int .i64 Y] 53
              simpa using h
            have HAL2 := hid_intro (fun b (hb : (.slice ca i cc : Value).ownBlock = some b) => (HO.out.lt b hb).1)
            have hbv : bV + 1 ≤ u3.heap.size := by omega
            clear hgs
            go_wp2_with (at_builtin; refine wpList_append_own _ rfl _ _ 24 rfl (bV + 1) 53 j0 (.agg #[.string ⟨#[]⟩, .int .i64 0]) 2 24 Tryd.underlying24 gi gz0 gz1 gz2 rfl (by decide) _ _ _ rfl (HO.out.alloc _) ⟨u3.heap.size, 0, none⟩ 1 1 [.string X, .int .i64 Y] rfl rfl hnw (cr_one _ _) ?d3 ?d4 ?d5 ?_)
            case d3 => unfold maxLen; omega
            case d4 => omega
            case d5 => simp; omega
            intro v9 w9 hown hgrow hne
            have hO9 : w9.ownsRow (bV + 1) 53 2 v9 (i + 1) (cellsAll Cr.cells (LC (i + 1))) := by rw [HLN.out, cellsAll_snoc]; exact hown
            have al := ((Below.refl _ (u3.setCell ⟨bQ, 1, none⟩ (.int .i64 Y))).alloc (Nat.le_refl _) (.cells #[.string X, .int .i64 Y] 53))
            replace HR := hid_intro (blkW_grown (HR.out.below al) hgrow (fun e => by have := HAL2.out _ e.symm; omega))
            replace HM := hid_intro (fun h9 => ((HM.out h9).below al).other (RowG.own_below HO.out al) hgrow (by decide) (by decide))
            replace HA := hid_intro ((satt HA.out al).grown hgrow (fun e => by have := HAL2.out _ e.symm; omega))
            replace HG := hid_intro (gnewR (gtrans HG.out (EvtR.rgrown al _)) hgrow (fun X e => by have := HAL2.out _ e; omega))
            replace HV := hid_intro (blkW_grown (HV.out.below al) hgrow (fun e => by have := HAL2.out _ e.symm; omega))
            obtain ⟨sb, sc, rfl⟩ := own_form hO9
            have HO9 := hid_intro hO9
            clear hown hgrow hne hnw hO9 al hl hcc hc0 hff vl v7 f7 HO HQ HAL2 HBQ
            have vl := HV.out.1.1
            have v7 := HV.out.1.2 1 (by simp)
            have f7 := HV.out.2 1 (by simp)
            simp only [List.getElem?_cons_zero, List.getElem?_cons_succ] at v7
            have hgs := RowG.grown_set w9 bV 1 (.slice (some ⟨sb, 0, none⟩) (i + 1) sc)
            have HA9 := hid_intro (HA.out.grown hgs (by first | (simp; done) | (simp; omega)))
            have HG9 := hid_intro (gnewG HG.out hgs (by omega))
            have HV9 := hid_intro (HV.out.set 1 (.slice (some ⟨sb, 0, none⟩) (i + 1) sc) (by simp))
            have HO8 := hid_intro (own_keepG HO9.out hgs (by omega))
            have HR9 := hid_intro (blkW_grown HR.out hgs (by first | (simp; done) | (simp; omega)))
            have HM9 := hid_intro (fun h9 => (HM.out h9).far hgs (by omega))
            simp only [List.set_cons_zero, List.set_cons_succ] at HV9
            clear hgs HA HG HV HO9 HR HM
            go_wp2_with fail
            go_roundw
            case rel => exact ⟨i + 1, some ⟨sb, 0, none⟩, sc, by omega, by go_num, HA9, HG9, HV9, HO8, HR9, HM9⟩
            case measure => simp [intOf]; omega
          · rcases exit_two heq3 hall3 hki with hex3 | ⟨hex3, hd3⟩
            · by_cases hn : PC i = none
              · have HNO : Hid (¬ (PC D ≠ none ∧ s.size ≠ 0 ∧ T = s)) := hid_intro (fun q => q.1 (by rw [← heq3]; exact hn))
                rw [decide_eq_true hn] at g2
                clear heq3 hall3 hn
                have hp9 := blkW_pt HR.out (n := 3) rfl
                have hl9 := hp9.lt
                obtain ⟨ov0, r0⟩ := hp9.has 0 (by omega)
                have f0 := hp9.free 0 (by omega)
                obtain ⟨ov1, r1⟩ := hp9.has 1 (by omega)
                have f1 := hp9.free 1 (by omega)
                obtain ⟨ov2, r2⟩ := hp9.has 2 (by omega)
                have f2 := hp9.free 2 (by omega)
                have hgf := StR.stL_grown w.heap.size [.slice none 0 0, .slice none 0 0, .int .i64 3] 0 wr
                have hbb : Below w.heap.size w wr := (Below.refl _ _).grown HG.out (Nat.le_refl _) (fun k e => by simp only [Option.some.injEq] at e; first | omega | (subst e; omega))
                have HBF := hid_intro (hbb.grown hgf hbb.size (fun k e => by simp only [Option.some.injEq] at e; first | omega | (subst e; omega)))
                simp only [StR.stL, Nat.zero_add, Nat.reduceAdd] at HBF
                clear hgf hp9 hbb
                go_wp2_with fail
                refine bodyPost_ret (v := .agg #[.slice none 0 0, .slice none 0 0, .int .i64 3]) (by simp [results, Tryd.results13, go_sem, r0, r1, r2]) rfl (spc_bad HNO.out HBF.out)
              · have hDn : PC D ≠ none := by rw [← heq3]; exact hn
                obtain rfl : i = D := hall3 hDn
                have hCn : PM C ≠ none := by
                  intro q
                  have := stay HNC.out (HNX.out q) i
                  rw [Nat.zero_add] at this
                  exact hn this
                obtain rfl : k = C := HKC.out hCn
                replace HM := hid_intro (HM.out hCn)
                obtain ⟨ma, mc, rfl, hme⟩ := HM.out.mes
                have HME := hid_intro hme
                rw [HML.out k] at HM HV HME
                clear hme
                rw [decide_eq_false hn] at g2
                clear heq3 hall3
                by_cases h0 : s.size = 0
                · have he := EvtR.empty_of s h0
                  have HNO : Hid (¬ (PC i ≠ none ∧ s.size ≠ 0 ∧ T = s)) := hid_intro (fun q => q.2.1 h0)
                  have hp9 := blkW_pt HR.out (n := 3) rfl
                  have hl9 := hp9.lt
                  obtain ⟨ov0, r0⟩ := hp9.has 0 (by omega)
                  have f0 := hp9.free 0 (by omega)
                  obtain ⟨ov1, r1⟩ := hp9.has 1 (by omega)
                  have f1 := hp9.free 1 (by omega)
                  obtain ⟨ov2, r2⟩ := hp9.has 2 (by omega)
                  have f2 := hp9.free 2 (by omega)
                  have hgf := StR.stL_grown w.heap.size [.slice none 0 0, .slice none 0 0, .int .i64 3] 0 wr
                  have hbb : Below w.heap.size w wr := (Below.refl _ _).grown HG.out (Nat.le_refl _) (fun k e => by simp only [Option.some.injEq] at e; first | omega | (subst e; omega))
                  have HBF := hid_intro (hbb.grown hgf hbb.size (fun k e => by simp only [Option.some.injEq] at e; first | omega | (subst e; omega)))
                  simp only [StR.stL, Nat.zero_add, Nat.reduceAdd] at HBF
                  clear hgf hp9 hbb
                  go_wp2_with fail
                  refine bodyPost_ret (v := .agg #[.slice none 0 0, .slice none 0 0, .int .i64 3]) (by simp [results, Tryd.results13, go_sem, r0, r1, r2]) rfl (spc_bad HNO.out HBF.out)
                · obtain ⟨he, he2⟩ := EvtR.full_of s h0
                  have HCW := hid_intro (HWB.out ma mc ca cc wr HME.out (own_crs HO.out (HCL.out i).symm))
                  have v0 : wr.cell? ⟨bV, 0, none⟩ = some (.slice ma k mc) := HV.out.1.2 0 (by simp)
                  have v1 : wr.cell? ⟨bV, 1, none⟩ = some (.slice ca i cc) := HV.out.1.2 1 (by simp)
                  have vl := HV.out.1.1
                  by_cases hTs : T = s
                  · have hq : (T.toList == s.toList) = true := by rw [hTs]; simp
                    have HOK : Hid (PC i ≠ none ∧ s.size ≠ 0 ∧ T = s) := hid_intro ⟨hn, h0, hTs⟩
                    clear hTs
                    go_wp2_with fail
                    refine HCW.out.mono ?_
                    rintro e wJ ⟨rfl, hbJ⟩
                    replace HG := hid_intro (gtrans HG.out (EvtR.rgrown hbJ _))
                    replace HR := hid_intro (HR.out.below hbJ)
                    replace HV := hid_intro (HV.out.below hbJ)
                    replace HM := hid_intro (HM.out.below hbJ)
                    replace HO := hid_intro (RowG.own_below HO.out hbJ)
                    clear hbJ HA gl g0 g1 g2 gf0 gf1 gf2 HCW v0 v1 vl
                    have v0 : wJ.cell? ⟨bV, 0, none⟩ = some (.slice ma k mc) := HV.out.1.2 0 (by simp)
                    have v1 : wJ.cell? ⟨bV, 1, none⟩ = some (.slice ca i cc) := HV.out.1.2 1 (by simp)
                    have vl := HV.out.1.1
                    have hp9 := blkW_pt HR.out (n := 3) rfl
                    have hl9 := hp9.lt
                    obtain ⟨ov0, r0⟩ := hp9.has 0 (by omega)
                    have f0 := hp9.free 0 (by omega)
                    obtain ⟨ov1, r1⟩ := hp9.has 1 (by omega)
                    have f1 := hp9.free 1 (by omega)
                    obtain ⟨ov2, r2⟩ := hp9.has 2 (by omega)
                    have f2 := hp9.free 2 (by omega)
                    have hgf := StR.stL_grown w.heap.size [.slice ma k mc, .slice ca i cc, .int .i64 0] 0 wJ
                    have hbb : Below w.heap.size w wJ := (Below.refl _ _).grown HG.out (Nat.le_refl _) (fun k e => by simp only [Option.some.injEq] at e; first | omega | (subst e; omega))
                    have HBF := hid_intro (hbb.grown hgf hbb.size (fun k e => by simp only [Option.some.injEq] at e; first | omega | (subst e; omega)))
                    have HMF := hid_intro (HM.out.far hgf (by omega))
                    have HCF := hid_intro (own_keepG HO.out hgf (by omega))
                    simp only [StR.stL, Nat.zero_add, Nat.reduceAdd] at HBF HMF HCF
                    clear hgf hp9 hbb
                    go_wp2_with fail
                    refine bodyPost_ret (v := .agg #[.slice ma k mc, .slice ca i cc, .int .i64 0]) (by simp [results, Tryd.results13, go_sem, r0, r1, r2]) rfl (spc_ok HOK.out (HMF.out.low (by omega)) (own_low HCF.out (by omega)) HBF.out)
                  · have hq : (T.toList == s.toList) = false := by
                      simp only [beq_eq_false_iff_ne, ne_eq]
                      exact fun h => hTs (ba_inj h)
                    have HNO : Hid (¬ (PC i ≠ none ∧ s.size ≠ 0 ∧ T = s)) := hid_intro (fun q => hTs q.2.2)
                    have hqn : T.toList ≠ s.toList := fun h => hTs (ba_inj h)
                    clear hTs
                    go_wp2_with fail
                    refine HCW.out.mono ?_
                    rintro e wJ ⟨rfl, hbJ⟩
                    replace HG := hid_intro (gtrans HG.out (EvtR.rgrown hbJ _))
                    replace HR := hid_intro (HR.out.below hbJ)
                    replace HV := hid_intro (HV.out.below hbJ)
                    replace HM := hid_intro (HM.out.below hbJ)
                    replace HO := hid_intro (RowG.own_below HO.out hbJ)
                    clear hbJ HA gl g0 g1 g2 gf0 gf1 gf2 HCW v0 v1 vl
                    have hp9 := blkW_pt HR.out (n := 3) rfl
                    have hl9 := hp9.lt
                    obtain ⟨ov0, r0⟩ := hp9.has 0 (by omega)
                    have f0 := hp9.free 0 (by omega)
                    obtain ⟨ov1, r1⟩ := hp9.has 1 (by omega)
                    have f1 := hp9.free 1 (by omega)
                    obtain ⟨ov2, r2⟩ := hp9.has 2 (by omega)
                    have f2 := hp9.free 2 (by omega)
                    have hgf := StR.stL_grown w.heap.size [.slice none 0 0, .slice none 0 0, .int .i64 3] 0 wJ
                    have hbb : Below w.heap.size w wJ := (Below.refl _ _).grown HG.out (Nat.le_refl _) (fun k e => by simp only [Option.some.injEq] at e; first | omega | (subst e; omega))
                    have HBF := hid_intro (hbb.grown hgf hbb.size (fun k e => by simp only [Option.some.injEq] at e; first | omega | (subst e; omega)))
                    simp only [StR.stL, Nat.zero_add, Nat.reduceAdd] at HBF
                    clear hgf hp9 hbb
                    go_wp2_with fail
                    refine bodyPost_ret (v := .agg #[.slice none 0 0, .slice none 0 0, .int .i64 3]) (by simp [results, Tryd.results13, go_sem, r0, r1, r2]) rfl (spc_bad HNO.out HBF.out)
            · have hn : PC i = none := of_decide_eq_true hd3
              have HNO : Hid (¬ (PC D ≠ none ∧ s.size ≠ 0 ∧ T = s)) := hid_intro (fun q => q.1 (by rw [← heq3]; exact hn))
              rw [hd3] at g2
              clear heq3 hall3 hn
              have hp9 := blkW_pt HR.out (n := 3) rfl
              have hl9 := hp9.lt
              obtain ⟨ov0, r0⟩ := hp9.has 0 (by omega)
              have f0 := hp9.free 0 (by omega)
              obtain ⟨ov1, r1⟩ := hp9.has 1 (by omega)
              have f1 := hp9.free 1 (by omega)
              obtain ⟨ov2, r2⟩ := hp9.has 2 (by omega)
              have f2 := hp9.free 2 (by omega)
              have hgf := StR.stL_grown w.heap.size [.slice none 0 0, .slice none 0 0, .int .i64 3] 0 wr
              have hbb : Below w.heap.size w wr := (Below.refl _ _).grown HG.out (Nat.le_refl _) (fun k e => by simp only [Option.some.injEq] at e; first | omega | (subst e; omega))
              have HBF := hid_intro (hbb.grown hgf hbb.size (fun k e => by simp only [Option.some.injEq] at e; first | omega | (subst e; omega)))
              simp only [StR.stL, Nat.zero_add, Nat.reduceAdd] at HBF
              clear hgf hp9 hbb
              go_wp2_with fail
              refine bodyPost_ret (v := .agg #[.slice none 0 0, .slice none 0 0, .int .i64 3]) (by simp [results, Tryd.results13, go_sem, r0, r1, r2]) rfl (spc_bad HNO.out HBF.out)
      · rw [hd] at g2
        clear hd
        have HKC : Hid (PM C ≠ none → k = C) := hid_intro hall
        replace HA : Hid (SAfter (w.heap.size + 1) s (PM C) wr) := hid_intro (by rw [← heq]; exact HA.out)
        replace HM : Hid (PM C ≠ none → MsO (bV + 1) v (LM C) wr) := hid_intro (fun h9 => by have e9 := hall h9; subst e9; exact HM.out h9)
        clear heq hall
        go_wp2_with fail
        clear gl g0 g1 g2 gf0 gf1 gf2
        refine (RC2.out _ HA.out).mono ?_
        rintro e wD ⟨rfl, hA, hq⟩
        replace HA := hid_intro hA
        replace HG := hid_intro (gtrans HG.out hq)
        replace HV := hid_intro (blkW_grown HV.out hq (by first | (simp; done) | (simp; omega)))
        replace HR := hid_intro (blkW_grown HR.out hq (by first | (simp; done) | (simp; omega)))
        replace HM := hid_intro (fun h9 => (HM.out h9).far hq (by omega))
        clear hA hq
        go_wp2_with fail
        go_loopw [6] (fun z wx => ∃ (i : Nat) (ca : Option Addr) (cc : Nat), i ≤ D ∧ z = .int .i64 ((D : Int) - (i : Int)) ∧ Hid (SAfter (w.heap.size + 1) s (PC i) wx) ∧ Hid (w.grownBy wx (some (w.heap.size + 1))) ∧ Hid (BlkW bV [v, .slice ca i cc] wx) ∧ Hid (wx.ownsRow (bV + 1) 53 2 (.slice ca i cc) i (cellsAll Cr.cells (LC i))) ∧ Hid (BlkW w.heap.size [.slice none 0 0, .slice none 0 0, .int .i64 0] wx) ∧ Hid (PM C ≠ none → MsO (bV + 1) v (LM C) wx)) (fun z _ => (intOf z).toNat)
        case atStart => exact ⟨0, none, 0, by omega, by simp, HA, HG, HV, hid_intro (by rw [HC0.out]; exact World.ownsRow_nil _ _ _ _), HR, HM⟩
        case round =>
          clear HA HG HV HR HM
          obtain ⟨i, ca, cc, hki, rfl, HA, HG, HV, HO, HR, HM⟩ := hrel
          obtain ⟨pp, hSR⟩ := HA.out.open
          obtain ⟨gl, g0, g1, g2, gf0, gf1, gf2⟩ := hSR
          rcases exit_of HNC.out hki with ⟨hlt3, hno3⟩ | ⟨heq3, hall3⟩
          · have hlt4 : (0 : Int) < (D : Int) - (i : Int) := by omega
            rw [decide_eq_false hno3] at g2
            obtain ⟨om, rd1, rd2⟩ := RH.out i
            have RD1 := hid_intro rd1
            have RD2 := hid_intro rd2
            clear rd1 rd2 hno3
            have HLN := hid_intro (HCM.out i)
            generalize hh i = X at *
            generalize ss i = Y at *
            go_wp2_with fail
            clear gl g0 g1 g2 gf0 gf1 gf2
            refine (RD1.out _ HA.out).mono ?_
            rintro e u1 ⟨rfl, hA, hq⟩
            replace HA := hid_intro hA
            replace HG := hid_intro (gtrans HG.out hq)
            replace HV := hid_intro (blkW_grown HV.out hq (by first | (simp; done) | (simp; omega)))
            replace HO := hid_intro (own_keepG HO.out hq (by omega))
            replace HR := hid_intro (blkW_grown HR.out hq (by first | (simp; done) | (simp; omega)))
            replace HM := hid_intro (fun h9 => (HM.out h9).far hq (by omega))
            clear hA hq
            obtain ⟨u2, hu2⟩ : ∃ z, z = u1.alloc (.cells #[.string X, .int .i64 0] 53) := ⟨_, rfl⟩
            have al : Below u1.heap.size u1 u2 := by rw [hu2]; exact (Below.refl _ _).alloc (Nat.le_refl _) _
            have HQ : Hid (BlkW u1.heap.size [.string X, .int .i64 0] u2) := hid_intro (by rw [hu2]; exact BlkW.new u1 [.string X, .int .i64 0] 53)
            have hlq : bV < u1.heap.size := HV.out.1.1
            have HQO : Hid (∀ b, (.slice ca i cc : Value).ownBlock = some b → b < u1.heap.size) := hid_intro (fun b hb => (HO.out.lt b hb).2)
            have HMu := HM
            have HX := hid_intro (EvtR.rgrown al (some (w.heap.size + 1)))
            replace HA := hid_intro (satt HA.out al)
            replace HG := hid_intro (gtrans HG.out (EvtR.rgrown al _))
            replace HV := hid_intro (HV.out.below al)
            replace HO := hid_intro (RowG.own_below HO.out al)
            replace HR := hid_intro (HR.out.below al)
            replace HM := hid_intro (fun h9 => (HM.out h9).below al)
            have HW := hid_intro hu2
            obtain ⟨bQ, hbQ⟩ : ∃ z, z = u1.heap.size := ⟨_, rfl⟩
            rw [← hbQ] at HQ hlq HQO
            have HBQ := hid_intro hbQ
            clear hu2 hbQ al
            go_wp2_with fail
            rw [← HW.out, ← HBQ.out]
            clear HW
            refine (RD2.out _ HA.out).mono ?_
            rintro e u3 ⟨rfl, hA, hq⟩
            replace HQ := hid_intro (blkW_grown HQ.out hq (by first | (simp; done) | (simp; omega)))
            replace HX := hid_intro (gtrans HX.out hq)
            replace HA := hid_intro hA
            replace HG := hid_intro (gtrans HG.out hq)
            replace HV := hid_intro (blkW_grown HV.out hq (by first | (simp; done) | (simp; omega)))
            replace HO := hid_intro (own_keepG HO.out hq (by omega))
            replace HR := hid_intro (blkW_grown HR.out hq (by first | (simp; done) | (simp; omega)))
            replace HM := hid_intro (fun h9 => (HM.out h9).far hq (by omega))
            clear hA hq
            have hl := HQ.out.1.1
            have vl := HV.out.1.1
            have v7 := HV.out.1.2 1 (by simp)
            have f7 := HV.out.2 1 (by simp)
            have hqv : bQ ≠ bV := by omega
            have hvq : bV ≠ bQ := by omega
            have hcc := HQ.out.1.2 1 (by simp)
            have hc0 := HQ.out.1.2 0 (by simp)
            have hff := HQ.out.2 1 (by simp)
            simp only [List.getElem?_cons_zero, List.getElem?_cons_succ] at hcc hc0 v7
            have hgs := RowG.grown_set u3 bQ 1 (.int .i64 Y)
            have HXs := hid_intro (gnewG HX.out hgs (Nat.le_of_eq HBQ.out.symm))
            replace HA := hid_intro (HA.out.grown hgs (by first | (simp; done) | (simp; omega)))
            replace HG := hid_intro (gnewG HG.out hgs (by omega))
            replace HV := hid_intro (blkW_grown HV.out hgs (by first | (simp; done) | (simp; omega)))
            replace HO := hid_intro (own_keepO HO.out hgs (fun b hb => by have := HQO.out b hb; simp; omega))
            replace HR := hid_intro (blkW_grown HR.out hgs (by first | (simp; done) | (simp; omega)))
            replace HM := hid_intro (fun h9 => (HMu.out h9).far HXs.out (by omega))
            have hnw : ∀ j u, ([.string X, .int .i64 Y] : List Value)[j]? = some u → ((u3.setCell ⟨bQ, 1, none⟩ (.int .i64 Y)).alloc (.cells #[.string X, .int .i64 Y] 53)).cell? ((⟨u3.heap.size, 0, none⟩ : Addr).add j) = some u := by
              have h := new_cells (u3.setCell ⟨bQ, 1, none⟩ (.int .i64 Y)) [.string X, .int .i64 Y] 53
              simpa using h
            have HAL2 := hid_intro (fun b (hb : (.slice ca i cc : Value).ownBlock = some b) => (HO.out.lt b hb).1)
            have hbv : bV + 1 ≤ u3.heap.size := by omega
            clear hgs
            go_wp2_with (at_builtin; refine wpList_append_own _ rfl _ _ 24 rfl (bV + 1) 53 j0 (.agg #[.string ⟨#[]⟩, .int .i64 0]) 2 24 Tryd.underlying24 gi gz0 gz1 gz2 rfl (by decide) _ _ _ rfl (HO.out.alloc _) ⟨u3.heap.size, 0, none⟩ 1 1 [.string X, .int .i64 Y] rfl rfl hnw (cr_one _ _) ?d3 ?d4 ?d5 ?_)
            case d3 => unfold maxLen; omega
            case d4 => omega
            case d5 => simp; omega
            intro v9 w9 hown hgrow hne
            have hO9 : w9.ownsRow (bV + 1) 53 2 v9 (i + 1) (cellsAll Cr.cells (LC (i + 1))) := by rw [HLN.out, cellsAll_snoc]; exact hown
            have al := ((Below.refl _ (u3.setCell ⟨bQ, 1, none⟩ (.int .i64 Y))).alloc (Nat.le_refl _) (.cells #[.string X, .int .i64 Y] 53))
            replace HR := hid_intro (blkW_grown (HR.out.below al) hgrow (fun e => by have := HAL2.out _ e.symm; omega))
            replace HM := hid_intro (fun h9 => ((HM.out h9).below al).other (RowG.own_below HO.out al) hgrow (by decide) (by decide))
            replace HA := hid_intro ((satt HA.out al).grown hgrow (fun e => by have := HAL2.out _ e.symm; omega))
            replace HG := hid_intro (gnewR (gtrans HG.out (EvtR.rgrown al _)) hgrow (fun X e => by have := HAL2.out _ e; omega))
            replace HV := hid_intro (blkW_grown (HV.out.below al) hgrow (fun e => by have := HAL2.out _ e.symm; omega))
            obtain ⟨sb, sc, rfl⟩ := own_form hO9
            have HO9 := hid_intro hO9
            clear hown hgrow hne hnw hO9 al hl hcc hc0 hff vl v7 f7 HO HQ HAL2 HBQ
            have vl := HV.out.1.1
            have v7 := HV.out.1.2 1 (by simp)
            have f7 := HV.out.2 1 (by simp)
            simp only [List.getElem?_cons_zero, List.getElem?_cons_succ] at v7
            have hgs := RowG.grown_set w9 bV 1 (.slice (some ⟨sb, 0, none⟩) (i + 1) sc)
            have HA9 := hid_intro (HA.out.grown hgs (by first | (simp; done) | (simp; omega)))
            have HG9 := hid_intro (gnewG HG.out hgs (by omega))
            have HV9 := hid_intro (HV.out.set 1 (.slice (some ⟨sb, 0, none⟩) (i + 1) sc) (by simp))
            have HO8 := hid_intro (own_keepG HO9.out hgs (by omega))
            have HR9 := hid_intro (blkW_grown HR.out hgs (by first | (simp; done) | (simp; omega)))
            have HM9 := hid_intro (fun h9 => (HM.out h9).far hgs (by omega))
            simp only [List.set_cons_zero, List.set_cons_succ] at HV9
            clear hgs HA HG HV HO9 HR HM
            go_wp2_with fail
            go_roundw
            case rel => exact ⟨i + 1, some ⟨sb, 0, none⟩, sc, by omega, by go_num, HA9, HG9, HV9, HO8, HR9, HM9⟩
            case measure => simp [intOf]; omega
          · rcases exit_two heq3 hall3 hki with hex3 | ⟨hex3, hd3⟩
            · by_cases hn : PC i = none
              · have HNO : Hid (¬ (PC D ≠ none ∧ s.size ≠ 0 ∧ T = s)) := hid_intro (fun q => q.1 (by rw [← heq3]; exact hn))
                rw [decide_eq_true hn] at g2
                clear heq3 hall3 hn
                have hp9 := blkW_pt HR.out (n := 3) rfl
                have hl9 := hp9.lt
                obtain ⟨ov0, r0⟩ := hp9.has 0 (by omega)
                have f0 := hp9.free 0 (by omega)
                obtain ⟨ov1, r1⟩ := hp9.has 1 (by omega)
                have f1 := hp9.free 1 (by omega)
                obtain ⟨ov2, r2⟩ := hp9.has 2 (by omega)
                have f2 := hp9.free 2 (by omega)
                have hgf := StR.stL_grown w.heap.size [.slice none 0 0, .slice none 0 0, .int .i64 3] 0 wr
                have hbb : Below w.heap.size w wr := (Below.refl _ _).grown HG.out (Nat.le_refl _) (fun k e => by simp only [Option.some.injEq] at e; first | omega | (subst e; omega))
                have HBF := hid_intro (hbb.grown hgf hbb.size (fun k e => by simp only [Option.some.injEq] at e; first | omega | (subst e; omega)))
                simp only [StR.stL, Nat.zero_add, Nat.reduceAdd] at HBF
                clear hgf hp9 hbb
                go_wp2_with fail
                refine bodyPost_ret (v := .agg #[.slice none 0 0, .slice none 0 0, .int .i64 3]) (by simp [results, Tryd.results13, go_sem, r0, r1, r2]) rfl (spc_bad HNO.out HBF.out)
              · have hDn : PC D ≠ none := by rw [← heq3]; exact hn
                obtain rfl : i = D := hall3 hDn
                have hCn : PM C ≠ none := by
                  intro q
                  have := stay HNC.out (HNX.out q) i
                  rw [Nat.zero_add] at this
                  exact hn this
                have hkc := HKC.out hCn
                omega
            · have hn : PC i = none := of_decide_eq_true hd3
              have HNO : Hid (¬ (PC D ≠ none ∧ s.size ≠ 0 ∧ T = s)) := hid_intro (fun q => q.1 (by rw [← heq3]; exact hn))
              rw [hd3] at g2
              clear heq3 hall3 hn
              have hp9 := blkW_pt HR.out (n := 3) rfl
              have hl9 := hp9.lt
              obtain ⟨ov0, r0⟩ := hp9.has 0 (by omega)
              have f0 := hp9.free 0 (by omega)
              obtain ⟨ov1, r1⟩ := hp9.has 1 (by omega)
              have f1 := hp9.free 1 (by omega)
              obtain ⟨ov2, r2⟩ := hp9.has 2 (by omega)
              have f2 := hp9.free 2 (by omega)
              have hgf := StR.stL_grown w.heap.size [.slice none 0 0, .slice none 0 0, .int .i64 3] 0 wr
              have hbb : Below w.heap.size w wr := (Below.refl _ _).grown HG.out (Nat.le_refl _) (fun k e => by simp only [Option.some.injEq] at e; first | omega | (subst e; omega))
              have HBF := hid_intro (hbb.grown hgf hbb.size (fun k e => by simp only [Option.some.injEq] at e; first | omega | (subst e; omega)))
              simp only [StR.stL, Nat.zero_add, Nat.reduceAdd] at HBF
              clear hgf hp9 hbb
              go_wp2_with fail
              refine bodyPost_ret (v := .agg #[.slice none 0 0, .slice none 0 0, .int .i64 3]) (by simp [results, Tryd.results13, go_sem, r0, r1, r2]) rfl (spc_bad HNO.out HBF.out)
end CatR
end Go.Proofs.YtaedolophhcjjaaDoor
namespace Go.Proofs.YtaedolophhcjjaaDoor
open Go.ChangeShapes Go.WideShapes Go.ChangeAt Go.RowKit
set_option linter.unusedVariables false
namespace CatR
open OwG
open RowG (MadeG Rws cellsAll hid_intro)
open EvtR (Pt After SAfter rT pT rN pN rC pC rC_le rT_size)
open SpR (pC_none)
/-- An answer of one's own. -/
def CoO (base : Nat) (v : Value) (c : Ca) (cd : Int) (W : World) : Prop := ∃ (vm : Value) (ca : Option Addr) (cc : Nat), v = .agg #[vm, .slice ca c.cs.length cc, .int .i64 cd] ∧ MsO base vm c.ms W ∧ W.ownsRow base 53 2 (.slice ca c.cs.length cc) c.cs.length (cellsAll Cr.cells c.cs)
/-- An answer that reads so. -/
def CoR (v : Value) (c : Ca) (cd : Int) (W : World) : Prop := ∃ ma mc ca cc, v = .agg #[.slice ma c.ms.length mc, .slice ca c.cs.length cc, .int .i64 cd] ∧ Mes ma c.ms.length c.ms W ∧ Crs ca c.cs.length c.cs W
theorem CoR.below {v : Value} {c : Ca} {cd : Int} {W W' : World} (h : CoR v c cd W) (hb : Below W.heap.size W W') : CoR v c cd W' := by
  obtain ⟨ma, mc, ca, cc, rfl, h1, h2⟩ := h
  exact ⟨ma, mc, ca, cc, rfl, h1.below hb, h2.below hb⟩
theorem CoO.reads {base : Nat} {v : Value} {c : Ca} {cd : Int} {W : World} (h : CoO base v c cd W) : CoR v c cd W := by
  obtain ⟨vm, ca, cc, rfl, h1, h2⟩ := h
  obtain ⟨ma, mc, rfl, hm⟩ := h1.mes
  exact ⟨ma, mc, ca, cc, rfl, hm, own_crs h2 rfl⟩
set_option maxHeartbeats 4000000 in
theorem icbig (s : ByteArray) (w : World) (h : 8000 < s.size) (hm : s.size ≤ 1048576) :
    Calls Tryd.prog 7 #[.string s] w fun e w' => e = .returned (.agg #[.slice none 0 0, .slice none 0 0, .int .i64 2]) ∧ Below w.heap.size w w' := by
  have h8 : (8000 : Int) < (s.size : Int) := by omega
  go_enter Tryd.func7, Tryd.ntmps7
  go_wp2_with fail
  refine bodyPost_ret (v := .agg #[.slice none 0 0, .slice none 0 0, .int .i64 2]) (by simp [results, Tryd.results7, go_sem]) rfl ⟨rfl, ?_⟩
  repeat' first | exact Below.refl _ _ | apply Below.setCell | apply Below.alloc
  all_goals first | omega | (simp; done) | (simp; omega)
set_option maxHeartbeats 4000000 in
theorem scbig (s : ByteArray) (w : World) (h : 8000 < s.size) (hm : s.size ≤ 1048576) :
    Calls Tryd.prog 13 #[.string s] w fun e w' => e = .returned (.agg #[.slice none 0 0, .slice none 0 0, .int .i64 2]) ∧ Below w.heap.size w w' := by
  have h8 : (8000 : Int) < (s.size : Int) := by omega
  go_enter Tryd.func13, Tryd.ntmps13
  go_wp2_with fail
  refine bodyPost_ret (v := .agg #[.slice none 0 0, .slice none 0 0, .int .i64 2]) (by simp [results, Tryd.results13, go_sem]) rfl ⟨rfl, ?_⟩
  repeat' first | exact Below.refl _ _ | apply Below.setCell | apply Below.alloc
  all_goals first | omega | (simp; done) | (simp; omega)
theorem smanyC (g : Nat) (s : ByteArray) (o : Option Nat) (M : Nat) (w : World) (hs : s.size ≤ 8000) (h : SAfter g s o w) :
    Calls Tryd.prog 36 #[.pointer (some ⟨g, 0, none⟩), .int .i64 M] w fun e w' => e = .returned (.int .i64 (rC s o M : Nat)) ∧ SAfter g s (pC s o M) w' ∧ w.grownBy w' (some g) := by
  refine (EvtR.many_any g s o M w hs h).mono ?_
  intro e w' hh
  unfold rC pC
  by_cases q : 0 ≤ rN s o ∧ rN s o ≤ ((M : Nat) : Int)
  · rw [if_pos q] at hh
    rw [if_pos q, if_pos q]
    obtain ⟨⟨rfl, h1⟩, h2⟩ := hh
    exact ⟨by rw [Int.toNat_of_nonneg q.1], h1, h2⟩
  · rw [if_neg q] at hh
    rw [if_neg q, if_neg q]
    obtain ⟨⟨rfl, h1⟩, h2⟩ := hh
    exact ⟨rfl, h1, h2⟩
theorem ime_of (g : Nat) (s : ByteArray) (o : Option Nat) (w : World) (hs : s.size ≤ 8000) (hA : After g s o w) :
    Calls Tryd.prog 60 #[.pointer (some ⟨g, 0, none⟩)] w fun e w' => ∃ ta tc, e = .returned (.agg #[.string (meR false s o).n, .int .i64 (meR false s o).g, .bool (meR false s o).wh, .int .i64 (meR false s o).f, .int .i64 (meR false s o).l, .slice ta (meR false s o).ts.length tc]) ∧ w'.ownsRow w.heap.size 72 2 (.slice ta (meR false s o).ts.length tc) (meR false s o).ts.length (cellsAll Ti.cells (meR false s o).ts) ∧ After g s (meQ false s o) w' ∧ w.grownBy w' (some g) := by
  rw [meR_len]
  refine ime_in g s o (pT s o) (mO2 s o) (mO3 false s o) (pN s (mO3 false s o)) (mO5 false s o) _ _ _ _ _ (rC s (mO2 s o) 1) (mC false s o) (fun i => (tisR s (mO6 false s o) i).2) (fun i => (tisR s (mO6 false s o) i).1) (fun i => rN s (tisR s (mO6 false s o) i).2) (fun i => rN s (pN s (tisR s (mO6 false s o) i).2)) w hA (fun w h => EvtR.rword g s _ w hs h) (fun w h => EvtR.rnum g s _ w hs h) (fun w h => EvtR.rcount g s _ 1 w hs h) (fun w h => EvtR.rnum g s _ w hs h) (fun w h => EvtR.rnum g s _ w hs h) (fun w h => EvtR.rcount g s _ 5 w hs h)
    (fun i => ⟨pN s (tisR s (mO6 false s o) i).2, fun w h => EvtR.rnum g s _ w hs h, by
      (try dsimp only)
      rw [tisR_snoc]
      exact fun w h => EvtR.rnum g s _ w hs h⟩)
    ?_ (rC_le s _ 5) rfl (fun i => by (try dsimp only); rw [tisR_snoc])
  have := rC_le s (mO2 s o) 1
  show (rC s (mO2 s o) 1 = 0 ∧ mW false s (mO2 s o) = false) ∨ (rC s (mO2 s o) 1 = 1 ∧ mW false s (mO2 s o) = true)
  unfold mW
  simp only [cond_false]
  by_cases q : rC s (mO2 s o) 1 = 1
  · exact .inr ⟨q, decide_eq_true q⟩
  · exact .inl ⟨by omega, decide_eq_false q⟩
theorem sme_of (g : Nat) (s : ByteArray) (o : Option Nat) (w : World) (hs : s.size ≤ 8000) (hA : SAfter g s o w) :
    Calls Tryd.prog 37 #[.pointer (some ⟨g, 0, none⟩)] w fun e w' => ∃ (n : Nat) (ta : Option Addr) (tc : Nat) (ts : List Ti), (meQ true s o ≠ none → n = (meR true s o).ts.length ∧ ts = (meR true s o).ts) ∧ e = .returned (.agg #[.string (meR true s o).n, .int .i64 (meR true s o).g, .bool (meR true s o).wh, .int .i64 (meR true s o).f, .int .i64 (meR true s o).l, .slice ta n tc]) ∧ w'.ownsRow w.heap.size 72 2 (.slice ta n tc) n (cellsAll Ti.cells ts) ∧ SAfter g s (meQ true s o) w' ∧ w.grownBy w' (some g) := by
  have h := sme_in g s o (pT s o) (mO2 s o) (mO3 true s o) (pN s (mO3 true s o)) (mO5 true s o) (meR true s o).n (meR true s o).g (rN s (mO2 s o)) (meR true s o).f (meR true s o).l (meR true s o).wh (mC true s o) (fun i => (tisR s (mO6 true s o) i).2) (fun i => (tisR s (mO6 true s o) i).1) (fun i => rN s (tisR s (mO6 true s o) i).2) (fun i => rN s (pN s (tisR s (mO6 true s o) i).2)) w hA (fun w h => EvtR.srtext g s _ w hs h) (fun w h => EvtR.srnum g s _ w hs h) (fun w h => EvtR.srnum g s _ w hs h) (fun w h => EvtR.srnum g s _ w hs h) (fun w h => EvtR.srnum g s _ w hs h) (fun w h => smanyC g s _ 5 w hs h)
    (fun i => ⟨pN s (tisR s (mO6 true s o) i).2, fun w h => EvtR.srnum g s _ w hs h, by
      (try dsimp only)
      rw [tisR_snoc]
      exact fun w h => EvtR.srnum g s _ w hs h⟩)
    (fun i h => by
      (try dsimp only at h ⊢)
      rw [tisR_snoc, h]
      rfl) rfl (rC_le s _ 5) rfl (fun i => by (try dsimp only); rw [tisR_snoc])
  refine h.mono ?_
  rintro e w' ⟨n, ta, tc, hn, rfl, ho, hA', hg⟩
  refine ⟨n, ta, tc, _, fun hq => ?_, rfl, ho, hA', hg⟩
  have e : n = mC true s o := hn hq
  subst e
  exact ⟨(meR_len true s o).symm, rfl⟩
theorem mesR_all {P : Me → Prop} (b : Bool) (s : ByteArray) (hP : ∀ o, P (meR b s o)) : ∀ (k : Nat) (o : Option Nat), ∀ d ∈ (mesR b s o k).1, P d
  | 0, _, d, h => by cases h
  | k + 1, o, d, h => by
    rcases List.mem_cons.1 h with rfl | h
    · exact hP o
    · exact mesR_all b s hP k _ d h
theorem crsR_all (s : ByteArray) : ∀ (k : Nat) (o : Option Nat), ∀ d ∈ (crsR s o k).1, d.a.size ≤ 8000
  | 0, _, d, h => by cases h
  | k + 1, o, d, h => by
    rcases List.mem_cons.1 h with rfl | h
    · exact rT_size s o
    · exact crsR_all s k _ d h
theorem ca_small (b : Bool) (s : ByteArray) : (caR' b s).Small ∧ (caR' b s).ms.length ≤ 6 ∧ (caR' b s).cs.length ≤ 6 ∧ ∀ m ∈ (caR' b s).ms, m.ts.length ≤ 5 := by
  have n1 : (caR' b s).ms.length = cN0 s := mesR_len b s _ _
  have n2 : (caR' b s).cs.length = cN1 b s := crsR_len s _ _
  have l1 : cN0 s ≤ 6 := rC_le s _ 6
  have l2 : cN1 b s ≤ 6 := rC_le s _ 6
  have hm : ∀ m ∈ (caR' b s).ms, m.Small ∧ m.ts.length ≤ 5 := mesR_all (P := fun m => m.Small ∧ m.ts.length ≤ 5) b s (fun o => by
    have h5 := rC_le s (mO5 b s o) 5
    have ht := rT_size s o
    rw [meR_len]
    refine ⟨⟨?_, ?_⟩, h5⟩
    · show (rT s o).size ≤ _
      omega
    · rw [meR_len]
      unfold mC
      omega) _ _
  refine ⟨⟨by omega, fun i hi => (hm _ (getD_memG _ _ _ hi)).1, by omega, fun i hi => ?_⟩, by omega, by omega, fun m h => (hm m h).2⟩
  have := crsR_all s _ _ _ (getD_memG (caR' b s).cs Cr.zero i hi)
  omega
theorem caP_size {c : Ca} (h : caB c = true) : (JoinR.joinB (caP c)).size ≤ 5000 := by
  have h1 := pA_size h c.ms.length
  obtain ⟨⟨m6, hm⟩, ⟨c6, hc⟩⟩ := caB_iff.1 h
  have h2 := join_size_le 40 (c.cs.flatMap crP) (fun x hx => by
    simp only [List.mem_flatMap] at hx
    obtain ⟨y, hy, hx⟩ := hx
    obtain ⟨i, hi, rfl⟩ := List.getElem_of_mem hy
    have e : c.cs.getD i Cr.zero = c.cs[i] := by simp [List.getD, hi]
    have h2 := (hc i hi).1
    unfold cA cM at h2
    rw [e] at h2
    simp only [crP, List.mem_cons, List.not_mem_nil, or_false] at hx
    rcases hx with rfl | rfl
    · exact txt_le (name_le h2.1).2
    · exact num_le h2.2.1 h2.2.2)
  have h3 : (c.cs.flatMap crP).length ≤ 12 := by
    rw [cr_len]
    omega
  have h4 := num_le (n := (c.cs.length : Int)) (by omega) (by omega)
  have h5 := Nat.le_trans h2 (Nat.mul_le_mul_right 40 h3)
  unfold pA at h1
  rw [List.take_length] at h1
  unfold caP
  rw [joinB_app, joinB_app, joinB_one, ByteArray.size_append, ByteArray.size_append]
  omega
/-- What is read of a text, and what is told by it. -/
def CrOk (s : ByteArray) (c : Ca) (cd : Int) : Prop := (cd = 0 → caBy c = s) ∧ ∀ c0, caB c0 = true → s = caBy c0 → c = c0 ∧ cd = 0
/-- For every text there is one answer. -/
theorem cread_all (s : ByteArray) (hm : s.size ≤ 1048576) : ∃ (c : Ca) (cd : Int), CrOk s c cd ∧ c.Small ∧ c.ms.length ≤ 6 ∧ c.cs.length ≤ 6 ∧ (∀ m ∈ c.ms, m.ts.length ≤ 5) ∧
    (∀ w, Laid w → Calls Tryd.prog 7 #[.string s] w fun e w' => ∃ v, e = .returned v ∧ CoO w.heap.size v c cd w' ∧ Below w.heap.size w w') ∧
    (∀ w, Calls Tryd.prog 13 #[.string s] w fun e w' => ∃ v, e = .returned v ∧ CoO w.heap.size v c cd w' ∧ Below w.heap.size w w') := by
  have hz : ∀ (base : Nat) (cd : Int) (W : World), CoO base (.agg #[.slice none 0 0, .slice none 0 0, .int .i64 cd]) ⟨[], []⟩ cd W := fun base cd W => ⟨_, none, 0, rfl, mso_nil _ _, World.ownsRow_nil _ _ _ _⟩
  have sz : Ca.Small ⟨[], []⟩ := ⟨by simp, fun i hi => absurd hi (by simp), by simp, fun i hi => absurd hi (by simp)⟩
  by_cases h8 : 8000 < s.size
  · refine ⟨⟨[], []⟩, 2, ⟨(fun q => by cases q), fun c0 hc e => by
      have h9 := caP_size hc
      rw [e] at h8
      unfold caBy at h8
      rw [if_pos hc] at h8
      omega⟩, sz, by simp, by simp, (fun d h => absurd h (by simp)), fun w _ => (icbig s w h8 hm).mono ?_, fun w => (scbig s w h8 hm).mono ?_⟩
    · rintro e w' ⟨rfl, hb⟩
      exact ⟨_, rfl, hz _ _ _, hb⟩
    · rintro e w' ⟨rfl, hb⟩
      exact ⟨_, rfl, hz _ _ _, hb⟩
  have hs : s.size ≤ 8000 := by omega
  obtain ⟨k1, k2, k3, k4⟩ := ca_small false s
  obtain ⟨j1, j2, j3, j4⟩ := ca_small true s
  have n1 : ∀ b, (caR' b s).ms.length = cN0 s := fun b => mesR_len b s _ _
  have n2 : ∀ b, (caR' b s).cs.length = cN1 b s := fun b => crsR_len s _ _
  have hi := fun w hL => icr_in s (cN0 s) (cN1 false s) (caR' false s).ms (caR' false s).cs (decide (cOE false s = some s.size)) (caB (caR' false s)) (fun g W => After g s (cOE false s) W) w hL hs (n1 false).symm (n2 false).symm (fun g W W' q hg => after_grown q hg (by simp))
    (fun g W q => icat_in g s (some 0) (cN0 s) (cN1 false s) (fun k => (mesR false s (cO0 s) k).2) (fun k => (crsR s (cO1 false s) k).2) (fun k => (mesR false s (cO0 s) k).1) (fun k => (crsR s (cO1 false s) k).1) (fun k => meR false s (mesR false s (cO0 s) k).2) (fun k => rT s (crsR s (cO1 false s) k).2) (fun k => rN s (pT s (crsR s (cO1 false s) k).2)) W q (fun w h => EvtR.rcount g s _ 6 w hs h)
      (fun k w h => by
        (try dsimp only)
        rw [mesR_snoc]
        exact ime_of g s _ w hs h)
      (fun w h => EvtR.rcount g s _ 6 w hs h)
      (fun k => ⟨pT s (crsR s (cO1 false s) k).2, fun w h => EvtR.rword g s _ w hs h, by
        (try dsimp only)
        rw [crsR_snoc]
        exact fun w h => EvtR.rnum g s _ w hs h⟩)
      (rC_le s _ 6) (rC_le s _ 6) rfl (fun k => by (try dsimp only); rw [mesR_snoc]) (fun k => mesR_len false s k _) rfl (fun k => by (try dsimp only); rw [crsR_snoc]))
    (fun g W q => EvtR.ended_any g s _ W hs q)
    (fun ma mc ca cc W hL q1 q2 => impl_ca _ (caR' false s) W k1 ⟨ma, mc, ca, cc, by rw [n1, n2], by rw [n1]; exact q1, by rw [n2]; exact q2⟩ hL)
  have hS := fun w => scr_in s (cN0 s) (cN1 true s) (fun k => (mesR true s (cO0 s) k).2) (fun k => (crsR s (cO1 true s) k).2) (fun k => (mesR true s (cO0 s) k).1) (fun k => (crsR s (cO1 true s) k).1) (fun k => meR true s (mesR true s (cO0 s) k).2) (fun k => rT s (crsR s (cO1 true s) k).2) (fun k => rN s (pT s (crsR s (cO1 true s) k).2)) (caBy (caR' true s)) w hs (rC_le s _ 6) (rC_le s _ 6) (fun g W h => smanyC g s _ 6 W hs h)
    (fun k g W h => by
      (try dsimp only)
      rw [mesR_snoc]
      exact sme_of g s _ W hs h)
    (fun g W h => smanyC g s _ 6 W hs h)
    (fun k g => ⟨pT s (crsR s (cO1 true s) k).2, fun w h => EvtR.srtext g s _ w hs h, by
      (try dsimp only)
      rw [crsR_snoc]
      exact fun w h => EvtR.srnum g s _ w hs h⟩)
    (fun k h => by
      (try dsimp only at h ⊢)
      rw [mesR_snoc, h]
      exact meQ_none true s)
    (fun k h => by
      (try dsimp only at h ⊢)
      rw [crsR_snoc, h]
      rfl)
    (fun h => by
      show cO1 true s = none
      have h' : cOM true s = none := h
      unfold cO1
      rw [h']
      exact pC_none s 6)
    (fun ma mc ca cc W q1 q2 => spec_cab _ (caR' true s) W j1 ⟨ma, mc, ca, cc, by rw [n1, n2], by rw [n1]; exact q1, by rw [n2]; exact q2⟩)
    rfl (fun k => by (try dsimp only); rw [mesR_snoc]) (fun k => mesR_len true s k _) rfl (fun k => by (try dsimp only); rw [crsR_snoc]) (fun k => crsR_len s k _)
  have key := ca_same s
  by_cases hr : cOE false s = some s.size ∧ caB (caR' false s) = true
  · have e9 := ca_one hr
    refine ⟨caR' false s, 0, ⟨fun _ => by
      obtain ⟨b1, b2, b3⟩ := ca_back hr.1
      rw [SpR.cut_whole] at b3
      unfold caBy
      rw [if_pos hr.2, ← b3], (fun c0 hc e => ⟨by
      unfold caBy at e
      rw [if_pos hc] at e
      exact (ca_put false hc e).1, rfl⟩)⟩, k1, k2, k3, k4, fun w hL => (hi w hL).mono ?_, fun w => (hS w).mono ?_⟩
    · rintro e w' ⟨⟨q, _⟩ | ⟨_, ma, mc, ca, cc, rfl, hm, hc⟩, hb⟩
      · rw [hr.2, decide_eq_true hr.1] at q
        cases q
      · refine ⟨_, rfl, ⟨.slice ma (cN0 s) mc, ca, cc, by rw [n2], hm, ?_⟩, hb⟩
        rw [n2]
        exact hc
    · rintro e w' ⟨⟨q, _⟩ | ⟨_, ma, mc, ca, cc, rfl, hm, hc⟩, hb⟩
      · exact absurd (key.2 hr) q
      · rw [← e9]
        refine ⟨_, rfl, ⟨.slice ma (cN0 s) mc, ca, cc, by rw [n2], hm, ?_⟩, hb⟩
        rw [n2]
        exact hc
  · refine ⟨⟨[], []⟩, 3, ⟨(fun q => by cases q), fun c0 hc e => by
      unfold caBy at e
      rw [if_pos hc] at e
      obtain ⟨e1, e2⟩ := ca_put false hc e
      exact absurd ⟨e2, by rw [e1]; exact hc⟩ hr⟩, sz, by simp, by simp, (fun d h => absurd h (by simp)), fun w hL => (hi w hL).mono ?_, fun w => (hS w).mono ?_⟩
    · rintro e w' ⟨⟨_, rfl⟩ | ⟨q, _⟩, hb⟩
      · exact ⟨_, rfl, hz _ _ _, hb⟩
      · rw [Bool.and_eq_true, decide_eq_true_eq] at q
        exact absurd q hr
    · rintro e w' ⟨⟨_, rfl⟩ | ⟨q, _⟩, hb⟩
      · exact ⟨_, rfl, hz _ _ _, hb⟩
      · exact absurd (key.1 q) hr
theorem cread_both (s : ByteArray) (hm : s.size ≤ 1048576) : ∃ (c : Ca) (cd : Int), c.Small ∧ c.ms.length ≤ 6 ∧ c.cs.length ≤ 6 ∧ (∀ m ∈ c.ms, m.ts.length ≤ 5) ∧
    (∀ w, Laid w → Calls Tryd.prog 7 #[.string s] w fun e w' => ∃ v, e = .returned v ∧ CoO w.heap.size v c cd w' ∧ Below w.heap.size w w') ∧
    (∀ w, Calls Tryd.prog 13 #[.string s] w fun e w' => ∃ v, e = .returned v ∧ CoO w.heap.size v c cd w' ∧ Below w.heap.size w w') := by
  obtain ⟨c, cd, _, h⟩ := cread_all s hm
  exact ⟨c, cd, h⟩
end CatR
end Go.Proofs.YtaedolophhcjjaaDoor
