/-
  A right catalog copied by the model: spec.l05Copy. The condition: it is right.
-/
import Derived.Test.YtlhghjjgpdkekaaDoorCpC
namespace Go.Proofs.YtlhghjjgpdkekaaDoor
open Go.ChangeShapes Go.WideShapes Go.ChangeAt Go.RowKit
set_option linter.unusedVariables false
set_option linter.unusedSimpArgs false
namespace CatR
open OwG
open RowG (cellsAll)
open EvtR (Pt)
open DocR (BlkW)
theorem crs_cells {b off : Nat} {cs : List Cr} {w : World} (h : Crs (some ⟨b, off, none⟩) cs.length cs w) : ∀ (j : Nat) u, (cellsAll Cr.cells cs)[j]? = some u → w.cell? ⟨b, off + j, none⟩ = some u := by
  intro j u hj
  have hl := RowG.cellsAll_len Cr.len cs
  have hjl : j < (cellsAll Cr.cells cs).length := (List.getElem?_eq_some_iff.1 hj).1
  rw [hl] at hjl
  have e := RowG.cellsAll_get (z := Cr.zero) Cr.len cs (j / 2) (j % 2) (by omega) (by omega)
  rw [show j / 2 * 2 + j % 2 = j by omega, hj] at e
  rcases h.2 with h0 | ⟨b', off', h1, _, hc⟩
  · omega
  · cases h1
    obtain ⟨p0, p1⟩ := hc (j / 2) (by omega)
    rcases (show j % 2 = 0 ∨ j % 2 = 1 by omega) with hm | hm
    · rw [hm] at e
      rw [show off + j = off + j / 2 * 2 by omega, p0]
      rw [e]
      rfl
    · rw [hm] at e
      rw [show off + j = off + j / 2 * 2 + 1 by omega, p1]
      rw [e]
      rfl
theorem crs_one (cs : List Cr) : ∀ u ∈ cellsAll Cr.cells cs, u.oneCell' = true := by
  intro u hu
  obtain ⟨x, _, hx⟩ := List.mem_flatMap.1 hu
  exact cr_one x.a x.m u hx
set_option maxRecDepth 100000 in
set_option maxHeartbeats 8000000 in
theorem scopy_m (ma : Option Addr) (mc cb co cc : Nat) (c : Ca) (w : World) (hc : caB c = true) (hM : Mes ma c.ms.length c.ms w) (hC : Crs (some ⟨cb, co, none⟩) c.cs.length c.cs w) :
    Calls Tryd.prog 31 #[.agg #[.slice ma c.ms.length mc, .slice (some ⟨cb, co, none⟩) c.cs.length cc]] w fun e w' => CpO w c e w' := by
  obtain ⟨i0, hi, hz0, hz1, hz2⟩ := info_parts infoMe
  obtain ⟨j0, gi, gz0, gz1, gz2⟩ := info_parts infoCr
  obtain ⟨⟨m6, hmr⟩, ⟨c6, hcr⟩⟩ := caB_iffC.1 hc
  obtain ⟨ms, cs⟩ := c
  dsimp only at *
  have HM := hid_intro hM
  have HMR := hid_intro hmr
  have HCC := hid_intro (fun W (hW : Below w.heap.size w W) => crs_cells (hC.below hW))
  have HL := hid_intro (RowG.cellsAll_len Cr.len cs)
  have H1 := hid_intro (crs_one cs)
  obtain ⟨ml, hml⟩ : ∃ n, n = ms.length := ⟨_, rfl⟩
  obtain ⟨cl, hcl⟩ : ∃ n, n = cs.length := ⟨_, rfl⟩
  obtain ⟨C, hCe⟩ : ∃ C, C = cellsAll Cr.cells cs := ⟨_, rfl⟩
  rw [← hml] at m6 ⊢
  rw [← hcl] at c6 HL ⊢
  rw [← hCe] at HCC HL H1
  have HML := hid_intro hml
  have HCL := hid_intro hcl
  have HCE := hid_intro hCe
  clear hM hC hmr hcr hml hcl hCe
  obtain ⟨W1, hW1⟩ : ∃ W1, W1 = ((w.alloc (.cells #[.slice ma ml mc, .slice (some ⟨cb, co, none⟩) cl cc] 25)).alloc (.cells #[.slice none 0 0, .slice none 0 0] 25)).alloc (.cells #[] 59) := ⟨_, rfl⟩
  have HB0 : Hid (Below w.heap.size w W1) := hid_intro (by rw [hW1]; exact (((Below.refl _ _).alloc (Nat.le_refl _) _).alloc (by simp) _).alloc (by simp; omega) _)
  have HA0 : Hid (BlkW w.heap.size [.slice ma ml mc, .slice (some ⟨cb, co, none⟩) cl cc] W1) := hid_intro (by rw [hW1]; exact blkW_alloc (blkW_alloc (BlkW.new w [.slice ma ml mc, .slice (some ⟨cb, co, none⟩) cl cc] 25) _) _)
  have HR0 : Hid (BlkW (w.heap.size + 1) [.slice none 0 0, .slice none 0 0] W1) := hid_intro (by
    rw [hW1]
    have := blkW_alloc (BlkW.new (w.alloc (.cells #[.slice ma ml mc, .slice (some ⟨cb, co, none⟩) cl cc] 25)) [.slice none 0 0, .slice none 0 0] 25) (.cells #[] 59)
    simpa using this)
  have HE0 : Hid (W1.ownsRow (w.heap.size + 2) 59 2 (.slice (some ⟨w.heap.size + 1 + 1, 0, none⟩) 0 0) 0 []) := hid_intro (by
    have := World.ownsRow_made ((w.alloc (.cells #[.slice ma ml mc, .slice (some ⟨cb, co, none⟩) cl cc] 25)).alloc (.cells #[.slice none 0 0, .slice none 0 0] 25)) (e := 59) (size := 2) (base := w.heap.size + 2) #[] 0 (by simp) (by unfold maxLen; omega) (by simp)
    rw [hW1]
    simpa using this)
  have HN : Hid (∀ j u, C[j]? = some u → W1.cell? ((⟨cb, co, none⟩ : Addr).add j) = some u) := hid_intro (fun j u hj => by rw [Addr.add_lit]; exact HCC.out _ HB0.out j u hj)
  have hs1 : w.heap.size + 2 ≤ W1.heap.size := by rw [hW1]; simp
  have hrow : ∀ k, (Value.slice (some ⟨w.heap.size + 1 + 1, 0, none⟩) 0 0).ownBlock = some k → k = w.heap.size + 2 := fun k e => by simp [Value.ownBlock] at e; omega
  have HRW := hid_intro hrow
  have HW := hid_intro hW1
  clear hW1 hrow
  have gsz6 : 0 < 6 := by omega
  go_enter Tryd.func31, Tryd.ntmps31
  go_wp2_with (at_builtin; rw [← HW.out]; refine wpList_append_own _ rfl _ _ 23 rfl (w.heap.size + 2) 59 j0 (.agg #[.string ⟨#[]⟩, .int .i64 0]) 2 24 Tryd.underlying23 gi gz0 gz1 gz2 rfl (by decide) _ _ _ rfl HE0.out ⟨cb, co, none⟩ cl cc C rfl HL.out HN.out H1.out (by unfold maxLen; omega) (by omega) hs1 ?_)
  intro v1 w2 hown hgrow hne
  have HO2 : Hid (w2.ownsRow (w.heap.size + 2) 59 2 v1 cl C) := hid_intro (by first | exact hown | simpa using hown)
  obtain ⟨v1a, v1c, rfl⟩ : ∃ a c, v1 = .slice a cl c := by
    rcases HO2.out.2 with ⟨h0, h1⟩ | ⟨g, cap, cur, hv, _⟩
    · exact ⟨none, 0, by rw [h0, h1]⟩
    · exact ⟨_, _, hv⟩
  have HB2 : Hid (Below w.heap.size w w2) := hid_intro (HB0.out.grown hgrow HB0.out.size (fun k e => by have := HRW.out k e; omega))
  have HA2 := hid_intro (blkW_grown HA0.out hgrow (fun e => by have := HRW.out _ e.symm; omega))
  have HR2 := hid_intro (blkW_grown HR0.out hgrow (fun e => by have := HRW.out _ e.symm; omega))
  clear hown hgrow hne HW HB0 HA0 HR0 HE0 HN HRW HCC H1 HL hs1
  obtain ⟨bR, hbR⟩ : ∃ z, z = w.heap.size + 1 := ⟨_, rfl⟩
  rw [← hbR] at HR2
  have hlo : w.heap.size < bR := by omega
  have hlo1 : bR < w.heap.size + 2 := by omega
  have hlo2 : bR < w2.heap.size := HR2.out.1.1
  have HOB : Hid (∀ b, (Value.slice v1a cl v1c).ownBlock = some b → b < w2.heap.size) := hid_intro (fun b e => (HO2.out.lt b e).2)
  have HBR := hid_intro hbR
  clear hbR
  go_wp2_with fail
  rw [← HBR.out]
  clear HBR
  obtain ⟨W3, hW3⟩ : ∃ z, z = w2.alloc (.cells #[.slice none 0 0, .slice v1a cl v1c] 25) := ⟨_, rfl⟩
  have hal : Below w2.heap.size w2 W3 := by rw [hW3]; exact (Below.refl _ _).alloc (Nat.le_refl _) _
  have HV3 : Hid (BlkW w2.heap.size [.slice none 0 0, .slice v1a cl v1c] W3) := hid_intro (by rw [hW3]; exact BlkW.new w2 [.slice none 0 0, .slice v1a cl v1c] 25)
  have HB3 := hid_intro (HB2.out.trans (hal.mono HB2.out.size))
  have HA3 := hid_intro (HA2.out.below hal)
  have HR3 := hid_intro (HR2.out.below hal)
  have HO3 := hid_intro (RowG.own_below HO2.out hal)
  obtain ⟨bV, hbV⟩ : ∃ z, z = w2.heap.size := ⟨_, rfl⟩
  rw [← hbV] at HV3 HOB hlo2 ⊢
  rw [← hW3]
  clear hbV hW3 hal HB2 HA2 HR2 HO2
  go_loopw [4] (fun z wr => ∃ (k : Nat) (va : Option Addr) (vc : Nat), k ≤ ml ∧ z = .int .i64 k ∧ Hid (MsO (bV + 1) (.slice va k vc) (ms.take k) wr) ∧ Hid (wr.ownsRow (w.heap.size + 2) 59 2 (.slice v1a cl v1c) cl C) ∧ Hid (BlkW bV [.slice va k vc, .slice v1a cl v1c] wr) ∧ Hid (BlkW w.heap.size [.slice ma ml mc, .slice (some ⟨cb, co, none⟩) cl cc] wr) ∧ Hid (BlkW bR [.slice none 0 0, .slice none 0 0] wr) ∧ Hid (Below w.heap.size w wr)) (fun z _ => ml - (intOf z).toNat)
  case atStart => exact ⟨0, none, 0, by omega, rfl, hid_intro (mso_nil _ _), HO3, HV3, HA3, HR3, HB3⟩
  case round =>
    clear HV3 HB3 HA3 HR3 HO3
    obtain ⟨k, va, vc, hk, rfl, HM0, HO, HV, HA, HR, HB⟩ := hrel
    have a0 := HA.out.1.2 0 (by simp)
    have al := HA.out.1.1
    simp only [List.getElem?_cons_zero, List.getElem?_cons_succ] at a0
    by_cases hlt : k < ml
    · have hlt2 : (k : Int) < (ml : Int) := by omega
      have hkl : k < ms.length := by have := HML.out; omega
      obtain ⟨b, off, rfl, hbl0, ta, tc, c0, c1, c2, c3, c4, c5, hT⟩ := mes_at HM.out k (by have := HML.out; omega)
      have hright := (HMR.out k hkl).1
      obtain ⟨r1, r5, r6⟩ := me_facts hright
      have HTK := hid_intro (RowG.take_more (z := Me.zero) ms k hkl)
      have HTL : Hid ((ms.take k).length = k) := hid_intro (by rw [List.length_take]; omega)
      generalize ms.getD k Me.zero = X at *
      obtain ⟨b', off', hta⟩ : ∃ b' off', ta = some ⟨b', off', none⟩ := by
        rcases hT.2 with h0 | ⟨b', off', e, _⟩
        · omega
        · exact ⟨b', off', e⟩
      subst hta
      have HSS : Hid (∀ W, BlkW w.heap.size [.slice (some ⟨b, off, none⟩) ml mc, .slice (some ⟨cb, co, none⟩) cl cc] W → Below w.heap.size w W → (fun W => w.heap.size < W.heap.size ∧ W.cell? ⟨w.heap.size, 0, none⟩ = some (.slice (some ⟨b, off, none⟩) ml mc) ∧ b < W.heap.size ∧ W.cell? ⟨b, off + k * 6, none⟩ = some (.string X.n) ∧ W.cell? ⟨b, off + k * 6 + 1, none⟩ = some (.int .i64 X.g) ∧ W.cell? ⟨b, off + k * 6 + 2, none⟩ = some (.bool X.wh) ∧ W.cell? ⟨b, off + k * 6 + 3, none⟩ = some (.int .i64 X.f) ∧ W.cell? ⟨b, off + k * 6 + 4, none⟩ = some (.int .i64 X.l) ∧ W.cell? ⟨b, off + k * 6 + 5, none⟩ = some (.slice (some ⟨b', off', none⟩) X.ts.length tc)) W) := hid_intro (fun W hA hB => ⟨hA.1.1, hA.1.2 0 (by simp), by have := hB.size; omega, (hB.cell (p := ⟨b, off + k * 6, none⟩) hbl0).trans c0, (hB.cell (p := ⟨b, off + k * 6 + 1, none⟩) hbl0).trans c1, (hB.cell (p := ⟨b, off + k * 6 + 2, none⟩) hbl0).trans c2, (hB.cell (p := ⟨b, off + k * 6 + 3, none⟩) hbl0).trans c3, (hB.cell (p := ⟨b, off + k * 6 + 4, none⟩) hbl0).trans c4, (hB.cell (p := ⟨b, off + k * 6 + 5, none⟩) hbl0).trans c5⟩)
      have HCP := hid_intro (fun W (hb : Below w.heap.size w W) => spec_meO b' off' tc X W (by omega) (hT.below hb))
      have HME := hid_intro (me_one X)
      have sz1 : k + 1 ≤ maxLen := by unfold maxLen; omega
      have sz2 : (k + 1) * 72 ≤ 140737488355328 := by omega
      clear hT hright c0 c1 c2 c3 c4 c5
      go_wp2_with fail
      have hZ0 : Below wr.heap.size wr wr.drew := (Below.refl _ _).drew
      have hB0 := HB.out.trans (hZ0.mono HB.out.size)
      have hA0 := HA.out.below hZ0
      have hR0 := HR.out.below hZ0
      have hV0 := HV.out.below hZ0
      have hM0 := HM0.out.lim.below hZ0
      have hO0 := RowG.own_below HO.out hZ0
      obtain ⟨L0, hL0⟩ : ∃ z, z = wr.heap.size := ⟨_, rfl⟩
      have hbl : bV + 1 ≤ L0 := by have := HV.out.1.1; omega
      have hL1 : L0 ≤ wr.drew.heap.size := by rw [hL0]; exact hZ0.size
      rw [← hL0] at hM0
      clear hL0 hZ0
      have hS0 := HSS.out _ hA0 hB0
      refine wp_region_held_drew (S := (fun W => w.heap.size < W.heap.size ∧ W.cell? ⟨w.heap.size, 0, none⟩ = some (.slice (some ⟨b, off, none⟩) ml mc) ∧ b < W.heap.size ∧ W.cell? ⟨b, off + k * 6, none⟩ = some (.string X.n) ∧ W.cell? ⟨b, off + k * 6 + 1, none⟩ = some (.int .i64 X.g) ∧ W.cell? ⟨b, off + k * 6 + 2, none⟩ = some (.bool X.wh) ∧ W.cell? ⟨b, off + k * 6 + 3, none⟩ = some (.int .i64 X.f) ∧ W.cell? ⟨b, off + k * 6 + 4, none⟩ = some (.int .i64 X.l) ∧ W.cell? ⟨b, off + k * 6 + 5, none⟩ = some (.slice (some ⟨b', off', none⟩) X.ts.length tc))) (by kernel_rfl) hS0 (fun hHeld => ?_)
      generalize wr.drew = kd at *
      refine wpAnyH_take (i := 0) (oi := { dst := some 17, op := Op.fieldAddr 25 (Operand.tmp 3) 0, type := 0, pos := "l05_catalog.go:58", after := #[], guard := none }) (v := ?_) rfl (by kernel_rfl) (by kernel_rfl) (by kernel_rfl) (fun _ _ _ h => h) (Or.inl ⟨by rfl, ?_⟩) (by assumption) ?_
      rotate_left
      · (intro w hSw; (try dsimp only at hSw); go_simp) <;> with_reducible rfl
      try simp only [Act.put, List.setIfInBounds_toArray, List.set_cons_zero, List.set_cons_succ]
      refine wpAnyH_take (i := 2) (oi := { dst := some 19, op := Op.fieldAddr 25 (Operand.tmp 1) 0, type := 0, pos := "l05_catalog.go:58", after := #[], guard := none }) (v := ?_) rfl (by kernel_rfl) (by kernel_rfl) (by kernel_rfl) (fun _ _ _ h => h) (Or.inl ⟨by rfl, ?_⟩) (by assumption) ?_
      rotate_left
      · (intro w hSw; (try dsimp only at hSw); go_simp) <;> with_reducible rfl
      try simp only [Act.put, List.setIfInBounds_toArray, List.set_cons_zero, List.set_cons_succ]
      refine wpAnyH_take (i := 3) (oi := { dst := some 20, op := Op.load 22 (Operand.tmp 19), type := 22, pos := "l05_catalog.go:58", after := #[{ on := 2, ground := Ground.data }], guard := none }) (v := ?_) rfl (by kernel_rfl) (by kernel_rfl) (by kernel_rfl) (fun _ _ _ h => h) (Or.inl ⟨by rfl, ?_⟩) (by assumption) ?_
      rotate_left
      · (intro w hSw; (try dsimp only at hSw); go_simp) <;> with_reducible rfl
      try simp only [Act.put, List.setIfInBounds_toArray, List.set_cons_zero, List.set_cons_succ]
      refine wpAnyH_take (i := 4) (oi := { dst := some 21, op := Op.move (Operand.tmp 4), type := 3, pos := "l05_catalog.go:58", after := #[], guard := none }) (v := ?_) rfl (by kernel_rfl) (by kernel_rfl) (by kernel_rfl) (fun _ _ _ h => h) (Or.inl ⟨by rfl, ?_⟩) (by assumption) ?_
      rotate_left
      · (intro w hSw; (try dsimp only at hSw); go_simp) <;> with_reducible rfl
      try simp only [Act.put, List.setIfInBounds_toArray, List.set_cons_zero, List.set_cons_succ]
      refine wpAnyH_take (i := 5) (oi := { dst := some 22, op := Op.indexAddr 22 (Operand.tmp 20) (Operand.tmp 21), type := 0, pos := "l05_catalog.go:58", after := #[{ on := 3, ground := Ground.data }, { on := 4, ground := Ground.data }], guard := none }) (v := ?_) rfl (by kernel_rfl) (by kernel_rfl) (by kernel_rfl) (fun _ _ _ h => h) (Or.inl ⟨by rfl, ?_⟩) (by assumption) ?_
      rotate_left
      · (intro w hSw; (try dsimp only at hSw); go_simp) <;> with_reducible rfl
      try simp only [Act.put, List.setIfInBounds_toArray, List.set_cons_zero, List.set_cons_succ]
      refine wpAnyH_take (i := 6) (oi := { dst := some 23, op := Op.load 39 (Operand.tmp 22), type := 39, pos := "l05_catalog.go:58", after := #[{ on := 5, ground := Ground.data }], guard := none }) (v := ?_) rfl (by kernel_rfl) (by kernel_rfl) (by kernel_rfl) (fun _ _ _ h => h) (Or.inl ⟨by rfl, ?_⟩) (by assumption) ?_
      rotate_left
      · (intro w hSw; (try dsimp only at hSw); go_simp) <;> with_reducible rfl
      try simp only [Act.put, List.setIfInBounds_toArray, List.set_cons_zero, List.set_cons_succ]
      refine wpAnyH_ready (rs := [1, 7]) (by kernel_rfl) (by simp) ?_
      refine AllReadyH.cons (o := { dst := some 18, op := Op.load 22 (Operand.tmp 17), type := 22, pos := "l05_catalog.go:58", after := #[{ on := 0, ground := Ground.data }], guard := none }) rfl (fun K hK => ?_) (AllReadyH.cons (o := { dst := some 24, op := Op.call { callee := Callee.value (Operand.func 57), args := #[Operand.tmp 23], argTypes := #[39] }, type := 39, pos := "l05_catalog.go:58", after := #[{ on := 6, ground := Ground.data }], guard := none }) rfl (fun K hK => ?_) AllReadyH.nil)
      · have c6 := hV0.1.2 0 (by simp)
        have l6 := hV0.1.1
        simp only [List.getElem?_cons_zero, List.getElem?_cons_succ] at c6
        go_simp
        try go_wp2_with fail
        refine hK.out _ _ hS0 (fun _ => ?_)
        clear hK K
        try simp only [Act.put, List.setIfInBounds_toArray, List.set_cons_zero, List.set_cons_succ]
        clear c6 l6
        refine wpAnyH_ready (rs := [7]) (by kernel_rfl) (by simp) ?_
        refine AllReadyH.cons (o := { dst := some 24, op := Op.call { callee := Callee.value (Operand.func 57), args := #[Operand.tmp 23], argTypes := #[39] }, type := 39, pos := "l05_catalog.go:58", after := #[{ on := 6, ground := Ground.data }], guard := none }) rfl (fun K hK => ?_) AllReadyH.nil
        go_simp
        go_at_call 57
        refine (HCP.out _ hB0).mono ?_
        rintro e q1 ⟨ta, tq, rfl, hNz, hb1⟩
        try go_wp2_with fail
        have hB1 := hB0.trans (hb1.mono hB0.size)
        have hM1 := hM0.below hb1
        have hN1 := own_low hNz hL1
        clear hNz
        have hO1 := RowG.own_below hO0 hb1
        have hA1 := hA0.below hb1
        have hR1 := hR0.below hb1
        have hV1 := hV0.below hb1
        have hS1 := HSS.out _ hA1 hB1
        refine hK.out _ _ hS1 (fun _ => ?_)
        clear hK K
        try simp only [Act.put, List.setIfInBounds_toArray, List.set_cons_zero, List.set_cons_succ]
        refine wpAnyH_ready (rs := [8]) (by kernel_rfl) (by simp) ?_
        refine AllReadyH.cons (o := { dst := some 25, op := Op.buildSlice 22 1 #[(0, Operand.tmp 24)], type := 22, pos := "l05_catalog.go:58", after := #[{ on := 7, ground := Ground.data }], guard := none }) rfl (fun K hK => ?_) AllReadyH.nil
        go_simp
        try go_wp2_with fail
        have hB2 := hB1.alloc hB1.size (Obj.cells #[.string X.n, .int .i64 X.g, .bool X.wh, .int .i64 X.f, .int .i64 X.l, .slice ta X.ts.length tq] 39)
        have hA2 := hA1.below ((Below.refl q1.heap.size q1).alloc (Nat.le_refl _) (Obj.cells #[.string X.n, .int .i64 X.g, .bool X.wh, .int .i64 X.f, .int .i64 X.l, .slice ta X.ts.length tq] 39))
        have hR2 := hR1.below ((Below.refl q1.heap.size q1).alloc (Nat.le_refl _) (Obj.cells #[.string X.n, .int .i64 X.g, .bool X.wh, .int .i64 X.f, .int .i64 X.l, .slice ta X.ts.length tq] 39))
        have hV2 := hV1.below ((Below.refl q1.heap.size q1).alloc (Nat.le_refl _) (Obj.cells #[.string X.n, .int .i64 X.g, .bool X.wh, .int .i64 X.f, .int .i64 X.l, .slice ta X.ts.length tq] 39))
        have hM2 := hM1.below ((Below.refl q1.heap.size q1).alloc (Nat.le_refl _) (Obj.cells #[.string X.n, .int .i64 X.g, .bool X.wh, .int .i64 X.f, .int .i64 X.l, .slice ta X.ts.length tq] 39))
        have hN2 := RowG.own_below hN1 ((Below.refl q1.heap.size q1).alloc (Nat.le_refl _) (Obj.cells #[.string X.n, .int .i64 X.g, .bool X.wh, .int .i64 X.f, .int .i64 X.l, .slice ta X.ts.length tq] 39))
        have hO2 := RowG.own_below hO1 ((Below.refl q1.heap.size q1).alloc (Nat.le_refl _) (Obj.cells #[.string X.n, .int .i64 X.g, .bool X.wh, .int .i64 X.f, .int .i64 X.l, .slice ta X.ts.length tq] 39))
        have hS2 := HSS.out _ hA2 hB2
        have hnw : ∀ j u, ([.string X.n, .int .i64 X.g, .bool X.wh, .int .i64 X.f, .int .i64 X.l, .slice ta X.ts.length tq] : List Value)[j]? = some u → (q1.alloc (Obj.cells #[.string X.n, .int .i64 X.g, .bool X.wh, .int .i64 X.f, .int .i64 X.l, .slice ta X.ts.length tq] 39)).cell? ((⟨q1.heap.size, 0, none⟩ : Addr).add j) = some u := new_cells q1 [.string X.n, .int .i64 X.g, .bool X.wh, .int .i64 X.f, .int .i64 X.l, .slice ta X.ts.length tq] 39
        refine hK.out _ _ hS2 (fun _ => ?_)
        clear hK K
        try simp only [Act.put, List.setIfInBounds_toArray, List.set_cons_zero, List.set_cons_succ]
        obtain ⟨bN, hbN⟩ : ∃ z, z = q1.heap.size := ⟨_, rfl⟩
        rw [← hbN] at hnw ⊢
        obtain ⟨k2, hk2⟩ : ∃ z, z = q1.alloc (Obj.cells #[.string X.n, .int .i64 X.g, .bool X.wh, .int .i64 X.f, .int .i64 X.l, .slice ta X.ts.length tq] 39) := ⟨_, rfl⟩
        rw [← hk2] at hnw hB2 hA2 hR2 hV2 hM2 hN2 hO2 hS2 ⊢
        clear hbN hk2
        refine wpAnyH_ready (rs := [9]) (by kernel_rfl) (by simp) ?_
        refine AllReadyH.cons (o := { dst := some 26, op := Op.call { callee := Callee.builtin Builtin.append, args := #[Operand.tmp 18, Operand.tmp 25], argTypes := #[22, 22] }, type := 22, pos := "l05_catalog.go:58", after := #[{ on := 1, ground := Ground.data }, { on := 8, ground := Ground.data }, { on := 7, ground := Ground.chain }], guard := none }) rfl (fun K hK => ?_) AllReadyH.nil
        obtain ⟨xs, x1, x2, x3, x4, x5⟩ := hM2
        have x2' := x2
        rw [HTL.out] at x2'
        refine step_append_c rfl _ _ 22 rfl (bV + 1) 39 i0 (.agg #[.string ⟨#[]⟩, .int .i64 0, .bool false, .int .i64 0, .int .i64 0, .slice none 0 0]) 6 72 Tryd.underlying22 hi hz0 hz1 hz2 rfl gsz6 _ _ _ rfl x2' ⟨bN, 0, none⟩ 1 1 [.string X.n, .int .i64 X.g, .bool X.wh, .int .i64 X.f, .int .i64 X.l, .slice ta X.ts.length tq] rfl rfl hnw (HME.out ta tq) sz1 sz2 (hV2.1.1) ?_
        intro v9 w9 hown hgrow hne
        have hB3 := hB2.grown hgrow hB2.size (fun _ e => by have := (x2'.lt _ e).1; omega)
        have hA3 := blkW_grown hA2 hgrow (fun e => by have := (x2'.lt _ e.symm).1; omega)
        have hR3 := blkW_grown hR2 hgrow (fun e => by have := (x2'.lt _ e.symm).1; omega)
        have hV3 := blkW_grown hV2 hgrow (fun e => by have := (x2'.lt _ e.symm).1; omega)
        have hS3 := HSS.out _ hA3 hB3
        have hO3 := own_keepO hO2 hgrow (own_apart hO2 x2' (by decide))
        have hM3 : MsO (bV + 1) v9 (ms.take (k + 1)) w9 := by
          rw [HTK.out]
          exact mso_snoc x1 x3 x4 x5 hbl hN2 x2 hgrow (by rw [HTL.out]; exact hown)
        obtain ⟨sb, sc, rfl⟩ := own_form hown
        clear hown hgrow hne hnw x1 x2 x3 x4 x5 x2'
        refine hK.out _ _ hS3 (fun _ => ?_)
        clear hK K
        try simp only [Act.put, List.setIfInBounds_toArray, List.set_cons_zero, List.set_cons_succ]
        refine wpAnyH_take (i := 10) (oi := { dst := some 27, op := Op.fieldAddr 25 (Operand.tmp 3) 0, type := 0, pos := "l05_catalog.go:58", after := #[{ on := 0, ground := Ground.phase }, { on := 1, ground := Ground.phase }, { on := 2, ground := Ground.phase }, { on := 3, ground := Ground.phase }, { on := 4, ground := Ground.phase }, { on := 5, ground := Ground.phase }, { on := 6, ground := Ground.phase }, { on := 7, ground := Ground.phase }, { on := 8, ground := Ground.phase }, { on := 9, ground := Ground.phase }], guard := none }) (v := ?_) rfl (by kernel_rfl) (by kernel_rfl) (by kernel_rfl) (fun _ _ _ h => h) (Or.inl ⟨by rfl, ?_⟩) (by assumption) ?_
        rotate_left
        · (intro w hSw; (try dsimp only at hSw); go_simp) <;> with_reducible rfl
        try simp only [Act.put, List.setIfInBounds_toArray, List.set_cons_zero, List.set_cons_succ]
        refine wpAnyH_ready (rs := [11]) (by kernel_rfl) (by simp) ?_
        refine AllReadyH.cons (o := { dst := none, op := Op.store 22 (Operand.tmp 27) (Operand.tmp 26), type := 0, pos := "l05_catalog.go:58", after := #[{ on := 10, ground := Ground.data }, { on := 9, ground := Ground.data }, { on := 9, ground := Ground.chain }, { on := 0, ground := Ground.phase }, { on := 1, ground := Ground.phase }, { on := 2, ground := Ground.phase }, { on := 3, ground := Ground.phase }, { on := 4, ground := Ground.phase }, { on := 5, ground := Ground.phase }, { on := 6, ground := Ground.phase }, { on := 7, ground := Ground.phase }, { on := 8, ground := Ground.phase }, { on := 9, ground := Ground.phase }], guard := none }) rfl (fun K hK => ?_) AllReadyH.nil
        have c6 := hV3.1.2 0 (by simp)
        have l6 := hV3.1.1
        have f6 := hV3.2 0 (by simp)
        simp only [List.getElem?_cons_zero, List.getElem?_cons_succ] at c6
        go_simp
        try go_wp2_with fail
        have hg := RowG.grown_set w9 bV 0 (.slice (some ⟨sb, 0, none⟩) (k + 1) sc)
        have hB9 := hB3.setCell (show w.heap.size ≤ (⟨bV, 0, none⟩ : Addr).block by simp; omega) (.slice (some ⟨sb, 0, none⟩) (k + 1) sc)
        have hA9 := blkW_grown hA3 hg (by simp; omega)
        have hR9 := blkW_grown hR3 hg (by simp; omega)
        have hS9 := HSS.out _ hA9 hB9
        have hV9 := hV3.set 0 (.slice (some ⟨sb, 0, none⟩) (k + 1) sc) (by simp)
        simp only [List.set_cons_zero, List.set_cons_succ] at hV9
        have hM9 := hM3.far hg (by omega)
        have hO9 := own_keepO hO3 hg (fun b e => by have := HOB.out b e; simp; omega)
        refine hK.out _ _ hS9 (fun _ => ?_)
        clear hK K
        try simp only [Act.put, List.setIfInBounds_toArray, List.set_cons_zero, List.set_cons_succ]
        generalize (w9.setCell ⟨bV, 0, none⟩ (.slice (some ⟨sb, 0, none⟩) (k + 1) sc)) = kk at *
        refine wpAnyH_done (by kernel_rfl) ?_ _
        have HB9 := hid_intro hB9
        have HA9 := hid_intro hA9
        have HR9 := hid_intro hR9
        have HV9 := hid_intro hV9
        have HM9 := hid_intro hM9
        have HO9 := hid_intro hO9
        clear hB9 hA9 hR9 hV9 hM9 hO9 hS9 hg c6 l6 f6
        go_wp2_with fail
        go_roundw
        case rel => exact ⟨k + 1, some ⟨sb, 0, none⟩, sc, by omega, by go_num, HM9, HO9, HV9, HA9, HR9, HB9⟩
        case measure => simp [intOf]; omega
      · go_simp
        go_at_call 57
        refine (HCP.out _ hB0).mono ?_
        rintro e q1 ⟨ta, tq, rfl, hNz, hb1⟩
        try go_wp2_with fail
        have hB1 := hB0.trans (hb1.mono hB0.size)
        have hM1 := hM0.below hb1
        have hN1 := own_low hNz hL1
        clear hNz
        have hO1 := RowG.own_below hO0 hb1
        have hA1 := hA0.below hb1
        have hR1 := hR0.below hb1
        have hV1 := hV0.below hb1
        have hS1 := HSS.out _ hA1 hB1
        refine hK.out _ _ hS1 (fun _ => ?_)
        clear hK K
        try simp only [Act.put, List.setIfInBounds_toArray, List.set_cons_zero, List.set_cons_succ]
        refine wpAnyH_ready (rs := [1, 8]) (by kernel_rfl) (by simp) ?_
        refine AllReadyH.cons (o := { dst := some 18, op := Op.load 22 (Operand.tmp 17), type := 22, pos := "l05_catalog.go:58", after := #[{ on := 0, ground := Ground.data }], guard := none }) rfl (fun K hK => ?_) (AllReadyH.cons (o := { dst := some 25, op := Op.buildSlice 22 1 #[(0, Operand.tmp 24)], type := 22, pos := "l05_catalog.go:58", after := #[{ on := 7, ground := Ground.data }], guard := none }) rfl (fun K hK => ?_) AllReadyH.nil)
        · have c6 := hV1.1.2 0 (by simp)
          have l6 := hV1.1.1
          simp only [List.getElem?_cons_zero, List.getElem?_cons_succ] at c6
          go_simp
          try go_wp2_with fail
          refine hK.out _ _ hS1 (fun _ => ?_)
          clear hK K
          try simp only [Act.put, List.setIfInBounds_toArray, List.set_cons_zero, List.set_cons_succ]
          clear c6 l6
          refine wpAnyH_ready (rs := [8]) (by kernel_rfl) (by simp) ?_
          refine AllReadyH.cons (o := { dst := some 25, op := Op.buildSlice 22 1 #[(0, Operand.tmp 24)], type := 22, pos := "l05_catalog.go:58", after := #[{ on := 7, ground := Ground.data }], guard := none }) rfl (fun K hK => ?_) AllReadyH.nil
          go_simp
          try go_wp2_with fail
          have hB2 := hB1.alloc hB1.size (Obj.cells #[.string X.n, .int .i64 X.g, .bool X.wh, .int .i64 X.f, .int .i64 X.l, .slice ta X.ts.length tq] 39)
          have hA2 := hA1.below ((Below.refl q1.heap.size q1).alloc (Nat.le_refl _) (Obj.cells #[.string X.n, .int .i64 X.g, .bool X.wh, .int .i64 X.f, .int .i64 X.l, .slice ta X.ts.length tq] 39))
          have hR2 := hR1.below ((Below.refl q1.heap.size q1).alloc (Nat.le_refl _) (Obj.cells #[.string X.n, .int .i64 X.g, .bool X.wh, .int .i64 X.f, .int .i64 X.l, .slice ta X.ts.length tq] 39))
          have hV2 := hV1.below ((Below.refl q1.heap.size q1).alloc (Nat.le_refl _) (Obj.cells #[.string X.n, .int .i64 X.g, .bool X.wh, .int .i64 X.f, .int .i64 X.l, .slice ta X.ts.length tq] 39))
          have hM2 := hM1.below ((Below.refl q1.heap.size q1).alloc (Nat.le_refl _) (Obj.cells #[.string X.n, .int .i64 X.g, .bool X.wh, .int .i64 X.f, .int .i64 X.l, .slice ta X.ts.length tq] 39))
          have hN2 := RowG.own_below hN1 ((Below.refl q1.heap.size q1).alloc (Nat.le_refl _) (Obj.cells #[.string X.n, .int .i64 X.g, .bool X.wh, .int .i64 X.f, .int .i64 X.l, .slice ta X.ts.length tq] 39))
          have hO2 := RowG.own_below hO1 ((Below.refl q1.heap.size q1).alloc (Nat.le_refl _) (Obj.cells #[.string X.n, .int .i64 X.g, .bool X.wh, .int .i64 X.f, .int .i64 X.l, .slice ta X.ts.length tq] 39))
          have hS2 := HSS.out _ hA2 hB2
          have hnw : ∀ j u, ([.string X.n, .int .i64 X.g, .bool X.wh, .int .i64 X.f, .int .i64 X.l, .slice ta X.ts.length tq] : List Value)[j]? = some u → (q1.alloc (Obj.cells #[.string X.n, .int .i64 X.g, .bool X.wh, .int .i64 X.f, .int .i64 X.l, .slice ta X.ts.length tq] 39)).cell? ((⟨q1.heap.size, 0, none⟩ : Addr).add j) = some u := new_cells q1 [.string X.n, .int .i64 X.g, .bool X.wh, .int .i64 X.f, .int .i64 X.l, .slice ta X.ts.length tq] 39
          refine hK.out _ _ hS2 (fun _ => ?_)
          clear hK K
          try simp only [Act.put, List.setIfInBounds_toArray, List.set_cons_zero, List.set_cons_succ]
          obtain ⟨bN, hbN⟩ : ∃ z, z = q1.heap.size := ⟨_, rfl⟩
          rw [← hbN] at hnw ⊢
          obtain ⟨k2, hk2⟩ : ∃ z, z = q1.alloc (Obj.cells #[.string X.n, .int .i64 X.g, .bool X.wh, .int .i64 X.f, .int .i64 X.l, .slice ta X.ts.length tq] 39) := ⟨_, rfl⟩
          rw [← hk2] at hnw hB2 hA2 hR2 hV2 hM2 hN2 hO2 hS2 ⊢
          clear hbN hk2
          refine wpAnyH_ready (rs := [9]) (by kernel_rfl) (by simp) ?_
          refine AllReadyH.cons (o := { dst := some 26, op := Op.call { callee := Callee.builtin Builtin.append, args := #[Operand.tmp 18, Operand.tmp 25], argTypes := #[22, 22] }, type := 22, pos := "l05_catalog.go:58", after := #[{ on := 1, ground := Ground.data }, { on := 8, ground := Ground.data }, { on := 7, ground := Ground.chain }], guard := none }) rfl (fun K hK => ?_) AllReadyH.nil
          obtain ⟨xs, x1, x2, x3, x4, x5⟩ := hM2
          have x2' := x2
          rw [HTL.out] at x2'
          refine step_append_c rfl _ _ 22 rfl (bV + 1) 39 i0 (.agg #[.string ⟨#[]⟩, .int .i64 0, .bool false, .int .i64 0, .int .i64 0, .slice none 0 0]) 6 72 Tryd.underlying22 hi hz0 hz1 hz2 rfl gsz6 _ _ _ rfl x2' ⟨bN, 0, none⟩ 1 1 [.string X.n, .int .i64 X.g, .bool X.wh, .int .i64 X.f, .int .i64 X.l, .slice ta X.ts.length tq] rfl rfl hnw (HME.out ta tq) sz1 sz2 (hV2.1.1) ?_
          intro v9 w9 hown hgrow hne
          have hB3 := hB2.grown hgrow hB2.size (fun _ e => by have := (x2'.lt _ e).1; omega)
          have hA3 := blkW_grown hA2 hgrow (fun e => by have := (x2'.lt _ e.symm).1; omega)
          have hR3 := blkW_grown hR2 hgrow (fun e => by have := (x2'.lt _ e.symm).1; omega)
          have hV3 := blkW_grown hV2 hgrow (fun e => by have := (x2'.lt _ e.symm).1; omega)
          have hS3 := HSS.out _ hA3 hB3
          have hO3 := own_keepO hO2 hgrow (own_apart hO2 x2' (by decide))
          have hM3 : MsO (bV + 1) v9 (ms.take (k + 1)) w9 := by
            rw [HTK.out]
            exact mso_snoc x1 x3 x4 x5 hbl hN2 x2 hgrow (by rw [HTL.out]; exact hown)
          obtain ⟨sb, sc, rfl⟩ := own_form hown
          clear hown hgrow hne hnw x1 x2 x3 x4 x5 x2'
          refine hK.out _ _ hS3 (fun _ => ?_)
          clear hK K
          try simp only [Act.put, List.setIfInBounds_toArray, List.set_cons_zero, List.set_cons_succ]
          refine wpAnyH_take (i := 10) (oi := { dst := some 27, op := Op.fieldAddr 25 (Operand.tmp 3) 0, type := 0, pos := "l05_catalog.go:58", after := #[{ on := 0, ground := Ground.phase }, { on := 1, ground := Ground.phase }, { on := 2, ground := Ground.phase }, { on := 3, ground := Ground.phase }, { on := 4, ground := Ground.phase }, { on := 5, ground := Ground.phase }, { on := 6, ground := Ground.phase }, { on := 7, ground := Ground.phase }, { on := 8, ground := Ground.phase }, { on := 9, ground := Ground.phase }], guard := none }) (v := ?_) rfl (by kernel_rfl) (by kernel_rfl) (by kernel_rfl) (fun _ _ _ h => h) (Or.inl ⟨by rfl, ?_⟩) (by assumption) ?_
          rotate_left
          · (intro w hSw; (try dsimp only at hSw); go_simp) <;> with_reducible rfl
          try simp only [Act.put, List.setIfInBounds_toArray, List.set_cons_zero, List.set_cons_succ]
          refine wpAnyH_ready (rs := [11]) (by kernel_rfl) (by simp) ?_
          refine AllReadyH.cons (o := { dst := none, op := Op.store 22 (Operand.tmp 27) (Operand.tmp 26), type := 0, pos := "l05_catalog.go:58", after := #[{ on := 10, ground := Ground.data }, { on := 9, ground := Ground.data }, { on := 9, ground := Ground.chain }, { on := 0, ground := Ground.phase }, { on := 1, ground := Ground.phase }, { on := 2, ground := Ground.phase }, { on := 3, ground := Ground.phase }, { on := 4, ground := Ground.phase }, { on := 5, ground := Ground.phase }, { on := 6, ground := Ground.phase }, { on := 7, ground := Ground.phase }, { on := 8, ground := Ground.phase }, { on := 9, ground := Ground.phase }], guard := none }) rfl (fun K hK => ?_) AllReadyH.nil
          have c6 := hV3.1.2 0 (by simp)
          have l6 := hV3.1.1
          have f6 := hV3.2 0 (by simp)
          simp only [List.getElem?_cons_zero, List.getElem?_cons_succ] at c6
          go_simp
          try go_wp2_with fail
          have hg := RowG.grown_set w9 bV 0 (.slice (some ⟨sb, 0, none⟩) (k + 1) sc)
          have hB9 := hB3.setCell (show w.heap.size ≤ (⟨bV, 0, none⟩ : Addr).block by simp; omega) (.slice (some ⟨sb, 0, none⟩) (k + 1) sc)
          have hA9 := blkW_grown hA3 hg (by simp; omega)
          have hR9 := blkW_grown hR3 hg (by simp; omega)
          have hS9 := HSS.out _ hA9 hB9
          have hV9 := hV3.set 0 (.slice (some ⟨sb, 0, none⟩) (k + 1) sc) (by simp)
          simp only [List.set_cons_zero, List.set_cons_succ] at hV9
          have hM9 := hM3.far hg (by omega)
          have hO9 := own_keepO hO3 hg (fun b e => by have := HOB.out b e; simp; omega)
          refine hK.out _ _ hS9 (fun _ => ?_)
          clear hK K
          try simp only [Act.put, List.setIfInBounds_toArray, List.set_cons_zero, List.set_cons_succ]
          generalize (w9.setCell ⟨bV, 0, none⟩ (.slice (some ⟨sb, 0, none⟩) (k + 1) sc)) = kk at *
          refine wpAnyH_done (by kernel_rfl) ?_ _
          have HB9 := hid_intro hB9
          have HA9 := hid_intro hA9
          have HR9 := hid_intro hR9
          have HV9 := hid_intro hV9
          have HM9 := hid_intro hM9
          have HO9 := hid_intro hO9
          clear hB9 hA9 hR9 hV9 hM9 hO9 hS9 hg c6 l6 f6
          go_wp2_with fail
          go_roundw
          case rel => exact ⟨k + 1, some ⟨sb, 0, none⟩, sc, by omega, by go_num, HM9, HO9, HV9, HA9, HR9, HB9⟩
          case measure => simp [intOf]; omega
        · go_simp
          try go_wp2_with fail
          have hB2 := hB1.alloc hB1.size (Obj.cells #[.string X.n, .int .i64 X.g, .bool X.wh, .int .i64 X.f, .int .i64 X.l, .slice ta X.ts.length tq] 39)
          have hA2 := hA1.below ((Below.refl q1.heap.size q1).alloc (Nat.le_refl _) (Obj.cells #[.string X.n, .int .i64 X.g, .bool X.wh, .int .i64 X.f, .int .i64 X.l, .slice ta X.ts.length tq] 39))
          have hR2 := hR1.below ((Below.refl q1.heap.size q1).alloc (Nat.le_refl _) (Obj.cells #[.string X.n, .int .i64 X.g, .bool X.wh, .int .i64 X.f, .int .i64 X.l, .slice ta X.ts.length tq] 39))
          have hV2 := hV1.below ((Below.refl q1.heap.size q1).alloc (Nat.le_refl _) (Obj.cells #[.string X.n, .int .i64 X.g, .bool X.wh, .int .i64 X.f, .int .i64 X.l, .slice ta X.ts.length tq] 39))
          have hM2 := hM1.below ((Below.refl q1.heap.size q1).alloc (Nat.le_refl _) (Obj.cells #[.string X.n, .int .i64 X.g, .bool X.wh, .int .i64 X.f, .int .i64 X.l, .slice ta X.ts.length tq] 39))
          have hN2 := RowG.own_below hN1 ((Below.refl q1.heap.size q1).alloc (Nat.le_refl _) (Obj.cells #[.string X.n, .int .i64 X.g, .bool X.wh, .int .i64 X.f, .int .i64 X.l, .slice ta X.ts.length tq] 39))
          have hO2 := RowG.own_below hO1 ((Below.refl q1.heap.size q1).alloc (Nat.le_refl _) (Obj.cells #[.string X.n, .int .i64 X.g, .bool X.wh, .int .i64 X.f, .int .i64 X.l, .slice ta X.ts.length tq] 39))
          have hS2 := HSS.out _ hA2 hB2
          have hnw : ∀ j u, ([.string X.n, .int .i64 X.g, .bool X.wh, .int .i64 X.f, .int .i64 X.l, .slice ta X.ts.length tq] : List Value)[j]? = some u → (q1.alloc (Obj.cells #[.string X.n, .int .i64 X.g, .bool X.wh, .int .i64 X.f, .int .i64 X.l, .slice ta X.ts.length tq] 39)).cell? ((⟨q1.heap.size, 0, none⟩ : Addr).add j) = some u := new_cells q1 [.string X.n, .int .i64 X.g, .bool X.wh, .int .i64 X.f, .int .i64 X.l, .slice ta X.ts.length tq] 39
          refine hK.out _ _ hS2 (fun _ => ?_)
          clear hK K
          try simp only [Act.put, List.setIfInBounds_toArray, List.set_cons_zero, List.set_cons_succ]
          obtain ⟨bN, hbN⟩ : ∃ z, z = q1.heap.size := ⟨_, rfl⟩
          rw [← hbN] at hnw ⊢
          obtain ⟨k2, hk2⟩ : ∃ z, z = q1.alloc (Obj.cells #[.string X.n, .int .i64 X.g, .bool X.wh, .int .i64 X.f, .int .i64 X.l, .slice ta X.ts.length tq] 39) := ⟨_, rfl⟩
          rw [← hk2] at hnw hB2 hA2 hR2 hV2 hM2 hN2 hO2 hS2 ⊢
          clear hbN hk2
          refine wpAnyH_ready (rs := [1]) (by kernel_rfl) (by simp) ?_
          refine AllReadyH.cons (o := { dst := some 18, op := Op.load 22 (Operand.tmp 17), type := 22, pos := "l05_catalog.go:58", after := #[{ on := 0, ground := Ground.data }], guard := none }) rfl (fun K hK => ?_) AllReadyH.nil
          have c6 := hV2.1.2 0 (by simp)
          have l6 := hV2.1.1
          simp only [List.getElem?_cons_zero, List.getElem?_cons_succ] at c6
          go_simp
          try go_wp2_with fail
          refine hK.out _ _ hS2 (fun _ => ?_)
          clear hK K
          try simp only [Act.put, List.setIfInBounds_toArray, List.set_cons_zero, List.set_cons_succ]
          clear c6 l6
          refine wpAnyH_ready (rs := [9]) (by kernel_rfl) (by simp) ?_
          refine AllReadyH.cons (o := { dst := some 26, op := Op.call { callee := Callee.builtin Builtin.append, args := #[Operand.tmp 18, Operand.tmp 25], argTypes := #[22, 22] }, type := 22, pos := "l05_catalog.go:58", after := #[{ on := 1, ground := Ground.data }, { on := 8, ground := Ground.data }, { on := 7, ground := Ground.chain }], guard := none }) rfl (fun K hK => ?_) AllReadyH.nil
          obtain ⟨xs, x1, x2, x3, x4, x5⟩ := hM2
          have x2' := x2
          rw [HTL.out] at x2'
          refine step_append_c rfl _ _ 22 rfl (bV + 1) 39 i0 (.agg #[.string ⟨#[]⟩, .int .i64 0, .bool false, .int .i64 0, .int .i64 0, .slice none 0 0]) 6 72 Tryd.underlying22 hi hz0 hz1 hz2 rfl gsz6 _ _ _ rfl x2' ⟨bN, 0, none⟩ 1 1 [.string X.n, .int .i64 X.g, .bool X.wh, .int .i64 X.f, .int .i64 X.l, .slice ta X.ts.length tq] rfl rfl hnw (HME.out ta tq) sz1 sz2 (hV2.1.1) ?_
          intro v9 w9 hown hgrow hne
          have hB3 := hB2.grown hgrow hB2.size (fun _ e => by have := (x2'.lt _ e).1; omega)
          have hA3 := blkW_grown hA2 hgrow (fun e => by have := (x2'.lt _ e.symm).1; omega)
          have hR3 := blkW_grown hR2 hgrow (fun e => by have := (x2'.lt _ e.symm).1; omega)
          have hV3 := blkW_grown hV2 hgrow (fun e => by have := (x2'.lt _ e.symm).1; omega)
          have hS3 := HSS.out _ hA3 hB3
          have hO3 := own_keepO hO2 hgrow (own_apart hO2 x2' (by decide))
          have hM3 : MsO (bV + 1) v9 (ms.take (k + 1)) w9 := by
            rw [HTK.out]
            exact mso_snoc x1 x3 x4 x5 hbl hN2 x2 hgrow (by rw [HTL.out]; exact hown)
          obtain ⟨sb, sc, rfl⟩ := own_form hown
          clear hown hgrow hne hnw x1 x2 x3 x4 x5 x2'
          refine hK.out _ _ hS3 (fun _ => ?_)
          clear hK K
          try simp only [Act.put, List.setIfInBounds_toArray, List.set_cons_zero, List.set_cons_succ]
          refine wpAnyH_take (i := 10) (oi := { dst := some 27, op := Op.fieldAddr 25 (Operand.tmp 3) 0, type := 0, pos := "l05_catalog.go:58", after := #[{ on := 0, ground := Ground.phase }, { on := 1, ground := Ground.phase }, { on := 2, ground := Ground.phase }, { on := 3, ground := Ground.phase }, { on := 4, ground := Ground.phase }, { on := 5, ground := Ground.phase }, { on := 6, ground := Ground.phase }, { on := 7, ground := Ground.phase }, { on := 8, ground := Ground.phase }, { on := 9, ground := Ground.phase }], guard := none }) (v := ?_) rfl (by kernel_rfl) (by kernel_rfl) (by kernel_rfl) (fun _ _ _ h => h) (Or.inl ⟨by rfl, ?_⟩) (by assumption) ?_
          rotate_left
          · (intro w hSw; (try dsimp only at hSw); go_simp) <;> with_reducible rfl
          try simp only [Act.put, List.setIfInBounds_toArray, List.set_cons_zero, List.set_cons_succ]
          refine wpAnyH_ready (rs := [11]) (by kernel_rfl) (by simp) ?_
          refine AllReadyH.cons (o := { dst := none, op := Op.store 22 (Operand.tmp 27) (Operand.tmp 26), type := 0, pos := "l05_catalog.go:58", after := #[{ on := 10, ground := Ground.data }, { on := 9, ground := Ground.data }, { on := 9, ground := Ground.chain }, { on := 0, ground := Ground.phase }, { on := 1, ground := Ground.phase }, { on := 2, ground := Ground.phase }, { on := 3, ground := Ground.phase }, { on := 4, ground := Ground.phase }, { on := 5, ground := Ground.phase }, { on := 6, ground := Ground.phase }, { on := 7, ground := Ground.phase }, { on := 8, ground := Ground.phase }, { on := 9, ground := Ground.phase }], guard := none }) rfl (fun K hK => ?_) AllReadyH.nil
          have c6 := hV3.1.2 0 (by simp)
          have l6 := hV3.1.1
          have f6 := hV3.2 0 (by simp)
          simp only [List.getElem?_cons_zero, List.getElem?_cons_succ] at c6
          go_simp
          try go_wp2_with fail
          have hg := RowG.grown_set w9 bV 0 (.slice (some ⟨sb, 0, none⟩) (k + 1) sc)
          have hB9 := hB3.setCell (show w.heap.size ≤ (⟨bV, 0, none⟩ : Addr).block by simp; omega) (.slice (some ⟨sb, 0, none⟩) (k + 1) sc)
          have hA9 := blkW_grown hA3 hg (by simp; omega)
          have hR9 := blkW_grown hR3 hg (by simp; omega)
          have hS9 := HSS.out _ hA9 hB9
          have hV9 := hV3.set 0 (.slice (some ⟨sb, 0, none⟩) (k + 1) sc) (by simp)
          simp only [List.set_cons_zero, List.set_cons_succ] at hV9
          have hM9 := hM3.far hg (by omega)
          have hO9 := own_keepO hO3 hg (fun b e => by have := HOB.out b e; simp; omega)
          refine hK.out _ _ hS9 (fun _ => ?_)
          clear hK K
          try simp only [Act.put, List.setIfInBounds_toArray, List.set_cons_zero, List.set_cons_succ]
          generalize (w9.setCell ⟨bV, 0, none⟩ (.slice (some ⟨sb, 0, none⟩) (k + 1) sc)) = kk at *
          refine wpAnyH_done (by kernel_rfl) ?_ _
          have HB9 := hid_intro hB9
          have HA9 := hid_intro hA9
          have HR9 := hid_intro hR9
          have HV9 := hid_intro hV9
          have HM9 := hid_intro hM9
          have HO9 := hid_intro hO9
          clear hB9 hA9 hR9 hV9 hM9 hO9 hS9 hg c6 l6 f6
          go_wp2_with fail
          go_roundw
          case rel => exact ⟨k + 1, some ⟨sb, 0, none⟩, sc, by omega, by go_num, HM9, HO9, HV9, HA9, HR9, HB9⟩
          case measure => simp [intOf]; omega
    · have hlt2 : ¬ (k : Int) < (ml : Int) := by omega
      obtain rfl : k = ml := by omega
      have HTE : Hid (ms.take k = ms) := hid_intro (by rw [HML.out]; exact List.take_length)
      rw [HTE.out] at HM0
      clear HTE
      obtain ⟨⟨vl, vk⟩, _⟩ := HV.out
      have v0 : wr.cell? ⟨bV, 0, none⟩ = some (.slice va k vc) := vk 0 (by simp)
      have v1 : wr.cell? ⟨bV, 1, none⟩ = some (.slice v1a cl v1c) := vk 1 (by simp)
      obtain ⟨⟨rl, rk⟩, rf⟩ := HR.out
      have p0 : wr.cell? ⟨bR, 0, none⟩ = some (.slice none 0 0) := rk 0 (by simp)
      have f0 : wr.frozen? ⟨bR, 0, none⟩ = false := rf 0 (by simp)
      have p1 : wr.cell? ⟨bR, 1, none⟩ = some (.slice none 0 0) := rk 1 (by simp)
      have f1 : wr.frozen? ⟨bR, 1, none⟩ = false := rf 1 (by simp)
      have hg := StR.stL_grown bR [.slice va k vc, .slice v1a cl v1c] 0 wr
      have HB9 := hid_intro (HB.out.grown hg HB.out.size (fun _ e => by cases e; omega))
      have HO9 := hid_intro (own_keepG HO.out hg (by omega))
      have HM9 := hid_intro (HM0.out.far hg (by omega))
      simp only [StR.stL, Nat.zero_add] at HB9 HO9 HM9
      clear vk rk rf hg HB HR HV HO HM0
      go_wp2_with fail
      refine bodyPost_ret (v := .agg #[.slice va k vc, .slice v1a cl v1c]) (by simp [results, Tryd.results31, go_sem, p0, p1]) rfl ⟨_, _, _, by rw [← HCL.out], ?_, ?_, HB9.out⟩
      · exact HM9.out.low (by omega)
      · rw [← HCL.out]
        show World.ownsRow _ _ _ _ _ _ (cellsAll Cr.cells cs)
        rw [← HCE.out]
        exact own_low HO9.out (by omega)
end CatR
end Go.Proofs.YtlhghjjgpdkekaaDoor
