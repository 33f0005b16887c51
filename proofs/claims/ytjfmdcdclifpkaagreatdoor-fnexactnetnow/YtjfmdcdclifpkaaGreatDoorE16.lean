/-
  The model's way to add lines to others: spec.l09Add. The conditions: at most 400 lines to add to at most 100000 that rise, the numbers far from running over.
-/
import Derived.Deep.RegionHeld3
import Derived.Test.YtjfmdcdclifpkaaGreatDoorE15
namespace Go.Proofs.YtjfmdcdclifpkaaGreatDoor
open Go.ChangeShapes Go.WideShapes Go.ChangeAt Go.RowKit
set_option linter.unusedVariables false
namespace NetR
open LinR RowG LtR
open DocR (BlkW BlkW.new BlkW.below)
theorem HA_cells {ab aoff : Nat} {L : List N} {w : World} (h : Lis (some ⟨ab, aoff, none⟩) L w) : ∀ W, Below w.heap.size w W → ∀ j u, (cellsAll N.cells L)[j]? = some u → W.cell? ((⟨ab, aoff, none⟩ : Addr).add j) = some u := by
  intro W hW j u hj
  have h1 := rws_sub (i := 0) (n := L.length) N.len (h.below hW) j u (by simpa using hj)
  rw [Nat.zero_mul, Nat.add_zero] at h1
  exact h1
theorem i_in {x : Int} (h : -9223372036854775808 ≤ x ∧ x ≤ 9223372036854775807) : IntKind.i64.wrap x = x := IntWalk.i64_in _ ⟨by omega, by omega⟩
theorem own_nonnil {w : World} {base : Nat} {v : Value} {L : List N} (h : w.ownsRow base 72 2 v L.length (cellsAll N.cells L)) (hn : L.length ≠ 0) : OwnN w base v L := ⟨h, fun e => by
  rcases h.2 with ⟨_, h1⟩ | ⟨g, cap, cur, hv, _⟩
  · exact hn h1
  · rw [hv] at e; cases e⟩
theorem put_pos (L : List N) (x : N) : (put L x).length ≠ 0 := by
  unfold put
  cases L with
  | nil => simp [ins]
  | cons a l => rw [ins]; split <;> (try split) <;> simp
set_option maxRecDepth 100000 in
set_option maxHeartbeats 8000000 in
theorem sadd (ab aoff cap0 : Nat) (L : List N) (bo : Option Addr) (capb : Nat) (es : List N) (s B : Int) (w : World) (hs : s = 1 ∨ s = -1) (hlen : es.length ≤ 400) (hE : ∀ e ∈ es, -1000000000000000 ≤ e.n ∧ e.n ≤ 1000000000000000) (hr : Rise L) (hLl : L.length ≤ 100000) (hB : 0 ≤ B ∧ B ≤ 3000000000000000000) (hL : ∀ y ∈ L, -B ≤ y.n ∧ y.n ≤ B) (hA : Lis (some ⟨ab, aoff, none⟩) L w) (hI : Lis bo es w) :
    Calls Tryz.prog 123 #[.slice (some ⟨ab, aoff, none⟩) L.length cap0, .slice bo es.length capb, .int .i64 s] w fun e w' => ∃ v, e = .returned v ∧ OwnN w' w.heap.size v (all L es s) ∧ Below w.heap.size w w' := by
  obtain ⟨i0, hi, hz0, hz1, hz2⟩ := info_parts infoN
  have HI := hid_intro hI
  have HA := hid_intro (HA_cells hA)
  have HE := hid_intro hE
  have HSS := hid_intro hs
  have HR := hid_intro hr
  have HB := hid_intro hB
  have HL0 := hid_intro hL
  have HLL : Hid (∀ k, (all L (es.take k) s).length ≤ 100400) := hid_intro (fun k => by have h1 := all_len L (es.take k) s; have h2 := (List.take_sublist k es).length_le; omega)
  obtain ⟨len, hl⟩ : ∃ len, len = es.length := ⟨_, rfl⟩
  have HEND : Hid (all L (es.take len) s = all L es s) := hid_intro (by rw [hl, List.take_length])
  rw [← hl] at hlen ⊢
  have HLn := hid_intro hl
  obtain ⟨al0, hal0⟩ : ∃ al0, al0 = L.length := ⟨_, rfl⟩
  rw [← hal0] at hLl ⊢
  have HAL := hid_intro hal0
  have HE0 := hid_intro (own_empty w w.heap.size 72 2 (Nat.le_refl _))
  clear hI hA hE hs hl hr hB hL hal0
  go_enter Tryz.func123, Tryz.ntmps123
  go_wp2_with (at_builtin; refine wpList_append_own _ rfl _ _ 33 rfl w.heap.size 72 i0 (.agg #[.string ⟨#[]⟩, .int .i64 0]) 2 24 Tryz.underlying33 hi hz0 hz1 hz2 rfl (by decide) _ _ _ rfl HE0.out ⟨ab, aoff, none⟩ al0 cap0 (cellsAll N.cells L) rfl ?l1 ?d1 ?d2 ?d3 ?d4 (by simp) ?_)
  case l1 => rw [cellsAll_len N.len]; have := HAL.out; omega
  case d1 => exact HA.out _ (al _ _)
  case d2 => exact lis_one _
  case d3 => unfold maxLen; omega
  case d4 => omega
  intro v1 w6 hown hgrow hne
  have HV1 : Hid (OwnN w6 w.heap.size v1 L) := hid_intro ⟨by rw [← HAL.out]; first | exact hown | simpa using hown, fun e => by first | exact hne e | (have := (hne.1 e).1; cases this)⟩
  have HB6 : Hid (Below w.heap.size w w6) := hid_intro ((al w _).grown hgrow (by simp) (fun c hc => by simp [Value.ownBlock] at hc; omega))
  clear hown hgrow hne HE0 HA
  go_wp2_with fail
  go_loopw [7, 8] (fun v z wr => ∃ k : Nat, k ≤ len ∧ z = .int .i64 k ∧ Hid (OwnN wr w.heap.size v (all L (es.take k) s)) ∧ Hid (∀ y ∈ all L (es.take k) s, -(B + k * 1000000000000000) ≤ y.n ∧ y.n ≤ B + k * 1000000000000000) ∧ Hid (Below w.heap.size w wr)) (fun v z _ => len - (intOf z).toNat)
  case atStart => exact ⟨0, by omega, rfl, hid_intro (by simpa [all] using HV1.out), hid_intro (by simpa [all] using HL0.out), HB6⟩
  case round =>
    obtain ⟨k, hk, rfl, HV, HBD, HW⟩ := hrel
    by_cases hlt : k < len
    · have hlt2 : (k : Int) < (len : Int) := by omega
      have hkl : k < es.length := by have := HLn.out; omega
      obtain ⟨b0, off, rfl, hbl, c0, c1⟩ := Lis.at (HI.out.below HW.out) k hkl
      have hnb := HE.out _ (getD_mem (z := N.zero) es k hkl)
      have HM1 := hid_intro (all_more L es s k hkl)
      have HRk := hid_intro (rise_all (es.take k) s HR.out)
      have HLk := hid_intro (HLL.out k)
      have HB1 : Hid (0 ≤ B + (k : Int) * 1000000000000000 ∧ B + (k : Int) * 1000000000000000 ≤ 3500000000000000000) := hid_intro (by have := HB.out; omega)
      generalize all L (es.take k) s = L1 at *
      generalize es.getD k N.zero = X at *
      obtain ⟨xi, xn⟩ := X
      dsimp only at c0 c1 hnb
      obtain ⟨hm1, hm2⟩ := mul_w HSS.out hnb
      have HM2 : Hid (all L (es.take (k + 1)) s = put L1 ⟨xi, s * xn⟩) := HM1
      have HPB := hid_intro (put_bd (x := ⟨xi, s * xn⟩) HB1.out.1 HBD.out (C := 1000000000000000) (by omega) hm2)
      obtain ⟨Y, hY⟩ : ∃ Y, s * xn = Y := ⟨_, rfl⟩
      have hm3 : IntKind.i64.wrap (s * xn) = Y := by rw [i_in (by omega)]; exact hY
      rw [hY] at HM2 HPB hm2
      have HYB := hid_intro hm2
      have HS0 : Hid (LB w b0 (off + k * 2) xi xn wr.drew) := hid_intro ⟨HW.out.drew, hbl, c0, c1⟩
      obtain ⟨g, cap, rfl, hg1, hg2, hg3, hg4, hg5⟩ := HV.out.open
      have HG5 := hid_intro hg5
      have HX0 := hid_intro (BlkW.new wr.drew [.string xi, .int .i64 Y] 72)
      have HV0 := hid_intro (HV.out.below (w' := wr.drew.alloc (.cells #[.string xi, .int .i64 Y] 72)) (Below.trans (Below.refl _ _).drew (al wr.drew _)))
      have HW0 := hid_intro (HW.out.trans ((Below.trans (Below.refl _ _).drew (al wr.drew (.cells #[.string xi, .int .i64 Y] 72))).mono HW.out.size))
      obtain ⟨l1, hl1⟩ : ∃ l1, l1 = L1.length := ⟨_, rfl⟩
      rw [← hl1]
      have HL1 := hid_intro hl1
      clear hl1 hY hm1 HM1 hnb hm2 HV HW hg5
      go_wp2_with fail
      refine wp_region_held_drew (S := (fun W => Below w.heap.size w W ∧ b0 < W.heap.size ∧ W.cell? ⟨b0, off + k * 2, none⟩ = some (.string xi) ∧ W.cell? ⟨b0, off + k * 2 + 1, none⟩ = some (.int .i64 xn))) (by kernel_rfl) HS0.out (fun hHeld => ?_)
      refine wpAnyH_take (i := 0) (oi := { dst := some 22, op := Op.move (Operand.tmp 1), type := 33, pos := "l09_ledger.go:24", after := #[], guard := none }) (v := ?_) rfl (by kernel_rfl) (by kernel_rfl) (by kernel_rfl) (fun _ _ _ h => h) (Or.inl ⟨by rfl, ?_⟩) (by assumption) ?_
      rotate_left
      · (intro w hSw; (try dsimp only at hSw); go_simp) <;> with_reducible rfl
      try simp only [Act.put, List.setIfInBounds_toArray, List.set_cons_zero, List.set_cons_succ]
      refine wpAnyH_take (i := 1) (oi := { dst := some 23, op := Op.move (Operand.tmp 8), type := 3, pos := "l09_ledger.go:24", after := #[], guard := none }) (v := ?_) rfl (by kernel_rfl) (by kernel_rfl) (by kernel_rfl) (fun _ _ _ h => h) (Or.inl ⟨by rfl, ?_⟩) (by assumption) ?_
      rotate_left
      · (intro w hSw; (try dsimp only at hSw); go_simp) <;> with_reducible rfl
      try simp only [Act.put, List.setIfInBounds_toArray, List.set_cons_zero, List.set_cons_succ]
      refine wpAnyH_take (i := 2) (oi := { dst := some 24, op := Op.indexAddr 33 (Operand.tmp 22) (Operand.tmp 23), type := 0, pos := "l09_ledger.go:24", after := #[{ on := 0, ground := Ground.data }, { on := 1, ground := Ground.data }], guard := none }) (v := ?_) rfl (by kernel_rfl) (by kernel_rfl) (by kernel_rfl) (fun _ _ _ h => h) (Or.inl ⟨by rfl, ?_⟩) (by assumption) ?_
      rotate_left
      · (intro w hSw; (try dsimp only at hSw); go_simp) <;> with_reducible rfl
      try simp only [Act.put, List.setIfInBounds_toArray, List.set_cons_zero, List.set_cons_succ]
      refine wpAnyH_take (i := 3) (oi := { dst := some 25, op := Op.fieldAddr 72 (Operand.tmp 24) 0, type := 0, pos := "l09_ledger.go:24", after := #[{ on := 2, ground := Ground.data }], guard := none }) (v := ?_) rfl (by kernel_rfl) (by kernel_rfl) (by kernel_rfl) (fun _ _ _ h => h) (Or.inl ⟨by rfl, ?_⟩) (by assumption) ?_
      rotate_left
      · (intro w hSw; (try dsimp only at hSw); go_simp) <;> with_reducible rfl
      try simp only [Act.put, List.setIfInBounds_toArray, List.set_cons_zero, List.set_cons_succ]
      refine wpAnyH_take (i := 4) (oi := { dst := some 26, op := Op.load 9 (Operand.tmp 25), type := 9, pos := "l09_ledger.go:24", after := #[{ on := 3, ground := Ground.data }], guard := none }) (v := ?_) rfl (by kernel_rfl) (by kernel_rfl) (by kernel_rfl) (fun _ _ _ h => h) (Or.inl ⟨by rfl, ?_⟩) (by assumption) ?_
      rotate_left
      · (intro w hSw; (try dsimp only at hSw); go_simp) <;> with_reducible rfl
      try simp only [Act.put, List.setIfInBounds_toArray, List.set_cons_zero, List.set_cons_succ]
      refine wpAnyH_take (i := 5) (oi := { dst := some 27, op := Op.move (Operand.tmp 2), type := 2, pos := "l09_ledger.go:24", after := #[], guard := none }) (v := ?_) rfl (by kernel_rfl) (by kernel_rfl) (by kernel_rfl) (fun _ _ _ h => h) (Or.inl ⟨by rfl, ?_⟩) (by assumption) ?_
      rotate_left
      · (intro w hSw; (try dsimp only at hSw); go_simp) <;> with_reducible rfl
      try simp only [Act.put, List.setIfInBounds_toArray, List.set_cons_zero, List.set_cons_succ]
      refine wpAnyH_take (i := 6) (oi := { dst := some 28, op := Op.move (Operand.tmp 1), type := 33, pos := "l09_ledger.go:24", after := #[], guard := none }) (v := ?_) rfl (by kernel_rfl) (by kernel_rfl) (by kernel_rfl) (fun _ _ _ h => h) (Or.inl ⟨by rfl, ?_⟩) (by assumption) ?_
      rotate_left
      · (intro w hSw; (try dsimp only at hSw); go_simp) <;> with_reducible rfl
      try simp only [Act.put, List.setIfInBounds_toArray, List.set_cons_zero, List.set_cons_succ]
      refine wpAnyH_take (i := 7) (oi := { dst := some 29, op := Op.move (Operand.tmp 8), type := 3, pos := "l09_ledger.go:24", after := #[], guard := none }) (v := ?_) rfl (by kernel_rfl) (by kernel_rfl) (by kernel_rfl) (fun _ _ _ h => h) (Or.inl ⟨by rfl, ?_⟩) (by assumption) ?_
      rotate_left
      · (intro w hSw; (try dsimp only at hSw); go_simp) <;> with_reducible rfl
      try simp only [Act.put, List.setIfInBounds_toArray, List.set_cons_zero, List.set_cons_succ]
      refine wpAnyH_take (i := 8) (oi := { dst := some 30, op := Op.indexAddr 33 (Operand.tmp 28) (Operand.tmp 29), type := 0, pos := "l09_ledger.go:24", after := #[{ on := 6, ground := Ground.data }, { on := 7, ground := Ground.data }], guard := none }) (v := ?_) rfl (by kernel_rfl) (by kernel_rfl) (by kernel_rfl) (fun _ _ _ h => h) (Or.inl ⟨by rfl, ?_⟩) (by assumption) ?_
      rotate_left
      · (intro w hSw; (try dsimp only at hSw); go_simp) <;> with_reducible rfl
      try simp only [Act.put, List.setIfInBounds_toArray, List.set_cons_zero, List.set_cons_succ]
      refine wpAnyH_take (i := 9) (oi := { dst := some 31, op := Op.fieldAddr 72 (Operand.tmp 30) 1, type := 0, pos := "l09_ledger.go:24", after := #[{ on := 8, ground := Ground.data }], guard := none }) (v := ?_) rfl (by kernel_rfl) (by kernel_rfl) (by kernel_rfl) (fun _ _ _ h => h) (Or.inl ⟨by rfl, ?_⟩) (by assumption) ?_
      rotate_left
      · (intro w hSw; (try dsimp only at hSw); go_simp) <;> with_reducible rfl
      try simp only [Act.put, List.setIfInBounds_toArray, List.set_cons_zero, List.set_cons_succ]
      refine wpAnyH_take (i := 10) (oi := { dst := some 32, op := Op.load 2 (Operand.tmp 31), type := 2, pos := "l09_ledger.go:24", after := #[{ on := 9, ground := Ground.data }], guard := none }) (v := ?_) rfl (by kernel_rfl) (by kernel_rfl) (by kernel_rfl) (fun _ _ _ h => h) (Or.inl ⟨by rfl, ?_⟩) (by assumption) ?_
      rotate_left
      · (intro w hSw; (try dsimp only at hSw); go_simp) <;> with_reducible rfl
      try simp only [Act.put, List.setIfInBounds_toArray, List.set_cons_zero, List.set_cons_succ]
      refine wpAnyH_take (i := 11) (oi := { dst := some 33, op := Op.binOp BinOp.mul 2 (Operand.tmp 27) (Operand.tmp 32) 2, type := 2, pos := "l09_ledger.go:24", after := #[{ on := 5, ground := Ground.data }, { on := 10, ground := Ground.data }], guard := none }) (v := ?_) rfl (by kernel_rfl) (by kernel_rfl) (by kernel_rfl) (fun _ _ _ h => h) (Or.inl ⟨by rfl, ?_⟩) (by assumption) ?_
      rotate_left
      · (intro w hSw; (try dsimp only at hSw); go_simp) <;> with_reducible rfl
      try simp only [Act.put, List.setIfInBounds_toArray, List.set_cons_zero, List.set_cons_succ]
      refine wpAnyH_take (i := 12) (oi := { dst := some 34, op := Op.build 72 #[(0, Operand.tmp 26), (1, Operand.tmp 33)], type := 72, pos := "l09_ledger.go:24", after := #[{ on := 4, ground := Ground.data }, { on := 11, ground := Ground.data }], guard := none }) (v := ?_) rfl (by kernel_rfl) (by kernel_rfl) (by kernel_rfl) (fun _ _ _ h => h) (Or.inl ⟨by rfl, ?_⟩) (by assumption) ?_
      rotate_left
      · (intro w hSw; (try dsimp only at hSw); go_simp) <;> with_reducible rfl
      try simp only [Act.put, List.setIfInBounds_toArray, List.set_cons_zero, List.set_cons_succ]
      refine wpAnyH_ready (rs := [13]) (by kernel_rfl) (by simp) ?_
      refine AllReadyH.cons (o := { dst := some 9, op := Op.alloc 72, type := 0, pos := "l09_ledger.go:24", after := #[], guard := none }) rfl (fun K hK => ?_) AllReadyH.nil
      go_simp
      try go_wp2_with fail
      have hk1 := LB.below (w := w) (b := b0) (o := off + k * 2) (xi := xi) (xn := xn) HS0.out (al _ (.cells #[.string ⟨#[]⟩, .int .i64 0] 72))
      refine hK.out _ _ hk1 (fun _ => ?_)
      clear hK K
      try simp only [Act.put, List.setIfInBounds_toArray, List.set_cons_zero, List.set_cons_succ]
      refine wpAnyH_ready (rs := [14]) (by kernel_rfl) (by simp) ?_
      refine AllReadyH.cons (o := { dst := none, op := Op.store 72 (Operand.tmp 9) (Operand.tmp 34), type := 0, pos := "l09_ledger.go:24", after := #[{ on := 13, ground := Ground.data }, { on := 12, ground := Ground.data }, { on := 0, ground := Ground.phase }, { on := 1, ground := Ground.phase }, { on := 2, ground := Ground.phase }, { on := 3, ground := Ground.phase }, { on := 4, ground := Ground.phase }, { on := 5, ground := Ground.phase }, { on := 6, ground := Ground.phase }, { on := 7, ground := Ground.phase }, { on := 8, ground := Ground.phase }, { on := 9, ground := Ground.phase }, { on := 10, ground := Ground.phase }, { on := 11, ground := Ground.phase }, { on := 12, ground := Ground.phase }, { on := 13, ground := Ground.phase }], guard := none }) rfl (fun K hK => ?_) AllReadyH.nil
      go_simp
      try go_wp2_with fail
      have hk2 := LB.below (w := w) (b := b0) (o := off + k * 2) (xi := xi) (xn := xn) HS0.out (al _ (.cells #[.string xi, .int .i64 Y] 72))
      refine hK.out _ _ hk2 (fun _ => ?_)
      clear hK K
      try simp only [Act.put, List.setIfInBounds_toArray, List.set_cons_zero, List.set_cons_succ]
      refine wpAnyH_done (by kernel_rfl) ?_ _
      obtain ⟨W1, hW1⟩ : ∃ W1, W1 = (wr.alloc (.cells #[.string xi, .int .i64 Y] 72)).drew := ⟨_, rfl⟩
      have HX1 : Hid (BlkW wr.heap.size [.string xi, .int .i64 Y] W1) := hid_intro (by rw [hW1]; exact HX0.out)
      have HV1 : Hid (OwnN W1 w.heap.size (.slice (some ⟨g, 0, none⟩) L1.length cap) L1) := hid_intro (by rw [hW1]; exact HV0.out)
      have HW1 : Hid (Below w.heap.size w W1) := hid_intro (by rw [hW1]; exact HW0.out)
      have HG1 : Hid (Lis (some ⟨g, 0, none⟩) L1 W1) := hid_intro (by rw [hW1]; exact HG5.out.below (Below.trans (Below.refl _ _).drew (al wr.drew _)))
      have hwl := HX1.out.1.1
      have x0 : W1.cell? ⟨wr.heap.size, 0, none⟩ = some (.string xi) := HX1.out.1.2 0 (by simp)
      have x1 : W1.cell? ⟨wr.heap.size, 1, none⟩ = some (.int .i64 Y) := HX1.out.1.2 1 (by simp)
      have HC := hid_intro (sline g 0 cap L1 xi Y W1 (by have := HLk.out; omega) (by have := HL1.out; omega) hg2 HG1.out)
      rw [← HL1.out] at HC
      have HGX : Hid (g < wr.heap.size ∧ w.heap.size ≤ wr.heap.size) := hid_intro ⟨hg4, by have := HS0.out.1.size; simpa using this⟩
      rw [← hW1]
      clear hW1 HX0 HV0 HW0 HS0 HG5 hk1 hk2
      generalize wr.heap.size = wx at *
      clear c0 c1 hbl
      go_wp2_with fail
      refine HC.out.mono ?_
      rintro e w2 (⟨hf, rfl, hb⟩ | ⟨hf, ⟨v, rfl, ho⟩, hb⟩)
      · have HF := hid_intro hf
        have HX2 := hid_intro (HX1.out.below hb)
        have HV2 := hid_intro (HV1.out.below hb)
        have HW2 := hid_intro (HW1.out.trans (hb.mono HW1.out.size))
        rw [← HL1.out]
        have hl1b : l1 ≤ 100400 := by have := HLk.out; have := HL1.out; omega
        clear hf hb x0 x1 hwl HX1 HV1 HW1 HG1 HC
        go_wp2_with fail
        go_loopw [12] (fun z wq => ∃ k2 : Nat, k2 ≤ l1 ∧ z = .int .i64 k2 ∧ Hid (wq.ownsRow w.heap.size 72 2 (.slice (some ⟨g, 0, none⟩) l1 cap) l1 (cellsAll N.cells (mix L1 ⟨xi, Y⟩ k2))) ∧ Hid (BlkW wx [.string xi, .int .i64 Y] wq) ∧ Hid (Below w.heap.size w wq)) (fun z _ => l1 - (intOf z).toNat)
        case atStart => exact ⟨0, by omega, rfl, hid_intro (by have h := HV2.out.1; rw [← HL1.out] at h; simpa [mix] using h), HX2, HW2⟩
        case round =>
          obtain ⟨wq, hwq⟩ : ∃ wq, wq = wr := ⟨_, rfl⟩
          subst hwq
          obtain ⟨k2, hk2, rfl, HO, HX, HW⟩ := hrel
          clear HX2 HV2 HW2
          have hwl := HX.out.1.1
          have x0 : wq.cell? ⟨wx, 0, none⟩ = some (.string xi) := HX.out.1.2 0 (by simp)
          by_cases hq : k2 < l1
          · have hq2 : (k2 : Int) < (l1 : Int) := by omega
            have hql : k2 < L1.length := by have := HL1.out; omega
            have HMM := hid_intro (mix_more L1 ⟨xi, Y⟩ k2 hql)
            have HMA := hid_intro (mix_at L1 ⟨xi, Y⟩ k2 hql)
            have HML := hid_intro (mix_len L1 ⟨xi, Y⟩ k2)
            have HSS2 := hid_intro (set_self (mix L1 ⟨xi, Y⟩ k2) k2 (by rw [mix_len]; exact hql))
            have HCS := hid_intro (fun m => cells_set (mix L1 ⟨xi, Y⟩ k2) k2 m (by rw [mix_len]; exact hql))
            have hyb := HBD.out _ (getD_mem (z := N.zero) L1 k2 hql)
            have HO' : Hid (wq.ownsRow w.heap.size 72 2 (.slice (some ⟨g, 0, none⟩) (mix L1 ⟨xi, Y⟩ k2).length cap) (mix L1 ⟨xi, Y⟩ k2).length (cellsAll N.cells (mix L1 ⟨xi, Y⟩ k2))) := hid_intro (by rw [mix_len, ← HL1.out]; exact HO.out)
            have HPT := hid_intro (lis_pt HO'.out)
            obtain ⟨ao, cp, e1, hmm⟩ := own_made (z := N.zero) N.len HO'.out
            simp only [Value.slice.injEq] at e1
            obtain ⟨rfl, _, rfl⟩ := e1
            obtain ⟨hgl, d0, d1⟩ := lis_two hmm.rws k2 (by rw [mix_len]; exact hql)
            have hfz := HPT.out.free (k2 * 2 + 1) (by rw [mix_len]; omega)
            rw [HMA.out, Nat.zero_add] at d0 d1
            rw [HMA.out] at HSS2 HCS
            generalize L1.getD k2 N.zero = Z at *
            obtain ⟨yi, yn⟩ := Z
            dsimp only at d0 d1 hyb HSS2 HCS
            clear HO' hmm HMA
            by_cases he : yi = xi
            · have he2 := he.symm
              subst he2
              have HN : Hid (mix L1 ⟨xi, Y⟩ (k2 + 1) = (mix L1 ⟨xi, Y⟩ k2).set k2 ⟨xi, yn + Y⟩) := hid_intro (by rw [HMM.out]; unfold upd; rw [if_pos rfl])
              have he3 : (xi.toList == xi.toList) = true := by simp
              have hwz : IntKind.i64.wrap (yn + Y) = yn + Y := i_in (by have := HB1.out; have := HYB.out; omega)
              have hcl : k2 * 2 + 1 < (cellsAll N.cells (mix L1 ⟨xi, Y⟩ k2)).length := by rw [cellsAll_len N.len, mix_len]; omega
              have HON := hid_intro (fun (W : World) (h : W.ownsRow w.heap.size 72 2 (.slice (some ⟨g, 0, none⟩) l1 cap) l1 (cellsAll N.cells (mix L1 ⟨xi, Y⟩ k2))) => own_row_set (j := k2 * 2 + 1) (u := .int .i64 (yn + Y)) h hcl)
              rw [HCS.out (yn + Y), ← HN.out] at HON
              clear HN HCS HSS2 HMM hcl HML hyb he
              generalize mix L1 ⟨xi, Y⟩ k2 = M2 at *
              go_wp2_with fail
              go_quiet (fail)
              obtain ⟨W3, hW3⟩ : ∃ W3, W3 = wq.drewN nq := ⟨_, rfl⟩
              rw [← hW3]
              have HD3 : Hid (Below wq.heap.size wq W3) := hid_intro (by rw [hW3]; exact bdn (Below.refl _ _) _)
              clear hW3
              have HO3 := hid_intro (own_below HO.out HD3.out)
              have HX3 := hid_intro (HX.out.below HD3.out)
              have HW3 := hid_intro (HW.out.trans (HD3.out.mono HW.out.size))
              have p1 : W3.cell? ⟨g, k2 * 2 + 1, none⟩ = some (.int .i64 yn) := (HD3.out.cell (p := ⟨g, k2 * 2 + 1, none⟩) hgl).trans d1
              have pf : W3.frozen? ⟨g, k2 * 2 + 1, none⟩ = false := (World.frozen?_of_block (a := ⟨g, k2 * 2 + 1, none⟩) (HD3.out.block g hgl)).trans hfz
              have hgl3 : g < W3.heap.size := by have := HD3.out.size; omega
              have HS3 : Hid (g < W3.drew.heap.size ∧ wx < W3.drew.heap.size ∧ W3.drew.cell? ⟨wx, 1, none⟩ = some (.int .i64 Y)) := hid_intro ⟨hgl3, HX3.out.1.1, HX3.out.1.2 1 (by simp)⟩
              have HSC : Hid ((W3.drew.setCell ⟨g, k2 * 2 + 1, none⟩ (.int .i64 (yn + Y))).cell? ⟨wx, 1, none⟩ = some (.int .i64 Y)) := hid_intro ((DocR.BlkW.other (HX3.out.below (Below.refl _ _).drew) g (k2 * 2 + 1) (.int .i64 (yn + Y)) (by have := HGX.out; omega)).1.2 1 (by simp))
              clear HO HX HW d0 d1 hgl hfz x0 hwl
              go_wp2_with fail
              refine wp_region_held_drew (S := (fun W => g < W.heap.size ∧ wx < W.heap.size ∧ W.cell? ⟨wx, 1, none⟩ = some (.int .i64 Y))) (by kernel_rfl) HS3.out (fun hHeld => ?_)
              refine wpAnyH_take (i := 0) (oi := { dst := some 57, op := Op.move (Operand.tmp 7), type := 33, pos := "l09_ledger.go:32", after := #[], guard := none }) (v := ?_) rfl (by kernel_rfl) (by kernel_rfl) (by kernel_rfl) (fun _ _ _ h => h) (Or.inl ⟨by rfl, ?_⟩) (by assumption) ?_
              rotate_left
              · (intro w hSw; (try dsimp only at hSw); go_simp) <;> with_reducible rfl
              try simp only [Act.put, List.setIfInBounds_toArray, List.set_cons_zero, List.set_cons_succ]
              refine wpAnyH_take (i := 1) (oi := { dst := some 58, op := Op.move (Operand.tmp 12), type := 3, pos := "l09_ledger.go:32", after := #[], guard := none }) (v := ?_) rfl (by kernel_rfl) (by kernel_rfl) (by kernel_rfl) (fun _ _ _ h => h) (Or.inl ⟨by rfl, ?_⟩) (by assumption) ?_
              rotate_left
              · (intro w hSw; (try dsimp only at hSw); go_simp) <;> with_reducible rfl
              try simp only [Act.put, List.setIfInBounds_toArray, List.set_cons_zero, List.set_cons_succ]
              refine wpAnyH_take (i := 2) (oi := { dst := some 59, op := Op.move (Operand.tmp 7), type := 33, pos := "l09_ledger.go:32", after := #[], guard := none }) (v := ?_) rfl (by kernel_rfl) (by kernel_rfl) (by kernel_rfl) (fun _ _ _ h => h) (Or.inl ⟨by rfl, ?_⟩) (by assumption) ?_
              rotate_left
              · (intro w hSw; (try dsimp only at hSw); go_simp) <;> with_reducible rfl
              try simp only [Act.put, List.setIfInBounds_toArray, List.set_cons_zero, List.set_cons_succ]
              refine wpAnyH_take (i := 3) (oi := { dst := some 60, op := Op.move (Operand.tmp 12), type := 3, pos := "l09_ledger.go:32", after := #[], guard := none }) (v := ?_) rfl (by kernel_rfl) (by kernel_rfl) (by kernel_rfl) (fun _ _ _ h => h) (Or.inl ⟨by rfl, ?_⟩) (by assumption) ?_
              rotate_left
              · (intro w hSw; (try dsimp only at hSw); go_simp) <;> with_reducible rfl
              try simp only [Act.put, List.setIfInBounds_toArray, List.set_cons_zero, List.set_cons_succ]
              refine wpAnyH_take (i := 4) (oi := { dst := some 61, op := Op.indexAddr 33 (Operand.tmp 59) (Operand.tmp 60), type := 0, pos := "l09_ledger.go:32", after := #[{ on := 2, ground := Ground.data }, { on := 3, ground := Ground.data }], guard := none }) (v := ?_) rfl (by kernel_rfl) (by kernel_rfl) (by kernel_rfl) (fun _ _ _ h => h) (Or.inl ⟨by rfl, ?_⟩) (by assumption) ?_
              rotate_left
              · (intro w hSw; (try dsimp only at hSw); go_simp) <;> with_reducible rfl
              try simp only [Act.put, List.setIfInBounds_toArray, List.set_cons_zero, List.set_cons_succ]
              refine wpAnyH_take (i := 5) (oi := { dst := some 62, op := Op.fieldAddr 72 (Operand.tmp 61) 1, type := 0, pos := "l09_ledger.go:32", after := #[{ on := 4, ground := Ground.data }], guard := none }) (v := ?_) rfl (by kernel_rfl) (by kernel_rfl) (by kernel_rfl) (fun _ _ _ h => h) (Or.inl ⟨by rfl, ?_⟩) (by assumption) ?_
              rotate_left
              · (intro w hSw; (try dsimp only at hSw); go_simp) <;> with_reducible rfl
              try simp only [Act.put, List.setIfInBounds_toArray, List.set_cons_zero, List.set_cons_succ]
              refine wpAnyH_take (i := 7) (oi := { dst := some 64, op := Op.fieldAddr 72 (Operand.tmp 9) 1, type := 0, pos := "l09_ledger.go:32", after := #[], guard := none }) (v := ?_) rfl (by kernel_rfl) (by kernel_rfl) (by kernel_rfl) (fun _ _ _ h => h) (Or.inl ⟨by rfl, ?_⟩) (by assumption) ?_
              rotate_left
              · (intro w hSw; (try dsimp only at hSw); go_simp) <;> with_reducible rfl
              try simp only [Act.put, List.setIfInBounds_toArray, List.set_cons_zero, List.set_cons_succ]
              refine wpAnyH_take (i := 8) (oi := { dst := some 65, op := Op.load 2 (Operand.tmp 64), type := 2, pos := "l09_ledger.go:32", after := #[{ on := 7, ground := Ground.data }], guard := none }) (v := ?_) rfl (by kernel_rfl) (by kernel_rfl) (by kernel_rfl) (fun _ _ _ h => h) (Or.inl ⟨by rfl, ?_⟩) (by assumption) ?_
              rotate_left
              · (intro w hSw; (try dsimp only at hSw); go_simp) <;> with_reducible rfl
              try simp only [Act.put, List.setIfInBounds_toArray, List.set_cons_zero, List.set_cons_succ]
              refine wpAnyH_ready (rs := [6]) (by kernel_rfl) (by simp) ?_
              refine AllReadyH.cons (o := { dst := some 63, op := Op.load 2 (Operand.tmp 62), type := 2, pos := "l09_ledger.go:32", after := #[{ on := 5, ground := Ground.data }], guard := none }) rfl (fun K hK => ?_) AllReadyH.nil
              go_simp
              try go_wp2_with fail
              refine hK.out _ _ HS3.out (fun _ => ?_)
              clear hK K
              try simp only [Act.put, List.setIfInBounds_toArray, List.set_cons_zero, List.set_cons_succ]
              refine wpAnyH_take (i := 9) (oi := { dst := some 66, op := Op.binOp BinOp.add 2 (Operand.tmp 63) (Operand.tmp 65) 2, type := 2, pos := "l09_ledger.go:32", after := #[{ on := 6, ground := Ground.data }, { on := 8, ground := Ground.data }], guard := none }) (v := ?_) rfl (by kernel_rfl) (by kernel_rfl) (by kernel_rfl) (fun _ _ _ h => h) (Or.inl ⟨by rfl, ?_⟩) (by assumption) ?_
              rotate_left
              · (intro w hSw; (try dsimp only at hSw); go_simp) <;> with_reducible rfl
              try simp only [Act.put, List.setIfInBounds_toArray, List.set_cons_zero, List.set_cons_succ]
              refine wpAnyH_take (i := 10) (oi := { dst := some 67, op := Op.indexAddr 33 (Operand.tmp 57) (Operand.tmp 58), type := 0, pos := "l09_ledger.go:32", after := #[{ on := 0, ground := Ground.data }, { on := 1, ground := Ground.data }, { on := 0, ground := Ground.phase }, { on := 1, ground := Ground.phase }, { on := 2, ground := Ground.phase }, { on := 3, ground := Ground.phase }, { on := 4, ground := Ground.phase }, { on := 5, ground := Ground.phase }, { on := 6, ground := Ground.phase }, { on := 7, ground := Ground.phase }, { on := 8, ground := Ground.phase }, { on := 9, ground := Ground.phase }], guard := none }) (v := ?_) rfl (by kernel_rfl) (by kernel_rfl) (by kernel_rfl) (fun _ _ _ h => h) (Or.inl ⟨by rfl, ?_⟩) (by assumption) ?_
              rotate_left
              · (intro w hSw; (try dsimp only at hSw); go_simp) <;> with_reducible rfl
              try simp only [Act.put, List.setIfInBounds_toArray, List.set_cons_zero, List.set_cons_succ]
              refine wpAnyH_take (i := 11) (oi := { dst := some 68, op := Op.fieldAddr 72 (Operand.tmp 67) 1, type := 0, pos := "l09_ledger.go:32", after := #[{ on := 10, ground := Ground.data }, { on := 0, ground := Ground.phase }, { on := 1, ground := Ground.phase }, { on := 2, ground := Ground.phase }, { on := 3, ground := Ground.phase }, { on := 4, ground := Ground.phase }, { on := 5, ground := Ground.phase }, { on := 6, ground := Ground.phase }, { on := 7, ground := Ground.phase }, { on := 8, ground := Ground.phase }, { on := 9, ground := Ground.phase }], guard := none }) (v := ?_) rfl (by kernel_rfl) (by kernel_rfl) (by kernel_rfl) (fun _ _ _ h => h) (Or.inl ⟨by rfl, ?_⟩) (by assumption) ?_
              rotate_left
              · (intro w hSw; (try dsimp only at hSw); go_simp) <;> with_reducible rfl
              try simp only [Act.put, List.setIfInBounds_toArray, List.set_cons_zero, List.set_cons_succ]
              refine wpAnyH_ready (rs := [12]) (by kernel_rfl) (by simp) ?_
              refine AllReadyH.cons (o := { dst := none, op := Op.store 2 (Operand.tmp 68) (Operand.tmp 66), type := 0, pos := "l09_ledger.go:32", after := #[{ on := 11, ground := Ground.data }, { on := 9, ground := Ground.data }, { on := 0, ground := Ground.phase }, { on := 1, ground := Ground.phase }, { on := 2, ground := Ground.phase }, { on := 3, ground := Ground.phase }, { on := 4, ground := Ground.phase }, { on := 5, ground := Ground.phase }, { on := 6, ground := Ground.phase }, { on := 7, ground := Ground.phase }, { on := 8, ground := Ground.phase }, { on := 9, ground := Ground.phase }], guard := none }) rfl (fun K hK => ?_) AllReadyH.nil
              go_simp
              try go_wp2_with fail
              have hk3 : g < (W3.drew.setCell ⟨g, k2 * 2 + 1, none⟩ (.int .i64 (yn + Y))).heap.size ∧ wx < (W3.drew.setCell ⟨g, k2 * 2 + 1, none⟩ (.int .i64 (yn + Y))).heap.size ∧ (W3.drew.setCell ⟨g, k2 * 2 + 1, none⟩ (.int .i64 (yn + Y))).cell? ⟨wx, 1, none⟩ = some (.int .i64 Y) := ⟨by simpa using hgl3, by simpa using HX3.out.1.1, HSC.out⟩
              refine hK.out _ _ hk3 (fun _ => ?_)
              clear hK K
              try simp only [Act.put, List.setIfInBounds_toArray, List.set_cons_zero, List.set_cons_succ]
              refine wpAnyH_done (by kernel_rfl) ?_ _
              obtain ⟨W5, hW5⟩ : ∃ W5, W5 = (W3.setCell ⟨g, k2 * 2 + 1, none⟩ (.int .i64 (yn + Y))).drew := ⟨_, rfl⟩
              have HO5 : Hid (W5.ownsRow w.heap.size 72 2 (.slice (some ⟨g, 0, none⟩) l1 cap) l1 (cellsAll N.cells (mix L1 ⟨xi, Y⟩ (k2 + 1)))) := hid_intro (by rw [hW5]; exact HON.out _ (own_drew HO3.out))
              have HX5 : Hid (BlkW wx [.string xi, .int .i64 Y] W5) := hid_intro (by rw [hW5]; exact DocR.BlkW.other (HX3.out.below (Below.refl _ _).drew) g _ _ (by have := HGX.out; omega))
              have HW5 : Hid (Below w.heap.size w W5) := hid_intro (by rw [hW5]; exact HW3.out.drew.setCell (by have := HGX.out; omega) _)
              rw [← hW5]
              clear hW5 p1 pf hgl3 HS3 HO3 HX3 HW3
              go_wp2_with fail
              go_roundw
              case rel => exact ⟨k2 + 1, by omega, by go_num, HO5, HX5, HW5⟩
              case measure => simp [intOf]; omega
            · have he3 : (yi.toList == xi.toList) = false := by simpa using fun e => he (toList_inj e)
              have HN : Hid (mix L1 ⟨xi, Y⟩ (k2 + 1) = mix L1 ⟨xi, Y⟩ k2) := hid_intro (by rw [HMM.out]; unfold upd; rw [if_neg he]; exact HSS2.out)
              go_wp2_with fail
              go_quiet (fail)
              obtain ⟨W3, hW3⟩ : ∃ W3, W3 = wq.drewN nq := ⟨_, rfl⟩
              rw [← hW3]
              have HD3 : Hid (Below wq.heap.size wq W3) := hid_intro (by rw [hW3]; exact bdn (Below.refl _ _) _)
              clear hW3
              have HO3 := hid_intro (own_below HO.out HD3.out)
              have HX3 := hid_intro (HX.out.below HD3.out)
              have HW3 := hid_intro (HW.out.trans (HD3.out.mono HW.out.size))
              go_wp2_with fail
              go_roundw
              case rel => exact ⟨k2 + 1, by omega, by go_num, hid_intro (by rw [HN.out]; exact HO3.out), HX3, HW3⟩
              case measure => simp [intOf]; omega
          · have hq2 : ¬ (k2 : Int) < (l1 : Int) := by omega
            obtain rfl : k2 = l1 := by omega
            have HEM := hid_intro (mix_end (x := ⟨xi, Y⟩) HRk.out HF.out)
            have HO9 : Hid (OwnN wq w.heap.size (.slice (some ⟨g, 0, none⟩) k2 cap) (put L1 ⟨xi, Y⟩)) := hid_intro (by
              have h := HO.out
              have e : k2 = (put L1 ⟨xi, Y⟩).length := by rw [← HEM.out, mix_len]; exact HL1.out
              have e2 : mix L1 ⟨xi, Y⟩ k2 = put L1 ⟨xi, Y⟩ := by rw [HL1.out]; exact HEM.out
              rw [e2] at h
              exact ⟨by rw [← e]; exact h, fun e => by cases e⟩)
            go_wp2_with fail
            go_roundw
            case rel => exact ⟨k + 1, by omega, by go_num, hid_intro (by rw [HM2.out]; exact HO9.out), hid_intro (by rw [HM2.out]; intro y hy; have := HPB.out y hy; omega), HW⟩
            case measure => simp [intOf]; omega
      · have HV2 : Hid (OwnN w2 w.heap.size v (put L1 ⟨xi, Y⟩)) := hid_intro (own_nonnil (own_low ho HW1.out.size) (put_pos _ _))
        have HW2 := hid_intro (HW1.out.trans (hb.mono HW1.out.size))
        clear hf ho hb
        go_wp2_with fail
        go_roundw
        case rel => exact ⟨k + 1, by omega, by go_num, hid_intro (by rw [HM2.out]; exact HV2.out), hid_intro (by rw [HM2.out]; intro y hy; have := HPB.out y hy; omega), HW2⟩
        case measure => simp [intOf]; omega
    · have hlt2 : ¬ (k : Int) < (len : Int) := by omega
      obtain rfl : k = len := by omega
      rw [HEND.out] at HV
      go_wp2_with fail
      go_ret
      exact ⟨_, rfl, HV.out, HW.out⟩
end NetR
end Go.Proofs.YtjfmdcdclifpkaaGreatDoor
