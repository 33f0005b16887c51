/-
  FnExactSeenTake: for every list of entries and every event the law's call returns true (the program's SeenTake hands back what the model's does, writes into no list and keeps nothing of one; its list is its own, behind another call too), and the list and the event read as they did. No condition.
-/
import Derived.Test.YtcalledapkmogaaEnX
import Derived.Test.YtcalledapkmogaaEnZ
import Derived.Test.YtcalledapkmogaaEvtIn
import Derived.Test.YtcalledapkmogaaEvtLaw
import Derived.Deep.RegionHeld
import Derived.Deep.CutRange
namespace Go.Proofs.Ytcalledapkmogaa
open Go.ChangeShapes Go.WideShapes Go.ChangeAt Go.RowKit
open Go.ChangeMaps (open_string shut_string)
set_option linter.unusedVariables false
namespace SeenTakeL
open SeenR RowG
open EvtR (Pt ev szE)
open CatR (Blk)
theorem Blk.al (w : World) (o : Obj) : Below w.heap.size w (w.alloc o) := (Below.refl _ _).alloc (Nat.le_refl _) _
/-- The event in its box, in a world grown. -/
def BoxL (w0 : World) (B : Nat) (i a m : ByteArray) (n k : Int) (t : ByteArray) (W : World) : Prop := Below w0.heap.size w0 W ∧ B < W.heap.size ∧ W.cell? ⟨B, 0, none⟩ = some (.string i) ∧ W.cell? ⟨B, 1, none⟩ = some (.string a) ∧ W.cell? ⟨B, 2, none⟩ = some (.string m) ∧ W.cell? ⟨B, 3, none⟩ = some (.int .i64 n) ∧ W.cell? ⟨B, 4, none⟩ = some (.int .i64 k) ∧ W.cell? ⟨B, 5, none⟩ = some (.string t)
theorem BoxL.below {w0 : World} {B : Nat} {i a m : ByteArray} {n k : Int} {t : ByteArray} {W W' : World} (h : BoxL w0 B i a m n k t W) (hb : Below W.heap.size W W') : BoxL w0 B i a m n k t W' := by
  obtain ⟨h0, l, p0, p1, p2, p3, p4, p5⟩ := h
  have f := fun o => hb.cell (p := ⟨B, o, none⟩) l
  exact ⟨h0.trans (hb.mono h0.size), by have := hb.size; omega, (f 0).trans p0, (f 1).trans p1, (f 2).trans p2, (f 3).trans p3, (f 4).trans p4, (f 5).trans p5⟩
theorem BoxL.start {w0 : World} {B : Nat} {i a m : ByteArray} {n k : Int} {t : ByteArray} (h : Blk B [.string i, .string a, .string m, .int .i64 n, .int .i64 k, .string t] w0) : BoxL w0 B i a m n k t w0.drew :=
  ⟨(Below.refl _ _).drew, h.1, h.2 0 (by simp), h.2 1 (by simp), h.2 2 (by simp), h.2 3 (by simp), h.2 4 (by simp), h.2 5 (by simp)⟩
theorem BoxL.put {w0 : World} {B : Nat} {i a m : ByteArray} {n k : Int} {t : ByteArray} {W : World} (h : BoxL w0 B i a m n k t W) (g o : Nat) (u : Value) (hB : B < w0.heap.size) (hg : w0.heap.size ≤ g) : BoxL w0 B i a m n k t (W.setCell ⟨g, o, none⟩ u) := by
  obtain ⟨h0, l, p0, p1, p2, p3, p4, p5⟩ := h
  have e := (grown_set W g o u).block B l (fun e => by simp at e; omega)
  have f := fun o => World.cell?_of_block (a := ⟨B, o, none⟩) e
  exact ⟨h0.setCell hg _, by simpa using l, (f 0).trans p0, (f 1).trans p1, (f 2).trans p2, (f 3).trans p3, (f 4).trans p4, (f 5).trans p5⟩
theorem made_set {base : Nat} {ao : Option Addr} {l : List N} {w : World} (h : MadeG 3 N.cells N.zero base ao l w) (g0 o : Nat) (u : Value) (hne : l.length = 0 ∨ ∀ g, ao = some ⟨g, 0, none⟩ → g ≠ g0) : MadeG 3 N.cells N.zero base ao l (w.setCell ⟨g0, o, none⟩ u) := by
  rcases hne with h0 | hne
  · exact ⟨.inl h0, .inl h0⟩
  · exact made_put h g0 o u hne
theorem blk_put2 (W : World) (g : Nat) (u0 u1 : Value) (hl : g < W.heap.size) (h0 : (W.cell? ⟨g, 0, none⟩).isSome = true) (h1 : (W.cell? ⟨g, 1, none⟩).isSome = true) :
    Blk g [u0, u1] ((W.setCell ⟨g, 0, none⟩ u0).setCell ⟨g, 1, none⟩ u1) := by
  obtain ⟨v0, e0⟩ := Option.isSome_iff_exists.1 h0
  obtain ⟨v1, e1⟩ := Option.isSome_iff_exists.1 h1
  refine ⟨by simpa using hl, fun j hj => ?_⟩
  match j, hj with
  | 0, _ => simp [go_sem, e0]
  | 1, _ => simp [go_sem, e1]
set_option linter.unusedSimpArgs false in
set_option maxRecDepth 100000 in
set_option maxHeartbeats 8000000 in
theorem law_in (al : Option Addr) (cap : Nat) (es : List N) (i a m : ByteArray) (n k : Int) (t : ByteArray) (D : List N) (c : Int) (R R2 : Int) (w : World) (hR : ¬ R < 0) (hR2 : ¬ R2 < 0) (hlen : es.length ≤ 1048576) (hD : D.length ≤ 40) (hI : Ens al es w)
    (hZ : ∀ W, Below w.heap.size w W → Calls Try.prog 18 #[.slice al es.length cap, .int .i64 1048576] W fun e w' => e = .returned (.int .i64 R) ∧ Below W.heap.size W w')
    (hZ2 : ∀ W, Calls Try.prog 21 #[ev i a m n k t, .int .i64 R] W fun e w' => e = .returned (.int .i64 R2) ∧ Below W.heap.size W w')
    (hS : ∀ (b : Nat) w, Ens (some ⟨b, 0, none⟩) es w → Calls Try.prog 11 #[.slice (some ⟨b, 0, none⟩) es.length es.length, ev i a m n k t] w fun e w' => ResT w D c e w')
    (hM : ∀ ao (cap : Nat) w, Ens ao es w → Calls Try.prog 7 #[.slice ao es.length cap, ev i a m n k t] w fun e w' => ResT w D c e w') :
    Calls Try.prog 5 #[.slice al es.length cap, ev i a m n k t] w fun e w' => e = .returned (.bool true) ∧ Below w.heap.size w w' := by
  have HZ := hid_intro hZ
  have HZ2 := hid_intro hZ2
  have HTE := hid_intro (fun w => EvtR.toEvent_any i a m n k t w)
  have HT := hid_intro (fun ao cap w hI => toEns_any ao cap es w hlen hI)
  have HS := hid_intro hS
  have HM := hid_intro hM
  have HE := hid_intro (fun ao bo cap cap' w hI hJ => eqEns_any ao bo cap cap' es w hlen hI hJ)
  have HQ := hid_intro (fun ao bo cap cap' w (hI : Ens ao D w) (hJ : Ens bo D w) => eqOut ao bo cap cap' c D w (by omega) hI hJ)
  have HMX := hid_intro (fun (g : Nat) (cap : Nat) w (h : Pt g (es.length * 3) w) => marks_any g es.length cap w hlen h)
  have HI := hid_intro hI
  have HB0 : Hid (Below w.heap.size w (w.alloc (.cells #[.string i, .string a, .string m, .int .i64 n, .int .i64 k, .string t] 46))) := hid_intro ((Below.refl _ _).alloc (Nat.le_refl _) _)
  have HA0 : Hid (Blk w.heap.size [.string i, .string a, .string m, .int .i64 n, .int .i64 k, .string t] (w.alloc (.cells #[.string i, .string a, .string m, .int .i64 n, .int .i64 k, .string t] 46))) := hid_intro (Blk.new w _ _)
  clear hI hZ hZ2 hS hM
  generalize es.length = len at *
  have hk0 : ¬ ((1 + 3 * len : Nat) : Int) < 0 := by omega
  unfold ev at *
  go_enter Try.func5, Try.ntmps5
  go_wp2_with fail
  refine (HZ.out _ HB0.out).mono ?_
  rintro e w1 ⟨rfl, hb1⟩
  have HB1 := hid_intro (HB0.out.trans (hb1.mono HB0.out.size))
  have HA1 := hid_intro (HA0.out.below hb1)
  clear hb1 HB0 HA0
  obtain ⟨hl1, c1⟩ := HA1.out
  have c10 : w1.cell? ⟨w.heap.size, 0, none⟩ = some (.string i) := c1 0 (by simp)
  have c11 : w1.cell? ⟨w.heap.size, 1, none⟩ = some (.string a) := c1 1 (by simp)
  have c12 : w1.cell? ⟨w.heap.size, 2, none⟩ = some (.string m) := c1 2 (by simp)
  have c13 : w1.cell? ⟨w.heap.size, 3, none⟩ = some (.int .i64 n) := c1 3 (by simp)
  have c14 : w1.cell? ⟨w.heap.size, 4, none⟩ = some (.int .i64 k) := c1 4 (by simp)
  have c15 : w1.cell? ⟨w.heap.size, 5, none⟩ = some (.string t) := c1 5 (by simp)
  clear c1
  go_wp2_with fail
  refine (HZ2.out _).mono ?_
  rintro e w2 ⟨rfl, hb2⟩
  have HB2 := hid_intro (HB1.out.trans (hb2.mono HB1.out.size))
  have HA2 := hid_intro (HA1.out.below hb2)
  clear hb2 HB1 HA1 c10 c11 c12 c13 c14 c15 hl1
  have hBw : w.heap.size < w2.heap.size := HA2.out.1
  have HS0 : Hid (BoxL w2 w.heap.size i a m n k t w2.drew) := hid_intro (BoxL.start HA2.out)
  have HIW : Hid (∀ W, Below w2.heap.size w2 W → Ens al es W) := hid_intro (fun W hW => HI.out.below (HB2.out.trans (hW.mono HB2.out.size)))
  go_wp2_with fail
  go_cut [6] from 23 to 27 (fun v wx => ∃ WB ao cp, v = .pointer (some ⟨WB, 0, none⟩) ∧ Hid (Below w2.heap.size w2 wx) ∧ Hid (Blk WB [.slice ao D.length cp, .int .i64 c] wx) ∧ Hid (Ens ao D wx) ∧ w2.heap.size ≤ WB)
  case first =>
    refine wp_region_held_drew (S := fun W => Below w2.heap.size w2 W ∧ w.heap.size < W.heap.size ∧ W.cell? ⟨w.heap.size, 0, none⟩ = some (.string i) ∧ W.cell? ⟨w.heap.size, 1, none⟩ = some (.string a) ∧ W.cell? ⟨w.heap.size, 2, none⟩ = some (.string m) ∧ W.cell? ⟨w.heap.size, 3, none⟩ = some (.int .i64 n) ∧ W.cell? ⟨w.heap.size, 4, none⟩ = some (.int .i64 k) ∧ W.cell? ⟨w.heap.size, 5, none⟩ = some (.string t)) (by kernel_rfl) HS0.out (fun hHeld => ?_)
    obtain ⟨W0, hW0⟩ : ∃ W0, W0 = w2.drew := ⟨_, rfl⟩
    rw [← hW0] at hHeld HS0 ⊢
    clear hW0
    refine wpAnyH_take (i := 0) (oi := { dst := some 23, op := Op.move (Operand.tmp 0), type := 42, pos := "exact.go:2487", after := #[], guard := none }) (v := ?_) rfl (by kernel_rfl) (by kernel_rfl) (by kernel_rfl) (fun _ _ _ h => h) (Or.inl ⟨by rfl, ?_⟩) (by assumption) ?_
    rotate_left
    · (intro w hSw; (try dsimp only at hSw); go_simp) <;> with_reducible rfl
    try simp only [Act.put, List.setIfInBounds_toArray, List.set_cons_zero, List.set_cons_succ]
    refine wpAnyH_take (i := 2) (oi := { dst := some 25, op := Op.load 46 (Operand.tmp 3), type := 46, pos := "exact.go:2487", after := #[], guard := none }) (v := ?_) rfl (by kernel_rfl) (by kernel_rfl) (by kernel_rfl) (fun _ _ _ h => h) (Or.inl ⟨by rfl, ?_⟩) (by assumption) ?_
    rotate_left
    · (intro w hSw; (try dsimp only at hSw); go_simp) <;> with_reducible rfl
    try simp only [Act.put, List.setIfInBounds_toArray, List.set_cons_zero, List.set_cons_succ]
    refine wpAnyH_ready (rs := [1, 5]) (by kernel_rfl) (by simp) ?_
    refine AllReadyH.cons (o := { dst := some 24, op := Op.call { callee := Callee.value (Operand.func 19), args := #[Operand.tmp 23], argTypes := #[42] }, type := 23, pos := "exact.go:2487", after := #[{ on := 0, ground := Ground.data }], guard := none }) rfl (fun K hK => ?_) (AllReadyH.cons (o := { dst := some 6, op := Op.alloc 29, type := 0, pos := "exact.go:2487", after := #[], guard := none }) rfl (fun K hK => ?_) AllReadyH.nil)
    · go_simp
      go_at_call 19
      refine (HT.out _ _ _ (HIW.out _ HS0.out.1)).mono ?_
      rintro e q1 ⟨rfl, hE1, _, hq1⟩
      try go_wp2_with fail
      have hk1 := BoxL.below HS0.out hq1
      refine hK.out _ _ hk1 (fun _ => ?_)
      clear hK K
      try simp only [Act.put, List.setIfInBounds_toArray, List.set_cons_zero, List.set_cons_succ]
      refine wpAnyH_ready (rs := [3, 5]) (by kernel_rfl) (by simp) ?_
      refine AllReadyH.cons (o := { dst := some 26, op := Op.call { callee := Callee.value (Operand.func 22), args := #[Operand.tmp 25], argTypes := #[46] }, type := 25, pos := "exact.go:2487", after := #[{ on := 2, ground := Ground.data }, { on := 1, ground := Ground.chain }], guard := none }) rfl (fun K hK => ?_) (AllReadyH.cons (o := { dst := some 6, op := Op.alloc 29, type := 0, pos := "exact.go:2487", after := #[], guard := none }) rfl (fun K hK => ?_) AllReadyH.nil)
      · go_simp
        go_at_call 22
        refine (HTE.out _).mono ?_
        rintro e q3 ⟨rfl, hq3⟩
        try go_wp2_with fail
        have hk3 := BoxL.below hk1 hq3
        have hE3 := hE1.below hq3
        refine hK.out _ _ hk3 (fun _ => ?_)
        clear hK K
        try simp only [Act.put, List.setIfInBounds_toArray, List.set_cons_zero, List.set_cons_succ]
        refine wpAnyH_ready (rs := [4, 5]) (by kernel_rfl) (by simp) ?_
        refine AllReadyH.cons (o := { dst := some 27, op := Op.call { callee := Callee.value (Operand.func 11), args := #[Operand.tmp 24, Operand.tmp 26], argTypes := #[23, 25] }, type := 29, pos := "exact.go:2487", after := #[{ on := 1, ground := Ground.data }, { on := 3, ground := Ground.data }, { on := 3, ground := Ground.chain }], guard := none }) rfl (fun K hK => ?_) (AllReadyH.cons (o := { dst := some 6, op := Op.alloc 29, type := 0, pos := "exact.go:2487", after := #[], guard := none }) rfl (fun K hK => ?_) AllReadyH.nil)
        · go_simp
          go_at_call 11
          refine (HS.out _ _ hE3).mono ?_
          rintro e q4 ⟨ao, cp, rfl, hM4, hq4⟩
          try go_wp2_with fail
          have hk4 := BoxL.below hk3 hq4
          refine hK.out _ _ hk4 (fun _ => ?_)
          clear hK K
          try simp only [Act.put, List.setIfInBounds_toArray, List.set_cons_zero, List.set_cons_succ]
          refine wpAnyH_ready (rs := [5]) (by kernel_rfl) (by simp) ?_
          refine AllReadyH.cons (o := { dst := some 6, op := Op.alloc 29, type := 0, pos := "exact.go:2487", after := #[], guard := none }) rfl (fun K hK => ?_) AllReadyH.nil
          go_simp
          try go_wp2_with fail
          have hk5 := BoxL.below hk4 (Blk.al q4 (.cells #[.slice none 0 0, .int .i64 0] 29))
          have hv5 : (q4.alloc (.cells #[.slice none 0 0, .int .i64 0] 29)).heap[q4.heap.size]? = some (Obj.cells #[.slice none 0 0, .int .i64 0] 29 (0, 0)) := heap_alloc_new _ _
          have hap := fun g (hg : g < q4.heap.size) => Nat.ne_of_lt hg
          have htp := made_top hM4
          have hM5 := hM4.below (Blk.al q4 (.cells #[.slice none 0 0, .int .i64 0] 29))
          refine hK.out _ _ hk5 (fun _ => ?_)
          clear hK K
          try simp only [Act.put, List.setIfInBounds_toArray, List.set_cons_zero, List.set_cons_succ]
          obtain ⟨WB, hWB⟩ : ∃ WB, WB = q4.heap.size := ⟨_, rfl⟩
          obtain ⟨Wa, hWa⟩ : ∃ Wa, Wa = q4.alloc (.cells #[.slice none 0 0, .int .i64 0] 29) := ⟨_, rfl⟩
          have hwb : w2.heap.size ≤ WB := by rw [hWB]; exact hk4.1.size
          rw [← hWa] at hk5 hv5 hM5 ⊢
          rw [← hWB] at hv5 hap htp ⊢
          clear hWa hWB
          have y0 : Wa.cell? ⟨WB, 0, none⟩ = some (.slice none 0 0) := by simp [World.cell?, hv5]
          have y1 : Wa.cell? ⟨WB, 1, none⟩ = some (.int .i64 0) := by simp [World.cell?, hv5]
          have f0 : Wa.frozen? ⟨WB, 0, none⟩ = false := by simp [World.frozen?, hv5]
          have f1 : Wa.frozen? ⟨WB, 1, none⟩ = false := by simp [World.frozen?, hv5]
          have hwl := (Array.getElem?_eq_some_iff.1 hv5).1
          refine wpAnyH_ready (rs := [6]) (by kernel_rfl) (by simp) ?_
          refine AllReadyH.cons (o := { dst := none, op := Op.store 29 (Operand.tmp 6) (Operand.tmp 27), type := 0, pos := "exact.go:2487", after := #[{ on := 5, ground := Ground.data }, { on := 4, ground := Ground.data }, { on := 4, ground := Ground.chain }, { on := 0, ground := Ground.phase }, { on := 1, ground := Ground.phase }, { on := 2, ground := Ground.phase }, { on := 3, ground := Ground.phase }, { on := 4, ground := Ground.phase }, { on := 5, ground := Ground.phase }], guard := none }) rfl (fun K hK => ?_) AllReadyH.nil
          go_simp
          try go_wp2_with fail
          have hk6 := BoxL.put (BoxL.put hk5 WB 0 (.slice ao D.length cp) hBw hwb) WB 1 (.int .i64 c) hBw hwb
          have hM6 := made_set (made_set hM5 WB 0 (.slice ao D.length cp) (htp.imp id (fun h g hg => hap g (h g hg)))) WB 1 (.int .i64 c) (htp.imp id (fun h g hg => hap g (h g hg)))
          have hX6 := blk_put2 Wa WB (.slice ao D.length cp) (.int .i64 c) hwl (by rw [y0]; rfl) (by rw [y1]; rfl)
          refine hK.out _ _ hk6 (fun _ => ?_)
          clear hK K
          try simp only [Act.put, List.setIfInBounds_toArray, List.set_cons_zero, List.set_cons_succ]
          refine wpAnyH_done (by kernel_rfl) ?_ _
          have HB6 := hid_intro hk6.1
          have HW6 := hid_intro hM6.rws
          have HX6 := hid_intro hX6
          clear hk6 hM6 hX6 y0 y1 f0 f1
          go_wp2_with fail
          go_meet
          case rel => exact ⟨WB, ao, cp, rfl, HB6, HX6, HW6, hwb⟩
        · go_simp
          try go_wp2_with fail
          have hk5 := BoxL.below hk3 (Blk.al q3 (.cells #[.slice none 0 0, .int .i64 0] 29))
          have hv5 : (q3.alloc (.cells #[.slice none 0 0, .int .i64 0] 29)).heap[q3.heap.size]? = some (Obj.cells #[.slice none 0 0, .int .i64 0] 29 (0, 0)) := heap_alloc_new _ _
          have hE5 := hE3.below (Blk.al q3 (.cells #[.slice none 0 0, .int .i64 0] 29))
          refine hK.out _ _ hk5 (fun _ => ?_)
          clear hK K
          try simp only [Act.put, List.setIfInBounds_toArray, List.set_cons_zero, List.set_cons_succ]
          obtain ⟨WB, hWB⟩ : ∃ WB, WB = q3.heap.size := ⟨_, rfl⟩
          obtain ⟨Wa, hWa⟩ : ∃ Wa, Wa = q3.alloc (.cells #[.slice none 0 0, .int .i64 0] 29) := ⟨_, rfl⟩
          have hwb : w2.heap.size ≤ WB := by rw [hWB]; exact hk3.1.size
          rw [← hWa] at hk5 hv5 hE5 ⊢
          rw [← hWB] at hv5 ⊢
          clear hWa hWB
          refine wpAnyH_ready (rs := [4]) (by kernel_rfl) (by simp) ?_
          refine AllReadyH.cons (o := { dst := some 27, op := Op.call { callee := Callee.value (Operand.func 11), args := #[Operand.tmp 24, Operand.tmp 26], argTypes := #[23, 25] }, type := 29, pos := "exact.go:2487", after := #[{ on := 1, ground := Ground.data }, { on := 3, ground := Ground.data }, { on := 3, ground := Ground.chain }], guard := none }) rfl (fun K hK => ?_) AllReadyH.nil
          go_simp
          go_at_call 11
          refine (HS.out _ _ hE5).mono ?_
          rintro e q4 ⟨ao, cp, rfl, hM4, hq4⟩
          try go_wp2_with fail
          have hk4 := BoxL.below hk5 hq4
          have hap := fun g (hg : Wa.heap.size ≤ g) => Nat.ne_of_gt (Nat.lt_of_lt_of_le (Array.getElem?_eq_some_iff.1 hv5).1 hg)
          have hv4 := (hq4.block _ (Array.getElem?_eq_some_iff.1 hv5).1).trans hv5
          refine hK.out _ _ hk4 (fun _ => ?_)
          clear hK K
          try simp only [Act.put, List.setIfInBounds_toArray, List.set_cons_zero, List.set_cons_succ]
          have y0 : q4.cell? ⟨WB, 0, none⟩ = some (.slice none 0 0) := by simp [World.cell?, hv4]
          have y1 : q4.cell? ⟨WB, 1, none⟩ = some (.int .i64 0) := by simp [World.cell?, hv4]
          have f0 : q4.frozen? ⟨WB, 0, none⟩ = false := by simp [World.frozen?, hv4]
          have f1 : q4.frozen? ⟨WB, 1, none⟩ = false := by simp [World.frozen?, hv4]
          have hwl := (Array.getElem?_eq_some_iff.1 hv4).1
          refine wpAnyH_ready (rs := [6]) (by kernel_rfl) (by simp) ?_
          refine AllReadyH.cons (o := { dst := none, op := Op.store 29 (Operand.tmp 6) (Operand.tmp 27), type := 0, pos := "exact.go:2487", after := #[{ on := 5, ground := Ground.data }, { on := 4, ground := Ground.data }, { on := 4, ground := Ground.chain }, { on := 0, ground := Ground.phase }, { on := 1, ground := Ground.phase }, { on := 2, ground := Ground.phase }, { on := 3, ground := Ground.phase }, { on := 4, ground := Ground.phase }, { on := 5, ground := Ground.phase }], guard := none }) rfl (fun K hK => ?_) AllReadyH.nil
          go_simp
          try go_wp2_with fail
          have hk6 := BoxL.put (BoxL.put hk4 WB 0 (.slice ao D.length cp) hBw hwb) WB 1 (.int .i64 c) hBw hwb
          have hM6 := made_set (made_set hM4 WB 0 (.slice ao D.length cp) (hM4.own.imp id (fun ⟨g, e1, e2, e3⟩ g' e => by rw [e1] at e; simp only [Option.some.injEq, Addr.mk.injEq, and_true] at e; subst e; exact hap _ e2))) WB 1 (.int .i64 c) (hM4.own.imp id (fun ⟨g, e1, e2, e3⟩ g' e => by rw [e1] at e; simp only [Option.some.injEq, Addr.mk.injEq, and_true] at e; subst e; exact hap _ e2))
          have hX6 := blk_put2 q4 WB (.slice ao D.length cp) (.int .i64 c) hwl (by rw [y0]; rfl) (by rw [y1]; rfl)
          refine hK.out _ _ hk6 (fun _ => ?_)
          clear hK K
          try simp only [Act.put, List.setIfInBounds_toArray, List.set_cons_zero, List.set_cons_succ]
          refine wpAnyH_done (by kernel_rfl) ?_ _
          have HB6 := hid_intro hk6.1
          have HW6 := hid_intro hM6.rws
          have HX6 := hid_intro hX6
          clear hk6 hM6 hX6 y0 y1 f0 f1
          go_wp2_with fail
          go_meet
          case rel => exact ⟨WB, ao, cp, rfl, HB6, HX6, HW6, hwb⟩
      · go_simp
        try go_wp2_with fail
        have hk5 := BoxL.below hk1 (Blk.al q1 (.cells #[.slice none 0 0, .int .i64 0] 29))
        have hv5 : (q1.alloc (.cells #[.slice none 0 0, .int .i64 0] 29)).heap[q1.heap.size]? = some (Obj.cells #[.slice none 0 0, .int .i64 0] 29 (0, 0)) := heap_alloc_new _ _
        have hE5 := hE1.below (Blk.al q1 (.cells #[.slice none 0 0, .int .i64 0] 29))
        refine hK.out _ _ hk5 (fun _ => ?_)
        clear hK K
        try simp only [Act.put, List.setIfInBounds_toArray, List.set_cons_zero, List.set_cons_succ]
        obtain ⟨WB, hWB⟩ : ∃ WB, WB = q1.heap.size := ⟨_, rfl⟩
        obtain ⟨Wa, hWa⟩ : ∃ Wa, Wa = q1.alloc (.cells #[.slice none 0 0, .int .i64 0] 29) := ⟨_, rfl⟩
        have hwb : w2.heap.size ≤ WB := by rw [hWB]; exact hk1.1.size
        rw [← hWa] at hk5 hv5 hE5 ⊢
        rw [← hWB] at hv5 ⊢
        clear hWa hWB
        refine wpAnyH_ready (rs := [3]) (by kernel_rfl) (by simp) ?_
        refine AllReadyH.cons (o := { dst := some 26, op := Op.call { callee := Callee.value (Operand.func 22), args := #[Operand.tmp 25], argTypes := #[46] }, type := 25, pos := "exact.go:2487", after := #[{ on := 2, ground := Ground.data }, { on := 1, ground := Ground.chain }], guard := none }) rfl (fun K hK => ?_) AllReadyH.nil
        go_simp
        go_at_call 22
        refine (HTE.out _).mono ?_
        rintro e q3 ⟨rfl, hq3⟩
        try go_wp2_with fail
        have hk3 := BoxL.below hk5 hq3
        have hE3 := hE5.below hq3
        have hv3 := (hq3.block _ (Array.getElem?_eq_some_iff.1 hv5).1).trans hv5
        refine hK.out _ _ hk3 (fun _ => ?_)
        clear hK K
        try simp only [Act.put, List.setIfInBounds_toArray, List.set_cons_zero, List.set_cons_succ]
        refine wpAnyH_ready (rs := [4]) (by kernel_rfl) (by simp) ?_
        refine AllReadyH.cons (o := { dst := some 27, op := Op.call { callee := Callee.value (Operand.func 11), args := #[Operand.tmp 24, Operand.tmp 26], argTypes := #[23, 25] }, type := 29, pos := "exact.go:2487", after := #[{ on := 1, ground := Ground.data }, { on := 3, ground := Ground.data }, { on := 3, ground := Ground.chain }], guard := none }) rfl (fun K hK => ?_) AllReadyH.nil
        go_simp
        go_at_call 11
        refine (HS.out _ _ hE3).mono ?_
        rintro e q4 ⟨ao, cp, rfl, hM4, hq4⟩
        try go_wp2_with fail
        have hk4 := BoxL.below hk3 hq4
        have hap := fun g (hg : q3.heap.size ≤ g) => Nat.ne_of_gt (Nat.lt_of_lt_of_le (Array.getElem?_eq_some_iff.1 hv3).1 hg)
        have hv4 := (hq4.block _ (Array.getElem?_eq_some_iff.1 hv3).1).trans hv3
        refine hK.out _ _ hk4 (fun _ => ?_)
        clear hK K
        try simp only [Act.put, List.setIfInBounds_toArray, List.set_cons_zero, List.set_cons_succ]
        have y0 : q4.cell? ⟨WB, 0, none⟩ = some (.slice none 0 0) := by simp [World.cell?, hv4]
        have y1 : q4.cell? ⟨WB, 1, none⟩ = some (.int .i64 0) := by simp [World.cell?, hv4]
        have f0 : q4.frozen? ⟨WB, 0, none⟩ = false := by simp [World.frozen?, hv4]
        have f1 : q4.frozen? ⟨WB, 1, none⟩ = false := by simp [World.frozen?, hv4]
        have hwl := (Array.getElem?_eq_some_iff.1 hv4).1
        refine wpAnyH_ready (rs := [6]) (by kernel_rfl) (by simp) ?_
        refine AllReadyH.cons (o := { dst := none, op := Op.store 29 (Operand.tmp 6) (Operand.tmp 27), type := 0, pos := "exact.go:2487", after := #[{ on := 5, ground := Ground.data }, { on := 4, ground := Ground.data }, { on := 4, ground := Ground.chain }, { on := 0, ground := Ground.phase }, { on := 1, ground := Ground.phase }, { on := 2, ground := Ground.phase }, { on := 3, ground := Ground.phase }, { on := 4, ground := Ground.phase }, { on := 5, ground := Ground.phase }], guard := none }) rfl (fun K hK => ?_) AllReadyH.nil
        go_simp
        try go_wp2_with fail
        have hk6 := BoxL.put (BoxL.put hk4 WB 0 (.slice ao D.length cp) hBw hwb) WB 1 (.int .i64 c) hBw hwb
        have hM6 := made_set (made_set hM4 WB 0 (.slice ao D.length cp) (hM4.own.imp id (fun ⟨g, e1, e2, e3⟩ g' e => by rw [e1] at e; simp only [Option.some.injEq, Addr.mk.injEq, and_true] at e; subst e; exact hap _ e2))) WB 1 (.int .i64 c) (hM4.own.imp id (fun ⟨g, e1, e2, e3⟩ g' e => by rw [e1] at e; simp only [Option.some.injEq, Addr.mk.injEq, and_true] at e; subst e; exact hap _ e2))
        have hX6 := blk_put2 q4 WB (.slice ao D.length cp) (.int .i64 c) hwl (by rw [y0]; rfl) (by rw [y1]; rfl)
        refine hK.out _ _ hk6 (fun _ => ?_)
        clear hK K
        try simp only [Act.put, List.setIfInBounds_toArray, List.set_cons_zero, List.set_cons_succ]
        refine wpAnyH_done (by kernel_rfl) ?_ _
        have HB6 := hid_intro hk6.1
        have HW6 := hid_intro hM6.rws
        have HX6 := hid_intro hX6
        clear hk6 hM6 hX6 y0 y1 f0 f1
        go_wp2_with fail
        go_meet
        case rel => exact ⟨WB, ao, cp, rfl, HB6, HX6, HW6, hwb⟩
    · go_simp
      try go_wp2_with fail
      have hk5 := BoxL.below HS0.out (Blk.al W0 (.cells #[.slice none 0 0, .int .i64 0] 29))
      have hv5 : (W0.alloc (.cells #[.slice none 0 0, .int .i64 0] 29)).heap[W0.heap.size]? = some (Obj.cells #[.slice none 0 0, .int .i64 0] 29 (0, 0)) := heap_alloc_new _ _
      refine hK.out _ _ hk5 (fun _ => ?_)
      clear hK K
      try simp only [Act.put, List.setIfInBounds_toArray, List.set_cons_zero, List.set_cons_succ]
      obtain ⟨WB, hWB⟩ : ∃ WB, WB = W0.heap.size := ⟨_, rfl⟩
      obtain ⟨Wa, hWa⟩ : ∃ Wa, Wa = W0.alloc (.cells #[.slice none 0 0, .int .i64 0] 29) := ⟨_, rfl⟩
      have hwb : w2.heap.size ≤ WB := by rw [hWB]; exact HS0.out.1.size
      rw [← hWa] at hk5 hv5 ⊢
      rw [← hWB] at hv5 ⊢
      clear hWa hWB
      refine wpAnyH_ready (rs := [1]) (by kernel_rfl) (by simp) ?_
      refine AllReadyH.cons (o := { dst := some 24, op := Op.call { callee := Callee.value (Operand.func 19), args := #[Operand.tmp 23], argTypes := #[42] }, type := 23, pos := "exact.go:2487", after := #[{ on := 0, ground := Ground.data }], guard := none }) rfl (fun K hK => ?_) AllReadyH.nil
      go_simp
      go_at_call 19
      refine (HT.out _ _ _ (HIW.out _ hk5.1)).mono ?_
      rintro e q1 ⟨rfl, hE1, _, hq1⟩
      try go_wp2_with fail
      have hk1 := BoxL.below hk5 hq1
      have hv1 := (hq1.block _ (Array.getElem?_eq_some_iff.1 hv5).1).trans hv5
      refine hK.out _ _ hk1 (fun _ => ?_)
      clear hK K
      try simp only [Act.put, List.setIfInBounds_toArray, List.set_cons_zero, List.set_cons_succ]
      refine wpAnyH_ready (rs := [3]) (by kernel_rfl) (by simp) ?_
      refine AllReadyH.cons (o := { dst := some 26, op := Op.call { callee := Callee.value (Operand.func 22), args := #[Operand.tmp 25], argTypes := #[46] }, type := 25, pos := "exact.go:2487", after := #[{ on := 2, ground := Ground.data }, { on := 1, ground := Ground.chain }], guard := none }) rfl (fun K hK => ?_) AllReadyH.nil
      go_simp
      go_at_call 22
      refine (HTE.out _).mono ?_
      rintro e q3 ⟨rfl, hq3⟩
      try go_wp2_with fail
      have hk3 := BoxL.below hk1 hq3
      have hE3 := hE1.below hq3
      have hv3 := (hq3.block _ (Array.getElem?_eq_some_iff.1 hv1).1).trans hv1
      refine hK.out _ _ hk3 (fun _ => ?_)
      clear hK K
      try simp only [Act.put, List.setIfInBounds_toArray, List.set_cons_zero, List.set_cons_succ]
      refine wpAnyH_ready (rs := [4]) (by kernel_rfl) (by simp) ?_
      refine AllReadyH.cons (o := { dst := some 27, op := Op.call { callee := Callee.value (Operand.func 11), args := #[Operand.tmp 24, Operand.tmp 26], argTypes := #[23, 25] }, type := 29, pos := "exact.go:2487", after := #[{ on := 1, ground := Ground.data }, { on := 3, ground := Ground.data }, { on := 3, ground := Ground.chain }], guard := none }) rfl (fun K hK => ?_) AllReadyH.nil
      go_simp
      go_at_call 11
      refine (HS.out _ _ hE3).mono ?_
      rintro e q4 ⟨ao, cp, rfl, hM4, hq4⟩
      try go_wp2_with fail
      have hk4 := BoxL.below hk3 hq4
      have hap := fun g (hg : q3.heap.size ≤ g) => Nat.ne_of_gt (Nat.lt_of_lt_of_le (Array.getElem?_eq_some_iff.1 hv3).1 hg)
      have hv4 := (hq4.block _ (Array.getElem?_eq_some_iff.1 hv3).1).trans hv3
      refine hK.out _ _ hk4 (fun _ => ?_)
      clear hK K
      try simp only [Act.put, List.setIfInBounds_toArray, List.set_cons_zero, List.set_cons_succ]
      have y0 : q4.cell? ⟨WB, 0, none⟩ = some (.slice none 0 0) := by simp [World.cell?, hv4]
      have y1 : q4.cell? ⟨WB, 1, none⟩ = some (.int .i64 0) := by simp [World.cell?, hv4]
      have f0 : q4.frozen? ⟨WB, 0, none⟩ = false := by simp [World.frozen?, hv4]
      have f1 : q4.frozen? ⟨WB, 1, none⟩ = false := by simp [World.frozen?, hv4]
      have hwl := (Array.getElem?_eq_some_iff.1 hv4).1
      refine wpAnyH_ready (rs := [6]) (by kernel_rfl) (by simp) ?_
      refine AllReadyH.cons (o := { dst := none, op := Op.store 29 (Operand.tmp 6) (Operand.tmp 27), type := 0, pos := "exact.go:2487", after := #[{ on := 5, ground := Ground.data }, { on := 4, ground := Ground.data }, { on := 4, ground := Ground.chain }, { on := 0, ground := Ground.phase }, { on := 1, ground := Ground.phase }, { on := 2, ground := Ground.phase }, { on := 3, ground := Ground.phase }, { on := 4, ground := Ground.phase }, { on := 5, ground := Ground.phase }], guard := none }) rfl (fun K hK => ?_) AllReadyH.nil
      go_simp
      try go_wp2_with fail
      have hk6 := BoxL.put (BoxL.put hk4 WB 0 (.slice ao D.length cp) hBw hwb) WB 1 (.int .i64 c) hBw hwb
      have hM6 := made_set (made_set hM4 WB 0 (.slice ao D.length cp) (hM4.own.imp id (fun ⟨g, e1, e2, e3⟩ g' e => by rw [e1] at e; simp only [Option.some.injEq, Addr.mk.injEq, and_true] at e; subst e; exact hap _ e2))) WB 1 (.int .i64 c) (hM4.own.imp id (fun ⟨g, e1, e2, e3⟩ g' e => by rw [e1] at e; simp only [Option.some.injEq, Addr.mk.injEq, and_true] at e; subst e; exact hap _ e2))
      have hX6 := blk_put2 q4 WB (.slice ao D.length cp) (.int .i64 c) hwl (by rw [y0]; rfl) (by rw [y1]; rfl)
      refine hK.out _ _ hk6 (fun _ => ?_)
      clear hK K
      try simp only [Act.put, List.setIfInBounds_toArray, List.set_cons_zero, List.set_cons_succ]
      refine wpAnyH_done (by kernel_rfl) ?_ _
      have HB6 := hid_intro hk6.1
      have HW6 := hid_intro hM6.rws
      have HX6 := hid_intro hX6
      clear hk6 hM6 hX6 y0 y1 f0 f1
      go_wp2_with fail
      go_meet
      case rel => exact ⟨WB, ao, cp, rfl, HB6, HX6, HW6, hwb⟩
  case rest =>
    obtain ⟨WB, ao, cp, rfl, HBc0, HXc, HWc, hwb⟩ := hcut
    have HBc := hid_intro (HB2.out.trans (HBc0.out.mono HB2.out.size))
    have HAc := hid_intro (HA2.out.below HBc0.out)
    clear HS0 HIW HBc0
    go_wp2_with fail
    refine (HT.out _ _ _ (HI.out.below HBc.out)).mono ?_
    rintro e w4 ⟨rfl, hE4, hp4, hb4⟩
    have HE4 := hid_intro hE4
    have HP4 := hid_intro hp4
    have HA4 := hid_intro (HAc.out.below hb4)
    have HX4 := hid_intro (HXc.out.below hb4)
    have HW4 := hid_intro (HWc.out.below hb4)
    have HB4 := hid_intro (HBc.out.trans (hb4.mono HBc.out.size))
    clear hE4 hp4 hb4
    obtain ⟨cl, cc⟩ := HA4.out
    have c0 : w4.cell? ⟨w.heap.size, 0, none⟩ = some (.string i) := cc 0 (by simp)
    have c1 : w4.cell? ⟨w.heap.size, 1, none⟩ = some (.string a) := cc 1 (by simp)
    have c2 : w4.cell? ⟨w.heap.size, 2, none⟩ = some (.string m) := cc 2 (by simp)
    have c3 : w4.cell? ⟨w.heap.size, 3, none⟩ = some (.int .i64 n) := cc 3 (by simp)
    have c4 : w4.cell? ⟨w.heap.size, 4, none⟩ = some (.int .i64 k) := cc 4 (by simp)
    have c5 : w4.cell? ⟨w.heap.size, 5, none⟩ = some (.string t) := cc 5 (by simp)
    clear cc
    go_wp2_with fail
    refine (HTE.out _).mono ?_
    rintro e w5 ⟨rfl, hb5⟩
    have HE5 := hid_intro (HE4.out.below hb5)
    have HP5 := hid_intro (HP4.out.below hb5)
    have HA5 := hid_intro (HA4.out.below hb5)
    have HX5 := hid_intro (HX4.out.below hb5)
    have HW5 := hid_intro (HW4.out.below hb5)
    have HB5 := hid_intro (HB4.out.trans (hb5.mono HB4.out.size))
    clear hb5 c0 c1 c2 c3 c4 c5 cl
    go_wp2_with fail
    refine (HM.out _ _ _ HE5.out).mono ?_
    rintro e w6 ⟨bo, cap6, rfl, hm6, hb6⟩
    have hal : Below w6.heap.size w6 (w6.alloc (.cells #[.slice bo D.length cap6, .int .i64 c] 29)) := Blk.al _ _
    have HM6 := hid_intro hm6
    have HE6 := hid_intro (HE5.out.below hb6)
    have HP6 := hid_intro (HP5.out.below hb6)
    have HA6 := hid_intro (HA5.out.below hb6)
    have HX6 := hid_intro (HX5.out.below hb6)
    have HW6 := hid_intro (HW5.out.below hb6)
    have HB6 := hid_intro (HB5.out.trans (hb6.mono HB5.out.size))
    have HTP := hid_intro (made_top hm6)
    have HG7 := hid_intro (Blk.new w6 [.slice bo D.length cap6, .int .i64 c] 29)
    have HM7 := hid_intro (HM6.out.below hal)
    have HE7 := hid_intro (HE6.out.below hal)
    have HP7 := hid_intro (HP6.out.below hal)
    have HA7 := hid_intro (HA6.out.below hal)
    have HX7 := hid_intro (HX6.out.below hal)
    have HW7 := hid_intro (HW6.out.below hal)
    have HB7 := hid_intro (HB6.out.trans (hal.mono HB6.out.size))
    have hz5 : Hid (wc.heap.size < w5.heap.size) := hid_intro (HP5.out.lt)
    have hz6 : Hid (w5.heap.size ≤ w6.heap.size) := hid_intro hb6.size
    clear hm6 hb6 hal HE6 HP6 HA6 HX6 HW6 HB6 HM6
    obtain ⟨xl, xc⟩ := HX5.out
    clear xl xc
    obtain ⟨xl, xc⟩ := HX7.out
    have x0 := xc 0 (by simp)
    have x1 := xc 1 (by simp)
    clear xc
    go_wp2_with fail
    refine (HQ.out _ _ _ _ _ HM7.out.rws HW7.out).mono ?_
    rintro e w8 ⟨rfl, hb8⟩
    have HE8 := hid_intro (HE7.out.below hb8)
    have HP8 := hid_intro (HP7.out.below hb8)
    have HA8 := hid_intro (HA7.out.below hb8)
    have HX8 := hid_intro (HX7.out.below hb8)
    have HW8 := hid_intro (HW7.out.below hb8)
    have HG8 := hid_intro (HG7.out.below hb8)
    have HM8 := hid_intro (HM7.out.below hb8)
    have HB8 := hid_intro (HB7.out.trans (hb8.mono HB7.out.size))
    clear hb8 x0 x1 xl HE7 HP7 HA7 HX7 HW7 HG7 HM7
    go_wp2_with fail
    refine (HT.out _ _ _ (HI.out.below HB8.out)).mono ?_
    rintro e w9 ⟨rfl, hE9, _, hb9⟩
    have HY9 := hid_intro hE9
    have HE9 := hid_intro (HE8.out.below hb9)
    have HP9 := hid_intro (HP8.out.below hb9)
    have HA9 := hid_intro (HA8.out.below hb9)
    have HX9 := hid_intro (HX8.out.below hb9)
    have HW9 := hid_intro (HW8.out.below hb9)
    have HG9 := hid_intro (HG8.out.below hb9)
    have HM9 := hid_intro (HM8.out.below hb9)
    have HB9 := hid_intro (HB8.out.trans (hb9.mono HB8.out.size))
    clear hE9 hb9
    go_wp2_with fail
    refine (HE.out _ _ _ _ _ HE9.out HY9.out).mono ?_
    rintro e w10 ⟨rfl, hb10⟩
    have HP10 := hid_intro (HP9.out.below hb10)
    have HA10 := hid_intro (HA9.out.below hb10)
    have HX10 := hid_intro (HX9.out.below hb10)
    have HW10 := hid_intro (HW9.out.below hb10)
    have HG10 := hid_intro (HG9.out.below hb10)
    have HM10 := hid_intro (HM9.out.below hb10)
    have HB10 := hid_intro (HB9.out.trans (hb10.mono HB9.out.size))
    clear hb10
    go_wp2_with fail
    refine (HMX.out _ _ _ HP10.out).mono ?_
    rintro e w11 ⟨rfl, _, _, hg11⟩
    have hcw : w.heap.size < wc.heap.size := HAc.out.1
    have hcx : WB < wc.heap.size := HXc.out.1
    have h56 := hz6.out
    have hc5 := hz5.out
    have HA11 := hid_intro (blk_grown HA10.out hg11 (fun e => by simp at e; omega))
    have HX11 := hid_intro (blk_grown HX10.out hg11 (fun e => by simp at e; omega))
    have HG11 := hid_intro (blk_grown HG10.out hg11 (fun e => by simp at e; omega))
    have HW11 := hid_intro (ens_grown HWc.out HW10.out hg11 (fun x hx => by cases hx; exact Nat.le_refl _))
    have HM11 := hid_intro (made_grown HM10.out hg11 (fun x hx => by cases hx; omega))
    have HB11 := hid_intro (HB10.out.grown hg11 HB10.out.size (fun k e => by cases e; exact HBc.out.size))
    clear hg11
    obtain ⟨xl, xc⟩ := HX11.out
    have x0 : w11.cell? ⟨WB, 0, none⟩ = some (.slice ao D.length cp) := xc 0 (by simp)
    have x1 : w11.cell? ⟨WB, 1, none⟩ = some (.int .i64 c) := xc 1 (by simp)
    clear xc
    obtain ⟨gl, gc⟩ := HG11.out
    have g0 : w11.cell? ⟨w6.heap.size, 0, none⟩ = some (.slice bo D.length cap6) := gc 0 (by simp)
    have g1 : w11.cell? ⟨w6.heap.size, 1, none⟩ = some (.int .i64 c) := gc 1 (by simp)
    clear gc
    go_wp2_with fail
    refine (HQ.out _ _ _ _ _ HM11.out.rws HW11.out).mono ?_
    rintro e w12 ⟨rfl, hb12⟩
    have HA12 := hid_intro (HA11.out.below hb12)
    have HX12 := hid_intro (HX11.out.below hb12)
    have HW12 := hid_intro (HW11.out.below hb12)
    have HG12 := hid_intro (HG11.out.below hb12)
    have HM12 := hid_intro (HM11.out.below hb12)
    have HB12 := hid_intro (HB11.out.trans (hb12.mono HB11.out.size))
    clear hb12 x0 x1 xl g0 g1 gl
    obtain ⟨gl, gc⟩ := HG12.out
    have g0 : w12.cell? ⟨w6.heap.size, 0, none⟩ = some (.slice bo D.length cap6) := gc 0 (by simp)
    have g1 : w12.cell? ⟨w6.heap.size, 1, none⟩ = some (.int .i64 c) := gc 1 (by simp)
    clear gc
    go_wp2_with fail
    refine (markOut _ _ D _ c _ _ hD HM12.out HTP.out).mono ?_
    rintro e w13' ⟨rfl, hk, g, hg, hgt⟩
    have HKm := hid_intro hk
    have HAm := hid_intro (blk_grown HA12.out hg (fun e => by have := (hgt _ e.symm).1; omega))
    have HXm := hid_intro (blk_grown HX12.out hg (fun e => by have := (hgt _ e.symm).1; omega))
    have HGm := hid_intro (blk_grown HG12.out hg (fun e => by have := (hgt _ e.symm).2; omega))
    have HWm := hid_intro (ens_grown HWc.out HW12.out hg (fun x hx => by have := (hgt x hx).1; omega))
    have HBm := hid_intro (HB12.out.grown hg HB12.out.size (fun k e => by have := (hgt k e).1; have := HBc.out.size; omega))
    clear hk hg hgt g0 g1 gl
    have HHL := hid_intro (fun w (h : Mkd bo D.length w) => heldOut bo D.length cap6 c w hD h)
    generalize hK : 1 + 3 * D.length = K at *
    have hK0 : ¬ (K : Int) < 0 := by omega
    obtain ⟨gl, gc⟩ := HGm.out
    have g0 : w13'.cell? ⟨w6.heap.size, 0, none⟩ = some (.slice bo D.length cap6) := gc 0 (by simp)
    have g1 : w13'.cell? ⟨w6.heap.size, 1, none⟩ = some (.int .i64 c) := gc 1 (by simp)
    clear gc
    go_wp2_with fail
    refine (HHL.out _ HKm.out).mono ?_
    rintro e w13 ⟨rfl, hb13⟩
    have HA13 := hid_intro (HAm.out.below hb13)
    have HX13 := hid_intro (HXm.out.below hb13)
    have HW13 := hid_intro (HWm.out.below hb13)
    have HG13 := hid_intro (HGm.out.below hb13)
    have HK13 := hid_intro (HKm.out.below hb13)
    have HB13 := hid_intro (HBm.out.trans (hb13.mono HBm.out.size))
    clear hb13 g0 g1 gl
    have hBw13 : w.heap.size < w13.heap.size := HA13.out.1
    have HS0 : Hid (BoxL w13 w.heap.size i a m n k t w13.drew) := hid_intro (BoxL.start HA13.out)
    have HIW : Hid (∀ W, Below w13.heap.size w13 W → Ens al es W) := hid_intro (fun W hW => HI.out.below (HB13.out.trans (hW.mono HB13.out.size)))
    clear hBw
    have hBw := hBw13
    go_wp2_with fail
    go_cut [12] from 65 to 69 (fun v wx => ∃ WH ao cp, v = .pointer (some ⟨WH, 0, none⟩) ∧ Hid (Below w13.heap.size w13 wx) ∧ Hid (Blk WH [.slice ao D.length cp, .int .i64 c] wx) ∧ Hid (Ens ao D wx) ∧ w13.heap.size ≤ WH)
    case first =>
      refine wp_region_held_drew (S := fun W => Below w13.heap.size w13 W ∧ w.heap.size < W.heap.size ∧ W.cell? ⟨w.heap.size, 0, none⟩ = some (.string i) ∧ W.cell? ⟨w.heap.size, 1, none⟩ = some (.string a) ∧ W.cell? ⟨w.heap.size, 2, none⟩ = some (.string m) ∧ W.cell? ⟨w.heap.size, 3, none⟩ = some (.int .i64 n) ∧ W.cell? ⟨w.heap.size, 4, none⟩ = some (.int .i64 k) ∧ W.cell? ⟨w.heap.size, 5, none⟩ = some (.string t)) (by kernel_rfl) HS0.out (fun hHeld => ?_)
      obtain ⟨W0, hW0⟩ : ∃ W0, W0 = w13.drew := ⟨_, rfl⟩
      rw [← hW0] at hHeld HS0 ⊢
      clear hW0
      refine wpAnyH_take (i := 0) (oi := { dst := some 65, op := Op.move (Operand.tmp 0), type := 42, pos := "exact.go:2511", after := #[], guard := none }) (v := ?_) rfl (by kernel_rfl) (by kernel_rfl) (by kernel_rfl) (fun _ _ _ h => h) (Or.inl ⟨by rfl, ?_⟩) (by assumption) ?_
      rotate_left
      · (intro w hSw; (try dsimp only at hSw); go_simp) <;> with_reducible rfl
      try simp only [Act.put, List.setIfInBounds_toArray, List.set_cons_zero, List.set_cons_succ]
      refine wpAnyH_take (i := 2) (oi := { dst := some 67, op := Op.load 46 (Operand.tmp 3), type := 46, pos := "exact.go:2511", after := #[], guard := none }) (v := ?_) rfl (by kernel_rfl) (by kernel_rfl) (by kernel_rfl) (fun _ _ _ h => h) (Or.inl ⟨by rfl, ?_⟩) (by assumption) ?_
      rotate_left
      · (intro w hSw; (try dsimp only at hSw); go_simp) <;> with_reducible rfl
      try simp only [Act.put, List.setIfInBounds_toArray, List.set_cons_zero, List.set_cons_succ]
      refine wpAnyH_ready (rs := [1, 5]) (by kernel_rfl) (by simp) ?_
      refine AllReadyH.cons (o := { dst := some 66, op := Op.call { callee := Callee.value (Operand.func 19), args := #[Operand.tmp 65], argTypes := #[42] }, type := 23, pos := "exact.go:2511", after := #[{ on := 0, ground := Ground.data }], guard := none }) rfl (fun K hK => ?_) (AllReadyH.cons (o := { dst := some 12, op := Op.alloc 29, type := 0, pos := "exact.go:2511", after := #[], guard := none }) rfl (fun K hK => ?_) AllReadyH.nil)
      · go_simp
        go_at_call 19
        refine (HT.out _ _ _ (HIW.out _ HS0.out.1)).mono ?_
        rintro e q1 ⟨rfl, hE1, _, hq1⟩
        try go_wp2_with fail
        have hk1 := BoxL.below HS0.out hq1
        refine hK.out _ _ hk1 (fun _ => ?_)
        clear hK K
        try simp only [Act.put, List.setIfInBounds_toArray, List.set_cons_zero, List.set_cons_succ]
        refine wpAnyH_ready (rs := [3, 5]) (by kernel_rfl) (by simp) ?_
        refine AllReadyH.cons (o := { dst := some 68, op := Op.call { callee := Callee.value (Operand.func 22), args := #[Operand.tmp 67], argTypes := #[46] }, type := 25, pos := "exact.go:2511", after := #[{ on := 2, ground := Ground.data }, { on := 1, ground := Ground.chain }], guard := none }) rfl (fun K hK => ?_) (AllReadyH.cons (o := { dst := some 12, op := Op.alloc 29, type := 0, pos := "exact.go:2511", after := #[], guard := none }) rfl (fun K hK => ?_) AllReadyH.nil)
        · go_simp
          go_at_call 22
          refine (HTE.out _).mono ?_
          rintro e q3 ⟨rfl, hq3⟩
          try go_wp2_with fail
          have hk3 := BoxL.below hk1 hq3
          have hE3 := hE1.below hq3
          refine hK.out _ _ hk3 (fun _ => ?_)
          clear hK K
          try simp only [Act.put, List.setIfInBounds_toArray, List.set_cons_zero, List.set_cons_succ]
          refine wpAnyH_ready (rs := [4, 5]) (by kernel_rfl) (by simp) ?_
          refine AllReadyH.cons (o := { dst := some 69, op := Op.call { callee := Callee.value (Operand.func 7), args := #[Operand.tmp 66, Operand.tmp 68], argTypes := #[23, 25] }, type := 29, pos := "exact.go:2511", after := #[{ on := 1, ground := Ground.data }, { on := 3, ground := Ground.data }, { on := 3, ground := Ground.chain }], guard := none }) rfl (fun K hK => ?_) (AllReadyH.cons (o := { dst := some 12, op := Op.alloc 29, type := 0, pos := "exact.go:2511", after := #[], guard := none }) rfl (fun K hK => ?_) AllReadyH.nil)
          · go_simp
            go_at_call 7
            refine (HM.out _ _ _ hE3).mono ?_
            rintro e q4 ⟨ao, cp, rfl, hM4, hq4⟩
            try go_wp2_with fail
            have hk4 := BoxL.below hk3 hq4
            refine hK.out _ _ hk4 (fun _ => ?_)
            clear hK K
            try simp only [Act.put, List.setIfInBounds_toArray, List.set_cons_zero, List.set_cons_succ]
            refine wpAnyH_ready (rs := [5]) (by kernel_rfl) (by simp) ?_
            refine AllReadyH.cons (o := { dst := some 12, op := Op.alloc 29, type := 0, pos := "exact.go:2511", after := #[], guard := none }) rfl (fun K hK => ?_) AllReadyH.nil
            go_simp
            try go_wp2_with fail
            have hk5 := BoxL.below hk4 (Blk.al q4 (.cells #[.slice none 0 0, .int .i64 0] 29))
            have hv5 : (q4.alloc (.cells #[.slice none 0 0, .int .i64 0] 29)).heap[q4.heap.size]? = some (Obj.cells #[.slice none 0 0, .int .i64 0] 29 (0, 0)) := heap_alloc_new _ _
            have hap := fun g (hg : g < q4.heap.size) => Nat.ne_of_lt hg
            have htp := made_top hM4
            have hM5 := hM4.below (Blk.al q4 (.cells #[.slice none 0 0, .int .i64 0] 29))
            refine hK.out _ _ hk5 (fun _ => ?_)
            clear hK K
            try simp only [Act.put, List.setIfInBounds_toArray, List.set_cons_zero, List.set_cons_succ]
            obtain ⟨WB, hWB⟩ : ∃ WB, WB = q4.heap.size := ⟨_, rfl⟩
            obtain ⟨Wa, hWa⟩ : ∃ Wa, Wa = q4.alloc (.cells #[.slice none 0 0, .int .i64 0] 29) := ⟨_, rfl⟩
            have hwb : w13.heap.size ≤ WB := by rw [hWB]; exact hk4.1.size
            rw [← hWa] at hk5 hv5 hM5 ⊢
            rw [← hWB] at hv5 hap htp ⊢
            clear hWa hWB
            have y0 : Wa.cell? ⟨WB, 0, none⟩ = some (.slice none 0 0) := by simp [World.cell?, hv5]
            have y1 : Wa.cell? ⟨WB, 1, none⟩ = some (.int .i64 0) := by simp [World.cell?, hv5]
            have f0 : Wa.frozen? ⟨WB, 0, none⟩ = false := by simp [World.frozen?, hv5]
            have f1 : Wa.frozen? ⟨WB, 1, none⟩ = false := by simp [World.frozen?, hv5]
            have hwl := (Array.getElem?_eq_some_iff.1 hv5).1
            refine wpAnyH_ready (rs := [6]) (by kernel_rfl) (by simp) ?_
            refine AllReadyH.cons (o := { dst := none, op := Op.store 29 (Operand.tmp 12) (Operand.tmp 69), type := 0, pos := "exact.go:2511", after := #[{ on := 5, ground := Ground.data }, { on := 4, ground := Ground.data }, { on := 4, ground := Ground.chain }, { on := 0, ground := Ground.phase }, { on := 1, ground := Ground.phase }, { on := 2, ground := Ground.phase }, { on := 3, ground := Ground.phase }, { on := 4, ground := Ground.phase }, { on := 5, ground := Ground.phase }], guard := none }) rfl (fun K hK => ?_) AllReadyH.nil
            go_simp
            try go_wp2_with fail
            have hk6 := BoxL.put (BoxL.put hk5 WB 0 (.slice ao D.length cp) hBw hwb) WB 1 (.int .i64 c) hBw hwb
            have hM6 := made_set (made_set hM5 WB 0 (.slice ao D.length cp) (htp.imp id (fun h g hg => hap g (h g hg)))) WB 1 (.int .i64 c) (htp.imp id (fun h g hg => hap g (h g hg)))
            have hX6 := blk_put2 Wa WB (.slice ao D.length cp) (.int .i64 c) hwl (by rw [y0]; rfl) (by rw [y1]; rfl)
            refine hK.out _ _ hk6 (fun _ => ?_)
            clear hK K
            try simp only [Act.put, List.setIfInBounds_toArray, List.set_cons_zero, List.set_cons_succ]
            refine wpAnyH_done (by kernel_rfl) ?_ _
            have HB6 := hid_intro hk6.1
            have HW6 := hid_intro hM6.rws
            have HX6 := hid_intro hX6
            clear hk6 hM6 hX6 y0 y1 f0 f1
            go_wp2_with fail
            go_meet
            case rel => exact ⟨WB, ao, cp, rfl, HB6, HX6, HW6, hwb⟩
          · go_simp
            try go_wp2_with fail
            have hk5 := BoxL.below hk3 (Blk.al q3 (.cells #[.slice none 0 0, .int .i64 0] 29))
            have hv5 : (q3.alloc (.cells #[.slice none 0 0, .int .i64 0] 29)).heap[q3.heap.size]? = some (Obj.cells #[.slice none 0 0, .int .i64 0] 29 (0, 0)) := heap_alloc_new _ _
            have hE5 := hE3.below (Blk.al q3 (.cells #[.slice none 0 0, .int .i64 0] 29))
            refine hK.out _ _ hk5 (fun _ => ?_)
            clear hK K
            try simp only [Act.put, List.setIfInBounds_toArray, List.set_cons_zero, List.set_cons_succ]
            obtain ⟨WB, hWB⟩ : ∃ WB, WB = q3.heap.size := ⟨_, rfl⟩
            obtain ⟨Wa, hWa⟩ : ∃ Wa, Wa = q3.alloc (.cells #[.slice none 0 0, .int .i64 0] 29) := ⟨_, rfl⟩
            have hwb : w13.heap.size ≤ WB := by rw [hWB]; exact hk3.1.size
            rw [← hWa] at hk5 hv5 hE5 ⊢
            rw [← hWB] at hv5 ⊢
            clear hWa hWB
            refine wpAnyH_ready (rs := [4]) (by kernel_rfl) (by simp) ?_
            refine AllReadyH.cons (o := { dst := some 69, op := Op.call { callee := Callee.value (Operand.func 7), args := #[Operand.tmp 66, Operand.tmp 68], argTypes := #[23, 25] }, type := 29, pos := "exact.go:2511", after := #[{ on := 1, ground := Ground.data }, { on := 3, ground := Ground.data }, { on := 3, ground := Ground.chain }], guard := none }) rfl (fun K hK => ?_) AllReadyH.nil
            go_simp
            go_at_call 7
            refine (HM.out _ _ _ hE5).mono ?_
            rintro e q4 ⟨ao, cp, rfl, hM4, hq4⟩
            try go_wp2_with fail
            have hk4 := BoxL.below hk5 hq4
            have hap := fun g (hg : Wa.heap.size ≤ g) => Nat.ne_of_gt (Nat.lt_of_lt_of_le (Array.getElem?_eq_some_iff.1 hv5).1 hg)
            have hv4 := (hq4.block _ (Array.getElem?_eq_some_iff.1 hv5).1).trans hv5
            refine hK.out _ _ hk4 (fun _ => ?_)
            clear hK K
            try simp only [Act.put, List.setIfInBounds_toArray, List.set_cons_zero, List.set_cons_succ]
            have y0 : q4.cell? ⟨WB, 0, none⟩ = some (.slice none 0 0) := by simp [World.cell?, hv4]
            have y1 : q4.cell? ⟨WB, 1, none⟩ = some (.int .i64 0) := by simp [World.cell?, hv4]
            have f0 : q4.frozen? ⟨WB, 0, none⟩ = false := by simp [World.frozen?, hv4]
            have f1 : q4.frozen? ⟨WB, 1, none⟩ = false := by simp [World.frozen?, hv4]
            have hwl := (Array.getElem?_eq_some_iff.1 hv4).1
            refine wpAnyH_ready (rs := [6]) (by kernel_rfl) (by simp) ?_
            refine AllReadyH.cons (o := { dst := none, op := Op.store 29 (Operand.tmp 12) (Operand.tmp 69), type := 0, pos := "exact.go:2511", after := #[{ on := 5, ground := Ground.data }, { on := 4, ground := Ground.data }, { on := 4, ground := Ground.chain }, { on := 0, ground := Ground.phase }, { on := 1, ground := Ground.phase }, { on := 2, ground := Ground.phase }, { on := 3, ground := Ground.phase }, { on := 4, ground := Ground.phase }, { on := 5, ground := Ground.phase }], guard := none }) rfl (fun K hK => ?_) AllReadyH.nil
            go_simp
            try go_wp2_with fail
            have hk6 := BoxL.put (BoxL.put hk4 WB 0 (.slice ao D.length cp) hBw hwb) WB 1 (.int .i64 c) hBw hwb
            have hM6 := made_set (made_set hM4 WB 0 (.slice ao D.length cp) (hM4.own.imp id (fun ⟨g, e1, e2, e3⟩ g' e => by rw [e1] at e; simp only [Option.some.injEq, Addr.mk.injEq, and_true] at e; subst e; exact hap _ e2))) WB 1 (.int .i64 c) (hM4.own.imp id (fun ⟨g, e1, e2, e3⟩ g' e => by rw [e1] at e; simp only [Option.some.injEq, Addr.mk.injEq, and_true] at e; subst e; exact hap _ e2))
            have hX6 := blk_put2 q4 WB (.slice ao D.length cp) (.int .i64 c) hwl (by rw [y0]; rfl) (by rw [y1]; rfl)
            refine hK.out _ _ hk6 (fun _ => ?_)
            clear hK K
            try simp only [Act.put, List.setIfInBounds_toArray, List.set_cons_zero, List.set_cons_succ]
            refine wpAnyH_done (by kernel_rfl) ?_ _
            have HB6 := hid_intro hk6.1
            have HW6 := hid_intro hM6.rws
            have HX6 := hid_intro hX6
            clear hk6 hM6 hX6 y0 y1 f0 f1
            go_wp2_with fail
            go_meet
            case rel => exact ⟨WB, ao, cp, rfl, HB6, HX6, HW6, hwb⟩
        · go_simp
          try go_wp2_with fail
          have hk5 := BoxL.below hk1 (Blk.al q1 (.cells #[.slice none 0 0, .int .i64 0] 29))
          have hv5 : (q1.alloc (.cells #[.slice none 0 0, .int .i64 0] 29)).heap[q1.heap.size]? = some (Obj.cells #[.slice none 0 0, .int .i64 0] 29 (0, 0)) := heap_alloc_new _ _
          have hE5 := hE1.below (Blk.al q1 (.cells #[.slice none 0 0, .int .i64 0] 29))
          refine hK.out _ _ hk5 (fun _ => ?_)
          clear hK K
          try simp only [Act.put, List.setIfInBounds_toArray, List.set_cons_zero, List.set_cons_succ]
          obtain ⟨WB, hWB⟩ : ∃ WB, WB = q1.heap.size := ⟨_, rfl⟩
          obtain ⟨Wa, hWa⟩ : ∃ Wa, Wa = q1.alloc (.cells #[.slice none 0 0, .int .i64 0] 29) := ⟨_, rfl⟩
          have hwb : w13.heap.size ≤ WB := by rw [hWB]; exact hk1.1.size
          rw [← hWa] at hk5 hv5 hE5 ⊢
          rw [← hWB] at hv5 ⊢
          clear hWa hWB
          refine wpAnyH_ready (rs := [3]) (by kernel_rfl) (by simp) ?_
          refine AllReadyH.cons (o := { dst := some 68, op := Op.call { callee := Callee.value (Operand.func 22), args := #[Operand.tmp 67], argTypes := #[46] }, type := 25, pos := "exact.go:2511", after := #[{ on := 2, ground := Ground.data }, { on := 1, ground := Ground.chain }], guard := none }) rfl (fun K hK => ?_) AllReadyH.nil
          go_simp
          go_at_call 22
          refine (HTE.out _).mono ?_
          rintro e q3 ⟨rfl, hq3⟩
          try go_wp2_with fail
          have hk3 := BoxL.below hk5 hq3
          have hE3 := hE5.below hq3
          have hv3 := (hq3.block _ (Array.getElem?_eq_some_iff.1 hv5).1).trans hv5
          refine hK.out _ _ hk3 (fun _ => ?_)
          clear hK K
          try simp only [Act.put, List.setIfInBounds_toArray, List.set_cons_zero, List.set_cons_succ]
          refine wpAnyH_ready (rs := [4]) (by kernel_rfl) (by simp) ?_
          refine AllReadyH.cons (o := { dst := some 69, op := Op.call { callee := Callee.value (Operand.func 7), args := #[Operand.tmp 66, Operand.tmp 68], argTypes := #[23, 25] }, type := 29, pos := "exact.go:2511", after := #[{ on := 1, ground := Ground.data }, { on := 3, ground := Ground.data }, { on := 3, ground := Ground.chain }], guard := none }) rfl (fun K hK => ?_) AllReadyH.nil
          go_simp
          go_at_call 7
          refine (HM.out _ _ _ hE3).mono ?_
          rintro e q4 ⟨ao, cp, rfl, hM4, hq4⟩
          try go_wp2_with fail
          have hk4 := BoxL.below hk3 hq4
          have hap := fun g (hg : q3.heap.size ≤ g) => Nat.ne_of_gt (Nat.lt_of_lt_of_le (Array.getElem?_eq_some_iff.1 hv3).1 hg)
          have hv4 := (hq4.block _ (Array.getElem?_eq_some_iff.1 hv3).1).trans hv3
          refine hK.out _ _ hk4 (fun _ => ?_)
          clear hK K
          try simp only [Act.put, List.setIfInBounds_toArray, List.set_cons_zero, List.set_cons_succ]
          have y0 : q4.cell? ⟨WB, 0, none⟩ = some (.slice none 0 0) := by simp [World.cell?, hv4]
          have y1 : q4.cell? ⟨WB, 1, none⟩ = some (.int .i64 0) := by simp [World.cell?, hv4]
          have f0 : q4.frozen? ⟨WB, 0, none⟩ = false := by simp [World.frozen?, hv4]
          have f1 : q4.frozen? ⟨WB, 1, none⟩ = false := by simp [World.frozen?, hv4]
          have hwl := (Array.getElem?_eq_some_iff.1 hv4).1
          refine wpAnyH_ready (rs := [6]) (by kernel_rfl) (by simp) ?_
          refine AllReadyH.cons (o := { dst := none, op := Op.store 29 (Operand.tmp 12) (Operand.tmp 69), type := 0, pos := "exact.go:2511", after := #[{ on := 5, ground := Ground.data }, { on := 4, ground := Ground.data }, { on := 4, ground := Ground.chain }, { on := 0, ground := Ground.phase }, { on := 1, ground := Ground.phase }, { on := 2, ground := Ground.phase }, { on := 3, ground := Ground.phase }, { on := 4, ground := Ground.phase }, { on := 5, ground := Ground.phase }], guard := none }) rfl (fun K hK => ?_) AllReadyH.nil
          go_simp
          try go_wp2_with fail
          have hk6 := BoxL.put (BoxL.put hk4 WB 0 (.slice ao D.length cp) hBw hwb) WB 1 (.int .i64 c) hBw hwb
          have hM6 := made_set (made_set hM4 WB 0 (.slice ao D.length cp) (hM4.own.imp id (fun ⟨g, e1, e2, e3⟩ g' e => by rw [e1] at e; simp only [Option.some.injEq, Addr.mk.injEq, and_true] at e; subst e; exact hap _ e2))) WB 1 (.int .i64 c) (hM4.own.imp id (fun ⟨g, e1, e2, e3⟩ g' e => by rw [e1] at e; simp only [Option.some.injEq, Addr.mk.injEq, and_true] at e; subst e; exact hap _ e2))
          have hX6 := blk_put2 q4 WB (.slice ao D.length cp) (.int .i64 c) hwl (by rw [y0]; rfl) (by rw [y1]; rfl)
          refine hK.out _ _ hk6 (fun _ => ?_)
          clear hK K
          try simp only [Act.put, List.setIfInBounds_toArray, List.set_cons_zero, List.set_cons_succ]
          refine wpAnyH_done (by kernel_rfl) ?_ _
          have HB6 := hid_intro hk6.1
          have HW6 := hid_intro hM6.rws
          have HX6 := hid_intro hX6
          clear hk6 hM6 hX6 y0 y1 f0 f1
          go_wp2_with fail
          go_meet
          case rel => exact ⟨WB, ao, cp, rfl, HB6, HX6, HW6, hwb⟩
      · go_simp
        try go_wp2_with fail
        have hk5 := BoxL.below HS0.out (Blk.al W0 (.cells #[.slice none 0 0, .int .i64 0] 29))
        have hv5 : (W0.alloc (.cells #[.slice none 0 0, .int .i64 0] 29)).heap[W0.heap.size]? = some (Obj.cells #[.slice none 0 0, .int .i64 0] 29 (0, 0)) := heap_alloc_new _ _
        refine hK.out _ _ hk5 (fun _ => ?_)
        clear hK K
        try simp only [Act.put, List.setIfInBounds_toArray, List.set_cons_zero, List.set_cons_succ]
        obtain ⟨WB, hWB⟩ : ∃ WB, WB = W0.heap.size := ⟨_, rfl⟩
        obtain ⟨Wa, hWa⟩ : ∃ Wa, Wa = W0.alloc (.cells #[.slice none 0 0, .int .i64 0] 29) := ⟨_, rfl⟩
        have hwb : w13.heap.size ≤ WB := by rw [hWB]; exact HS0.out.1.size
        rw [← hWa] at hk5 hv5 ⊢
        rw [← hWB] at hv5 ⊢
        clear hWa hWB
        refine wpAnyH_ready (rs := [1]) (by kernel_rfl) (by simp) ?_
        refine AllReadyH.cons (o := { dst := some 66, op := Op.call { callee := Callee.value (Operand.func 19), args := #[Operand.tmp 65], argTypes := #[42] }, type := 23, pos := "exact.go:2511", after := #[{ on := 0, ground := Ground.data }], guard := none }) rfl (fun K hK => ?_) AllReadyH.nil
        go_simp
        go_at_call 19
        refine (HT.out _ _ _ (HIW.out _ hk5.1)).mono ?_
        rintro e q1 ⟨rfl, hE1, _, hq1⟩
        try go_wp2_with fail
        have hk1 := BoxL.below hk5 hq1
        have hv1 := (hq1.block _ (Array.getElem?_eq_some_iff.1 hv5).1).trans hv5
        refine hK.out _ _ hk1 (fun _ => ?_)
        clear hK K
        try simp only [Act.put, List.setIfInBounds_toArray, List.set_cons_zero, List.set_cons_succ]
        refine wpAnyH_ready (rs := [3]) (by kernel_rfl) (by simp) ?_
        refine AllReadyH.cons (o := { dst := some 68, op := Op.call { callee := Callee.value (Operand.func 22), args := #[Operand.tmp 67], argTypes := #[46] }, type := 25, pos := "exact.go:2511", after := #[{ on := 2, ground := Ground.data }, { on := 1, ground := Ground.chain }], guard := none }) rfl (fun K hK => ?_) AllReadyH.nil
        go_simp
        go_at_call 22
        refine (HTE.out _).mono ?_
        rintro e q3 ⟨rfl, hq3⟩
        try go_wp2_with fail
        have hk3 := BoxL.below hk1 hq3
        have hE3 := hE1.below hq3
        have hv3 := (hq3.block _ (Array.getElem?_eq_some_iff.1 hv1).1).trans hv1
        refine hK.out _ _ hk3 (fun _ => ?_)
        clear hK K
        try simp only [Act.put, List.setIfInBounds_toArray, List.set_cons_zero, List.set_cons_succ]
        refine wpAnyH_ready (rs := [4]) (by kernel_rfl) (by simp) ?_
        refine AllReadyH.cons (o := { dst := some 69, op := Op.call { callee := Callee.value (Operand.func 7), args := #[Operand.tmp 66, Operand.tmp 68], argTypes := #[23, 25] }, type := 29, pos := "exact.go:2511", after := #[{ on := 1, ground := Ground.data }, { on := 3, ground := Ground.data }, { on := 3, ground := Ground.chain }], guard := none }) rfl (fun K hK => ?_) AllReadyH.nil
        go_simp
        go_at_call 7
        refine (HM.out _ _ _ hE3).mono ?_
        rintro e q4 ⟨ao, cp, rfl, hM4, hq4⟩
        try go_wp2_with fail
        have hk4 := BoxL.below hk3 hq4
        have hap := fun g (hg : q3.heap.size ≤ g) => Nat.ne_of_gt (Nat.lt_of_lt_of_le (Array.getElem?_eq_some_iff.1 hv3).1 hg)
        have hv4 := (hq4.block _ (Array.getElem?_eq_some_iff.1 hv3).1).trans hv3
        refine hK.out _ _ hk4 (fun _ => ?_)
        clear hK K
        try simp only [Act.put, List.setIfInBounds_toArray, List.set_cons_zero, List.set_cons_succ]
        have y0 : q4.cell? ⟨WB, 0, none⟩ = some (.slice none 0 0) := by simp [World.cell?, hv4]
        have y1 : q4.cell? ⟨WB, 1, none⟩ = some (.int .i64 0) := by simp [World.cell?, hv4]
        have f0 : q4.frozen? ⟨WB, 0, none⟩ = false := by simp [World.frozen?, hv4]
        have f1 : q4.frozen? ⟨WB, 1, none⟩ = false := by simp [World.frozen?, hv4]
        have hwl := (Array.getElem?_eq_some_iff.1 hv4).1
        refine wpAnyH_ready (rs := [6]) (by kernel_rfl) (by simp) ?_
        refine AllReadyH.cons (o := { dst := none, op := Op.store 29 (Operand.tmp 12) (Operand.tmp 69), type := 0, pos := "exact.go:2511", after := #[{ on := 5, ground := Ground.data }, { on := 4, ground := Ground.data }, { on := 4, ground := Ground.chain }, { on := 0, ground := Ground.phase }, { on := 1, ground := Ground.phase }, { on := 2, ground := Ground.phase }, { on := 3, ground := Ground.phase }, { on := 4, ground := Ground.phase }, { on := 5, ground := Ground.phase }], guard := none }) rfl (fun K hK => ?_) AllReadyH.nil
        go_simp
        try go_wp2_with fail
        have hk6 := BoxL.put (BoxL.put hk4 WB 0 (.slice ao D.length cp) hBw hwb) WB 1 (.int .i64 c) hBw hwb
        have hM6 := made_set (made_set hM4 WB 0 (.slice ao D.length cp) (hM4.own.imp id (fun ⟨g, e1, e2, e3⟩ g' e => by rw [e1] at e; simp only [Option.some.injEq, Addr.mk.injEq, and_true] at e; subst e; exact hap _ e2))) WB 1 (.int .i64 c) (hM4.own.imp id (fun ⟨g, e1, e2, e3⟩ g' e => by rw [e1] at e; simp only [Option.some.injEq, Addr.mk.injEq, and_true] at e; subst e; exact hap _ e2))
        have hX6 := blk_put2 q4 WB (.slice ao D.length cp) (.int .i64 c) hwl (by rw [y0]; rfl) (by rw [y1]; rfl)
        refine hK.out _ _ hk6 (fun _ => ?_)
        clear hK K
        try simp only [Act.put, List.setIfInBounds_toArray, List.set_cons_zero, List.set_cons_succ]
        refine wpAnyH_done (by kernel_rfl) ?_ _
        have HB6 := hid_intro hk6.1
        have HW6 := hid_intro hM6.rws
        have HX6 := hid_intro hX6
        clear hk6 hM6 hX6 y0 y1 f0 f1
        go_wp2_with fail
        go_meet
        case rel => exact ⟨WB, ao, cp, rfl, HB6, HX6, HW6, hwb⟩
    case rest =>
      obtain ⟨WH, co, cq, rfl, HBd, HHd, HZd, hwh⟩ := hcut
      have HXd0 := hid_intro (HX13.out.below HBd.out)
      have HWd0 := hid_intro (HW13.out.below HBd.out)
      have HGd0 := hid_intro (HG13.out.below HBd.out)
      have HKd0 := hid_intro (HK13.out.below HBd.out)
      have HBd0 := hid_intro (HB13.out.trans (HBd.out.mono HB13.out.size))
      clear HS0 HIW
      obtain ⟨xl, xc⟩ := HXd0.out
      have x0 : wc.cell? ⟨WB, 0, none⟩ = some (.slice ao D.length cp) := xc 0 (by simp)
      have x1 : wc.cell? ⟨WB, 1, none⟩ = some (.int .i64 c) := xc 1 (by simp)
      clear xc
      obtain ⟨hl, hc⟩ := HHd.out
      have h0 : wc.cell? ⟨WH, 0, none⟩ = some (.slice co D.length cq) := hc 0 (by simp)
      have h1 : wc.cell? ⟨WH, 1, none⟩ = some (.int .i64 c) := hc 1 (by simp)
      clear hc
      go_wp2_with fail
      refine (HQ.out _ _ _ _ _ HZd.out HWd0.out).mono ?_
      rintro e w15 ⟨rfl, hb15⟩
      have HG15 := hid_intro (HGd0.out.below hb15)
      have HK15 := hid_intro (HKd0.out.below hb15)
      have HB15 := hid_intro (HBd0.out.trans (hb15.mono HBd0.out.size))
      clear hb15 x0 x1 xl h0 h1 hl
      obtain ⟨gl, gc⟩ := HG15.out
      have g0 : w15.cell? ⟨w6.heap.size, 0, none⟩ = some (.slice bo D.length cap6) := gc 0 (by simp)
      have g1 : w15.cell? ⟨w6.heap.size, 1, none⟩ = some (.int .i64 c) := gc 1 (by simp)
      clear gc
      go_wp2_with fail
      refine (HHL.out _ HK15.out).mono ?_
      rintro e w16 ⟨rfl, hb16⟩
      have HB16 := hid_intro (HB15.out.trans (hb16.mono HB15.out.size))
      clear hb16
      go_wp2_with fail
      go_ret
      exact ⟨rfl, HB16.out⟩
set_option maxRecDepth 100000 in
set_option maxHeartbeats 4000000 in
theorem walk (al : Option Addr) (cap : Nat) (es : List N) (i a m : ByteArray) (n k : Int) (t : ByteArray) (wi : i.size ≤ maxLen) (wa : a.size ≤ maxLen) (wm : m.size ≤ maxLen) (wn : (Lit.int .i64 n).wf = true) (wk : (Lit.int .i64 k).wf = true) (wt : t.size ≤ maxLen) (w : World) (h : IsEns w al es) :
    Calls Try.prog 5 #[.slice al es.length cap, .agg #[.string i, .string a, .string m, .int .i64 n, .int .i64 k, .string t]] w fun e w' => e = .returned (.bool true) ∧ Below w.heap.size w w' := by
  obtain ⟨hm, hI, hw⟩ := h
  have hZ := fun W (hW : Below w.heap.size w W) => szs_any al cap es W hm (hI.below hW) hw
  have HB0 : Hid (Below w.heap.size w (w.alloc (.cells #[.string i, .string a, .string m, .int .i64 n, .int .i64 k, .string t] 46))) := hid_intro ((Below.refl _ _).alloc (Nat.le_refl _) _)
  have HA0 : Hid (Blk w.heap.size [.string i, .string a, .string m, .int .i64 n, .int .i64 k, .string t] (w.alloc (.cells #[.string i, .string a, .string m, .int .i64 n, .int .i64 k, .string t] 46))) := hid_intro (Blk.new w _ _)
  by_cases hs : szR es < 0
  · have HZ := hid_intro hZ
    generalize szR es = R at *
    generalize es.length = len at *
    clear hI hw hm hZ
    go_enter Try.func5, Try.ntmps5
    go_wp2_with fail
    refine (HZ.out _ HB0.out).mono ?_
    rintro e w1 ⟨rfl, hb⟩
    have HB := hid_intro (HB0.out.trans (hb.mono HB0.out.size))
    clear hb
    go_wp2_with fail
    go_ret
    exact ⟨rfl, HB.out⟩
  · obtain ⟨hlen, hi, l0, l1⟩ := sz_small hs
    have hZ2 := fun W => EvtR.sz_any i a m n k t (szR es) wi wa wm wt l0 l1 W
    by_cases he : szE i a m t ≤ szR es
    · rw [if_pos he] at hZ2
      have hz : i.size ≤ 1048576 ∧ a.size ≤ 1048576 ∧ m.size ≤ 1048576 ∧ t.size ≤ 1048576 := by unfold szE at he; omega
      have hr2 : ¬ szR es - szE i a m t < 0 := by omega
      exact law_in al cap es i a m n k t (tkL es i a m n k t) (tkC es i a m n k t) (szR es) (szR es - szE i a m t) w hs hr2 hlen tkL_len hI hZ hZ2 (fun b w hI => spec_take b 0 es.length es i a m n k t w hlen hi hz.1 hz.2.1 hz.2.2.1 hz.2.2.2 (Nat.le_refl _) (by unfold maxLen; omega) hI) (fun ao cap w hI => impl_take ao cap es i a m n k t w hlen hi hz.1 hz.2.1 hz.2.2.1 hz.2.2.2 hI)
    · rw [if_neg he] at hZ2
      have HZ := hid_intro hZ
      have HZ2 := hid_intro hZ2
      generalize szR es = R at *
      generalize es.length = len at *
      clear hI hw hm hZ hZ2 he hi
      unfold ev at *
      go_enter Try.func5, Try.ntmps5
      go_wp2_with fail
      refine (HZ.out _ HB0.out).mono ?_
      rintro e w1 ⟨rfl, hb⟩
      have HB1 := hid_intro (HB0.out.trans (hb.mono HB0.out.size))
      have HA1 := hid_intro (HA0.out.below hb)
      clear hb
      obtain ⟨hl1, c1⟩ := HA1.out
      have c10 : w1.cell? ⟨w.heap.size, 0, none⟩ = some (.string i) := c1 0 (by simp)
      have c11 : w1.cell? ⟨w.heap.size, 1, none⟩ = some (.string a) := c1 1 (by simp)
      have c12 : w1.cell? ⟨w.heap.size, 2, none⟩ = some (.string m) := c1 2 (by simp)
      have c13 : w1.cell? ⟨w.heap.size, 3, none⟩ = some (.int .i64 n) := c1 3 (by simp)
      have c14 : w1.cell? ⟨w.heap.size, 4, none⟩ = some (.int .i64 k) := c1 4 (by simp)
      have c15 : w1.cell? ⟨w.heap.size, 5, none⟩ = some (.string t) := c1 5 (by simp)
      clear c1
      go_wp2_with fail
      refine (HZ2.out _).mono ?_
      rintro e w2 ⟨rfl, hb2⟩
      have HB2 := hid_intro (HB1.out.trans (hb2.mono HB1.out.size))
      clear hb2
      go_wp2_with fail
      go_ret
      exact ⟨rfl, HB2.out⟩
theorem own : ownKnob Try.prog.godebug = none := by kernel_rfl
theorem laidOut : laidOutB Try.prog = true := by kernel_rfl
set_option maxRecDepth 100000 in
theorem lifted (os : Os) (started : os.Started) (H : Type) (enc : TypeId × Value → H) :
    ReturnsInHanded {} Try.checked os 5 .any (Rows.fnExactSeenTakeSpec.pre6 enc Try.prog Try.f5 Rows.fnExactSeenTakeRow.domain false) (Rows.fnExactSeenTakeSpec.post enc Try.prog Try.f5 false true false false) := by
  refine returnsInHanded_of_change (C := Try.checked) own started (by kernel_rfl) Try.func5
    (ChangeSpec.witness6 (enc := enc) (C := Try.checked) false ⟨#[], #[.slice none 0 0, .agg #[.string ByteArray.empty, .string ByteArray.empty, .string ByteArray.empty, .int .i64 0, .int .i64 0, .string ByteArray.empty]], []⟩ 8 (by kernel_rfl) (by kernel_rfl) (by kernel_rfl) (by kernel_rfl)) ?_
  intro W base args ds gs before hval0 hW hcnd _
  have hval : ∀ (j : Nat) t v, Try.f5.params[j]? = some t → args[j]? = some v → Value.okWide Try.prog W .any base t v := hval0
  obtain ⟨p, q, hA0, hV, hb0, hfz, hnd⟩ := id hW
  have hA : DataW.TrodAll enc Try.prog W 0 (fun _ => true) true Try.f5.params.toList args.toList ds p := hA0
  rw [Try.params5] at hA hval
  obtain ⟨v0, v1, d0, d1, p0, p1, rfl, rfl, rfl, h0, h1⟩ := trodAll_two hA
  obtain ⟨rfl, rfl⟩ := trodVars_none hV
  obtain rfl := hb0
  have hW' := hW
  simp only [List.append_nil] at hW'
  have k0 := h0
  have lt0 : ∀ x ∈ p0, x.block < W.heap.size := fun x hx => hW'.lt x (by simp [hx])
  obtain ⟨a0, len0, cap0, rfl⟩ := okWide_slice Try.underlying42 (hval 0 42 v0 rfl rfl)
  obtain ⟨z0, hz0, w0⟩ : ∃ es, es.length = len0 ∧ SeenR.IsEns W a0 es := by
    obtain ⟨fuel, hf⟩ := h0
    exact SeenR.ens_open Try.underlying42 Try.underlying77 (by kernel_rfl) (by kernel_rfl) Try.underlying9 Try.underlying2 Try.underlying2 (by simpa [Value.cells] using hf)
  subst hz0
  have k1 := h1
  have lt1 : ∀ x ∈ p1, x.block < W.heap.size := fun x hx => hW'.lt x (by simp [hx])
  obtain ⟨cs1, rfl, _⟩ := okWide_struct Try.underlying46 (hval 1 46 v1 rfl rfl)
  obtain ⟨fuel1, hf1⟩ := h1
  obtain ⟨i1, a1, m1, n1, k1', t1, hcs1, wi1, wa1, wm1, wn1, wk1, wt1⟩ := EvtR.event_cells Try.underlying46 (by kernel_rfl) (by kernel_rfl) Try.underlying9 Try.underlying9 Try.underlying9 Try.underlying2 Try.underlying2 Try.underlying9 hf1
  obtain rfl : cs1 = #[.string i1, .string a1, .string m1, .int .i64 n1, .int .i64 k1', .string t1] := by
    obtain ⟨l⟩ := cs1
    simp [Value.cells] at hcs1
    rw [hcs1]
  refine (walk a0 cap0 z0 i1 a1 m1 n1 k1' t1 wi1 wa1 wm1 wn1 wk1 wt1 W w0).mono fun e W' ⟨he, bel⟩ => ?_
  subst he
  exact ⟨_, rfl, _, _, _, _, _, _, hW', trodAll_mk1 (shut_bool Try.underlying4 true), trodAll_mk2 (Below.trod laidOut (by kernel_rfl) (of_decide_eq_true (by kernel_rfl)) k0 bel lt0) (Below.trod laidOut (by kernel_rfl) (of_decide_eq_true (by kernel_rfl)) k1 bel lt1), rfl, bel.frame _, fun h => by cases h⟩
theorem over : Rows.FnExactSeenTakeSaid :=
  OpenClaim.holds_of_wide 5 Try.f5 rfl rfl rfl rfl rfl rfl rfl ⟨rfl, rfl, rfl, rfl, rfl⟩ rfl rfl rfl rfl rfl (by kernel_rfl) Try.func5 (by kernel_rfl)
    (of_decide_eq_true (by kernel_rfl)) (by unfold Func.isWrapper; rw [if_neg (of_decide_eq_false (by kernel_rfl))]; exact ⟨rfl, rfl⟩)
    (fun os started H enc _ => lifted os started H enc)

end SeenTakeL
/-- THE STATEMENT -/
theorem fnExactSeenTake_holds : Rows.FnExactSeenTakeSaid := SeenTakeL.over
#print axioms fnExactSeenTake_holds
end Go.Proofs.Ytcalledapkmogaa
