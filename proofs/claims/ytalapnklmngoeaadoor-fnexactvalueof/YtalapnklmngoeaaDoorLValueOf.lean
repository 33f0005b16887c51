/-
  FnExactValueOf: for every window and kind of aggregate the law's call returns true (the program's ValueOf hands back what the model's does; it writes into no argument), and the arguments read as they did. The condition is the card's: the program's table starts as its text lays it.
-/
import Derived.Test.YtalapnklmngoeaaDoorWdX
import Derived.Test.YtalapnklmngoeaaDoorWdIn
import Derived.Test.YtalapnklmngoeaaDoorTabl
import Derived.Test.YtalapnklmngoeaaDoorCards
import Derived.Test.YtalapnklmngoeaaDoorWdV
import Derived.Carry
import Derived.OpenVars
import Derived.Lib.SmallJoins
import Derived.SevenTiedAt
namespace Go.Proofs.YtalapnklmngoeaaDoor
open Go.ChangeShapes Go.WideShapes Go.ChangeAt Go.RowKit
set_option linter.unusedVariables false
namespace ValueOfL
open WinR
open CatR (Blk Blk.new)
open DateR (Laid)
def BX (w w4 w6 : World) (a m : ByteArray) (mo ev su mx : Int) (ta : Option Addr) (tl tc : Nat) (ha : Option Addr) (hl hc : Nat) (t2 : Option Addr) (c2 : Nat) (h2 : Option Addr) (d2 : Nat) (W : World) : Prop := Below w6.heap.size w6 W ∧ w.heap.size < W.heap.size ∧ w4.heap.size < W.heap.size ∧ W.cell? ⟨w.heap.size, 0, none⟩ = some (.string a) ∧ W.cell? ⟨w.heap.size, 1, none⟩ = some (.string m) ∧ W.cell? ⟨w.heap.size, 2, none⟩ = some (.int .i64 mo) ∧ W.cell? ⟨w.heap.size, 3, none⟩ = some (.int .i64 ev) ∧ W.cell? ⟨w.heap.size, 4, none⟩ = some (.int .i64 su) ∧ W.cell? ⟨w.heap.size, 5, none⟩ = some (.int .i64 mx) ∧ W.cell? ⟨w.heap.size, 6, none⟩ = some (.slice ta tl tc) ∧ W.cell? ⟨w.heap.size, 7, none⟩ = some (.slice ha hl hc) ∧ W.cell? ⟨w4.heap.size, 0, none⟩ = some (.string a) ∧ W.cell? ⟨w4.heap.size, 1, none⟩ = some (.string m) ∧ W.cell? ⟨w4.heap.size, 2, none⟩ = some (.int .i64 mo) ∧ W.cell? ⟨w4.heap.size, 3, none⟩ = some (.int .i64 ev) ∧ W.cell? ⟨w4.heap.size, 4, none⟩ = some (.int .i64 su) ∧ W.cell? ⟨w4.heap.size, 5, none⟩ = some (.int .i64 mx) ∧ W.cell? ⟨w4.heap.size, 6, none⟩ = some (.slice t2 tl c2) ∧ W.cell? ⟨w4.heap.size, 7, none⟩ = some (.slice h2 hl d2)
theorem BX.below {w w4 w6 : World} {a m : ByteArray} {mo ev su mx : Int} {ta : Option Addr} {tl tc : Nat} {ha : Option Addr} {hl hc : Nat} {t2 : Option Addr} {c2 : Nat} {h2 : Option Addr} {d2 : Nat} {W W' : World} (h : BX w w4 w6 a m mo ev su mx ta tl tc ha hl hc t2 c2 h2 d2 W) (hb : Below W.heap.size W W') : BX w w4 w6 a m mo ev su mx ta tl tc ha hl hc t2 c2 h2 d2 W' := by
  obtain ⟨h0, l1, l2, p0, p1, p2, p3, p4, p5, p6, p7, q0, q1, q2, q3, q4, q5, q6, q7⟩ := h
  have f := fun o => hb.cell (p := ⟨w.heap.size, o, none⟩) l1
  have g := fun o => hb.cell (p := ⟨w4.heap.size, o, none⟩) l2
  have := hb.size
  exact ⟨h0.trans (hb.mono h0.size), by omega, by omega, (f _).trans p0, (f _).trans p1, (f _).trans p2, (f _).trans p3, (f _).trans p4, (f _).trans p5, (f _).trans p6, (f _).trans p7, (g _).trans q0, (g _).trans q1, (g _).trans q2, (g _).trans q3, (g _).trans q4, (g _).trans q5, (g _).trans q6, (g _).trans q7⟩
set_option maxRecDepth 100000 in
set_option maxHeartbeats 8000000 in
theorem law_in (M : Value → World → Prop) (a m : ByteArray) (mo ev su mx : Int) (ta : Option Addr) (tl tc : Nat) (ha : Option Addr) (hl hc : Nat) (g : Int) (left : Int) (r : Int) (w : World) (hleft : ¬ left < 0) (hL : Laid w)
    (hK : ∀ v W W', M v W → Below W.heap.size W W' → M v W') (hI : M (.agg #[.string a, .string m, .int .i64 mo, .int .i64 ev, .int .i64 su, .int .i64 mx, .slice ta tl tc, .slice ha hl hc]) w)
    (hZ : ∀ W, Below w.heap.size w W → Calls Tryd.prog 4 #[.agg #[.string a, .string m, .int .i64 mo, .int .i64 ev, .int .i64 su, .int .i64 mx, .slice ta tl tc, .slice ha hl hc], .int .i64 1048576] W fun e w' => e = .returned (.int .i64 left) ∧ Below W.heap.size W w')
    (hT : ∀ W, Below w.heap.size w W → Calls Tryd.prog 6 #[.agg #[.string a, .string m, .int .i64 mo, .int .i64 ev, .int .i64 su, .int .i64 mx, .slice ta tl tc, .slice ha hl hc]] W fun e w' => ∃ t' c' h' d', e = .returned (.agg #[.string a, .string m, .int .i64 mo, .int .i64 ev, .int .i64 su, .int .i64 mx, .slice t' tl c', .slice h' hl d']) ∧ M (.agg #[.string a, .string m, .int .i64 mo, .int .i64 ev, .int .i64 su, .int .i64 mx, .slice t' tl c', .slice h' hl d']) w' ∧ Below W.heap.size W w')
    (hS : ∀ v W, M v W → Calls Tryd.prog 5 #[v, .int .i64 g] W fun e w' => e = .returned (.int .i64 r) ∧ Below W.heap.size W w')
    (hJ : ∀ v W, Laid W → M v W → Calls Tryd.prog 7 #[v, .int .i64 g] W fun e w' => e = .returned (.int .i64 r) ∧ Below W.heap.size W w')
    (hE : ∀ v v' W, M v W → M v' W → Calls Tryd.prog 8 #[v, v'] W fun e w' => e = .returned (.bool true) ∧ Below W.heap.size W w') :
    Calls Tryd.prog 3 #[.agg #[.string a, .string m, .int .i64 mo, .int .i64 ev, .int .i64 su, .int .i64 mx, .slice ta tl tc, .slice ha hl hc], .int .i64 g] w fun e w' => e = .returned (.bool true) ∧ Below w.heap.size w w' := by
  have HL := hid_intro hL
  have HK := hid_intro hK
  have HI := hid_intro hI
  have HZ := hid_intro hZ
  have HT := hid_intro hT
  have HS := hid_intro hS
  have HJ := hid_intro hJ
  have HE := hid_intro hE
  clear hL hK hI hZ hT hS hJ hE
  have HB0 : Hid (Below w.heap.size w (w.alloc (.cells #[.string a, .string m, .int .i64 mo, .int .i64 ev, .int .i64 su, .int .i64 mx, .slice ta tl tc, .slice ha hl hc] 25))) := hid_intro ((Below.refl _ _).alloc (Nat.le_refl _) _)
  have HX0 := hid_intro (Blk.new w [.string a, .string m, .int .i64 mo, .int .i64 ev, .int .i64 su, .int .i64 mx, .slice ta tl tc, .slice ha hl hc] 25)
  go_enter Tryd.func3, Tryd.ntmps3
  go_wp2_with fail
  refine (HZ.out _ HB0.out).mono ?_
  rintro e w1 ⟨rfl, hb1⟩
  have HB1 := hid_intro (HB0.out.trans (hb1.mono HB0.out.size))
  have HX1 := hid_intro (HX0.out.below hb1)
  clear hb1 HB0 HX0
  obtain ⟨xl, xc⟩ := HX1.out
  have p0 : w1.cell? ⟨w.heap.size, 0, none⟩ = some (.string a) := xc 0 (by simp)
  have p1 : w1.cell? ⟨w.heap.size, 1, none⟩ = some (.string m) := xc 1 (by simp)
  have p2 : w1.cell? ⟨w.heap.size, 2, none⟩ = some (.int .i64 mo) := xc 2 (by simp)
  have p3 : w1.cell? ⟨w.heap.size, 3, none⟩ = some (.int .i64 ev) := xc 3 (by simp)
  have p4 : w1.cell? ⟨w.heap.size, 4, none⟩ = some (.int .i64 su) := xc 4 (by simp)
  have p5 : w1.cell? ⟨w.heap.size, 5, none⟩ = some (.int .i64 mx) := xc 5 (by simp)
  have p6 : w1.cell? ⟨w.heap.size, 6, none⟩ = some (.slice ta tl tc) := xc 6 (by simp)
  have p7 : w1.cell? ⟨w.heap.size, 7, none⟩ = some (.slice ha hl hc) := xc 7 (by simp)
  clear xc
  go_wp2_with fail
  refine (HT.out _ HB1.out).mono ?_
  rintro e w2 ⟨t1, c1, h1, d1, rfl, hM2, hb2⟩
  have HB2 := hid_intro (HB1.out.trans (hb2.mono HB1.out.size))
  have HX2 := hid_intro (HX1.out.below hb2)
  have HM2 := hid_intro hM2
  clear hb2 hM2 HX1 HB1 p0 p1 p2 p3 p4 p5 p6 p7 xl
  obtain ⟨xl, xc⟩ := HX2.out
  have p0 : w2.cell? ⟨w.heap.size, 0, none⟩ = some (.string a) := xc 0 (by simp)
  have p1 : w2.cell? ⟨w.heap.size, 1, none⟩ = some (.string m) := xc 1 (by simp)
  have p2 : w2.cell? ⟨w.heap.size, 2, none⟩ = some (.int .i64 mo) := xc 2 (by simp)
  have p3 : w2.cell? ⟨w.heap.size, 3, none⟩ = some (.int .i64 ev) := xc 3 (by simp)
  have p4 : w2.cell? ⟨w.heap.size, 4, none⟩ = some (.int .i64 su) := xc 4 (by simp)
  have p5 : w2.cell? ⟨w.heap.size, 5, none⟩ = some (.int .i64 mx) := xc 5 (by simp)
  have p6 : w2.cell? ⟨w.heap.size, 6, none⟩ = some (.slice ta tl tc) := xc 6 (by simp)
  have p7 : w2.cell? ⟨w.heap.size, 7, none⟩ = some (.slice ha hl hc) := xc 7 (by simp)
  clear xc
  go_wp2_with fail
  refine (HS.out _ _ HM2.out).mono ?_
  rintro e w3 ⟨rfl, hb3⟩
  have HB3 := hid_intro (HB2.out.trans (hb3.mono HB2.out.size))
  have HX3 := hid_intro (HX2.out.below hb3)
  clear hb3 HX2 HB2 HM2 p0 p1 p2 p3 p4 p5 p6 p7 xl
  obtain ⟨xl, xc⟩ := HX3.out
  have p0 : w3.cell? ⟨w.heap.size, 0, none⟩ = some (.string a) := xc 0 (by simp)
  have p1 : w3.cell? ⟨w.heap.size, 1, none⟩ = some (.string m) := xc 1 (by simp)
  have p2 : w3.cell? ⟨w.heap.size, 2, none⟩ = some (.int .i64 mo) := xc 2 (by simp)
  have p3 : w3.cell? ⟨w.heap.size, 3, none⟩ = some (.int .i64 ev) := xc 3 (by simp)
  have p4 : w3.cell? ⟨w.heap.size, 4, none⟩ = some (.int .i64 su) := xc 4 (by simp)
  have p5 : w3.cell? ⟨w.heap.size, 5, none⟩ = some (.int .i64 mx) := xc 5 (by simp)
  have p6 : w3.cell? ⟨w.heap.size, 6, none⟩ = some (.slice ta tl tc) := xc 6 (by simp)
  have p7 : w3.cell? ⟨w.heap.size, 7, none⟩ = some (.slice ha hl hc) := xc 7 (by simp)
  clear xc
  go_wp2_with fail
  refine (HT.out _ HB3.out).mono ?_
  rintro e w4 ⟨t2, c2, h2, d2, rfl, hM4, hb4⟩
  have HB4 := hid_intro (HB3.out.trans (hb4.mono HB3.out.size))
  have HX4 := hid_intro (HX3.out.below hb4)
  have HM4 := hid_intro hM4
  clear hb4 hM4 HX3 HB3 p0 p1 p2 p3 p4 p5 p6 p7 xl
  have HA4 : Hid (Below w4.heap.size w4 (w4.alloc (.cells #[.string a, .string m, .int .i64 mo, .int .i64 ev, .int .i64 su, .int .i64 mx, .slice t2 tl c2, .slice h2 hl d2] 30))) := hid_intro ((Below.refl _ _).alloc (Nat.le_refl _) _)
  have HB5 := hid_intro (HB4.out.trans (HA4.out.mono HB4.out.size))
  have HX5 := hid_intro (HX4.out.below HA4.out)
  have HM5 := hid_intro (HK.out _ _ _ HM4.out HA4.out)
  have HY5 := hid_intro (Blk.new w4 [.string a, .string m, .int .i64 mo, .int .i64 ev, .int .i64 su, .int .i64 mx, .slice t2 tl c2, .slice h2 hl d2] 30)
  have HL5 := hid_intro (HL.out.below HB5.out)
  clear HX4 HB4 HM4 HA4
  go_wp2_with fail
  refine (HJ.out _ _ HL5.out HM5.out).mono ?_
  rintro e w6 ⟨rfl, hb6⟩
  have HB6 := hid_intro (HB5.out.trans (hb6.mono HB5.out.size))
  have HX6 := hid_intro (HX5.out.below hb6)
  have HY6 := hid_intro (HY5.out.below hb6)
  have HM6 := hid_intro (HK.out _ _ _ HM5.out hb6)
  clear hb6 HX5 HB5 HM5 HY5 HL5
  have HS0 : Hid (BX w w4 w6 a m mo ev su mx ta tl tc ha hl hc t2 c2 h2 d2 w6.drew) := hid_intro (BX.below (by
    obtain ⟨xl, xc⟩ := HX6.out
    obtain ⟨yl, yc⟩ := HY6.out
    exact ⟨Below.refl _ _, xl, yl, xc 0 (by simp), xc 1 (by simp), xc 2 (by simp), xc 3 (by simp), xc 4 (by simp), xc 5 (by simp), xc 6 (by simp), xc 7 (by simp), yc 0 (by simp), yc 1 (by simp), yc 2 (by simp), yc 3 (by simp), yc 4 (by simp), yc 5 (by simp), yc 6 (by simp), yc 7 (by simp)⟩) (Below.refl _ _).drew)
  clear HX6 HY6
  first | skip
  all_goals (
    go_wp2_with fail
    refine wp_region_held_drew (S := (fun W => Below w6.heap.size w6 W ∧ w.heap.size < W.heap.size ∧ w4.heap.size < W.heap.size ∧ W.cell? ⟨w.heap.size, 0, none⟩ = some (.string a) ∧ W.cell? ⟨w.heap.size, 1, none⟩ = some (.string m) ∧ W.cell? ⟨w.heap.size, 2, none⟩ = some (.int .i64 mo) ∧ W.cell? ⟨w.heap.size, 3, none⟩ = some (.int .i64 ev) ∧ W.cell? ⟨w.heap.size, 4, none⟩ = some (.int .i64 su) ∧ W.cell? ⟨w.heap.size, 5, none⟩ = some (.int .i64 mx) ∧ W.cell? ⟨w.heap.size, 6, none⟩ = some (.slice ta tl tc) ∧ W.cell? ⟨w.heap.size, 7, none⟩ = some (.slice ha hl hc) ∧ W.cell? ⟨w4.heap.size, 0, none⟩ = some (.string a) ∧ W.cell? ⟨w4.heap.size, 1, none⟩ = some (.string m) ∧ W.cell? ⟨w4.heap.size, 2, none⟩ = some (.int .i64 mo) ∧ W.cell? ⟨w4.heap.size, 3, none⟩ = some (.int .i64 ev) ∧ W.cell? ⟨w4.heap.size, 4, none⟩ = some (.int .i64 su) ∧ W.cell? ⟨w4.heap.size, 5, none⟩ = some (.int .i64 mx) ∧ W.cell? ⟨w4.heap.size, 6, none⟩ = some (.slice t2 tl c2) ∧ W.cell? ⟨w4.heap.size, 7, none⟩ = some (.slice h2 hl d2))) (by kernel_rfl) HS0.out (fun hHeld => ?_)
    refine wpAnyH_take (i := 0) (oi := { dst := some 26, op := Op.load 30 (Operand.tmp 7), type := 30, pos := "exact.go:2768", after := #[], guard := none }) (v := ?_) rfl (by kernel_rfl) (by kernel_rfl) (by kernel_rfl) (fun _ _ _ h => h) (Or.inl ⟨by rfl, ?_⟩) (by assumption) ?_
    rotate_left
    · (intro w hSw; (try dsimp only at hSw); go_simp) <;> with_reducible rfl
    try simp only [Act.put, List.setIfInBounds_toArray, List.set_cons_zero, List.set_cons_succ]
    refine wpAnyH_take (i := 1) (oi := { dst := some 27, op := Op.load 25 (Operand.tmp 2), type := 25, pos := "exact.go:2768", after := #[], guard := none }) (v := ?_) rfl (by kernel_rfl) (by kernel_rfl) (by kernel_rfl) (fun _ _ _ h => h) (Or.inl ⟨by rfl, ?_⟩) (by assumption) ?_
    rotate_left
    · (intro w hSw; (try dsimp only at hSw); go_simp) <;> with_reducible rfl
    try simp only [Act.put, List.setIfInBounds_toArray, List.set_cons_zero, List.set_cons_succ]
    refine wpAnyH_ready (rs := [2]) (by kernel_rfl) (by simp) ?_
    refine AllReadyH.cons (o := { dst := some 28, op := Op.call { callee := Callee.value (Operand.func 6), args := #[Operand.tmp 27], argTypes := #[25] }, type := 30, pos := "exact.go:2768", after := #[{ on := 1, ground := Ground.data }], guard := none }) rfl (fun K hK => ?_) AllReadyH.nil
    go_simp
    go_at_call 6
    refine (HT.out _ (HB6.out.trans (HS0.out.1.mono HB6.out.size))).mono ?_
    rintro e q1 ⟨t3, c3, h3, d3, rfl, hM7, hq1⟩
    try go_wp2_with fail
    have hk1 := BX.below (w := w) (w4 := w4) (w6 := w6) (a := a) (m := m) (mo := mo) (ev := ev) (su := su) (mx := mx) (ta := ta) (tl := tl) (tc := tc) (ha := ha) (hl := hl) (hc := hc) (t2 := t2) (c2 := c2) (h2 := h2) (d2 := d2) HS0.out hq1
    refine hK.out _ _ hk1 (fun _ => ?_)
    clear hK K
    try simp only [Act.put, List.setIfInBounds_toArray, List.set_cons_zero, List.set_cons_succ]
    have hM8 := HK.out _ _ _ (HK.out _ _ _ HM6.out (Below.refl _ _).drew) hq1
    refine wpAnyH_ready (rs := [3]) (by kernel_rfl) (by simp) ?_
    refine AllReadyH.cons (o := { dst := some 29, op := Op.call { callee := Callee.value (Operand.func 8), args := #[Operand.tmp 26, Operand.tmp 28], argTypes := #[30, 30] }, type := 4, pos := "exact.go:2768", after := #[{ on := 0, ground := Ground.data }, { on := 2, ground := Ground.data }, { on := 2, ground := Ground.chain }], guard := none }) rfl (fun K hK => ?_) AllReadyH.nil
    go_simp
    go_at_call 8
    refine (HE.out _ _ _ hM8 hM7).mono ?_
    rintro e q2 ⟨rfl, hq2⟩
    try go_wp2_with fail
    have hk2 := BX.below (w := w) (w4 := w4) (w6 := w6) (a := a) (m := m) (mo := mo) (ev := ev) (su := su) (mx := mx) (ta := ta) (tl := tl) (tc := tc) (ha := ha) (hl := hl) (hc := hc) (t2 := t2) (c2 := c2) (h2 := h2) (d2 := d2) hk1 hq2
    refine hK.out _ _ hk2 (fun _ => ?_)
    clear hK K
    try simp only [Act.put, List.setIfInBounds_toArray, List.set_cons_zero, List.set_cons_succ]
    refine wpAnyH_take (i := 4) (oi := { dst := some 30, op := Op.unOp UnOp.not 4 (Operand.tmp 29), type := 4, pos := "exact.go:2768", after := #[{ on := 3, ground := Ground.data }], guard := none }) (v := ?_) rfl (by kernel_rfl) (by kernel_rfl) (by kernel_rfl) (fun _ _ _ h => h) (Or.inl ⟨by rfl, ?_⟩) (by assumption) ?_
    rotate_left
    · (intro w hSw; (try dsimp only at hSw); go_simp) <;> with_reducible rfl
    try simp only [Act.put, List.setIfInBounds_toArray, List.set_cons_zero, List.set_cons_succ]
    refine wpAnyH_done (by kernel_rfl) ?_ _
    have HBF := hid_intro (HB6.out.trans (hk2.1.mono HB6.out.size))
    clear hk2 hk1 hM7 hM8
    go_wp2_with fail
    go_ret
    exact ⟨rfl, HBF.out⟩)
theorem big (a m : ByteArray) (mo ev su mx : Int) (ta : Option Addr) (tl tc : Nat) (ha : Option Addr) (hl hc : Nat) (g : Int) (left : Int) (w : World) (hleft : left < 0)
    (hZ : ∀ W, Below w.heap.size w W → Calls Tryd.prog 4 #[.agg #[.string a, .string m, .int .i64 mo, .int .i64 ev, .int .i64 su, .int .i64 mx, .slice ta tl tc, .slice ha hl hc], .int .i64 1048576] W fun e w' => e = .returned (.int .i64 left) ∧ Below W.heap.size W w') :
    Calls Tryd.prog 3 #[.agg #[.string a, .string m, .int .i64 mo, .int .i64 ev, .int .i64 su, .int .i64 mx, .slice ta tl tc, .slice ha hl hc], .int .i64 g] w fun e w' => e = .returned (.bool true) ∧ Below w.heap.size w w' := by
  have HZ := hid_intro hZ
  clear hZ
  have HB0 : Hid (Below w.heap.size w (w.alloc (.cells #[.string a, .string m, .int .i64 mo, .int .i64 ev, .int .i64 su, .int .i64 mx, .slice ta tl tc, .slice ha hl hc] 25))) := hid_intro ((Below.refl _ _).alloc (Nat.le_refl _) _)
  go_enter Tryd.func3, Tryd.ntmps3
  go_wp2_with fail
  refine (HZ.out _ HB0.out).mono ?_
  rintro e w1 ⟨rfl, hb1⟩
  have HB1 := hid_intro (HB0.out.trans (hb1.mono HB0.out.size))
  clear hb1
  go_wp2_with fail
  go_ret
  exact ⟨rfl, HB1.out⟩
theorem walk (x : Wd) (ta : Option Addr) (tc : Nat) (ha : Option Addr) (hc : Nat) (g : Int) (w : World) (hin : x.In) (hT : Tgs ta x.ts w) (hH : Hrs ha x.hs w) (hL : Laid w) :
    Calls Tryd.prog 3 #[.agg (wcells x ta tc ha hc), .int .i64 g] w fun e w' => e = .returned (.bool true) ∧ Below w.heap.size w w' := by
  have hz := fun W (hW : Below w.heap.size w W) => szW_any x ta tc ha hc 1048576 W (by omega) (by omega) hin (hT.below hW)
  by_cases hs : wszR x 1048576 < 0
  · exact big x.a x.m x.mo x.ev x.su x.mx ta x.ts.length tc ha x.hs.length hc g _ w hs hz
  · obtain ⟨⟨s1, s2, s3, s4, s5⟩, _, _⟩ := wsz_small (by omega) hs
    refine law_in (fun v W => IsWd v x W) x.a x.m x.mo x.ev x.su x.mx ta x.ts.length tc ha x.hs.length hc g _ (valueV x g) w hs hL (fun v W W' h hb => h.below hb) ⟨ta, tc, ha, hc, rfl, hT, hH⟩ hz (fun W hW => ?_) (fun v W h => ?_) (fun v W hL h => ?_) (fun v v' W h h' => eqW_any v v' x W s3 s5 h h')
    · refine (toW_any _ x W s3 s5 ⟨ta, tc, ha, hc, rfl, hT.below hW, hH.below hW⟩).mono ?_
      rintro e w' ⟨v', rfl, hM, hb⟩
      have hi := hM.is
      obtain ⟨t', c', h', d', rfl, _⟩ := hM
      exact ⟨t', c', h', d', rfl, hi, hb⟩
    · obtain ⟨ta, tc, ha, hc, rfl, hT, hH⟩ := h
      exact spec_value x g ta tc ha hc W s1 s2 s3 s4 s5 hT hH
    · obtain ⟨ta, tc, ha, hc, rfl, hT, hH⟩ := h
      exact impl_value x g ta tc ha hc W s1 s2 s3 s4 s5 hL hT hH
set_option maxRecDepth 100000 in
theorem lifted (os : Os) (started : os.Started) (H : Type) (enc : TypeId × Value → H) :
    ReturnsInHanded {} Tryd.checked os 3 .any (fun w args => (Rows.fnExactValueOfSpec.pre enc Tryd.prog Tryd.f3 [] false w args ∧ laidMetH Tryd.prog Lay.laid w) ∧ sizedMet enc Tryd.prog Tryd.f3 (OpenSpec.ofChange Rows.fnExactValueOfSpec) false w args)
      (Rows.fnExactValueOfSpec.post enc Tryd.prog Tryd.f3 false true false false) := by
  refine returnsInHanded_of_change_and (C := Tryd.checked) (X := fun w _ => laidMetH Tryd.prog Lay.laid w) (fun _ _ _ hh h => h.of_heap hh) Lay.own started (by kernel_rfl) Tryd.func3
    (ChangeSpec.witness_shaped (enc := enc) (C := Tryd.checked) (os := os) (X := fun w _ => laidMetH Tryd.prog Lay.laid w) false (World.doorLaid Tryd.prog 400 os) #[.agg #[.string ByteArray.empty, .string ByteArray.empty, .int .i64 0, .int .i64 0, .int .i64 0, .int .i64 0, .slice none 0 0, .slice none 0 0], .int .i64 0] 8 rfl (World.shaped_of_RefB (by kernel_rfl) (by kernel_rfl)) (by kernel_rfl) (by kernel_rfl) (by kernel_rfl) (Lay.door_met os _)) ?_
  intro W base args ds gs before hval0 hW _ _ hL _
  have hval : ∀ (j : Nat) t v, Tryd.f3.params[j]? = some t → args[j]? = some v → Value.okWide Tryd.prog W .any base t v := hval0
  have hW' := hW
  obtain ⟨p, q, hA0, hV0, rfl, hfz, hnd⟩ := hW
  have hA : DataW.TrodAll enc Tryd.prog W 0 (fun _ => true) true Tryd.f3.params.toList args.toList ds p := hA0
  have hV : DataW.TrodVars enc Tryd.prog W (fun _ => true) ["loop.example/g00562/impl.monthLengths"] gs q := hV0
  rw [Tryd.params3] at hA hval
  obtain ⟨v0, v1, d0, d1, p0, p1, rfl, rfl, rfl, h0, h1⟩ := trodAll_two hA
  have k0 := h0
  have lt0 : ∀ x ∈ p0, x.block < W.heap.size := fun x hx => hW'.lt x (by simp [hx])
  obtain ⟨cs0, rfl, _⟩ := okWide_struct Tryd.underlying25 (hval 0 25 v0 rfl rfl)
  obtain ⟨fuel0, hf0⟩ := h0
  obtain ⟨x0, ta0, tc0, ha0, hc0, hcs0, hin0, hT0, hH0⟩ := WinR.win_open Tryd.underlying25 (by kernel_rfl) (by kernel_rfl) Tryd.underlying9 Tryd.underlying9 Tryd.underlying2 Tryd.underlying2 Tryd.underlying2 Tryd.underlying2 Tryd.underlying22 Tryd.underlying23 Tryd.underlying9 (by kernel_rfl) Tryd.underlying55 (by kernel_rfl) (by kernel_rfl) Tryd.underlying2 Tryd.underlying2 hf0
  obtain rfl : cs0 = WinR.wcells x0 ta0 tc0 ha0 hc0 := by
    obtain ⟨l⟩ := cs0
    exact Array.ext' (by simpa [Value.cells] using hcs0)
  have k1 := h1
  have lt1 : ∀ x ∈ p1, x.block < W.heap.size := fun x hx => hW'.lt x (by simp [hx])
  obtain ⟨a1, rfl, rfl, rfl, w1⟩ := open_int Tryd.underlying2 (hval 1 2 v1 rfl rfl) h1
  have hl := Lay.of_laid hL
  obtain ⟨_, _, _, _, gd, _, rfl, _, _, _, _, _⟩ := trodVars_one hV
  refine (walk x0 ta0 tc0 ha0 hc0 a1 W hin0 hT0 hH0 hl).mono fun e W' ⟨he, bel⟩ => ?_
  subst he
  exact ⟨_, rfl, _, _, _, _, _, _, hW', trodAll_mk1 (shut_bool Tryd.underlying4 true), trodAll_mk2 (Below.trod Lay.laidOut (by kernel_rfl) (of_decide_eq_true (by kernel_rfl)) k0 bel lt0) (Below.trod Lay.laidOut (by kernel_rfl) (of_decide_eq_true (by kernel_rfl)) k1 bel lt1), bel.trodVars Lay.laidOut (by kernel_rfl) hV, bel.frame _, fun h => by cases h⟩
theorem row_holds : Rows.FnExactValueOfSaid :=
  OpenClaim.holds_of_wide 3 Tryd.f3 rfl rfl rfl rfl rfl rfl rfl ⟨rfl, rfl, rfl, rfl, rfl⟩ rfl rfl rfl rfl rfl (by kernel_rfl) Tryd.func3 (by kernel_rfl)
    (of_decide_eq_true (by kernel_rfl)) (by unfold Func.isWrapper; rw [if_neg (of_decide_eq_false (by kernel_rfl))]; exact ⟨rfl, rfl⟩)
    (fun os started H enc _ => lifted os started H enc)
theorem card_holds : Rows.FnExactValueOfCardSaid :=
  Claim7.holds_tied_plain_at .later [] [.data] true Rows.fnExactValueOfCard.stood.harness false
    row_holds (fun _ h => by cases h) (by kernel_rfl) (fun _ h => by cases h) fnExactValueOf_row_tie rfl ⟨rfl, rfl⟩ (by kernel_rfl) rfl
    (fun f fn hf hfn => by
      obtain rfl : f = 3 := Option.some.inj ((show Tryd.prog.funcNamed "loop.example/g00562/laws.FnExactValueOf" = some 3 by kernel_rfl).symm.trans hf) |>.symm
      obtain rfl : fn = Tryd.f3 := (Option.some.inj (Tryd.func3.symm.trans hfn)).symm
      exact ⟨by kernel_rfl, fun j t ht => by
        rw [Tryd.params3] at ht
        have hm : t ∈ [25, 2] := by simpa using Array.mem_of_getElem? ht
        have hall : ([25, 2].all fun u => !Tryd.prog.wantsStandIn u) = true := by kernel_rfl
        exact (show Tryd.prog.wantsStandIn t = false by simpa using List.all_eq_true.1 hall t hm)⟩)
    (by kernel_rfl)
end ValueOfL
/-- THE STATEMENT: THE CARD -/
theorem fnExactValueOf_holds : Rows.FnExactValueOfCardSaid := ValueOfL.card_holds
#print axioms fnExactValueOf_holds
end Go.Proofs.YtalapnklmngoeaaDoor
