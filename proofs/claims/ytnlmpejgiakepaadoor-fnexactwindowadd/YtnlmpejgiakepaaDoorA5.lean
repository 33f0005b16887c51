/-
  What two usages were together: the program's way. The conditions: sums far from running over, lists of at most 1048575 items together.
  Cells of a block written one behind another. No condition.
  What is shown once is used on every way to it. No condition.
  Two windows joined: the program's way. The condition: what the callees ask for.
-/
import Derived.Deep.CutRange
import Derived.Test.YtnlmpejgiakepaaDoorA4
namespace Go.Proofs.YtnlmpejgiakepaaDoor
open Go.ChangeShapes Go.WideShapes Go.ChangeAt Go.RowKit
set_option linter.unusedVariables false
namespace WinR
open RowG (MadeG Rws)
open EvtR (Pt)
open LtR (lt)
/-- Both usages' blocks and the one that is handed back. -/
def UJ (w : World) (a1 m1 : ByteArray) (mo1 ev1 su1 mx1 : Int) (ta1 : Option Addr) (tl1 tc1 : Nat) (ha1 : Option Addr) (hl1 hc1 : Nat) (a2 m2 : ByteArray) (mo2 ev2 su2 mx2 : Int) (ta2 : Option Addr) (tl2 tc2 : Nat) (ha2 : Option Addr) (hl2 hc2 : Nat) (W : World) : Prop := Below w.heap.size w W ∧ w.heap.size + 1 + 1 < W.heap.size ∧ W.cell? ⟨w.heap.size, 0, none⟩ = some (.string a1) ∧ W.cell? ⟨w.heap.size, 1, none⟩ = some (.string m1) ∧ W.cell? ⟨w.heap.size, 2, none⟩ = some (.int .i64 mo1) ∧ W.cell? ⟨w.heap.size, 3, none⟩ = some (.int .i64 ev1) ∧ W.cell? ⟨w.heap.size, 4, none⟩ = some (.int .i64 su1) ∧ W.cell? ⟨w.heap.size, 5, none⟩ = some (.int .i64 mx1) ∧ W.cell? ⟨w.heap.size, 6, none⟩ = some (.slice ta1 tl1 tc1) ∧ W.cell? ⟨w.heap.size, 7, none⟩ = some (.func (.func 88) #[] #[]) ∧ W.cell? ⟨w.heap.size, 8, none⟩ = some (.func (.func 89) #[] #[]) ∧ W.cell? ⟨w.heap.size, 9, none⟩ = some (.slice ha1 hl1 hc1) ∧ W.cell? ⟨w.heap.size, 10, none⟩ = some (.func (.func 90) #[] #[]) ∧ W.cell? ⟨w.heap.size, 11, none⟩ = some (.func (.func 91) #[] #[]) ∧ W.cell? ⟨w.heap.size + 1, 3, none⟩ = some (.int .i64 ev2) ∧ W.cell? ⟨w.heap.size + 1, 4, none⟩ = some (.int .i64 su2) ∧ W.cell? ⟨w.heap.size + 1, 5, none⟩ = some (.int .i64 mx2) ∧ W.cell? ⟨w.heap.size + 1, 6, none⟩ = some (.slice ta2 tl2 tc2) ∧ W.cell? ⟨w.heap.size + 1, 7, none⟩ = some (.func (.func 88) #[] #[]) ∧ W.cell? ⟨w.heap.size + 1, 8, none⟩ = some (.func (.func 89) #[] #[]) ∧ W.cell? ⟨w.heap.size + 1, 9, none⟩ = some (.slice ha2 hl2 hc2) ∧ W.cell? ⟨w.heap.size + 1, 10, none⟩ = some (.func (.func 90) #[] #[]) ∧ W.cell? ⟨w.heap.size + 1, 11, none⟩ = some (.func (.func 91) #[] #[]) ∧ Pt (w.heap.size + 1 + 1) 12 W
theorem UJ.below {w : World} {a1 m1 : ByteArray} {mo1 ev1 su1 mx1 : Int} {ta1 : Option Addr} {tl1 tc1 : Nat} {ha1 : Option Addr} {hl1 hc1 : Nat} {a2 m2 : ByteArray} {mo2 ev2 su2 mx2 : Int} {ta2 : Option Addr} {tl2 tc2 : Nat} {ha2 : Option Addr} {hl2 hc2 : Nat} {W W' : World} (h : UJ w a1 m1 mo1 ev1 su1 mx1 ta1 tl1 tc1 ha1 hl1 hc1 a2 m2 mo2 ev2 su2 mx2 ta2 tl2 tc2 ha2 hl2 hc2 W) (hb : Below W.heap.size W W') : UJ w a1 m1 mo1 ev1 su1 mx1 ta1 tl1 tc1 ha1 hl1 hc1 a2 m2 mo2 ev2 su2 mx2 ta2 tl2 tc2 ha2 hl2 hc2 W' := by
 obtain ⟨h0, h1, c0, c1, c2, c3, c4, c5, c6, c7, c8, c9, c10, c11, d3, d4, d5, d6, d7, d8, d9, d10, d11, hp⟩ := h
 have c := fun o => hb.cell (p := ⟨w.heap.size, o, none⟩) (show w.heap.size < W.heap.size by omega)
 have d := fun o => hb.cell (p := ⟨w.heap.size + 1, o, none⟩) (show w.heap.size + 1 < W.heap.size by omega)
 have := hb.size
 exact ⟨h0.trans (hb.mono h0.size), by omega, (c 0).trans c0, (c 1).trans c1, (c 2).trans c2, (c 3).trans c3, (c 4).trans c4, (c 5).trans c5, (c 6).trans c6, (c 7).trans c7, (c 8).trans c8, (c 9).trans c9, (c 10).trans c10, (c 11).trans c11, (d 3).trans d3, (d 4).trans d4, (d 5).trans d5, (d 6).trans d6, (d 7).trans d7, (d 8).trans d8, (d 9).trans d9, (d 10).trans d10, (d 11).trans d11, hp.below hb⟩
theorem UJ.put {w : World} {a1 m1 : ByteArray} {mo1 ev1 su1 mx1 : Int} {ta1 : Option Addr} {tl1 tc1 : Nat} {ha1 : Option Addr} {hl1 hc1 : Nat} {a2 m2 : ByteArray} {mo2 ev2 su2 mx2 : Int} {ta2 : Option Addr} {tl2 tc2 : Nat} {ha2 : Option Addr} {hl2 hc2 : Nat} {W : World} (h : UJ w a1 m1 mo1 ev1 su1 mx1 ta1 tl1 tc1 ha1 hl1 hc1 a2 m2 mo2 ev2 su2 mx2 ta2 tl2 tc2 ha2 hl2 hc2 W) (o : Nat) (v : Value) : UJ w a1 m1 mo1 ev1 su1 mx1 ta1 tl1 tc1 ha1 hl1 hc1 a2 m2 mo2 ev2 su2 mx2 ta2 tl2 tc2 ha2 hl2 hc2 (W.setCell ⟨w.heap.size + 1 + 1, o, none⟩ v) := by
 obtain ⟨h0, h1, c0, c1, c2, c3, c4, c5, c6, c7, c8, c9, c10, c11, d3, d4, d5, d6, d7, d8, d9, d10, d11, hp⟩ := h
 have hg := RowG.grown_set W (w.heap.size + 1 + 1) o v
 have c := fun k => World.cell?_of_block (a := ⟨w.heap.size, k, none⟩) (hg.block w.heap.size (by omega) (by simp; omega))
 have d := fun k => World.cell?_of_block (a := ⟨w.heap.size + 1, k, none⟩) (hg.block (w.heap.size + 1) (by omega) (by simp))
 exact ⟨h0.setCell (by simp; omega) _, by simpa using h1, (c 0).trans c0, (c 1).trans c1, (c 2).trans c2, (c 3).trans c3, (c 4).trans c4, (c 5).trans c5, (c 6).trans c6, (c 7).trans c7, (c 8).trans c8, (c 9).trans c9, (c 10).trans c10, (c 11).trans c11, (d 3).trans d3, (d 4).trans d4, (d 5).trans d5, (d 6).trans d6, (d 7).trans d7, (d 8).trans d8, (d 9).trans d9, (d 10).trans d10, (d 11).trans d11, hp.set _ _⟩
theorem UJ.out {w : World} {a1 m1 : ByteArray} {mo1 ev1 su1 mx1 : Int} {ta1 : Option Addr} {tl1 tc1 : Nat} {ha1 : Option Addr} {hl1 hc1 : Nat} {a2 m2 : ByteArray} {mo2 ev2 su2 mx2 : Int} {ta2 : Option Addr} {tl2 tc2 : Nat} {ha2 : Option Addr} {hl2 hc2 : Nat} {W : World} (h : UJ w a1 m1 mo1 ev1 su1 mx1 ta1 tl1 tc1 ha1 hl1 hc1 a2 m2 mo2 ev2 su2 mx2 ta2 tl2 tc2 ha2 hl2 hc2 W) : Pt (w.heap.size + 1 + 1) 12 W := by
 obtain ⟨h0, h1, c0, c1, c2, c3, c4, c5, c6, c7, c8, c9, c10, c11, d3, d4, d5, d6, d7, d8, d9, d10, d11, hp⟩ := h
 exact hp
/-- A list in a block that is not written. -/
theorem Rws.keep {α : Type} {k : Nat} {cells : α → List Value} {z : α} {ao : Option Addr} {xs : List α} {w w' : World} {g : Nat} (h : Rws k cells z ao xs w) (hg : w.grownBy w' (some g)) (hne : xs.length = 0 ∨ ∀ b off, ao = some ⟨b, off, none⟩ → b ≠ g) : Rws k cells z ao xs w' :=
 Rws.grown h hg (hne.imp id (fun q b off e hb => q b off e (by simpa using hb)))
theorem gtr {w w1 w2 : World} {g : Option Nat} (h1 : w.grownBy w1 g) (h2 : w1.grownBy w2 g) : w.grownBy w2 g :=
 ⟨h2.os.trans h1.os, h2.tape.trans h1.tape, h2.output.trans h1.output, Nat.le_trans h1.size h2.size, fun k hk hne => (h2.block k (by have := h1.size; omega) hne).trans (h1.block k hk hne)⟩
theorem pt12 (w : World) (T : TypeId) : Pt w.heap.size 12 (w.alloc (.cells #[.string ⟨#[]⟩, .string ⟨#[]⟩, .int .i64 0, .int .i64 0, .int .i64 0, .int .i64 0, .slice none 0 0, .nilFunc, .nilFunc, .slice none 0 0, .nilFunc, .nilFunc] T)) := by
 refine ⟨by simp, fun o ho => ?_, fun o ho => by simp [go_sem]⟩
 match o, ho with
 | 0, _ => exact ⟨_, by simp [go_sem]; rfl⟩
 | 1, _ => exact ⟨_, by simp [go_sem]; rfl⟩
 | 2, _ => exact ⟨_, by simp [go_sem]; rfl⟩
 | 3, _ => exact ⟨_, by simp [go_sem]; rfl⟩
 | 4, _ => exact ⟨_, by simp [go_sem]; rfl⟩
 | 5, _ => exact ⟨_, by simp [go_sem]; rfl⟩
 | 6, _ => exact ⟨_, by simp [go_sem]; rfl⟩
 | 7, _ => exact ⟨_, by simp [go_sem]; rfl⟩
 | 8, _ => exact ⟨_, by simp [go_sem]; rfl⟩
 | 9, _ => exact ⟨_, by simp [go_sem]; rfl⟩
 | 10, _ => exact ⟨_, by simp [go_sem]; rfl⟩
 | 11, _ => exact ⟨_, by simp [go_sem]; rfl⟩
set_option maxRecDepth 100000 in
set_option maxHeartbeats 16000000 in
theorem with_in (a1 m1 : ByteArray) (mo1 ev1 su1 mx1 : Int) (ta1 : Option Addr) (tl1 tc1 : Nat) (ha1 : Option Addr) (hl1 hc1 : Nat) (a2 m2 : ByteArray) (mo2 ev2 su2 mx2 : Int) (ta2 : Option Addr) (tl2 tc2 : Nat) (ha2 : Option Addr) (hl2 hc2 : Nat) (ts1 ts2 : List ByteArray) (hs1 hs2 : List H) (w : World) (e1 : tl1 = ts1.length) (e2 : tl2 = ts2.length) (f1 : hl1 = hs1.length) (f2 : hl2 = hs2.length)
  (h1 : 0 ≤ ev1 ∧ ev1 ≤ 1000000000000000) (h2 : 0 ≤ ev2 ∧ ev2 ≤ 1000000000000000) (h3 : 0 ≤ su1 ∧ su1 ≤ 1000000000000000) (h4 : 0 ≤ su2 ∧ su2 ≤ 1000000000000000)
  (ht : ∀ W, Below w.heap.size w W → Calls Tryd.prog 78 #[.agg #[.slice ta1 tl1 tc1, .func (.func 88) #[] #[], .func (.func 89) #[] #[]], .agg #[.slice ta2 tl2 tc2, .func (.func 88) #[] #[], .func (.func 89) #[] #[]]] W fun e w' => ∃ ao c, e = .returned (.agg #[.slice ao (mrg lt fstT ts1 ts2).length c, .func (.func 88) #[] #[], .func (.func 89) #[] #[]]) ∧ Tgs ao (mrg lt fstT ts1 ts2) w' ∧ ((mrg lt fstT ts1 ts2).length = 0 ∨ ∀ b off, ao = some ⟨b, off, none⟩ → W.heap.size ≤ b) ∧ Below W.heap.size W w')
  (hh : ∀ W, Below w.heap.size w W → Calls Tryd.prog 79 #[.agg #[.slice ha1 hl1 hc1, .func (.func 90) #[] #[], .func (.func 91) #[] #[]], .agg #[.slice ha2 hl2 hc2, .func (.func 90) #[] #[], .func (.func 91) #[] #[]]] W fun e w' => ∃ ao c, e = .returned (.agg #[.slice ao (mrg hlt addH hs1 hs2).length c, .func (.func 90) #[] #[], .func (.func 91) #[] #[]]) ∧ Hrs ao (mrg hlt addH hs1 hs2) w' ∧ ((mrg hlt addH hs1 hs2).length = 0 ∨ ∀ b off, ao = some ⟨b, off, none⟩ → W.heap.size ≤ b) ∧ Below W.heap.size W w') :
  Calls Tryd.prog 55 #[.agg #[.string a1, .string m1, .int .i64 mo1, .int .i64 ev1, .int .i64 su1, .int .i64 mx1, .slice ta1 tl1 tc1, .func (.func 88) #[] #[], .func (.func 89) #[] #[], .slice ha1 hl1 hc1, .func (.func 90) #[] #[], .func (.func 91) #[] #[]], .agg #[.string a2, .string m2, .int .i64 mo2, .int .i64 ev2, .int .i64 su2, .int .i64 mx2, .slice ta2 tl2 tc2, .func (.func 88) #[] #[], .func (.func 89) #[] #[], .slice ha2 hl2 hc2, .func (.func 90) #[] #[], .func (.func 91) #[] #[]]] w fun e w' => ∃ ao c ho hc, e = .returned (.agg #[.string a1, .string m1, .int .i64 mo1, .int .i64 (ev1 + ev2), .int .i64 (su1 + su2), .int .i64 (max mx1 mx2), .slice ao (mrg lt fstT ts1 ts2).length c, .func (.func 88) #[] #[], .func (.func 89) #[] #[], .slice ho (mrg hlt addH hs1 hs2).length hc, .func (.func 90) #[] #[], .func (.func 91) #[] #[]]) ∧ Tgs ao (mrg lt fstT ts1 ts2) w' ∧ Hrs ho (mrg hlt addH hs1 hs2) w' ∧ Below w.heap.size w w' := by
 have HS := hid_intro (fun W => splus ev1 su1 mx1 ev2 su2 mx2 W h1 h2 h3 h4)
 have HTT := hid_intro ht
 have HHH := hid_intro hh
 generalize mrg lt fstT ts1 ts2 = MT at *
 generalize mrg hlt addH hs1 hs2 = MH at *
 obtain ⟨EV, hEV⟩ : ∃ x, x = ev1 + ev2 := ⟨_, rfl⟩
 obtain ⟨SU, hSU⟩ : ∃ x, x = su1 + su2 := ⟨_, rfl⟩
 obtain ⟨MX, hMX⟩ : ∃ x, x = max mx1 mx2 := ⟨_, rfl⟩
 rw [← hEV, ← hSU, ← hMX] at HS ⊢
 clear ht hh h1 h2 h3 h4 e1 e2 f1 f2 hEV hSU hMX
 have HT0 : Hid (UJ w a1 m1 mo1 ev1 su1 mx1 ta1 tl1 tc1 ha1 hl1 hc1 a2 m2 mo2 ev2 su2 mx2 ta2 tl2 tc2 ha2 hl2 hc2 ((((w.alloc (.cells #[.string a1, .string m1, .int .i64 mo1, .int .i64 ev1, .int .i64 su1, .int .i64 mx1, .slice ta1 tl1 tc1, .func (.func 88) #[] #[], .func (.func 89) #[] #[], .slice ha1 hl1 hc1, .func (.func 90) #[] #[], .func (.func 91) #[] #[]] 97)).alloc (.cells #[.string a2, .string m2, .int .i64 mo2, .int .i64 ev2, .int .i64 su2, .int .i64 mx2, .slice ta2 tl2 tc2, .func (.func 88) #[] #[], .func (.func 89) #[] #[], .slice ha2 hl2 hc2, .func (.func 90) #[] #[], .func (.func 91) #[] #[]] 97)).alloc (.cells #[.string ⟨#[]⟩, .string ⟨#[]⟩, .int .i64 0, .int .i64 0, .int .i64 0, .int .i64 0, .slice none 0 0, .nilFunc, .nilFunc, .slice none 0 0, .nilFunc, .nilFunc] 97)).drew)) := hid_intro (by
  refine ⟨(((((Below.refl _ _).alloc (Nat.le_refl _) _).alloc (by simp) _).alloc (by simp; try omega) _).drew), by simp, by simp [go_sem], by simp [go_sem], by simp [go_sem], by simp [go_sem], by simp [go_sem], by simp [go_sem], by simp [go_sem], by simp [go_sem], by simp [go_sem], by simp [go_sem], by simp [go_sem], by simp [go_sem], by simp [go_sem], by simp [go_sem], by simp [go_sem], by simp [go_sem], by simp [go_sem], by simp [go_sem], by simp [go_sem], by simp [go_sem], by simp [go_sem], ?_⟩
  have := pt12 ((w.alloc (.cells #[.string a1, .string m1, .int .i64 mo1, .int .i64 ev1, .int .i64 su1, .int .i64 mx1, .slice ta1 tl1 tc1, .func (.func 88) #[] #[], .func (.func 89) #[] #[], .slice ha1 hl1 hc1, .func (.func 90) #[] #[], .func (.func 91) #[] #[]] 97)).alloc (.cells #[.string a2, .string m2, .int .i64 mo2, .int .i64 ev2, .int .i64 su2, .int .i64 mx2, .slice ta2 tl2 tc2, .func (.func 88) #[] #[], .func (.func 89) #[] #[], .slice ha2 hl2 hc2, .func (.func 90) #[] #[], .func (.func 91) #[] #[]] 97)) 97
  simp only [World.size_alloc] at this
  exact ⟨this.lt, this.has, this.free⟩)
 go_enter Tryd.func55, Tryd.ntmps55
 go_wp2_with fail
 refine wp_region_held_drew (S := (fun W => Below w.heap.size w W ∧ w.heap.size + 1 + 1 < W.heap.size ∧ W.cell? ⟨w.heap.size, 0, none⟩ = some (.string a1) ∧ W.cell? ⟨w.heap.size, 1, none⟩ = some (.string m1) ∧ W.cell? ⟨w.heap.size, 2, none⟩ = some (.int .i64 mo1) ∧ W.cell? ⟨w.heap.size, 3, none⟩ = some (.int .i64 ev1) ∧ W.cell? ⟨w.heap.size, 4, none⟩ = some (.int .i64 su1) ∧ W.cell? ⟨w.heap.size, 5, none⟩ = some (.int .i64 mx1) ∧ W.cell? ⟨w.heap.size, 6, none⟩ = some (.slice ta1 tl1 tc1) ∧ W.cell? ⟨w.heap.size, 7, none⟩ = some (.func (.func 88) #[] #[]) ∧ W.cell? ⟨w.heap.size, 8, none⟩ = some (.func (.func 89) #[] #[]) ∧ W.cell? ⟨w.heap.size, 9, none⟩ = some (.slice ha1 hl1 hc1) ∧ W.cell? ⟨w.heap.size, 10, none⟩ = some (.func (.func 90) #[] #[]) ∧ W.cell? ⟨w.heap.size, 11, none⟩ = some (.func (.func 91) #[] #[]) ∧ W.cell? ⟨w.heap.size + 1, 3, none⟩ = some (.int .i64 ev2) ∧ W.cell? ⟨w.heap.size + 1, 4, none⟩ = some (.int .i64 su2) ∧ W.cell? ⟨w.heap.size + 1, 5, none⟩ = some (.int .i64 mx2) ∧ W.cell? ⟨w.heap.size + 1, 6, none⟩ = some (.slice ta2 tl2 tc2) ∧ W.cell? ⟨w.heap.size + 1, 7, none⟩ = some (.func (.func 88) #[] #[]) ∧ W.cell? ⟨w.heap.size + 1, 8, none⟩ = some (.func (.func 89) #[] #[]) ∧ W.cell? ⟨w.heap.size + 1, 9, none⟩ = some (.slice ha2 hl2 hc2) ∧ W.cell? ⟨w.heap.size + 1, 10, none⟩ = some (.func (.func 90) #[] #[]) ∧ W.cell? ⟨w.heap.size + 1, 11, none⟩ = some (.func (.func 91) #[] #[]) ∧ Pt (w.heap.size + 1 + 1) 12 W)) (by kernel_rfl) HT0.out (fun hHeld => ?_)
 refine tk (i := 0) (oi := { dst := some 5, op := Op.fieldAddr 97 (Operand.tmp 2) 0, type := 0, pos := "l07_window.go:192", after := #[], guard := none }) (v := ?_) ?_ ?_
 rotate_left
 ·(intro w hSw; (try dsimp only at hSw); go_simp) <;> with_reducible rfl
 try simp only [Act.put, SL]
 refine tk (i := 1) (oi := { dst := some 6, op := Op.load 85 (Operand.tmp 5), type := 85, pos := "l07_window.go:192", after := #[{ on := 0, ground := Ground.data }], guard := none }) (v := ?_) ?_ ?_
 rotate_left
 ·(intro w hSw; (try dsimp only at hSw); go_simp) <;> with_reducible rfl
 try simp only [Act.put, SL]
 refine tk (i := 2) (oi := { dst := some 7, op := Op.fieldAddr 97 (Operand.tmp 2) 1, type := 0, pos := "l07_window.go:192", after := #[], guard := none }) (v := ?_) ?_ ?_
 rotate_left
 ·(intro w hSw; (try dsimp only at hSw); go_simp) <;> with_reducible rfl
 try simp only [Act.put, SL]
 refine tk (i := 3) (oi := { dst := some 8, op := Op.load 87 (Operand.tmp 7), type := 87, pos := "l07_window.go:192", after := #[{ on := 2, ground := Ground.data }], guard := none }) (v := ?_) ?_ ?_
 rotate_left
 ·(intro w hSw; (try dsimp only at hSw); go_simp) <;> with_reducible rfl
 try simp only [Act.put, SL]
 refine tk (i := 4) (oi := { dst := some 9, op := Op.fieldAddr 97 (Operand.tmp 3) 1, type := 0, pos := "l07_window.go:192", after := #[], guard := none }) (v := ?_) ?_ ?_
 rotate_left
 ·(intro w hSw; (try dsimp only at hSw); go_simp) <;> with_reducible rfl
 try simp only [Act.put, SL]
 refine tk (i := 5) (oi := { dst := some 10, op := Op.load 87 (Operand.tmp 9), type := 87, pos := "l07_window.go:192", after := #[{ on := 4, ground := Ground.data }], guard := none }) (v := ?_) ?_ ?_
 rotate_left
 ·(intro w hSw; (try dsimp only at hSw); go_simp) <;> with_reducible rfl
 try simp only [Act.put, SL]
 refine tk (i := 7) (oi := { dst := some 12, op := Op.fieldAddr 97 (Operand.tmp 2) 2, type := 0, pos := "l07_window.go:192", after := #[], guard := none }) (v := ?_) ?_ ?_
 rotate_left
 ·(intro w hSw; (try dsimp only at hSw); go_simp) <;> with_reducible rfl
 try simp only [Act.put, SL]
 refine tk (i := 8) (oi := { dst := some 13, op := Op.load 91 (Operand.tmp 12), type := 91, pos := "l07_window.go:192", after := #[{ on := 7, ground := Ground.data }], guard := none }) (v := ?_) ?_ ?_
 rotate_left
 ·(intro w hSw; (try dsimp only at hSw); go_simp) <;> with_reducible rfl
 try simp only [Act.put, SL]
 refine tk (i := 9) (oi := { dst := some 14, op := Op.fieldAddr 97 (Operand.tmp 3) 2, type := 0, pos := "l07_window.go:192", after := #[], guard := none }) (v := ?_) ?_ ?_
 rotate_left
 ·(intro w hSw; (try dsimp only at hSw); go_simp) <;> with_reducible rfl
 try simp only [Act.put, SL]
 refine tk (i := 10) (oi := { dst := some 15, op := Op.load 91 (Operand.tmp 14), type := 91, pos := "l07_window.go:192", after := #[{ on := 9, ground := Ground.data }], guard := none }) (v := ?_) ?_ ?_
 rotate_left
 ·(intro w hSw; (try dsimp only at hSw); go_simp) <;> with_reducible rfl
 try simp only [Act.put, SL]
 refine tk (i := 12) (oi := { dst := some 17, op := Op.fieldAddr 97 (Operand.tmp 2) 3, type := 0, pos := "l07_window.go:192", after := #[], guard := none }) (v := ?_) ?_ ?_
 rotate_left
 ·(intro w hSw; (try dsimp only at hSw); go_simp) <;> with_reducible rfl
 try simp only [Act.put, SL]
 refine tk (i := 13) (oi := { dst := some 18, op := Op.load 95 (Operand.tmp 17), type := 95, pos := "l07_window.go:192", after := #[{ on := 12, ground := Ground.data }], guard := none }) (v := ?_) ?_ ?_
 rotate_left
 ·(intro w hSw; (try dsimp only at hSw); go_simp) <;> with_reducible rfl
 try simp only [Act.put, SL]
 refine tk (i := 14) (oi := { dst := some 19, op := Op.fieldAddr 97 (Operand.tmp 3) 3, type := 0, pos := "l07_window.go:192", after := #[], guard := none }) (v := ?_) ?_ ?_
 rotate_left
 ·(intro w hSw; (try dsimp only at hSw); go_simp) <;> with_reducible rfl
 try simp only [Act.put, SL]
 refine tk (i := 15) (oi := { dst := some 20, op := Op.load 95 (Operand.tmp 19), type := 95, pos := "l07_window.go:192", after := #[{ on := 14, ground := Ground.data }], guard := none }) (v := ?_) ?_ ?_
 rotate_left
 ·(intro w hSw; (try dsimp only at hSw); go_simp) <;> with_reducible rfl
 try simp only [Act.put, SL]
 refine wpAnyH_ready (rs := [6]) (by kernel_rfl) (by simp) ?_
 refine AllReadyH.cons (o := { dst := some 11, op := Op.call { callee := Callee.value (Operand.func 77), args := #[Operand.tmp 8, Operand.tmp 10], argTypes := #[87, 87] }, type := 87, pos := "l07_window.go:192", after := #[{ on := 3, ground := Ground.data }, { on := 5, ground := Ground.data }], guard := none }) rfl (fun K hK => ?_) AllReadyH.nil
 go_simp
 go_at_call 77
 refine (HS.out _).mono ?_
 rintro e q1 ⟨rfl, hq1⟩
 try go_wp2_with fail
 have hk1 := @UJ.below w a1 m1 mo1 ev1 su1 mx1 ta1 tl1 tc1 ha1 hl1 hc1 a2 m2 mo2 ev2 su2 mx2 ta2 tl2 tc2 ha2 hl2 hc2 _ _ HT0.out hq1
 refine hK.out _ _ hk1 (fun _ => ?_)
 clear hK K
 try simp only [Act.put, SL]
 refine wpAnyH_ready (rs := [11]) (by kernel_rfl) (by simp) ?_
 refine AllReadyH.cons (o := { dst := some 16, op := Op.call { callee := Callee.value (Operand.func 78), args := #[Operand.tmp 13, Operand.tmp 15], argTypes := #[91, 91] }, type := 91, pos := "l07_window.go:192", after := #[{ on := 8, ground := Ground.data }, { on := 10, ground := Ground.data }, { on := 6, ground := Ground.chain }], guard := none }) rfl (fun K hK => ?_) AllReadyH.nil
 go_simp
 go_at_call 78
 refine (HTT.out _ hk1.1).mono ?_
 rintro e q2 ⟨ao, c, rfl, hT, hTn, hq2⟩
 try go_wp2_with fail
 have hk2 := @UJ.below w a1 m1 mo1 ev1 su1 mx1 ta1 tl1 tc1 ha1 hl1 hc1 a2 m2 mo2 ev2 su2 mx2 ta2 tl2 tc2 ha2 hl2 hc2 _ _ hk1 hq2
 refine hK.out _ _ hk2 (fun _ => ?_)
 clear hK K
 try simp only [Act.put, SL]
 refine wpAnyH_ready (rs := [16]) (by kernel_rfl) (by simp) ?_
 refine AllReadyH.cons (o := { dst := some 21, op := Op.call { callee := Callee.value (Operand.func 79), args := #[Operand.tmp 18, Operand.tmp 20], argTypes := #[95, 95] }, type := 95, pos := "l07_window.go:192", after := #[{ on := 13, ground := Ground.data }, { on := 15, ground := Ground.data }, { on := 11, ground := Ground.chain }], guard := none }) rfl (fun K hK => ?_) AllReadyH.nil
 go_simp
 go_at_call 79
 refine (HHH.out _ hk2.1).mono ?_
 rintro e q3 ⟨ho, hc, rfl, hH, hHn, hq3⟩
 try go_wp2_with fail
 have hk3 := @UJ.below w a1 m1 mo1 ev1 su1 mx1 ta1 tl1 tc1 ha1 hl1 hc1 a2 m2 mo2 ev2 su2 mx2 ta2 tl2 tc2 ha2 hl2 hc2 _ _ hk2 hq3
 refine hK.out _ _ hk3 (fun _ => ?_)
 clear hK K
 try simp only [Act.put, SL]
 refine tk (i := 17) (oi := { dst := some 22, op := Op.build 97 #[(0, Operand.tmp 6), (1, Operand.tmp 11), (2, Operand.tmp 16), (3, Operand.tmp 21)], type := 97, pos := "l07_window.go:192", after := #[{ on := 1, ground := Ground.data }, { on := 6, ground := Ground.data }, { on := 11, ground := Ground.data }, { on := 16, ground := Ground.data }], guard := none }) (v := ?_) ?_ ?_
 rotate_left
 ·(intro w hSw; (try dsimp only at hSw); go_simp) <;> with_reducible rfl
 try simp only [Act.put, SL]
 have hp := @UJ.out w a1 m1 mo1 ev1 su1 mx1 ta1 tl1 tc1 ha1 hl1 hc1 a2 m2 mo2 ev2 su2 mx2 ta2 tl2 tc2 ha2 hl2 hc2 _ hk3
 have hlt := hk3.2.1
 obtain ⟨v0, r0⟩ := hp.has 0 (by omega)
 have z0 := hp.free 0 (by omega)
 obtain ⟨v1, r1⟩ := hp.has 1 (by omega)
 have z1 := hp.free 1 (by omega)
 obtain ⟨v2, r2⟩ := hp.has 2 (by omega)
 have z2 := hp.free 2 (by omega)
 obtain ⟨v3, r3⟩ := hp.has 3 (by omega)
 have z3 := hp.free 3 (by omega)
 obtain ⟨v4, r4⟩ := hp.has 4 (by omega)
 have z4 := hp.free 4 (by omega)
 obtain ⟨v5, r5⟩ := hp.has 5 (by omega)
 have z5 := hp.free 5 (by omega)
 obtain ⟨v6, r6⟩ := hp.has 6 (by omega)
 have z6 := hp.free 6 (by omega)
 obtain ⟨v7, r7⟩ := hp.has 7 (by omega)
 have z7 := hp.free 7 (by omega)
 obtain ⟨v8, r8⟩ := hp.has 8 (by omega)
 have z8 := hp.free 8 (by omega)
 obtain ⟨v9, r9⟩ := hp.has 9 (by omega)
 have z9 := hp.free 9 (by omega)
 obtain ⟨v10, r10⟩ := hp.has 10 (by omega)
 have z10 := hp.free 10 (by omega)
 obtain ⟨v11, r11⟩ := hp.has 11 (by omega)
 have z11 := hp.free 11 (by omega)
 refine wpAnyH_ready (rs := [18]) (by kernel_rfl) (by simp) ?_
 refine AllReadyH.cons (o := { dst := none, op := Op.store 97 (Operand.tmp 4) (Operand.tmp 22), type := 0, pos := "l07_window.go:192", after := #[{ on := 17, ground := Ground.data }, { on := 16, ground := Ground.chain }, { on := 0, ground := Ground.phase }, { on := 1, ground := Ground.phase }, { on := 2, ground := Ground.phase }, { on := 3, ground := Ground.phase }, { on := 4, ground := Ground.phase }, { on := 5, ground := Ground.phase }, { on := 6, ground := Ground.phase }, { on := 7, ground := Ground.phase }, { on := 8, ground := Ground.phase }, { on := 9, ground := Ground.phase }, { on := 10, ground := Ground.phase }, { on := 11, ground := Ground.phase }, { on := 12, ground := Ground.phase }, { on := 13, ground := Ground.phase }, { on := 14, ground := Ground.phase }, { on := 15, ground := Ground.phase }, { on := 16, ground := Ground.phase }, { on := 17, ground := Ground.phase }], guard := none }) rfl (fun K hK => ?_) AllReadyH.nil
 go_simp
 try go_wp2_with fail
 have hk4 := (@UJ.put w a1 m1 mo1 ev1 su1 mx1 ta1 tl1 tc1 ha1 hl1 hc1 a2 m2 mo2 ev2 su2 mx2 ta2 tl2 tc2 ha2 hl2 hc2 _ (@UJ.put w a1 m1 mo1 ev1 su1 mx1 ta1 tl1 tc1 ha1 hl1 hc1 a2 m2 mo2 ev2 su2 mx2 ta2 tl2 tc2 ha2 hl2 hc2 _ (@UJ.put w a1 m1 mo1 ev1 su1 mx1 ta1 tl1 tc1 ha1 hl1 hc1 a2 m2 mo2 ev2 su2 mx2 ta2 tl2 tc2 ha2 hl2 hc2 _ (@UJ.put w a1 m1 mo1 ev1 su1 mx1 ta1 tl1 tc1 ha1 hl1 hc1 a2 m2 mo2 ev2 su2 mx2 ta2 tl2 tc2 ha2 hl2 hc2 _ (@UJ.put w a1 m1 mo1 ev1 su1 mx1 ta1 tl1 tc1 ha1 hl1 hc1 a2 m2 mo2 ev2 su2 mx2 ta2 tl2 tc2 ha2 hl2 hc2 _ (@UJ.put w a1 m1 mo1 ev1 su1 mx1 ta1 tl1 tc1 ha1 hl1 hc1 a2 m2 mo2 ev2 su2 mx2 ta2 tl2 tc2 ha2 hl2 hc2 _ (@UJ.put w a1 m1 mo1 ev1 su1 mx1 ta1 tl1 tc1 ha1 hl1 hc1 a2 m2 mo2 ev2 su2 mx2 ta2 tl2 tc2 ha2 hl2 hc2 _ (@UJ.put w a1 m1 mo1 ev1 su1 mx1 ta1 tl1 tc1 ha1 hl1 hc1 a2 m2 mo2 ev2 su2 mx2 ta2 tl2 tc2 ha2 hl2 hc2 _ (@UJ.put w a1 m1 mo1 ev1 su1 mx1 ta1 tl1 tc1 ha1 hl1 hc1 a2 m2 mo2 ev2 su2 mx2 ta2 tl2 tc2 ha2 hl2 hc2 _ (@UJ.put w a1 m1 mo1 ev1 su1 mx1 ta1 tl1 tc1 ha1 hl1 hc1 a2 m2 mo2 ev2 su2 mx2 ta2 tl2 tc2 ha2 hl2 hc2 _ (@UJ.put w a1 m1 mo1 ev1 su1 mx1 ta1 tl1 tc1 ha1 hl1 hc1 a2 m2 mo2 ev2 su2 mx2 ta2 tl2 tc2 ha2 hl2 hc2 _ (@UJ.put w a1 m1 mo1 ev1 su1 mx1 ta1 tl1 tc1 ha1 hl1 hc1 a2 m2 mo2 ev2 su2 mx2 ta2 tl2 tc2 ha2 hl2 hc2 _ hk3 0 (.string a1)) 1 (.string m1)) 2 (.int .i64 mo1)) 3 (.int .i64 EV)) 4 (.int .i64 SU)) 5 (.int .i64 MX)) 6 (.slice ao MT.length c)) 7 (.func (.func 88) #[] #[])) 8 (.func (.func 89) #[] #[])) 9 (.slice ho MH.length hc)) 10 (.func (.func 90) #[] #[])) 11 (.func (.func 91) #[] #[]))
 have hgw : q3.grownBy ((((((((((((q3.setCell ⟨w.heap.size + 1 + 1, 0, none⟩ (.string a1)).setCell ⟨w.heap.size + 1 + 1, 1, none⟩ (.string m1)).setCell ⟨w.heap.size + 1 + 1, 2, none⟩ (.int .i64 mo1)).setCell ⟨w.heap.size + 1 + 1, 3, none⟩ (.int .i64 EV)).setCell ⟨w.heap.size + 1 + 1, 4, none⟩ (.int .i64 SU)).setCell ⟨w.heap.size + 1 + 1, 5, none⟩ (.int .i64 MX)).setCell ⟨w.heap.size + 1 + 1, 6, none⟩ (.slice ao MT.length c)).setCell ⟨w.heap.size + 1 + 1, 7, none⟩ (.func (.func 88) #[] #[])).setCell ⟨w.heap.size + 1 + 1, 8, none⟩ (.func (.func 89) #[] #[])).setCell ⟨w.heap.size + 1 + 1, 9, none⟩ (.slice ho MH.length hc)).setCell ⟨w.heap.size + 1 + 1, 10, none⟩ (.func (.func 90) #[] #[])).setCell ⟨w.heap.size + 1 + 1, 11, none⟩ (.func (.func 91) #[] #[])) (some (w.heap.size + 1 + 1)) := (gtr (gtr (gtr (gtr (gtr (gtr (gtr (gtr (gtr (gtr (gtr (RowG.grown_set _ _ _ _) (RowG.grown_set _ _ _ _)) (RowG.grown_set _ _ _ _)) (RowG.grown_set _ _ _ _)) (RowG.grown_set _ _ _ _)) (RowG.grown_set _ _ _ _)) (RowG.grown_set _ _ _ _)) (RowG.grown_set _ _ _ _)) (RowG.grown_set _ _ _ _)) (RowG.grown_set _ _ _ _)) (RowG.grown_set _ _ _ _)) (RowG.grown_set _ _ _ _))
 have hTF := hid_intro (Rws.keep (Rws.below hT hq3) hgw (hTn.imp id (fun h b off e => by have := h b off e; have := hk1.2.1; omega)))
 have hHF := hid_intro (Rws.keep hH hgw (hHn.imp id (fun h b off e => by have := h b off e; have := hk2.2.1; omega)))
 clear hgw hT hH
 refine hK.out _ _ hk4 (fun _ => ?_)
 clear hK K
 try simp only [Act.put, SL]
 refine wpAnyH_done (by kernel_rfl) ?_ _
 have HB := hid_intro hk4.1
 clear hk4 hk3 hk2 hk1 hTn hHn hp hq1 hq2 hq3
 go_wp2_with fail
 refine bodyPost_ret (v := .agg #[.string a1, .string m1, .int .i64 mo1, .int .i64 EV, .int .i64 SU, .int .i64 MX, .slice ao MT.length c, .func (.func 88) #[] #[], .func (.func 89) #[] #[], .slice ho MH.length hc, .func (.func 90) #[] #[], .func (.func 91) #[] #[]]) (by simp [results, Tryd.results55, go_sem, r0, r1, r2, r3, r4, r5, r6, r7, r8, r9, r10, r11]) rfl ⟨ao, c, ho, hc, rfl, hTF.out, hHF.out, HB.out⟩
end WinR
end Go.Proofs.YtnlmpejgiakepaaDoor
namespace Go.Proofs.YtnlmpejgiakepaaDoor
open Go.ChangeShapes Go.WideShapes Go.ChangeAt Go.RowKit
set_option linter.unusedVariables false
namespace StR
open EvtR (Pt cell_put cell_far)
open CatR (Blk)
/-- The cells from a place on are written. -/
def stL (W : World) (p : Nat) : Nat → List Value → World
 | _, [] => W
 | o, v :: vs => stL (W.setCell ⟨p, o, none⟩ v) p (o + 1) vs
theorem gtr {w w1 w2 : World} {g : Option Nat} (h1 : w.grownBy w1 g) (h2 : w1.grownBy w2 g) : w.grownBy w2 g :=
 ⟨h2.os.trans h1.os, h2.tape.trans h1.tape, h2.output.trans h1.output, Nat.le_trans h1.size h2.size, fun k hk hne => (h2.block k (by have := h1.size; omega) hne).trans (h1.block k hk hne)⟩
theorem stL_grown (p : Nat) : ∀ (vs : List Value) (o : Nat) (W : World), W.grownBy (stL W p o vs) (some p)
 | [], _, W => ⟨rfl, rfl, rfl, Nat.le_refl _, fun _ _ _ => rfl⟩
 | v :: vs, o, W => gtr (RowG.grown_set W p o v) (stL_grown p vs (o + 1) _)
theorem stL_pt {p n : Nat} : ∀ (vs : List Value) (o : Nat) (W : World), Pt p n W → Pt p n (stL W p o vs)
 | [], _, _, h => h
 | v :: vs, o, W, h => stL_pt vs (o + 1) _ (h.set o v)
theorem stL_old {p : Nat} : ∀ (vs : List Value) (o : Nat) (W : World) (j : Nat), j < o → (stL W p o vs).cell? ⟨p, j, none⟩ = W.cell? ⟨p, j, none⟩
 | [], _, _, _, _ => rfl
 | v :: vs, o, W, j, hj => (stL_old vs (o + 1) _ j (by omega)).trans (cell_far o j (by omega) v)
theorem stL_cells {p n : Nat} : ∀ (vs : List Value) (o : Nat) (W : World), Pt p n W → o + vs.length ≤ n → ∀ i, i < vs.length → (stL W p o vs).cell? ⟨p, o + i, none⟩ = vs[i]?
 | [], _, _, _, _, i, hi => absurd hi (by simp)
 | v :: vs, o, W, hp, hn, i, hi => by
  simp only [List.length_cons] at hn hi
  cases i with
  | zero =>
   rw [Nat.add_zero]
   exact (stL_old vs (o + 1) _ o (by omega)).trans ((cell_put hp o (by omega) v).trans rfl)
  | succ i =>
   have := stL_cells vs (o + 1) (W.setCell ⟨p, o, none⟩ v) (hp.set o v) (by omega) i (by omega)
   rw [show o + 1 + i = o + (i + 1) by omega] at this
   exact this.trans rfl
theorem stL_blk {p n : Nat} {vs : List Value} {W : World} (hp : Pt p n W) (hn : vs.length ≤ n) : Blk p vs (stL W p 0 vs) :=
 ⟨(stL_pt vs 0 W hp).lt, fun i hi => by have := stL_cells vs 0 W hp (by omega) i hi; rw [Nat.zero_add] at this; exact this⟩
theorem pt_far {p q n : Nat} {W W' : World} (h : Pt p n W) (hg : W.grownBy W' (some q)) (hne : p ≠ q) : Pt p n W' := by
 have e := hg.block p h.lt (by simpa using hne)
 exact ⟨by have := hg.size; have := h.lt; omega, fun o ho => by obtain ⟨v, hv⟩ := h.has o ho; exact ⟨v, (World.cell?_of_block (a := ⟨p, o, none⟩) e).trans hv⟩, fun o ho => (World.frozen?_of_block (a := ⟨p, o, none⟩) e).trans (h.free o ho)⟩
theorem blk_far {p q : Nat} {cs : List Value} {W W' : World} (h : Blk p cs W) (hg : W.grownBy W' (some q)) (hne : p ≠ q) : Blk p cs W' := by
 have e := hg.block p h.1 (by simpa using hne)
 exact ⟨by have := hg.size; have := h.1; omega, fun i hi => (World.cell?_of_block (a := ⟨p, i, none⟩) e).trans (h.2 i hi)⟩
/-- A new block of cells may be written. -/
theorem pt_new (w : World) (cs : List Value) (T : TypeId) : Pt w.heap.size cs.length (w.alloc (.cells cs.toArray T)) :=
 ⟨by simp, fun o ho => ⟨cs[o], by simp [go_sem, ho]⟩, fun o ho => by simp [go_sem]⟩
end StR
end Go.Proofs.YtnlmpejgiakepaaDoor
namespace Go.Proofs.YtnlmpejgiakepaaDoor
open Go.ChangeShapes Go.WideShapes Go.ChangeAt Go.RowKit
set_option linter.unusedVariables false
namespace MemoR
theorem memo0 {goal : Prop} (F : World → Prop) {G : World → Prop} (h1 : Hid (∀ W, F W → G W) → goal) (h2 : ∀ W, F W → G W) : goal := h1 h2
theorem memo1 {goal : Prop} (F : Nat → World → Prop) {G : Nat → World → Prop} (h1 : Hid (∀ x0 W, F x0 W → G x0 W) → goal) (h2 : ∀ x0 W, F x0 W → G x0 W) : goal := h1 h2
theorem memo2 {goal : Prop} (F : Nat → Nat → World → Prop) {G : Nat → Nat → World → Prop} (h1 : Hid (∀ x0 x1 W, F x0 x1 W → G x0 x1 W) → goal) (h2 : ∀ x0 x1 W, F x0 x1 W → G x0 x1 W) : goal := h1 h2
theorem memo3 {goal : Prop} (F : Nat → Nat → Nat → World → Prop) {G : Nat → Nat → Nat → World → Prop} (h1 : Hid (∀ x0 x1 x2 W, F x0 x1 x2 W → G x0 x1 x2 W) → goal) (h2 : ∀ x0 x1 x2 W, F x0 x1 x2 W → G x0 x1 x2 W) : goal := h1 h2
theorem memo4 {goal : Prop} (F : Nat → Nat → Nat → Nat → World → Prop) {G : Nat → Nat → Nat → Nat → World → Prop} (h1 : Hid (∀ x0 x1 x2 x3 W, F x0 x1 x2 x3 W → G x0 x1 x2 x3 W) → goal) (h2 : ∀ x0 x1 x2 x3 W, F x0 x1 x2 x3 W → G x0 x1 x2 x3 W) : goal := h1 h2
theorem memo5 {goal : Prop} (F : Nat → Nat → Nat → Nat → Nat → World → Prop) {G : Nat → Nat → Nat → Nat → Nat → World → Prop} (h1 : Hid (∀ x0 x1 x2 x3 x4 W, F x0 x1 x2 x3 x4 W → G x0 x1 x2 x3 x4 W) → goal) (h2 : ∀ x0 x1 x2 x3 x4 W, F x0 x1 x2 x3 x4 W → G x0 x1 x2 x3 x4 W) : goal := h1 h2
theorem memo6 {goal : Prop} (F : Nat → Nat → Nat → Nat → Nat → Nat → World → Prop) {G : Nat → Nat → Nat → Nat → Nat → Nat → World → Prop} (h1 : Hid (∀ x0 x1 x2 x3 x4 x5 W, F x0 x1 x2 x3 x4 x5 W → G x0 x1 x2 x3 x4 x5 W) → goal) (h2 : ∀ x0 x1 x2 x3 x4 x5 W, F x0 x1 x2 x3 x4 x5 W → G x0 x1 x2 x3 x4 x5 W) : goal := h1 h2
theorem memo7 {goal : Prop} (F : Nat → Nat → Nat → Nat → Nat → Nat → Nat → World → Prop) {G : Nat → Nat → Nat → Nat → Nat → Nat → Nat → World → Prop} (h1 : Hid (∀ x0 x1 x2 x3 x4 x5 x6 W, F x0 x1 x2 x3 x4 x5 x6 W → G x0 x1 x2 x3 x4 x5 x6 W) → goal) (h2 : ∀ x0 x1 x2 x3 x4 x5 x6 W, F x0 x1 x2 x3 x4 x5 x6 W → G x0 x1 x2 x3 x4 x5 x6 W) : goal := h1 h2
theorem memo8 {goal : Prop} (F : Nat → Nat → Nat → Nat → Nat → Nat → Nat → Nat → World → Prop) {G : Nat → Nat → Nat → Nat → Nat → Nat → Nat → Nat → World → Prop} (h1 : Hid (∀ x0 x1 x2 x3 x4 x5 x6 x7 W, F x0 x1 x2 x3 x4 x5 x6 x7 W → G x0 x1 x2 x3 x4 x5 x6 x7 W) → goal) (h2 : ∀ x0 x1 x2 x3 x4 x5 x6 x7 W, F x0 x1 x2 x3 x4 x5 x6 x7 W → G x0 x1 x2 x3 x4 x5 x6 x7 W) : goal := h1 h2
theorem memo9 {goal : Prop} (F : Nat → Nat → Nat → Nat → Nat → Nat → Nat → Nat → Nat → World → Prop) {G : Nat → Nat → Nat → Nat → Nat → Nat → Nat → Nat → Nat → World → Prop} (h1 : Hid (∀ x0 x1 x2 x3 x4 x5 x6 x7 x8 W, F x0 x1 x2 x3 x4 x5 x6 x7 x8 W → G x0 x1 x2 x3 x4 x5 x6 x7 x8 W) → goal) (h2 : ∀ x0 x1 x2 x3 x4 x5 x6 x7 x8 W, F x0 x1 x2 x3 x4 x5 x6 x7 x8 W → G x0 x1 x2 x3 x4 x5 x6 x7 x8 W) : goal := h1 h2
end MemoR
end Go.Proofs.YtnlmpejgiakepaaDoor
namespace Go.Proofs.YtnlmpejgiakepaaDoor
open Go.ChangeShapes Go.WideShapes Go.ChangeAt Go.RowKit
set_option linter.unusedVariables false
namespace WinR
open RowG (MadeG Rws)
open EvtR (Pt)
open LtR (lt)
open DateR (Laid)
open CatR (Blk Blk.new)
open MemoR
/-- Both windows' blocks and the one that is handed back. -/
def JX (W0 : World) (bA bB bR : Nat) (a1 m1 : ByteArray) (mo1 ev1 su1 mx1 : Int) (ta1 : Option Addr) (tl1 tc1 : Nat) (ha1 : Option Addr) (hl1 hc1 : Nat) (a2 m2 : ByteArray) (mo2 ev2 su2 mx2 : Int) (ta2 : Option Addr) (tl2 tc2 : Nat) (ha2 : Option Addr) (hl2 hc2 : Nat) (W : World) : Prop := Below W0.heap.size W0 W ∧ bA < W.heap.size ∧ bB < W.heap.size ∧ W.cell? ⟨bA, 0, none⟩ = some (.string a1) ∧ W.cell? ⟨bA, 1, none⟩ = some (.string m1) ∧ W.cell? ⟨bA, 2, none⟩ = some (.int .i64 mo1) ∧ W.cell? ⟨bA, 3, none⟩ = some (.int .i64 ev1) ∧ W.cell? ⟨bA, 4, none⟩ = some (.int .i64 su1) ∧ W.cell? ⟨bA, 5, none⟩ = some (.int .i64 mx1) ∧ W.cell? ⟨bA, 6, none⟩ = some (.slice ta1 tl1 tc1) ∧ W.cell? ⟨bA, 7, none⟩ = some (.slice ha1 hl1 hc1) ∧ W.cell? ⟨bB, 0, none⟩ = some (.string a2) ∧ W.cell? ⟨bB, 1, none⟩ = some (.string m2) ∧ W.cell? ⟨bB, 2, none⟩ = some (.int .i64 mo2) ∧ W.cell? ⟨bB, 3, none⟩ = some (.int .i64 ev2) ∧ W.cell? ⟨bB, 4, none⟩ = some (.int .i64 su2) ∧ W.cell? ⟨bB, 5, none⟩ = some (.int .i64 mx2) ∧ W.cell? ⟨bB, 6, none⟩ = some (.slice ta2 tl2 tc2) ∧ W.cell? ⟨bB, 7, none⟩ = some (.slice ha2 hl2 hc2) ∧ Pt (bR) 9 W
theorem JX.below {W0 : World} {bA bB bR : Nat} {a1 m1 : ByteArray} {mo1 ev1 su1 mx1 : Int} {ta1 : Option Addr} {tl1 tc1 : Nat} {ha1 : Option Addr} {hl1 hc1 : Nat} {a2 m2 : ByteArray} {mo2 ev2 su2 mx2 : Int} {ta2 : Option Addr} {tl2 tc2 : Nat} {ha2 : Option Addr} {hl2 hc2 : Nat} {W W' : World} (h : JX W0 bA bB bR a1 m1 mo1 ev1 su1 mx1 ta1 tl1 tc1 ha1 hl1 hc1 a2 m2 mo2 ev2 su2 mx2 ta2 tl2 tc2 ha2 hl2 hc2 W) (hb : Below W.heap.size W W') : JX W0 bA bB bR a1 m1 mo1 ev1 su1 mx1 ta1 tl1 tc1 ha1 hl1 hc1 a2 m2 mo2 ev2 su2 mx2 ta2 tl2 tc2 ha2 hl2 hc2 W' := by
 obtain ⟨h0, h1, h2, c0, c1, c2, c3, c4, c5, c6, c7, d0, d1, d2, d3, d4, d5, d6, d7, hp⟩ := h
 have c := fun o => hb.cell (p := ⟨bA, o, none⟩) h1
 have d := fun o => hb.cell (p := ⟨bB, o, none⟩) h2
 have := hb.size
 exact ⟨h0.trans (hb.mono h0.size), by omega, by omega, (c 0).trans c0, (c 1).trans c1, (c 2).trans c2, (c 3).trans c3, (c 4).trans c4, (c 5).trans c5, (c 6).trans c6, (c 7).trans c7, (d 0).trans d0, (d 1).trans d1, (d 2).trans d2, (d 3).trans d3, (d 4).trans d4, (d 5).trans d5, (d 6).trans d6, (d 7).trans d7, hp.below hb⟩
theorem JX.grown {W0 : World} {bA bB bR : Nat} {a1 m1 : ByteArray} {mo1 ev1 su1 mx1 : Int} {ta1 : Option Addr} {tl1 tc1 : Nat} {ha1 : Option Addr} {hl1 hc1 : Nat} {a2 m2 : ByteArray} {mo2 ev2 su2 mx2 : Int} {ta2 : Option Addr} {tl2 tc2 : Nat} {ha2 : Option Addr} {hl2 hc2 : Nat} {W W' : World} {g : Nat} (h : JX W0 bA bB bR a1 m1 mo1 ev1 su1 mx1 ta1 tl1 tc1 ha1 hl1 hc1 a2 m2 mo2 ev2 su2 mx2 ta2 tl2 tc2 ha2 hl2 hc2 W) (hq : W0.heap.size ≤ g) (hA : bA < W0.heap.size) (hB : bB < W0.heap.size) (hR : bR < W0.heap.size) (hg : W.grownBy W' (some g)) : JX W0 bA bB bR a1 m1 mo1 ev1 su1 mx1 ta1 tl1 tc1 ha1 hl1 hc1 a2 m2 mo2 ev2 su2 mx2 ta2 tl2 tc2 ha2 hl2 hc2 W' := by
 obtain ⟨h0, h1, h2, c0, c1, c2, c3, c4, c5, c6, c7, d0, d1, d2, d3, d4, d5, d6, d7, hp⟩ := h
 have c := fun o => World.cell?_of_block (a := ⟨bA, o, none⟩) (hg.block bA h1 (by simp; omega))
 have d := fun o => World.cell?_of_block (a := ⟨bB, o, none⟩) (hg.block bB h2 (by simp; omega))
 have hs := hg.size
 exact ⟨h0.grown hg h0.size (fun k e => by cases e; exact hq), by omega, by omega, (c 0).trans c0, (c 1).trans c1, (c 2).trans c2, (c 3).trans c3, (c 4).trans c4, (c 5).trans c5, (c 6).trans c6, (c 7).trans c7, (d 0).trans d0, (d 1).trans d1, (d 2).trans d2, (d 3).trans d3, (d 4).trans d4, (d 5).trans d5, (d 6).trans d6, (d 7).trans d7, StR.pt_far hp hg (by omega)⟩
theorem JX.drew {W0 : World} {bA bB bR : Nat} {a1 m1 : ByteArray} {mo1 ev1 su1 mx1 : Int} {ta1 : Option Addr} {tl1 tc1 : Nat} {ha1 : Option Addr} {hl1 hc1 : Nat} {a2 m2 : ByteArray} {mo2 ev2 su2 mx2 : Int} {ta2 : Option Addr} {tl2 tc2 : Nat} {ha2 : Option Addr} {hl2 hc2 : Nat} {W : World} (h : JX W0 bA bB bR a1 m1 mo1 ev1 su1 mx1 ta1 tl1 tc1 ha1 hl1 hc1 a2 m2 mo2 ev2 su2 mx2 ta2 tl2 tc2 ha2 hl2 hc2 W) : JX W0 bA bB bR a1 m1 mo1 ev1 su1 mx1 ta1 tl1 tc1 ha1 hl1 hc1 a2 m2 mo2 ev2 su2 mx2 ta2 tl2 tc2 ha2 hl2 hc2 W.drew := by
 obtain ⟨h0, h1, h2, c0, c1, c2, c3, c4, c5, c6, c7, d0, d1, d2, d3, d4, d5, d6, d7, hp⟩ := h
 exact ⟨h0.drew, h1, h2, c0, c1, c2, c3, c4, c5, c6, c7, d0, d1, d2, d3, d4, d5, d6, d7, ⟨hp.lt, hp.has, hp.free⟩⟩
theorem JX.pt {W0 : World} {bA bB bR : Nat} {a1 m1 : ByteArray} {mo1 ev1 su1 mx1 : Int} {ta1 : Option Addr} {tl1 tc1 : Nat} {ha1 : Option Addr} {hl1 hc1 : Nat} {a2 m2 : ByteArray} {mo2 ev2 su2 mx2 : Int} {ta2 : Option Addr} {tl2 tc2 : Nat} {ha2 : Option Addr} {hl2 hc2 : Nat} {W : World} (h : JX W0 bA bB bR a1 m1 mo1 ev1 su1 mx1 ta1 tl1 tc1 ha1 hl1 hc1 a2 m2 mo2 ev2 su2 mx2 ta2 tl2 tc2 ha2 hl2 hc2 W) : Pt bR 9 W := by
 obtain ⟨h0, h1, h2, c0, c1, c2, c3, c4, c5, c6, c7, d0, d1, d2, d3, d4, d5, d6, d7, hp⟩ := h
 exact hp
theorem made_far {α : Type} {k : Nat} {cells : α → List Value} {z : α} {base : Nat} {ao : Option Addr} {xs : List α} {W W' : World} {g : Nat} (h : MadeG k cells z base ao xs W) (hg : W.grownBy W' (some g)) (hlt : g < base) : MadeG k cells z base ao xs W' := by
 refine ⟨Rws.grown h.rws hg (h.own.imp id (fun ⟨q, e1, e2, _⟩ b off e hb => ?_)), h.own.imp id (fun ⟨q, e1, e2, e3⟩ => ⟨q, e1, e2, StR.pt_far e3 hg (by omega)⟩)⟩
 rw [e1] at e
 simp only [Option.some.injEq, Addr.mk.injEq] at e hb
 omega
theorem MadeW.far {base : Nat} {x : Wd} {v : Value} {W W' : World} {g : Nat} (h : MadeW base x v W) (hg : W.grownBy W' (some g)) (hlt : g < base) : MadeW base x v W' := by
 obtain ⟨ta, tc, ha, hc, e, h1, h2, h3⟩ := h
 exact ⟨ta, tc, ha, hc, e, made_far h1 hg hlt, made_far h2 hg hlt, h3⟩
/-- What is handed back: a window and a code. -/
def outW (v : Value) (c : Int) : Value := match v with
 | .agg cs => .agg (cs.push (.int .i64 c))
 | _ => v
/-- What comes of joining: a fault, or a window. -/
def JPost (r1 r2 r3 : Bool) (same : Prop) (z : Wd) (base : Nat) (e : Ending) (w' : World) : Prop :=
 ((r1 && r2) = false ∧ e = .returned (.agg #[.string ⟨#[]⟩, .string ⟨#[]⟩, .int .i64 0, .int .i64 0, .int .i64 0, .int .i64 0, .slice none 0 0, .slice none 0 0, .int .i64 1])) ∨ ((r1 && r2) = true ∧ ¬ same ∧ e = .returned (.agg #[.string ⟨#[]⟩, .string ⟨#[]⟩, .int .i64 0, .int .i64 0, .int .i64 0, .int .i64 0, .slice none 0 0, .slice none 0 0, .int .i64 10])) ∨
 ((r1 && r2) = true ∧ same ∧ r3 = false ∧ e = .returned (.agg #[.string ⟨#[]⟩, .string ⟨#[]⟩, .int .i64 0, .int .i64 0, .int .i64 0, .int .i64 0, .slice none 0 0, .slice none 0 0, .int .i64 9])) ∨ ((r1 && r2) = true ∧ same ∧ r3 = true ∧ ∃ v, e = .returned (outW v 0) ∧ MadeW base z v w')
set_option maxRecDepth 100000 in
set_option maxHeartbeats 16000000 in
theorem join_in (a1 m1 : ByteArray) (mo1 ev1 su1 mx1 : Int) (ta1 : Option Addr) (tl1 tc1 : Nat) (ha1 : Option Addr) (hl1 hc1 : Nat) (a2 m2 : ByteArray) (mo2 ev2 su2 mx2 : Int) (ta2 : Option Addr) (tl2 tc2 : Nat) (ha2 : Option Addr) (hl2 hc2 : Nat) (MT : List ByteArray) (MH : List H) (EV SU MX : Int) (r1 r2 r3 : Bool) (z : Wd) (w : World) (hL : Laid w)
  (hr1 : ∀ W, Below w.heap.size w W → Calls Tryd.prog 54 #[.agg #[.string a1, .string m1, .int .i64 mo1, .int .i64 ev1, .int .i64 su1, .int .i64 mx1, .slice ta1 tl1 tc1, .func (.func 88) #[] #[], .func (.func 89) #[] #[], .slice ha1 hl1 hc1, .func (.func 90) #[] #[], .func (.func 91) #[] #[]]] W fun e w' => e = .returned (.bool r1) ∧ Below W.heap.size W w')
  (hr2 : ∀ W, Below w.heap.size w W → Calls Tryd.prog 54 #[.agg #[.string a2, .string m2, .int .i64 mo2, .int .i64 ev2, .int .i64 su2, .int .i64 mx2, .slice ta2 tl2 tc2, .func (.func 88) #[] #[], .func (.func 89) #[] #[], .slice ha2 hl2 hc2, .func (.func 90) #[] #[], .func (.func 91) #[] #[]]] W fun e w' => e = .returned (.bool r2) ∧ Below W.heap.size W w')
  (hw : r1 = true → r2 = true → ∀ W, Below w.heap.size w W → Calls Tryd.prog 55 #[.agg #[.string a1, .string m1, .int .i64 mo1, .int .i64 ev1, .int .i64 su1, .int .i64 mx1, .slice ta1 tl1 tc1, .func (.func 88) #[] #[], .func (.func 89) #[] #[], .slice ha1 hl1 hc1, .func (.func 90) #[] #[], .func (.func 91) #[] #[]], .agg #[.string a2, .string m2, .int .i64 mo2, .int .i64 ev2, .int .i64 su2, .int .i64 mx2, .slice ta2 tl2 tc2, .func (.func 88) #[] #[], .func (.func 89) #[] #[], .slice ha2 hl2 hc2, .func (.func 90) #[] #[], .func (.func 91) #[] #[]]] W fun e w' => ∃ ao cc ho hcc, e = .returned (.agg #[.string a1, .string m1, .int .i64 mo1, .int .i64 EV, .int .i64 SU, .int .i64 MX, .slice ao MT.length cc, .func (.func 88) #[] #[], .func (.func 89) #[] #[], .slice ho MH.length hcc, .func (.func 90) #[] #[], .func (.func 91) #[] #[]]) ∧ Tgs ao MT w' ∧ Hrs ho MH w' ∧ Below W.heap.size W w')
  (hr3 : ∀ ao cc ho hcc W, Laid W → Tgs ao MT W → Hrs ho MH W → Calls Tryd.prog 54 #[.agg #[.string a1, .string m1, .int .i64 mo1, .int .i64 EV, .int .i64 SU, .int .i64 MX, .slice ao MT.length cc, .func (.func 88) #[] #[], .func (.func 89) #[] #[], .slice ho MH.length hcc, .func (.func 90) #[] #[], .func (.func 91) #[] #[]]] W fun e w' => e = .returned (.bool r3) ∧ Below W.heap.size W w')
  (hwin : r3 = true → ∀ ao cc ho hcc W, Tgs ao MT W → Hrs ho MH W → Calls Tryd.prog 56 #[.agg #[.string a1, .string m1, .int .i64 mo1, .int .i64 EV, .int .i64 SU, .int .i64 MX, .slice ao MT.length cc, .func (.func 88) #[] #[], .func (.func 89) #[] #[], .slice ho MH.length hcc, .func (.func 90) #[] #[], .func (.func 91) #[] #[]]] W fun e w' => ∃ v, e = .returned v ∧ MadeW W.heap.size z v w' ∧ Below W.heap.size W w') :
  Calls Tryd.prog 27 #[.agg #[.string a1, .string m1, .int .i64 mo1, .int .i64 ev1, .int .i64 su1, .int .i64 mx1, .slice ta1 tl1 tc1, .slice ha1 hl1 hc1], .agg #[.string a2, .string m2, .int .i64 mo2, .int .i64 ev2, .int .i64 su2, .int .i64 mx2, .slice ta2 tl2 tc2, .slice ha2 hl2 hc2]] w fun e w' =>
   JPost r1 r2 r3 (a1 = a2 ∧ m1 = m2 ∧ mo1 = mo2) z w.heap.size e w' ∧ Below w.heap.size w w' := by
 have HL := hid_intro hL
 have HR1 := hid_intro hr1
 have HR2 := hid_intro hr2
 have HR3 := hid_intro hr3
 have HWI := hid_intro hw
 have HWN := hid_intro hwin
 clear hL hr1 hr2 hr3 hw hwin
 obtain ⟨W0, hW0⟩ : ∃ W0, W0 = (((w.alloc (.cells #[.string a1, .string m1, .int .i64 mo1, .int .i64 ev1, .int .i64 su1, .int .i64 mx1, .slice ta1 tl1 tc1, .slice ha1 hl1 hc1] 32)).alloc (.cells #[.string a2, .string m2, .int .i64 mo2, .int .i64 ev2, .int .i64 su2, .int .i64 mx2, .slice ta2 tl2 tc2, .slice ha2 hl2 hc2] 32)).alloc (.cells #[.string ⟨#[]⟩, .string ⟨#[]⟩, .int .i64 0, .int .i64 0, .int .i64 0, .int .i64 0, .slice none 0 0, .slice none 0 0, .int .i64 0] 34)) := ⟨_, rfl⟩
 have HB0 : Hid (Below w.heap.size w W0) := hid_intro (by rw [hW0]; exact (((Below.refl _ _).alloc (by simp; try omega) _).alloc (by simp; try omega) _).alloc (by simp; try omega) _)
 have hsz : W0.heap.size = w.heap.size + 3 := by rw [hW0]; simp
 have HX0 : Hid (JX W0 w.heap.size (w.heap.size + 1) (w.heap.size + 1 + 1) a1 m1 mo1 ev1 su1 mx1 ta1 tl1 tc1 ha1 hl1 hc1 a2 m2 mo2 ev2 su2 mx2 ta2 tl2 tc2 ha2 hl2 hc2 W0) := hid_intro (by
  refine ⟨Below.refl _ _, by omega, by omega, by rw [hW0]; simp [go_sem], by rw [hW0]; simp [go_sem], by rw [hW0]; simp [go_sem], by rw [hW0]; simp [go_sem], by rw [hW0]; simp [go_sem], by rw [hW0]; simp [go_sem], by rw [hW0]; simp [go_sem], by rw [hW0]; simp [go_sem], by rw [hW0]; simp [go_sem], by rw [hW0]; simp [go_sem], by rw [hW0]; simp [go_sem], by rw [hW0]; simp [go_sem], by rw [hW0]; simp [go_sem], by rw [hW0]; simp [go_sem], by rw [hW0]; simp [go_sem], by rw [hW0]; simp [go_sem], ?_⟩
  have := StR.pt_new ((w.alloc (.cells #[.string a1, .string m1, .int .i64 mo1, .int .i64 ev1, .int .i64 su1, .int .i64 mx1, .slice ta1 tl1 tc1, .slice ha1 hl1 hc1] 32)).alloc (.cells #[.string a2, .string m2, .int .i64 mo2, .int .i64 ev2, .int .i64 su2, .int .i64 mx2, .slice ta2 tl2 tc2, .slice ha2 hl2 hc2] 32)) [.string ⟨#[]⟩, .string ⟨#[]⟩, .int .i64 0, .int .i64 0, .int .i64 0, .int .i64 0, .slice none 0 0, .slice none 0 0, .int .i64 0] 34
  rw [hW0]
  simp only [World.size_alloc] at this
  exact this)
 have HW := hid_intro hW0
 have HSZ := hid_intro hsz
 clear hW0 hsz
 have HX1 : Hid (JX W0 w.heap.size (w.heap.size + 1) (w.heap.size + 1 + 1) a1 m1 mo1 ev1 su1 mx1 ta1 tl1 tc1 ha1 hl1 hc1 a2 m2 mo2 ev2 su2 mx2 ta2 tl2 tc2 ha2 hl2 hc2 W0.drew) := hid_intro HX0.out.drew
 have HUA := hid_intro (fun W => impl_usage a1 m1 mo1 ev1 su1 mx1 ta1 tl1 tc1 ha1 hl1 hc1 W)
 have HUB := hid_intro (fun W => impl_usage a2 m2 mo2 ev2 su2 mx2 ta2 tl2 tc2 ha2 hl2 hc2 W)
 go_enter Tryd.func27, Tryd.ntmps27
 go_wp2_with fail
 rw [← HW.out]
 go_cut [5, 6] from 8 (fun v5 v6 wx => ∃ bX bY, v5 = .pointer (some ⟨bX, 0, none⟩) ∧ v6 = .pointer (some ⟨bY, 0, none⟩) ∧ Hid (Blk bX [.string a1, .string m1, .int .i64 mo1, .int .i64 ev1, .int .i64 su1, .int .i64 mx1, .slice ta1 tl1 tc1, .func (.func 88) #[] #[], .func (.func 89) #[] #[], .slice ha1 hl1 hc1, .func (.func 90) #[] #[], .func (.func 91) #[] #[]] wx) ∧ Hid (Blk bY [.string a2, .string m2, .int .i64 mo2, .int .i64 ev2, .int .i64 su2, .int .i64 mx2, .slice ta2 tl2 tc2, .func (.func 88) #[] #[], .func (.func 89) #[] #[], .slice ha2 hl2 hc2, .func (.func 90) #[] #[], .func (.func 91) #[] #[]] wx) ∧ Hid (JX W0 w.heap.size (w.heap.size + 1) (w.heap.size + 1 + 1) a1 m1 mo1 ev1 su1 mx1 ta1 tl1 tc1 ha1 hl1 hc1 a2 m2 mo2 ev2 su2 mx2 ta2 tl2 tc2 ha2 hl2 hc2 wx))
 case first =>
  have a0 : w.heap.size < W0.heap.size := by have := HSZ.out; omega
  have b0 : w.heap.size + 1 < W0.heap.size := by have := HSZ.out; omega
  have r0 : w.heap.size + 1 + 1 < W0.heap.size := by have := HSZ.out; omega
  refine wp_region_held_drew (S := (fun W => Below W0.heap.size W0 W ∧ w.heap.size < W.heap.size ∧ w.heap.size + 1 < W.heap.size ∧ W.cell? ⟨w.heap.size, 0, none⟩ = some (.string a1) ∧ W.cell? ⟨w.heap.size, 1, none⟩ = some (.string m1) ∧ W.cell? ⟨w.heap.size, 2, none⟩ = some (.int .i64 mo1) ∧ W.cell? ⟨w.heap.size, 3, none⟩ = some (.int .i64 ev1) ∧ W.cell? ⟨w.heap.size, 4, none⟩ = some (.int .i64 su1) ∧ W.cell? ⟨w.heap.size, 5, none⟩ = some (.int .i64 mx1) ∧ W.cell? ⟨w.heap.size, 6, none⟩ = some (.slice ta1 tl1 tc1) ∧ W.cell? ⟨w.heap.size, 7, none⟩ = some (.slice ha1 hl1 hc1) ∧ W.cell? ⟨w.heap.size + 1, 0, none⟩ = some (.string a2) ∧ W.cell? ⟨w.heap.size + 1, 1, none⟩ = some (.string m2) ∧ W.cell? ⟨w.heap.size + 1, 2, none⟩ = some (.int .i64 mo2) ∧ W.cell? ⟨w.heap.size + 1, 3, none⟩ = some (.int .i64 ev2) ∧ W.cell? ⟨w.heap.size + 1, 4, none⟩ = some (.int .i64 su2) ∧ W.cell? ⟨w.heap.size + 1, 5, none⟩ = some (.int .i64 mx2) ∧ W.cell? ⟨w.heap.size + 1, 6, none⟩ = some (.slice ta2 tl2 tc2) ∧ W.cell? ⟨w.heap.size + 1, 7, none⟩ = some (.slice ha2 hl2 hc2) ∧ Pt (w.heap.size + 1 + 1) 9 W)) (by kernel_rfl) HX1.out (fun hHeld => ?_)
  generalize W0.drew = kd at *
  apply memo2 (fun bX bY W => (Below W0.heap.size W0 W ∧ w.heap.size < W.heap.size ∧ w.heap.size + 1 < W.heap.size ∧ W.cell? ⟨w.heap.size, 0, none⟩ = some (.string a1) ∧ W.cell? ⟨w.heap.size, 1, none⟩ = some (.string m1) ∧ W.cell? ⟨w.heap.size, 2, none⟩ = some (.int .i64 mo1) ∧ W.cell? ⟨w.heap.size, 3, none⟩ = some (.int .i64 ev1) ∧ W.cell? ⟨w.heap.size, 4, none⟩ = some (.int .i64 su1) ∧ W.cell? ⟨w.heap.size, 5, none⟩ = some (.int .i64 mx1) ∧ W.cell? ⟨w.heap.size, 6, none⟩ = some (.slice ta1 tl1 tc1) ∧ W.cell? ⟨w.heap.size, 7, none⟩ = some (.slice ha1 hl1 hc1) ∧ W.cell? ⟨w.heap.size + 1, 0, none⟩ = some (.string a2) ∧ W.cell? ⟨w.heap.size + 1, 1, none⟩ = some (.string m2) ∧ W.cell? ⟨w.heap.size + 1, 2, none⟩ = some (.int .i64 mo2) ∧ W.cell? ⟨w.heap.size + 1, 3, none⟩ = some (.int .i64 ev2) ∧ W.cell? ⟨w.heap.size + 1, 4, none⟩ = some (.int .i64 su2) ∧ W.cell? ⟨w.heap.size + 1, 5, none⟩ = some (.int .i64 mx2) ∧ W.cell? ⟨w.heap.size + 1, 6, none⟩ = some (.slice ta2 tl2 tc2) ∧ W.cell? ⟨w.heap.size + 1, 7, none⟩ = some (.slice ha2 hl2 hc2) ∧ Pt (w.heap.size + 1 + 1) 9 W) ∧ (W0.heap.size ≤ bX) ∧ (CatR.Blk bX [.string a1, .string m1, .int .i64 mo1, .int .i64 ev1, .int .i64 su1, .int .i64 mx1, .slice ta1 tl1 tc1, .func (.func 88) #[] #[], .func (.func 89) #[] #[], .slice ha1 hl1 hc1, .func (.func 90) #[] #[], .func (.func 91) #[] #[]] W) ∧ (W0.heap.size ≤ bY) ∧ (EvtR.Pt bY 12 W) ∧ (bX ≠ bY) ∧ True)
  intro N1_3_4_5_6
  apply memo2 (fun bX bY W => (Below W0.heap.size W0 W ∧ w.heap.size < W.heap.size ∧ w.heap.size + 1 < W.heap.size ∧ W.cell? ⟨w.heap.size, 0, none⟩ = some (.string a1) ∧ W.cell? ⟨w.heap.size, 1, none⟩ = some (.string m1) ∧ W.cell? ⟨w.heap.size, 2, none⟩ = some (.int .i64 mo1) ∧ W.cell? ⟨w.heap.size, 3, none⟩ = some (.int .i64 ev1) ∧ W.cell? ⟨w.heap.size, 4, none⟩ = some (.int .i64 su1) ∧ W.cell? ⟨w.heap.size, 5, none⟩ = some (.int .i64 mx1) ∧ W.cell? ⟨w.heap.size, 6, none⟩ = some (.slice ta1 tl1 tc1) ∧ W.cell? ⟨w.heap.size, 7, none⟩ = some (.slice ha1 hl1 hc1) ∧ W.cell? ⟨w.heap.size + 1, 0, none⟩ = some (.string a2) ∧ W.cell? ⟨w.heap.size + 1, 1, none⟩ = some (.string m2) ∧ W.cell? ⟨w.heap.size + 1, 2, none⟩ = some (.int .i64 mo2) ∧ W.cell? ⟨w.heap.size + 1, 3, none⟩ = some (.int .i64 ev2) ∧ W.cell? ⟨w.heap.size + 1, 4, none⟩ = some (.int .i64 su2) ∧ W.cell? ⟨w.heap.size + 1, 5, none⟩ = some (.int .i64 mx2) ∧ W.cell? ⟨w.heap.size + 1, 6, none⟩ = some (.slice ta2 tl2 tc2) ∧ W.cell? ⟨w.heap.size + 1, 7, none⟩ = some (.slice ha2 hl2 hc2) ∧ Pt (w.heap.size + 1 + 1) 9 W) ∧ (W0.heap.size ≤ bX) ∧ (EvtR.Pt bX 12 W) ∧ (W0.heap.size ≤ bY) ∧ (EvtR.Pt bY 12 W) ∧ (bX ≠ bY) ∧ True)
  intro N1_3_4_5
  apply memo1 (fun bX W => (Below W0.heap.size W0 W ∧ w.heap.size < W.heap.size ∧ w.heap.size + 1 < W.heap.size ∧ W.cell? ⟨w.heap.size, 0, none⟩ = some (.string a1) ∧ W.cell? ⟨w.heap.size, 1, none⟩ = some (.string m1) ∧ W.cell? ⟨w.heap.size, 2, none⟩ = some (.int .i64 mo1) ∧ W.cell? ⟨w.heap.size, 3, none⟩ = some (.int .i64 ev1) ∧ W.cell? ⟨w.heap.size, 4, none⟩ = some (.int .i64 su1) ∧ W.cell? ⟨w.heap.size, 5, none⟩ = some (.int .i64 mx1) ∧ W.cell? ⟨w.heap.size, 6, none⟩ = some (.slice ta1 tl1 tc1) ∧ W.cell? ⟨w.heap.size, 7, none⟩ = some (.slice ha1 hl1 hc1) ∧ W.cell? ⟨w.heap.size + 1, 0, none⟩ = some (.string a2) ∧ W.cell? ⟨w.heap.size + 1, 1, none⟩ = some (.string m2) ∧ W.cell? ⟨w.heap.size + 1, 2, none⟩ = some (.int .i64 mo2) ∧ W.cell? ⟨w.heap.size + 1, 3, none⟩ = some (.int .i64 ev2) ∧ W.cell? ⟨w.heap.size + 1, 4, none⟩ = some (.int .i64 su2) ∧ W.cell? ⟨w.heap.size + 1, 5, none⟩ = some (.int .i64 mx2) ∧ W.cell? ⟨w.heap.size + 1, 6, none⟩ = some (.slice ta2 tl2 tc2) ∧ W.cell? ⟨w.heap.size + 1, 7, none⟩ = some (.slice ha2 hl2 hc2) ∧ Pt (w.heap.size + 1 + 1) 9 W) ∧ (W0.heap.size ≤ bX) ∧ (EvtR.Pt bX 12 W) ∧ True)
  intro N1_3_4
  apply memo1 (fun bY W => (Below W0.heap.size W0 W ∧ w.heap.size < W.heap.size ∧ w.heap.size + 1 < W.heap.size ∧ W.cell? ⟨w.heap.size, 0, none⟩ = some (.string a1) ∧ W.cell? ⟨w.heap.size, 1, none⟩ = some (.string m1) ∧ W.cell? ⟨w.heap.size, 2, none⟩ = some (.int .i64 mo1) ∧ W.cell? ⟨w.heap.size, 3, none⟩ = some (.int .i64 ev1) ∧ W.cell? ⟨w.heap.size, 4, none⟩ = some (.int .i64 su1) ∧ W.cell? ⟨w.heap.size, 5, none⟩ = some (.int .i64 mx1) ∧ W.cell? ⟨w.heap.size, 6, none⟩ = some (.slice ta1 tl1 tc1) ∧ W.cell? ⟨w.heap.size, 7, none⟩ = some (.slice ha1 hl1 hc1) ∧ W.cell? ⟨w.heap.size + 1, 0, none⟩ = some (.string a2) ∧ W.cell? ⟨w.heap.size + 1, 1, none⟩ = some (.string m2) ∧ W.cell? ⟨w.heap.size + 1, 2, none⟩ = some (.int .i64 mo2) ∧ W.cell? ⟨w.heap.size + 1, 3, none⟩ = some (.int .i64 ev2) ∧ W.cell? ⟨w.heap.size + 1, 4, none⟩ = some (.int .i64 su2) ∧ W.cell? ⟨w.heap.size + 1, 5, none⟩ = some (.int .i64 mx2) ∧ W.cell? ⟨w.heap.size + 1, 6, none⟩ = some (.slice ta2 tl2 tc2) ∧ W.cell? ⟨w.heap.size + 1, 7, none⟩ = some (.slice ha2 hl2 hc2) ∧ Pt (w.heap.size + 1 + 1) 9 W) ∧ (W0.heap.size ≤ bY) ∧ (EvtR.Pt bY 12 W) ∧ True)
  intro N1_3_5
  apply memo2 (fun bX bY W => (Below W0.heap.size W0 W ∧ w.heap.size < W.heap.size ∧ w.heap.size + 1 < W.heap.size ∧ W.cell? ⟨w.heap.size, 0, none⟩ = some (.string a1) ∧ W.cell? ⟨w.heap.size, 1, none⟩ = some (.string m1) ∧ W.cell? ⟨w.heap.size, 2, none⟩ = some (.int .i64 mo1) ∧ W.cell? ⟨w.heap.size, 3, none⟩ = some (.int .i64 ev1) ∧ W.cell? ⟨w.heap.size, 4, none⟩ = some (.int .i64 su1) ∧ W.cell? ⟨w.heap.size, 5, none⟩ = some (.int .i64 mx1) ∧ W.cell? ⟨w.heap.size, 6, none⟩ = some (.slice ta1 tl1 tc1) ∧ W.cell? ⟨w.heap.size, 7, none⟩ = some (.slice ha1 hl1 hc1) ∧ W.cell? ⟨w.heap.size + 1, 0, none⟩ = some (.string a2) ∧ W.cell? ⟨w.heap.size + 1, 1, none⟩ = some (.string m2) ∧ W.cell? ⟨w.heap.size + 1, 2, none⟩ = some (.int .i64 mo2) ∧ W.cell? ⟨w.heap.size + 1, 3, none⟩ = some (.int .i64 ev2) ∧ W.cell? ⟨w.heap.size + 1, 4, none⟩ = some (.int .i64 su2) ∧ W.cell? ⟨w.heap.size + 1, 5, none⟩ = some (.int .i64 mx2) ∧ W.cell? ⟨w.heap.size + 1, 6, none⟩ = some (.slice ta2 tl2 tc2) ∧ W.cell? ⟨w.heap.size + 1, 7, none⟩ = some (.slice ha2 hl2 hc2) ∧ Pt (w.heap.size + 1 + 1) 9 W) ∧ (W0.heap.size ≤ bX) ∧ (EvtR.Pt bX 12 W) ∧ (W0.heap.size ≤ bY) ∧ (EvtR.Pt bY 12 W) ∧ (bX ≠ bY) ∧ True)
  intro N1_4_5
  apply memo0 (fun  W => (Below W0.heap.size W0 W ∧ w.heap.size < W.heap.size ∧ w.heap.size + 1 < W.heap.size ∧ W.cell? ⟨w.heap.size, 0, none⟩ = some (.string a1) ∧ W.cell? ⟨w.heap.size, 1, none⟩ = some (.string m1) ∧ W.cell? ⟨w.heap.size, 2, none⟩ = some (.int .i64 mo1) ∧ W.cell? ⟨w.heap.size, 3, none⟩ = some (.int .i64 ev1) ∧ W.cell? ⟨w.heap.size, 4, none⟩ = some (.int .i64 su1) ∧ W.cell? ⟨w.heap.size, 5, none⟩ = some (.int .i64 mx1) ∧ W.cell? ⟨w.heap.size, 6, none⟩ = some (.slice ta1 tl1 tc1) ∧ W.cell? ⟨w.heap.size, 7, none⟩ = some (.slice ha1 hl1 hc1) ∧ W.cell? ⟨w.heap.size + 1, 0, none⟩ = some (.string a2) ∧ W.cell? ⟨w.heap.size + 1, 1, none⟩ = some (.string m2) ∧ W.cell? ⟨w.heap.size + 1, 2, none⟩ = some (.int .i64 mo2) ∧ W.cell? ⟨w.heap.size + 1, 3, none⟩ = some (.int .i64 ev2) ∧ W.cell? ⟨w.heap.size + 1, 4, none⟩ = some (.int .i64 su2) ∧ W.cell? ⟨w.heap.size + 1, 5, none⟩ = some (.int .i64 mx2) ∧ W.cell? ⟨w.heap.size + 1, 6, none⟩ = some (.slice ta2 tl2 tc2) ∧ W.cell? ⟨w.heap.size + 1, 7, none⟩ = some (.slice ha2 hl2 hc2) ∧ Pt (w.heap.size + 1 + 1) 9 W) ∧ True)
  intro N1_3
  apply memo1 (fun bX W => (Below W0.heap.size W0 W ∧ w.heap.size < W.heap.size ∧ w.heap.size + 1 < W.heap.size ∧ W.cell? ⟨w.heap.size, 0, none⟩ = some (.string a1) ∧ W.cell? ⟨w.heap.size, 1, none⟩ = some (.string m1) ∧ W.cell? ⟨w.heap.size, 2, none⟩ = some (.int .i64 mo1) ∧ W.cell? ⟨w.heap.size, 3, none⟩ = some (.int .i64 ev1) ∧ W.cell? ⟨w.heap.size, 4, none⟩ = some (.int .i64 su1) ∧ W.cell? ⟨w.heap.size, 5, none⟩ = some (.int .i64 mx1) ∧ W.cell? ⟨w.heap.size, 6, none⟩ = some (.slice ta1 tl1 tc1) ∧ W.cell? ⟨w.heap.size, 7, none⟩ = some (.slice ha1 hl1 hc1) ∧ W.cell? ⟨w.heap.size + 1, 0, none⟩ = some (.string a2) ∧ W.cell? ⟨w.heap.size + 1, 1, none⟩ = some (.string m2) ∧ W.cell? ⟨w.heap.size + 1, 2, none⟩ = some (.int .i64 mo2) ∧ W.cell? ⟨w.heap.size + 1, 3, none⟩ = some (.int .i64 ev2) ∧ W.cell? ⟨w.heap.size + 1, 4, none⟩ = some (.int .i64 su2) ∧ W.cell? ⟨w.heap.size + 1, 5, none⟩ = some (.int .i64 mx2) ∧ W.cell? ⟨w.heap.size + 1, 6, none⟩ = some (.slice ta2 tl2 tc2) ∧ W.cell? ⟨w.heap.size + 1, 7, none⟩ = some (.slice ha2 hl2 hc2) ∧ Pt (w.heap.size + 1 + 1) 9 W) ∧ (W0.heap.size ≤ bX) ∧ (EvtR.Pt bX 12 W) ∧ True)
  intro N1_4
  apply memo1 (fun bY W => (Below W0.heap.size W0 W ∧ w.heap.size < W.heap.size ∧ w.heap.size + 1 < W.heap.size ∧ W.cell? ⟨w.heap.size, 0, none⟩ = some (.string a1) ∧ W.cell? ⟨w.heap.size, 1, none⟩ = some (.string m1) ∧ W.cell? ⟨w.heap.size, 2, none⟩ = some (.int .i64 mo1) ∧ W.cell? ⟨w.heap.size, 3, none⟩ = some (.int .i64 ev1) ∧ W.cell? ⟨w.heap.size, 4, none⟩ = some (.int .i64 su1) ∧ W.cell? ⟨w.heap.size, 5, none⟩ = some (.int .i64 mx1) ∧ W.cell? ⟨w.heap.size, 6, none⟩ = some (.slice ta1 tl1 tc1) ∧ W.cell? ⟨w.heap.size, 7, none⟩ = some (.slice ha1 hl1 hc1) ∧ W.cell? ⟨w.heap.size + 1, 0, none⟩ = some (.string a2) ∧ W.cell? ⟨w.heap.size + 1, 1, none⟩ = some (.string m2) ∧ W.cell? ⟨w.heap.size + 1, 2, none⟩ = some (.int .i64 mo2) ∧ W.cell? ⟨w.heap.size + 1, 3, none⟩ = some (.int .i64 ev2) ∧ W.cell? ⟨w.heap.size + 1, 4, none⟩ = some (.int .i64 su2) ∧ W.cell? ⟨w.heap.size + 1, 5, none⟩ = some (.int .i64 mx2) ∧ W.cell? ⟨w.heap.size + 1, 6, none⟩ = some (.slice ta2 tl2 tc2) ∧ W.cell? ⟨w.heap.size + 1, 7, none⟩ = some (.slice ha2 hl2 hc2) ∧ Pt (w.heap.size + 1 + 1) 9 W) ∧ (W0.heap.size ≤ bY) ∧ (EvtR.Pt bY 12 W) ∧ True)
  intro N1_5
  apply memo2 (fun bX bY W => (Below W0.heap.size W0 W ∧ w.heap.size < W.heap.size ∧ w.heap.size + 1 < W.heap.size ∧ W.cell? ⟨w.heap.size, 0, none⟩ = some (.string a1) ∧ W.cell? ⟨w.heap.size, 1, none⟩ = some (.string m1) ∧ W.cell? ⟨w.heap.size, 2, none⟩ = some (.int .i64 mo1) ∧ W.cell? ⟨w.heap.size, 3, none⟩ = some (.int .i64 ev1) ∧ W.cell? ⟨w.heap.size, 4, none⟩ = some (.int .i64 su1) ∧ W.cell? ⟨w.heap.size, 5, none⟩ = some (.int .i64 mx1) ∧ W.cell? ⟨w.heap.size, 6, none⟩ = some (.slice ta1 tl1 tc1) ∧ W.cell? ⟨w.heap.size, 7, none⟩ = some (.slice ha1 hl1 hc1) ∧ W.cell? ⟨w.heap.size + 1, 0, none⟩ = some (.string a2) ∧ W.cell? ⟨w.heap.size + 1, 1, none⟩ = some (.string m2) ∧ W.cell? ⟨w.heap.size + 1, 2, none⟩ = some (.int .i64 mo2) ∧ W.cell? ⟨w.heap.size + 1, 3, none⟩ = some (.int .i64 ev2) ∧ W.cell? ⟨w.heap.size + 1, 4, none⟩ = some (.int .i64 su2) ∧ W.cell? ⟨w.heap.size + 1, 5, none⟩ = some (.int .i64 mx2) ∧ W.cell? ⟨w.heap.size + 1, 6, none⟩ = some (.slice ta2 tl2 tc2) ∧ W.cell? ⟨w.heap.size + 1, 7, none⟩ = some (.slice ha2 hl2 hc2) ∧ Pt (w.heap.size + 1 + 1) 9 W) ∧ (W0.heap.size ≤ bX) ∧ (EvtR.Pt bX 12 W) ∧ (W0.heap.size ≤ bY) ∧ (EvtR.Pt bY 12 W) ∧ (bX ≠ bY) ∧ True)
  intro N4_5
  apply memo0 (fun  W => (Below W0.heap.size W0 W ∧ w.heap.size < W.heap.size ∧ w.heap.size + 1 < W.heap.size ∧ W.cell? ⟨w.heap.size, 0, none⟩ = some (.string a1) ∧ W.cell? ⟨w.heap.size, 1, none⟩ = some (.string m1) ∧ W.cell? ⟨w.heap.size, 2, none⟩ = some (.int .i64 mo1) ∧ W.cell? ⟨w.heap.size, 3, none⟩ = some (.int .i64 ev1) ∧ W.cell? ⟨w.heap.size, 4, none⟩ = some (.int .i64 su1) ∧ W.cell? ⟨w.heap.size, 5, none⟩ = some (.int .i64 mx1) ∧ W.cell? ⟨w.heap.size, 6, none⟩ = some (.slice ta1 tl1 tc1) ∧ W.cell? ⟨w.heap.size, 7, none⟩ = some (.slice ha1 hl1 hc1) ∧ W.cell? ⟨w.heap.size + 1, 0, none⟩ = some (.string a2) ∧ W.cell? ⟨w.heap.size + 1, 1, none⟩ = some (.string m2) ∧ W.cell? ⟨w.heap.size + 1, 2, none⟩ = some (.int .i64 mo2) ∧ W.cell? ⟨w.heap.size + 1, 3, none⟩ = some (.int .i64 ev2) ∧ W.cell? ⟨w.heap.size + 1, 4, none⟩ = some (.int .i64 su2) ∧ W.cell? ⟨w.heap.size + 1, 5, none⟩ = some (.int .i64 mx2) ∧ W.cell? ⟨w.heap.size + 1, 6, none⟩ = some (.slice ta2 tl2 tc2) ∧ W.cell? ⟨w.heap.size + 1, 7, none⟩ = some (.slice ha2 hl2 hc2) ∧ Pt (w.heap.size + 1 + 1) 9 W) ∧ True)
  intro N1
  apply memo1 (fun bX W => (Below W0.heap.size W0 W ∧ w.heap.size < W.heap.size ∧ w.heap.size + 1 < W.heap.size ∧ W.cell? ⟨w.heap.size, 0, none⟩ = some (.string a1) ∧ W.cell? ⟨w.heap.size, 1, none⟩ = some (.string m1) ∧ W.cell? ⟨w.heap.size, 2, none⟩ = some (.int .i64 mo1) ∧ W.cell? ⟨w.heap.size, 3, none⟩ = some (.int .i64 ev1) ∧ W.cell? ⟨w.heap.size, 4, none⟩ = some (.int .i64 su1) ∧ W.cell? ⟨w.heap.size, 5, none⟩ = some (.int .i64 mx1) ∧ W.cell? ⟨w.heap.size, 6, none⟩ = some (.slice ta1 tl1 tc1) ∧ W.cell? ⟨w.heap.size, 7, none⟩ = some (.slice ha1 hl1 hc1) ∧ W.cell? ⟨w.heap.size + 1, 0, none⟩ = some (.string a2) ∧ W.cell? ⟨w.heap.size + 1, 1, none⟩ = some (.string m2) ∧ W.cell? ⟨w.heap.size + 1, 2, none⟩ = some (.int .i64 mo2) ∧ W.cell? ⟨w.heap.size + 1, 3, none⟩ = some (.int .i64 ev2) ∧ W.cell? ⟨w.heap.size + 1, 4, none⟩ = some (.int .i64 su2) ∧ W.cell? ⟨w.heap.size + 1, 5, none⟩ = some (.int .i64 mx2) ∧ W.cell? ⟨w.heap.size + 1, 6, none⟩ = some (.slice ta2 tl2 tc2) ∧ W.cell? ⟨w.heap.size + 1, 7, none⟩ = some (.slice ha2 hl2 hc2) ∧ Pt (w.heap.size + 1 + 1) 9 W) ∧ (W0.heap.size ≤ bX) ∧ (EvtR.Pt bX 12 W) ∧ True)
  intro N4
  apply memo1 (fun bY W => (Below W0.heap.size W0 W ∧ w.heap.size < W.heap.size ∧ w.heap.size + 1 < W.heap.size ∧ W.cell? ⟨w.heap.size, 0, none⟩ = some (.string a1) ∧ W.cell? ⟨w.heap.size, 1, none⟩ = some (.string m1) ∧ W.cell? ⟨w.heap.size, 2, none⟩ = some (.int .i64 mo1) ∧ W.cell? ⟨w.heap.size, 3, none⟩ = some (.int .i64 ev1) ∧ W.cell? ⟨w.heap.size, 4, none⟩ = some (.int .i64 su1) ∧ W.cell? ⟨w.heap.size, 5, none⟩ = some (.int .i64 mx1) ∧ W.cell? ⟨w.heap.size, 6, none⟩ = some (.slice ta1 tl1 tc1) ∧ W.cell? ⟨w.heap.size, 7, none⟩ = some (.slice ha1 hl1 hc1) ∧ W.cell? ⟨w.heap.size + 1, 0, none⟩ = some (.string a2) ∧ W.cell? ⟨w.heap.size + 1, 1, none⟩ = some (.string m2) ∧ W.cell? ⟨w.heap.size + 1, 2, none⟩ = some (.int .i64 mo2) ∧ W.cell? ⟨w.heap.size + 1, 3, none⟩ = some (.int .i64 ev2) ∧ W.cell? ⟨w.heap.size + 1, 4, none⟩ = some (.int .i64 su2) ∧ W.cell? ⟨w.heap.size + 1, 5, none⟩ = some (.int .i64 mx2) ∧ W.cell? ⟨w.heap.size + 1, 6, none⟩ = some (.slice ta2 tl2 tc2) ∧ W.cell? ⟨w.heap.size + 1, 7, none⟩ = some (.slice ha2 hl2 hc2) ∧ Pt (w.heap.size + 1 + 1) 9 W) ∧ (W0.heap.size ≤ bY) ∧ (EvtR.Pt bY 12 W) ∧ True)
  intro N5
  ·refine tk (i := 0) (oi := { dst := some 8, op := Op.load 32 (Operand.tmp 2), type := 32, pos := "l07_window.go:262", after := #[], guard := none }) (v := ?_) ?_ ?_
   rotate_left
   ·(intro w hSw; (try dsimp only at hSw); go_simp) <;> with_reducible rfl
   try simp only [Act.put, SL]
   refine tk (i := 2) (oi := { dst := some 10, op := Op.load 32 (Operand.tmp 3), type := 32, pos := "l07_window.go:262", after := #[], guard := none }) (v := ?_) ?_ ?_
   rotate_left
   ·(intro w hSw; (try dsimp only at hSw); go_simp) <;> with_reducible rfl
   try simp only [Act.put, SL]
   refine wpAnyH_ready (rs := [1, 4, 5]) (by kernel_rfl) (by simp) ?_
   refine AllReadyH.cons (o := { dst := some 9, op := Op.call { callee := Callee.value (Operand.func 53), args := #[Operand.tmp 8], argTypes := #[32] }, type := 97, pos := "l07_window.go:262", after := #[{ on := 0, ground := Ground.data }], guard := none }) rfl (fun K hK => ?_) (AllReadyH.cons (o := { dst := some 5, op := Op.alloc 97, type := 0, pos := "l07_window.go:262", after := #[], guard := none }) rfl (fun K hK => ?_) (AllReadyH.cons (o := { dst := some 6, op := Op.alloc 97, type := 0, pos := "l07_window.go:262", after := #[], guard := none }) rfl (fun K hK => ?_) AllReadyH.nil))
   ·go_simp
    go_at_call 53
    refine (HUA.out _).mono ?_
    rintro e t1 ⟨rfl, hq1⟩
    try go_wp2_with fail
    have hh1 := @JX.below W0 (w.heap.size) (w.heap.size + 1) (w.heap.size + 1 + 1) a1 m1 mo1 ev1 su1 mx1 ta1 tl1 tc1 ha1 hl1 hc1 a2 m2 mo2 ev2 su2 mx2 ta2 tl2 tc2 ha2 hl2 hc2 _ _ HX1.out hq1
    refine hK.out _ _ hh1 (fun _ => ?_)
    clear hK K
    try simp only [Act.put, SL]
    exact N1.out  t1 ⟨hh1, trivial⟩
   ·go_simp
    try go_wp2_with fail
    have hloX : W0.heap.size ≤ kd.heap.size := (HX1.out).1.size
    have hh1 := @JX.below W0 (w.heap.size) (w.heap.size + 1) (w.heap.size + 1 + 1) a1 m1 mo1 ev1 su1 mx1 ta1 tl1 tc1 ha1 hl1 hc1 a2 m2 mo2 ev2 su2 mx2 ta2 tl2 tc2 ha2 hl2 hc2 _ _ HX1.out ((Below.refl kd.heap.size kd).alloc (Nat.le_refl _) (Obj.cells #[.string ⟨#[]⟩, .string ⟨#[]⟩, .int .i64 0, .int .i64 0, .int .i64 0, .int .i64 0, .slice none 0 0, .nilFunc, .nilFunc, .slice none 0 0, .nilFunc, .nilFunc] 97))
    have ptX_1 : EvtR.Pt kd.heap.size 12 (kd.alloc (Obj.cells #[.string ⟨#[]⟩, .string ⟨#[]⟩, .int .i64 0, .int .i64 0, .int .i64 0, .int .i64 0, .slice none 0 0, .nilFunc, .nilFunc, .slice none 0 0, .nilFunc, .nilFunc] 97)) := StR.pt_new kd [.string ⟨#[]⟩, .string ⟨#[]⟩, .int .i64 0, .int .i64 0, .int .i64 0, .int .i64 0, .slice none 0 0, .nilFunc, .nilFunc, .slice none 0 0, .nilFunc, .nilFunc] 97
    refine hK.out _ _ hh1 (fun _ => ?_)
    clear hK K
    try simp only [Act.put, SL]
    generalize (kd.alloc (Obj.cells #[.string ⟨#[]⟩, .string ⟨#[]⟩, .int .i64 0, .int .i64 0, .int .i64 0, .int .i64 0, .slice none 0 0, .nilFunc, .nilFunc, .slice none 0 0, .nilFunc, .nilFunc] 97)) = k1 at *
    obtain ⟨bX, hbXx⟩ : ∃ z, z = kd.heap.size := ⟨_, rfl⟩
    rw [← hbXx] at hloX ptX_1  ⊢
    exact N4.out bX k1 ⟨hh1, hloX, ptX_1, trivial⟩
   ·go_simp
    try go_wp2_with fail
    have hloY : W0.heap.size ≤ kd.heap.size := (HX1.out).1.size
    have hh1 := @JX.below W0 (w.heap.size) (w.heap.size + 1) (w.heap.size + 1 + 1) a1 m1 mo1 ev1 su1 mx1 ta1 tl1 tc1 ha1 hl1 hc1 a2 m2 mo2 ev2 su2 mx2 ta2 tl2 tc2 ha2 hl2 hc2 _ _ HX1.out ((Below.refl kd.heap.size kd).alloc (Nat.le_refl _) (Obj.cells #[.string ⟨#[]⟩, .string ⟨#[]⟩, .int .i64 0, .int .i64 0, .int .i64 0, .int .i64 0, .slice none 0 0, .nilFunc, .nilFunc, .slice none 0 0, .nilFunc, .nilFunc] 97))
    have ptY_1 : EvtR.Pt kd.heap.size 12 (kd.alloc (Obj.cells #[.string ⟨#[]⟩, .string ⟨#[]⟩, .int .i64 0, .int .i64 0, .int .i64 0, .int .i64 0, .slice none 0 0, .nilFunc, .nilFunc, .slice none 0 0, .nilFunc, .nilFunc] 97)) := StR.pt_new kd [.string ⟨#[]⟩, .string ⟨#[]⟩, .int .i64 0, .int .i64 0, .int .i64 0, .int .i64 0, .slice none 0 0, .nilFunc, .nilFunc, .slice none 0 0, .nilFunc, .nilFunc] 97
    refine hK.out _ _ hh1 (fun _ => ?_)
    clear hK K
    try simp only [Act.put, SL]
    generalize (kd.alloc (Obj.cells #[.string ⟨#[]⟩, .string ⟨#[]⟩, .int .i64 0, .int .i64 0, .int .i64 0, .int .i64 0, .slice none 0 0, .nilFunc, .nilFunc, .slice none 0 0, .nilFunc, .nilFunc] 97)) = k1 at *
    obtain ⟨bY, hbYx⟩ : ∃ z, z = kd.heap.size := ⟨_, rfl⟩
    rw [← hbYx] at hloY ptY_1  ⊢
    exact N5.out bY k1 ⟨hh1, hloY, ptY_1, trivial⟩
  ·rintro bY W ⟨hS0, hloY, ptY_0, _⟩
   refine wpAnyH_ready (rs := [1, 4]) (by kernel_rfl) (by simp) ?_
   refine AllReadyH.cons (o := { dst := some 9, op := Op.call { callee := Callee.value (Operand.func 53), args := #[Operand.tmp 8], argTypes := #[32] }, type := 97, pos := "l07_window.go:262", after := #[{ on := 0, ground := Ground.data }], guard := none }) rfl (fun K hK => ?_) (AllReadyH.cons (o := { dst := some 5, op := Op.alloc 97, type := 0, pos := "l07_window.go:262", after := #[], guard := none }) rfl (fun K hK => ?_) AllReadyH.nil)
   ·go_simp
    go_at_call 53
    refine (HUA.out _).mono ?_
    rintro e t1 ⟨rfl, hq1⟩
    try go_wp2_with fail
    have hh1 := @JX.below W0 (w.heap.size) (w.heap.size + 1) (w.heap.size + 1 + 1) a1 m1 mo1 ev1 su1 mx1 ta1 tl1 tc1 ha1 hl1 hc1 a2 m2 mo2 ev2 su2 mx2 ta2 tl2 tc2 ha2 hl2 hc2 _ _ hS0 hq1
    have ptY_1 := ptY_0.below hq1
    refine hK.out _ _ hh1 (fun _ => ?_)
    clear hK K
    try simp only [Act.put, SL]
    exact N1_5.out bY t1 ⟨hh1, hloY, ptY_1, trivial⟩
   ·go_simp
    try go_wp2_with fail
    have hneYX : bY ≠ W.heap.size := by have := ptY_0.lt; omega
    have hloX : W0.heap.size ≤ W.heap.size := (hS0).1.size
    have hh1 := @JX.below W0 (w.heap.size) (w.heap.size + 1) (w.heap.size + 1 + 1) a1 m1 mo1 ev1 su1 mx1 ta1 tl1 tc1 ha1 hl1 hc1 a2 m2 mo2 ev2 su2 mx2 ta2 tl2 tc2 ha2 hl2 hc2 _ _ hS0 ((Below.refl W.heap.size W).alloc (Nat.le_refl _) (Obj.cells #[.string ⟨#[]⟩, .string ⟨#[]⟩, .int .i64 0, .int .i64 0, .int .i64 0, .int .i64 0, .slice none 0 0, .nilFunc, .nilFunc, .slice none 0 0, .nilFunc, .nilFunc] 97))
    have ptY_1 := ptY_0.below ((Below.refl W.heap.size W).alloc (Nat.le_refl _) (Obj.cells #[.string ⟨#[]⟩, .string ⟨#[]⟩, .int .i64 0, .int .i64 0, .int .i64 0, .int .i64 0, .slice none 0 0, .nilFunc, .nilFunc, .slice none 0 0, .nilFunc, .nilFunc] 97))
    have ptX_1 : EvtR.Pt W.heap.size 12 (W.alloc (Obj.cells #[.string ⟨#[]⟩, .string ⟨#[]⟩, .int .i64 0, .int .i64 0, .int .i64 0, .int .i64 0, .slice none 0 0, .nilFunc, .nilFunc, .slice none 0 0, .nilFunc, .nilFunc] 97)) := StR.pt_new W [.string ⟨#[]⟩, .string ⟨#[]⟩, .int .i64 0, .int .i64 0, .int .i64 0, .int .i64 0, .slice none 0 0, .nilFunc, .nilFunc, .slice none 0 0, .nilFunc, .nilFunc] 97
    refine hK.out _ _ hh1 (fun _ => ?_)
    clear hK K
    try simp only [Act.put, SL]
    generalize (W.alloc (Obj.cells #[.string ⟨#[]⟩, .string ⟨#[]⟩, .int .i64 0, .int .i64 0, .int .i64 0, .int .i64 0, .slice none 0 0, .nilFunc, .nilFunc, .slice none 0 0, .nilFunc, .nilFunc] 97)) = k1 at *
    obtain ⟨bX, hbXx⟩ : ∃ z, z = W.heap.size := ⟨_, rfl⟩
    rw [← hbXx] at hloX ptX_1 hneYX ⊢
    exact N4_5.out bX bY k1 ⟨hh1, hloX, ptX_1, hloY, ptY_1, (fun e => hneYX e.symm), trivial⟩
  ·rintro bX W ⟨hS0, hloX, ptX_0, _⟩
   refine wpAnyH_ready (rs := [1, 5]) (by kernel_rfl) (by simp) ?_
   refine AllReadyH.cons (o := { dst := some 9, op := Op.call { callee := Callee.value (Operand.func 53), args := #[Operand.tmp 8], argTypes := #[32] }, type := 97, pos := "l07_window.go:262", after := #[{ on := 0, ground := Ground.data }], guard := none }) rfl (fun K hK => ?_) (AllReadyH.cons (o := { dst := some 6, op := Op.alloc 97, type := 0, pos := "l07_window.go:262", after := #[], guard := none }) rfl (fun K hK => ?_) AllReadyH.nil)
   ·go_simp
    go_at_call 53
    refine (HUA.out _).mono ?_
    rintro e t1 ⟨rfl, hq1⟩
    try go_wp2_with fail
    have hh1 := @JX.below W0 (w.heap.size) (w.heap.size + 1) (w.heap.size + 1 + 1) a1 m1 mo1 ev1 su1 mx1 ta1 tl1 tc1 ha1 hl1 hc1 a2 m2 mo2 ev2 su2 mx2 ta2 tl2 tc2 ha2 hl2 hc2 _ _ hS0 hq1
    have ptX_1 := ptX_0.below hq1
    refine hK.out _ _ hh1 (fun _ => ?_)
    clear hK K
    try simp only [Act.put, SL]
    exact N1_4.out bX t1 ⟨hh1, hloX, ptX_1, trivial⟩
   ·go_simp
    try go_wp2_with fail
    have hneXY : bX ≠ W.heap.size := by have := ptX_0.lt; omega
    have hloY : W0.heap.size ≤ W.heap.size := (hS0).1.size
    have hh1 := @JX.below W0 (w.heap.size) (w.heap.size + 1) (w.heap.size + 1 + 1) a1 m1 mo1 ev1 su1 mx1 ta1 tl1 tc1 ha1 hl1 hc1 a2 m2 mo2 ev2 su2 mx2 ta2 tl2 tc2 ha2 hl2 hc2 _ _ hS0 ((Below.refl W.heap.size W).alloc (Nat.le_refl _) (Obj.cells #[.string ⟨#[]⟩, .string ⟨#[]⟩, .int .i64 0, .int .i64 0, .int .i64 0, .int .i64 0, .slice none 0 0, .nilFunc, .nilFunc, .slice none 0 0, .nilFunc, .nilFunc] 97))
    have ptX_1 := ptX_0.below ((Below.refl W.heap.size W).alloc (Nat.le_refl _) (Obj.cells #[.string ⟨#[]⟩, .string ⟨#[]⟩, .int .i64 0, .int .i64 0, .int .i64 0, .int .i64 0, .slice none 0 0, .nilFunc, .nilFunc, .slice none 0 0, .nilFunc, .nilFunc] 97))
    have ptY_1 : EvtR.Pt W.heap.size 12 (W.alloc (Obj.cells #[.string ⟨#[]⟩, .string ⟨#[]⟩, .int .i64 0, .int .i64 0, .int .i64 0, .int .i64 0, .slice none 0 0, .nilFunc, .nilFunc, .slice none 0 0, .nilFunc, .nilFunc] 97)) := StR.pt_new W [.string ⟨#[]⟩, .string ⟨#[]⟩, .int .i64 0, .int .i64 0, .int .i64 0, .int .i64 0, .slice none 0 0, .nilFunc, .nilFunc, .slice none 0 0, .nilFunc, .nilFunc] 97
    refine hK.out _ _ hh1 (fun _ => ?_)
    clear hK K
    try simp only [Act.put, SL]
    generalize (W.alloc (Obj.cells #[.string ⟨#[]⟩, .string ⟨#[]⟩, .int .i64 0, .int .i64 0, .int .i64 0, .int .i64 0, .slice none 0 0, .nilFunc, .nilFunc, .slice none 0 0, .nilFunc, .nilFunc] 97)) = k1 at *
    obtain ⟨bY, hbYx⟩ : ∃ z, z = W.heap.size := ⟨_, rfl⟩
    rw [← hbYx] at hloY ptY_1 hneXY ⊢
    exact N4_5.out bX bY k1 ⟨hh1, hloX, ptX_1, hloY, ptY_1, hneXY, trivial⟩
  ·rintro  W ⟨hS0, _⟩
   refine wpAnyH_ready (rs := [3, 4, 5]) (by kernel_rfl) (by simp) ?_
   refine AllReadyH.cons (o := { dst := some 11, op := Op.call { callee := Callee.value (Operand.func 53), args := #[Operand.tmp 10], argTypes := #[32] }, type := 97, pos := "l07_window.go:262", after := #[{ on := 2, ground := Ground.data }, { on := 1, ground := Ground.chain }], guard := none }) rfl (fun K hK => ?_) (AllReadyH.cons (o := { dst := some 5, op := Op.alloc 97, type := 0, pos := "l07_window.go:262", after := #[], guard := none }) rfl (fun K hK => ?_) (AllReadyH.cons (o := { dst := some 6, op := Op.alloc 97, type := 0, pos := "l07_window.go:262", after := #[], guard := none }) rfl (fun K hK => ?_) AllReadyH.nil))
   ·go_simp
    go_at_call 53
    refine (HUB.out _).mono ?_
    rintro e t1 ⟨rfl, hq1⟩
    try go_wp2_with fail
    have hh1 := @JX.below W0 (w.heap.size) (w.heap.size + 1) (w.heap.size + 1 + 1) a1 m1 mo1 ev1 su1 mx1 ta1 tl1 tc1 ha1 hl1 hc1 a2 m2 mo2 ev2 su2 mx2 ta2 tl2 tc2 ha2 hl2 hc2 _ _ hS0 hq1
    refine hK.out _ _ hh1 (fun _ => ?_)
    clear hK K
    try simp only [Act.put, SL]
    exact N1_3.out  t1 ⟨hh1, trivial⟩
   ·go_simp
    try go_wp2_with fail
    have hloX : W0.heap.size ≤ W.heap.size := (hS0).1.size
    have hh1 := @JX.below W0 (w.heap.size) (w.heap.size + 1) (w.heap.size + 1 + 1) a1 m1 mo1 ev1 su1 mx1 ta1 tl1 tc1 ha1 hl1 hc1 a2 m2 mo2 ev2 su2 mx2 ta2 tl2 tc2 ha2 hl2 hc2 _ _ hS0 ((Below.refl W.heap.size W).alloc (Nat.le_refl _) (Obj.cells #[.string ⟨#[]⟩, .string ⟨#[]⟩, .int .i64 0, .int .i64 0, .int .i64 0, .int .i64 0, .slice none 0 0, .nilFunc, .nilFunc, .slice none 0 0, .nilFunc, .nilFunc] 97))
    have ptX_1 : EvtR.Pt W.heap.size 12 (W.alloc (Obj.cells #[.string ⟨#[]⟩, .string ⟨#[]⟩, .int .i64 0, .int .i64 0, .int .i64 0, .int .i64 0, .slice none 0 0, .nilFunc, .nilFunc, .slice none 0 0, .nilFunc, .nilFunc] 97)) := StR.pt_new W [.string ⟨#[]⟩, .string ⟨#[]⟩, .int .i64 0, .int .i64 0, .int .i64 0, .int .i64 0, .slice none 0 0, .nilFunc, .nilFunc, .slice none 0 0, .nilFunc, .nilFunc] 97
    refine hK.out _ _ hh1 (fun _ => ?_)
    clear hK K
    try simp only [Act.put, SL]
    generalize (W.alloc (Obj.cells #[.string ⟨#[]⟩, .string ⟨#[]⟩, .int .i64 0, .int .i64 0, .int .i64 0, .int .i64 0, .slice none 0 0, .nilFunc, .nilFunc, .slice none 0 0, .nilFunc, .nilFunc] 97)) = k1 at *
    obtain ⟨bX, hbXx⟩ : ∃ z, z = W.heap.size := ⟨_, rfl⟩
    rw [← hbXx] at hloX ptX_1  ⊢
    exact N1_4.out bX k1 ⟨hh1, hloX, ptX_1, trivial⟩
   ·go_simp
    try go_wp2_with fail
    have hloY : W0.heap.size ≤ W.heap.size := (hS0).1.size
    have hh1 := @JX.below W0 (w.heap.size) (w.heap.size + 1) (w.heap.size + 1 + 1) a1 m1 mo1 ev1 su1 mx1 ta1 tl1 tc1 ha1 hl1 hc1 a2 m2 mo2 ev2 su2 mx2 ta2 tl2 tc2 ha2 hl2 hc2 _ _ hS0 ((Below.refl W.heap.size W).alloc (Nat.le_refl _) (Obj.cells #[.string ⟨#[]⟩, .string ⟨#[]⟩, .int .i64 0, .int .i64 0, .int .i64 0, .int .i64 0, .slice none 0 0, .nilFunc, .nilFunc, .slice none 0 0, .nilFunc, .nilFunc] 97))
    have ptY_1 : EvtR.Pt W.heap.size 12 (W.alloc (Obj.cells #[.string ⟨#[]⟩, .string ⟨#[]⟩, .int .i64 0, .int .i64 0, .int .i64 0, .int .i64 0, .slice none 0 0, .nilFunc, .nilFunc, .slice none 0 0, .nilFunc, .nilFunc] 97)) := StR.pt_new W [.string ⟨#[]⟩, .string ⟨#[]⟩, .int .i64 0, .int .i64 0, .int .i64 0, .int .i64 0, .slice none 0 0, .nilFunc, .nilFunc, .slice none 0 0, .nilFunc, .nilFunc] 97
    refine hK.out _ _ hh1 (fun _ => ?_)
    clear hK K
    try simp only [Act.put, SL]
    generalize (W.alloc (Obj.cells #[.string ⟨#[]⟩, .string ⟨#[]⟩, .int .i64 0, .int .i64 0, .int .i64 0, .int .i64 0, .slice none 0 0, .nilFunc, .nilFunc, .slice none 0 0, .nilFunc, .nilFunc] 97)) = k1 at *
    obtain ⟨bY, hbYx⟩ : ∃ z, z = W.heap.size := ⟨_, rfl⟩
    rw [← hbYx] at hloY ptY_1  ⊢
    exact N1_5.out bY k1 ⟨hh1, hloY, ptY_1, trivial⟩
  ·rintro bX bY W ⟨hS0, hloX, ptX_0, hloY, ptY_0, hneXY, _⟩
   refine wpAnyH_ready (rs := [1]) (by kernel_rfl) (by simp) ?_
   refine AllReadyH.cons (o := { dst := some 9, op := Op.call { callee := Callee.value (Operand.func 53), args := #[Operand.tmp 8], argTypes := #[32] }, type := 97, pos := "l07_window.go:262", after := #[{ on := 0, ground := Ground.data }], guard := none }) rfl (fun K hK => ?_) AllReadyH.nil
   go_simp
   go_at_call 53
   refine (HUA.out _).mono ?_
   rintro e t1 ⟨rfl, hq1⟩
   try go_wp2_with fail
   have hh1 := @JX.below W0 (w.heap.size) (w.heap.size + 1) (w.heap.size + 1 + 1) a1 m1 mo1 ev1 su1 mx1 ta1 tl1 tc1 ha1 hl1 hc1 a2 m2 mo2 ev2 su2 mx2 ta2 tl2 tc2 ha2 hl2 hc2 _ _ hS0 hq1
   have ptX_1 := ptX_0.below hq1
   have ptY_1 := ptY_0.below hq1
   refine hK.out _ _ hh1 (fun _ => ?_)
   clear hK K
   try simp only [Act.put, SL]
   exact N1_4_5.out bX bY t1 ⟨hh1, hloX, ptX_1, hloY, ptY_1, hneXY, trivial⟩
  ·rintro bY W ⟨hS0, hloY, ptY_0, _⟩
   refine wpAnyH_ready (rs := [3, 4]) (by kernel_rfl) (by simp) ?_
   refine AllReadyH.cons (o := { dst := some 11, op := Op.call { callee := Callee.value (Operand.func 53), args := #[Operand.tmp 10], argTypes := #[32] }, type := 97, pos := "l07_window.go:262", after := #[{ on := 2, ground := Ground.data }, { on := 1, ground := Ground.chain }], guard := none }) rfl (fun K hK => ?_) (AllReadyH.cons (o := { dst := some 5, op := Op.alloc 97, type := 0, pos := "l07_window.go:262", after := #[], guard := none }) rfl (fun K hK => ?_) AllReadyH.nil)
   ·go_simp
    go_at_call 53
    refine (HUB.out _).mono ?_
    rintro e t1 ⟨rfl, hq1⟩
    try go_wp2_with fail
    have hh1 := @JX.below W0 (w.heap.size) (w.heap.size + 1) (w.heap.size + 1 + 1) a1 m1 mo1 ev1 su1 mx1 ta1 tl1 tc1 ha1 hl1 hc1 a2 m2 mo2 ev2 su2 mx2 ta2 tl2 tc2 ha2 hl2 hc2 _ _ hS0 hq1
    have ptY_1 := ptY_0.below hq1
    refine hK.out _ _ hh1 (fun _ => ?_)
    clear hK K
    try simp only [Act.put, SL]
    exact N1_3_5.out bY t1 ⟨hh1, hloY, ptY_1, trivial⟩
   ·go_simp
    try go_wp2_with fail
    have hneYX : bY ≠ W.heap.size := by have := ptY_0.lt; omega
    have hloX : W0.heap.size ≤ W.heap.size := (hS0).1.size
    have hh1 := @JX.below W0 (w.heap.size) (w.heap.size + 1) (w.heap.size + 1 + 1) a1 m1 mo1 ev1 su1 mx1 ta1 tl1 tc1 ha1 hl1 hc1 a2 m2 mo2 ev2 su2 mx2 ta2 tl2 tc2 ha2 hl2 hc2 _ _ hS0 ((Below.refl W.heap.size W).alloc (Nat.le_refl _) (Obj.cells #[.string ⟨#[]⟩, .string ⟨#[]⟩, .int .i64 0, .int .i64 0, .int .i64 0, .int .i64 0, .slice none 0 0, .nilFunc, .nilFunc, .slice none 0 0, .nilFunc, .nilFunc] 97))
    have ptY_1 := ptY_0.below ((Below.refl W.heap.size W).alloc (Nat.le_refl _) (Obj.cells #[.string ⟨#[]⟩, .string ⟨#[]⟩, .int .i64 0, .int .i64 0, .int .i64 0, .int .i64 0, .slice none 0 0, .nilFunc, .nilFunc, .slice none 0 0, .nilFunc, .nilFunc] 97))
    have ptX_1 : EvtR.Pt W.heap.size 12 (W.alloc (Obj.cells #[.string ⟨#[]⟩, .string ⟨#[]⟩, .int .i64 0, .int .i64 0, .int .i64 0, .int .i64 0, .slice none 0 0, .nilFunc, .nilFunc, .slice none 0 0, .nilFunc, .nilFunc] 97)) := StR.pt_new W [.string ⟨#[]⟩, .string ⟨#[]⟩, .int .i64 0, .int .i64 0, .int .i64 0, .int .i64 0, .slice none 0 0, .nilFunc, .nilFunc, .slice none 0 0, .nilFunc, .nilFunc] 97
    refine hK.out _ _ hh1 (fun _ => ?_)
    clear hK K
    try simp only [Act.put, SL]
    generalize (W.alloc (Obj.cells #[.string ⟨#[]⟩, .string ⟨#[]⟩, .int .i64 0, .int .i64 0, .int .i64 0, .int .i64 0, .slice none 0 0, .nilFunc, .nilFunc, .slice none 0 0, .nilFunc, .nilFunc] 97)) = k1 at *
    obtain ⟨bX, hbXx⟩ : ∃ z, z = W.heap.size := ⟨_, rfl⟩
    rw [← hbXx] at hloX ptX_1 hneYX ⊢
    exact N1_4_5.out bX bY k1 ⟨hh1, hloX, ptX_1, hloY, ptY_1, (fun e => hneYX e.symm), trivial⟩
  ·rintro bX W ⟨hS0, hloX, ptX_0, _⟩
   refine wpAnyH_ready (rs := [3, 5]) (by kernel_rfl) (by simp) ?_
   refine AllReadyH.cons (o := { dst := some 11, op := Op.call { callee := Callee.value (Operand.func 53), args := #[Operand.tmp 10], argTypes := #[32] }, type := 97, pos := "l07_window.go:262", after := #[{ on := 2, ground := Ground.data }, { on := 1, ground := Ground.chain }], guard := none }) rfl (fun K hK => ?_) (AllReadyH.cons (o := { dst := some 6, op := Op.alloc 97, type := 0, pos := "l07_window.go:262", after := #[], guard := none }) rfl (fun K hK => ?_) AllReadyH.nil)
   ·go_simp
    go_at_call 53
    refine (HUB.out _).mono ?_
    rintro e t1 ⟨rfl, hq1⟩
    try go_wp2_with fail
    have hh1 := @JX.below W0 (w.heap.size) (w.heap.size + 1) (w.heap.size + 1 + 1) a1 m1 mo1 ev1 su1 mx1 ta1 tl1 tc1 ha1 hl1 hc1 a2 m2 mo2 ev2 su2 mx2 ta2 tl2 tc2 ha2 hl2 hc2 _ _ hS0 hq1
    have ptX_1 := ptX_0.below hq1
    refine hK.out _ _ hh1 (fun _ => ?_)
    clear hK K
    try simp only [Act.put, SL]
    exact N1_3_4.out bX t1 ⟨hh1, hloX, ptX_1, trivial⟩
   ·go_simp
    try go_wp2_with fail
    have hneXY : bX ≠ W.heap.size := by have := ptX_0.lt; omega
    have hloY : W0.heap.size ≤ W.heap.size := (hS0).1.size
    have hh1 := @JX.below W0 (w.heap.size) (w.heap.size + 1) (w.heap.size + 1 + 1) a1 m1 mo1 ev1 su1 mx1 ta1 tl1 tc1 ha1 hl1 hc1 a2 m2 mo2 ev2 su2 mx2 ta2 tl2 tc2 ha2 hl2 hc2 _ _ hS0 ((Below.refl W.heap.size W).alloc (Nat.le_refl _) (Obj.cells #[.string ⟨#[]⟩, .string ⟨#[]⟩, .int .i64 0, .int .i64 0, .int .i64 0, .int .i64 0, .slice none 0 0, .nilFunc, .nilFunc, .slice none 0 0, .nilFunc, .nilFunc] 97))
    have ptX_1 := ptX_0.below ((Below.refl W.heap.size W).alloc (Nat.le_refl _) (Obj.cells #[.string ⟨#[]⟩, .string ⟨#[]⟩, .int .i64 0, .int .i64 0, .int .i64 0, .int .i64 0, .slice none 0 0, .nilFunc, .nilFunc, .slice none 0 0, .nilFunc, .nilFunc] 97))
    have ptY_1 : EvtR.Pt W.heap.size 12 (W.alloc (Obj.cells #[.string ⟨#[]⟩, .string ⟨#[]⟩, .int .i64 0, .int .i64 0, .int .i64 0, .int .i64 0, .slice none 0 0, .nilFunc, .nilFunc, .slice none 0 0, .nilFunc, .nilFunc] 97)) := StR.pt_new W [.string ⟨#[]⟩, .string ⟨#[]⟩, .int .i64 0, .int .i64 0, .int .i64 0, .int .i64 0, .slice none 0 0, .nilFunc, .nilFunc, .slice none 0 0, .nilFunc, .nilFunc] 97
    refine hK.out _ _ hh1 (fun _ => ?_)
    clear hK K
    try simp only [Act.put, SL]
    generalize (W.alloc (Obj.cells #[.string ⟨#[]⟩, .string ⟨#[]⟩, .int .i64 0, .int .i64 0, .int .i64 0, .int .i64 0, .slice none 0 0, .nilFunc, .nilFunc, .slice none 0 0, .nilFunc, .nilFunc] 97)) = k1 at *
    obtain ⟨bY, hbYx⟩ : ∃ z, z = W.heap.size := ⟨_, rfl⟩
    rw [← hbYx] at hloY ptY_1 hneXY ⊢
    exact N1_4_5.out bX bY k1 ⟨hh1, hloX, ptX_1, hloY, ptY_1, hneXY, trivial⟩
  ·rintro  W ⟨hS0, _⟩
   refine wpAnyH_ready (rs := [4, 5]) (by kernel_rfl) (by simp) ?_
   refine AllReadyH.cons (o := { dst := some 5, op := Op.alloc 97, type := 0, pos := "l07_window.go:262", after := #[], guard := none }) rfl (fun K hK => ?_) (AllReadyH.cons (o := { dst := some 6, op := Op.alloc 97, type := 0, pos := "l07_window.go:262", after := #[], guard := none }) rfl (fun K hK => ?_) AllReadyH.nil)
   ·go_simp
    try go_wp2_with fail
    have hloX : W0.heap.size ≤ W.heap.size := (hS0).1.size
    have hh1 := @JX.below W0 (w.heap.size) (w.heap.size + 1) (w.heap.size + 1 + 1) a1 m1 mo1 ev1 su1 mx1 ta1 tl1 tc1 ha1 hl1 hc1 a2 m2 mo2 ev2 su2 mx2 ta2 tl2 tc2 ha2 hl2 hc2 _ _ hS0 ((Below.refl W.heap.size W).alloc (Nat.le_refl _) (Obj.cells #[.string ⟨#[]⟩, .string ⟨#[]⟩, .int .i64 0, .int .i64 0, .int .i64 0, .int .i64 0, .slice none 0 0, .nilFunc, .nilFunc, .slice none 0 0, .nilFunc, .nilFunc] 97))
    have ptX_1 : EvtR.Pt W.heap.size 12 (W.alloc (Obj.cells #[.string ⟨#[]⟩, .string ⟨#[]⟩, .int .i64 0, .int .i64 0, .int .i64 0, .int .i64 0, .slice none 0 0, .nilFunc, .nilFunc, .slice none 0 0, .nilFunc, .nilFunc] 97)) := StR.pt_new W [.string ⟨#[]⟩, .string ⟨#[]⟩, .int .i64 0, .int .i64 0, .int .i64 0, .int .i64 0, .slice none 0 0, .nilFunc, .nilFunc, .slice none 0 0, .nilFunc, .nilFunc] 97
    refine hK.out _ _ hh1 (fun _ => ?_)
    clear hK K
    try simp only [Act.put, SL]
    generalize (W.alloc (Obj.cells #[.string ⟨#[]⟩, .string ⟨#[]⟩, .int .i64 0, .int .i64 0, .int .i64 0, .int .i64 0, .slice none 0 0, .nilFunc, .nilFunc, .slice none 0 0, .nilFunc, .nilFunc] 97)) = k1 at *
    obtain ⟨bX, hbXx⟩ : ∃ z, z = W.heap.size := ⟨_, rfl⟩
    rw [← hbXx] at hloX ptX_1  ⊢
    exact N1_3_4.out bX k1 ⟨hh1, hloX, ptX_1, trivial⟩
   ·go_simp
    try go_wp2_with fail
    have hloY : W0.heap.size ≤ W.heap.size := (hS0).1.size
    have hh1 := @JX.below W0 (w.heap.size) (w.heap.size + 1) (w.heap.size + 1 + 1) a1 m1 mo1 ev1 su1 mx1 ta1 tl1 tc1 ha1 hl1 hc1 a2 m2 mo2 ev2 su2 mx2 ta2 tl2 tc2 ha2 hl2 hc2 _ _ hS0 ((Below.refl W.heap.size W).alloc (Nat.le_refl _) (Obj.cells #[.string ⟨#[]⟩, .string ⟨#[]⟩, .int .i64 0, .int .i64 0, .int .i64 0, .int .i64 0, .slice none 0 0, .nilFunc, .nilFunc, .slice none 0 0, .nilFunc, .nilFunc] 97))
    have ptY_1 : EvtR.Pt W.heap.size 12 (W.alloc (Obj.cells #[.string ⟨#[]⟩, .string ⟨#[]⟩, .int .i64 0, .int .i64 0, .int .i64 0, .int .i64 0, .slice none 0 0, .nilFunc, .nilFunc, .slice none 0 0, .nilFunc, .nilFunc] 97)) := StR.pt_new W [.string ⟨#[]⟩, .string ⟨#[]⟩, .int .i64 0, .int .i64 0, .int .i64 0, .int .i64 0, .slice none 0 0, .nilFunc, .nilFunc, .slice none 0 0, .nilFunc, .nilFunc] 97
    refine hK.out _ _ hh1 (fun _ => ?_)
    clear hK K
    try simp only [Act.put, SL]
    generalize (W.alloc (Obj.cells #[.string ⟨#[]⟩, .string ⟨#[]⟩, .int .i64 0, .int .i64 0, .int .i64 0, .int .i64 0, .slice none 0 0, .nilFunc, .nilFunc, .slice none 0 0, .nilFunc, .nilFunc] 97)) = k1 at *
    obtain ⟨bY, hbYx⟩ : ∃ z, z = W.heap.size := ⟨_, rfl⟩
    rw [← hbYx] at hloY ptY_1  ⊢
    exact N1_3_5.out bY k1 ⟨hh1, hloY, ptY_1, trivial⟩
  ·rintro bX bY W ⟨hS0, hloX, ptX_0, hloY, ptY_0, hneXY, _⟩
   refine wpAnyH_ready (rs := [3]) (by kernel_rfl) (by simp) ?_
   refine AllReadyH.cons (o := { dst := some 11, op := Op.call { callee := Callee.value (Operand.func 53), args := #[Operand.tmp 10], argTypes := #[32] }, type := 97, pos := "l07_window.go:262", after := #[{ on := 2, ground := Ground.data }, { on := 1, ground := Ground.chain }], guard := none }) rfl (fun K hK => ?_) AllReadyH.nil
   go_simp
   go_at_call 53
   refine (HUB.out _).mono ?_
   rintro e t1 ⟨rfl, hq1⟩
   try go_wp2_with fail
   have hh1 := @JX.below W0 (w.heap.size) (w.heap.size + 1) (w.heap.size + 1 + 1) a1 m1 mo1 ev1 su1 mx1 ta1 tl1 tc1 ha1 hl1 hc1 a2 m2 mo2 ev2 su2 mx2 ta2 tl2 tc2 ha2 hl2 hc2 _ _ hS0 hq1
   have ptX_1 := ptX_0.below hq1
   have ptY_1 := ptY_0.below hq1
   refine hK.out _ _ hh1 (fun _ => ?_)
   clear hK K
   try simp only [Act.put, SL]
   exact N1_3_4_5.out bX bY t1 ⟨hh1, hloX, ptX_1, hloY, ptY_1, hneXY, trivial⟩
  ·rintro bY W ⟨hS0, hloY, ptY_0, _⟩
   refine wpAnyH_ready (rs := [4]) (by kernel_rfl) (by simp) ?_
   refine AllReadyH.cons (o := { dst := some 5, op := Op.alloc 97, type := 0, pos := "l07_window.go:262", after := #[], guard := none }) rfl (fun K hK => ?_) AllReadyH.nil
   go_simp
   try go_wp2_with fail
   have hneYX : bY ≠ W.heap.size := by have := ptY_0.lt; omega
   have hloX : W0.heap.size ≤ W.heap.size := (hS0).1.size
   have hh1 := @JX.below W0 (w.heap.size) (w.heap.size + 1) (w.heap.size + 1 + 1) a1 m1 mo1 ev1 su1 mx1 ta1 tl1 tc1 ha1 hl1 hc1 a2 m2 mo2 ev2 su2 mx2 ta2 tl2 tc2 ha2 hl2 hc2 _ _ hS0 ((Below.refl W.heap.size W).alloc (Nat.le_refl _) (Obj.cells #[.string ⟨#[]⟩, .string ⟨#[]⟩, .int .i64 0, .int .i64 0, .int .i64 0, .int .i64 0, .slice none 0 0, .nilFunc, .nilFunc, .slice none 0 0, .nilFunc, .nilFunc] 97))
   have ptY_1 := ptY_0.below ((Below.refl W.heap.size W).alloc (Nat.le_refl _) (Obj.cells #[.string ⟨#[]⟩, .string ⟨#[]⟩, .int .i64 0, .int .i64 0, .int .i64 0, .int .i64 0, .slice none 0 0, .nilFunc, .nilFunc, .slice none 0 0, .nilFunc, .nilFunc] 97))
   have ptX_1 : EvtR.Pt W.heap.size 12 (W.alloc (Obj.cells #[.string ⟨#[]⟩, .string ⟨#[]⟩, .int .i64 0, .int .i64 0, .int .i64 0, .int .i64 0, .slice none 0 0, .nilFunc, .nilFunc, .slice none 0 0, .nilFunc, .nilFunc] 97)) := StR.pt_new W [.string ⟨#[]⟩, .string ⟨#[]⟩, .int .i64 0, .int .i64 0, .int .i64 0, .int .i64 0, .slice none 0 0, .nilFunc, .nilFunc, .slice none 0 0, .nilFunc, .nilFunc] 97
   refine hK.out _ _ hh1 (fun _ => ?_)
   clear hK K
   try simp only [Act.put, SL]
   generalize (W.alloc (Obj.cells #[.string ⟨#[]⟩, .string ⟨#[]⟩, .int .i64 0, .int .i64 0, .int .i64 0, .int .i64 0, .slice none 0 0, .nilFunc, .nilFunc, .slice none 0 0, .nilFunc, .nilFunc] 97)) = k1 at *
   obtain ⟨bX, hbXx⟩ : ∃ z, z = W.heap.size := ⟨_, rfl⟩
   rw [← hbXx] at hloX ptX_1 hneYX ⊢
   exact N1_3_4_5.out bX bY k1 ⟨hh1, hloX, ptX_1, hloY, ptY_1, (fun e => hneYX e.symm), trivial⟩
  ·rintro bX W ⟨hS0, hloX, ptX_0, _⟩
   refine wpAnyH_ready (rs := [5]) (by kernel_rfl) (by simp) ?_
   refine AllReadyH.cons (o := { dst := some 6, op := Op.alloc 97, type := 0, pos := "l07_window.go:262", after := #[], guard := none }) rfl (fun K hK => ?_) AllReadyH.nil
   go_simp
   try go_wp2_with fail
   have hneXY : bX ≠ W.heap.size := by have := ptX_0.lt; omega
   have hloY : W0.heap.size ≤ W.heap.size := (hS0).1.size
   have hh1 := @JX.below W0 (w.heap.size) (w.heap.size + 1) (w.heap.size + 1 + 1) a1 m1 mo1 ev1 su1 mx1 ta1 tl1 tc1 ha1 hl1 hc1 a2 m2 mo2 ev2 su2 mx2 ta2 tl2 tc2 ha2 hl2 hc2 _ _ hS0 ((Below.refl W.heap.size W).alloc (Nat.le_refl _) (Obj.cells #[.string ⟨#[]⟩, .string ⟨#[]⟩, .int .i64 0, .int .i64 0, .int .i64 0, .int .i64 0, .slice none 0 0, .nilFunc, .nilFunc, .slice none 0 0, .nilFunc, .nilFunc] 97))
   have ptX_1 := ptX_0.below ((Below.refl W.heap.size W).alloc (Nat.le_refl _) (Obj.cells #[.string ⟨#[]⟩, .string ⟨#[]⟩, .int .i64 0, .int .i64 0, .int .i64 0, .int .i64 0, .slice none 0 0, .nilFunc, .nilFunc, .slice none 0 0, .nilFunc, .nilFunc] 97))
   have ptY_1 : EvtR.Pt W.heap.size 12 (W.alloc (Obj.cells #[.string ⟨#[]⟩, .string ⟨#[]⟩, .int .i64 0, .int .i64 0, .int .i64 0, .int .i64 0, .slice none 0 0, .nilFunc, .nilFunc, .slice none 0 0, .nilFunc, .nilFunc] 97)) := StR.pt_new W [.string ⟨#[]⟩, .string ⟨#[]⟩, .int .i64 0, .int .i64 0, .int .i64 0, .int .i64 0, .slice none 0 0, .nilFunc, .nilFunc, .slice none 0 0, .nilFunc, .nilFunc] 97
   refine hK.out _ _ hh1 (fun _ => ?_)
   clear hK K
   try simp only [Act.put, SL]
   generalize (W.alloc (Obj.cells #[.string ⟨#[]⟩, .string ⟨#[]⟩, .int .i64 0, .int .i64 0, .int .i64 0, .int .i64 0, .slice none 0 0, .nilFunc, .nilFunc, .slice none 0 0, .nilFunc, .nilFunc] 97)) = k1 at *
   obtain ⟨bY, hbYx⟩ : ∃ z, z = W.heap.size := ⟨_, rfl⟩
   rw [← hbYx] at hloY ptY_1 hneXY ⊢
   exact N1_3_4_5.out bX bY k1 ⟨hh1, hloX, ptX_1, hloY, ptY_1, hneXY, trivial⟩
  ·rintro bX bY W ⟨hS0, hloX, ptX_0, hloY, ptY_0, hneXY, _⟩
   refine wpAnyH_ready (rs := [6]) (by kernel_rfl) (by simp) ?_
   refine AllReadyH.cons (o := { dst := none, op := Op.store 97 (Operand.tmp 5) (Operand.tmp 9), type := 0, pos := "l07_window.go:262", after := #[{ on := 4, ground := Ground.data }, { on := 1, ground := Ground.data }, { on := 3, ground := Ground.chain }, { on := 0, ground := Ground.phase }, { on := 1, ground := Ground.phase }, { on := 2, ground := Ground.textOnly Departure.lateStores }, { on := 3, ground := Ground.textOnly Departure.lateStoresUnsure }, { on := 4, ground := Ground.phase }, { on := 5, ground := Ground.phase }], guard := none }) rfl (fun K hK => ?_) AllReadyH.nil
   have zl1 := ptX_0.lt
   obtain ⟨e1_0, u1_0⟩ := ptX_0.has 0 (by omega)
   have w1_0 := ptX_0.free 0 (by omega)
   obtain ⟨e1_1, u1_1⟩ := ptX_0.has 1 (by omega)
   have w1_1 := ptX_0.free 1 (by omega)
   obtain ⟨e1_2, u1_2⟩ := ptX_0.has 2 (by omega)
   have w1_2 := ptX_0.free 2 (by omega)
   obtain ⟨e1_3, u1_3⟩ := ptX_0.has 3 (by omega)
   have w1_3 := ptX_0.free 3 (by omega)
   obtain ⟨e1_4, u1_4⟩ := ptX_0.has 4 (by omega)
   have w1_4 := ptX_0.free 4 (by omega)
   obtain ⟨e1_5, u1_5⟩ := ptX_0.has 5 (by omega)
   have w1_5 := ptX_0.free 5 (by omega)
   obtain ⟨e1_6, u1_6⟩ := ptX_0.has 6 (by omega)
   have w1_6 := ptX_0.free 6 (by omega)
   obtain ⟨e1_7, u1_7⟩ := ptX_0.has 7 (by omega)
   have w1_7 := ptX_0.free 7 (by omega)
   obtain ⟨e1_8, u1_8⟩ := ptX_0.has 8 (by omega)
   have w1_8 := ptX_0.free 8 (by omega)
   obtain ⟨e1_9, u1_9⟩ := ptX_0.has 9 (by omega)
   have w1_9 := ptX_0.free 9 (by omega)
   obtain ⟨e1_10, u1_10⟩ := ptX_0.has 10 (by omega)
   have w1_10 := ptX_0.free 10 (by omega)
   obtain ⟨e1_11, u1_11⟩ := ptX_0.has 11 (by omega)
   have w1_11 := ptX_0.free 11 (by omega)
   go_simp
   try go_wp2_with fail
   have hg1 := StR.stL_grown bX [.string a1, .string m1, .int .i64 mo1, .int .i64 ev1, .int .i64 su1, .int .i64 mx1, .slice ta1 tl1 tc1, .func (.func 88) #[] #[], .func (.func 89) #[] #[], .slice ha1 hl1 hc1, .func (.func 90) #[] #[], .func (.func 91) #[] #[]] 0 W
   have hbX_1 := StR.stL_blk (vs := [.string a1, .string m1, .int .i64 mo1, .int .i64 ev1, .int .i64 su1, .int .i64 mx1, .slice ta1 tl1 tc1, .func (.func 88) #[] #[], .func (.func 89) #[] #[], .slice ha1 hl1 hc1, .func (.func 90) #[] #[], .func (.func 91) #[] #[]]) (W := W) ptX_0 (by simp)
   have hh1 := @JX.grown W0 (w.heap.size) (w.heap.size + 1) (w.heap.size + 1 + 1) a1 m1 mo1 ev1 su1 mx1 ta1 tl1 tc1 ha1 hl1 hc1 a2 m2 mo2 ev2 su2 mx2 ta2 tl2 tc2 ha2 hl2 hc2 _ _ _ hS0 hloX a0 b0 r0 hg1
   have ptY_1 := StR.pt_far ptY_0 hg1 (fun e => hneXY e.symm)
   simp only [StR.stL, Nat.zero_add, Nat.reduceAdd] at hh1 hg1 hbX_1 ptY_1
   refine hK.out _ _ hh1 (fun _ => ?_)
   clear hK K
   try simp only [Act.put, SL]
   generalize ((((((((((((W.setCell ⟨bX, 0, none⟩ (.string a1)).setCell ⟨bX, 1, none⟩ (.string m1)).setCell ⟨bX, 2, none⟩ (.int .i64 mo1)).setCell ⟨bX, 3, none⟩ (.int .i64 ev1)).setCell ⟨bX, 4, none⟩ (.int .i64 su1)).setCell ⟨bX, 5, none⟩ (.int .i64 mx1)).setCell ⟨bX, 6, none⟩ (.slice ta1 tl1 tc1)).setCell ⟨bX, 7, none⟩ (.func (.func 88) #[] #[])).setCell ⟨bX, 8, none⟩ (.func (.func 89) #[] #[])).setCell ⟨bX, 9, none⟩ (.slice ha1 hl1 hc1)).setCell ⟨bX, 10, none⟩ (.func (.func 90) #[] #[])).setCell ⟨bX, 11, none⟩ (.func (.func 91) #[] #[])) = k1 at *
   exact N1_3_4_5_6.out bX bY k1 ⟨hh1, hloX, hbX_1, hloY, ptY_1, hneXY, trivial⟩
  ·rintro bX bY W ⟨hS0, hloX, blkX_0, hloY, ptY_0, hneXY, _⟩
   refine wpAnyH_ready (rs := [7]) (by kernel_rfl) (by simp) ?_
   refine AllReadyH.cons (o := { dst := none, op := Op.store 97 (Operand.tmp 6) (Operand.tmp 11), type := 0, pos := "l07_window.go:262", after := #[{ on := 5, ground := Ground.data }, { on := 3, ground := Ground.data }, { on := 6, ground := Ground.chain }, { on := 0, ground := Ground.phase }, { on := 1, ground := Ground.phase }, { on := 2, ground := Ground.phase }, { on := 3, ground := Ground.phase }, { on := 4, ground := Ground.phase }, { on := 5, ground := Ground.phase }, { on := 6, ground := Ground.phase }], guard := none }) rfl (fun K hK => ?_) AllReadyH.nil
   have zl1 := ptY_0.lt
   obtain ⟨e1_0, u1_0⟩ := ptY_0.has 0 (by omega)
   have w1_0 := ptY_0.free 0 (by omega)
   obtain ⟨e1_1, u1_1⟩ := ptY_0.has 1 (by omega)
   have w1_1 := ptY_0.free 1 (by omega)
   obtain ⟨e1_2, u1_2⟩ := ptY_0.has 2 (by omega)
   have w1_2 := ptY_0.free 2 (by omega)
   obtain ⟨e1_3, u1_3⟩ := ptY_0.has 3 (by omega)
   have w1_3 := ptY_0.free 3 (by omega)
   obtain ⟨e1_4, u1_4⟩ := ptY_0.has 4 (by omega)
   have w1_4 := ptY_0.free 4 (by omega)
   obtain ⟨e1_5, u1_5⟩ := ptY_0.has 5 (by omega)
   have w1_5 := ptY_0.free 5 (by omega)
   obtain ⟨e1_6, u1_6⟩ := ptY_0.has 6 (by omega)
   have w1_6 := ptY_0.free 6 (by omega)
   obtain ⟨e1_7, u1_7⟩ := ptY_0.has 7 (by omega)
   have w1_7 := ptY_0.free 7 (by omega)
   obtain ⟨e1_8, u1_8⟩ := ptY_0.has 8 (by omega)
   have w1_8 := ptY_0.free 8 (by omega)
   obtain ⟨e1_9, u1_9⟩ := ptY_0.has 9 (by omega)
   have w1_9 := ptY_0.free 9 (by omega)
   obtain ⟨e1_10, u1_10⟩ := ptY_0.has 10 (by omega)
   have w1_10 := ptY_0.free 10 (by omega)
   obtain ⟨e1_11, u1_11⟩ := ptY_0.has 11 (by omega)
   have w1_11 := ptY_0.free 11 (by omega)
   go_simp
   try go_wp2_with fail
   have hg1 := StR.stL_grown bY [.string a2, .string m2, .int .i64 mo2, .int .i64 ev2, .int .i64 su2, .int .i64 mx2, .slice ta2 tl2 tc2, .func (.func 88) #[] #[], .func (.func 89) #[] #[], .slice ha2 hl2 hc2, .func (.func 90) #[] #[], .func (.func 91) #[] #[]] 0 W
   have hbY_1 := StR.stL_blk (vs := [.string a2, .string m2, .int .i64 mo2, .int .i64 ev2, .int .i64 su2, .int .i64 mx2, .slice ta2 tl2 tc2, .func (.func 88) #[] #[], .func (.func 89) #[] #[], .slice ha2 hl2 hc2, .func (.func 90) #[] #[], .func (.func 91) #[] #[]]) (W := W) ptY_0 (by simp)
   have hh1 := @JX.grown W0 (w.heap.size) (w.heap.size + 1) (w.heap.size + 1 + 1) a1 m1 mo1 ev1 su1 mx1 ta1 tl1 tc1 ha1 hl1 hc1 a2 m2 mo2 ev2 su2 mx2 ta2 tl2 tc2 ha2 hl2 hc2 _ _ _ hS0 hloY a0 b0 r0 hg1
   have blkX_1 := StR.blk_far blkX_0 hg1 hneXY
   simp only [StR.stL, Nat.zero_add, Nat.reduceAdd] at hh1 hg1 hbY_1 blkX_1
   refine hK.out _ _ hh1 (fun _ => ?_)
   clear hK K
   try simp only [Act.put, SL]
   generalize ((((((((((((W.setCell ⟨bY, 0, none⟩ (.string a2)).setCell ⟨bY, 1, none⟩ (.string m2)).setCell ⟨bY, 2, none⟩ (.int .i64 mo2)).setCell ⟨bY, 3, none⟩ (.int .i64 ev2)).setCell ⟨bY, 4, none⟩ (.int .i64 su2)).setCell ⟨bY, 5, none⟩ (.int .i64 mx2)).setCell ⟨bY, 6, none⟩ (.slice ta2 tl2 tc2)).setCell ⟨bY, 7, none⟩ (.func (.func 88) #[] #[])).setCell ⟨bY, 8, none⟩ (.func (.func 89) #[] #[])).setCell ⟨bY, 9, none⟩ (.slice ha2 hl2 hc2)).setCell ⟨bY, 10, none⟩ (.func (.func 90) #[] #[])).setCell ⟨bY, 11, none⟩ (.func (.func 91) #[] #[])) = k1 at *
   refine wpAnyH_done (by kernel_rfl) ?_ _
   have HBX := hid_intro blkX_1
   have HBY := hid_intro hbY_1
   have HE := hid_intro (show JX W0 w.heap.size (w.heap.size + 1) (w.heap.size + 1 + 1) a1 m1 mo1 ev1 su1 mx1 ta1 tl1 tc1 ha1 hl1 hc1 a2 m2 mo2 ev2 su2 mx2 ta2 tl2 tc2 ha2 hl2 hc2 k1 from hh1)
   try clear u1_11
   try clear u1_10
   try clear u1_9
   try clear u1_8
   try clear u1_7
   try clear u1_6
   try clear u1_5
   try clear u1_4
   try clear u1_3
   try clear u1_2
   try clear u1_1
   try clear u1_0
   try clear blkX_1
   try clear hh1
   try clear hbY_1
   try clear hg1
   try clear w1_11
   try clear w1_10
   try clear w1_9
   try clear w1_8
   try clear w1_7
   try clear w1_6
   try clear w1_5
   try clear w1_4
   try clear w1_3
   try clear w1_2
   try clear w1_1
   try clear w1_0
   try clear zl1
   go_wp2_with fail
   go_meet
   case rel => exact ⟨_, _, rfl, rfl, HBX, HBY, HE⟩
 case rest =>
  obtain ⟨bX, bY, rfl, rfl, HBX, HBY, HE⟩ := hcut
  clear HX0 HX1 HUA HUB HW
  have HBW := hid_intro (HB0.out.trans (HE.out.1.mono HB0.out.size))
  have x0 : wc.cell? ⟨bX, 0, none⟩ = some (.string a1) := HBX.out.2 0 (by simp)
  have x1 : wc.cell? ⟨bX, 1, none⟩ = some (.string m1) := HBX.out.2 1 (by simp)
  have x2 : wc.cell? ⟨bX, 2, none⟩ = some (.int .i64 mo1) := HBX.out.2 2 (by simp)
  have x3 : wc.cell? ⟨bX, 3, none⟩ = some (.int .i64 ev1) := HBX.out.2 3 (by simp)
  have x4 : wc.cell? ⟨bX, 4, none⟩ = some (.int .i64 su1) := HBX.out.2 4 (by simp)
  have x5 : wc.cell? ⟨bX, 5, none⟩ = some (.int .i64 mx1) := HBX.out.2 5 (by simp)
  have x6 : wc.cell? ⟨bX, 6, none⟩ = some (.slice ta1 tl1 tc1) := HBX.out.2 6 (by simp)
  have x7 : wc.cell? ⟨bX, 7, none⟩ = some (.func (.func 88) #[] #[]) := HBX.out.2 7 (by simp)
  have x8 : wc.cell? ⟨bX, 8, none⟩ = some (.func (.func 89) #[] #[]) := HBX.out.2 8 (by simp)
  have x9 : wc.cell? ⟨bX, 9, none⟩ = some (.slice ha1 hl1 hc1) := HBX.out.2 9 (by simp)
  have x10 : wc.cell? ⟨bX, 10, none⟩ = some (.func (.func 90) #[] #[]) := HBX.out.2 10 (by simp)
  have x11 : wc.cell? ⟨bX, 11, none⟩ = some (.func (.func 91) #[] #[]) := HBX.out.2 11 (by simp)
  have lx := HBX.out.1
  cases r1
  ·go_wp2_with fail
   refine (HR1.out _ HBW.out).mono ?_
   rintro e w1 ⟨rfl, hb1⟩
   have HB1 := hid_intro (HBW.out.trans (hb1.mono HBW.out.size))
   have HE1 := hid_intro (HE.out.below hb1)
   clear hb1 HE
   clear x0 x1 x2 x3 x4 x5 x6 x7 x8 x9 x10 x11 lx
   have hp9 := HE1.out.pt
   have hl9 := hp9.lt
   obtain ⟨o0, r0⟩ := hp9.has 0 (by omega)
   have f0 := hp9.free 0 (by omega)
   obtain ⟨o1, r1⟩ := hp9.has 1 (by omega)
   have f1 := hp9.free 1 (by omega)
   obtain ⟨o2, r2⟩ := hp9.has 2 (by omega)
   have f2 := hp9.free 2 (by omega)
   obtain ⟨o3, r3⟩ := hp9.has 3 (by omega)
   have f3 := hp9.free 3 (by omega)
   obtain ⟨o4, r4⟩ := hp9.has 4 (by omega)
   have f4 := hp9.free 4 (by omega)
   obtain ⟨o5, r5⟩ := hp9.has 5 (by omega)
   have f5 := hp9.free 5 (by omega)
   obtain ⟨o6, r6⟩ := hp9.has 6 (by omega)
   have f6 := hp9.free 6 (by omega)
   obtain ⟨o7, r7⟩ := hp9.has 7 (by omega)
   have f7 := hp9.free 7 (by omega)
   obtain ⟨o8, r8⟩ := hp9.has 8 (by omega)
   have f8 := hp9.free 8 (by omega)
   have hgf := StR.stL_grown (w.heap.size + 1 + 1) [.string ⟨#[]⟩, .string ⟨#[]⟩, .int .i64 0, .int .i64 0, .int .i64 0, .int .i64 0, .slice none 0 0, .slice none 0 0, .int .i64 1] 0 w1
   have HBF := hid_intro (HB1.out.grown hgf HB1.out.size (fun k e => by simp only [Option.some.injEq] at e; omega))
   have HGF := hid_intro hgf
   simp only [StR.stL, Nat.zero_add, Nat.reduceAdd] at HBF HGF
   clear hgf hp9
   go_wp2_with fail
   refine bodyPost_ret (v := .agg #[.string ⟨#[]⟩, .string ⟨#[]⟩, .int .i64 0, .int .i64 0, .int .i64 0, .int .i64 0, .slice none 0 0, .slice none 0 0, .int .i64 1]) (by simp [results, Tryd.results27, go_sem, r0, r1, r2, r3, r4, r5, r6, r7, r8]) rfl ⟨.inl ⟨rfl, rfl⟩, HBF.out⟩
  go_wp2_with fail
  refine (HR1.out _ HBW.out).mono ?_
  rintro e w1 ⟨rfl, hb1⟩
  have HB1 := hid_intro (HBW.out.trans (hb1.mono HBW.out.size))
  have HE1 := hid_intro (HE.out.below hb1)
  have HX1' := hid_intro (HBX.out.below hb1)
  have HY1' := hid_intro (HBY.out.below hb1)
  clear hb1 HE HBX HBY HBW
  clear x0 x1 x2 x3 x4 x5 x6 x7 x8 x9 x10 x11 lx
  have y0 : w1.cell? ⟨bY, 0, none⟩ = some (.string a2) := HY1'.out.2 0 (by simp)
  have y1 : w1.cell? ⟨bY, 1, none⟩ = some (.string m2) := HY1'.out.2 1 (by simp)
  have y2 : w1.cell? ⟨bY, 2, none⟩ = some (.int .i64 mo2) := HY1'.out.2 2 (by simp)
  have y3 : w1.cell? ⟨bY, 3, none⟩ = some (.int .i64 ev2) := HY1'.out.2 3 (by simp)
  have y4 : w1.cell? ⟨bY, 4, none⟩ = some (.int .i64 su2) := HY1'.out.2 4 (by simp)
  have y5 : w1.cell? ⟨bY, 5, none⟩ = some (.int .i64 mx2) := HY1'.out.2 5 (by simp)
  have y6 : w1.cell? ⟨bY, 6, none⟩ = some (.slice ta2 tl2 tc2) := HY1'.out.2 6 (by simp)
  have y7 : w1.cell? ⟨bY, 7, none⟩ = some (.func (.func 88) #[] #[]) := HY1'.out.2 7 (by simp)
  have y8 : w1.cell? ⟨bY, 8, none⟩ = some (.func (.func 89) #[] #[]) := HY1'.out.2 8 (by simp)
  have y9 : w1.cell? ⟨bY, 9, none⟩ = some (.slice ha2 hl2 hc2) := HY1'.out.2 9 (by simp)
  have y10 : w1.cell? ⟨bY, 10, none⟩ = some (.func (.func 90) #[] #[]) := HY1'.out.2 10 (by simp)
  have y11 : w1.cell? ⟨bY, 11, none⟩ = some (.func (.func 91) #[] #[]) := HY1'.out.2 11 (by simp)
  have ly := HY1'.out.1
  cases r2
  ·go_wp2_with fail
   refine (HR2.out _ HB1.out).mono ?_
   rintro e w2 ⟨rfl, hb2⟩
   have HB2 := hid_intro (HB1.out.trans (hb2.mono HB1.out.size))
   have HE2 := hid_intro (HE1.out.below hb2)
   clear hb2 HE1
   clear y0 y1 y2 y3 y4 y5 y6 y7 y8 y9 y10 y11 ly
   have hp9 := HE2.out.pt
   have hl9 := hp9.lt
   obtain ⟨o0, r0⟩ := hp9.has 0 (by omega)
   have f0 := hp9.free 0 (by omega)
   obtain ⟨o1, r1⟩ := hp9.has 1 (by omega)
   have f1 := hp9.free 1 (by omega)
   obtain ⟨o2, r2⟩ := hp9.has 2 (by omega)
   have f2 := hp9.free 2 (by omega)
   obtain ⟨o3, r3⟩ := hp9.has 3 (by omega)
   have f3 := hp9.free 3 (by omega)
   obtain ⟨o4, r4⟩ := hp9.has 4 (by omega)
   have f4 := hp9.free 4 (by omega)
   obtain ⟨o5, r5⟩ := hp9.has 5 (by omega)
   have f5 := hp9.free 5 (by omega)
   obtain ⟨o6, r6⟩ := hp9.has 6 (by omega)
   have f6 := hp9.free 6 (by omega)
   obtain ⟨o7, r7⟩ := hp9.has 7 (by omega)
   have f7 := hp9.free 7 (by omega)
   obtain ⟨o8, r8⟩ := hp9.has 8 (by omega)
   have f8 := hp9.free 8 (by omega)
   have hgf := StR.stL_grown (w.heap.size + 1 + 1) [.string ⟨#[]⟩, .string ⟨#[]⟩, .int .i64 0, .int .i64 0, .int .i64 0, .int .i64 0, .slice none 0 0, .slice none 0 0, .int .i64 1] 0 w2
   have HBF := hid_intro (HB2.out.grown hgf HB2.out.size (fun k e => by simp only [Option.some.injEq] at e; omega))
   have HGF := hid_intro hgf
   simp only [StR.stL, Nat.zero_add, Nat.reduceAdd] at HBF HGF
   clear hgf hp9
   go_wp2_with fail
   refine bodyPost_ret (v := .agg #[.string ⟨#[]⟩, .string ⟨#[]⟩, .int .i64 0, .int .i64 0, .int .i64 0, .int .i64 0, .slice none 0 0, .slice none 0 0, .int .i64 1]) (by simp [results, Tryd.results27, go_sem, r0, r1, r2, r3, r4, r5, r6, r7, r8]) rfl ⟨.inl ⟨rfl, rfl⟩, HBF.out⟩
  go_wp2_with fail
  refine (HR2.out _ HB1.out).mono ?_
  rintro e w2 ⟨rfl, hb2⟩
  have HB2 := hid_intro (HB1.out.trans (hb2.mono HB1.out.size))
  have HE2 := hid_intro (HE1.out.below hb2)
  have HX2 := hid_intro (HX1'.out.below hb2)
  have HY2 := hid_intro (HY1'.out.below hb2)
  clear hb2 HE1 HX1' HY1' HB1 HR1 HR2
  clear y0 y1 y2 y3 y4 y5 y6 y7 y8 y9 y10 y11 ly
  have x0 : w2.cell? ⟨bX, 0, none⟩ = some (.string a1) := HX2.out.2 0 (by simp)
  have x1 : w2.cell? ⟨bX, 1, none⟩ = some (.string m1) := HX2.out.2 1 (by simp)
  have x2 : w2.cell? ⟨bX, 2, none⟩ = some (.int .i64 mo1) := HX2.out.2 2 (by simp)
  have x3 : w2.cell? ⟨bX, 3, none⟩ = some (.int .i64 ev1) := HX2.out.2 3 (by simp)
  have x4 : w2.cell? ⟨bX, 4, none⟩ = some (.int .i64 su1) := HX2.out.2 4 (by simp)
  have x5 : w2.cell? ⟨bX, 5, none⟩ = some (.int .i64 mx1) := HX2.out.2 5 (by simp)
  have x6 : w2.cell? ⟨bX, 6, none⟩ = some (.slice ta1 tl1 tc1) := HX2.out.2 6 (by simp)
  have x7 : w2.cell? ⟨bX, 7, none⟩ = some (.func (.func 88) #[] #[]) := HX2.out.2 7 (by simp)
  have x8 : w2.cell? ⟨bX, 8, none⟩ = some (.func (.func 89) #[] #[]) := HX2.out.2 8 (by simp)
  have x9 : w2.cell? ⟨bX, 9, none⟩ = some (.slice ha1 hl1 hc1) := HX2.out.2 9 (by simp)
  have x10 : w2.cell? ⟨bX, 10, none⟩ = some (.func (.func 90) #[] #[]) := HX2.out.2 10 (by simp)
  have x11 : w2.cell? ⟨bX, 11, none⟩ = some (.func (.func 91) #[] #[]) := HX2.out.2 11 (by simp)
  have lx := HX2.out.1
  have y0 : w2.cell? ⟨bY, 0, none⟩ = some (.string a2) := HY2.out.2 0 (by simp)
  have y1 : w2.cell? ⟨bY, 1, none⟩ = some (.string m2) := HY2.out.2 1 (by simp)
  have y2 : w2.cell? ⟨bY, 2, none⟩ = some (.int .i64 mo2) := HY2.out.2 2 (by simp)
  have y3 : w2.cell? ⟨bY, 3, none⟩ = some (.int .i64 ev2) := HY2.out.2 3 (by simp)
  have y4 : w2.cell? ⟨bY, 4, none⟩ = some (.int .i64 su2) := HY2.out.2 4 (by simp)
  have y5 : w2.cell? ⟨bY, 5, none⟩ = some (.int .i64 mx2) := HY2.out.2 5 (by simp)
  have y6 : w2.cell? ⟨bY, 6, none⟩ = some (.slice ta2 tl2 tc2) := HY2.out.2 6 (by simp)
  have y7 : w2.cell? ⟨bY, 7, none⟩ = some (.func (.func 88) #[] #[]) := HY2.out.2 7 (by simp)
  have y8 : w2.cell? ⟨bY, 8, none⟩ = some (.func (.func 89) #[] #[]) := HY2.out.2 8 (by simp)
  have y9 : w2.cell? ⟨bY, 9, none⟩ = some (.slice ha2 hl2 hc2) := HY2.out.2 9 (by simp)
  have y10 : w2.cell? ⟨bY, 10, none⟩ = some (.func (.func 90) #[] #[]) := HY2.out.2 10 (by simp)
  have y11 : w2.cell? ⟨bY, 11, none⟩ = some (.func (.func 91) #[] #[]) := HY2.out.2 11 (by simp)
  have ly := HY2.out.1
  have HWJ := hid_intro (HWI.out (by simp) (by simp))
  clear HWI
  by_cases hsa : a1 = a2
  rotate_left
  ·have na : a1.toList ≠ a2.toList := fun q => hsa (LtR.toList_inj q)
   have na2 : (a1.toList == a2.toList) = false := by simpa using na
   have HSN : Hid (¬ (a1 = a2 ∧ m1 = m2 ∧ mo1 = mo2)) := hid_intro (fun q => hsa q.1)
   have hp9 := HE2.out.pt
   have hl9 := hp9.lt
   obtain ⟨o0, r0⟩ := hp9.has 0 (by omega)
   have f0 := hp9.free 0 (by omega)
   obtain ⟨o1, r1⟩ := hp9.has 1 (by omega)
   have f1 := hp9.free 1 (by omega)
   obtain ⟨o2, r2⟩ := hp9.has 2 (by omega)
   have f2 := hp9.free 2 (by omega)
   obtain ⟨o3, r3⟩ := hp9.has 3 (by omega)
   have f3 := hp9.free 3 (by omega)
   obtain ⟨o4, r4⟩ := hp9.has 4 (by omega)
   have f4 := hp9.free 4 (by omega)
   obtain ⟨o5, r5⟩ := hp9.has 5 (by omega)
   have f5 := hp9.free 5 (by omega)
   obtain ⟨o6, r6⟩ := hp9.has 6 (by omega)
   have f6 := hp9.free 6 (by omega)
   obtain ⟨o7, r7⟩ := hp9.has 7 (by omega)
   have f7 := hp9.free 7 (by omega)
   obtain ⟨o8, r8⟩ := hp9.has 8 (by omega)
   have f8 := hp9.free 8 (by omega)
   have hgf := StR.stL_grown (w.heap.size + 1 + 1) [.string ⟨#[]⟩, .string ⟨#[]⟩, .int .i64 0, .int .i64 0, .int .i64 0, .int .i64 0, .slice none 0 0, .slice none 0 0, .int .i64 10] 0 w2
   have HBF := hid_intro (HB2.out.grown hgf HB2.out.size (fun k e => by simp only [Option.some.injEq] at e; omega))
   have HGF := hid_intro hgf
   simp only [StR.stL, Nat.zero_add, Nat.reduceAdd] at HBF HGF
   clear hgf hp9
   go_wp2_with fail
   refine bodyPost_ret (v := .agg #[.string ⟨#[]⟩, .string ⟨#[]⟩, .int .i64 0, .int .i64 0, .int .i64 0, .int .i64 0, .slice none 0 0, .slice none 0 0, .int .i64 10]) (by simp [results, Tryd.results27, go_sem, r0, r1, r2, r3, r4, r5, r6, r7, r8]) rfl ⟨.inr (.inl ⟨rfl, (by first | exact HSN.out | (simp; done) | simpa using HSN.out), rfl⟩), HBF.out⟩
  subst hsa
  by_cases hsb : m1 = m2
  rotate_left
  ·have na : m1.toList ≠ m2.toList := fun q => hsb (LtR.toList_inj q)
   have na2 : (m1.toList == m2.toList) = false := by simpa using na
   have HSN : Hid (¬ (a1 = a1 ∧ m1 = m2 ∧ mo1 = mo2)) := hid_intro (fun q => hsb q.2.1)
   have hp9 := HE2.out.pt
   have hl9 := hp9.lt
   obtain ⟨o0, r0⟩ := hp9.has 0 (by omega)
   have f0 := hp9.free 0 (by omega)
   obtain ⟨o1, r1⟩ := hp9.has 1 (by omega)
   have f1 := hp9.free 1 (by omega)
   obtain ⟨o2, r2⟩ := hp9.has 2 (by omega)
   have f2 := hp9.free 2 (by omega)
   obtain ⟨o3, r3⟩ := hp9.has 3 (by omega)
   have f3 := hp9.free 3 (by omega)
   obtain ⟨o4, r4⟩ := hp9.has 4 (by omega)
   have f4 := hp9.free 4 (by omega)
   obtain ⟨o5, r5⟩ := hp9.has 5 (by omega)
   have f5 := hp9.free 5 (by omega)
   obtain ⟨o6, r6⟩ := hp9.has 6 (by omega)
   have f6 := hp9.free 6 (by omega)
   obtain ⟨o7, r7⟩ := hp9.has 7 (by omega)
   have f7 := hp9.free 7 (by omega)
   obtain ⟨o8, r8⟩ := hp9.has 8 (by omega)
   have f8 := hp9.free 8 (by omega)
   have hgf := StR.stL_grown (w.heap.size + 1 + 1) [.string ⟨#[]⟩, .string ⟨#[]⟩, .int .i64 0, .int .i64 0, .int .i64 0, .int .i64 0, .slice none 0 0, .slice none 0 0, .int .i64 10] 0 w2
   have HBF := hid_intro (HB2.out.grown hgf HB2.out.size (fun k e => by simp only [Option.some.injEq] at e; omega))
   have HGF := hid_intro hgf
   simp only [StR.stL, Nat.zero_add, Nat.reduceAdd] at HBF HGF
   clear hgf hp9
   go_wp2_with fail
   refine bodyPost_ret (v := .agg #[.string ⟨#[]⟩, .string ⟨#[]⟩, .int .i64 0, .int .i64 0, .int .i64 0, .int .i64 0, .slice none 0 0, .slice none 0 0, .int .i64 10]) (by simp [results, Tryd.results27, go_sem, r0, r1, r2, r3, r4, r5, r6, r7, r8]) rfl ⟨.inr (.inl ⟨rfl, (by first | exact HSN.out | (simp; done) | simpa using HSN.out), rfl⟩), HBF.out⟩
  subst hsb
  by_cases hsc : mo1 = mo2
  rotate_left
  ·have na2 : (mo1 == mo2) = false := by simpa using hsc
   have HSN : Hid (¬ (a1 = a1 ∧ m1 = m1 ∧ mo1 = mo2)) := hid_intro (fun q => hsc q.2.2)
   have hp9 := HE2.out.pt
   have hl9 := hp9.lt
   obtain ⟨o0, r0⟩ := hp9.has 0 (by omega)
   have f0 := hp9.free 0 (by omega)
   obtain ⟨o1, r1⟩ := hp9.has 1 (by omega)
   have f1 := hp9.free 1 (by omega)
   obtain ⟨o2, r2⟩ := hp9.has 2 (by omega)
   have f2 := hp9.free 2 (by omega)
   obtain ⟨o3, r3⟩ := hp9.has 3 (by omega)
   have f3 := hp9.free 3 (by omega)
   obtain ⟨o4, r4⟩ := hp9.has 4 (by omega)
   have f4 := hp9.free 4 (by omega)
   obtain ⟨o5, r5⟩ := hp9.has 5 (by omega)
   have f5 := hp9.free 5 (by omega)
   obtain ⟨o6, r6⟩ := hp9.has 6 (by omega)
   have f6 := hp9.free 6 (by omega)
   obtain ⟨o7, r7⟩ := hp9.has 7 (by omega)
   have f7 := hp9.free 7 (by omega)
   obtain ⟨o8, r8⟩ := hp9.has 8 (by omega)
   have f8 := hp9.free 8 (by omega)
   have hgf := StR.stL_grown (w.heap.size + 1 + 1) [.string ⟨#[]⟩, .string ⟨#[]⟩, .int .i64 0, .int .i64 0, .int .i64 0, .int .i64 0, .slice none 0 0, .slice none 0 0, .int .i64 10] 0 w2
   have HBF := hid_intro (HB2.out.grown hgf HB2.out.size (fun k e => by simp only [Option.some.injEq] at e; omega))
   have HGF := hid_intro hgf
   simp only [StR.stL, Nat.zero_add, Nat.reduceAdd] at HBF HGF
   clear hgf hp9
   go_wp2_with fail
   refine bodyPost_ret (v := .agg #[.string ⟨#[]⟩, .string ⟨#[]⟩, .int .i64 0, .int .i64 0, .int .i64 0, .int .i64 0, .slice none 0 0, .slice none 0 0, .int .i64 10]) (by simp [results, Tryd.results27, go_sem, r0, r1, r2, r3, r4, r5, r6, r7, r8]) rfl ⟨.inr (.inl ⟨rfl, (by first | exact HSN.out | (simp; done) | simpa using HSN.out), rfl⟩), HBF.out⟩
  subst hsc
  go_wp2_with fail
  refine (HWJ.out _ HB2.out).mono ?_
  rintro e w3 ⟨ao, cc, ho, hcc, rfl, hT, hH, hb3⟩
  have HB3 := hid_intro ((HB2.out.trans (hb3.mono HB2.out.size)).alloc (HB2.out.trans (hb3.mono HB2.out.size)).size (.cells #[.string a1, .string m1, .int .i64 mo1, .int .i64 EV, .int .i64 SU, .int .i64 MX, .slice ao MT.length cc, .func (.func 88) #[] #[], .func (.func 89) #[] #[], .slice ho MH.length hcc, .func (.func 90) #[] #[], .func (.func 91) #[] #[]] 97))
  have HE3 := hid_intro ((HE2.out.below hb3).below ((Below.refl w3.heap.size w3).alloc (Nat.le_refl _) (.cells #[.string a1, .string m1, .int .i64 mo1, .int .i64 EV, .int .i64 SU, .int .i64 MX, .slice ao MT.length cc, .func (.func 88) #[] #[], .func (.func 89) #[] #[], .slice ho MH.length hcc, .func (.func 90) #[] #[], .func (.func 91) #[] #[]] 97)))
  have HT3 := hid_intro (hT.below ((Below.refl w3.heap.size w3).alloc (Nat.le_refl _) (.cells #[.string a1, .string m1, .int .i64 mo1, .int .i64 EV, .int .i64 SU, .int .i64 MX, .slice ao MT.length cc, .func (.func 88) #[] #[], .func (.func 89) #[] #[], .slice ho MH.length hcc, .func (.func 90) #[] #[], .func (.func 91) #[] #[]] 97)))
  have HH3 := hid_intro (hH.below ((Below.refl w3.heap.size w3).alloc (Nat.le_refl _) (.cells #[.string a1, .string m1, .int .i64 mo1, .int .i64 EV, .int .i64 SU, .int .i64 MX, .slice ao MT.length cc, .func (.func 88) #[] #[], .func (.func 89) #[] #[], .slice ho MH.length hcc, .func (.func 90) #[] #[], .func (.func 91) #[] #[]] 97)))
  have HU3 : Hid (Blk w3.heap.size [.string a1, .string m1, .int .i64 mo1, .int .i64 EV, .int .i64 SU, .int .i64 MX, .slice ao MT.length cc, .func (.func 88) #[] #[], .func (.func 89) #[] #[], .slice ho MH.length hcc, .func (.func 90) #[] #[], .func (.func 91) #[] #[]] (w3.alloc (.cells #[.string a1, .string m1, .int .i64 mo1, .int .i64 EV, .int .i64 SU, .int .i64 MX, .slice ao MT.length cc, .func (.func 88) #[] #[], .func (.func 89) #[] #[], .slice ho MH.length hcc, .func (.func 90) #[] #[], .func (.func 91) #[] #[]] 97))) := hid_intro (Blk.new w3 _ _)
  have HC3 := hid_intro (HR3.out ao cc ho hcc _ (HL.out.below HB3.out) HT3.out HH3.out)
  clear hT hH hb3 HE2 HX2 HY2 HR3
  go_wp2_with fail
  generalize (w3.alloc (.cells #[.string a1, .string m1, .int .i64 mo1, .int .i64 EV, .int .i64 SU, .int .i64 MX, .slice ao MT.length cc, .func (.func 88) #[] #[], .func (.func 89) #[] #[], .slice ho MH.length hcc, .func (.func 90) #[] #[], .func (.func 91) #[] #[]] 97)) = w4 at *
  clear x0 x1 x2 x3 x4 x5 x6 x7 x8 x9 x10 x11 lx
  clear y0 y1 y2 y3 y4 y5 y6 y7 y8 y9 y10 y11 ly
  refine HC3.out.mono ?_
  rintro e w5 ⟨rfl, hb5⟩
  have HB5 := hid_intro (HB3.out.trans (hb5.mono HB3.out.size))
  have HE5 := hid_intro (HE3.out.below hb5)
  have HT5 := hid_intro (HT3.out.below hb5)
  have HH5 := hid_intro (HH3.out.below hb5)
  have HU5 := hid_intro (HU3.out.below hb5)
  clear hb5 HE3 HT3 HH3 HU3 HC3 HB3
  cases r3
  ·have hp9 := HE5.out.pt
   have hl9 := hp9.lt
   obtain ⟨o0, r0⟩ := hp9.has 0 (by omega)
   have f0 := hp9.free 0 (by omega)
   obtain ⟨o1, r1⟩ := hp9.has 1 (by omega)
   have f1 := hp9.free 1 (by omega)
   obtain ⟨o2, r2⟩ := hp9.has 2 (by omega)
   have f2 := hp9.free 2 (by omega)
   obtain ⟨o3, r3⟩ := hp9.has 3 (by omega)
   have f3 := hp9.free 3 (by omega)
   obtain ⟨o4, r4⟩ := hp9.has 4 (by omega)
   have f4 := hp9.free 4 (by omega)
   obtain ⟨o5, r5⟩ := hp9.has 5 (by omega)
   have f5 := hp9.free 5 (by omega)
   obtain ⟨o6, r6⟩ := hp9.has 6 (by omega)
   have f6 := hp9.free 6 (by omega)
   obtain ⟨o7, r7⟩ := hp9.has 7 (by omega)
   have f7 := hp9.free 7 (by omega)
   obtain ⟨o8, r8⟩ := hp9.has 8 (by omega)
   have f8 := hp9.free 8 (by omega)
   have hgf := StR.stL_grown (w.heap.size + 1 + 1) [.string ⟨#[]⟩, .string ⟨#[]⟩, .int .i64 0, .int .i64 0, .int .i64 0, .int .i64 0, .slice none 0 0, .slice none 0 0, .int .i64 9] 0 w5
   have HBF := hid_intro (HB5.out.grown hgf HB5.out.size (fun k e => by simp only [Option.some.injEq] at e; omega))
   have HGF := hid_intro hgf
   simp only [StR.stL, Nat.zero_add, Nat.reduceAdd] at HBF HGF
   clear hgf hp9
   go_wp2_with fail
   refine bodyPost_ret (v := .agg #[.string ⟨#[]⟩, .string ⟨#[]⟩, .int .i64 0, .int .i64 0, .int .i64 0, .int .i64 0, .slice none 0 0, .slice none 0 0, .int .i64 9]) (by simp [results, Tryd.results27, go_sem, r0, r1, r2, r3, r4, r5, r6, r7, r8]) rfl ⟨.inr (.inr (.inl ⟨rfl, (by first | exact ⟨rfl, rfl, rfl⟩ | trivial), rfl, rfl⟩)), HBF.out⟩
  have HWN2 := hid_intro (HWN.out (by simp) ao cc ho hcc w5 HT5.out HH5.out)
  have x0 : w5.cell? ⟨w3.heap.size, 0, none⟩ = some (.string a1) := HU5.out.2 0 (by simp)
  have x1 : w5.cell? ⟨w3.heap.size, 1, none⟩ = some (.string m1) := HU5.out.2 1 (by simp)
  have x2 : w5.cell? ⟨w3.heap.size, 2, none⟩ = some (.int .i64 mo1) := HU5.out.2 2 (by simp)
  have x3 : w5.cell? ⟨w3.heap.size, 3, none⟩ = some (.int .i64 EV) := HU5.out.2 3 (by simp)
  have x4 : w5.cell? ⟨w3.heap.size, 4, none⟩ = some (.int .i64 SU) := HU5.out.2 4 (by simp)
  have x5 : w5.cell? ⟨w3.heap.size, 5, none⟩ = some (.int .i64 MX) := HU5.out.2 5 (by simp)
  have x6 : w5.cell? ⟨w3.heap.size, 6, none⟩ = some (.slice ao MT.length cc) := HU5.out.2 6 (by simp)
  have x7 : w5.cell? ⟨w3.heap.size, 7, none⟩ = some (.func (.func 88) #[] #[]) := HU5.out.2 7 (by simp)
  have x8 : w5.cell? ⟨w3.heap.size, 8, none⟩ = some (.func (.func 89) #[] #[]) := HU5.out.2 8 (by simp)
  have x9 : w5.cell? ⟨w3.heap.size, 9, none⟩ = some (.slice ho MH.length hcc) := HU5.out.2 9 (by simp)
  have x10 : w5.cell? ⟨w3.heap.size, 10, none⟩ = some (.func (.func 90) #[] #[]) := HU5.out.2 10 (by simp)
  have x11 : w5.cell? ⟨w3.heap.size, 11, none⟩ = some (.func (.func 91) #[] #[]) := HU5.out.2 11 (by simp)
  have lx := HU5.out.1
  go_wp2_with fail
  refine HWN2.out.mono ?_
  rintro e w6 ⟨v, rfl, hm, hb6⟩
  clear x0 x1 x2 x3 x4 x5 x6 x7 x8 x9 x10 x11 lx
  have hs5 : w.heap.size + 1 + 1 < w5.heap.size := HE5.out.pt.lt
  obtain ⟨ta, tc, ha, hc, rfl, k1, k2, k3⟩ := hm
  have HM6 := hid_intro (show MadeW w5.heap.size z (.agg (wcells z ta tc ha hc)) w6 from ⟨ta, tc, ha, hc, rfl, k1, k2, k3⟩)
  have HB6 := hid_intro (HB5.out.trans (hb6.mono HB5.out.size))
  have HE6 := hid_intro (HE5.out.below hb6)
  clear hb6 k1 k2 k3 HE5 HT5 HH5 HU5 HWN2 HWN
  unfold wcells
  have hp9 := HE6.out.pt
  have hl9 := hp9.lt
  obtain ⟨o0, r0⟩ := hp9.has 0 (by omega)
  have f0 := hp9.free 0 (by omega)
  obtain ⟨o1, r1⟩ := hp9.has 1 (by omega)
  have f1 := hp9.free 1 (by omega)
  obtain ⟨o2, r2⟩ := hp9.has 2 (by omega)
  have f2 := hp9.free 2 (by omega)
  obtain ⟨o3, r3⟩ := hp9.has 3 (by omega)
  have f3 := hp9.free 3 (by omega)
  obtain ⟨o4, r4⟩ := hp9.has 4 (by omega)
  have f4 := hp9.free 4 (by omega)
  obtain ⟨o5, r5⟩ := hp9.has 5 (by omega)
  have f5 := hp9.free 5 (by omega)
  obtain ⟨o6, r6⟩ := hp9.has 6 (by omega)
  have f6 := hp9.free 6 (by omega)
  obtain ⟨o7, r7⟩ := hp9.has 7 (by omega)
  have f7 := hp9.free 7 (by omega)
  obtain ⟨o8, r8⟩ := hp9.has 8 (by omega)
  have f8 := hp9.free 8 (by omega)
  have hgf := StR.stL_grown (w.heap.size + 1 + 1) [.string z.a, .string z.m, .int .i64 z.mo, .int .i64 z.ev, .int .i64 z.su, .int .i64 z.mx, .slice ta z.ts.length tc, .slice ha z.hs.length hc, .int .i64 0] 0 w6
  have HBF := hid_intro (HB6.out.grown hgf HB6.out.size (fun k e => by simp only [Option.some.injEq] at e; omega))
  have HGF := hid_intro hgf
  simp only [StR.stL, Nat.zero_add, Nat.reduceAdd] at HBF HGF
  clear hgf hp9
  go_wp2_with fail
  refine bodyPost_ret (v := .agg #[.string z.a, .string z.m, .int .i64 z.mo, .int .i64 z.ev, .int .i64 z.su, .int .i64 z.mx, .slice ta z.ts.length tc, .slice ha z.hs.length hc, .int .i64 0]) (by simp [results, Tryd.results27, go_sem, r0, r1, r2, r3, r4, r5, r6, r7, r8]) rfl ⟨.inr (.inr (.inr ⟨rfl, (by first | exact ⟨rfl, rfl, rfl⟩ | trivial), rfl, .agg (wcells z ta tc ha hc), rfl, (HM6.out.far HGF.out hs5).low HB5.out.size⟩)), HBF.out⟩
end WinR
end Go.Proofs.YtnlmpejgiakepaaDoor
