/-
  What two usages were together: the program's way. The conditions: sums far from running over, lists of at most 1048575 items together.
-/
import Derived.Test.YtmeemmbpkjfleaaDoorJnWh
import Derived.Test.YtmeemmbpkjfleaaDoorJnP
namespace Go.Proofs.YtmeemmbpkjfleaaDoor
open Go.ChangeShapes Go.WideShapes Go.ChangeAt Go.RowKit
set_option linter.unusedVariables false
namespace WinR
open RowG (MadeG Rws)
open EvtR (Pt)
open LtR (lt)
/-- Both usages' blocks and the one that is handed back. -/
def UJ (w : World) (a1 m1 : ByteArray) (mo1 ev1 su1 mx1 : Int) (ta1 : Option Addr) (tl1 tc1 : Nat) (ha1 : Option Addr) (hl1 hc1 : Nat) (a2 m2 : ByteArray) (mo2 ev2 su2 mx2 : Int) (ta2 : Option Addr) (tl2 tc2 : Nat) (ha2 : Option Addr) (hl2 hc2 : Nat) (W : World) : Prop := Below w.heap.size w W ∧ w.heap.size + 1 + 1 < W.heap.size ∧ W.cell? ⟨w.heap.size, 0, none⟩ = some (.string a1) ∧ W.cell? ⟨w.heap.size, 1, none⟩ = some (.string m1) ∧ W.cell? ⟨w.heap.size, 2, none⟩ = some (.int .i64 mo1) ∧ W.cell? ⟨w.heap.size, 3, none⟩ = some (.int .i64 ev1) ∧ W.cell? ⟨w.heap.size, 4, none⟩ = some (.int .i64 su1) ∧ W.cell? ⟨w.heap.size, 5, none⟩ = some (.int .i64 mx1) ∧ W.cell? ⟨w.heap.size, 6, none⟩ = some (.slice ta1 tl1 tc1) ∧ W.cell? ⟨w.heap.size, 7, none⟩ = some (.func (.func 104) #[] #[]) ∧ W.cell? ⟨w.heap.size, 8, none⟩ = some (.func (.func 105) #[] #[]) ∧ W.cell? ⟨w.heap.size, 9, none⟩ = some (.slice ha1 hl1 hc1) ∧ W.cell? ⟨w.heap.size, 10, none⟩ = some (.func (.func 106) #[] #[]) ∧ W.cell? ⟨w.heap.size, 11, none⟩ = some (.func (.func 107) #[] #[]) ∧ W.cell? ⟨w.heap.size + 1, 3, none⟩ = some (.int .i64 ev2) ∧ W.cell? ⟨w.heap.size + 1, 4, none⟩ = some (.int .i64 su2) ∧ W.cell? ⟨w.heap.size + 1, 5, none⟩ = some (.int .i64 mx2) ∧ W.cell? ⟨w.heap.size + 1, 6, none⟩ = some (.slice ta2 tl2 tc2) ∧ W.cell? ⟨w.heap.size + 1, 7, none⟩ = some (.func (.func 104) #[] #[]) ∧ W.cell? ⟨w.heap.size + 1, 8, none⟩ = some (.func (.func 105) #[] #[]) ∧ W.cell? ⟨w.heap.size + 1, 9, none⟩ = some (.slice ha2 hl2 hc2) ∧ W.cell? ⟨w.heap.size + 1, 10, none⟩ = some (.func (.func 106) #[] #[]) ∧ W.cell? ⟨w.heap.size + 1, 11, none⟩ = some (.func (.func 107) #[] #[]) ∧ Pt (w.heap.size + 1 + 1) 12 W
theorem UJ.below {w : World} {a1 m1 : ByteArray} {mo1 ev1 su1 mx1 : Int} {ta1 : Option Addr} {tl1 tc1 : Nat} {ha1 : Option Addr} {hl1 hc1 : Nat} {a2 m2 : ByteArray} {mo2 ev2 su2 mx2 : Int} {ta2 : Option Addr} {tl2 tc2 : Nat} {ha2 : Option Addr} {hl2 hc2 : Nat} {W W' : World} (h : UJ w a1 m1 mo1 ev1 su1 mx1 ta1 tl1 tc1 ha1 hl1 hc1 a2 m2 mo2 ev2 su2 mx2 ta2 tl2 tc2 ha2 hl2 hc2 W) (hb : Below W.heap.size W W') : UJ w a1 m1 mo1 ev1 su1 mx1 ta1 tl1 tc1 ha1 hl1 hc1 a2 m2 mo2 ev2 su2 mx2 ta2 tl2 tc2 ha2 hl2 hc2 W' := by
  obtain ⟨h0, h1, c0, c1, c2, c3, c4, c5, c6, c7, c8, c9, c10, c11, d3, d4, d5, d6, d7, d8, d9, d10, d11, hp⟩ := h
  have c := fun o => hb.cell (p := ⟨w.heap.size, o, none⟩) (show w.heap.size < W.heap.size by omega)
  have d := fun o => hb.cell (p := ⟨w.heap.size + 1, o, none⟩) (show w.heap.size + 1 < W.heap.size by omega)
  have := hb.size
  exact ⟨h0.trans (hb.mono h0.size), by omega, (c 0).trans c0, (c 1).trans c1, (c 2).trans c2, (c 3).trans c3, (c 4).trans c4, (c 5).trans c5, (c 6).trans c6, (c 7).trans c7, (c 8).trans c8, (c 9).trans c9, (c 10).trans c10, (c 11).trans c11, (d 3).trans d3, (d 4).trans d4, (d 5).trans d5, (d 6).trans d6, (d 7).trans d7, (d 8).trans d8, (d 9).trans d9, (d 10).trans d10, (d 11).trans d11, hp.below hb⟩
theorem UJ.put {w : World} {a1 m1 : ByteArray} {mo1 ev1 su1 mx1 : Int} {ta1 : Option Addr} {tl1 tc1 : Nat} {ha1 : Option Addr} {hl1 hc1 : Nat} {a2 m2 : ByteArray} {mo2 ev2 su2 mx2 : Int} {ta2 : Option Addr} {tl2 tc2 : Nat} {ha2 : Option Addr} {hl2 hc2 : Nat} {W : World} (h : UJ w a1 m1 mo1 ev1 su1 mx1 ta1 tl1 tc1 ha1 hl1 hc1 a2 m2 mo2 ev2 su2 mx2 ta2 tl2 tc2 ha2 hl2 hc2 W) (o : Nat) (v : Value) : UJ w a1 m1 mo1 ev1 su1 mx1 ta1 tl1 tc1 ha1 hl1 hc1 a2 m2 mo2 ev2 su2 mx2 ta2 tl2 tc2 ha2 hl2 hc2 (W.setCell ⟨w.heap.size + 1 + 1, o, none⟩ v) := by
  obtain ⟨h0, h1, c0, c1, c2, c3, c4, c5, c6, c7, c8, c9, c10, c11, d3, d4, d5, d6, d7, d8, d9, d10, d11, hp⟩ := h
  have hg := RowG.grown_set W (w.heap.size + 1 + 1) o v
  have c := fun k => World.cell?_of_block (a := ⟨w.heap.size, k, none⟩) (hg.block w.heap.size (by omega) (by simp; omega))
  have d := fun k => World.cell?_of_block (a := ⟨w.heap.size + 1, k, none⟩) (hg.block (w.heap.size + 1) (by omega) (by simp))
  exact ⟨h0.setCell (by simp; omega) _, by simpa using h1, (c 0).trans c0, (c 1).trans c1, (c 2).trans c2, (c 3).trans c3, (c 4).trans c4, (c 5).trans c5, (c 6).trans c6, (c 7).trans c7, (c 8).trans c8, (c 9).trans c9, (c 10).trans c10, (c 11).trans c11, (d 3).trans d3, (d 4).trans d4, (d 5).trans d5, (d 6).trans d6, (d 7).trans d7, (d 8).trans d8, (d 9).trans d9, (d 10).trans d10, (d 11).trans d11, hp.set _ _⟩
theorem UJ.out {w : World} {a1 m1 : ByteArray} {mo1 ev1 su1 mx1 : Int} {ta1 : Option Addr} {tl1 tc1 : Nat} {ha1 : Option Addr} {hl1 hc1 : Nat} {a2 m2 : ByteArray} {mo2 ev2 su2 mx2 : Int} {ta2 : Option Addr} {tl2 tc2 : Nat} {ha2 : Option Addr} {hl2 hc2 : Nat} {W : World} (h : UJ w a1 m1 mo1 ev1 su1 mx1 ta1 tl1 tc1 ha1 hl1 hc1 a2 m2 mo2 ev2 su2 mx2 ta2 tl2 tc2 ha2 hl2 hc2 W) : Pt (w.heap.size + 1 + 1) 12 W := by
  obtain ⟨h0, h1, c0, c1, c2, c3, c4, c5, c6, c7, c8, c9, c10, c11, d3, d4, d5, d6, d7, d8, d9, d10, d11, hp⟩ := h
  exact hp
/-- A list in a block that is not written. -/
theorem Rws.keep {α : Type} {k : Nat} {cells : α → List Value} {z : α} {ao : Option Addr} {xs : List α} {w w' : World} {g : Nat} (h : Rws k cells z ao xs w) (hg : w.grownBy w' (some g)) (hne : xs.length = 0 ∨ ∀ b off, ao = some ⟨b, off, none⟩ → b ≠ g) : Rws k cells z ao xs w' :=
  Rws.grown h hg (hne.imp id (fun q b off e hb => q b off e (by simpa using hb)))
theorem gtr {w w1 w2 : World} {g : Option Nat} (h1 : w.grownBy w1 g) (h2 : w1.grownBy w2 g) : w.grownBy w2 g :=
  ⟨h2.os.trans h1.os, h2.tape.trans h1.tape, h2.output.trans h1.output, Nat.le_trans h1.size h2.size, fun k hk hne => (h2.block k (by have := h1.size; omega) hne).trans (h1.block k hk hne)⟩
theorem pt12 (w : World) (T : TypeId) : Pt w.heap.size 12 (w.alloc (.cells #[.string ⟨#[]⟩, .string ⟨#[]⟩, .int .i64 0, .int .i64 0, .int .i64 0, .int .i64 0, .slice none 0 0, .nilFunc, .nilFunc, .slice none 0 0, .nilFunc, .nilFunc] T)) := by
  refine ⟨by simp, fun o ho => ?_, fun o ho => by simp [go_sem]⟩
  match o, ho with
  | 0, _ => exact ⟨_, by simp [go_sem]; rfl⟩
  | 1, _ => exact ⟨_, by simp [go_sem]; rfl⟩
  | 2, _ => exact ⟨_, by simp [go_sem]; rfl⟩
  | 3, _ => exact ⟨_, by simp [go_sem]; rfl⟩
  | 4, _ => exact ⟨_, by simp [go_sem]; rfl⟩
  | 5, _ => exact ⟨_, by simp [go_sem]; rfl⟩
  | 6, _ => exact ⟨_, by simp [go_sem]; rfl⟩
  | 7, _ => exact ⟨_, by simp [go_sem]; rfl⟩
  | 8, _ => exact ⟨_, by simp [go_sem]; rfl⟩
  | 9, _ => exact ⟨_, by simp [go_sem]; rfl⟩
  | 10, _ => exact ⟨_, by simp [go_sem]; rfl⟩
  | 11, _ => exact ⟨_, by simp [go_sem]; rfl⟩
set_option maxRecDepth 100000 in
set_option maxHeartbeats 16000000 in
theorem with_in (a1 m1 : ByteArray) (mo1 ev1 su1 mx1 : Int) (ta1 : Option Addr) (tl1 tc1 : Nat) (ha1 : Option Addr) (hl1 hc1 : Nat) (a2 m2 : ByteArray) (mo2 ev2 su2 mx2 : Int) (ta2 : Option Addr) (tl2 tc2 : Nat) (ha2 : Option Addr) (hl2 hc2 : Nat) (ts1 ts2 : List ByteArray) (hs1 hs2 : List H) (w : World) (e1 : tl1 = ts1.length) (e2 : tl2 = ts2.length) (f1 : hl1 = hs1.length) (f2 : hl2 = hs2.length)
    (h1 : 0 ≤ ev1 ∧ ev1 ≤ 1000000000000000) (h2 : 0 ≤ ev2 ∧ ev2 ≤ 1000000000000000) (h3 : 0 ≤ su1 ∧ su1 ≤ 1000000000000000) (h4 : 0 ≤ su2 ∧ su2 ≤ 1000000000000000)
    (ht : ∀ W, Below w.heap.size w W → Calls Tryd.prog 75 #[.agg #[.slice ta1 tl1 tc1, .func (.func 104) #[] #[], .func (.func 105) #[] #[]], .agg #[.slice ta2 tl2 tc2, .func (.func 104) #[] #[], .func (.func 105) #[] #[]]] W fun e w' => ∃ ao c, e = .returned (.agg #[.slice ao (mrg lt fstT ts1 ts2).length c, .func (.func 104) #[] #[], .func (.func 105) #[] #[]]) ∧ Tgs ao (mrg lt fstT ts1 ts2) w' ∧ ((mrg lt fstT ts1 ts2).length = 0 ∨ ∀ b off, ao = some ⟨b, off, none⟩ → W.heap.size ≤ b) ∧ Below W.heap.size W w')
    (hh : ∀ W, Below w.heap.size w W → Calls Tryd.prog 76 #[.agg #[.slice ha1 hl1 hc1, .func (.func 106) #[] #[], .func (.func 107) #[] #[]], .agg #[.slice ha2 hl2 hc2, .func (.func 106) #[] #[], .func (.func 107) #[] #[]]] W fun e w' => ∃ ao c, e = .returned (.agg #[.slice ao (mrg hlt addH hs1 hs2).length c, .func (.func 106) #[] #[], .func (.func 107) #[] #[]]) ∧ Hrs ao (mrg hlt addH hs1 hs2) w' ∧ ((mrg hlt addH hs1 hs2).length = 0 ∨ ∀ b off, ao = some ⟨b, off, none⟩ → W.heap.size ≤ b) ∧ Below W.heap.size W w') :
    Calls Tryd.prog 37 #[.agg #[.string a1, .string m1, .int .i64 mo1, .int .i64 ev1, .int .i64 su1, .int .i64 mx1, .slice ta1 tl1 tc1, .func (.func 104) #[] #[], .func (.func 105) #[] #[], .slice ha1 hl1 hc1, .func (.func 106) #[] #[], .func (.func 107) #[] #[]], .agg #[.string a2, .string m2, .int .i64 mo2, .int .i64 ev2, .int .i64 su2, .int .i64 mx2, .slice ta2 tl2 tc2, .func (.func 104) #[] #[], .func (.func 105) #[] #[], .slice ha2 hl2 hc2, .func (.func 106) #[] #[], .func (.func 107) #[] #[]]] w fun e w' => ∃ ao c ho hc, e = .returned (.agg #[.string a1, .string m1, .int .i64 mo1, .int .i64 (ev1 + ev2), .int .i64 (su1 + su2), .int .i64 (max mx1 mx2), .slice ao (mrg lt fstT ts1 ts2).length c, .func (.func 104) #[] #[], .func (.func 105) #[] #[], .slice ho (mrg hlt addH hs1 hs2).length hc, .func (.func 106) #[] #[], .func (.func 107) #[] #[]]) ∧ Tgs ao (mrg lt fstT ts1 ts2) w' ∧ Hrs ho (mrg hlt addH hs1 hs2) w' ∧ Below w.heap.size w w' := by
  have HS := hid_intro (fun W => splus ev1 su1 mx1 ev2 su2 mx2 W h1 h2 h3 h4)
  have HTT := hid_intro ht
  have HHH := hid_intro hh
  generalize mrg lt fstT ts1 ts2 = MT at *
  generalize mrg hlt addH hs1 hs2 = MH at *
  obtain ⟨EV, hEV⟩ : ∃ x, x = ev1 + ev2 := ⟨_, rfl⟩
  obtain ⟨SU, hSU⟩ : ∃ x, x = su1 + su2 := ⟨_, rfl⟩
  obtain ⟨MX, hMX⟩ : ∃ x, x = max mx1 mx2 := ⟨_, rfl⟩
  rw [← hEV, ← hSU, ← hMX] at HS ⊢
  clear ht hh h1 h2 h3 h4 e1 e2 f1 f2 hEV hSU hMX
  have HT0 : Hid (UJ w a1 m1 mo1 ev1 su1 mx1 ta1 tl1 tc1 ha1 hl1 hc1 a2 m2 mo2 ev2 su2 mx2 ta2 tl2 tc2 ha2 hl2 hc2 ((((w.alloc (.cells #[.string a1, .string m1, .int .i64 mo1, .int .i64 ev1, .int .i64 su1, .int .i64 mx1, .slice ta1 tl1 tc1, .func (.func 104) #[] #[], .func (.func 105) #[] #[], .slice ha1 hl1 hc1, .func (.func 106) #[] #[], .func (.func 107) #[] #[]] 74)).alloc (.cells #[.string a2, .string m2, .int .i64 mo2, .int .i64 ev2, .int .i64 su2, .int .i64 mx2, .slice ta2 tl2 tc2, .func (.func 104) #[] #[], .func (.func 105) #[] #[], .slice ha2 hl2 hc2, .func (.func 106) #[] #[], .func (.func 107) #[] #[]] 74)).alloc (.cells #[.string ⟨#[]⟩, .string ⟨#[]⟩, .int .i64 0, .int .i64 0, .int .i64 0, .int .i64 0, .slice none 0 0, .nilFunc, .nilFunc, .slice none 0 0, .nilFunc, .nilFunc] 74)).drew)) := hid_intro (by
    refine ⟨(((((Below.refl _ _).alloc (Nat.le_refl _) _).alloc (by simp) _).alloc (by simp; try omega) _).drew), by simp, by simp [go_sem], by simp [go_sem], by simp [go_sem], by simp [go_sem], by simp [go_sem], by simp [go_sem], by simp [go_sem], by simp [go_sem], by simp [go_sem], by simp [go_sem], by simp [go_sem], by simp [go_sem], by simp [go_sem], by simp [go_sem], by simp [go_sem], by simp [go_sem], by simp [go_sem], by simp [go_sem], by simp [go_sem], by simp [go_sem], by simp [go_sem], ?_⟩
    have := pt12 ((w.alloc (.cells #[.string a1, .string m1, .int .i64 mo1, .int .i64 ev1, .int .i64 su1, .int .i64 mx1, .slice ta1 tl1 tc1, .func (.func 104) #[] #[], .func (.func 105) #[] #[], .slice ha1 hl1 hc1, .func (.func 106) #[] #[], .func (.func 107) #[] #[]] 74)).alloc (.cells #[.string a2, .string m2, .int .i64 mo2, .int .i64 ev2, .int .i64 su2, .int .i64 mx2, .slice ta2 tl2 tc2, .func (.func 104) #[] #[], .func (.func 105) #[] #[], .slice ha2 hl2 hc2, .func (.func 106) #[] #[], .func (.func 107) #[] #[]] 74)) 74
    simp only [World.size_alloc] at this
    exact ⟨this.lt, this.has, this.free⟩)
  go_enter Tryd.func37, Tryd.ntmps37
  go_wp2_with fail
  refine wp_region_held_drew (S := (fun W => Below w.heap.size w W ∧ w.heap.size + 1 + 1 < W.heap.size ∧ W.cell? ⟨w.heap.size, 0, none⟩ = some (.string a1) ∧ W.cell? ⟨w.heap.size, 1, none⟩ = some (.string m1) ∧ W.cell? ⟨w.heap.size, 2, none⟩ = some (.int .i64 mo1) ∧ W.cell? ⟨w.heap.size, 3, none⟩ = some (.int .i64 ev1) ∧ W.cell? ⟨w.heap.size, 4, none⟩ = some (.int .i64 su1) ∧ W.cell? ⟨w.heap.size, 5, none⟩ = some (.int .i64 mx1) ∧ W.cell? ⟨w.heap.size, 6, none⟩ = some (.slice ta1 tl1 tc1) ∧ W.cell? ⟨w.heap.size, 7, none⟩ = some (.func (.func 104) #[] #[]) ∧ W.cell? ⟨w.heap.size, 8, none⟩ = some (.func (.func 105) #[] #[]) ∧ W.cell? ⟨w.heap.size, 9, none⟩ = some (.slice ha1 hl1 hc1) ∧ W.cell? ⟨w.heap.size, 10, none⟩ = some (.func (.func 106) #[] #[]) ∧ W.cell? ⟨w.heap.size, 11, none⟩ = some (.func (.func 107) #[] #[]) ∧ W.cell? ⟨w.heap.size + 1, 3, none⟩ = some (.int .i64 ev2) ∧ W.cell? ⟨w.heap.size + 1, 4, none⟩ = some (.int .i64 su2) ∧ W.cell? ⟨w.heap.size + 1, 5, none⟩ = some (.int .i64 mx2) ∧ W.cell? ⟨w.heap.size + 1, 6, none⟩ = some (.slice ta2 tl2 tc2) ∧ W.cell? ⟨w.heap.size + 1, 7, none⟩ = some (.func (.func 104) #[] #[]) ∧ W.cell? ⟨w.heap.size + 1, 8, none⟩ = some (.func (.func 105) #[] #[]) ∧ W.cell? ⟨w.heap.size + 1, 9, none⟩ = some (.slice ha2 hl2 hc2) ∧ W.cell? ⟨w.heap.size + 1, 10, none⟩ = some (.func (.func 106) #[] #[]) ∧ W.cell? ⟨w.heap.size + 1, 11, none⟩ = some (.func (.func 107) #[] #[]) ∧ Pt (w.heap.size + 1 + 1) 12 W)) (by kernel_rfl) HT0.out (fun hHeld => ?_)
  refine wpAnyH_take (i := 0) (oi := { dst := some 5, op := Op.fieldAddr 74 (Operand.tmp 2) 0, type := 0, pos := "l07_window.go:192", after := #[], guard := none }) (v := ?_) rfl (by kernel_rfl) (by kernel_rfl) (by kernel_rfl) (fun _ _ _ h => h) (Or.inl ⟨by rfl, ?_⟩) (by assumption) ?_
  rotate_left
  · (intro w hSw; (try dsimp only at hSw); go_simp) <;> with_reducible rfl
  try simp only [Act.put, List.setIfInBounds_toArray, List.set_cons_zero, List.set_cons_succ]
  refine wpAnyH_take (i := 1) (oi := { dst := some 6, op := Op.load 62 (Operand.tmp 5), type := 62, pos := "l07_window.go:192", after := #[{ on := 0, ground := Ground.data }], guard := none }) (v := ?_) rfl (by kernel_rfl) (by kernel_rfl) (by kernel_rfl) (fun _ _ _ h => h) (Or.inl ⟨by rfl, ?_⟩) (by assumption) ?_
  rotate_left
  · (intro w hSw; (try dsimp only at hSw); go_simp) <;> with_reducible rfl
  try simp only [Act.put, List.setIfInBounds_toArray, List.set_cons_zero, List.set_cons_succ]
  refine wpAnyH_take (i := 2) (oi := { dst := some 7, op := Op.fieldAddr 74 (Operand.tmp 2) 1, type := 0, pos := "l07_window.go:192", after := #[], guard := none }) (v := ?_) rfl (by kernel_rfl) (by kernel_rfl) (by kernel_rfl) (fun _ _ _ h => h) (Or.inl ⟨by rfl, ?_⟩) (by assumption) ?_
  rotate_left
  · (intro w hSw; (try dsimp only at hSw); go_simp) <;> with_reducible rfl
  try simp only [Act.put, List.setIfInBounds_toArray, List.set_cons_zero, List.set_cons_succ]
  refine wpAnyH_take (i := 3) (oi := { dst := some 8, op := Op.load 64 (Operand.tmp 7), type := 64, pos := "l07_window.go:192", after := #[{ on := 2, ground := Ground.data }], guard := none }) (v := ?_) rfl (by kernel_rfl) (by kernel_rfl) (by kernel_rfl) (fun _ _ _ h => h) (Or.inl ⟨by rfl, ?_⟩) (by assumption) ?_
  rotate_left
  · (intro w hSw; (try dsimp only at hSw); go_simp) <;> with_reducible rfl
  try simp only [Act.put, List.setIfInBounds_toArray, List.set_cons_zero, List.set_cons_succ]
  refine wpAnyH_take (i := 4) (oi := { dst := some 9, op := Op.fieldAddr 74 (Operand.tmp 3) 1, type := 0, pos := "l07_window.go:192", after := #[], guard := none }) (v := ?_) rfl (by kernel_rfl) (by kernel_rfl) (by kernel_rfl) (fun _ _ _ h => h) (Or.inl ⟨by rfl, ?_⟩) (by assumption) ?_
  rotate_left
  · (intro w hSw; (try dsimp only at hSw); go_simp) <;> with_reducible rfl
  try simp only [Act.put, List.setIfInBounds_toArray, List.set_cons_zero, List.set_cons_succ]
  refine wpAnyH_take (i := 5) (oi := { dst := some 10, op := Op.load 64 (Operand.tmp 9), type := 64, pos := "l07_window.go:192", after := #[{ on := 4, ground := Ground.data }], guard := none }) (v := ?_) rfl (by kernel_rfl) (by kernel_rfl) (by kernel_rfl) (fun _ _ _ h => h) (Or.inl ⟨by rfl, ?_⟩) (by assumption) ?_
  rotate_left
  · (intro w hSw; (try dsimp only at hSw); go_simp) <;> with_reducible rfl
  try simp only [Act.put, List.setIfInBounds_toArray, List.set_cons_zero, List.set_cons_succ]
  refine wpAnyH_take (i := 7) (oi := { dst := some 12, op := Op.fieldAddr 74 (Operand.tmp 2) 2, type := 0, pos := "l07_window.go:192", after := #[], guard := none }) (v := ?_) rfl (by kernel_rfl) (by kernel_rfl) (by kernel_rfl) (fun _ _ _ h => h) (Or.inl ⟨by rfl, ?_⟩) (by assumption) ?_
  rotate_left
  · (intro w hSw; (try dsimp only at hSw); go_simp) <;> with_reducible rfl
  try simp only [Act.put, List.setIfInBounds_toArray, List.set_cons_zero, List.set_cons_succ]
  refine wpAnyH_take (i := 8) (oi := { dst := some 13, op := Op.load 68 (Operand.tmp 12), type := 68, pos := "l07_window.go:192", after := #[{ on := 7, ground := Ground.data }], guard := none }) (v := ?_) rfl (by kernel_rfl) (by kernel_rfl) (by kernel_rfl) (fun _ _ _ h => h) (Or.inl ⟨by rfl, ?_⟩) (by assumption) ?_
  rotate_left
  · (intro w hSw; (try dsimp only at hSw); go_simp) <;> with_reducible rfl
  try simp only [Act.put, List.setIfInBounds_toArray, List.set_cons_zero, List.set_cons_succ]
  refine wpAnyH_take (i := 9) (oi := { dst := some 14, op := Op.fieldAddr 74 (Operand.tmp 3) 2, type := 0, pos := "l07_window.go:192", after := #[], guard := none }) (v := ?_) rfl (by kernel_rfl) (by kernel_rfl) (by kernel_rfl) (fun _ _ _ h => h) (Or.inl ⟨by rfl, ?_⟩) (by assumption) ?_
  rotate_left
  · (intro w hSw; (try dsimp only at hSw); go_simp) <;> with_reducible rfl
  try simp only [Act.put, List.setIfInBounds_toArray, List.set_cons_zero, List.set_cons_succ]
  refine wpAnyH_take (i := 10) (oi := { dst := some 15, op := Op.load 68 (Operand.tmp 14), type := 68, pos := "l07_window.go:192", after := #[{ on := 9, ground := Ground.data }], guard := none }) (v := ?_) rfl (by kernel_rfl) (by kernel_rfl) (by kernel_rfl) (fun _ _ _ h => h) (Or.inl ⟨by rfl, ?_⟩) (by assumption) ?_
  rotate_left
  · (intro w hSw; (try dsimp only at hSw); go_simp) <;> with_reducible rfl
  try simp only [Act.put, List.setIfInBounds_toArray, List.set_cons_zero, List.set_cons_succ]
  refine wpAnyH_take (i := 12) (oi := { dst := some 17, op := Op.fieldAddr 74 (Operand.tmp 2) 3, type := 0, pos := "l07_window.go:192", after := #[], guard := none }) (v := ?_) rfl (by kernel_rfl) (by kernel_rfl) (by kernel_rfl) (fun _ _ _ h => h) (Or.inl ⟨by rfl, ?_⟩) (by assumption) ?_
  rotate_left
  · (intro w hSw; (try dsimp only at hSw); go_simp) <;> with_reducible rfl
  try simp only [Act.put, List.setIfInBounds_toArray, List.set_cons_zero, List.set_cons_succ]
  refine wpAnyH_take (i := 13) (oi := { dst := some 18, op := Op.load 72 (Operand.tmp 17), type := 72, pos := "l07_window.go:192", after := #[{ on := 12, ground := Ground.data }], guard := none }) (v := ?_) rfl (by kernel_rfl) (by kernel_rfl) (by kernel_rfl) (fun _ _ _ h => h) (Or.inl ⟨by rfl, ?_⟩) (by assumption) ?_
  rotate_left
  · (intro w hSw; (try dsimp only at hSw); go_simp) <;> with_reducible rfl
  try simp only [Act.put, List.setIfInBounds_toArray, List.set_cons_zero, List.set_cons_succ]
  refine wpAnyH_take (i := 14) (oi := { dst := some 19, op := Op.fieldAddr 74 (Operand.tmp 3) 3, type := 0, pos := "l07_window.go:192", after := #[], guard := none }) (v := ?_) rfl (by kernel_rfl) (by kernel_rfl) (by kernel_rfl) (fun _ _ _ h => h) (Or.inl ⟨by rfl, ?_⟩) (by assumption) ?_
  rotate_left
  · (intro w hSw; (try dsimp only at hSw); go_simp) <;> with_reducible rfl
  try simp only [Act.put, List.setIfInBounds_toArray, List.set_cons_zero, List.set_cons_succ]
  refine wpAnyH_take (i := 15) (oi := { dst := some 20, op := Op.load 72 (Operand.tmp 19), type := 72, pos := "l07_window.go:192", after := #[{ on := 14, ground := Ground.data }], guard := none }) (v := ?_) rfl (by kernel_rfl) (by kernel_rfl) (by kernel_rfl) (fun _ _ _ h => h) (Or.inl ⟨by rfl, ?_⟩) (by assumption) ?_
  rotate_left
  · (intro w hSw; (try dsimp only at hSw); go_simp) <;> with_reducible rfl
  try simp only [Act.put, List.setIfInBounds_toArray, List.set_cons_zero, List.set_cons_succ]
  refine wpAnyH_ready (rs := [6]) (by kernel_rfl) (by simp) ?_
  refine AllReadyH.cons (o := { dst := some 11, op := Op.call { callee := Callee.value (Operand.func 74), args := #[Operand.tmp 8, Operand.tmp 10], argTypes := #[64, 64] }, type := 64, pos := "l07_window.go:192", after := #[{ on := 3, ground := Ground.data }, { on := 5, ground := Ground.data }], guard := none }) rfl (fun K hK => ?_) AllReadyH.nil
  go_simp
  go_at_call 74
  refine (HS.out _).mono ?_
  rintro e q1 ⟨rfl, hq1⟩
  try go_wp2_with fail
  have hk1 := UJ.below (w := w) (a1 := a1) (m1 := m1) (mo1 := mo1) (ev1 := ev1) (su1 := su1) (mx1 := mx1) (ta1 := ta1) (tl1 := tl1) (tc1 := tc1) (ha1 := ha1) (hl1 := hl1) (hc1 := hc1) (a2 := a2) (m2 := m2) (mo2 := mo2) (ev2 := ev2) (su2 := su2) (mx2 := mx2) (ta2 := ta2) (tl2 := tl2) (tc2 := tc2) (ha2 := ha2) (hl2 := hl2) (hc2 := hc2) HT0.out hq1
  refine hK.out _ _ hk1 (fun _ => ?_)
  clear hK K
  try simp only [Act.put, List.setIfInBounds_toArray, List.set_cons_zero, List.set_cons_succ]
  refine wpAnyH_ready (rs := [11]) (by kernel_rfl) (by simp) ?_
  refine AllReadyH.cons (o := { dst := some 16, op := Op.call { callee := Callee.value (Operand.func 75), args := #[Operand.tmp 13, Operand.tmp 15], argTypes := #[68, 68] }, type := 68, pos := "l07_window.go:192", after := #[{ on := 8, ground := Ground.data }, { on := 10, ground := Ground.data }, { on := 6, ground := Ground.chain }], guard := none }) rfl (fun K hK => ?_) AllReadyH.nil
  go_simp
  go_at_call 75
  refine (HTT.out _ hk1.1).mono ?_
  rintro e q2 ⟨ao, c, rfl, hT, hTn, hq2⟩
  try go_wp2_with fail
  have hk2 := UJ.below (w := w) (a1 := a1) (m1 := m1) (mo1 := mo1) (ev1 := ev1) (su1 := su1) (mx1 := mx1) (ta1 := ta1) (tl1 := tl1) (tc1 := tc1) (ha1 := ha1) (hl1 := hl1) (hc1 := hc1) (a2 := a2) (m2 := m2) (mo2 := mo2) (ev2 := ev2) (su2 := su2) (mx2 := mx2) (ta2 := ta2) (tl2 := tl2) (tc2 := tc2) (ha2 := ha2) (hl2 := hl2) (hc2 := hc2) hk1 hq2
  refine hK.out _ _ hk2 (fun _ => ?_)
  clear hK K
  try simp only [Act.put, List.setIfInBounds_toArray, List.set_cons_zero, List.set_cons_succ]
  refine wpAnyH_ready (rs := [16]) (by kernel_rfl) (by simp) ?_
  refine AllReadyH.cons (o := { dst := some 21, op := Op.call { callee := Callee.value (Operand.func 76), args := #[Operand.tmp 18, Operand.tmp 20], argTypes := #[72, 72] }, type := 72, pos := "l07_window.go:192", after := #[{ on := 13, ground := Ground.data }, { on := 15, ground := Ground.data }, { on := 11, ground := Ground.chain }], guard := none }) rfl (fun K hK => ?_) AllReadyH.nil
  go_simp
  go_at_call 76
  refine (HHH.out _ hk2.1).mono ?_
  rintro e q3 ⟨ho, hc, rfl, hH, hHn, hq3⟩
  try go_wp2_with fail
  have hk3 := UJ.below (w := w) (a1 := a1) (m1 := m1) (mo1 := mo1) (ev1 := ev1) (su1 := su1) (mx1 := mx1) (ta1 := ta1) (tl1 := tl1) (tc1 := tc1) (ha1 := ha1) (hl1 := hl1) (hc1 := hc1) (a2 := a2) (m2 := m2) (mo2 := mo2) (ev2 := ev2) (su2 := su2) (mx2 := mx2) (ta2 := ta2) (tl2 := tl2) (tc2 := tc2) (ha2 := ha2) (hl2 := hl2) (hc2 := hc2) hk2 hq3
  refine hK.out _ _ hk3 (fun _ => ?_)
  clear hK K
  try simp only [Act.put, List.setIfInBounds_toArray, List.set_cons_zero, List.set_cons_succ]
  refine wpAnyH_take (i := 17) (oi := { dst := some 22, op := Op.build 74 #[(0, Operand.tmp 6), (1, Operand.tmp 11), (2, Operand.tmp 16), (3, Operand.tmp 21)], type := 74, pos := "l07_window.go:192", after := #[{ on := 1, ground := Ground.data }, { on := 6, ground := Ground.data }, { on := 11, ground := Ground.data }, { on := 16, ground := Ground.data }], guard := none }) (v := ?_) rfl (by kernel_rfl) (by kernel_rfl) (by kernel_rfl) (fun _ _ _ h => h) (Or.inl ⟨by rfl, ?_⟩) (by assumption) ?_
  rotate_left
  · (intro w hSw; (try dsimp only at hSw); go_simp) <;> with_reducible rfl
  try simp only [Act.put, List.setIfInBounds_toArray, List.set_cons_zero, List.set_cons_succ]
  have hp := UJ.out (w := w) (a1 := a1) (m1 := m1) (mo1 := mo1) (ev1 := ev1) (su1 := su1) (mx1 := mx1) (ta1 := ta1) (tl1 := tl1) (tc1 := tc1) (ha1 := ha1) (hl1 := hl1) (hc1 := hc1) (a2 := a2) (m2 := m2) (mo2 := mo2) (ev2 := ev2) (su2 := su2) (mx2 := mx2) (ta2 := ta2) (tl2 := tl2) (tc2 := tc2) (ha2 := ha2) (hl2 := hl2) (hc2 := hc2) hk3
  have hlt := hk3.2.1
  obtain ⟨v0, r0⟩ := hp.has 0 (by omega)
  have z0 := hp.free 0 (by omega)
  obtain ⟨v1, r1⟩ := hp.has 1 (by omega)
  have z1 := hp.free 1 (by omega)
  obtain ⟨v2, r2⟩ := hp.has 2 (by omega)
  have z2 := hp.free 2 (by omega)
  obtain ⟨v3, r3⟩ := hp.has 3 (by omega)
  have z3 := hp.free 3 (by omega)
  obtain ⟨v4, r4⟩ := hp.has 4 (by omega)
  have z4 := hp.free 4 (by omega)
  obtain ⟨v5, r5⟩ := hp.has 5 (by omega)
  have z5 := hp.free 5 (by omega)
  obtain ⟨v6, r6⟩ := hp.has 6 (by omega)
  have z6 := hp.free 6 (by omega)
  obtain ⟨v7, r7⟩ := hp.has 7 (by omega)
  have z7 := hp.free 7 (by omega)
  obtain ⟨v8, r8⟩ := hp.has 8 (by omega)
  have z8 := hp.free 8 (by omega)
  obtain ⟨v9, r9⟩ := hp.has 9 (by omega)
  have z9 := hp.free 9 (by omega)
  obtain ⟨v10, r10⟩ := hp.has 10 (by omega)
  have z10 := hp.free 10 (by omega)
  obtain ⟨v11, r11⟩ := hp.has 11 (by omega)
  have z11 := hp.free 11 (by omega)
  refine wpAnyH_ready (rs := [18]) (by kernel_rfl) (by simp) ?_
  refine AllReadyH.cons (o := { dst := none, op := Op.store 74 (Operand.tmp 4) (Operand.tmp 22), type := 0, pos := "l07_window.go:192", after := #[{ on := 17, ground := Ground.data }, { on := 16, ground := Ground.chain }, { on := 0, ground := Ground.phase }, { on := 1, ground := Ground.phase }, { on := 2, ground := Ground.phase }, { on := 3, ground := Ground.phase }, { on := 4, ground := Ground.phase }, { on := 5, ground := Ground.phase }, { on := 6, ground := Ground.phase }, { on := 7, ground := Ground.phase }, { on := 8, ground := Ground.phase }, { on := 9, ground := Ground.phase }, { on := 10, ground := Ground.phase }, { on := 11, ground := Ground.phase }, { on := 12, ground := Ground.phase }, { on := 13, ground := Ground.phase }, { on := 14, ground := Ground.phase }, { on := 15, ground := Ground.phase }, { on := 16, ground := Ground.phase }, { on := 17, ground := Ground.phase }], guard := none }) rfl (fun K hK => ?_) AllReadyH.nil
  go_simp
  try go_wp2_with fail
  have hk4 := (UJ.put (w := w) (a1 := a1) (m1 := m1) (mo1 := mo1) (ev1 := ev1) (su1 := su1) (mx1 := mx1) (ta1 := ta1) (tl1 := tl1) (tc1 := tc1) (ha1 := ha1) (hl1 := hl1) (hc1 := hc1) (a2 := a2) (m2 := m2) (mo2 := mo2) (ev2 := ev2) (su2 := su2) (mx2 := mx2) (ta2 := ta2) (tl2 := tl2) (tc2 := tc2) (ha2 := ha2) (hl2 := hl2) (hc2 := hc2) (UJ.put (w := w) (a1 := a1) (m1 := m1) (mo1 := mo1) (ev1 := ev1) (su1 := su1) (mx1 := mx1) (ta1 := ta1) (tl1 := tl1) (tc1 := tc1) (ha1 := ha1) (hl1 := hl1) (hc1 := hc1) (a2 := a2) (m2 := m2) (mo2 := mo2) (ev2 := ev2) (su2 := su2) (mx2 := mx2) (ta2 := ta2) (tl2 := tl2) (tc2 := tc2) (ha2 := ha2) (hl2 := hl2) (hc2 := hc2) (UJ.put (w := w) (a1 := a1) (m1 := m1) (mo1 := mo1) (ev1 := ev1) (su1 := su1) (mx1 := mx1) (ta1 := ta1) (tl1 := tl1) (tc1 := tc1) (ha1 := ha1) (hl1 := hl1) (hc1 := hc1) (a2 := a2) (m2 := m2) (mo2 := mo2) (ev2 := ev2) (su2 := su2) (mx2 := mx2) (ta2 := ta2) (tl2 := tl2) (tc2 := tc2) (ha2 := ha2) (hl2 := hl2) (hc2 := hc2) (UJ.put (w := w) (a1 := a1) (m1 := m1) (mo1 := mo1) (ev1 := ev1) (su1 := su1) (mx1 := mx1) (ta1 := ta1) (tl1 := tl1) (tc1 := tc1) (ha1 := ha1) (hl1 := hl1) (hc1 := hc1) (a2 := a2) (m2 := m2) (mo2 := mo2) (ev2 := ev2) (su2 := su2) (mx2 := mx2) (ta2 := ta2) (tl2 := tl2) (tc2 := tc2) (ha2 := ha2) (hl2 := hl2) (hc2 := hc2) (UJ.put (w := w) (a1 := a1) (m1 := m1) (mo1 := mo1) (ev1 := ev1) (su1 := su1) (mx1 := mx1) (ta1 := ta1) (tl1 := tl1) (tc1 := tc1) (ha1 := ha1) (hl1 := hl1) (hc1 := hc1) (a2 := a2) (m2 := m2) (mo2 := mo2) (ev2 := ev2) (su2 := su2) (mx2 := mx2) (ta2 := ta2) (tl2 := tl2) (tc2 := tc2) (ha2 := ha2) (hl2 := hl2) (hc2 := hc2) (UJ.put (w := w) (a1 := a1) (m1 := m1) (mo1 := mo1) (ev1 := ev1) (su1 := su1) (mx1 := mx1) (ta1 := ta1) (tl1 := tl1) (tc1 := tc1) (ha1 := ha1) (hl1 := hl1) (hc1 := hc1) (a2 := a2) (m2 := m2) (mo2 := mo2) (ev2 := ev2) (su2 := su2) (mx2 := mx2) (ta2 := ta2) (tl2 := tl2) (tc2 := tc2) (ha2 := ha2) (hl2 := hl2) (hc2 := hc2) (UJ.put (w := w) (a1 := a1) (m1 := m1) (mo1 := mo1) (ev1 := ev1) (su1 := su1) (mx1 := mx1) (ta1 := ta1) (tl1 := tl1) (tc1 := tc1) (ha1 := ha1) (hl1 := hl1) (hc1 := hc1) (a2 := a2) (m2 := m2) (mo2 := mo2) (ev2 := ev2) (su2 := su2) (mx2 := mx2) (ta2 := ta2) (tl2 := tl2) (tc2 := tc2) (ha2 := ha2) (hl2 := hl2) (hc2 := hc2) (UJ.put (w := w) (a1 := a1) (m1 := m1) (mo1 := mo1) (ev1 := ev1) (su1 := su1) (mx1 := mx1) (ta1 := ta1) (tl1 := tl1) (tc1 := tc1) (ha1 := ha1) (hl1 := hl1) (hc1 := hc1) (a2 := a2) (m2 := m2) (mo2 := mo2) (ev2 := ev2) (su2 := su2) (mx2 := mx2) (ta2 := ta2) (tl2 := tl2) (tc2 := tc2) (ha2 := ha2) (hl2 := hl2) (hc2 := hc2) (UJ.put (w := w) (a1 := a1) (m1 := m1) (mo1 := mo1) (ev1 := ev1) (su1 := su1) (mx1 := mx1) (ta1 := ta1) (tl1 := tl1) (tc1 := tc1) (ha1 := ha1) (hl1 := hl1) (hc1 := hc1) (a2 := a2) (m2 := m2) (mo2 := mo2) (ev2 := ev2) (su2 := su2) (mx2 := mx2) (ta2 := ta2) (tl2 := tl2) (tc2 := tc2) (ha2 := ha2) (hl2 := hl2) (hc2 := hc2) (UJ.put (w := w) (a1 := a1) (m1 := m1) (mo1 := mo1) (ev1 := ev1) (su1 := su1) (mx1 := mx1) (ta1 := ta1) (tl1 := tl1) (tc1 := tc1) (ha1 := ha1) (hl1 := hl1) (hc1 := hc1) (a2 := a2) (m2 := m2) (mo2 := mo2) (ev2 := ev2) (su2 := su2) (mx2 := mx2) (ta2 := ta2) (tl2 := tl2) (tc2 := tc2) (ha2 := ha2) (hl2 := hl2) (hc2 := hc2) (UJ.put (w := w) (a1 := a1) (m1 := m1) (mo1 := mo1) (ev1 := ev1) (su1 := su1) (mx1 := mx1) (ta1 := ta1) (tl1 := tl1) (tc1 := tc1) (ha1 := ha1) (hl1 := hl1) (hc1 := hc1) (a2 := a2) (m2 := m2) (mo2 := mo2) (ev2 := ev2) (su2 := su2) (mx2 := mx2) (ta2 := ta2) (tl2 := tl2) (tc2 := tc2) (ha2 := ha2) (hl2 := hl2) (hc2 := hc2) (UJ.put (w := w) (a1 := a1) (m1 := m1) (mo1 := mo1) (ev1 := ev1) (su1 := su1) (mx1 := mx1) (ta1 := ta1) (tl1 := tl1) (tc1 := tc1) (ha1 := ha1) (hl1 := hl1) (hc1 := hc1) (a2 := a2) (m2 := m2) (mo2 := mo2) (ev2 := ev2) (su2 := su2) (mx2 := mx2) (ta2 := ta2) (tl2 := tl2) (tc2 := tc2) (ha2 := ha2) (hl2 := hl2) (hc2 := hc2) hk3 0 (.string a1)) 1 (.string m1)) 2 (.int .i64 mo1)) 3 (.int .i64 EV)) 4 (.int .i64 SU)) 5 (.int .i64 MX)) 6 (.slice ao MT.length c)) 7 (.func (.func 104) #[] #[])) 8 (.func (.func 105) #[] #[])) 9 (.slice ho MH.length hc)) 10 (.func (.func 106) #[] #[])) 11 (.func (.func 107) #[] #[]))
  have hgw : q3.grownBy ((((((((((((q3.setCell ⟨w.heap.size + 1 + 1, 0, none⟩ (.string a1)).setCell ⟨w.heap.size + 1 + 1, 1, none⟩ (.string m1)).setCell ⟨w.heap.size + 1 + 1, 2, none⟩ (.int .i64 mo1)).setCell ⟨w.heap.size + 1 + 1, 3, none⟩ (.int .i64 EV)).setCell ⟨w.heap.size + 1 + 1, 4, none⟩ (.int .i64 SU)).setCell ⟨w.heap.size + 1 + 1, 5, none⟩ (.int .i64 MX)).setCell ⟨w.heap.size + 1 + 1, 6, none⟩ (.slice ao MT.length c)).setCell ⟨w.heap.size + 1 + 1, 7, none⟩ (.func (.func 104) #[] #[])).setCell ⟨w.heap.size + 1 + 1, 8, none⟩ (.func (.func 105) #[] #[])).setCell ⟨w.heap.size + 1 + 1, 9, none⟩ (.slice ho MH.length hc)).setCell ⟨w.heap.size + 1 + 1, 10, none⟩ (.func (.func 106) #[] #[])).setCell ⟨w.heap.size + 1 + 1, 11, none⟩ (.func (.func 107) #[] #[])) (some (w.heap.size + 1 + 1)) := (gtr (gtr (gtr (gtr (gtr (gtr (gtr (gtr (gtr (gtr (gtr (RowG.grown_set _ _ _ _) (RowG.grown_set _ _ _ _)) (RowG.grown_set _ _ _ _)) (RowG.grown_set _ _ _ _)) (RowG.grown_set _ _ _ _)) (RowG.grown_set _ _ _ _)) (RowG.grown_set _ _ _ _)) (RowG.grown_set _ _ _ _)) (RowG.grown_set _ _ _ _)) (RowG.grown_set _ _ _ _)) (RowG.grown_set _ _ _ _)) (RowG.grown_set _ _ _ _))
  have hTF := hid_intro (Rws.keep (Rws.below hT hq3) hgw (hTn.imp id (fun h b off e => by have := h b off e; have := hk1.2.1; omega)))
  have hHF := hid_intro (Rws.keep hH hgw (hHn.imp id (fun h b off e => by have := h b off e; have := hk2.2.1; omega)))
  clear hgw hT hH
  refine hK.out _ _ hk4 (fun _ => ?_)
  clear hK K
  try simp only [Act.put, List.setIfInBounds_toArray, List.set_cons_zero, List.set_cons_succ]
  refine wpAnyH_done (by kernel_rfl) ?_ _
  have HB := hid_intro hk4.1
  clear hk4 hk3 hk2 hk1 hTn hHn hp hq1 hq2 hq3
  go_wp2_with fail
  refine bodyPost_ret (v := .agg #[.string a1, .string m1, .int .i64 mo1, .int .i64 EV, .int .i64 SU, .int .i64 MX, .slice ao MT.length c, .func (.func 104) #[] #[], .func (.func 105) #[] #[], .slice ho MH.length hc, .func (.func 106) #[] #[], .func (.func 107) #[] #[]]) (by simp [results, Tryd.results37, go_sem, r0, r1, r2, r3, r4, r5, r6, r7, r8, r9, r10, r11]) rfl ⟨ao, c, ho, hc, rfl, hTF.out, hHF.out, HB.out⟩
end WinR
end Go.Proofs.YtmeemmbpkjfleaaDoor
