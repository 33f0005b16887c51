/-
  Two windows joined: the program's way. The condition: what the callees ask for.
-/
import Derived.Test.YtmeemmbpkjfleaaDoorJnU
import Derived.Test.YtmeemmbpkjfleaaDoorStL
import Derived.Deep.CutRange
namespace Go.Proofs.YtmeemmbpkjfleaaDoor
open Go.ChangeShapes Go.WideShapes Go.ChangeAt Go.RowKit
set_option linter.unusedVariables false
namespace WinR
open RowG (MadeG Rws)
open EvtR (Pt)
open LtR (lt)
open DateR (Laid)
open CatR (Blk Blk.new)
/-- Both windows' blocks and the one that is handed back. -/
def JX (W0 : World) (bA bB bR : Nat) (a1 m1 : ByteArray) (mo1 ev1 su1 mx1 : Int) (ta1 : Option Addr) (tl1 tc1 : Nat) (ha1 : Option Addr) (hl1 hc1 : Nat) (a2 m2 : ByteArray) (mo2 ev2 su2 mx2 : Int) (ta2 : Option Addr) (tl2 tc2 : Nat) (ha2 : Option Addr) (hl2 hc2 : Nat) (W : World) : Prop := Below W0.heap.size W0 W ∧ bA < W.heap.size ∧ bB < W.heap.size ∧ W.cell? ⟨bA, 0, none⟩ = some (.string a1) ∧ W.cell? ⟨bA, 1, none⟩ = some (.string m1) ∧ W.cell? ⟨bA, 2, none⟩ = some (.int .i64 mo1) ∧ W.cell? ⟨bA, 3, none⟩ = some (.int .i64 ev1) ∧ W.cell? ⟨bA, 4, none⟩ = some (.int .i64 su1) ∧ W.cell? ⟨bA, 5, none⟩ = some (.int .i64 mx1) ∧ W.cell? ⟨bA, 6, none⟩ = some (.slice ta1 tl1 tc1) ∧ W.cell? ⟨bA, 7, none⟩ = some (.slice ha1 hl1 hc1) ∧ W.cell? ⟨bB, 0, none⟩ = some (.string a2) ∧ W.cell? ⟨bB, 1, none⟩ = some (.string m2) ∧ W.cell? ⟨bB, 2, none⟩ = some (.int .i64 mo2) ∧ W.cell? ⟨bB, 3, none⟩ = some (.int .i64 ev2) ∧ W.cell? ⟨bB, 4, none⟩ = some (.int .i64 su2) ∧ W.cell? ⟨bB, 5, none⟩ = some (.int .i64 mx2) ∧ W.cell? ⟨bB, 6, none⟩ = some (.slice ta2 tl2 tc2) ∧ W.cell? ⟨bB, 7, none⟩ = some (.slice ha2 hl2 hc2) ∧ Pt (bR) 9 W
theorem JX.below {W0 : World} {bA bB bR : Nat} {a1 m1 : ByteArray} {mo1 ev1 su1 mx1 : Int} {ta1 : Option Addr} {tl1 tc1 : Nat} {ha1 : Option Addr} {hl1 hc1 : Nat} {a2 m2 : ByteArray} {mo2 ev2 su2 mx2 : Int} {ta2 : Option Addr} {tl2 tc2 : Nat} {ha2 : Option Addr} {hl2 hc2 : Nat} {W W' : World} (h : JX W0 bA bB bR a1 m1 mo1 ev1 su1 mx1 ta1 tl1 tc1 ha1 hl1 hc1 a2 m2 mo2 ev2 su2 mx2 ta2 tl2 tc2 ha2 hl2 hc2 W) (hb : Below W.heap.size W W') : JX W0 bA bB bR a1 m1 mo1 ev1 su1 mx1 ta1 tl1 tc1 ha1 hl1 hc1 a2 m2 mo2 ev2 su2 mx2 ta2 tl2 tc2 ha2 hl2 hc2 W' := by
  obtain ⟨h0, h1, h2, c0, c1, c2, c3, c4, c5, c6, c7, d0, d1, d2, d3, d4, d5, d6, d7, hp⟩ := h
  have c := fun o => hb.cell (p := ⟨bA, o, none⟩) h1
  have d := fun o => hb.cell (p := ⟨bB, o, none⟩) h2
  have := hb.size
  exact ⟨h0.trans (hb.mono h0.size), by omega, by omega, (c 0).trans c0, (c 1).trans c1, (c 2).trans c2, (c 3).trans c3, (c 4).trans c4, (c 5).trans c5, (c 6).trans c6, (c 7).trans c7, (d 0).trans d0, (d 1).trans d1, (d 2).trans d2, (d 3).trans d3, (d 4).trans d4, (d 5).trans d5, (d 6).trans d6, (d 7).trans d7, hp.below hb⟩
theorem JX.grown {W0 : World} {bA bB bR : Nat} {a1 m1 : ByteArray} {mo1 ev1 su1 mx1 : Int} {ta1 : Option Addr} {tl1 tc1 : Nat} {ha1 : Option Addr} {hl1 hc1 : Nat} {a2 m2 : ByteArray} {mo2 ev2 su2 mx2 : Int} {ta2 : Option Addr} {tl2 tc2 : Nat} {ha2 : Option Addr} {hl2 hc2 : Nat} {W W' : World} {g : Nat} (h : JX W0 bA bB bR a1 m1 mo1 ev1 su1 mx1 ta1 tl1 tc1 ha1 hl1 hc1 a2 m2 mo2 ev2 su2 mx2 ta2 tl2 tc2 ha2 hl2 hc2 W) (hq : W0.heap.size ≤ g) (hA : bA < W0.heap.size) (hB : bB < W0.heap.size) (hR : bR < W0.heap.size) (hg : W.grownBy W' (some g)) : JX W0 bA bB bR a1 m1 mo1 ev1 su1 mx1 ta1 tl1 tc1 ha1 hl1 hc1 a2 m2 mo2 ev2 su2 mx2 ta2 tl2 tc2 ha2 hl2 hc2 W' := by
  obtain ⟨h0, h1, h2, c0, c1, c2, c3, c4, c5, c6, c7, d0, d1, d2, d3, d4, d5, d6, d7, hp⟩ := h
  have c := fun o => World.cell?_of_block (a := ⟨bA, o, none⟩) (hg.block bA h1 (by simp; omega))
  have d := fun o => World.cell?_of_block (a := ⟨bB, o, none⟩) (hg.block bB h2 (by simp; omega))
  have hs := hg.size
  exact ⟨h0.grown hg h0.size (fun k e => by cases e; exact hq), by omega, by omega, (c 0).trans c0, (c 1).trans c1, (c 2).trans c2, (c 3).trans c3, (c 4).trans c4, (c 5).trans c5, (c 6).trans c6, (c 7).trans c7, (d 0).trans d0, (d 1).trans d1, (d 2).trans d2, (d 3).trans d3, (d 4).trans d4, (d 5).trans d5, (d 6).trans d6, (d 7).trans d7, StR.pt_far hp hg (by omega)⟩
theorem JX.drew {W0 : World} {bA bB bR : Nat} {a1 m1 : ByteArray} {mo1 ev1 su1 mx1 : Int} {ta1 : Option Addr} {tl1 tc1 : Nat} {ha1 : Option Addr} {hl1 hc1 : Nat} {a2 m2 : ByteArray} {mo2 ev2 su2 mx2 : Int} {ta2 : Option Addr} {tl2 tc2 : Nat} {ha2 : Option Addr} {hl2 hc2 : Nat} {W : World} (h : JX W0 bA bB bR a1 m1 mo1 ev1 su1 mx1 ta1 tl1 tc1 ha1 hl1 hc1 a2 m2 mo2 ev2 su2 mx2 ta2 tl2 tc2 ha2 hl2 hc2 W) : JX W0 bA bB bR a1 m1 mo1 ev1 su1 mx1 ta1 tl1 tc1 ha1 hl1 hc1 a2 m2 mo2 ev2 su2 mx2 ta2 tl2 tc2 ha2 hl2 hc2 W.drew := by
  obtain ⟨h0, h1, h2, c0, c1, c2, c3, c4, c5, c6, c7, d0, d1, d2, d3, d4, d5, d6, d7, hp⟩ := h
  exact ⟨h0.drew, h1, h2, c0, c1, c2, c3, c4, c5, c6, c7, d0, d1, d2, d3, d4, d5, d6, d7, ⟨hp.lt, hp.has, hp.free⟩⟩
theorem JX.pt {W0 : World} {bA bB bR : Nat} {a1 m1 : ByteArray} {mo1 ev1 su1 mx1 : Int} {ta1 : Option Addr} {tl1 tc1 : Nat} {ha1 : Option Addr} {hl1 hc1 : Nat} {a2 m2 : ByteArray} {mo2 ev2 su2 mx2 : Int} {ta2 : Option Addr} {tl2 tc2 : Nat} {ha2 : Option Addr} {hl2 hc2 : Nat} {W : World} (h : JX W0 bA bB bR a1 m1 mo1 ev1 su1 mx1 ta1 tl1 tc1 ha1 hl1 hc1 a2 m2 mo2 ev2 su2 mx2 ta2 tl2 tc2 ha2 hl2 hc2 W) : Pt bR 9 W := by
  obtain ⟨h0, h1, h2, c0, c1, c2, c3, c4, c5, c6, c7, d0, d1, d2, d3, d4, d5, d6, d7, hp⟩ := h
  exact hp
theorem made_far {α : Type} {k : Nat} {cells : α → List Value} {z : α} {base : Nat} {ao : Option Addr} {xs : List α} {W W' : World} {g : Nat} (h : MadeG k cells z base ao xs W) (hg : W.grownBy W' (some g)) (hlt : g < base) : MadeG k cells z base ao xs W' := by
  refine ⟨Rws.grown h.rws hg (h.own.imp id (fun ⟨q, e1, e2, _⟩ b off e hb => ?_)), h.own.imp id (fun ⟨q, e1, e2, e3⟩ => ⟨q, e1, e2, StR.pt_far e3 hg (by omega)⟩)⟩
  rw [e1] at e
  simp only [Option.some.injEq, Addr.mk.injEq] at e hb
  omega
theorem MadeW.far {base : Nat} {x : Wd} {v : Value} {W W' : World} {g : Nat} (h : MadeW base x v W) (hg : W.grownBy W' (some g)) (hlt : g < base) : MadeW base x v W' := by
  obtain ⟨ta, tc, ha, hc, e, h1, h2, h3⟩ := h
  exact ⟨ta, tc, ha, hc, e, made_far h1 hg hlt, made_far h2 hg hlt, h3⟩
/-- What is handed back: a window and a code. -/
def outW (v : Value) (c : Int) : Value := match v with
  | .agg cs => .agg (cs.push (.int .i64 c))
  | _ => v
/-- What comes of joining: a fault, or a window. -/
def JPost (r1 r2 r3 : Bool) (same : Prop) (z : Wd) (base : Nat) (e : Ending) (w' : World) : Prop :=
  ((r1 && r2) = false ∧ e = .returned (.agg #[.string ⟨#[]⟩, .string ⟨#[]⟩, .int .i64 0, .int .i64 0, .int .i64 0, .int .i64 0, .slice none 0 0, .slice none 0 0, .int .i64 1])) ∨ ((r1 && r2) = true ∧ ¬ same ∧ e = .returned (.agg #[.string ⟨#[]⟩, .string ⟨#[]⟩, .int .i64 0, .int .i64 0, .int .i64 0, .int .i64 0, .slice none 0 0, .slice none 0 0, .int .i64 10])) ∨
  ((r1 && r2) = true ∧ same ∧ r3 = false ∧ e = .returned (.agg #[.string ⟨#[]⟩, .string ⟨#[]⟩, .int .i64 0, .int .i64 0, .int .i64 0, .int .i64 0, .slice none 0 0, .slice none 0 0, .int .i64 9])) ∨ ((r1 && r2) = true ∧ same ∧ r3 = true ∧ ∃ v, e = .returned (outW v 0) ∧ MadeW base z v w')
set_option maxRecDepth 100000 in
set_option maxHeartbeats 16000000 in
theorem join_in (a1 m1 : ByteArray) (mo1 ev1 su1 mx1 : Int) (ta1 : Option Addr) (tl1 tc1 : Nat) (ha1 : Option Addr) (hl1 hc1 : Nat) (a2 m2 : ByteArray) (mo2 ev2 su2 mx2 : Int) (ta2 : Option Addr) (tl2 tc2 : Nat) (ha2 : Option Addr) (hl2 hc2 : Nat) (MT : List ByteArray) (MH : List H) (EV SU MX : Int) (r1 r2 r3 : Bool) (z : Wd) (w : World) (hL : Laid w)
    (hr1 : ∀ W, Below w.heap.size w W → Calls Tryd.prog 36 #[.agg #[.string a1, .string m1, .int .i64 mo1, .int .i64 ev1, .int .i64 su1, .int .i64 mx1, .slice ta1 tl1 tc1, .func (.func 104) #[] #[], .func (.func 105) #[] #[], .slice ha1 hl1 hc1, .func (.func 106) #[] #[], .func (.func 107) #[] #[]]] W fun e w' => e = .returned (.bool r1) ∧ Below W.heap.size W w')
    (hr2 : ∀ W, Below w.heap.size w W → Calls Tryd.prog 36 #[.agg #[.string a2, .string m2, .int .i64 mo2, .int .i64 ev2, .int .i64 su2, .int .i64 mx2, .slice ta2 tl2 tc2, .func (.func 104) #[] #[], .func (.func 105) #[] #[], .slice ha2 hl2 hc2, .func (.func 106) #[] #[], .func (.func 107) #[] #[]]] W fun e w' => e = .returned (.bool r2) ∧ Below W.heap.size W w')
    (hw : r1 = true → r2 = true → ∀ W, Below w.heap.size w W → Calls Tryd.prog 37 #[.agg #[.string a1, .string m1, .int .i64 mo1, .int .i64 ev1, .int .i64 su1, .int .i64 mx1, .slice ta1 tl1 tc1, .func (.func 104) #[] #[], .func (.func 105) #[] #[], .slice ha1 hl1 hc1, .func (.func 106) #[] #[], .func (.func 107) #[] #[]], .agg #[.string a2, .string m2, .int .i64 mo2, .int .i64 ev2, .int .i64 su2, .int .i64 mx2, .slice ta2 tl2 tc2, .func (.func 104) #[] #[], .func (.func 105) #[] #[], .slice ha2 hl2 hc2, .func (.func 106) #[] #[], .func (.func 107) #[] #[]]] W fun e w' => ∃ ao cc ho hcc, e = .returned (.agg #[.string a1, .string m1, .int .i64 mo1, .int .i64 EV, .int .i64 SU, .int .i64 MX, .slice ao MT.length cc, .func (.func 104) #[] #[], .func (.func 105) #[] #[], .slice ho MH.length hcc, .func (.func 106) #[] #[], .func (.func 107) #[] #[]]) ∧ Tgs ao MT w' ∧ Hrs ho MH w' ∧ Below W.heap.size W w')
    (hr3 : ∀ ao cc ho hcc W, Laid W → Tgs ao MT W → Hrs ho MH W → Calls Tryd.prog 36 #[.agg #[.string a1, .string m1, .int .i64 mo1, .int .i64 EV, .int .i64 SU, .int .i64 MX, .slice ao MT.length cc, .func (.func 104) #[] #[], .func (.func 105) #[] #[], .slice ho MH.length hcc, .func (.func 106) #[] #[], .func (.func 107) #[] #[]]] W fun e w' => e = .returned (.bool r3) ∧ Below W.heap.size W w')
    (hwin : r3 = true → ∀ ao cc ho hcc W, Tgs ao MT W → Hrs ho MH W → Calls Tryd.prog 38 #[.agg #[.string a1, .string m1, .int .i64 mo1, .int .i64 EV, .int .i64 SU, .int .i64 MX, .slice ao MT.length cc, .func (.func 104) #[] #[], .func (.func 105) #[] #[], .slice ho MH.length hcc, .func (.func 106) #[] #[], .func (.func 107) #[] #[]]] W fun e w' => ∃ v, e = .returned v ∧ MadeW W.heap.size z v w' ∧ Below W.heap.size W w') :
    Calls Tryd.prog 10 #[.agg #[.string a1, .string m1, .int .i64 mo1, .int .i64 ev1, .int .i64 su1, .int .i64 mx1, .slice ta1 tl1 tc1, .slice ha1 hl1 hc1], .agg #[.string a2, .string m2, .int .i64 mo2, .int .i64 ev2, .int .i64 su2, .int .i64 mx2, .slice ta2 tl2 tc2, .slice ha2 hl2 hc2]] w fun e w' =>
      JPost r1 r2 r3 (a1 = a2 ∧ m1 = m2 ∧ mo1 = mo2) z w.heap.size e w' ∧ Below w.heap.size w w' := by
  have HL := hid_intro hL
  have HR1 := hid_intro hr1
  have HR2 := hid_intro hr2
  have HR3 := hid_intro hr3
  have HWI := hid_intro hw
  have HWN := hid_intro hwin
  clear hL hr1 hr2 hr3 hw hwin
  obtain ⟨W0, hW0⟩ : ∃ W0, W0 = (((w.alloc (.cells #[.string a1, .string m1, .int .i64 mo1, .int .i64 ev1, .int .i64 su1, .int .i64 mx1, .slice ta1 tl1 tc1, .slice ha1 hl1 hc1] 29)).alloc (.cells #[.string a2, .string m2, .int .i64 mo2, .int .i64 ev2, .int .i64 su2, .int .i64 mx2, .slice ta2 tl2 tc2, .slice ha2 hl2 hc2] 29)).alloc (.cells #[.string ⟨#[]⟩, .string ⟨#[]⟩, .int .i64 0, .int .i64 0, .int .i64 0, .int .i64 0, .slice none 0 0, .slice none 0 0, .int .i64 0] 31)) := ⟨_, rfl⟩
  have HB0 : Hid (Below w.heap.size w W0) := hid_intro (by rw [hW0]; exact (((Below.refl _ _).alloc (by simp; try omega) _).alloc (by simp; try omega) _).alloc (by simp; try omega) _)
  have hsz : W0.heap.size = w.heap.size + 3 := by rw [hW0]; simp
  have HX0 : Hid (JX W0 w.heap.size (w.heap.size + 1) (w.heap.size + 1 + 1) a1 m1 mo1 ev1 su1 mx1 ta1 tl1 tc1 ha1 hl1 hc1 a2 m2 mo2 ev2 su2 mx2 ta2 tl2 tc2 ha2 hl2 hc2 W0) := hid_intro (by
    refine ⟨Below.refl _ _, by omega, by omega, by rw [hW0]; simp [go_sem], by rw [hW0]; simp [go_sem], by rw [hW0]; simp [go_sem], by rw [hW0]; simp [go_sem], by rw [hW0]; simp [go_sem], by rw [hW0]; simp [go_sem], by rw [hW0]; simp [go_sem], by rw [hW0]; simp [go_sem], by rw [hW0]; simp [go_sem], by rw [hW0]; simp [go_sem], by rw [hW0]; simp [go_sem], by rw [hW0]; simp [go_sem], by rw [hW0]; simp [go_sem], by rw [hW0]; simp [go_sem], by rw [hW0]; simp [go_sem], by rw [hW0]; simp [go_sem], ?_⟩
    have := StR.pt_new ((w.alloc (.cells #[.string a1, .string m1, .int .i64 mo1, .int .i64 ev1, .int .i64 su1, .int .i64 mx1, .slice ta1 tl1 tc1, .slice ha1 hl1 hc1] 29)).alloc (.cells #[.string a2, .string m2, .int .i64 mo2, .int .i64 ev2, .int .i64 su2, .int .i64 mx2, .slice ta2 tl2 tc2, .slice ha2 hl2 hc2] 29)) [.string ⟨#[]⟩, .string ⟨#[]⟩, .int .i64 0, .int .i64 0, .int .i64 0, .int .i64 0, .slice none 0 0, .slice none 0 0, .int .i64 0] 31
    rw [hW0]
    simp only [World.size_alloc] at this
    exact this)
  have HW := hid_intro hW0
  have HSZ := hid_intro hsz
  clear hW0 hsz
  have HX1 : Hid (JX W0 w.heap.size (w.heap.size + 1) (w.heap.size + 1 + 1) a1 m1 mo1 ev1 su1 mx1 ta1 tl1 tc1 ha1 hl1 hc1 a2 m2 mo2 ev2 su2 mx2 ta2 tl2 tc2 ha2 hl2 hc2 W0.drew) := hid_intro HX0.out.drew
  have HUA := hid_intro (fun W => impl_usage a1 m1 mo1 ev1 su1 mx1 ta1 tl1 tc1 ha1 hl1 hc1 W)
  have HUB := hid_intro (fun W => impl_usage a2 m2 mo2 ev2 su2 mx2 ta2 tl2 tc2 ha2 hl2 hc2 W)
  go_enter Tryd.func10, Tryd.ntmps10
  go_wp2_with fail
  rw [← HW.out]
  go_cut [5, 6] from 8 (fun v5 v6 wx => ∃ bX bY, v5 = .pointer (some ⟨bX, 0, none⟩) ∧ v6 = .pointer (some ⟨bY, 0, none⟩) ∧ Hid (Blk bX [.string a1, .string m1, .int .i64 mo1, .int .i64 ev1, .int .i64 su1, .int .i64 mx1, .slice ta1 tl1 tc1, .func (.func 104) #[] #[], .func (.func 105) #[] #[], .slice ha1 hl1 hc1, .func (.func 106) #[] #[], .func (.func 107) #[] #[]] wx) ∧ Hid (Blk bY [.string a2, .string m2, .int .i64 mo2, .int .i64 ev2, .int .i64 su2, .int .i64 mx2, .slice ta2 tl2 tc2, .func (.func 104) #[] #[], .func (.func 105) #[] #[], .slice ha2 hl2 hc2, .func (.func 106) #[] #[], .func (.func 107) #[] #[]] wx) ∧ Hid (JX W0 w.heap.size (w.heap.size + 1) (w.heap.size + 1 + 1) a1 m1 mo1 ev1 su1 mx1 ta1 tl1 tc1 ha1 hl1 hc1 a2 m2 mo2 ev2 su2 mx2 ta2 tl2 tc2 ha2 hl2 hc2 wx))
  case first =>
    have a0 : w.heap.size < W0.heap.size := by have := HSZ.out; omega
    have b0 : w.heap.size + 1 < W0.heap.size := by have := HSZ.out; omega
    have r0 : w.heap.size + 1 + 1 < W0.heap.size := by have := HSZ.out; omega
    refine wp_region_held_drew (S := (fun W => Below W0.heap.size W0 W ∧ w.heap.size < W.heap.size ∧ w.heap.size + 1 < W.heap.size ∧ W.cell? ⟨w.heap.size, 0, none⟩ = some (.string a1) ∧ W.cell? ⟨w.heap.size, 1, none⟩ = some (.string m1) ∧ W.cell? ⟨w.heap.size, 2, none⟩ = some (.int .i64 mo1) ∧ W.cell? ⟨w.heap.size, 3, none⟩ = some (.int .i64 ev1) ∧ W.cell? ⟨w.heap.size, 4, none⟩ = some (.int .i64 su1) ∧ W.cell? ⟨w.heap.size, 5, none⟩ = some (.int .i64 mx1) ∧ W.cell? ⟨w.heap.size, 6, none⟩ = some (.slice ta1 tl1 tc1) ∧ W.cell? ⟨w.heap.size, 7, none⟩ = some (.slice ha1 hl1 hc1) ∧ W.cell? ⟨w.heap.size + 1, 0, none⟩ = some (.string a2) ∧ W.cell? ⟨w.heap.size + 1, 1, none⟩ = some (.string m2) ∧ W.cell? ⟨w.heap.size + 1, 2, none⟩ = some (.int .i64 mo2) ∧ W.cell? ⟨w.heap.size + 1, 3, none⟩ = some (.int .i64 ev2) ∧ W.cell? ⟨w.heap.size + 1, 4, none⟩ = some (.int .i64 su2) ∧ W.cell? ⟨w.heap.size + 1, 5, none⟩ = some (.int .i64 mx2) ∧ W.cell? ⟨w.heap.size + 1, 6, none⟩ = some (.slice ta2 tl2 tc2) ∧ W.cell? ⟨w.heap.size + 1, 7, none⟩ = some (.slice ha2 hl2 hc2) ∧ Pt (w.heap.size + 1 + 1) 9 W)) (by kernel_rfl) HX1.out (fun hHeld => ?_)
    generalize W0.drew = kd at *
    refine wpAnyH_take (i := 0) (oi := { dst := some 8, op := Op.load 29 (Operand.tmp 2), type := 29, pos := "l07_window.go:262", after := #[], guard := none }) (v := ?_) rfl (by kernel_rfl) (by kernel_rfl) (by kernel_rfl) (fun _ _ _ h => h) (Or.inl ⟨by rfl, ?_⟩) (by assumption) ?_
    rotate_left
    · (intro w hSw; (try dsimp only at hSw); go_simp) <;> with_reducible rfl
    try simp only [Act.put, List.setIfInBounds_toArray, List.set_cons_zero, List.set_cons_succ]
    refine wpAnyH_take (i := 2) (oi := { dst := some 10, op := Op.load 29 (Operand.tmp 3), type := 29, pos := "l07_window.go:262", after := #[], guard := none }) (v := ?_) rfl (by kernel_rfl) (by kernel_rfl) (by kernel_rfl) (fun _ _ _ h => h) (Or.inl ⟨by rfl, ?_⟩) (by assumption) ?_
    rotate_left
    · (intro w hSw; (try dsimp only at hSw); go_simp) <;> with_reducible rfl
    try simp only [Act.put, List.setIfInBounds_toArray, List.set_cons_zero, List.set_cons_succ]
    refine wpAnyH_ready (rs := [1, 4, 5]) (by kernel_rfl) (by simp) ?_
    refine AllReadyH.cons (o := { dst := some 9, op := Op.call { callee := Callee.value (Operand.func 35), args := #[Operand.tmp 8], argTypes := #[29] }, type := 74, pos := "l07_window.go:262", after := #[{ on := 0, ground := Ground.data }], guard := none }) rfl (fun K hK => ?_) (AllReadyH.cons (o := { dst := some 5, op := Op.alloc 74, type := 0, pos := "l07_window.go:262", after := #[], guard := none }) rfl (fun K hK => ?_) (AllReadyH.cons (o := { dst := some 6, op := Op.alloc 74, type := 0, pos := "l07_window.go:262", after := #[], guard := none }) rfl (fun K hK => ?_) AllReadyH.nil))
    · go_simp
      go_at_call 35
      refine (HUA.out _).mono ?_
      rintro e t1 ⟨rfl, hq1⟩
      try go_wp2_with fail
      have hh1 := JX.below (W0 := W0) (bA := w.heap.size) (bB := w.heap.size + 1) (bR := w.heap.size + 1 + 1) (a1 := a1) (m1 := m1) (mo1 := mo1) (ev1 := ev1) (su1 := su1) (mx1 := mx1) (ta1 := ta1) (tl1 := tl1) (tc1 := tc1) (ha1 := ha1) (hl1 := hl1) (hc1 := hc1) (a2 := a2) (m2 := m2) (mo2 := mo2) (ev2 := ev2) (su2 := su2) (mx2 := mx2) (ta2 := ta2) (tl2 := tl2) (tc2 := tc2) (ha2 := ha2) (hl2 := hl2) (hc2 := hc2) HX1.out hq1
      refine hK.out _ _ hh1 (fun _ => ?_)
      clear hK K
      try simp only [Act.put, List.setIfInBounds_toArray, List.set_cons_zero, List.set_cons_succ]
      refine wpAnyH_ready (rs := [3, 4, 5]) (by kernel_rfl) (by simp) ?_
      refine AllReadyH.cons (o := { dst := some 11, op := Op.call { callee := Callee.value (Operand.func 35), args := #[Operand.tmp 10], argTypes := #[29] }, type := 74, pos := "l07_window.go:262", after := #[{ on := 2, ground := Ground.data }, { on := 1, ground := Ground.chain }], guard := none }) rfl (fun K hK => ?_) (AllReadyH.cons (o := { dst := some 5, op := Op.alloc 74, type := 0, pos := "l07_window.go:262", after := #[], guard := none }) rfl (fun K hK => ?_) (AllReadyH.cons (o := { dst := some 6, op := Op.alloc 74, type := 0, pos := "l07_window.go:262", after := #[], guard := none }) rfl (fun K hK => ?_) AllReadyH.nil))
      · go_simp
        go_at_call 35
        refine (HUB.out _).mono ?_
        rintro e t2 ⟨rfl, hq2⟩
        try go_wp2_with fail
        have hh2 := JX.below (W0 := W0) (bA := w.heap.size) (bB := w.heap.size + 1) (bR := w.heap.size + 1 + 1) (a1 := a1) (m1 := m1) (mo1 := mo1) (ev1 := ev1) (su1 := su1) (mx1 := mx1) (ta1 := ta1) (tl1 := tl1) (tc1 := tc1) (ha1 := ha1) (hl1 := hl1) (hc1 := hc1) (a2 := a2) (m2 := m2) (mo2 := mo2) (ev2 := ev2) (su2 := su2) (mx2 := mx2) (ta2 := ta2) (tl2 := tl2) (tc2 := tc2) (ha2 := ha2) (hl2 := hl2) (hc2 := hc2) hh1 hq2
        refine hK.out _ _ hh2 (fun _ => ?_)
        clear hK K
        try simp only [Act.put, List.setIfInBounds_toArray, List.set_cons_zero, List.set_cons_succ]
        refine wpAnyH_ready (rs := [4, 5]) (by kernel_rfl) (by simp) ?_
        refine AllReadyH.cons (o := { dst := some 5, op := Op.alloc 74, type := 0, pos := "l07_window.go:262", after := #[], guard := none }) rfl (fun K hK => ?_) (AllReadyH.cons (o := { dst := some 6, op := Op.alloc 74, type := 0, pos := "l07_window.go:262", after := #[], guard := none }) rfl (fun K hK => ?_) AllReadyH.nil)
        · go_simp
          try go_wp2_with fail
          have hloX : W0.heap.size ≤ t2.heap.size := (hh2).1.size
          have hh3 := JX.below (W0 := W0) (bA := w.heap.size) (bB := w.heap.size + 1) (bR := w.heap.size + 1 + 1) (a1 := a1) (m1 := m1) (mo1 := mo1) (ev1 := ev1) (su1 := su1) (mx1 := mx1) (ta1 := ta1) (tl1 := tl1) (tc1 := tc1) (ha1 := ha1) (hl1 := hl1) (hc1 := hc1) (a2 := a2) (m2 := m2) (mo2 := mo2) (ev2 := ev2) (su2 := su2) (mx2 := mx2) (ta2 := ta2) (tl2 := tl2) (tc2 := tc2) (ha2 := ha2) (hl2 := hl2) (hc2 := hc2) hh2 ((Below.refl t2.heap.size t2).alloc (Nat.le_refl _) (Obj.cells #[.string ⟨#[]⟩, .string ⟨#[]⟩, .int .i64 0, .int .i64 0, .int .i64 0, .int .i64 0, .slice none 0 0, .nilFunc, .nilFunc, .slice none 0 0, .nilFunc, .nilFunc] 74))
          have ptX_3 : EvtR.Pt t2.heap.size 12 (t2.alloc (Obj.cells #[.string ⟨#[]⟩, .string ⟨#[]⟩, .int .i64 0, .int .i64 0, .int .i64 0, .int .i64 0, .slice none 0 0, .nilFunc, .nilFunc, .slice none 0 0, .nilFunc, .nilFunc] 74)) := StR.pt_new t2 [.string ⟨#[]⟩, .string ⟨#[]⟩, .int .i64 0, .int .i64 0, .int .i64 0, .int .i64 0, .slice none 0 0, .nilFunc, .nilFunc, .slice none 0 0, .nilFunc, .nilFunc] 74
          refine hK.out _ _ hh3 (fun _ => ?_)
          clear hK K
          try simp only [Act.put, List.setIfInBounds_toArray, List.set_cons_zero, List.set_cons_succ]
          generalize (t2.alloc (Obj.cells #[.string ⟨#[]⟩, .string ⟨#[]⟩, .int .i64 0, .int .i64 0, .int .i64 0, .int .i64 0, .slice none 0 0, .nilFunc, .nilFunc, .slice none 0 0, .nilFunc, .nilFunc] 74)) = k3 at *
          refine wpAnyH_ready (rs := [5]) (by kernel_rfl) (by simp) ?_
          refine AllReadyH.cons (o := { dst := some 6, op := Op.alloc 74, type := 0, pos := "l07_window.go:262", after := #[], guard := none }) rfl (fun K hK => ?_) AllReadyH.nil
          go_simp
          try go_wp2_with fail
          have hneXY : t2.heap.size ≠ k3.heap.size := by have := ptX_3.lt; omega
          have hloY : W0.heap.size ≤ k3.heap.size := (hh3).1.size
          have hh4 := JX.below (W0 := W0) (bA := w.heap.size) (bB := w.heap.size + 1) (bR := w.heap.size + 1 + 1) (a1 := a1) (m1 := m1) (mo1 := mo1) (ev1 := ev1) (su1 := su1) (mx1 := mx1) (ta1 := ta1) (tl1 := tl1) (tc1 := tc1) (ha1 := ha1) (hl1 := hl1) (hc1 := hc1) (a2 := a2) (m2 := m2) (mo2 := mo2) (ev2 := ev2) (su2 := su2) (mx2 := mx2) (ta2 := ta2) (tl2 := tl2) (tc2 := tc2) (ha2 := ha2) (hl2 := hl2) (hc2 := hc2) hh3 ((Below.refl k3.heap.size k3).alloc (Nat.le_refl _) (Obj.cells #[.string ⟨#[]⟩, .string ⟨#[]⟩, .int .i64 0, .int .i64 0, .int .i64 0, .int .i64 0, .slice none 0 0, .nilFunc, .nilFunc, .slice none 0 0, .nilFunc, .nilFunc] 74))
          have ptX_4 := ptX_3.below ((Below.refl k3.heap.size k3).alloc (Nat.le_refl _) (Obj.cells #[.string ⟨#[]⟩, .string ⟨#[]⟩, .int .i64 0, .int .i64 0, .int .i64 0, .int .i64 0, .slice none 0 0, .nilFunc, .nilFunc, .slice none 0 0, .nilFunc, .nilFunc] 74))
          have ptY_4 : EvtR.Pt k3.heap.size 12 (k3.alloc (Obj.cells #[.string ⟨#[]⟩, .string ⟨#[]⟩, .int .i64 0, .int .i64 0, .int .i64 0, .int .i64 0, .slice none 0 0, .nilFunc, .nilFunc, .slice none 0 0, .nilFunc, .nilFunc] 74)) := StR.pt_new k3 [.string ⟨#[]⟩, .string ⟨#[]⟩, .int .i64 0, .int .i64 0, .int .i64 0, .int .i64 0, .slice none 0 0, .nilFunc, .nilFunc, .slice none 0 0, .nilFunc, .nilFunc] 74
          refine hK.out _ _ hh4 (fun _ => ?_)
          clear hK K
          try simp only [Act.put, List.setIfInBounds_toArray, List.set_cons_zero, List.set_cons_succ]
          generalize (k3.alloc (Obj.cells #[.string ⟨#[]⟩, .string ⟨#[]⟩, .int .i64 0, .int .i64 0, .int .i64 0, .int .i64 0, .slice none 0 0, .nilFunc, .nilFunc, .slice none 0 0, .nilFunc, .nilFunc] 74)) = k4 at *
          refine wpAnyH_ready (rs := [6]) (by kernel_rfl) (by simp) ?_
          refine AllReadyH.cons (o := { dst := none, op := Op.store 74 (Operand.tmp 5) (Operand.tmp 9), type := 0, pos := "l07_window.go:262", after := #[{ on := 4, ground := Ground.data }, { on := 1, ground := Ground.data }, { on := 3, ground := Ground.chain }, { on := 0, ground := Ground.phase }, { on := 1, ground := Ground.phase }, { on := 2, ground := Ground.textOnly Departure.lateStores }, { on := 3, ground := Ground.textOnly Departure.lateStoresUnsure }, { on := 4, ground := Ground.phase }, { on := 5, ground := Ground.phase }], guard := none }) rfl (fun K hK => ?_) AllReadyH.nil
          have zl5 := ptX_4.lt
          obtain ⟨e5_0, u5_0⟩ := ptX_4.has 0 (by omega)
          have w5_0 := ptX_4.free 0 (by omega)
          obtain ⟨e5_1, u5_1⟩ := ptX_4.has 1 (by omega)
          have w5_1 := ptX_4.free 1 (by omega)
          obtain ⟨e5_2, u5_2⟩ := ptX_4.has 2 (by omega)
          have w5_2 := ptX_4.free 2 (by omega)
          obtain ⟨e5_3, u5_3⟩ := ptX_4.has 3 (by omega)
          have w5_3 := ptX_4.free 3 (by omega)
          obtain ⟨e5_4, u5_4⟩ := ptX_4.has 4 (by omega)
          have w5_4 := ptX_4.free 4 (by omega)
          obtain ⟨e5_5, u5_5⟩ := ptX_4.has 5 (by omega)
          have w5_5 := ptX_4.free 5 (by omega)
          obtain ⟨e5_6, u5_6⟩ := ptX_4.has 6 (by omega)
          have w5_6 := ptX_4.free 6 (by omega)
          obtain ⟨e5_7, u5_7⟩ := ptX_4.has 7 (by omega)
          have w5_7 := ptX_4.free 7 (by omega)
          obtain ⟨e5_8, u5_8⟩ := ptX_4.has 8 (by omega)
          have w5_8 := ptX_4.free 8 (by omega)
          obtain ⟨e5_9, u5_9⟩ := ptX_4.has 9 (by omega)
          have w5_9 := ptX_4.free 9 (by omega)
          obtain ⟨e5_10, u5_10⟩ := ptX_4.has 10 (by omega)
          have w5_10 := ptX_4.free 10 (by omega)
          obtain ⟨e5_11, u5_11⟩ := ptX_4.has 11 (by omega)
          have w5_11 := ptX_4.free 11 (by omega)
          go_simp
          try go_wp2_with fail
          have hg5 := StR.stL_grown t2.heap.size [.string a1, .string m1, .int .i64 mo1, .int .i64 ev1, .int .i64 su1, .int .i64 mx1, .slice ta1 tl1 tc1, .func (.func 104) #[] #[], .func (.func 105) #[] #[], .slice ha1 hl1 hc1, .func (.func 106) #[] #[], .func (.func 107) #[] #[]] 0 k4
          have hbX_5 := StR.stL_blk (vs := [.string a1, .string m1, .int .i64 mo1, .int .i64 ev1, .int .i64 su1, .int .i64 mx1, .slice ta1 tl1 tc1, .func (.func 104) #[] #[], .func (.func 105) #[] #[], .slice ha1 hl1 hc1, .func (.func 106) #[] #[], .func (.func 107) #[] #[]]) (W := k4) ptX_4 (by simp)
          have hh5 := JX.grown (W0 := W0) (bA := w.heap.size) (bB := w.heap.size + 1) (bR := w.heap.size + 1 + 1) (a1 := a1) (m1 := m1) (mo1 := mo1) (ev1 := ev1) (su1 := su1) (mx1 := mx1) (ta1 := ta1) (tl1 := tl1) (tc1 := tc1) (ha1 := ha1) (hl1 := hl1) (hc1 := hc1) (a2 := a2) (m2 := m2) (mo2 := mo2) (ev2 := ev2) (su2 := su2) (mx2 := mx2) (ta2 := ta2) (tl2 := tl2) (tc2 := tc2) (ha2 := ha2) (hl2 := hl2) (hc2 := hc2) hh4 hloX a0 b0 r0 hg5
          have ptY_5 := StR.pt_far ptY_4 hg5 (fun e => hneXY e.symm)
          simp only [StR.stL, Nat.zero_add, Nat.reduceAdd] at hh5 hg5 hbX_5 ptY_5
          refine hK.out _ _ hh5 (fun _ => ?_)
          clear hK K
          try simp only [Act.put, List.setIfInBounds_toArray, List.set_cons_zero, List.set_cons_succ]
          generalize ((((((((((((k4.setCell ⟨t2.heap.size, 0, none⟩ (.string a1)).setCell ⟨t2.heap.size, 1, none⟩ (.string m1)).setCell ⟨t2.heap.size, 2, none⟩ (.int .i64 mo1)).setCell ⟨t2.heap.size, 3, none⟩ (.int .i64 ev1)).setCell ⟨t2.heap.size, 4, none⟩ (.int .i64 su1)).setCell ⟨t2.heap.size, 5, none⟩ (.int .i64 mx1)).setCell ⟨t2.heap.size, 6, none⟩ (.slice ta1 tl1 tc1)).setCell ⟨t2.heap.size, 7, none⟩ (.func (.func 104) #[] #[])).setCell ⟨t2.heap.size, 8, none⟩ (.func (.func 105) #[] #[])).setCell ⟨t2.heap.size, 9, none⟩ (.slice ha1 hl1 hc1)).setCell ⟨t2.heap.size, 10, none⟩ (.func (.func 106) #[] #[])).setCell ⟨t2.heap.size, 11, none⟩ (.func (.func 107) #[] #[])) = k5 at *
          refine wpAnyH_ready (rs := [7]) (by kernel_rfl) (by simp) ?_
          refine AllReadyH.cons (o := { dst := none, op := Op.store 74 (Operand.tmp 6) (Operand.tmp 11), type := 0, pos := "l07_window.go:262", after := #[{ on := 5, ground := Ground.data }, { on := 3, ground := Ground.data }, { on := 6, ground := Ground.chain }, { on := 0, ground := Ground.phase }, { on := 1, ground := Ground.phase }, { on := 2, ground := Ground.phase }, { on := 3, ground := Ground.phase }, { on := 4, ground := Ground.phase }, { on := 5, ground := Ground.phase }, { on := 6, ground := Ground.phase }], guard := none }) rfl (fun K hK => ?_) AllReadyH.nil
          have zl6 := ptY_5.lt
          obtain ⟨e6_0, u6_0⟩ := ptY_5.has 0 (by omega)
          have w6_0 := ptY_5.free 0 (by omega)
          obtain ⟨e6_1, u6_1⟩ := ptY_5.has 1 (by omega)
          have w6_1 := ptY_5.free 1 (by omega)
          obtain ⟨e6_2, u6_2⟩ := ptY_5.has 2 (by omega)
          have w6_2 := ptY_5.free 2 (by omega)
          obtain ⟨e6_3, u6_3⟩ := ptY_5.has 3 (by omega)
          have w6_3 := ptY_5.free 3 (by omega)
          obtain ⟨e6_4, u6_4⟩ := ptY_5.has 4 (by omega)
          have w6_4 := ptY_5.free 4 (by omega)
          obtain ⟨e6_5, u6_5⟩ := ptY_5.has 5 (by omega)
          have w6_5 := ptY_5.free 5 (by omega)
          obtain ⟨e6_6, u6_6⟩ := ptY_5.has 6 (by omega)
          have w6_6 := ptY_5.free 6 (by omega)
          obtain ⟨e6_7, u6_7⟩ := ptY_5.has 7 (by omega)
          have w6_7 := ptY_5.free 7 (by omega)
          obtain ⟨e6_8, u6_8⟩ := ptY_5.has 8 (by omega)
          have w6_8 := ptY_5.free 8 (by omega)
          obtain ⟨e6_9, u6_9⟩ := ptY_5.has 9 (by omega)
          have w6_9 := ptY_5.free 9 (by omega)
          obtain ⟨e6_10, u6_10⟩ := ptY_5.has 10 (by omega)
          have w6_10 := ptY_5.free 10 (by omega)
          obtain ⟨e6_11, u6_11⟩ := ptY_5.has 11 (by omega)
          have w6_11 := ptY_5.free 11 (by omega)
          go_simp
          try go_wp2_with fail
          have hg6 := StR.stL_grown k3.heap.size [.string a2, .string m2, .int .i64 mo2, .int .i64 ev2, .int .i64 su2, .int .i64 mx2, .slice ta2 tl2 tc2, .func (.func 104) #[] #[], .func (.func 105) #[] #[], .slice ha2 hl2 hc2, .func (.func 106) #[] #[], .func (.func 107) #[] #[]] 0 k5
          have hbY_6 := StR.stL_blk (vs := [.string a2, .string m2, .int .i64 mo2, .int .i64 ev2, .int .i64 su2, .int .i64 mx2, .slice ta2 tl2 tc2, .func (.func 104) #[] #[], .func (.func 105) #[] #[], .slice ha2 hl2 hc2, .func (.func 106) #[] #[], .func (.func 107) #[] #[]]) (W := k5) ptY_5 (by simp)
          have hh6 := JX.grown (W0 := W0) (bA := w.heap.size) (bB := w.heap.size + 1) (bR := w.heap.size + 1 + 1) (a1 := a1) (m1 := m1) (mo1 := mo1) (ev1 := ev1) (su1 := su1) (mx1 := mx1) (ta1 := ta1) (tl1 := tl1) (tc1 := tc1) (ha1 := ha1) (hl1 := hl1) (hc1 := hc1) (a2 := a2) (m2 := m2) (mo2 := mo2) (ev2 := ev2) (su2 := su2) (mx2 := mx2) (ta2 := ta2) (tl2 := tl2) (tc2 := tc2) (ha2 := ha2) (hl2 := hl2) (hc2 := hc2) hh5 hloY a0 b0 r0 hg6
          have blkX_6 := StR.blk_far hbX_5 hg6 hneXY
          simp only [StR.stL, Nat.zero_add, Nat.reduceAdd] at hh6 hg6 hbY_6 blkX_6
          refine hK.out _ _ hh6 (fun _ => ?_)
          clear hK K
          try simp only [Act.put, List.setIfInBounds_toArray, List.set_cons_zero, List.set_cons_succ]
          generalize ((((((((((((k5.setCell ⟨k3.heap.size, 0, none⟩ (.string a2)).setCell ⟨k3.heap.size, 1, none⟩ (.string m2)).setCell ⟨k3.heap.size, 2, none⟩ (.int .i64 mo2)).setCell ⟨k3.heap.size, 3, none⟩ (.int .i64 ev2)).setCell ⟨k3.heap.size, 4, none⟩ (.int .i64 su2)).setCell ⟨k3.heap.size, 5, none⟩ (.int .i64 mx2)).setCell ⟨k3.heap.size, 6, none⟩ (.slice ta2 tl2 tc2)).setCell ⟨k3.heap.size, 7, none⟩ (.func (.func 104) #[] #[])).setCell ⟨k3.heap.size, 8, none⟩ (.func (.func 105) #[] #[])).setCell ⟨k3.heap.size, 9, none⟩ (.slice ha2 hl2 hc2)).setCell ⟨k3.heap.size, 10, none⟩ (.func (.func 106) #[] #[])).setCell ⟨k3.heap.size, 11, none⟩ (.func (.func 107) #[] #[])) = k6 at *
          refine wpAnyH_done (by kernel_rfl) ?_ _
          have HBX := hid_intro blkX_6
          have HBY := hid_intro hbY_6
          have HE := hid_intro (show JX W0 w.heap.size (w.heap.size + 1) (w.heap.size + 1 + 1) a1 m1 mo1 ev1 su1 mx1 ta1 tl1 tc1 ha1 hl1 hc1 a2 m2 mo2 ev2 su2 mx2 ta2 tl2 tc2 ha2 hl2 hc2 k6 from hh6)
          try clear u6_11
          try clear u6_10
          try clear u6_9
          try clear u6_8
          try clear u6_7
          try clear u6_6
          try clear u6_5
          try clear u6_4
          try clear u6_3
          try clear u6_2
          try clear u6_1
          try clear u6_0
          try clear blkX_6
          try clear hh6
          try clear hbY_6
          try clear hg6
          try clear w6_11
          try clear w6_10
          try clear w6_9
          try clear w6_8
          try clear w6_7
          try clear w6_6
          try clear w6_5
          try clear w6_4
          try clear w6_3
          try clear w6_2
          try clear w6_1
          try clear w6_0
          try clear zl6
          try clear u5_11
          try clear u5_10
          try clear u5_9
          try clear u5_8
          try clear u5_7
          try clear u5_6
          try clear u5_5
          try clear u5_4
          try clear u5_3
          try clear u5_2
          try clear u5_1
          try clear u5_0
          try clear ptY_5
          try clear hh5
          try clear hbX_5
          try clear hg5
          try clear w5_11
          try clear w5_10
          try clear w5_9
          try clear w5_8
          try clear w5_7
          try clear w5_6
          try clear w5_5
          try clear w5_4
          try clear w5_3
          try clear w5_2
          try clear w5_1
          try clear w5_0
          try clear zl5
          try clear ptY_4
          try clear ptX_4
          try clear hh4
          try clear hloY
          try clear hneXY
          try clear ptX_3
          try clear hh3
          try clear hloX
          try clear hq2
          try clear hh2
          try clear hq1
          try clear hh1
          go_wp2_with fail
          go_meet
          case rel => exact ⟨_, _, rfl, rfl, HBX, HBY, HE⟩
        · go_simp
          try go_wp2_with fail
          have hloY : W0.heap.size ≤ t2.heap.size := (hh2).1.size
          have hh3 := JX.below (W0 := W0) (bA := w.heap.size) (bB := w.heap.size + 1) (bR := w.heap.size + 1 + 1) (a1 := a1) (m1 := m1) (mo1 := mo1) (ev1 := ev1) (su1 := su1) (mx1 := mx1) (ta1 := ta1) (tl1 := tl1) (tc1 := tc1) (ha1 := ha1) (hl1 := hl1) (hc1 := hc1) (a2 := a2) (m2 := m2) (mo2 := mo2) (ev2 := ev2) (su2 := su2) (mx2 := mx2) (ta2 := ta2) (tl2 := tl2) (tc2 := tc2) (ha2 := ha2) (hl2 := hl2) (hc2 := hc2) hh2 ((Below.refl t2.heap.size t2).alloc (Nat.le_refl _) (Obj.cells #[.string ⟨#[]⟩, .string ⟨#[]⟩, .int .i64 0, .int .i64 0, .int .i64 0, .int .i64 0, .slice none 0 0, .nilFunc, .nilFunc, .slice none 0 0, .nilFunc, .nilFunc] 74))
          have ptY_3 : EvtR.Pt t2.heap.size 12 (t2.alloc (Obj.cells #[.string ⟨#[]⟩, .string ⟨#[]⟩, .int .i64 0, .int .i64 0, .int .i64 0, .int .i64 0, .slice none 0 0, .nilFunc, .nilFunc, .slice none 0 0, .nilFunc, .nilFunc] 74)) := StR.pt_new t2 [.string ⟨#[]⟩, .string ⟨#[]⟩, .int .i64 0, .int .i64 0, .int .i64 0, .int .i64 0, .slice none 0 0, .nilFunc, .nilFunc, .slice none 0 0, .nilFunc, .nilFunc] 74
          refine hK.out _ _ hh3 (fun _ => ?_)
          clear hK K
          try simp only [Act.put, List.setIfInBounds_toArray, List.set_cons_zero, List.set_cons_succ]
          generalize (t2.alloc (Obj.cells #[.string ⟨#[]⟩, .string ⟨#[]⟩, .int .i64 0, .int .i64 0, .int .i64 0, .int .i64 0, .slice none 0 0, .nilFunc, .nilFunc, .slice none 0 0, .nilFunc, .nilFunc] 74)) = k3 at *
          refine wpAnyH_ready (rs := [4]) (by kernel_rfl) (by simp) ?_
          refine AllReadyH.cons (o := { dst := some 5, op := Op.alloc 74, type := 0, pos := "l07_window.go:262", after := #[], guard := none }) rfl (fun K hK => ?_) AllReadyH.nil
          go_simp
          try go_wp2_with fail
          have hneYX : t2.heap.size ≠ k3.heap.size := by have := ptY_3.lt; omega
          have hloX : W0.heap.size ≤ k3.heap.size := (hh3).1.size
          have hh4 := JX.below (W0 := W0) (bA := w.heap.size) (bB := w.heap.size + 1) (bR := w.heap.size + 1 + 1) (a1 := a1) (m1 := m1) (mo1 := mo1) (ev1 := ev1) (su1 := su1) (mx1 := mx1) (ta1 := ta1) (tl1 := tl1) (tc1 := tc1) (ha1 := ha1) (hl1 := hl1) (hc1 := hc1) (a2 := a2) (m2 := m2) (mo2 := mo2) (ev2 := ev2) (su2 := su2) (mx2 := mx2) (ta2 := ta2) (tl2 := tl2) (tc2 := tc2) (ha2 := ha2) (hl2 := hl2) (hc2 := hc2) hh3 ((Below.refl k3.heap.size k3).alloc (Nat.le_refl _) (Obj.cells #[.string ⟨#[]⟩, .string ⟨#[]⟩, .int .i64 0, .int .i64 0, .int .i64 0, .int .i64 0, .slice none 0 0, .nilFunc, .nilFunc, .slice none 0 0, .nilFunc, .nilFunc] 74))
          have ptY_4 := ptY_3.below ((Below.refl k3.heap.size k3).alloc (Nat.le_refl _) (Obj.cells #[.string ⟨#[]⟩, .string ⟨#[]⟩, .int .i64 0, .int .i64 0, .int .i64 0, .int .i64 0, .slice none 0 0, .nilFunc, .nilFunc, .slice none 0 0, .nilFunc, .nilFunc] 74))
          have ptX_4 : EvtR.Pt k3.heap.size 12 (k3.alloc (Obj.cells #[.string ⟨#[]⟩, .string ⟨#[]⟩, .int .i64 0, .int .i64 0, .int .i64 0, .int .i64 0, .slice none 0 0, .nilFunc, .nilFunc, .slice none 0 0, .nilFunc, .nilFunc] 74)) := StR.pt_new k3 [.string ⟨#[]⟩, .string ⟨#[]⟩, .int .i64 0, .int .i64 0, .int .i64 0, .int .i64 0, .slice none 0 0, .nilFunc, .nilFunc, .slice none 0 0, .nilFunc, .nilFunc] 74
          refine hK.out _ _ hh4 (fun _ => ?_)
          clear hK K
          try simp only [Act.put, List.setIfInBounds_toArray, List.set_cons_zero, List.set_cons_succ]
          generalize (k3.alloc (Obj.cells #[.string ⟨#[]⟩, .string ⟨#[]⟩, .int .i64 0, .int .i64 0, .int .i64 0, .int .i64 0, .slice none 0 0, .nilFunc, .nilFunc, .slice none 0 0, .nilFunc, .nilFunc] 74)) = k4 at *
          refine wpAnyH_ready (rs := [6]) (by kernel_rfl) (by simp) ?_
          refine AllReadyH.cons (o := { dst := none, op := Op.store 74 (Operand.tmp 5) (Operand.tmp 9), type := 0, pos := "l07_window.go:262", after := #[{ on := 4, ground := Ground.data }, { on := 1, ground := Ground.data }, { on := 3, ground := Ground.chain }, { on := 0, ground := Ground.phase }, { on := 1, ground := Ground.phase }, { on := 2, ground := Ground.textOnly Departure.lateStores }, { on := 3, ground := Ground.textOnly Departure.lateStoresUnsure }, { on := 4, ground := Ground.phase }, { on := 5, ground := Ground.phase }], guard := none }) rfl (fun K hK => ?_) AllReadyH.nil
          have zl5 := ptX_4.lt
          obtain ⟨e5_0, u5_0⟩ := ptX_4.has 0 (by omega)
          have w5_0 := ptX_4.free 0 (by omega)
          obtain ⟨e5_1, u5_1⟩ := ptX_4.has 1 (by omega)
          have w5_1 := ptX_4.free 1 (by omega)
          obtain ⟨e5_2, u5_2⟩ := ptX_4.has 2 (by omega)
          have w5_2 := ptX_4.free 2 (by omega)
          obtain ⟨e5_3, u5_3⟩ := ptX_4.has 3 (by omega)
          have w5_3 := ptX_4.free 3 (by omega)
          obtain ⟨e5_4, u5_4⟩ := ptX_4.has 4 (by omega)
          have w5_4 := ptX_4.free 4 (by omega)
          obtain ⟨e5_5, u5_5⟩ := ptX_4.has 5 (by omega)
          have w5_5 := ptX_4.free 5 (by omega)
          obtain ⟨e5_6, u5_6⟩ := ptX_4.has 6 (by omega)
          have w5_6 := ptX_4.free 6 (by omega)
          obtain ⟨e5_7, u5_7⟩ := ptX_4.has 7 (by omega)
          have w5_7 := ptX_4.free 7 (by omega)
          obtain ⟨e5_8, u5_8⟩ := ptX_4.has 8 (by omega)
          have w5_8 := ptX_4.free 8 (by omega)
          obtain ⟨e5_9, u5_9⟩ := ptX_4.has 9 (by omega)
          have w5_9 := ptX_4.free 9 (by omega)
          obtain ⟨e5_10, u5_10⟩ := ptX_4.has 10 (by omega)
          have w5_10 := ptX_4.free 10 (by omega)
          obtain ⟨e5_11, u5_11⟩ := ptX_4.has 11 (by omega)
          have w5_11 := ptX_4.free 11 (by omega)
          go_simp
          try go_wp2_with fail
          have hg5 := StR.stL_grown k3.heap.size [.string a1, .string m1, .int .i64 mo1, .int .i64 ev1, .int .i64 su1, .int .i64 mx1, .slice ta1 tl1 tc1, .func (.func 104) #[] #[], .func (.func 105) #[] #[], .slice ha1 hl1 hc1, .func (.func 106) #[] #[], .func (.func 107) #[] #[]] 0 k4
          have hbX_5 := StR.stL_blk (vs := [.string a1, .string m1, .int .i64 mo1, .int .i64 ev1, .int .i64 su1, .int .i64 mx1, .slice ta1 tl1 tc1, .func (.func 104) #[] #[], .func (.func 105) #[] #[], .slice ha1 hl1 hc1, .func (.func 106) #[] #[], .func (.func 107) #[] #[]]) (W := k4) ptX_4 (by simp)
          have hh5 := JX.grown (W0 := W0) (bA := w.heap.size) (bB := w.heap.size + 1) (bR := w.heap.size + 1 + 1) (a1 := a1) (m1 := m1) (mo1 := mo1) (ev1 := ev1) (su1 := su1) (mx1 := mx1) (ta1 := ta1) (tl1 := tl1) (tc1 := tc1) (ha1 := ha1) (hl1 := hl1) (hc1 := hc1) (a2 := a2) (m2 := m2) (mo2 := mo2) (ev2 := ev2) (su2 := su2) (mx2 := mx2) (ta2 := ta2) (tl2 := tl2) (tc2 := tc2) (ha2 := ha2) (hl2 := hl2) (hc2 := hc2) hh4 hloX a0 b0 r0 hg5
          have ptY_5 := StR.pt_far ptY_4 hg5 hneYX
          simp only [StR.stL, Nat.zero_add, Nat.reduceAdd] at hh5 hg5 hbX_5 ptY_5
          refine hK.out _ _ hh5 (fun _ => ?_)
          clear hK K
          try simp only [Act.put, List.setIfInBounds_toArray, List.set_cons_zero, List.set_cons_succ]
          generalize ((((((((((((k4.setCell ⟨k3.heap.size, 0, none⟩ (.string a1)).setCell ⟨k3.heap.size, 1, none⟩ (.string m1)).setCell ⟨k3.heap.size, 2, none⟩ (.int .i64 mo1)).setCell ⟨k3.heap.size, 3, none⟩ (.int .i64 ev1)).setCell ⟨k3.heap.size, 4, none⟩ (.int .i64 su1)).setCell ⟨k3.heap.size, 5, none⟩ (.int .i64 mx1)).setCell ⟨k3.heap.size, 6, none⟩ (.slice ta1 tl1 tc1)).setCell ⟨k3.heap.size, 7, none⟩ (.func (.func 104) #[] #[])).setCell ⟨k3.heap.size, 8, none⟩ (.func (.func 105) #[] #[])).setCell ⟨k3.heap.size, 9, none⟩ (.slice ha1 hl1 hc1)).setCell ⟨k3.heap.size, 10, none⟩ (.func (.func 106) #[] #[])).setCell ⟨k3.heap.size, 11, none⟩ (.func (.func 107) #[] #[])) = k5 at *
          refine wpAnyH_ready (rs := [7]) (by kernel_rfl) (by simp) ?_
          refine AllReadyH.cons (o := { dst := none, op := Op.store 74 (Operand.tmp 6) (Operand.tmp 11), type := 0, pos := "l07_window.go:262", after := #[{ on := 5, ground := Ground.data }, { on := 3, ground := Ground.data }, { on := 6, ground := Ground.chain }, { on := 0, ground := Ground.phase }, { on := 1, ground := Ground.phase }, { on := 2, ground := Ground.phase }, { on := 3, ground := Ground.phase }, { on := 4, ground := Ground.phase }, { on := 5, ground := Ground.phase }, { on := 6, ground := Ground.phase }], guard := none }) rfl (fun K hK => ?_) AllReadyH.nil
          have zl6 := ptY_5.lt
          obtain ⟨e6_0, u6_0⟩ := ptY_5.has 0 (by omega)
          have w6_0 := ptY_5.free 0 (by omega)
          obtain ⟨e6_1, u6_1⟩ := ptY_5.has 1 (by omega)
          have w6_1 := ptY_5.free 1 (by omega)
          obtain ⟨e6_2, u6_2⟩ := ptY_5.has 2 (by omega)
          have w6_2 := ptY_5.free 2 (by omega)
          obtain ⟨e6_3, u6_3⟩ := ptY_5.has 3 (by omega)
          have w6_3 := ptY_5.free 3 (by omega)
          obtain ⟨e6_4, u6_4⟩ := ptY_5.has 4 (by omega)
          have w6_4 := ptY_5.free 4 (by omega)
          obtain ⟨e6_5, u6_5⟩ := ptY_5.has 5 (by omega)
          have w6_5 := ptY_5.free 5 (by omega)
          obtain ⟨e6_6, u6_6⟩ := ptY_5.has 6 (by omega)
          have w6_6 := ptY_5.free 6 (by omega)
          obtain ⟨e6_7, u6_7⟩ := ptY_5.has 7 (by omega)
          have w6_7 := ptY_5.free 7 (by omega)
          obtain ⟨e6_8, u6_8⟩ := ptY_5.has 8 (by omega)
          have w6_8 := ptY_5.free 8 (by omega)
          obtain ⟨e6_9, u6_9⟩ := ptY_5.has 9 (by omega)
          have w6_9 := ptY_5.free 9 (by omega)
          obtain ⟨e6_10, u6_10⟩ := ptY_5.has 10 (by omega)
          have w6_10 := ptY_5.free 10 (by omega)
          obtain ⟨e6_11, u6_11⟩ := ptY_5.has 11 (by omega)
          have w6_11 := ptY_5.free 11 (by omega)
          go_simp
          try go_wp2_with fail
          have hg6 := StR.stL_grown t2.heap.size [.string a2, .string m2, .int .i64 mo2, .int .i64 ev2, .int .i64 su2, .int .i64 mx2, .slice ta2 tl2 tc2, .func (.func 104) #[] #[], .func (.func 105) #[] #[], .slice ha2 hl2 hc2, .func (.func 106) #[] #[], .func (.func 107) #[] #[]] 0 k5
          have hbY_6 := StR.stL_blk (vs := [.string a2, .string m2, .int .i64 mo2, .int .i64 ev2, .int .i64 su2, .int .i64 mx2, .slice ta2 tl2 tc2, .func (.func 104) #[] #[], .func (.func 105) #[] #[], .slice ha2 hl2 hc2, .func (.func 106) #[] #[], .func (.func 107) #[] #[]]) (W := k5) ptY_5 (by simp)
          have hh6 := JX.grown (W0 := W0) (bA := w.heap.size) (bB := w.heap.size + 1) (bR := w.heap.size + 1 + 1) (a1 := a1) (m1 := m1) (mo1 := mo1) (ev1 := ev1) (su1 := su1) (mx1 := mx1) (ta1 := ta1) (tl1 := tl1) (tc1 := tc1) (ha1 := ha1) (hl1 := hl1) (hc1 := hc1) (a2 := a2) (m2 := m2) (mo2 := mo2) (ev2 := ev2) (su2 := su2) (mx2 := mx2) (ta2 := ta2) (tl2 := tl2) (tc2 := tc2) (ha2 := ha2) (hl2 := hl2) (hc2 := hc2) hh5 hloY a0 b0 r0 hg6
          have blkX_6 := StR.blk_far hbX_5 hg6 (fun e => hneYX e.symm)
          simp only [StR.stL, Nat.zero_add, Nat.reduceAdd] at hh6 hg6 hbY_6 blkX_6
          refine hK.out _ _ hh6 (fun _ => ?_)
          clear hK K
          try simp only [Act.put, List.setIfInBounds_toArray, List.set_cons_zero, List.set_cons_succ]
          generalize ((((((((((((k5.setCell ⟨t2.heap.size, 0, none⟩ (.string a2)).setCell ⟨t2.heap.size, 1, none⟩ (.string m2)).setCell ⟨t2.heap.size, 2, none⟩ (.int .i64 mo2)).setCell ⟨t2.heap.size, 3, none⟩ (.int .i64 ev2)).setCell ⟨t2.heap.size, 4, none⟩ (.int .i64 su2)).setCell ⟨t2.heap.size, 5, none⟩ (.int .i64 mx2)).setCell ⟨t2.heap.size, 6, none⟩ (.slice ta2 tl2 tc2)).setCell ⟨t2.heap.size, 7, none⟩ (.func (.func 104) #[] #[])).setCell ⟨t2.heap.size, 8, none⟩ (.func (.func 105) #[] #[])).setCell ⟨t2.heap.size, 9, none⟩ (.slice ha2 hl2 hc2)).setCell ⟨t2.heap.size, 10, none⟩ (.func (.func 106) #[] #[])).setCell ⟨t2.heap.size, 11, none⟩ (.func (.func 107) #[] #[])) = k6 at *
          refine wpAnyH_done (by kernel_rfl) ?_ _
          have HBX := hid_intro blkX_6
          have HBY := hid_intro hbY_6
          have HE := hid_intro (show JX W0 w.heap.size (w.heap.size + 1) (w.heap.size + 1 + 1) a1 m1 mo1 ev1 su1 mx1 ta1 tl1 tc1 ha1 hl1 hc1 a2 m2 mo2 ev2 su2 mx2 ta2 tl2 tc2 ha2 hl2 hc2 k6 from hh6)
          try clear u6_11
          try clear u6_10
          try clear u6_9
          try clear u6_8
          try clear u6_7
          try clear u6_6
          try clear u6_5
          try clear u6_4
          try clear u6_3
          try clear u6_2
          try clear u6_1
          try clear u6_0
          try clear blkX_6
          try clear hh6
          try clear hbY_6
          try clear hg6
          try clear w6_11
          try clear w6_10
          try clear w6_9
          try clear w6_8
          try clear w6_7
          try clear w6_6
          try clear w6_5
          try clear w6_4
          try clear w6_3
          try clear w6_2
          try clear w6_1
          try clear w6_0
          try clear zl6
          try clear u5_11
          try clear u5_10
          try clear u5_9
          try clear u5_8
          try clear u5_7
          try clear u5_6
          try clear u5_5
          try clear u5_4
          try clear u5_3
          try clear u5_2
          try clear u5_1
          try clear u5_0
          try clear ptY_5
          try clear hh5
          try clear hbX_5
          try clear hg5
          try clear w5_11
          try clear w5_10
          try clear w5_9
          try clear w5_8
          try clear w5_7
          try clear w5_6
          try clear w5_5
          try clear w5_4
          try clear w5_3
          try clear w5_2
          try clear w5_1
          try clear w5_0
          try clear zl5
          try clear ptX_4
          try clear ptY_4
          try clear hh4
          try clear hloX
          try clear hneYX
          try clear ptY_3
          try clear hh3
          try clear hloY
          try clear hq2
          try clear hh2
          try clear hq1
          try clear hh1
          go_wp2_with fail
          go_meet
          case rel => exact ⟨_, _, rfl, rfl, HBX, HBY, HE⟩
      · go_simp
        try go_wp2_with fail
        have hloX : W0.heap.size ≤ t1.heap.size := (hh1).1.size
        have hh2 := JX.below (W0 := W0) (bA := w.heap.size) (bB := w.heap.size + 1) (bR := w.heap.size + 1 + 1) (a1 := a1) (m1 := m1) (mo1 := mo1) (ev1 := ev1) (su1 := su1) (mx1 := mx1) (ta1 := ta1) (tl1 := tl1) (tc1 := tc1) (ha1 := ha1) (hl1 := hl1) (hc1 := hc1) (a2 := a2) (m2 := m2) (mo2 := mo2) (ev2 := ev2) (su2 := su2) (mx2 := mx2) (ta2 := ta2) (tl2 := tl2) (tc2 := tc2) (ha2 := ha2) (hl2 := hl2) (hc2 := hc2) hh1 ((Below.refl t1.heap.size t1).alloc (Nat.le_refl _) (Obj.cells #[.string ⟨#[]⟩, .string ⟨#[]⟩, .int .i64 0, .int .i64 0, .int .i64 0, .int .i64 0, .slice none 0 0, .nilFunc, .nilFunc, .slice none 0 0, .nilFunc, .nilFunc] 74))
        have ptX_2 : EvtR.Pt t1.heap.size 12 (t1.alloc (Obj.cells #[.string ⟨#[]⟩, .string ⟨#[]⟩, .int .i64 0, .int .i64 0, .int .i64 0, .int .i64 0, .slice none 0 0, .nilFunc, .nilFunc, .slice none 0 0, .nilFunc, .nilFunc] 74)) := StR.pt_new t1 [.string ⟨#[]⟩, .string ⟨#[]⟩, .int .i64 0, .int .i64 0, .int .i64 0, .int .i64 0, .slice none 0 0, .nilFunc, .nilFunc, .slice none 0 0, .nilFunc, .nilFunc] 74
        refine hK.out _ _ hh2 (fun _ => ?_)
        clear hK K
        try simp only [Act.put, List.setIfInBounds_toArray, List.set_cons_zero, List.set_cons_succ]
        generalize (t1.alloc (Obj.cells #[.string ⟨#[]⟩, .string ⟨#[]⟩, .int .i64 0, .int .i64 0, .int .i64 0, .int .i64 0, .slice none 0 0, .nilFunc, .nilFunc, .slice none 0 0, .nilFunc, .nilFunc] 74)) = k2 at *
        refine wpAnyH_ready (rs := [3, 5]) (by kernel_rfl) (by simp) ?_
        refine AllReadyH.cons (o := { dst := some 11, op := Op.call { callee := Callee.value (Operand.func 35), args := #[Operand.tmp 10], argTypes := #[29] }, type := 74, pos := "l07_window.go:262", after := #[{ on := 2, ground := Ground.data }, { on := 1, ground := Ground.chain }], guard := none }) rfl (fun K hK => ?_) (AllReadyH.cons (o := { dst := some 6, op := Op.alloc 74, type := 0, pos := "l07_window.go:262", after := #[], guard := none }) rfl (fun K hK => ?_) AllReadyH.nil)
        · go_simp
          go_at_call 35
          refine (HUB.out _).mono ?_
          rintro e t3 ⟨rfl, hq3⟩
          try go_wp2_with fail
          have hh3 := JX.below (W0 := W0) (bA := w.heap.size) (bB := w.heap.size + 1) (bR := w.heap.size + 1 + 1) (a1 := a1) (m1 := m1) (mo1 := mo1) (ev1 := ev1) (su1 := su1) (mx1 := mx1) (ta1 := ta1) (tl1 := tl1) (tc1 := tc1) (ha1 := ha1) (hl1 := hl1) (hc1 := hc1) (a2 := a2) (m2 := m2) (mo2 := mo2) (ev2 := ev2) (su2 := su2) (mx2 := mx2) (ta2 := ta2) (tl2 := tl2) (tc2 := tc2) (ha2 := ha2) (hl2 := hl2) (hc2 := hc2) hh2 hq3
          have ptX_3 := ptX_2.below hq3
          refine hK.out _ _ hh3 (fun _ => ?_)
          clear hK K
          try simp only [Act.put, List.setIfInBounds_toArray, List.set_cons_zero, List.set_cons_succ]
          refine wpAnyH_ready (rs := [5]) (by kernel_rfl) (by simp) ?_
          refine AllReadyH.cons (o := { dst := some 6, op := Op.alloc 74, type := 0, pos := "l07_window.go:262", after := #[], guard := none }) rfl (fun K hK => ?_) AllReadyH.nil
          go_simp
          try go_wp2_with fail
          have hneXY : t1.heap.size ≠ t3.heap.size := by have := ptX_3.lt; omega
          have hloY : W0.heap.size ≤ t3.heap.size := (hh3).1.size
          have hh4 := JX.below (W0 := W0) (bA := w.heap.size) (bB := w.heap.size + 1) (bR := w.heap.size + 1 + 1) (a1 := a1) (m1 := m1) (mo1 := mo1) (ev1 := ev1) (su1 := su1) (mx1 := mx1) (ta1 := ta1) (tl1 := tl1) (tc1 := tc1) (ha1 := ha1) (hl1 := hl1) (hc1 := hc1) (a2 := a2) (m2 := m2) (mo2 := mo2) (ev2 := ev2) (su2 := su2) (mx2 := mx2) (ta2 := ta2) (tl2 := tl2) (tc2 := tc2) (ha2 := ha2) (hl2 := hl2) (hc2 := hc2) hh3 ((Below.refl t3.heap.size t3).alloc (Nat.le_refl _) (Obj.cells #[.string ⟨#[]⟩, .string ⟨#[]⟩, .int .i64 0, .int .i64 0, .int .i64 0, .int .i64 0, .slice none 0 0, .nilFunc, .nilFunc, .slice none 0 0, .nilFunc, .nilFunc] 74))
          have ptX_4 := ptX_3.below ((Below.refl t3.heap.size t3).alloc (Nat.le_refl _) (Obj.cells #[.string ⟨#[]⟩, .string ⟨#[]⟩, .int .i64 0, .int .i64 0, .int .i64 0, .int .i64 0, .slice none 0 0, .nilFunc, .nilFunc, .slice none 0 0, .nilFunc, .nilFunc] 74))
          have ptY_4 : EvtR.Pt t3.heap.size 12 (t3.alloc (Obj.cells #[.string ⟨#[]⟩, .string ⟨#[]⟩, .int .i64 0, .int .i64 0, .int .i64 0, .int .i64 0, .slice none 0 0, .nilFunc, .nilFunc, .slice none 0 0, .nilFunc, .nilFunc] 74)) := StR.pt_new t3 [.string ⟨#[]⟩, .string ⟨#[]⟩, .int .i64 0, .int .i64 0, .int .i64 0, .int .i64 0, .slice none 0 0, .nilFunc, .nilFunc, .slice none 0 0, .nilFunc, .nilFunc] 74
          refine hK.out _ _ hh4 (fun _ => ?_)
          clear hK K
          try simp only [Act.put, List.setIfInBounds_toArray, List.set_cons_zero, List.set_cons_succ]
          generalize (t3.alloc (Obj.cells #[.string ⟨#[]⟩, .string ⟨#[]⟩, .int .i64 0, .int .i64 0, .int .i64 0, .int .i64 0, .slice none 0 0, .nilFunc, .nilFunc, .slice none 0 0, .nilFunc, .nilFunc] 74)) = k4 at *
          refine wpAnyH_ready (rs := [6]) (by kernel_rfl) (by simp) ?_
          refine AllReadyH.cons (o := { dst := none, op := Op.store 74 (Operand.tmp 5) (Operand.tmp 9), type := 0, pos := "l07_window.go:262", after := #[{ on := 4, ground := Ground.data }, { on := 1, ground := Ground.data }, { on := 3, ground := Ground.chain }, { on := 0, ground := Ground.phase }, { on := 1, ground := Ground.phase }, { on := 2, ground := Ground.textOnly Departure.lateStores }, { on := 3, ground := Ground.textOnly Departure.lateStoresUnsure }, { on := 4, ground := Ground.phase }, { on := 5, ground := Ground.phase }], guard := none }) rfl (fun K hK => ?_) AllReadyH.nil
          have zl5 := ptX_4.lt
          obtain ⟨e5_0, u5_0⟩ := ptX_4.has 0 (by omega)
          have w5_0 := ptX_4.free 0 (by omega)
          obtain ⟨e5_1, u5_1⟩ := ptX_4.has 1 (by omega)
          have w5_1 := ptX_4.free 1 (by omega)
          obtain ⟨e5_2, u5_2⟩ := ptX_4.has 2 (by omega)
          have w5_2 := ptX_4.free 2 (by omega)
          obtain ⟨e5_3, u5_3⟩ := ptX_4.has 3 (by omega)
          have w5_3 := ptX_4.free 3 (by omega)
          obtain ⟨e5_4, u5_4⟩ := ptX_4.has 4 (by omega)
          have w5_4 := ptX_4.free 4 (by omega)
          obtain ⟨e5_5, u5_5⟩ := ptX_4.has 5 (by omega)
          have w5_5 := ptX_4.free 5 (by omega)
          obtain ⟨e5_6, u5_6⟩ := ptX_4.has 6 (by omega)
          have w5_6 := ptX_4.free 6 (by omega)
          obtain ⟨e5_7, u5_7⟩ := ptX_4.has 7 (by omega)
          have w5_7 := ptX_4.free 7 (by omega)
          obtain ⟨e5_8, u5_8⟩ := ptX_4.has 8 (by omega)
          have w5_8 := ptX_4.free 8 (by omega)
          obtain ⟨e5_9, u5_9⟩ := ptX_4.has 9 (by omega)
          have w5_9 := ptX_4.free 9 (by omega)
          obtain ⟨e5_10, u5_10⟩ := ptX_4.has 10 (by omega)
          have w5_10 := ptX_4.free 10 (by omega)
          obtain ⟨e5_11, u5_11⟩ := ptX_4.has 11 (by omega)
          have w5_11 := ptX_4.free 11 (by omega)
          go_simp
          try go_wp2_with fail
          have hg5 := StR.stL_grown t1.heap.size [.string a1, .string m1, .int .i64 mo1, .int .i64 ev1, .int .i64 su1, .int .i64 mx1, .slice ta1 tl1 tc1, .func (.func 104) #[] #[], .func (.func 105) #[] #[], .slice ha1 hl1 hc1, .func (.func 106) #[] #[], .func (.func 107) #[] #[]] 0 k4
          have hbX_5 := StR.stL_blk (vs := [.string a1, .string m1, .int .i64 mo1, .int .i64 ev1, .int .i64 su1, .int .i64 mx1, .slice ta1 tl1 tc1, .func (.func 104) #[] #[], .func (.func 105) #[] #[], .slice ha1 hl1 hc1, .func (.func 106) #[] #[], .func (.func 107) #[] #[]]) (W := k4) ptX_4 (by simp)
          have hh5 := JX.grown (W0 := W0) (bA := w.heap.size) (bB := w.heap.size + 1) (bR := w.heap.size + 1 + 1) (a1 := a1) (m1 := m1) (mo1 := mo1) (ev1 := ev1) (su1 := su1) (mx1 := mx1) (ta1 := ta1) (tl1 := tl1) (tc1 := tc1) (ha1 := ha1) (hl1 := hl1) (hc1 := hc1) (a2 := a2) (m2 := m2) (mo2 := mo2) (ev2 := ev2) (su2 := su2) (mx2 := mx2) (ta2 := ta2) (tl2 := tl2) (tc2 := tc2) (ha2 := ha2) (hl2 := hl2) (hc2 := hc2) hh4 hloX a0 b0 r0 hg5
          have ptY_5 := StR.pt_far ptY_4 hg5 (fun e => hneXY e.symm)
          simp only [StR.stL, Nat.zero_add, Nat.reduceAdd] at hh5 hg5 hbX_5 ptY_5
          refine hK.out _ _ hh5 (fun _ => ?_)
          clear hK K
          try simp only [Act.put, List.setIfInBounds_toArray, List.set_cons_zero, List.set_cons_succ]
          generalize ((((((((((((k4.setCell ⟨t1.heap.size, 0, none⟩ (.string a1)).setCell ⟨t1.heap.size, 1, none⟩ (.string m1)).setCell ⟨t1.heap.size, 2, none⟩ (.int .i64 mo1)).setCell ⟨t1.heap.size, 3, none⟩ (.int .i64 ev1)).setCell ⟨t1.heap.size, 4, none⟩ (.int .i64 su1)).setCell ⟨t1.heap.size, 5, none⟩ (.int .i64 mx1)).setCell ⟨t1.heap.size, 6, none⟩ (.slice ta1 tl1 tc1)).setCell ⟨t1.heap.size, 7, none⟩ (.func (.func 104) #[] #[])).setCell ⟨t1.heap.size, 8, none⟩ (.func (.func 105) #[] #[])).setCell ⟨t1.heap.size, 9, none⟩ (.slice ha1 hl1 hc1)).setCell ⟨t1.heap.size, 10, none⟩ (.func (.func 106) #[] #[])).setCell ⟨t1.heap.size, 11, none⟩ (.func (.func 107) #[] #[])) = k5 at *
          refine wpAnyH_ready (rs := [7]) (by kernel_rfl) (by simp) ?_
          refine AllReadyH.cons (o := { dst := none, op := Op.store 74 (Operand.tmp 6) (Operand.tmp 11), type := 0, pos := "l07_window.go:262", after := #[{ on := 5, ground := Ground.data }, { on := 3, ground := Ground.data }, { on := 6, ground := Ground.chain }, { on := 0, ground := Ground.phase }, { on := 1, ground := Ground.phase }, { on := 2, ground := Ground.phase }, { on := 3, ground := Ground.phase }, { on := 4, ground := Ground.phase }, { on := 5, ground := Ground.phase }, { on := 6, ground := Ground.phase }], guard := none }) rfl (fun K hK => ?_) AllReadyH.nil
          have zl6 := ptY_5.lt
          obtain ⟨e6_0, u6_0⟩ := ptY_5.has 0 (by omega)
          have w6_0 := ptY_5.free 0 (by omega)
          obtain ⟨e6_1, u6_1⟩ := ptY_5.has 1 (by omega)
          have w6_1 := ptY_5.free 1 (by omega)
          obtain ⟨e6_2, u6_2⟩ := ptY_5.has 2 (by omega)
          have w6_2 := ptY_5.free 2 (by omega)
          obtain ⟨e6_3, u6_3⟩ := ptY_5.has 3 (by omega)
          have w6_3 := ptY_5.free 3 (by omega)
          obtain ⟨e6_4, u6_4⟩ := ptY_5.has 4 (by omega)
          have w6_4 := ptY_5.free 4 (by omega)
          obtain ⟨e6_5, u6_5⟩ := ptY_5.has 5 (by omega)
          have w6_5 := ptY_5.free 5 (by omega)
          obtain ⟨e6_6, u6_6⟩ := ptY_5.has 6 (by omega)
          have w6_6 := ptY_5.free 6 (by omega)
          obtain ⟨e6_7, u6_7⟩ := ptY_5.has 7 (by omega)
          have w6_7 := ptY_5.free 7 (by omega)
          obtain ⟨e6_8, u6_8⟩ := ptY_5.has 8 (by omega)
          have w6_8 := ptY_5.free 8 (by omega)
          obtain ⟨e6_9, u6_9⟩ := ptY_5.has 9 (by omega)
          have w6_9 := ptY_5.free 9 (by omega)
          obtain ⟨e6_10, u6_10⟩ := ptY_5.has 10 (by omega)
          have w6_10 := ptY_5.free 10 (by omega)
          obtain ⟨e6_11, u6_11⟩ := ptY_5.has 11 (by omega)
          have w6_11 := ptY_5.free 11 (by omega)
          go_simp
          try go_wp2_with fail
          have hg6 := StR.stL_grown t3.heap.size [.string a2, .string m2, .int .i64 mo2, .int .i64 ev2, .int .i64 su2, .int .i64 mx2, .slice ta2 tl2 tc2, .func (.func 104) #[] #[], .func (.func 105) #[] #[], .slice ha2 hl2 hc2, .func (.func 106) #[] #[], .func (.func 107) #[] #[]] 0 k5
          have hbY_6 := StR.stL_blk (vs := [.string a2, .string m2, .int .i64 mo2, .int .i64 ev2, .int .i64 su2, .int .i64 mx2, .slice ta2 tl2 tc2, .func (.func 104) #[] #[], .func (.func 105) #[] #[], .slice ha2 hl2 hc2, .func (.func 106) #[] #[], .func (.func 107) #[] #[]]) (W := k5) ptY_5 (by simp)
          have hh6 := JX.grown (W0 := W0) (bA := w.heap.size) (bB := w.heap.size + 1) (bR := w.heap.size + 1 + 1) (a1 := a1) (m1 := m1) (mo1 := mo1) (ev1 := ev1) (su1 := su1) (mx1 := mx1) (ta1 := ta1) (tl1 := tl1) (tc1 := tc1) (ha1 := ha1) (hl1 := hl1) (hc1 := hc1) (a2 := a2) (m2 := m2) (mo2 := mo2) (ev2 := ev2) (su2 := su2) (mx2 := mx2) (ta2 := ta2) (tl2 := tl2) (tc2 := tc2) (ha2 := ha2) (hl2 := hl2) (hc2 := hc2) hh5 hloY a0 b0 r0 hg6
          have blkX_6 := StR.blk_far hbX_5 hg6 hneXY
          simp only [StR.stL, Nat.zero_add, Nat.reduceAdd] at hh6 hg6 hbY_6 blkX_6
          refine hK.out _ _ hh6 (fun _ => ?_)
          clear hK K
          try simp only [Act.put, List.setIfInBounds_toArray, List.set_cons_zero, List.set_cons_succ]
          generalize ((((((((((((k5.setCell ⟨t3.heap.size, 0, none⟩ (.string a2)).setCell ⟨t3.heap.size, 1, none⟩ (.string m2)).setCell ⟨t3.heap.size, 2, none⟩ (.int .i64 mo2)).setCell ⟨t3.heap.size, 3, none⟩ (.int .i64 ev2)).setCell ⟨t3.heap.size, 4, none⟩ (.int .i64 su2)).setCell ⟨t3.heap.size, 5, none⟩ (.int .i64 mx2)).setCell ⟨t3.heap.size, 6, none⟩ (.slice ta2 tl2 tc2)).setCell ⟨t3.heap.size, 7, none⟩ (.func (.func 104) #[] #[])).setCell ⟨t3.heap.size, 8, none⟩ (.func (.func 105) #[] #[])).setCell ⟨t3.heap.size, 9, none⟩ (.slice ha2 hl2 hc2)).setCell ⟨t3.heap.size, 10, none⟩ (.func (.func 106) #[] #[])).setCell ⟨t3.heap.size, 11, none⟩ (.func (.func 107) #[] #[])) = k6 at *
          refine wpAnyH_done (by kernel_rfl) ?_ _
          have HBX := hid_intro blkX_6
          have HBY := hid_intro hbY_6
          have HE := hid_intro (show JX W0 w.heap.size (w.heap.size + 1) (w.heap.size + 1 + 1) a1 m1 mo1 ev1 su1 mx1 ta1 tl1 tc1 ha1 hl1 hc1 a2 m2 mo2 ev2 su2 mx2 ta2 tl2 tc2 ha2 hl2 hc2 k6 from hh6)
          try clear u6_11
          try clear u6_10
          try clear u6_9
          try clear u6_8
          try clear u6_7
          try clear u6_6
          try clear u6_5
          try clear u6_4
          try clear u6_3
          try clear u6_2
          try clear u6_1
          try clear u6_0
          try clear blkX_6
          try clear hh6
          try clear hbY_6
          try clear hg6
          try clear w6_11
          try clear w6_10
          try clear w6_9
          try clear w6_8
          try clear w6_7
          try clear w6_6
          try clear w6_5
          try clear w6_4
          try clear w6_3
          try clear w6_2
          try clear w6_1
          try clear w6_0
          try clear zl6
          try clear u5_11
          try clear u5_10
          try clear u5_9
          try clear u5_8
          try clear u5_7
          try clear u5_6
          try clear u5_5
          try clear u5_4
          try clear u5_3
          try clear u5_2
          try clear u5_1
          try clear u5_0
          try clear ptY_5
          try clear hh5
          try clear hbX_5
          try clear hg5
          try clear w5_11
          try clear w5_10
          try clear w5_9
          try clear w5_8
          try clear w5_7
          try clear w5_6
          try clear w5_5
          try clear w5_4
          try clear w5_3
          try clear w5_2
          try clear w5_1
          try clear w5_0
          try clear zl5
          try clear ptY_4
          try clear ptX_4
          try clear hh4
          try clear hloY
          try clear hneXY
          try clear hq3
          try clear ptX_3
          try clear hh3
          try clear ptX_2
          try clear hh2
          try clear hloX
          try clear hq1
          try clear hh1
          go_wp2_with fail
          go_meet
          case rel => exact ⟨_, _, rfl, rfl, HBX, HBY, HE⟩
        · go_simp
          try go_wp2_with fail
          have hneXY : t1.heap.size ≠ k2.heap.size := by have := ptX_2.lt; omega
          have hloY : W0.heap.size ≤ k2.heap.size := (hh2).1.size
          have hh3 := JX.below (W0 := W0) (bA := w.heap.size) (bB := w.heap.size + 1) (bR := w.heap.size + 1 + 1) (a1 := a1) (m1 := m1) (mo1 := mo1) (ev1 := ev1) (su1 := su1) (mx1 := mx1) (ta1 := ta1) (tl1 := tl1) (tc1 := tc1) (ha1 := ha1) (hl1 := hl1) (hc1 := hc1) (a2 := a2) (m2 := m2) (mo2 := mo2) (ev2 := ev2) (su2 := su2) (mx2 := mx2) (ta2 := ta2) (tl2 := tl2) (tc2 := tc2) (ha2 := ha2) (hl2 := hl2) (hc2 := hc2) hh2 ((Below.refl k2.heap.size k2).alloc (Nat.le_refl _) (Obj.cells #[.string ⟨#[]⟩, .string ⟨#[]⟩, .int .i64 0, .int .i64 0, .int .i64 0, .int .i64 0, .slice none 0 0, .nilFunc, .nilFunc, .slice none 0 0, .nilFunc, .nilFunc] 74))
          have ptX_3 := ptX_2.below ((Below.refl k2.heap.size k2).alloc (Nat.le_refl _) (Obj.cells #[.string ⟨#[]⟩, .string ⟨#[]⟩, .int .i64 0, .int .i64 0, .int .i64 0, .int .i64 0, .slice none 0 0, .nilFunc, .nilFunc, .slice none 0 0, .nilFunc, .nilFunc] 74))
          have ptY_3 : EvtR.Pt k2.heap.size 12 (k2.alloc (Obj.cells #[.string ⟨#[]⟩, .string ⟨#[]⟩, .int .i64 0, .int .i64 0, .int .i64 0, .int .i64 0, .slice none 0 0, .nilFunc, .nilFunc, .slice none 0 0, .nilFunc, .nilFunc] 74)) := StR.pt_new k2 [.string ⟨#[]⟩, .string ⟨#[]⟩, .int .i64 0, .int .i64 0, .int .i64 0, .int .i64 0, .slice none 0 0, .nilFunc, .nilFunc, .slice none 0 0, .nilFunc, .nilFunc] 74
          refine hK.out _ _ hh3 (fun _ => ?_)
          clear hK K
          try simp only [Act.put, List.setIfInBounds_toArray, List.set_cons_zero, List.set_cons_succ]
          generalize (k2.alloc (Obj.cells #[.string ⟨#[]⟩, .string ⟨#[]⟩, .int .i64 0, .int .i64 0, .int .i64 0, .int .i64 0, .slice none 0 0, .nilFunc, .nilFunc, .slice none 0 0, .nilFunc, .nilFunc] 74)) = k3 at *
          refine wpAnyH_ready (rs := [3]) (by kernel_rfl) (by simp) ?_
          refine AllReadyH.cons (o := { dst := some 11, op := Op.call { callee := Callee.value (Operand.func 35), args := #[Operand.tmp 10], argTypes := #[29] }, type := 74, pos := "l07_window.go:262", after := #[{ on := 2, ground := Ground.data }, { on := 1, ground := Ground.chain }], guard := none }) rfl (fun K hK => ?_) AllReadyH.nil
          go_simp
          go_at_call 35
          refine (HUB.out _).mono ?_
          rintro e t4 ⟨rfl, hq4⟩
          try go_wp2_with fail
          have hh4 := JX.below (W0 := W0) (bA := w.heap.size) (bB := w.heap.size + 1) (bR := w.heap.size + 1 + 1) (a1 := a1) (m1 := m1) (mo1 := mo1) (ev1 := ev1) (su1 := su1) (mx1 := mx1) (ta1 := ta1) (tl1 := tl1) (tc1 := tc1) (ha1 := ha1) (hl1 := hl1) (hc1 := hc1) (a2 := a2) (m2 := m2) (mo2 := mo2) (ev2 := ev2) (su2 := su2) (mx2 := mx2) (ta2 := ta2) (tl2 := tl2) (tc2 := tc2) (ha2 := ha2) (hl2 := hl2) (hc2 := hc2) hh3 hq4
          have ptX_4 := ptX_3.below hq4
          have ptY_4 := ptY_3.below hq4
          refine hK.out _ _ hh4 (fun _ => ?_)
          clear hK K
          try simp only [Act.put, List.setIfInBounds_toArray, List.set_cons_zero, List.set_cons_succ]
          refine wpAnyH_ready (rs := [6]) (by kernel_rfl) (by simp) ?_
          refine AllReadyH.cons (o := { dst := none, op := Op.store 74 (Operand.tmp 5) (Operand.tmp 9), type := 0, pos := "l07_window.go:262", after := #[{ on := 4, ground := Ground.data }, { on := 1, ground := Ground.data }, { on := 3, ground := Ground.chain }, { on := 0, ground := Ground.phase }, { on := 1, ground := Ground.phase }, { on := 2, ground := Ground.textOnly Departure.lateStores }, { on := 3, ground := Ground.textOnly Departure.lateStoresUnsure }, { on := 4, ground := Ground.phase }, { on := 5, ground := Ground.phase }], guard := none }) rfl (fun K hK => ?_) AllReadyH.nil
          have zl5 := ptX_4.lt
          obtain ⟨e5_0, u5_0⟩ := ptX_4.has 0 (by omega)
          have w5_0 := ptX_4.free 0 (by omega)
          obtain ⟨e5_1, u5_1⟩ := ptX_4.has 1 (by omega)
          have w5_1 := ptX_4.free 1 (by omega)
          obtain ⟨e5_2, u5_2⟩ := ptX_4.has 2 (by omega)
          have w5_2 := ptX_4.free 2 (by omega)
          obtain ⟨e5_3, u5_3⟩ := ptX_4.has 3 (by omega)
          have w5_3 := ptX_4.free 3 (by omega)
          obtain ⟨e5_4, u5_4⟩ := ptX_4.has 4 (by omega)
          have w5_4 := ptX_4.free 4 (by omega)
          obtain ⟨e5_5, u5_5⟩ := ptX_4.has 5 (by omega)
          have w5_5 := ptX_4.free 5 (by omega)
          obtain ⟨e5_6, u5_6⟩ := ptX_4.has 6 (by omega)
          have w5_6 := ptX_4.free 6 (by omega)
          obtain ⟨e5_7, u5_7⟩ := ptX_4.has 7 (by omega)
          have w5_7 := ptX_4.free 7 (by omega)
          obtain ⟨e5_8, u5_8⟩ := ptX_4.has 8 (by omega)
          have w5_8 := ptX_4.free 8 (by omega)
          obtain ⟨e5_9, u5_9⟩ := ptX_4.has 9 (by omega)
          have w5_9 := ptX_4.free 9 (by omega)
          obtain ⟨e5_10, u5_10⟩ := ptX_4.has 10 (by omega)
          have w5_10 := ptX_4.free 10 (by omega)
          obtain ⟨e5_11, u5_11⟩ := ptX_4.has 11 (by omega)
          have w5_11 := ptX_4.free 11 (by omega)
          go_simp
          try go_wp2_with fail
          have hg5 := StR.stL_grown t1.heap.size [.string a1, .string m1, .int .i64 mo1, .int .i64 ev1, .int .i64 su1, .int .i64 mx1, .slice ta1 tl1 tc1, .func (.func 104) #[] #[], .func (.func 105) #[] #[], .slice ha1 hl1 hc1, .func (.func 106) #[] #[], .func (.func 107) #[] #[]] 0 t4
          have hbX_5 := StR.stL_blk (vs := [.string a1, .string m1, .int .i64 mo1, .int .i64 ev1, .int .i64 su1, .int .i64 mx1, .slice ta1 tl1 tc1, .func (.func 104) #[] #[], .func (.func 105) #[] #[], .slice ha1 hl1 hc1, .func (.func 106) #[] #[], .func (.func 107) #[] #[]]) (W := t4) ptX_4 (by simp)
          have hh5 := JX.grown (W0 := W0) (bA := w.heap.size) (bB := w.heap.size + 1) (bR := w.heap.size + 1 + 1) (a1 := a1) (m1 := m1) (mo1 := mo1) (ev1 := ev1) (su1 := su1) (mx1 := mx1) (ta1 := ta1) (tl1 := tl1) (tc1 := tc1) (ha1 := ha1) (hl1 := hl1) (hc1 := hc1) (a2 := a2) (m2 := m2) (mo2 := mo2) (ev2 := ev2) (su2 := su2) (mx2 := mx2) (ta2 := ta2) (tl2 := tl2) (tc2 := tc2) (ha2 := ha2) (hl2 := hl2) (hc2 := hc2) hh4 hloX a0 b0 r0 hg5
          have ptY_5 := StR.pt_far ptY_4 hg5 (fun e => hneXY e.symm)
          simp only [StR.stL, Nat.zero_add, Nat.reduceAdd] at hh5 hg5 hbX_5 ptY_5
          refine hK.out _ _ hh5 (fun _ => ?_)
          clear hK K
          try simp only [Act.put, List.setIfInBounds_toArray, List.set_cons_zero, List.set_cons_succ]
          generalize ((((((((((((t4.setCell ⟨t1.heap.size, 0, none⟩ (.string a1)).setCell ⟨t1.heap.size, 1, none⟩ (.string m1)).setCell ⟨t1.heap.size, 2, none⟩ (.int .i64 mo1)).setCell ⟨t1.heap.size, 3, none⟩ (.int .i64 ev1)).setCell ⟨t1.heap.size, 4, none⟩ (.int .i64 su1)).setCell ⟨t1.heap.size, 5, none⟩ (.int .i64 mx1)).setCell ⟨t1.heap.size, 6, none⟩ (.slice ta1 tl1 tc1)).setCell ⟨t1.heap.size, 7, none⟩ (.func (.func 104) #[] #[])).setCell ⟨t1.heap.size, 8, none⟩ (.func (.func 105) #[] #[])).setCell ⟨t1.heap.size, 9, none⟩ (.slice ha1 hl1 hc1)).setCell ⟨t1.heap.size, 10, none⟩ (.func (.func 106) #[] #[])).setCell ⟨t1.heap.size, 11, none⟩ (.func (.func 107) #[] #[])) = k5 at *
          refine wpAnyH_ready (rs := [7]) (by kernel_rfl) (by simp) ?_
          refine AllReadyH.cons (o := { dst := none, op := Op.store 74 (Operand.tmp 6) (Operand.tmp 11), type := 0, pos := "l07_window.go:262", after := #[{ on := 5, ground := Ground.data }, { on := 3, ground := Ground.data }, { on := 6, ground := Ground.chain }, { on := 0, ground := Ground.phase }, { on := 1, ground := Ground.phase }, { on := 2, ground := Ground.phase }, { on := 3, ground := Ground.phase }, { on := 4, ground := Ground.phase }, { on := 5, ground := Ground.phase }, { on := 6, ground := Ground.phase }], guard := none }) rfl (fun K hK => ?_) AllReadyH.nil
          have zl6 := ptY_5.lt
          obtain ⟨e6_0, u6_0⟩ := ptY_5.has 0 (by omega)
          have w6_0 := ptY_5.free 0 (by omega)
          obtain ⟨e6_1, u6_1⟩ := ptY_5.has 1 (by omega)
          have w6_1 := ptY_5.free 1 (by omega)
          obtain ⟨e6_2, u6_2⟩ := ptY_5.has 2 (by omega)
          have w6_2 := ptY_5.free 2 (by omega)
          obtain ⟨e6_3, u6_3⟩ := ptY_5.has 3 (by omega)
          have w6_3 := ptY_5.free 3 (by omega)
          obtain ⟨e6_4, u6_4⟩ := ptY_5.has 4 (by omega)
          have w6_4 := ptY_5.free 4 (by omega)
          obtain ⟨e6_5, u6_5⟩ := ptY_5.has 5 (by omega)
          have w6_5 := ptY_5.free 5 (by omega)
          obtain ⟨e6_6, u6_6⟩ := ptY_5.has 6 (by omega)
          have w6_6 := ptY_5.free 6 (by omega)
          obtain ⟨e6_7, u6_7⟩ := ptY_5.has 7 (by omega)
          have w6_7 := ptY_5.free 7 (by omega)
          obtain ⟨e6_8, u6_8⟩ := ptY_5.has 8 (by omega)
          have w6_8 := ptY_5.free 8 (by omega)
          obtain ⟨e6_9, u6_9⟩ := ptY_5.has 9 (by omega)
          have w6_9 := ptY_5.free 9 (by omega)
          obtain ⟨e6_10, u6_10⟩ := ptY_5.has 10 (by omega)
          have w6_10 := ptY_5.free 10 (by omega)
          obtain ⟨e6_11, u6_11⟩ := ptY_5.has 11 (by omega)
          have w6_11 := ptY_5.free 11 (by omega)
          go_simp
          try go_wp2_with fail
          have hg6 := StR.stL_grown k2.heap.size [.string a2, .string m2, .int .i64 mo2, .int .i64 ev2, .int .i64 su2, .int .i64 mx2, .slice ta2 tl2 tc2, .func (.func 104) #[] #[], .func (.func 105) #[] #[], .slice ha2 hl2 hc2, .func (.func 106) #[] #[], .func (.func 107) #[] #[]] 0 k5
          have hbY_6 := StR.stL_blk (vs := [.string a2, .string m2, .int .i64 mo2, .int .i64 ev2, .int .i64 su2, .int .i64 mx2, .slice ta2 tl2 tc2, .func (.func 104) #[] #[], .func (.func 105) #[] #[], .slice ha2 hl2 hc2, .func (.func 106) #[] #[], .func (.func 107) #[] #[]]) (W := k5) ptY_5 (by simp)
          have hh6 := JX.grown (W0 := W0) (bA := w.heap.size) (bB := w.heap.size + 1) (bR := w.heap.size + 1 + 1) (a1 := a1) (m1 := m1) (mo1 := mo1) (ev1 := ev1) (su1 := su1) (mx1 := mx1) (ta1 := ta1) (tl1 := tl1) (tc1 := tc1) (ha1 := ha1) (hl1 := hl1) (hc1 := hc1) (a2 := a2) (m2 := m2) (mo2 := mo2) (ev2 := ev2) (su2 := su2) (mx2 := mx2) (ta2 := ta2) (tl2 := tl2) (tc2 := tc2) (ha2 := ha2) (hl2 := hl2) (hc2 := hc2) hh5 hloY a0 b0 r0 hg6
          have blkX_6 := StR.blk_far hbX_5 hg6 hneXY
          simp only [StR.stL, Nat.zero_add, Nat.reduceAdd] at hh6 hg6 hbY_6 blkX_6
          refine hK.out _ _ hh6 (fun _ => ?_)
          clear hK K
          try simp only [Act.put, List.setIfInBounds_toArray, List.set_cons_zero, List.set_cons_succ]
          generalize ((((((((((((k5.setCell ⟨k2.heap.size, 0, none⟩ (.string a2)).setCell ⟨k2.heap.size, 1, none⟩ (.string m2)).setCell ⟨k2.heap.size, 2, none⟩ (.int .i64 mo2)).setCell ⟨k2.heap.size, 3, none⟩ (.int .i64 ev2)).setCell ⟨k2.heap.size, 4, none⟩ (.int .i64 su2)).setCell ⟨k2.heap.size, 5, none⟩ (.int .i64 mx2)).setCell ⟨k2.heap.size, 6, none⟩ (.slice ta2 tl2 tc2)).setCell ⟨k2.heap.size, 7, none⟩ (.func (.func 104) #[] #[])).setCell ⟨k2.heap.size, 8, none⟩ (.func (.func 105) #[] #[])).setCell ⟨k2.heap.size, 9, none⟩ (.slice ha2 hl2 hc2)).setCell ⟨k2.heap.size, 10, none⟩ (.func (.func 106) #[] #[])).setCell ⟨k2.heap.size, 11, none⟩ (.func (.func 107) #[] #[])) = k6 at *
          refine wpAnyH_done (by kernel_rfl) ?_ _
          have HBX := hid_intro blkX_6
          have HBY := hid_intro hbY_6
          have HE := hid_intro (show JX W0 w.heap.size (w.heap.size + 1) (w.heap.size + 1 + 1) a1 m1 mo1 ev1 su1 mx1 ta1 tl1 tc1 ha1 hl1 hc1 a2 m2 mo2 ev2 su2 mx2 ta2 tl2 tc2 ha2 hl2 hc2 k6 from hh6)
          try clear u6_11
          try clear u6_10
          try clear u6_9
          try clear u6_8
          try clear u6_7
          try clear u6_6
          try clear u6_5
          try clear u6_4
          try clear u6_3
          try clear u6_2
          try clear u6_1
          try clear u6_0
          try clear blkX_6
          try clear hh6
          try clear hbY_6
          try clear hg6
          try clear w6_11
          try clear w6_10
          try clear w6_9
          try clear w6_8
          try clear w6_7
          try clear w6_6
          try clear w6_5
          try clear w6_4
          try clear w6_3
          try clear w6_2
          try clear w6_1
          try clear w6_0
          try clear zl6
          try clear u5_11
          try clear u5_10
          try clear u5_9
          try clear u5_8
          try clear u5_7
          try clear u5_6
          try clear u5_5
          try clear u5_4
          try clear u5_3
          try clear u5_2
          try clear u5_1
          try clear u5_0
          try clear ptY_5
          try clear hh5
          try clear hbX_5
          try clear hg5
          try clear w5_11
          try clear w5_10
          try clear w5_9
          try clear w5_8
          try clear w5_7
          try clear w5_6
          try clear w5_5
          try clear w5_4
          try clear w5_3
          try clear w5_2
          try clear w5_1
          try clear w5_0
          try clear zl5
          try clear hq4
          try clear ptY_4
          try clear ptX_4
          try clear hh4
          try clear ptY_3
          try clear ptX_3
          try clear hh3
          try clear hloY
          try clear hneXY
          try clear ptX_2
          try clear hh2
          try clear hloX
          try clear hq1
          try clear hh1
          go_wp2_with fail
          go_meet
          case rel => exact ⟨_, _, rfl, rfl, HBX, HBY, HE⟩
      · go_simp
        try go_wp2_with fail
        have hloY : W0.heap.size ≤ t1.heap.size := (hh1).1.size
        have hh2 := JX.below (W0 := W0) (bA := w.heap.size) (bB := w.heap.size + 1) (bR := w.heap.size + 1 + 1) (a1 := a1) (m1 := m1) (mo1 := mo1) (ev1 := ev1) (su1 := su1) (mx1 := mx1) (ta1 := ta1) (tl1 := tl1) (tc1 := tc1) (ha1 := ha1) (hl1 := hl1) (hc1 := hc1) (a2 := a2) (m2 := m2) (mo2 := mo2) (ev2 := ev2) (su2 := su2) (mx2 := mx2) (ta2 := ta2) (tl2 := tl2) (tc2 := tc2) (ha2 := ha2) (hl2 := hl2) (hc2 := hc2) hh1 ((Below.refl t1.heap.size t1).alloc (Nat.le_refl _) (Obj.cells #[.string ⟨#[]⟩, .string ⟨#[]⟩, .int .i64 0, .int .i64 0, .int .i64 0, .int .i64 0, .slice none 0 0, .nilFunc, .nilFunc, .slice none 0 0, .nilFunc, .nilFunc] 74))
        have ptY_2 : EvtR.Pt t1.heap.size 12 (t1.alloc (Obj.cells #[.string ⟨#[]⟩, .string ⟨#[]⟩, .int .i64 0, .int .i64 0, .int .i64 0, .int .i64 0, .slice none 0 0, .nilFunc, .nilFunc, .slice none 0 0, .nilFunc, .nilFunc] 74)) := StR.pt_new t1 [.string ⟨#[]⟩, .string ⟨#[]⟩, .int .i64 0, .int .i64 0, .int .i64 0, .int .i64 0, .slice none 0 0, .nilFunc, .nilFunc, .slice none 0 0, .nilFunc, .nilFunc] 74
        refine hK.out _ _ hh2 (fun _ => ?_)
        clear hK K
        try simp only [Act.put, List.setIfInBounds_toArray, List.set_cons_zero, List.set_cons_succ]
        generalize (t1.alloc (Obj.cells #[.string ⟨#[]⟩, .string ⟨#[]⟩, .int .i64 0, .int .i64 0, .int .i64 0, .int .i64 0, .slice none 0 0, .nilFunc, .nilFunc, .slice none 0 0, .nilFunc, .nilFunc] 74)) = k2 at *
        refine wpAnyH_ready (rs := [3, 4]) (by kernel_rfl) (by simp) ?_
        refine AllReadyH.cons (o := { dst := some 11, op := Op.call { callee := Callee.value (Operand.func 35), args := #[Operand.tmp 10], argTypes := #[29] }, type := 74, pos := "l07_window.go:262", after := #[{ on := 2, ground := Ground.data }, { on := 1, ground := Ground.chain }], guard := none }) rfl (fun K hK => ?_) (AllReadyH.cons (o := { dst := some 5, op := Op.alloc 74, type := 0, pos := "l07_window.go:262", after := #[], guard := none }) rfl (fun K hK => ?_) AllReadyH.nil)
        · go_simp
          go_at_call 35
          refine (HUB.out _).mono ?_
          rintro e t3 ⟨rfl, hq3⟩
          try go_wp2_with fail
          have hh3 := JX.below (W0 := W0) (bA := w.heap.size) (bB := w.heap.size + 1) (bR := w.heap.size + 1 + 1) (a1 := a1) (m1 := m1) (mo1 := mo1) (ev1 := ev1) (su1 := su1) (mx1 := mx1) (ta1 := ta1) (tl1 := tl1) (tc1 := tc1) (ha1 := ha1) (hl1 := hl1) (hc1 := hc1) (a2 := a2) (m2 := m2) (mo2 := mo2) (ev2 := ev2) (su2 := su2) (mx2 := mx2) (ta2 := ta2) (tl2 := tl2) (tc2 := tc2) (ha2 := ha2) (hl2 := hl2) (hc2 := hc2) hh2 hq3
          have ptY_3 := ptY_2.below hq3
          refine hK.out _ _ hh3 (fun _ => ?_)
          clear hK K
          try simp only [Act.put, List.setIfInBounds_toArray, List.set_cons_zero, List.set_cons_succ]
          refine wpAnyH_ready (rs := [4]) (by kernel_rfl) (by simp) ?_
          refine AllReadyH.cons (o := { dst := some 5, op := Op.alloc 74, type := 0, pos := "l07_window.go:262", after := #[], guard := none }) rfl (fun K hK => ?_) AllReadyH.nil
          go_simp
          try go_wp2_with fail
          have hneYX : t1.heap.size ≠ t3.heap.size := by have := ptY_3.lt; omega
          have hloX : W0.heap.size ≤ t3.heap.size := (hh3).1.size
          have hh4 := JX.below (W0 := W0) (bA := w.heap.size) (bB := w.heap.size + 1) (bR := w.heap.size + 1 + 1) (a1 := a1) (m1 := m1) (mo1 := mo1) (ev1 := ev1) (su1 := su1) (mx1 := mx1) (ta1 := ta1) (tl1 := tl1) (tc1 := tc1) (ha1 := ha1) (hl1 := hl1) (hc1 := hc1) (a2 := a2) (m2 := m2) (mo2 := mo2) (ev2 := ev2) (su2 := su2) (mx2 := mx2) (ta2 := ta2) (tl2 := tl2) (tc2 := tc2) (ha2 := ha2) (hl2 := hl2) (hc2 := hc2) hh3 ((Below.refl t3.heap.size t3).alloc (Nat.le_refl _) (Obj.cells #[.string ⟨#[]⟩, .string ⟨#[]⟩, .int .i64 0, .int .i64 0, .int .i64 0, .int .i64 0, .slice none 0 0, .nilFunc, .nilFunc, .slice none 0 0, .nilFunc, .nilFunc] 74))
          have ptY_4 := ptY_3.below ((Below.refl t3.heap.size t3).alloc (Nat.le_refl _) (Obj.cells #[.string ⟨#[]⟩, .string ⟨#[]⟩, .int .i64 0, .int .i64 0, .int .i64 0, .int .i64 0, .slice none 0 0, .nilFunc, .nilFunc, .slice none 0 0, .nilFunc, .nilFunc] 74))
          have ptX_4 : EvtR.Pt t3.heap.size 12 (t3.alloc (Obj.cells #[.string ⟨#[]⟩, .string ⟨#[]⟩, .int .i64 0, .int .i64 0, .int .i64 0, .int .i64 0, .slice none 0 0, .nilFunc, .nilFunc, .slice none 0 0, .nilFunc, .nilFunc] 74)) := StR.pt_new t3 [.string ⟨#[]⟩, .string ⟨#[]⟩, .int .i64 0, .int .i64 0, .int .i64 0, .int .i64 0, .slice none 0 0, .nilFunc, .nilFunc, .slice none 0 0, .nilFunc, .nilFunc] 74
          refine hK.out _ _ hh4 (fun _ => ?_)
          clear hK K
          try simp only [Act.put, List.setIfInBounds_toArray, List.set_cons_zero, List.set_cons_succ]
          generalize (t3.alloc (Obj.cells #[.string ⟨#[]⟩, .string ⟨#[]⟩, .int .i64 0, .int .i64 0, .int .i64 0, .int .i64 0, .slice none 0 0, .nilFunc, .nilFunc, .slice none 0 0, .nilFunc, .nilFunc] 74)) = k4 at *
          refine wpAnyH_ready (rs := [6]) (by kernel_rfl) (by simp) ?_
          refine AllReadyH.cons (o := { dst := none, op := Op.store 74 (Operand.tmp 5) (Operand.tmp 9), type := 0, pos := "l07_window.go:262", after := #[{ on := 4, ground := Ground.data }, { on := 1, ground := Ground.data }, { on := 3, ground := Ground.chain }, { on := 0, ground := Ground.phase }, { on := 1, ground := Ground.phase }, { on := 2, ground := Ground.textOnly Departure.lateStores }, { on := 3, ground := Ground.textOnly Departure.lateStoresUnsure }, { on := 4, ground := Ground.phase }, { on := 5, ground := Ground.phase }], guard := none }) rfl (fun K hK => ?_) AllReadyH.nil
          have zl5 := ptX_4.lt
          obtain ⟨e5_0, u5_0⟩ := ptX_4.has 0 (by omega)
          have w5_0 := ptX_4.free 0 (by omega)
          obtain ⟨e5_1, u5_1⟩ := ptX_4.has 1 (by omega)
          have w5_1 := ptX_4.free 1 (by omega)
          obtain ⟨e5_2, u5_2⟩ := ptX_4.has 2 (by omega)
          have w5_2 := ptX_4.free 2 (by omega)
          obtain ⟨e5_3, u5_3⟩ := ptX_4.has 3 (by omega)
          have w5_3 := ptX_4.free 3 (by omega)
          obtain ⟨e5_4, u5_4⟩ := ptX_4.has 4 (by omega)
          have w5_4 := ptX_4.free 4 (by omega)
          obtain ⟨e5_5, u5_5⟩ := ptX_4.has 5 (by omega)
          have w5_5 := ptX_4.free 5 (by omega)
          obtain ⟨e5_6, u5_6⟩ := ptX_4.has 6 (by omega)
          have w5_6 := ptX_4.free 6 (by omega)
          obtain ⟨e5_7, u5_7⟩ := ptX_4.has 7 (by omega)
          have w5_7 := ptX_4.free 7 (by omega)
          obtain ⟨e5_8, u5_8⟩ := ptX_4.has 8 (by omega)
          have w5_8 := ptX_4.free 8 (by omega)
          obtain ⟨e5_9, u5_9⟩ := ptX_4.has 9 (by omega)
          have w5_9 := ptX_4.free 9 (by omega)
          obtain ⟨e5_10, u5_10⟩ := ptX_4.has 10 (by omega)
          have w5_10 := ptX_4.free 10 (by omega)
          obtain ⟨e5_11, u5_11⟩ := ptX_4.has 11 (by omega)
          have w5_11 := ptX_4.free 11 (by omega)
          go_simp
          try go_wp2_with fail
          have hg5 := StR.stL_grown t3.heap.size [.string a1, .string m1, .int .i64 mo1, .int .i64 ev1, .int .i64 su1, .int .i64 mx1, .slice ta1 tl1 tc1, .func (.func 104) #[] #[], .func (.func 105) #[] #[], .slice ha1 hl1 hc1, .func (.func 106) #[] #[], .func (.func 107) #[] #[]] 0 k4
          have hbX_5 := StR.stL_blk (vs := [.string a1, .string m1, .int .i64 mo1, .int .i64 ev1, .int .i64 su1, .int .i64 mx1, .slice ta1 tl1 tc1, .func (.func 104) #[] #[], .func (.func 105) #[] #[], .slice ha1 hl1 hc1, .func (.func 106) #[] #[], .func (.func 107) #[] #[]]) (W := k4) ptX_4 (by simp)
          have hh5 := JX.grown (W0 := W0) (bA := w.heap.size) (bB := w.heap.size + 1) (bR := w.heap.size + 1 + 1) (a1 := a1) (m1 := m1) (mo1 := mo1) (ev1 := ev1) (su1 := su1) (mx1 := mx1) (ta1 := ta1) (tl1 := tl1) (tc1 := tc1) (ha1 := ha1) (hl1 := hl1) (hc1 := hc1) (a2 := a2) (m2 := m2) (mo2 := mo2) (ev2 := ev2) (su2 := su2) (mx2 := mx2) (ta2 := ta2) (tl2 := tl2) (tc2 := tc2) (ha2 := ha2) (hl2 := hl2) (hc2 := hc2) hh4 hloX a0 b0 r0 hg5
          have ptY_5 := StR.pt_far ptY_4 hg5 hneYX
          simp only [StR.stL, Nat.zero_add, Nat.reduceAdd] at hh5 hg5 hbX_5 ptY_5
          refine hK.out _ _ hh5 (fun _ => ?_)
          clear hK K
          try simp only [Act.put, List.setIfInBounds_toArray, List.set_cons_zero, List.set_cons_succ]
          generalize ((((((((((((k4.setCell ⟨t3.heap.size, 0, none⟩ (.string a1)).setCell ⟨t3.heap.size, 1, none⟩ (.string m1)).setCell ⟨t3.heap.size, 2, none⟩ (.int .i64 mo1)).setCell ⟨t3.heap.size, 3, none⟩ (.int .i64 ev1)).setCell ⟨t3.heap.size, 4, none⟩ (.int .i64 su1)).setCell ⟨t3.heap.size, 5, none⟩ (.int .i64 mx1)).setCell ⟨t3.heap.size, 6, none⟩ (.slice ta1 tl1 tc1)).setCell ⟨t3.heap.size, 7, none⟩ (.func (.func 104) #[] #[])).setCell ⟨t3.heap.size, 8, none⟩ (.func (.func 105) #[] #[])).setCell ⟨t3.heap.size, 9, none⟩ (.slice ha1 hl1 hc1)).setCell ⟨t3.heap.size, 10, none⟩ (.func (.func 106) #[] #[])).setCell ⟨t3.heap.size, 11, none⟩ (.func (.func 107) #[] #[])) = k5 at *
          refine wpAnyH_ready (rs := [7]) (by kernel_rfl) (by simp) ?_
          refine AllReadyH.cons (o := { dst := none, op := Op.store 74 (Operand.tmp 6) (Operand.tmp 11), type := 0, pos := "l07_window.go:262", after := #[{ on := 5, ground := Ground.data }, { on := 3, ground := Ground.data }, { on := 6, ground := Ground.chain }, { on := 0, ground := Ground.phase }, { on := 1, ground := Ground.phase }, { on := 2, ground := Ground.phase }, { on := 3, ground := Ground.phase }, { on := 4, ground := Ground.phase }, { on := 5, ground := Ground.phase }, { on := 6, ground := Ground.phase }], guard := none }) rfl (fun K hK => ?_) AllReadyH.nil
          have zl6 := ptY_5.lt
          obtain ⟨e6_0, u6_0⟩ := ptY_5.has 0 (by omega)
          have w6_0 := ptY_5.free 0 (by omega)
          obtain ⟨e6_1, u6_1⟩ := ptY_5.has 1 (by omega)
          have w6_1 := ptY_5.free 1 (by omega)
          obtain ⟨e6_2, u6_2⟩ := ptY_5.has 2 (by omega)
          have w6_2 := ptY_5.free 2 (by omega)
          obtain ⟨e6_3, u6_3⟩ := ptY_5.has 3 (by omega)
          have w6_3 := ptY_5.free 3 (by omega)
          obtain ⟨e6_4, u6_4⟩ := ptY_5.has 4 (by omega)
          have w6_4 := ptY_5.free 4 (by omega)
          obtain ⟨e6_5, u6_5⟩ := ptY_5.has 5 (by omega)
          have w6_5 := ptY_5.free 5 (by omega)
          obtain ⟨e6_6, u6_6⟩ := ptY_5.has 6 (by omega)
          have w6_6 := ptY_5.free 6 (by omega)
          obtain ⟨e6_7, u6_7⟩ := ptY_5.has 7 (by omega)
          have w6_7 := ptY_5.free 7 (by omega)
          obtain ⟨e6_8, u6_8⟩ := ptY_5.has 8 (by omega)
          have w6_8 := ptY_5.free 8 (by omega)
          obtain ⟨e6_9, u6_9⟩ := ptY_5.has 9 (by omega)
          have w6_9 := ptY_5.free 9 (by omega)
          obtain ⟨e6_10, u6_10⟩ := ptY_5.has 10 (by omega)
          have w6_10 := ptY_5.free 10 (by omega)
          obtain ⟨e6_11, u6_11⟩ := ptY_5.has 11 (by omega)
          have w6_11 := ptY_5.free 11 (by omega)
          go_simp
          try go_wp2_with fail
          have hg6 := StR.stL_grown t1.heap.size [.string a2, .string m2, .int .i64 mo2, .int .i64 ev2, .int .i64 su2, .int .i64 mx2, .slice ta2 tl2 tc2, .func (.func 104) #[] #[], .func (.func 105) #[] #[], .slice ha2 hl2 hc2, .func (.func 106) #[] #[], .func (.func 107) #[] #[]] 0 k5
          have hbY_6 := StR.stL_blk (vs := [.string a2, .string m2, .int .i64 mo2, .int .i64 ev2, .int .i64 su2, .int .i64 mx2, .slice ta2 tl2 tc2, .func (.func 104) #[] #[], .func (.func 105) #[] #[], .slice ha2 hl2 hc2, .func (.func 106) #[] #[], .func (.func 107) #[] #[]]) (W := k5) ptY_5 (by simp)
          have hh6 := JX.grown (W0 := W0) (bA := w.heap.size) (bB := w.heap.size + 1) (bR := w.heap.size + 1 + 1) (a1 := a1) (m1 := m1) (mo1 := mo1) (ev1 := ev1) (su1 := su1) (mx1 := mx1) (ta1 := ta1) (tl1 := tl1) (tc1 := tc1) (ha1 := ha1) (hl1 := hl1) (hc1 := hc1) (a2 := a2) (m2 := m2) (mo2 := mo2) (ev2 := ev2) (su2 := su2) (mx2 := mx2) (ta2 := ta2) (tl2 := tl2) (tc2 := tc2) (ha2 := ha2) (hl2 := hl2) (hc2 := hc2) hh5 hloY a0 b0 r0 hg6
          have blkX_6 := StR.blk_far hbX_5 hg6 (fun e => hneYX e.symm)
          simp only [StR.stL, Nat.zero_add, Nat.reduceAdd] at hh6 hg6 hbY_6 blkX_6
          refine hK.out _ _ hh6 (fun _ => ?_)
          clear hK K
          try simp only [Act.put, List.setIfInBounds_toArray, List.set_cons_zero, List.set_cons_succ]
          generalize ((((((((((((k5.setCell ⟨t1.heap.size, 0, none⟩ (.string a2)).setCell ⟨t1.heap.size, 1, none⟩ (.string m2)).setCell ⟨t1.heap.size, 2, none⟩ (.int .i64 mo2)).setCell ⟨t1.heap.size, 3, none⟩ (.int .i64 ev2)).setCell ⟨t1.heap.size, 4, none⟩ (.int .i64 su2)).setCell ⟨t1.heap.size, 5, none⟩ (.int .i64 mx2)).setCell ⟨t1.heap.size, 6, none⟩ (.slice ta2 tl2 tc2)).setCell ⟨t1.heap.size, 7, none⟩ (.func (.func 104) #[] #[])).setCell ⟨t1.heap.size, 8, none⟩ (.func (.func 105) #[] #[])).setCell ⟨t1.heap.size, 9, none⟩ (.slice ha2 hl2 hc2)).setCell ⟨t1.heap.size, 10, none⟩ (.func (.func 106) #[] #[])).setCell ⟨t1.heap.size, 11, none⟩ (.func (.func 107) #[] #[])) = k6 at *
          refine wpAnyH_done (by kernel_rfl) ?_ _
          have HBX := hid_intro blkX_6
          have HBY := hid_intro hbY_6
          have HE := hid_intro (show JX W0 w.heap.size (w.heap.size + 1) (w.heap.size + 1 + 1) a1 m1 mo1 ev1 su1 mx1 ta1 tl1 tc1 ha1 hl1 hc1 a2 m2 mo2 ev2 su2 mx2 ta2 tl2 tc2 ha2 hl2 hc2 k6 from hh6)
          try clear u6_11
          try clear u6_10
          try clear u6_9
          try clear u6_8
          try clear u6_7
          try clear u6_6
          try clear u6_5
          try clear u6_4
          try clear u6_3
          try clear u6_2
          try clear u6_1
          try clear u6_0
          try clear blkX_6
          try clear hh6
          try clear hbY_6
          try clear hg6
          try clear w6_11
          try clear w6_10
          try clear w6_9
          try clear w6_8
          try clear w6_7
          try clear w6_6
          try clear w6_5
          try clear w6_4
          try clear w6_3
          try clear w6_2
          try clear w6_1
          try clear w6_0
          try clear zl6
          try clear u5_11
          try clear u5_10
          try clear u5_9
          try clear u5_8
          try clear u5_7
          try clear u5_6
          try clear u5_5
          try clear u5_4
          try clear u5_3
          try clear u5_2
          try clear u5_1
          try clear u5_0
          try clear ptY_5
          try clear hh5
          try clear hbX_5
          try clear hg5
          try clear w5_11
          try clear w5_10
          try clear w5_9
          try clear w5_8
          try clear w5_7
          try clear w5_6
          try clear w5_5
          try clear w5_4
          try clear w5_3
          try clear w5_2
          try clear w5_1
          try clear w5_0
          try clear zl5
          try clear ptX_4
          try clear ptY_4
          try clear hh4
          try clear hloX
          try clear hneYX
          try clear hq3
          try clear ptY_3
          try clear hh3
          try clear ptY_2
          try clear hh2
          try clear hloY
          try clear hq1
          try clear hh1
          go_wp2_with fail
          go_meet
          case rel => exact ⟨_, _, rfl, rfl, HBX, HBY, HE⟩
        · go_simp
          try go_wp2_with fail
          have hneYX : t1.heap.size ≠ k2.heap.size := by have := ptY_2.lt; omega
          have hloX : W0.heap.size ≤ k2.heap.size := (hh2).1.size
          have hh3 := JX.below (W0 := W0) (bA := w.heap.size) (bB := w.heap.size + 1) (bR := w.heap.size + 1 + 1) (a1 := a1) (m1 := m1) (mo1 := mo1) (ev1 := ev1) (su1 := su1) (mx1 := mx1) (ta1 := ta1) (tl1 := tl1) (tc1 := tc1) (ha1 := ha1) (hl1 := hl1) (hc1 := hc1) (a2 := a2) (m2 := m2) (mo2 := mo2) (ev2 := ev2) (su2 := su2) (mx2 := mx2) (ta2 := ta2) (tl2 := tl2) (tc2 := tc2) (ha2 := ha2) (hl2 := hl2) (hc2 := hc2) hh2 ((Below.refl k2.heap.size k2).alloc (Nat.le_refl _) (Obj.cells #[.string ⟨#[]⟩, .string ⟨#[]⟩, .int .i64 0, .int .i64 0, .int .i64 0, .int .i64 0, .slice none 0 0, .nilFunc, .nilFunc, .slice none 0 0, .nilFunc, .nilFunc] 74))
          have ptY_3 := ptY_2.below ((Below.refl k2.heap.size k2).alloc (Nat.le_refl _) (Obj.cells #[.string ⟨#[]⟩, .string ⟨#[]⟩, .int .i64 0, .int .i64 0, .int .i64 0, .int .i64 0, .slice none 0 0, .nilFunc, .nilFunc, .slice none 0 0, .nilFunc, .nilFunc] 74))
          have ptX_3 : EvtR.Pt k2.heap.size 12 (k2.alloc (Obj.cells #[.string ⟨#[]⟩, .string ⟨#[]⟩, .int .i64 0, .int .i64 0, .int .i64 0, .int .i64 0, .slice none 0 0, .nilFunc, .nilFunc, .slice none 0 0, .nilFunc, .nilFunc] 74)) := StR.pt_new k2 [.string ⟨#[]⟩, .string ⟨#[]⟩, .int .i64 0, .int .i64 0, .int .i64 0, .int .i64 0, .slice none 0 0, .nilFunc, .nilFunc, .slice none 0 0, .nilFunc, .nilFunc] 74
          refine hK.out _ _ hh3 (fun _ => ?_)
          clear hK K
          try simp only [Act.put, List.setIfInBounds_toArray, List.set_cons_zero, List.set_cons_succ]
          generalize (k2.alloc (Obj.cells #[.string ⟨#[]⟩, .string ⟨#[]⟩, .int .i64 0, .int .i64 0, .int .i64 0, .int .i64 0, .slice none 0 0, .nilFunc, .nilFunc, .slice none 0 0, .nilFunc, .nilFunc] 74)) = k3 at *
          refine wpAnyH_ready (rs := [3]) (by kernel_rfl) (by simp) ?_
          refine AllReadyH.cons (o := { dst := some 11, op := Op.call { callee := Callee.value (Operand.func 35), args := #[Operand.tmp 10], argTypes := #[29] }, type := 74, pos := "l07_window.go:262", after := #[{ on := 2, ground := Ground.data }, { on := 1, ground := Ground.chain }], guard := none }) rfl (fun K hK => ?_) AllReadyH.nil
          go_simp
          go_at_call 35
          refine (HUB.out _).mono ?_
          rintro e t4 ⟨rfl, hq4⟩
          try go_wp2_with fail
          have hh4 := JX.below (W0 := W0) (bA := w.heap.size) (bB := w.heap.size + 1) (bR := w.heap.size + 1 + 1) (a1 := a1) (m1 := m1) (mo1 := mo1) (ev1 := ev1) (su1 := su1) (mx1 := mx1) (ta1 := ta1) (tl1 := tl1) (tc1 := tc1) (ha1 := ha1) (hl1 := hl1) (hc1 := hc1) (a2 := a2) (m2 := m2) (mo2 := mo2) (ev2 := ev2) (su2 := su2) (mx2 := mx2) (ta2 := ta2) (tl2 := tl2) (tc2 := tc2) (ha2 := ha2) (hl2 := hl2) (hc2 := hc2) hh3 hq4
          have ptY_4 := ptY_3.below hq4
          have ptX_4 := ptX_3.below hq4
          refine hK.out _ _ hh4 (fun _ => ?_)
          clear hK K
          try simp only [Act.put, List.setIfInBounds_toArray, List.set_cons_zero, List.set_cons_succ]
          refine wpAnyH_ready (rs := [6]) (by kernel_rfl) (by simp) ?_
          refine AllReadyH.cons (o := { dst := none, op := Op.store 74 (Operand.tmp 5) (Operand.tmp 9), type := 0, pos := "l07_window.go:262", after := #[{ on := 4, ground := Ground.data }, { on := 1, ground := Ground.data }, { on := 3, ground := Ground.chain }, { on := 0, ground := Ground.phase }, { on := 1, ground := Ground.phase }, { on := 2, ground := Ground.textOnly Departure.lateStores }, { on := 3, ground := Ground.textOnly Departure.lateStoresUnsure }, { on := 4, ground := Ground.phase }, { on := 5, ground := Ground.phase }], guard := none }) rfl (fun K hK => ?_) AllReadyH.nil
          have zl5 := ptX_4.lt
          obtain ⟨e5_0, u5_0⟩ := ptX_4.has 0 (by omega)
          have w5_0 := ptX_4.free 0 (by omega)
          obtain ⟨e5_1, u5_1⟩ := ptX_4.has 1 (by omega)
          have w5_1 := ptX_4.free 1 (by omega)
          obtain ⟨e5_2, u5_2⟩ := ptX_4.has 2 (by omega)
          have w5_2 := ptX_4.free 2 (by omega)
          obtain ⟨e5_3, u5_3⟩ := ptX_4.has 3 (by omega)
          have w5_3 := ptX_4.free 3 (by omega)
          obtain ⟨e5_4, u5_4⟩ := ptX_4.has 4 (by omega)
          have w5_4 := ptX_4.free 4 (by omega)
          obtain ⟨e5_5, u5_5⟩ := ptX_4.has 5 (by omega)
          have w5_5 := ptX_4.free 5 (by omega)
          obtain ⟨e5_6, u5_6⟩ := ptX_4.has 6 (by omega)
          have w5_6 := ptX_4.free 6 (by omega)
          obtain ⟨e5_7, u5_7⟩ := ptX_4.has 7 (by omega)
          have w5_7 := ptX_4.free 7 (by omega)
          obtain ⟨e5_8, u5_8⟩ := ptX_4.has 8 (by omega)
          have w5_8 := ptX_4.free 8 (by omega)
          obtain ⟨e5_9, u5_9⟩ := ptX_4.has 9 (by omega)
          have w5_9 := ptX_4.free 9 (by omega)
          obtain ⟨e5_10, u5_10⟩ := ptX_4.has 10 (by omega)
          have w5_10 := ptX_4.free 10 (by omega)
          obtain ⟨e5_11, u5_11⟩ := ptX_4.has 11 (by omega)
          have w5_11 := ptX_4.free 11 (by omega)
          go_simp
          try go_wp2_with fail
          have hg5 := StR.stL_grown k2.heap.size [.string a1, .string m1, .int .i64 mo1, .int .i64 ev1, .int .i64 su1, .int .i64 mx1, .slice ta1 tl1 tc1, .func (.func 104) #[] #[], .func (.func 105) #[] #[], .slice ha1 hl1 hc1, .func (.func 106) #[] #[], .func (.func 107) #[] #[]] 0 t4
          have hbX_5 := StR.stL_blk (vs := [.string a1, .string m1, .int .i64 mo1, .int .i64 ev1, .int .i64 su1, .int .i64 mx1, .slice ta1 tl1 tc1, .func (.func 104) #[] #[], .func (.func 105) #[] #[], .slice ha1 hl1 hc1, .func (.func 106) #[] #[], .func (.func 107) #[] #[]]) (W := t4) ptX_4 (by simp)
          have hh5 := JX.grown (W0 := W0) (bA := w.heap.size) (bB := w.heap.size + 1) (bR := w.heap.size + 1 + 1) (a1 := a1) (m1 := m1) (mo1 := mo1) (ev1 := ev1) (su1 := su1) (mx1 := mx1) (ta1 := ta1) (tl1 := tl1) (tc1 := tc1) (ha1 := ha1) (hl1 := hl1) (hc1 := hc1) (a2 := a2) (m2 := m2) (mo2 := mo2) (ev2 := ev2) (su2 := su2) (mx2 := mx2) (ta2 := ta2) (tl2 := tl2) (tc2 := tc2) (ha2 := ha2) (hl2 := hl2) (hc2 := hc2) hh4 hloX a0 b0 r0 hg5
          have ptY_5 := StR.pt_far ptY_4 hg5 hneYX
          simp only [StR.stL, Nat.zero_add, Nat.reduceAdd] at hh5 hg5 hbX_5 ptY_5
          refine hK.out _ _ hh5 (fun _ => ?_)
          clear hK K
          try simp only [Act.put, List.setIfInBounds_toArray, List.set_cons_zero, List.set_cons_succ]
          generalize ((((((((((((t4.setCell ⟨k2.heap.size, 0, none⟩ (.string a1)).setCell ⟨k2.heap.size, 1, none⟩ (.string m1)).setCell ⟨k2.heap.size, 2, none⟩ (.int .i64 mo1)).setCell ⟨k2.heap.size, 3, none⟩ (.int .i64 ev1)).setCell ⟨k2.heap.size, 4, none⟩ (.int .i64 su1)).setCell ⟨k2.heap.size, 5, none⟩ (.int .i64 mx1)).setCell ⟨k2.heap.size, 6, none⟩ (.slice ta1 tl1 tc1)).setCell ⟨k2.heap.size, 7, none⟩ (.func (.func 104) #[] #[])).setCell ⟨k2.heap.size, 8, none⟩ (.func (.func 105) #[] #[])).setCell ⟨k2.heap.size, 9, none⟩ (.slice ha1 hl1 hc1)).setCell ⟨k2.heap.size, 10, none⟩ (.func (.func 106) #[] #[])).setCell ⟨k2.heap.size, 11, none⟩ (.func (.func 107) #[] #[])) = k5 at *
          refine wpAnyH_ready (rs := [7]) (by kernel_rfl) (by simp) ?_
          refine AllReadyH.cons (o := { dst := none, op := Op.store 74 (Operand.tmp 6) (Operand.tmp 11), type := 0, pos := "l07_window.go:262", after := #[{ on := 5, ground := Ground.data }, { on := 3, ground := Ground.data }, { on := 6, ground := Ground.chain }, { on := 0, ground := Ground.phase }, { on := 1, ground := Ground.phase }, { on := 2, ground := Ground.phase }, { on := 3, ground := Ground.phase }, { on := 4, ground := Ground.phase }, { on := 5, ground := Ground.phase }, { on := 6, ground := Ground.phase }], guard := none }) rfl (fun K hK => ?_) AllReadyH.nil
          have zl6 := ptY_5.lt
          obtain ⟨e6_0, u6_0⟩ := ptY_5.has 0 (by omega)
          have w6_0 := ptY_5.free 0 (by omega)
          obtain ⟨e6_1, u6_1⟩ := ptY_5.has 1 (by omega)
          have w6_1 := ptY_5.free 1 (by omega)
          obtain ⟨e6_2, u6_2⟩ := ptY_5.has 2 (by omega)
          have w6_2 := ptY_5.free 2 (by omega)
          obtain ⟨e6_3, u6_3⟩ := ptY_5.has 3 (by omega)
          have w6_3 := ptY_5.free 3 (by omega)
          obtain ⟨e6_4, u6_4⟩ := ptY_5.has 4 (by omega)
          have w6_4 := ptY_5.free 4 (by omega)
          obtain ⟨e6_5, u6_5⟩ := ptY_5.has 5 (by omega)
          have w6_5 := ptY_5.free 5 (by omega)
          obtain ⟨e6_6, u6_6⟩ := ptY_5.has 6 (by omega)
          have w6_6 := ptY_5.free 6 (by omega)
          obtain ⟨e6_7, u6_7⟩ := ptY_5.has 7 (by omega)
          have w6_7 := ptY_5.free 7 (by omega)
          obtain ⟨e6_8, u6_8⟩ := ptY_5.has 8 (by omega)
          have w6_8 := ptY_5.free 8 (by omega)
          obtain ⟨e6_9, u6_9⟩ := ptY_5.has 9 (by omega)
          have w6_9 := ptY_5.free 9 (by omega)
          obtain ⟨e6_10, u6_10⟩ := ptY_5.has 10 (by omega)
          have w6_10 := ptY_5.free 10 (by omega)
          obtain ⟨e6_11, u6_11⟩ := ptY_5.has 11 (by omega)
          have w6_11 := ptY_5.free 11 (by omega)
          go_simp
          try go_wp2_with fail
          have hg6 := StR.stL_grown t1.heap.size [.string a2, .string m2, .int .i64 mo2, .int .i64 ev2, .int .i64 su2, .int .i64 mx2, .slice ta2 tl2 tc2, .func (.func 104) #[] #[], .func (.func 105) #[] #[], .slice ha2 hl2 hc2, .func (.func 106) #[] #[], .func (.func 107) #[] #[]] 0 k5
          have hbY_6 := StR.stL_blk (vs := [.string a2, .string m2, .int .i64 mo2, .int .i64 ev2, .int .i64 su2, .int .i64 mx2, .slice ta2 tl2 tc2, .func (.func 104) #[] #[], .func (.func 105) #[] #[], .slice ha2 hl2 hc2, .func (.func 106) #[] #[], .func (.func 107) #[] #[]]) (W := k5) ptY_5 (by simp)
          have hh6 := JX.grown (W0 := W0) (bA := w.heap.size) (bB := w.heap.size + 1) (bR := w.heap.size + 1 + 1) (a1 := a1) (m1 := m1) (mo1 := mo1) (ev1 := ev1) (su1 := su1) (mx1 := mx1) (ta1 := ta1) (tl1 := tl1) (tc1 := tc1) (ha1 := ha1) (hl1 := hl1) (hc1 := hc1) (a2 := a2) (m2 := m2) (mo2 := mo2) (ev2 := ev2) (su2 := su2) (mx2 := mx2) (ta2 := ta2) (tl2 := tl2) (tc2 := tc2) (ha2 := ha2) (hl2 := hl2) (hc2 := hc2) hh5 hloY a0 b0 r0 hg6
          have blkX_6 := StR.blk_far hbX_5 hg6 (fun e => hneYX e.symm)
          simp only [StR.stL, Nat.zero_add, Nat.reduceAdd] at hh6 hg6 hbY_6 blkX_6
          refine hK.out _ _ hh6 (fun _ => ?_)
          clear hK K
          try simp only [Act.put, List.setIfInBounds_toArray, List.set_cons_zero, List.set_cons_succ]
          generalize ((((((((((((k5.setCell ⟨t1.heap.size, 0, none⟩ (.string a2)).setCell ⟨t1.heap.size, 1, none⟩ (.string m2)).setCell ⟨t1.heap.size, 2, none⟩ (.int .i64 mo2)).setCell ⟨t1.heap.size, 3, none⟩ (.int .i64 ev2)).setCell ⟨t1.heap.size, 4, none⟩ (.int .i64 su2)).setCell ⟨t1.heap.size, 5, none⟩ (.int .i64 mx2)).setCell ⟨t1.heap.size, 6, none⟩ (.slice ta2 tl2 tc2)).setCell ⟨t1.heap.size, 7, none⟩ (.func (.func 104) #[] #[])).setCell ⟨t1.heap.size, 8, none⟩ (.func (.func 105) #[] #[])).setCell ⟨t1.heap.size, 9, none⟩ (.slice ha2 hl2 hc2)).setCell ⟨t1.heap.size, 10, none⟩ (.func (.func 106) #[] #[])).setCell ⟨t1.heap.size, 11, none⟩ (.func (.func 107) #[] #[])) = k6 at *
          refine wpAnyH_done (by kernel_rfl) ?_ _
          have HBX := hid_intro blkX_6
          have HBY := hid_intro hbY_6
          have HE := hid_intro (show JX W0 w.heap.size (w.heap.size + 1) (w.heap.size + 1 + 1) a1 m1 mo1 ev1 su1 mx1 ta1 tl1 tc1 ha1 hl1 hc1 a2 m2 mo2 ev2 su2 mx2 ta2 tl2 tc2 ha2 hl2 hc2 k6 from hh6)
          try clear u6_11
          try clear u6_10
          try clear u6_9
          try clear u6_8
          try clear u6_7
          try clear u6_6
          try clear u6_5
          try clear u6_4
          try clear u6_3
          try clear u6_2
          try clear u6_1
          try clear u6_0
          try clear blkX_6
          try clear hh6
          try clear hbY_6
          try clear hg6
          try clear w6_11
          try clear w6_10
          try clear w6_9
          try clear w6_8
          try clear w6_7
          try clear w6_6
          try clear w6_5
          try clear w6_4
          try clear w6_3
          try clear w6_2
          try clear w6_1
          try clear w6_0
          try clear zl6
          try clear u5_11
          try clear u5_10
          try clear u5_9
          try clear u5_8
          try clear u5_7
          try clear u5_6
          try clear u5_5
          try clear u5_4
          try clear u5_3
          try clear u5_2
          try clear u5_1
          try clear u5_0
          try clear ptY_5
          try clear hh5
          try clear hbX_5
          try clear hg5
          try clear w5_11
          try clear w5_10
          try clear w5_9
          try clear w5_8
          try clear w5_7
          try clear w5_6
          try clear w5_5
          try clear w5_4
          try clear w5_3
          try clear w5_2
          try clear w5_1
          try clear w5_0
          try clear zl5
          try clear hq4
          try clear ptX_4
          try clear ptY_4
          try clear hh4
          try clear ptX_3
          try clear ptY_3
          try clear hh3
          try clear hloX
          try clear hneYX
          try clear ptY_2
          try clear hh2
          try clear hloY
          try clear hq1
          try clear hh1
          go_wp2_with fail
          go_meet
          case rel => exact ⟨_, _, rfl, rfl, HBX, HBY, HE⟩
    · go_simp
      try go_wp2_with fail
      have hloX : W0.heap.size ≤ kd.heap.size := (HX1.out).1.size
      have hh1 := JX.below (W0 := W0) (bA := w.heap.size) (bB := w.heap.size + 1) (bR := w.heap.size + 1 + 1) (a1 := a1) (m1 := m1) (mo1 := mo1) (ev1 := ev1) (su1 := su1) (mx1 := mx1) (ta1 := ta1) (tl1 := tl1) (tc1 := tc1) (ha1 := ha1) (hl1 := hl1) (hc1 := hc1) (a2 := a2) (m2 := m2) (mo2 := mo2) (ev2 := ev2) (su2 := su2) (mx2 := mx2) (ta2 := ta2) (tl2 := tl2) (tc2 := tc2) (ha2 := ha2) (hl2 := hl2) (hc2 := hc2) HX1.out ((Below.refl kd.heap.size kd).alloc (Nat.le_refl _) (Obj.cells #[.string ⟨#[]⟩, .string ⟨#[]⟩, .int .i64 0, .int .i64 0, .int .i64 0, .int .i64 0, .slice none 0 0, .nilFunc, .nilFunc, .slice none 0 0, .nilFunc, .nilFunc] 74))
      have ptX_1 : EvtR.Pt kd.heap.size 12 (kd.alloc (Obj.cells #[.string ⟨#[]⟩, .string ⟨#[]⟩, .int .i64 0, .int .i64 0, .int .i64 0, .int .i64 0, .slice none 0 0, .nilFunc, .nilFunc, .slice none 0 0, .nilFunc, .nilFunc] 74)) := StR.pt_new kd [.string ⟨#[]⟩, .string ⟨#[]⟩, .int .i64 0, .int .i64 0, .int .i64 0, .int .i64 0, .slice none 0 0, .nilFunc, .nilFunc, .slice none 0 0, .nilFunc, .nilFunc] 74
      refine hK.out _ _ hh1 (fun _ => ?_)
      clear hK K
      try simp only [Act.put, List.setIfInBounds_toArray, List.set_cons_zero, List.set_cons_succ]
      generalize (kd.alloc (Obj.cells #[.string ⟨#[]⟩, .string ⟨#[]⟩, .int .i64 0, .int .i64 0, .int .i64 0, .int .i64 0, .slice none 0 0, .nilFunc, .nilFunc, .slice none 0 0, .nilFunc, .nilFunc] 74)) = k1 at *
      refine wpAnyH_ready (rs := [1, 5]) (by kernel_rfl) (by simp) ?_
      refine AllReadyH.cons (o := { dst := some 9, op := Op.call { callee := Callee.value (Operand.func 35), args := #[Operand.tmp 8], argTypes := #[29] }, type := 74, pos := "l07_window.go:262", after := #[{ on := 0, ground := Ground.data }], guard := none }) rfl (fun K hK => ?_) (AllReadyH.cons (o := { dst := some 6, op := Op.alloc 74, type := 0, pos := "l07_window.go:262", after := #[], guard := none }) rfl (fun K hK => ?_) AllReadyH.nil)
      · go_simp
        go_at_call 35
        refine (HUA.out _).mono ?_
        rintro e t2 ⟨rfl, hq2⟩
        try go_wp2_with fail
        have hh2 := JX.below (W0 := W0) (bA := w.heap.size) (bB := w.heap.size + 1) (bR := w.heap.size + 1 + 1) (a1 := a1) (m1 := m1) (mo1 := mo1) (ev1 := ev1) (su1 := su1) (mx1 := mx1) (ta1 := ta1) (tl1 := tl1) (tc1 := tc1) (ha1 := ha1) (hl1 := hl1) (hc1 := hc1) (a2 := a2) (m2 := m2) (mo2 := mo2) (ev2 := ev2) (su2 := su2) (mx2 := mx2) (ta2 := ta2) (tl2 := tl2) (tc2 := tc2) (ha2 := ha2) (hl2 := hl2) (hc2 := hc2) hh1 hq2
        have ptX_2 := ptX_1.below hq2
        refine hK.out _ _ hh2 (fun _ => ?_)
        clear hK K
        try simp only [Act.put, List.setIfInBounds_toArray, List.set_cons_zero, List.set_cons_succ]
        refine wpAnyH_ready (rs := [3, 5]) (by kernel_rfl) (by simp) ?_
        refine AllReadyH.cons (o := { dst := some 11, op := Op.call { callee := Callee.value (Operand.func 35), args := #[Operand.tmp 10], argTypes := #[29] }, type := 74, pos := "l07_window.go:262", after := #[{ on := 2, ground := Ground.data }, { on := 1, ground := Ground.chain }], guard := none }) rfl (fun K hK => ?_) (AllReadyH.cons (o := { dst := some 6, op := Op.alloc 74, type := 0, pos := "l07_window.go:262", after := #[], guard := none }) rfl (fun K hK => ?_) AllReadyH.nil)
        · go_simp
          go_at_call 35
          refine (HUB.out _).mono ?_
          rintro e t3 ⟨rfl, hq3⟩
          try go_wp2_with fail
          have hh3 := JX.below (W0 := W0) (bA := w.heap.size) (bB := w.heap.size + 1) (bR := w.heap.size + 1 + 1) (a1 := a1) (m1 := m1) (mo1 := mo1) (ev1 := ev1) (su1 := su1) (mx1 := mx1) (ta1 := ta1) (tl1 := tl1) (tc1 := tc1) (ha1 := ha1) (hl1 := hl1) (hc1 := hc1) (a2 := a2) (m2 := m2) (mo2 := mo2) (ev2 := ev2) (su2 := su2) (mx2 := mx2) (ta2 := ta2) (tl2 := tl2) (tc2 := tc2) (ha2 := ha2) (hl2 := hl2) (hc2 := hc2) hh2 hq3
          have ptX_3 := ptX_2.below hq3
          refine hK.out _ _ hh3 (fun _ => ?_)
          clear hK K
          try simp only [Act.put, List.setIfInBounds_toArray, List.set_cons_zero, List.set_cons_succ]
          refine wpAnyH_ready (rs := [5]) (by kernel_rfl) (by simp) ?_
          refine AllReadyH.cons (o := { dst := some 6, op := Op.alloc 74, type := 0, pos := "l07_window.go:262", after := #[], guard := none }) rfl (fun K hK => ?_) AllReadyH.nil
          go_simp
          try go_wp2_with fail
          have hneXY : kd.heap.size ≠ t3.heap.size := by have := ptX_3.lt; omega
          have hloY : W0.heap.size ≤ t3.heap.size := (hh3).1.size
          have hh4 := JX.below (W0 := W0) (bA := w.heap.size) (bB := w.heap.size + 1) (bR := w.heap.size + 1 + 1) (a1 := a1) (m1 := m1) (mo1 := mo1) (ev1 := ev1) (su1 := su1) (mx1 := mx1) (ta1 := ta1) (tl1 := tl1) (tc1 := tc1) (ha1 := ha1) (hl1 := hl1) (hc1 := hc1) (a2 := a2) (m2 := m2) (mo2 := mo2) (ev2 := ev2) (su2 := su2) (mx2 := mx2) (ta2 := ta2) (tl2 := tl2) (tc2 := tc2) (ha2 := ha2) (hl2 := hl2) (hc2 := hc2) hh3 ((Below.refl t3.heap.size t3).alloc (Nat.le_refl _) (Obj.cells #[.string ⟨#[]⟩, .string ⟨#[]⟩, .int .i64 0, .int .i64 0, .int .i64 0, .int .i64 0, .slice none 0 0, .nilFunc, .nilFunc, .slice none 0 0, .nilFunc, .nilFunc] 74))
          have ptX_4 := ptX_3.below ((Below.refl t3.heap.size t3).alloc (Nat.le_refl _) (Obj.cells #[.string ⟨#[]⟩, .string ⟨#[]⟩, .int .i64 0, .int .i64 0, .int .i64 0, .int .i64 0, .slice none 0 0, .nilFunc, .nilFunc, .slice none 0 0, .nilFunc, .nilFunc] 74))
          have ptY_4 : EvtR.Pt t3.heap.size 12 (t3.alloc (Obj.cells #[.string ⟨#[]⟩, .string ⟨#[]⟩, .int .i64 0, .int .i64 0, .int .i64 0, .int .i64 0, .slice none 0 0, .nilFunc, .nilFunc, .slice none 0 0, .nilFunc, .nilFunc] 74)) := StR.pt_new t3 [.string ⟨#[]⟩, .string ⟨#[]⟩, .int .i64 0, .int .i64 0, .int .i64 0, .int .i64 0, .slice none 0 0, .nilFunc, .nilFunc, .slice none 0 0, .nilFunc, .nilFunc] 74
          refine hK.out _ _ hh4 (fun _ => ?_)
          clear hK K
          try simp only [Act.put, List.setIfInBounds_toArray, List.set_cons_zero, List.set_cons_succ]
          generalize (t3.alloc (Obj.cells #[.string ⟨#[]⟩, .string ⟨#[]⟩, .int .i64 0, .int .i64 0, .int .i64 0, .int .i64 0, .slice none 0 0, .nilFunc, .nilFunc, .slice none 0 0, .nilFunc, .nilFunc] 74)) = k4 at *
          refine wpAnyH_ready (rs := [6]) (by kernel_rfl) (by simp) ?_
          refine AllReadyH.cons (o := { dst := none, op := Op.store 74 (Operand.tmp 5) (Operand.tmp 9), type := 0, pos := "l07_window.go:262", after := #[{ on := 4, ground := Ground.data }, { on := 1, ground := Ground.data }, { on := 3, ground := Ground.chain }, { on := 0, ground := Ground.phase }, { on := 1, ground := Ground.phase }, { on := 2, ground := Ground.textOnly Departure.lateStores }, { on := 3, ground := Ground.textOnly Departure.lateStoresUnsure }, { on := 4, ground := Ground.phase }, { on := 5, ground := Ground.phase }], guard := none }) rfl (fun K hK => ?_) AllReadyH.nil
          have zl5 := ptX_4.lt
          obtain ⟨e5_0, u5_0⟩ := ptX_4.has 0 (by omega)
          have w5_0 := ptX_4.free 0 (by omega)
          obtain ⟨e5_1, u5_1⟩ := ptX_4.has 1 (by omega)
          have w5_1 := ptX_4.free 1 (by omega)
          obtain ⟨e5_2, u5_2⟩ := ptX_4.has 2 (by omega)
          have w5_2 := ptX_4.free 2 (by omega)
          obtain ⟨e5_3, u5_3⟩ := ptX_4.has 3 (by omega)
          have w5_3 := ptX_4.free 3 (by omega)
          obtain ⟨e5_4, u5_4⟩ := ptX_4.has 4 (by omega)
          have w5_4 := ptX_4.free 4 (by omega)
          obtain ⟨e5_5, u5_5⟩ := ptX_4.has 5 (by omega)
          have w5_5 := ptX_4.free 5 (by omega)
          obtain ⟨e5_6, u5_6⟩ := ptX_4.has 6 (by omega)
          have w5_6 := ptX_4.free 6 (by omega)
          obtain ⟨e5_7, u5_7⟩ := ptX_4.has 7 (by omega)
          have w5_7 := ptX_4.free 7 (by omega)
          obtain ⟨e5_8, u5_8⟩ := ptX_4.has 8 (by omega)
          have w5_8 := ptX_4.free 8 (by omega)
          obtain ⟨e5_9, u5_9⟩ := ptX_4.has 9 (by omega)
          have w5_9 := ptX_4.free 9 (by omega)
          obtain ⟨e5_10, u5_10⟩ := ptX_4.has 10 (by omega)
          have w5_10 := ptX_4.free 10 (by omega)
          obtain ⟨e5_11, u5_11⟩ := ptX_4.has 11 (by omega)
          have w5_11 := ptX_4.free 11 (by omega)
          go_simp
          try go_wp2_with fail
          have hg5 := StR.stL_grown kd.heap.size [.string a1, .string m1, .int .i64 mo1, .int .i64 ev1, .int .i64 su1, .int .i64 mx1, .slice ta1 tl1 tc1, .func (.func 104) #[] #[], .func (.func 105) #[] #[], .slice ha1 hl1 hc1, .func (.func 106) #[] #[], .func (.func 107) #[] #[]] 0 k4
          have hbX_5 := StR.stL_blk (vs := [.string a1, .string m1, .int .i64 mo1, .int .i64 ev1, .int .i64 su1, .int .i64 mx1, .slice ta1 tl1 tc1, .func (.func 104) #[] #[], .func (.func 105) #[] #[], .slice ha1 hl1 hc1, .func (.func 106) #[] #[], .func (.func 107) #[] #[]]) (W := k4) ptX_4 (by simp)
          have hh5 := JX.grown (W0 := W0) (bA := w.heap.size) (bB := w.heap.size + 1) (bR := w.heap.size + 1 + 1) (a1 := a1) (m1 := m1) (mo1 := mo1) (ev1 := ev1) (su1 := su1) (mx1 := mx1) (ta1 := ta1) (tl1 := tl1) (tc1 := tc1) (ha1 := ha1) (hl1 := hl1) (hc1 := hc1) (a2 := a2) (m2 := m2) (mo2 := mo2) (ev2 := ev2) (su2 := su2) (mx2 := mx2) (ta2 := ta2) (tl2 := tl2) (tc2 := tc2) (ha2 := ha2) (hl2 := hl2) (hc2 := hc2) hh4 hloX a0 b0 r0 hg5
          have ptY_5 := StR.pt_far ptY_4 hg5 (fun e => hneXY e.symm)
          simp only [StR.stL, Nat.zero_add, Nat.reduceAdd] at hh5 hg5 hbX_5 ptY_5
          refine hK.out _ _ hh5 (fun _ => ?_)
          clear hK K
          try simp only [Act.put, List.setIfInBounds_toArray, List.set_cons_zero, List.set_cons_succ]
          generalize ((((((((((((k4.setCell ⟨kd.heap.size, 0, none⟩ (.string a1)).setCell ⟨kd.heap.size, 1, none⟩ (.string m1)).setCell ⟨kd.heap.size, 2, none⟩ (.int .i64 mo1)).setCell ⟨kd.heap.size, 3, none⟩ (.int .i64 ev1)).setCell ⟨kd.heap.size, 4, none⟩ (.int .i64 su1)).setCell ⟨kd.heap.size, 5, none⟩ (.int .i64 mx1)).setCell ⟨kd.heap.size, 6, none⟩ (.slice ta1 tl1 tc1)).setCell ⟨kd.heap.size, 7, none⟩ (.func (.func 104) #[] #[])).setCell ⟨kd.heap.size, 8, none⟩ (.func (.func 105) #[] #[])).setCell ⟨kd.heap.size, 9, none⟩ (.slice ha1 hl1 hc1)).setCell ⟨kd.heap.size, 10, none⟩ (.func (.func 106) #[] #[])).setCell ⟨kd.heap.size, 11, none⟩ (.func (.func 107) #[] #[])) = k5 at *
          refine wpAnyH_ready (rs := [7]) (by kernel_rfl) (by simp) ?_
          refine AllReadyH.cons (o := { dst := none, op := Op.store 74 (Operand.tmp 6) (Operand.tmp 11), type := 0, pos := "l07_window.go:262", after := #[{ on := 5, ground := Ground.data }, { on := 3, ground := Ground.data }, { on := 6, ground := Ground.chain }, { on := 0, ground := Ground.phase }, { on := 1, ground := Ground.phase }, { on := 2, ground := Ground.phase }, { on := 3, ground := Ground.phase }, { on := 4, ground := Ground.phase }, { on := 5, ground := Ground.phase }, { on := 6, ground := Ground.phase }], guard := none }) rfl (fun K hK => ?_) AllReadyH.nil
          have zl6 := ptY_5.lt
          obtain ⟨e6_0, u6_0⟩ := ptY_5.has 0 (by omega)
          have w6_0 := ptY_5.free 0 (by omega)
          obtain ⟨e6_1, u6_1⟩ := ptY_5.has 1 (by omega)
          have w6_1 := ptY_5.free 1 (by omega)
          obtain ⟨e6_2, u6_2⟩ := ptY_5.has 2 (by omega)
          have w6_2 := ptY_5.free 2 (by omega)
          obtain ⟨e6_3, u6_3⟩ := ptY_5.has 3 (by omega)
          have w6_3 := ptY_5.free 3 (by omega)
          obtain ⟨e6_4, u6_4⟩ := ptY_5.has 4 (by omega)
          have w6_4 := ptY_5.free 4 (by omega)
          obtain ⟨e6_5, u6_5⟩ := ptY_5.has 5 (by omega)
          have w6_5 := ptY_5.free 5 (by omega)
          obtain ⟨e6_6, u6_6⟩ := ptY_5.has 6 (by omega)
          have w6_6 := ptY_5.free 6 (by omega)
          obtain ⟨e6_7, u6_7⟩ := ptY_5.has 7 (by omega)
          have w6_7 := ptY_5.free 7 (by omega)
          obtain ⟨e6_8, u6_8⟩ := ptY_5.has 8 (by omega)
          have w6_8 := ptY_5.free 8 (by omega)
          obtain ⟨e6_9, u6_9⟩ := ptY_5.has 9 (by omega)
          have w6_9 := ptY_5.free 9 (by omega)
          obtain ⟨e6_10, u6_10⟩ := ptY_5.has 10 (by omega)
          have w6_10 := ptY_5.free 10 (by omega)
          obtain ⟨e6_11, u6_11⟩ := ptY_5.has 11 (by omega)
          have w6_11 := ptY_5.free 11 (by omega)
          go_simp
          try go_wp2_with fail
          have hg6 := StR.stL_grown t3.heap.size [.string a2, .string m2, .int .i64 mo2, .int .i64 ev2, .int .i64 su2, .int .i64 mx2, .slice ta2 tl2 tc2, .func (.func 104) #[] #[], .func (.func 105) #[] #[], .slice ha2 hl2 hc2, .func (.func 106) #[] #[], .func (.func 107) #[] #[]] 0 k5
          have hbY_6 := StR.stL_blk (vs := [.string a2, .string m2, .int .i64 mo2, .int .i64 ev2, .int .i64 su2, .int .i64 mx2, .slice ta2 tl2 tc2, .func (.func 104) #[] #[], .func (.func 105) #[] #[], .slice ha2 hl2 hc2, .func (.func 106) #[] #[], .func (.func 107) #[] #[]]) (W := k5) ptY_5 (by simp)
          have hh6 := JX.grown (W0 := W0) (bA := w.heap.size) (bB := w.heap.size + 1) (bR := w.heap.size + 1 + 1) (a1 := a1) (m1 := m1) (mo1 := mo1) (ev1 := ev1) (su1 := su1) (mx1 := mx1) (ta1 := ta1) (tl1 := tl1) (tc1 := tc1) (ha1 := ha1) (hl1 := hl1) (hc1 := hc1) (a2 := a2) (m2 := m2) (mo2 := mo2) (ev2 := ev2) (su2 := su2) (mx2 := mx2) (ta2 := ta2) (tl2 := tl2) (tc2 := tc2) (ha2 := ha2) (hl2 := hl2) (hc2 := hc2) hh5 hloY a0 b0 r0 hg6
          have blkX_6 := StR.blk_far hbX_5 hg6 hneXY
          simp only [StR.stL, Nat.zero_add, Nat.reduceAdd] at hh6 hg6 hbY_6 blkX_6
          refine hK.out _ _ hh6 (fun _ => ?_)
          clear hK K
          try simp only [Act.put, List.setIfInBounds_toArray, List.set_cons_zero, List.set_cons_succ]
          generalize ((((((((((((k5.setCell ⟨t3.heap.size, 0, none⟩ (.string a2)).setCell ⟨t3.heap.size, 1, none⟩ (.string m2)).setCell ⟨t3.heap.size, 2, none⟩ (.int .i64 mo2)).setCell ⟨t3.heap.size, 3, none⟩ (.int .i64 ev2)).setCell ⟨t3.heap.size, 4, none⟩ (.int .i64 su2)).setCell ⟨t3.heap.size, 5, none⟩ (.int .i64 mx2)).setCell ⟨t3.heap.size, 6, none⟩ (.slice ta2 tl2 tc2)).setCell ⟨t3.heap.size, 7, none⟩ (.func (.func 104) #[] #[])).setCell ⟨t3.heap.size, 8, none⟩ (.func (.func 105) #[] #[])).setCell ⟨t3.heap.size, 9, none⟩ (.slice ha2 hl2 hc2)).setCell ⟨t3.heap.size, 10, none⟩ (.func (.func 106) #[] #[])).setCell ⟨t3.heap.size, 11, none⟩ (.func (.func 107) #[] #[])) = k6 at *
          refine wpAnyH_done (by kernel_rfl) ?_ _
          have HBX := hid_intro blkX_6
          have HBY := hid_intro hbY_6
          have HE := hid_intro (show JX W0 w.heap.size (w.heap.size + 1) (w.heap.size + 1 + 1) a1 m1 mo1 ev1 su1 mx1 ta1 tl1 tc1 ha1 hl1 hc1 a2 m2 mo2 ev2 su2 mx2 ta2 tl2 tc2 ha2 hl2 hc2 k6 from hh6)
          try clear u6_11
          try clear u6_10
          try clear u6_9
          try clear u6_8
          try clear u6_7
          try clear u6_6
          try clear u6_5
          try clear u6_4
          try clear u6_3
          try clear u6_2
          try clear u6_1
          try clear u6_0
          try clear blkX_6
          try clear hh6
          try clear hbY_6
          try clear hg6
          try clear w6_11
          try clear w6_10
          try clear w6_9
          try clear w6_8
          try clear w6_7
          try clear w6_6
          try clear w6_5
          try clear w6_4
          try clear w6_3
          try clear w6_2
          try clear w6_1
          try clear w6_0
          try clear zl6
          try clear u5_11
          try clear u5_10
          try clear u5_9
          try clear u5_8
          try clear u5_7
          try clear u5_6
          try clear u5_5
          try clear u5_4
          try clear u5_3
          try clear u5_2
          try clear u5_1
          try clear u5_0
          try clear ptY_5
          try clear hh5
          try clear hbX_5
          try clear hg5
          try clear w5_11
          try clear w5_10
          try clear w5_9
          try clear w5_8
          try clear w5_7
          try clear w5_6
          try clear w5_5
          try clear w5_4
          try clear w5_3
          try clear w5_2
          try clear w5_1
          try clear w5_0
          try clear zl5
          try clear ptY_4
          try clear ptX_4
          try clear hh4
          try clear hloY
          try clear hneXY
          try clear hq3
          try clear ptX_3
          try clear hh3
          try clear hq2
          try clear ptX_2
          try clear hh2
          try clear ptX_1
          try clear hh1
          try clear hloX
          go_wp2_with fail
          go_meet
          case rel => exact ⟨_, _, rfl, rfl, HBX, HBY, HE⟩
        · go_simp
          try go_wp2_with fail
          have hneXY : kd.heap.size ≠ t2.heap.size := by have := ptX_2.lt; omega
          have hloY : W0.heap.size ≤ t2.heap.size := (hh2).1.size
          have hh3 := JX.below (W0 := W0) (bA := w.heap.size) (bB := w.heap.size + 1) (bR := w.heap.size + 1 + 1) (a1 := a1) (m1 := m1) (mo1 := mo1) (ev1 := ev1) (su1 := su1) (mx1 := mx1) (ta1 := ta1) (tl1 := tl1) (tc1 := tc1) (ha1 := ha1) (hl1 := hl1) (hc1 := hc1) (a2 := a2) (m2 := m2) (mo2 := mo2) (ev2 := ev2) (su2 := su2) (mx2 := mx2) (ta2 := ta2) (tl2 := tl2) (tc2 := tc2) (ha2 := ha2) (hl2 := hl2) (hc2 := hc2) hh2 ((Below.refl t2.heap.size t2).alloc (Nat.le_refl _) (Obj.cells #[.string ⟨#[]⟩, .string ⟨#[]⟩, .int .i64 0, .int .i64 0, .int .i64 0, .int .i64 0, .slice none 0 0, .nilFunc, .nilFunc, .slice none 0 0, .nilFunc, .nilFunc] 74))
          have ptX_3 := ptX_2.below ((Below.refl t2.heap.size t2).alloc (Nat.le_refl _) (Obj.cells #[.string ⟨#[]⟩, .string ⟨#[]⟩, .int .i64 0, .int .i64 0, .int .i64 0, .int .i64 0, .slice none 0 0, .nilFunc, .nilFunc, .slice none 0 0, .nilFunc, .nilFunc] 74))
          have ptY_3 : EvtR.Pt t2.heap.size 12 (t2.alloc (Obj.cells #[.string ⟨#[]⟩, .string ⟨#[]⟩, .int .i64 0, .int .i64 0, .int .i64 0, .int .i64 0, .slice none 0 0, .nilFunc, .nilFunc, .slice none 0 0, .nilFunc, .nilFunc] 74)) := StR.pt_new t2 [.string ⟨#[]⟩, .string ⟨#[]⟩, .int .i64 0, .int .i64 0, .int .i64 0, .int .i64 0, .slice none 0 0, .nilFunc, .nilFunc, .slice none 0 0, .nilFunc, .nilFunc] 74
          refine hK.out _ _ hh3 (fun _ => ?_)
          clear hK K
          try simp only [Act.put, List.setIfInBounds_toArray, List.set_cons_zero, List.set_cons_succ]
          generalize (t2.alloc (Obj.cells #[.string ⟨#[]⟩, .string ⟨#[]⟩, .int .i64 0, .int .i64 0, .int .i64 0, .int .i64 0, .slice none 0 0, .nilFunc, .nilFunc, .slice none 0 0, .nilFunc, .nilFunc] 74)) = k3 at *
          refine wpAnyH_ready (rs := [3]) (by kernel_rfl) (by simp) ?_
          refine AllReadyH.cons (o := { dst := some 11, op := Op.call { callee := Callee.value (Operand.func 35), args := #[Operand.tmp 10], argTypes := #[29] }, type := 74, pos := "l07_window.go:262", after := #[{ on := 2, ground := Ground.data }, { on := 1, ground := Ground.chain }], guard := none }) rfl (fun K hK => ?_) AllReadyH.nil
          go_simp
          go_at_call 35
          refine (HUB.out _).mono ?_
          rintro e t4 ⟨rfl, hq4⟩
          try go_wp2_with fail
          have hh4 := JX.below (W0 := W0) (bA := w.heap.size) (bB := w.heap.size + 1) (bR := w.heap.size + 1 + 1) (a1 := a1) (m1 := m1) (mo1 := mo1) (ev1 := ev1) (su1 := su1) (mx1 := mx1) (ta1 := ta1) (tl1 := tl1) (tc1 := tc1) (ha1 := ha1) (hl1 := hl1) (hc1 := hc1) (a2 := a2) (m2 := m2) (mo2 := mo2) (ev2 := ev2) (su2 := su2) (mx2 := mx2) (ta2 := ta2) (tl2 := tl2) (tc2 := tc2) (ha2 := ha2) (hl2 := hl2) (hc2 := hc2) hh3 hq4
          have ptX_4 := ptX_3.below hq4
          have ptY_4 := ptY_3.below hq4
          refine hK.out _ _ hh4 (fun _ => ?_)
          clear hK K
          try simp only [Act.put, List.setIfInBounds_toArray, List.set_cons_zero, List.set_cons_succ]
          refine wpAnyH_ready (rs := [6]) (by kernel_rfl) (by simp) ?_
          refine AllReadyH.cons (o := { dst := none, op := Op.store 74 (Operand.tmp 5) (Operand.tmp 9), type := 0, pos := "l07_window.go:262", after := #[{ on := 4, ground := Ground.data }, { on := 1, ground := Ground.data }, { on := 3, ground := Ground.chain }, { on := 0, ground := Ground.phase }, { on := 1, ground := Ground.phase }, { on := 2, ground := Ground.textOnly Departure.lateStores }, { on := 3, ground := Ground.textOnly Departure.lateStoresUnsure }, { on := 4, ground := Ground.phase }, { on := 5, ground := Ground.phase }], guard := none }) rfl (fun K hK => ?_) AllReadyH.nil
          have zl5 := ptX_4.lt
          obtain ⟨e5_0, u5_0⟩ := ptX_4.has 0 (by omega)
          have w5_0 := ptX_4.free 0 (by omega)
          obtain ⟨e5_1, u5_1⟩ := ptX_4.has 1 (by omega)
          have w5_1 := ptX_4.free 1 (by omega)
          obtain ⟨e5_2, u5_2⟩ := ptX_4.has 2 (by omega)
          have w5_2 := ptX_4.free 2 (by omega)
          obtain ⟨e5_3, u5_3⟩ := ptX_4.has 3 (by omega)
          have w5_3 := ptX_4.free 3 (by omega)
          obtain ⟨e5_4, u5_4⟩ := ptX_4.has 4 (by omega)
          have w5_4 := ptX_4.free 4 (by omega)
          obtain ⟨e5_5, u5_5⟩ := ptX_4.has 5 (by omega)
          have w5_5 := ptX_4.free 5 (by omega)
          obtain ⟨e5_6, u5_6⟩ := ptX_4.has 6 (by omega)
          have w5_6 := ptX_4.free 6 (by omega)
          obtain ⟨e5_7, u5_7⟩ := ptX_4.has 7 (by omega)
          have w5_7 := ptX_4.free 7 (by omega)
          obtain ⟨e5_8, u5_8⟩ := ptX_4.has 8 (by omega)
          have w5_8 := ptX_4.free 8 (by omega)
          obtain ⟨e5_9, u5_9⟩ := ptX_4.has 9 (by omega)
          have w5_9 := ptX_4.free 9 (by omega)
          obtain ⟨e5_10, u5_10⟩ := ptX_4.has 10 (by omega)
          have w5_10 := ptX_4.free 10 (by omega)
          obtain ⟨e5_11, u5_11⟩ := ptX_4.has 11 (by omega)
          have w5_11 := ptX_4.free 11 (by omega)
          go_simp
          try go_wp2_with fail
          have hg5 := StR.stL_grown kd.heap.size [.string a1, .string m1, .int .i64 mo1, .int .i64 ev1, .int .i64 su1, .int .i64 mx1, .slice ta1 tl1 tc1, .func (.func 104) #[] #[], .func (.func 105) #[] #[], .slice ha1 hl1 hc1, .func (.func 106) #[] #[], .func (.func 107) #[] #[]] 0 t4
          have hbX_5 := StR.stL_blk (vs := [.string a1, .string m1, .int .i64 mo1, .int .i64 ev1, .int .i64 su1, .int .i64 mx1, .slice ta1 tl1 tc1, .func (.func 104) #[] #[], .func (.func 105) #[] #[], .slice ha1 hl1 hc1, .func (.func 106) #[] #[], .func (.func 107) #[] #[]]) (W := t4) ptX_4 (by simp)
          have hh5 := JX.grown (W0 := W0) (bA := w.heap.size) (bB := w.heap.size + 1) (bR := w.heap.size + 1 + 1) (a1 := a1) (m1 := m1) (mo1 := mo1) (ev1 := ev1) (su1 := su1) (mx1 := mx1) (ta1 := ta1) (tl1 := tl1) (tc1 := tc1) (ha1 := ha1) (hl1 := hl1) (hc1 := hc1) (a2 := a2) (m2 := m2) (mo2 := mo2) (ev2 := ev2) (su2 := su2) (mx2 := mx2) (ta2 := ta2) (tl2 := tl2) (tc2 := tc2) (ha2 := ha2) (hl2 := hl2) (hc2 := hc2) hh4 hloX a0 b0 r0 hg5
          have ptY_5 := StR.pt_far ptY_4 hg5 (fun e => hneXY e.symm)
          simp only [StR.stL, Nat.zero_add, Nat.reduceAdd] at hh5 hg5 hbX_5 ptY_5
          refine hK.out _ _ hh5 (fun _ => ?_)
          clear hK K
          try simp only [Act.put, List.setIfInBounds_toArray, List.set_cons_zero, List.set_cons_succ]
          generalize ((((((((((((t4.setCell ⟨kd.heap.size, 0, none⟩ (.string a1)).setCell ⟨kd.heap.size, 1, none⟩ (.string m1)).setCell ⟨kd.heap.size, 2, none⟩ (.int .i64 mo1)).setCell ⟨kd.heap.size, 3, none⟩ (.int .i64 ev1)).setCell ⟨kd.heap.size, 4, none⟩ (.int .i64 su1)).setCell ⟨kd.heap.size, 5, none⟩ (.int .i64 mx1)).setCell ⟨kd.heap.size, 6, none⟩ (.slice ta1 tl1 tc1)).setCell ⟨kd.heap.size, 7, none⟩ (.func (.func 104) #[] #[])).setCell ⟨kd.heap.size, 8, none⟩ (.func (.func 105) #[] #[])).setCell ⟨kd.heap.size, 9, none⟩ (.slice ha1 hl1 hc1)).setCell ⟨kd.heap.size, 10, none⟩ (.func (.func 106) #[] #[])).setCell ⟨kd.heap.size, 11, none⟩ (.func (.func 107) #[] #[])) = k5 at *
          refine wpAnyH_ready (rs := [7]) (by kernel_rfl) (by simp) ?_
          refine AllReadyH.cons (o := { dst := none, op := Op.store 74 (Operand.tmp 6) (Operand.tmp 11), type := 0, pos := "l07_window.go:262", after := #[{ on := 5, ground := Ground.data }, { on := 3, ground := Ground.data }, { on := 6, ground := Ground.chain }, { on := 0, ground := Ground.phase }, { on := 1, ground := Ground.phase }, { on := 2, ground := Ground.phase }, { on := 3, ground := Ground.phase }, { on := 4, ground := Ground.phase }, { on := 5, ground := Ground.phase }, { on := 6, ground := Ground.phase }], guard := none }) rfl (fun K hK => ?_) AllReadyH.nil
          have zl6 := ptY_5.lt
          obtain ⟨e6_0, u6_0⟩ := ptY_5.has 0 (by omega)
          have w6_0 := ptY_5.free 0 (by omega)
          obtain ⟨e6_1, u6_1⟩ := ptY_5.has 1 (by omega)
          have w6_1 := ptY_5.free 1 (by omega)
          obtain ⟨e6_2, u6_2⟩ := ptY_5.has 2 (by omega)
          have w6_2 := ptY_5.free 2 (by omega)
          obtain ⟨e6_3, u6_3⟩ := ptY_5.has 3 (by omega)
          have w6_3 := ptY_5.free 3 (by omega)
          obtain ⟨e6_4, u6_4⟩ := ptY_5.has 4 (by omega)
          have w6_4 := ptY_5.free 4 (by omega)
          obtain ⟨e6_5, u6_5⟩ := ptY_5.has 5 (by omega)
          have w6_5 := ptY_5.free 5 (by omega)
          obtain ⟨e6_6, u6_6⟩ := ptY_5.has 6 (by omega)
          have w6_6 := ptY_5.free 6 (by omega)
          obtain ⟨e6_7, u6_7⟩ := ptY_5.has 7 (by omega)
          have w6_7 := ptY_5.free 7 (by omega)
          obtain ⟨e6_8, u6_8⟩ := ptY_5.has 8 (by omega)
          have w6_8 := ptY_5.free 8 (by omega)
          obtain ⟨e6_9, u6_9⟩ := ptY_5.has 9 (by omega)
          have w6_9 := ptY_5.free 9 (by omega)
          obtain ⟨e6_10, u6_10⟩ := ptY_5.has 10 (by omega)
          have w6_10 := ptY_5.free 10 (by omega)
          obtain ⟨e6_11, u6_11⟩ := ptY_5.has 11 (by omega)
          have w6_11 := ptY_5.free 11 (by omega)
          go_simp
          try go_wp2_with fail
          have hg6 := StR.stL_grown t2.heap.size [.string a2, .string m2, .int .i64 mo2, .int .i64 ev2, .int .i64 su2, .int .i64 mx2, .slice ta2 tl2 tc2, .func (.func 104) #[] #[], .func (.func 105) #[] #[], .slice ha2 hl2 hc2, .func (.func 106) #[] #[], .func (.func 107) #[] #[]] 0 k5
          have hbY_6 := StR.stL_blk (vs := [.string a2, .string m2, .int .i64 mo2, .int .i64 ev2, .int .i64 su2, .int .i64 mx2, .slice ta2 tl2 tc2, .func (.func 104) #[] #[], .func (.func 105) #[] #[], .slice ha2 hl2 hc2, .func (.func 106) #[] #[], .func (.func 107) #[] #[]]) (W := k5) ptY_5 (by simp)
          have hh6 := JX.grown (W0 := W0) (bA := w.heap.size) (bB := w.heap.size + 1) (bR := w.heap.size + 1 + 1) (a1 := a1) (m1 := m1) (mo1 := mo1) (ev1 := ev1) (su1 := su1) (mx1 := mx1) (ta1 := ta1) (tl1 := tl1) (tc1 := tc1) (ha1 := ha1) (hl1 := hl1) (hc1 := hc1) (a2 := a2) (m2 := m2) (mo2 := mo2) (ev2 := ev2) (su2 := su2) (mx2 := mx2) (ta2 := ta2) (tl2 := tl2) (tc2 := tc2) (ha2 := ha2) (hl2 := hl2) (hc2 := hc2) hh5 hloY a0 b0 r0 hg6
          have blkX_6 := StR.blk_far hbX_5 hg6 hneXY
          simp only [StR.stL, Nat.zero_add, Nat.reduceAdd] at hh6 hg6 hbY_6 blkX_6
          refine hK.out _ _ hh6 (fun _ => ?_)
          clear hK K
          try simp only [Act.put, List.setIfInBounds_toArray, List.set_cons_zero, List.set_cons_succ]
          generalize ((((((((((((k5.setCell ⟨t2.heap.size, 0, none⟩ (.string a2)).setCell ⟨t2.heap.size, 1, none⟩ (.string m2)).setCell ⟨t2.heap.size, 2, none⟩ (.int .i64 mo2)).setCell ⟨t2.heap.size, 3, none⟩ (.int .i64 ev2)).setCell ⟨t2.heap.size, 4, none⟩ (.int .i64 su2)).setCell ⟨t2.heap.size, 5, none⟩ (.int .i64 mx2)).setCell ⟨t2.heap.size, 6, none⟩ (.slice ta2 tl2 tc2)).setCell ⟨t2.heap.size, 7, none⟩ (.func (.func 104) #[] #[])).setCell ⟨t2.heap.size, 8, none⟩ (.func (.func 105) #[] #[])).setCell ⟨t2.heap.size, 9, none⟩ (.slice ha2 hl2 hc2)).setCell ⟨t2.heap.size, 10, none⟩ (.func (.func 106) #[] #[])).setCell ⟨t2.heap.size, 11, none⟩ (.func (.func 107) #[] #[])) = k6 at *
          refine wpAnyH_done (by kernel_rfl) ?_ _
          have HBX := hid_intro blkX_6
          have HBY := hid_intro hbY_6
          have HE := hid_intro (show JX W0 w.heap.size (w.heap.size + 1) (w.heap.size + 1 + 1) a1 m1 mo1 ev1 su1 mx1 ta1 tl1 tc1 ha1 hl1 hc1 a2 m2 mo2 ev2 su2 mx2 ta2 tl2 tc2 ha2 hl2 hc2 k6 from hh6)
          try clear u6_11
          try clear u6_10
          try clear u6_9
          try clear u6_8
          try clear u6_7
          try clear u6_6
          try clear u6_5
          try clear u6_4
          try clear u6_3
          try clear u6_2
          try clear u6_1
          try clear u6_0
          try clear blkX_6
          try clear hh6
          try clear hbY_6
          try clear hg6
          try clear w6_11
          try clear w6_10
          try clear w6_9
          try clear w6_8
          try clear w6_7
          try clear w6_6
          try clear w6_5
          try clear w6_4
          try clear w6_3
          try clear w6_2
          try clear w6_1
          try clear w6_0
          try clear zl6
          try clear u5_11
          try clear u5_10
          try clear u5_9
          try clear u5_8
          try clear u5_7
          try clear u5_6
          try clear u5_5
          try clear u5_4
          try clear u5_3
          try clear u5_2
          try clear u5_1
          try clear u5_0
          try clear ptY_5
          try clear hh5
          try clear hbX_5
          try clear hg5
          try clear w5_11
          try clear w5_10
          try clear w5_9
          try clear w5_8
          try clear w5_7
          try clear w5_6
          try clear w5_5
          try clear w5_4
          try clear w5_3
          try clear w5_2
          try clear w5_1
          try clear w5_0
          try clear zl5
          try clear hq4
          try clear ptY_4
          try clear ptX_4
          try clear hh4
          try clear ptY_3
          try clear ptX_3
          try clear hh3
          try clear hloY
          try clear hneXY
          try clear hq2
          try clear ptX_2
          try clear hh2
          try clear ptX_1
          try clear hh1
          try clear hloX
          go_wp2_with fail
          go_meet
          case rel => exact ⟨_, _, rfl, rfl, HBX, HBY, HE⟩
      · go_simp
        try go_wp2_with fail
        have hneXY : kd.heap.size ≠ k1.heap.size := by have := ptX_1.lt; omega
        have hloY : W0.heap.size ≤ k1.heap.size := (hh1).1.size
        have hh2 := JX.below (W0 := W0) (bA := w.heap.size) (bB := w.heap.size + 1) (bR := w.heap.size + 1 + 1) (a1 := a1) (m1 := m1) (mo1 := mo1) (ev1 := ev1) (su1 := su1) (mx1 := mx1) (ta1 := ta1) (tl1 := tl1) (tc1 := tc1) (ha1 := ha1) (hl1 := hl1) (hc1 := hc1) (a2 := a2) (m2 := m2) (mo2 := mo2) (ev2 := ev2) (su2 := su2) (mx2 := mx2) (ta2 := ta2) (tl2 := tl2) (tc2 := tc2) (ha2 := ha2) (hl2 := hl2) (hc2 := hc2) hh1 ((Below.refl k1.heap.size k1).alloc (Nat.le_refl _) (Obj.cells #[.string ⟨#[]⟩, .string ⟨#[]⟩, .int .i64 0, .int .i64 0, .int .i64 0, .int .i64 0, .slice none 0 0, .nilFunc, .nilFunc, .slice none 0 0, .nilFunc, .nilFunc] 74))
        have ptX_2 := ptX_1.below ((Below.refl k1.heap.size k1).alloc (Nat.le_refl _) (Obj.cells #[.string ⟨#[]⟩, .string ⟨#[]⟩, .int .i64 0, .int .i64 0, .int .i64 0, .int .i64 0, .slice none 0 0, .nilFunc, .nilFunc, .slice none 0 0, .nilFunc, .nilFunc] 74))
        have ptY_2 : EvtR.Pt k1.heap.size 12 (k1.alloc (Obj.cells #[.string ⟨#[]⟩, .string ⟨#[]⟩, .int .i64 0, .int .i64 0, .int .i64 0, .int .i64 0, .slice none 0 0, .nilFunc, .nilFunc, .slice none 0 0, .nilFunc, .nilFunc] 74)) := StR.pt_new k1 [.string ⟨#[]⟩, .string ⟨#[]⟩, .int .i64 0, .int .i64 0, .int .i64 0, .int .i64 0, .slice none 0 0, .nilFunc, .nilFunc, .slice none 0 0, .nilFunc, .nilFunc] 74
        refine hK.out _ _ hh2 (fun _ => ?_)
        clear hK K
        try simp only [Act.put, List.setIfInBounds_toArray, List.set_cons_zero, List.set_cons_succ]
        generalize (k1.alloc (Obj.cells #[.string ⟨#[]⟩, .string ⟨#[]⟩, .int .i64 0, .int .i64 0, .int .i64 0, .int .i64 0, .slice none 0 0, .nilFunc, .nilFunc, .slice none 0 0, .nilFunc, .nilFunc] 74)) = k2 at *
        refine wpAnyH_ready (rs := [1]) (by kernel_rfl) (by simp) ?_
        refine AllReadyH.cons (o := { dst := some 9, op := Op.call { callee := Callee.value (Operand.func 35), args := #[Operand.tmp 8], argTypes := #[29] }, type := 74, pos := "l07_window.go:262", after := #[{ on := 0, ground := Ground.data }], guard := none }) rfl (fun K hK => ?_) AllReadyH.nil
        go_simp
        go_at_call 35
        refine (HUA.out _).mono ?_
        rintro e t3 ⟨rfl, hq3⟩
        try go_wp2_with fail
        have hh3 := JX.below (W0 := W0) (bA := w.heap.size) (bB := w.heap.size + 1) (bR := w.heap.size + 1 + 1) (a1 := a1) (m1 := m1) (mo1 := mo1) (ev1 := ev1) (su1 := su1) (mx1 := mx1) (ta1 := ta1) (tl1 := tl1) (tc1 := tc1) (ha1 := ha1) (hl1 := hl1) (hc1 := hc1) (a2 := a2) (m2 := m2) (mo2 := mo2) (ev2 := ev2) (su2 := su2) (mx2 := mx2) (ta2 := ta2) (tl2 := tl2) (tc2 := tc2) (ha2 := ha2) (hl2 := hl2) (hc2 := hc2) hh2 hq3
        have ptX_3 := ptX_2.below hq3
        have ptY_3 := ptY_2.below hq3
        refine hK.out _ _ hh3 (fun _ => ?_)
        clear hK K
        try simp only [Act.put, List.setIfInBounds_toArray, List.set_cons_zero, List.set_cons_succ]
        refine wpAnyH_ready (rs := [3]) (by kernel_rfl) (by simp) ?_
        refine AllReadyH.cons (o := { dst := some 11, op := Op.call { callee := Callee.value (Operand.func 35), args := #[Operand.tmp 10], argTypes := #[29] }, type := 74, pos := "l07_window.go:262", after := #[{ on := 2, ground := Ground.data }, { on := 1, ground := Ground.chain }], guard := none }) rfl (fun K hK => ?_) AllReadyH.nil
        go_simp
        go_at_call 35
        refine (HUB.out _).mono ?_
        rintro e t4 ⟨rfl, hq4⟩
        try go_wp2_with fail
        have hh4 := JX.below (W0 := W0) (bA := w.heap.size) (bB := w.heap.size + 1) (bR := w.heap.size + 1 + 1) (a1 := a1) (m1 := m1) (mo1 := mo1) (ev1 := ev1) (su1 := su1) (mx1 := mx1) (ta1 := ta1) (tl1 := tl1) (tc1 := tc1) (ha1 := ha1) (hl1 := hl1) (hc1 := hc1) (a2 := a2) (m2 := m2) (mo2 := mo2) (ev2 := ev2) (su2 := su2) (mx2 := mx2) (ta2 := ta2) (tl2 := tl2) (tc2 := tc2) (ha2 := ha2) (hl2 := hl2) (hc2 := hc2) hh3 hq4
        have ptX_4 := ptX_3.below hq4
        have ptY_4 := ptY_3.below hq4
        refine hK.out _ _ hh4 (fun _ => ?_)
        clear hK K
        try simp only [Act.put, List.setIfInBounds_toArray, List.set_cons_zero, List.set_cons_succ]
        refine wpAnyH_ready (rs := [6]) (by kernel_rfl) (by simp) ?_
        refine AllReadyH.cons (o := { dst := none, op := Op.store 74 (Operand.tmp 5) (Operand.tmp 9), type := 0, pos := "l07_window.go:262", after := #[{ on := 4, ground := Ground.data }, { on := 1, ground := Ground.data }, { on := 3, ground := Ground.chain }, { on := 0, ground := Ground.phase }, { on := 1, ground := Ground.phase }, { on := 2, ground := Ground.textOnly Departure.lateStores }, { on := 3, ground := Ground.textOnly Departure.lateStoresUnsure }, { on := 4, ground := Ground.phase }, { on := 5, ground := Ground.phase }], guard := none }) rfl (fun K hK => ?_) AllReadyH.nil
        have zl5 := ptX_4.lt
        obtain ⟨e5_0, u5_0⟩ := ptX_4.has 0 (by omega)
        have w5_0 := ptX_4.free 0 (by omega)
        obtain ⟨e5_1, u5_1⟩ := ptX_4.has 1 (by omega)
        have w5_1 := ptX_4.free 1 (by omega)
        obtain ⟨e5_2, u5_2⟩ := ptX_4.has 2 (by omega)
        have w5_2 := ptX_4.free 2 (by omega)
        obtain ⟨e5_3, u5_3⟩ := ptX_4.has 3 (by omega)
        have w5_3 := ptX_4.free 3 (by omega)
        obtain ⟨e5_4, u5_4⟩ := ptX_4.has 4 (by omega)
        have w5_4 := ptX_4.free 4 (by omega)
        obtain ⟨e5_5, u5_5⟩ := ptX_4.has 5 (by omega)
        have w5_5 := ptX_4.free 5 (by omega)
        obtain ⟨e5_6, u5_6⟩ := ptX_4.has 6 (by omega)
        have w5_6 := ptX_4.free 6 (by omega)
        obtain ⟨e5_7, u5_7⟩ := ptX_4.has 7 (by omega)
        have w5_7 := ptX_4.free 7 (by omega)
        obtain ⟨e5_8, u5_8⟩ := ptX_4.has 8 (by omega)
        have w5_8 := ptX_4.free 8 (by omega)
        obtain ⟨e5_9, u5_9⟩ := ptX_4.has 9 (by omega)
        have w5_9 := ptX_4.free 9 (by omega)
        obtain ⟨e5_10, u5_10⟩ := ptX_4.has 10 (by omega)
        have w5_10 := ptX_4.free 10 (by omega)
        obtain ⟨e5_11, u5_11⟩ := ptX_4.has 11 (by omega)
        have w5_11 := ptX_4.free 11 (by omega)
        go_simp
        try go_wp2_with fail
        have hg5 := StR.stL_grown kd.heap.size [.string a1, .string m1, .int .i64 mo1, .int .i64 ev1, .int .i64 su1, .int .i64 mx1, .slice ta1 tl1 tc1, .func (.func 104) #[] #[], .func (.func 105) #[] #[], .slice ha1 hl1 hc1, .func (.func 106) #[] #[], .func (.func 107) #[] #[]] 0 t4
        have hbX_5 := StR.stL_blk (vs := [.string a1, .string m1, .int .i64 mo1, .int .i64 ev1, .int .i64 su1, .int .i64 mx1, .slice ta1 tl1 tc1, .func (.func 104) #[] #[], .func (.func 105) #[] #[], .slice ha1 hl1 hc1, .func (.func 106) #[] #[], .func (.func 107) #[] #[]]) (W := t4) ptX_4 (by simp)
        have hh5 := JX.grown (W0 := W0) (bA := w.heap.size) (bB := w.heap.size + 1) (bR := w.heap.size + 1 + 1) (a1 := a1) (m1 := m1) (mo1 := mo1) (ev1 := ev1) (su1 := su1) (mx1 := mx1) (ta1 := ta1) (tl1 := tl1) (tc1 := tc1) (ha1 := ha1) (hl1 := hl1) (hc1 := hc1) (a2 := a2) (m2 := m2) (mo2 := mo2) (ev2 := ev2) (su2 := su2) (mx2 := mx2) (ta2 := ta2) (tl2 := tl2) (tc2 := tc2) (ha2 := ha2) (hl2 := hl2) (hc2 := hc2) hh4 hloX a0 b0 r0 hg5
        have ptY_5 := StR.pt_far ptY_4 hg5 (fun e => hneXY e.symm)
        simp only [StR.stL, Nat.zero_add, Nat.reduceAdd] at hh5 hg5 hbX_5 ptY_5
        refine hK.out _ _ hh5 (fun _ => ?_)
        clear hK K
        try simp only [Act.put, List.setIfInBounds_toArray, List.set_cons_zero, List.set_cons_succ]
        generalize ((((((((((((t4.setCell ⟨kd.heap.size, 0, none⟩ (.string a1)).setCell ⟨kd.heap.size, 1, none⟩ (.string m1)).setCell ⟨kd.heap.size, 2, none⟩ (.int .i64 mo1)).setCell ⟨kd.heap.size, 3, none⟩ (.int .i64 ev1)).setCell ⟨kd.heap.size, 4, none⟩ (.int .i64 su1)).setCell ⟨kd.heap.size, 5, none⟩ (.int .i64 mx1)).setCell ⟨kd.heap.size, 6, none⟩ (.slice ta1 tl1 tc1)).setCell ⟨kd.heap.size, 7, none⟩ (.func (.func 104) #[] #[])).setCell ⟨kd.heap.size, 8, none⟩ (.func (.func 105) #[] #[])).setCell ⟨kd.heap.size, 9, none⟩ (.slice ha1 hl1 hc1)).setCell ⟨kd.heap.size, 10, none⟩ (.func (.func 106) #[] #[])).setCell ⟨kd.heap.size, 11, none⟩ (.func (.func 107) #[] #[])) = k5 at *
        refine wpAnyH_ready (rs := [7]) (by kernel_rfl) (by simp) ?_
        refine AllReadyH.cons (o := { dst := none, op := Op.store 74 (Operand.tmp 6) (Operand.tmp 11), type := 0, pos := "l07_window.go:262", after := #[{ on := 5, ground := Ground.data }, { on := 3, ground := Ground.data }, { on := 6, ground := Ground.chain }, { on := 0, ground := Ground.phase }, { on := 1, ground := Ground.phase }, { on := 2, ground := Ground.phase }, { on := 3, ground := Ground.phase }, { on := 4, ground := Ground.phase }, { on := 5, ground := Ground.phase }, { on := 6, ground := Ground.phase }], guard := none }) rfl (fun K hK => ?_) AllReadyH.nil
        have zl6 := ptY_5.lt
        obtain ⟨e6_0, u6_0⟩ := ptY_5.has 0 (by omega)
        have w6_0 := ptY_5.free 0 (by omega)
        obtain ⟨e6_1, u6_1⟩ := ptY_5.has 1 (by omega)
        have w6_1 := ptY_5.free 1 (by omega)
        obtain ⟨e6_2, u6_2⟩ := ptY_5.has 2 (by omega)
        have w6_2 := ptY_5.free 2 (by omega)
        obtain ⟨e6_3, u6_3⟩ := ptY_5.has 3 (by omega)
        have w6_3 := ptY_5.free 3 (by omega)
        obtain ⟨e6_4, u6_4⟩ := ptY_5.has 4 (by omega)
        have w6_4 := ptY_5.free 4 (by omega)
        obtain ⟨e6_5, u6_5⟩ := ptY_5.has 5 (by omega)
        have w6_5 := ptY_5.free 5 (by omega)
        obtain ⟨e6_6, u6_6⟩ := ptY_5.has 6 (by omega)
        have w6_6 := ptY_5.free 6 (by omega)
        obtain ⟨e6_7, u6_7⟩ := ptY_5.has 7 (by omega)
        have w6_7 := ptY_5.free 7 (by omega)
        obtain ⟨e6_8, u6_8⟩ := ptY_5.has 8 (by omega)
        have w6_8 := ptY_5.free 8 (by omega)
        obtain ⟨e6_9, u6_9⟩ := ptY_5.has 9 (by omega)
        have w6_9 := ptY_5.free 9 (by omega)
        obtain ⟨e6_10, u6_10⟩ := ptY_5.has 10 (by omega)
        have w6_10 := ptY_5.free 10 (by omega)
        obtain ⟨e6_11, u6_11⟩ := ptY_5.has 11 (by omega)
        have w6_11 := ptY_5.free 11 (by omega)
        go_simp
        try go_wp2_with fail
        have hg6 := StR.stL_grown k1.heap.size [.string a2, .string m2, .int .i64 mo2, .int .i64 ev2, .int .i64 su2, .int .i64 mx2, .slice ta2 tl2 tc2, .func (.func 104) #[] #[], .func (.func 105) #[] #[], .slice ha2 hl2 hc2, .func (.func 106) #[] #[], .func (.func 107) #[] #[]] 0 k5
        have hbY_6 := StR.stL_blk (vs := [.string a2, .string m2, .int .i64 mo2, .int .i64 ev2, .int .i64 su2, .int .i64 mx2, .slice ta2 tl2 tc2, .func (.func 104) #[] #[], .func (.func 105) #[] #[], .slice ha2 hl2 hc2, .func (.func 106) #[] #[], .func (.func 107) #[] #[]]) (W := k5) ptY_5 (by simp)
        have hh6 := JX.grown (W0 := W0) (bA := w.heap.size) (bB := w.heap.size + 1) (bR := w.heap.size + 1 + 1) (a1 := a1) (m1 := m1) (mo1 := mo1) (ev1 := ev1) (su1 := su1) (mx1 := mx1) (ta1 := ta1) (tl1 := tl1) (tc1 := tc1) (ha1 := ha1) (hl1 := hl1) (hc1 := hc1) (a2 := a2) (m2 := m2) (mo2 := mo2) (ev2 := ev2) (su2 := su2) (mx2 := mx2) (ta2 := ta2) (tl2 := tl2) (tc2 := tc2) (ha2 := ha2) (hl2 := hl2) (hc2 := hc2) hh5 hloY a0 b0 r0 hg6
        have blkX_6 := StR.blk_far hbX_5 hg6 hneXY
        simp only [StR.stL, Nat.zero_add, Nat.reduceAdd] at hh6 hg6 hbY_6 blkX_6
        refine hK.out _ _ hh6 (fun _ => ?_)
        clear hK K
        try simp only [Act.put, List.setIfInBounds_toArray, List.set_cons_zero, List.set_cons_succ]
        generalize ((((((((((((k5.setCell ⟨k1.heap.size, 0, none⟩ (.string a2)).setCell ⟨k1.heap.size, 1, none⟩ (.string m2)).setCell ⟨k1.heap.size, 2, none⟩ (.int .i64 mo2)).setCell ⟨k1.heap.size, 3, none⟩ (.int .i64 ev2)).setCell ⟨k1.heap.size, 4, none⟩ (.int .i64 su2)).setCell ⟨k1.heap.size, 5, none⟩ (.int .i64 mx2)).setCell ⟨k1.heap.size, 6, none⟩ (.slice ta2 tl2 tc2)).setCell ⟨k1.heap.size, 7, none⟩ (.func (.func 104) #[] #[])).setCell ⟨k1.heap.size, 8, none⟩ (.func (.func 105) #[] #[])).setCell ⟨k1.heap.size, 9, none⟩ (.slice ha2 hl2 hc2)).setCell ⟨k1.heap.size, 10, none⟩ (.func (.func 106) #[] #[])).setCell ⟨k1.heap.size, 11, none⟩ (.func (.func 107) #[] #[])) = k6 at *
        refine wpAnyH_done (by kernel_rfl) ?_ _
        have HBX := hid_intro blkX_6
        have HBY := hid_intro hbY_6
        have HE := hid_intro (show JX W0 w.heap.size (w.heap.size + 1) (w.heap.size + 1 + 1) a1 m1 mo1 ev1 su1 mx1 ta1 tl1 tc1 ha1 hl1 hc1 a2 m2 mo2 ev2 su2 mx2 ta2 tl2 tc2 ha2 hl2 hc2 k6 from hh6)
        try clear u6_11
        try clear u6_10
        try clear u6_9
        try clear u6_8
        try clear u6_7
        try clear u6_6
        try clear u6_5
        try clear u6_4
        try clear u6_3
        try clear u6_2
        try clear u6_1
        try clear u6_0
        try clear blkX_6
        try clear hh6
        try clear hbY_6
        try clear hg6
        try clear w6_11
        try clear w6_10
        try clear w6_9
        try clear w6_8
        try clear w6_7
        try clear w6_6
        try clear w6_5
        try clear w6_4
        try clear w6_3
        try clear w6_2
        try clear w6_1
        try clear w6_0
        try clear zl6
        try clear u5_11
        try clear u5_10
        try clear u5_9
        try clear u5_8
        try clear u5_7
        try clear u5_6
        try clear u5_5
        try clear u5_4
        try clear u5_3
        try clear u5_2
        try clear u5_1
        try clear u5_0
        try clear ptY_5
        try clear hh5
        try clear hbX_5
        try clear hg5
        try clear w5_11
        try clear w5_10
        try clear w5_9
        try clear w5_8
        try clear w5_7
        try clear w5_6
        try clear w5_5
        try clear w5_4
        try clear w5_3
        try clear w5_2
        try clear w5_1
        try clear w5_0
        try clear zl5
        try clear hq4
        try clear ptY_4
        try clear ptX_4
        try clear hh4
        try clear hq3
        try clear ptY_3
        try clear ptX_3
        try clear hh3
        try clear ptY_2
        try clear ptX_2
        try clear hh2
        try clear hloY
        try clear hneXY
        try clear ptX_1
        try clear hh1
        try clear hloX
        go_wp2_with fail
        go_meet
        case rel => exact ⟨_, _, rfl, rfl, HBX, HBY, HE⟩
    · go_simp
      try go_wp2_with fail
      have hloY : W0.heap.size ≤ kd.heap.size := (HX1.out).1.size
      have hh1 := JX.below (W0 := W0) (bA := w.heap.size) (bB := w.heap.size + 1) (bR := w.heap.size + 1 + 1) (a1 := a1) (m1 := m1) (mo1 := mo1) (ev1 := ev1) (su1 := su1) (mx1 := mx1) (ta1 := ta1) (tl1 := tl1) (tc1 := tc1) (ha1 := ha1) (hl1 := hl1) (hc1 := hc1) (a2 := a2) (m2 := m2) (mo2 := mo2) (ev2 := ev2) (su2 := su2) (mx2 := mx2) (ta2 := ta2) (tl2 := tl2) (tc2 := tc2) (ha2 := ha2) (hl2 := hl2) (hc2 := hc2) HX1.out ((Below.refl kd.heap.size kd).alloc (Nat.le_refl _) (Obj.cells #[.string ⟨#[]⟩, .string ⟨#[]⟩, .int .i64 0, .int .i64 0, .int .i64 0, .int .i64 0, .slice none 0 0, .nilFunc, .nilFunc, .slice none 0 0, .nilFunc, .nilFunc] 74))
      have ptY_1 : EvtR.Pt kd.heap.size 12 (kd.alloc (Obj.cells #[.string ⟨#[]⟩, .string ⟨#[]⟩, .int .i64 0, .int .i64 0, .int .i64 0, .int .i64 0, .slice none 0 0, .nilFunc, .nilFunc, .slice none 0 0, .nilFunc, .nilFunc] 74)) := StR.pt_new kd [.string ⟨#[]⟩, .string ⟨#[]⟩, .int .i64 0, .int .i64 0, .int .i64 0, .int .i64 0, .slice none 0 0, .nilFunc, .nilFunc, .slice none 0 0, .nilFunc, .nilFunc] 74
      refine hK.out _ _ hh1 (fun _ => ?_)
      clear hK K
      try simp only [Act.put, List.setIfInBounds_toArray, List.set_cons_zero, List.set_cons_succ]
      generalize (kd.alloc (Obj.cells #[.string ⟨#[]⟩, .string ⟨#[]⟩, .int .i64 0, .int .i64 0, .int .i64 0, .int .i64 0, .slice none 0 0, .nilFunc, .nilFunc, .slice none 0 0, .nilFunc, .nilFunc] 74)) = k1 at *
      refine wpAnyH_ready (rs := [1, 4]) (by kernel_rfl) (by simp) ?_
      refine AllReadyH.cons (o := { dst := some 9, op := Op.call { callee := Callee.value (Operand.func 35), args := #[Operand.tmp 8], argTypes := #[29] }, type := 74, pos := "l07_window.go:262", after := #[{ on := 0, ground := Ground.data }], guard := none }) rfl (fun K hK => ?_) (AllReadyH.cons (o := { dst := some 5, op := Op.alloc 74, type := 0, pos := "l07_window.go:262", after := #[], guard := none }) rfl (fun K hK => ?_) AllReadyH.nil)
      · go_simp
        go_at_call 35
        refine (HUA.out _).mono ?_
        rintro e t2 ⟨rfl, hq2⟩
        try go_wp2_with fail
        have hh2 := JX.below (W0 := W0) (bA := w.heap.size) (bB := w.heap.size + 1) (bR := w.heap.size + 1 + 1) (a1 := a1) (m1 := m1) (mo1 := mo1) (ev1 := ev1) (su1 := su1) (mx1 := mx1) (ta1 := ta1) (tl1 := tl1) (tc1 := tc1) (ha1 := ha1) (hl1 := hl1) (hc1 := hc1) (a2 := a2) (m2 := m2) (mo2 := mo2) (ev2 := ev2) (su2 := su2) (mx2 := mx2) (ta2 := ta2) (tl2 := tl2) (tc2 := tc2) (ha2 := ha2) (hl2 := hl2) (hc2 := hc2) hh1 hq2
        have ptY_2 := ptY_1.below hq2
        refine hK.out _ _ hh2 (fun _ => ?_)
        clear hK K
        try simp only [Act.put, List.setIfInBounds_toArray, List.set_cons_zero, List.set_cons_succ]
        refine wpAnyH_ready (rs := [3, 4]) (by kernel_rfl) (by simp) ?_
        refine AllReadyH.cons (o := { dst := some 11, op := Op.call { callee := Callee.value (Operand.func 35), args := #[Operand.tmp 10], argTypes := #[29] }, type := 74, pos := "l07_window.go:262", after := #[{ on := 2, ground := Ground.data }, { on := 1, ground := Ground.chain }], guard := none }) rfl (fun K hK => ?_) (AllReadyH.cons (o := { dst := some 5, op := Op.alloc 74, type := 0, pos := "l07_window.go:262", after := #[], guard := none }) rfl (fun K hK => ?_) AllReadyH.nil)
        · go_simp
          go_at_call 35
          refine (HUB.out _).mono ?_
          rintro e t3 ⟨rfl, hq3⟩
          try go_wp2_with fail
          have hh3 := JX.below (W0 := W0) (bA := w.heap.size) (bB := w.heap.size + 1) (bR := w.heap.size + 1 + 1) (a1 := a1) (m1 := m1) (mo1 := mo1) (ev1 := ev1) (su1 := su1) (mx1 := mx1) (ta1 := ta1) (tl1 := tl1) (tc1 := tc1) (ha1 := ha1) (hl1 := hl1) (hc1 := hc1) (a2 := a2) (m2 := m2) (mo2 := mo2) (ev2 := ev2) (su2 := su2) (mx2 := mx2) (ta2 := ta2) (tl2 := tl2) (tc2 := tc2) (ha2 := ha2) (hl2 := hl2) (hc2 := hc2) hh2 hq3
          have ptY_3 := ptY_2.below hq3
          refine hK.out _ _ hh3 (fun _ => ?_)
          clear hK K
          try simp only [Act.put, List.setIfInBounds_toArray, List.set_cons_zero, List.set_cons_succ]
          refine wpAnyH_ready (rs := [4]) (by kernel_rfl) (by simp) ?_
          refine AllReadyH.cons (o := { dst := some 5, op := Op.alloc 74, type := 0, pos := "l07_window.go:262", after := #[], guard := none }) rfl (fun K hK => ?_) AllReadyH.nil
          go_simp
          try go_wp2_with fail
          have hneYX : kd.heap.size ≠ t3.heap.size := by have := ptY_3.lt; omega
          have hloX : W0.heap.size ≤ t3.heap.size := (hh3).1.size
          have hh4 := JX.below (W0 := W0) (bA := w.heap.size) (bB := w.heap.size + 1) (bR := w.heap.size + 1 + 1) (a1 := a1) (m1 := m1) (mo1 := mo1) (ev1 := ev1) (su1 := su1) (mx1 := mx1) (ta1 := ta1) (tl1 := tl1) (tc1 := tc1) (ha1 := ha1) (hl1 := hl1) (hc1 := hc1) (a2 := a2) (m2 := m2) (mo2 := mo2) (ev2 := ev2) (su2 := su2) (mx2 := mx2) (ta2 := ta2) (tl2 := tl2) (tc2 := tc2) (ha2 := ha2) (hl2 := hl2) (hc2 := hc2) hh3 ((Below.refl t3.heap.size t3).alloc (Nat.le_refl _) (Obj.cells #[.string ⟨#[]⟩, .string ⟨#[]⟩, .int .i64 0, .int .i64 0, .int .i64 0, .int .i64 0, .slice none 0 0, .nilFunc, .nilFunc, .slice none 0 0, .nilFunc, .nilFunc] 74))
          have ptY_4 := ptY_3.below ((Below.refl t3.heap.size t3).alloc (Nat.le_refl _) (Obj.cells #[.string ⟨#[]⟩, .string ⟨#[]⟩, .int .i64 0, .int .i64 0, .int .i64 0, .int .i64 0, .slice none 0 0, .nilFunc, .nilFunc, .slice none 0 0, .nilFunc, .nilFunc] 74))
          have ptX_4 : EvtR.Pt t3.heap.size 12 (t3.alloc (Obj.cells #[.string ⟨#[]⟩, .string ⟨#[]⟩, .int .i64 0, .int .i64 0, .int .i64 0, .int .i64 0, .slice none 0 0, .nilFunc, .nilFunc, .slice none 0 0, .nilFunc, .nilFunc] 74)) := StR.pt_new t3 [.string ⟨#[]⟩, .string ⟨#[]⟩, .int .i64 0, .int .i64 0, .int .i64 0, .int .i64 0, .slice none 0 0, .nilFunc, .nilFunc, .slice none 0 0, .nilFunc, .nilFunc] 74
          refine hK.out _ _ hh4 (fun _ => ?_)
          clear hK K
          try simp only [Act.put, List.setIfInBounds_toArray, List.set_cons_zero, List.set_cons_succ]
          generalize (t3.alloc (Obj.cells #[.string ⟨#[]⟩, .string ⟨#[]⟩, .int .i64 0, .int .i64 0, .int .i64 0, .int .i64 0, .slice none 0 0, .nilFunc, .nilFunc, .slice none 0 0, .nilFunc, .nilFunc] 74)) = k4 at *
          refine wpAnyH_ready (rs := [6]) (by kernel_rfl) (by simp) ?_
          refine AllReadyH.cons (o := { dst := none, op := Op.store 74 (Operand.tmp 5) (Operand.tmp 9), type := 0, pos := "l07_window.go:262", after := #[{ on := 4, ground := Ground.data }, { on := 1, ground := Ground.data }, { on := 3, ground := Ground.chain }, { on := 0, ground := Ground.phase }, { on := 1, ground := Ground.phase }, { on := 2, ground := Ground.textOnly Departure.lateStores }, { on := 3, ground := Ground.textOnly Departure.lateStoresUnsure }, { on := 4, ground := Ground.phase }, { on := 5, ground := Ground.phase }], guard := none }) rfl (fun K hK => ?_) AllReadyH.nil
          have zl5 := ptX_4.lt
          obtain ⟨e5_0, u5_0⟩ := ptX_4.has 0 (by omega)
          have w5_0 := ptX_4.free 0 (by omega)
          obtain ⟨e5_1, u5_1⟩ := ptX_4.has 1 (by omega)
          have w5_1 := ptX_4.free 1 (by omega)
          obtain ⟨e5_2, u5_2⟩ := ptX_4.has 2 (by omega)
          have w5_2 := ptX_4.free 2 (by omega)
          obtain ⟨e5_3, u5_3⟩ := ptX_4.has 3 (by omega)
          have w5_3 := ptX_4.free 3 (by omega)
          obtain ⟨e5_4, u5_4⟩ := ptX_4.has 4 (by omega)
          have w5_4 := ptX_4.free 4 (by omega)
          obtain ⟨e5_5, u5_5⟩ := ptX_4.has 5 (by omega)
          have w5_5 := ptX_4.free 5 (by omega)
          obtain ⟨e5_6, u5_6⟩ := ptX_4.has 6 (by omega)
          have w5_6 := ptX_4.free 6 (by omega)
          obtain ⟨e5_7, u5_7⟩ := ptX_4.has 7 (by omega)
          have w5_7 := ptX_4.free 7 (by omega)
          obtain ⟨e5_8, u5_8⟩ := ptX_4.has 8 (by omega)
          have w5_8 := ptX_4.free 8 (by omega)
          obtain ⟨e5_9, u5_9⟩ := ptX_4.has 9 (by omega)
          have w5_9 := ptX_4.free 9 (by omega)
          obtain ⟨e5_10, u5_10⟩ := ptX_4.has 10 (by omega)
          have w5_10 := ptX_4.free 10 (by omega)
          obtain ⟨e5_11, u5_11⟩ := ptX_4.has 11 (by omega)
          have w5_11 := ptX_4.free 11 (by omega)
          go_simp
          try go_wp2_with fail
          have hg5 := StR.stL_grown t3.heap.size [.string a1, .string m1, .int .i64 mo1, .int .i64 ev1, .int .i64 su1, .int .i64 mx1, .slice ta1 tl1 tc1, .func (.func 104) #[] #[], .func (.func 105) #[] #[], .slice ha1 hl1 hc1, .func (.func 106) #[] #[], .func (.func 107) #[] #[]] 0 k4
          have hbX_5 := StR.stL_blk (vs := [.string a1, .string m1, .int .i64 mo1, .int .i64 ev1, .int .i64 su1, .int .i64 mx1, .slice ta1 tl1 tc1, .func (.func 104) #[] #[], .func (.func 105) #[] #[], .slice ha1 hl1 hc1, .func (.func 106) #[] #[], .func (.func 107) #[] #[]]) (W := k4) ptX_4 (by simp)
          have hh5 := JX.grown (W0 := W0) (bA := w.heap.size) (bB := w.heap.size + 1) (bR := w.heap.size + 1 + 1) (a1 := a1) (m1 := m1) (mo1 := mo1) (ev1 := ev1) (su1 := su1) (mx1 := mx1) (ta1 := ta1) (tl1 := tl1) (tc1 := tc1) (ha1 := ha1) (hl1 := hl1) (hc1 := hc1) (a2 := a2) (m2 := m2) (mo2 := mo2) (ev2 := ev2) (su2 := su2) (mx2 := mx2) (ta2 := ta2) (tl2 := tl2) (tc2 := tc2) (ha2 := ha2) (hl2 := hl2) (hc2 := hc2) hh4 hloX a0 b0 r0 hg5
          have ptY_5 := StR.pt_far ptY_4 hg5 hneYX
          simp only [StR.stL, Nat.zero_add, Nat.reduceAdd] at hh5 hg5 hbX_5 ptY_5
          refine hK.out _ _ hh5 (fun _ => ?_)
          clear hK K
          try simp only [Act.put, List.setIfInBounds_toArray, List.set_cons_zero, List.set_cons_succ]
          generalize ((((((((((((k4.setCell ⟨t3.heap.size, 0, none⟩ (.string a1)).setCell ⟨t3.heap.size, 1, none⟩ (.string m1)).setCell ⟨t3.heap.size, 2, none⟩ (.int .i64 mo1)).setCell ⟨t3.heap.size, 3, none⟩ (.int .i64 ev1)).setCell ⟨t3.heap.size, 4, none⟩ (.int .i64 su1)).setCell ⟨t3.heap.size, 5, none⟩ (.int .i64 mx1)).setCell ⟨t3.heap.size, 6, none⟩ (.slice ta1 tl1 tc1)).setCell ⟨t3.heap.size, 7, none⟩ (.func (.func 104) #[] #[])).setCell ⟨t3.heap.size, 8, none⟩ (.func (.func 105) #[] #[])).setCell ⟨t3.heap.size, 9, none⟩ (.slice ha1 hl1 hc1)).setCell ⟨t3.heap.size, 10, none⟩ (.func (.func 106) #[] #[])).setCell ⟨t3.heap.size, 11, none⟩ (.func (.func 107) #[] #[])) = k5 at *
          refine wpAnyH_ready (rs := [7]) (by kernel_rfl) (by simp) ?_
          refine AllReadyH.cons (o := { dst := none, op := Op.store 74 (Operand.tmp 6) (Operand.tmp 11), type := 0, pos := "l07_window.go:262", after := #[{ on := 5, ground := Ground.data }, { on := 3, ground := Ground.data }, { on := 6, ground := Ground.chain }, { on := 0, ground := Ground.phase }, { on := 1, ground := Ground.phase }, { on := 2, ground := Ground.phase }, { on := 3, ground := Ground.phase }, { on := 4, ground := Ground.phase }, { on := 5, ground := Ground.phase }, { on := 6, ground := Ground.phase }], guard := none }) rfl (fun K hK => ?_) AllReadyH.nil
          have zl6 := ptY_5.lt
          obtain ⟨e6_0, u6_0⟩ := ptY_5.has 0 (by omega)
          have w6_0 := ptY_5.free 0 (by omega)
          obtain ⟨e6_1, u6_1⟩ := ptY_5.has 1 (by omega)
          have w6_1 := ptY_5.free 1 (by omega)
          obtain ⟨e6_2, u6_2⟩ := ptY_5.has 2 (by omega)
          have w6_2 := ptY_5.free 2 (by omega)
          obtain ⟨e6_3, u6_3⟩ := ptY_5.has 3 (by omega)
          have w6_3 := ptY_5.free 3 (by omega)
          obtain ⟨e6_4, u6_4⟩ := ptY_5.has 4 (by omega)
          have w6_4 := ptY_5.free 4 (by omega)
          obtain ⟨e6_5, u6_5⟩ := ptY_5.has 5 (by omega)
          have w6_5 := ptY_5.free 5 (by omega)
          obtain ⟨e6_6, u6_6⟩ := ptY_5.has 6 (by omega)
          have w6_6 := ptY_5.free 6 (by omega)
          obtain ⟨e6_7, u6_7⟩ := ptY_5.has 7 (by omega)
          have w6_7 := ptY_5.free 7 (by omega)
          obtain ⟨e6_8, u6_8⟩ := ptY_5.has 8 (by omega)
          have w6_8 := ptY_5.free 8 (by omega)
          obtain ⟨e6_9, u6_9⟩ := ptY_5.has 9 (by omega)
          have w6_9 := ptY_5.free 9 (by omega)
          obtain ⟨e6_10, u6_10⟩ := ptY_5.has 10 (by omega)
          have w6_10 := ptY_5.free 10 (by omega)
          obtain ⟨e6_11, u6_11⟩ := ptY_5.has 11 (by omega)
          have w6_11 := ptY_5.free 11 (by omega)
          go_simp
          try go_wp2_with fail
          have hg6 := StR.stL_grown kd.heap.size [.string a2, .string m2, .int .i64 mo2, .int .i64 ev2, .int .i64 su2, .int .i64 mx2, .slice ta2 tl2 tc2, .func (.func 104) #[] #[], .func (.func 105) #[] #[], .slice ha2 hl2 hc2, .func (.func 106) #[] #[], .func (.func 107) #[] #[]] 0 k5
          have hbY_6 := StR.stL_blk (vs := [.string a2, .string m2, .int .i64 mo2, .int .i64 ev2, .int .i64 su2, .int .i64 mx2, .slice ta2 tl2 tc2, .func (.func 104) #[] #[], .func (.func 105) #[] #[], .slice ha2 hl2 hc2, .func (.func 106) #[] #[], .func (.func 107) #[] #[]]) (W := k5) ptY_5 (by simp)
          have hh6 := JX.grown (W0 := W0) (bA := w.heap.size) (bB := w.heap.size + 1) (bR := w.heap.size + 1 + 1) (a1 := a1) (m1 := m1) (mo1 := mo1) (ev1 := ev1) (su1 := su1) (mx1 := mx1) (ta1 := ta1) (tl1 := tl1) (tc1 := tc1) (ha1 := ha1) (hl1 := hl1) (hc1 := hc1) (a2 := a2) (m2 := m2) (mo2 := mo2) (ev2 := ev2) (su2 := su2) (mx2 := mx2) (ta2 := ta2) (tl2 := tl2) (tc2 := tc2) (ha2 := ha2) (hl2 := hl2) (hc2 := hc2) hh5 hloY a0 b0 r0 hg6
          have blkX_6 := StR.blk_far hbX_5 hg6 (fun e => hneYX e.symm)
          simp only [StR.stL, Nat.zero_add, Nat.reduceAdd] at hh6 hg6 hbY_6 blkX_6
          refine hK.out _ _ hh6 (fun _ => ?_)
          clear hK K
          try simp only [Act.put, List.setIfInBounds_toArray, List.set_cons_zero, List.set_cons_succ]
          generalize ((((((((((((k5.setCell ⟨kd.heap.size, 0, none⟩ (.string a2)).setCell ⟨kd.heap.size, 1, none⟩ (.string m2)).setCell ⟨kd.heap.size, 2, none⟩ (.int .i64 mo2)).setCell ⟨kd.heap.size, 3, none⟩ (.int .i64 ev2)).setCell ⟨kd.heap.size, 4, none⟩ (.int .i64 su2)).setCell ⟨kd.heap.size, 5, none⟩ (.int .i64 mx2)).setCell ⟨kd.heap.size, 6, none⟩ (.slice ta2 tl2 tc2)).setCell ⟨kd.heap.size, 7, none⟩ (.func (.func 104) #[] #[])).setCell ⟨kd.heap.size, 8, none⟩ (.func (.func 105) #[] #[])).setCell ⟨kd.heap.size, 9, none⟩ (.slice ha2 hl2 hc2)).setCell ⟨kd.heap.size, 10, none⟩ (.func (.func 106) #[] #[])).setCell ⟨kd.heap.size, 11, none⟩ (.func (.func 107) #[] #[])) = k6 at *
          refine wpAnyH_done (by kernel_rfl) ?_ _
          have HBX := hid_intro blkX_6
          have HBY := hid_intro hbY_6
          have HE := hid_intro (show JX W0 w.heap.size (w.heap.size + 1) (w.heap.size + 1 + 1) a1 m1 mo1 ev1 su1 mx1 ta1 tl1 tc1 ha1 hl1 hc1 a2 m2 mo2 ev2 su2 mx2 ta2 tl2 tc2 ha2 hl2 hc2 k6 from hh6)
          try clear u6_11
          try clear u6_10
          try clear u6_9
          try clear u6_8
          try clear u6_7
          try clear u6_6
          try clear u6_5
          try clear u6_4
          try clear u6_3
          try clear u6_2
          try clear u6_1
          try clear u6_0
          try clear blkX_6
          try clear hh6
          try clear hbY_6
          try clear hg6
          try clear w6_11
          try clear w6_10
          try clear w6_9
          try clear w6_8
          try clear w6_7
          try clear w6_6
          try clear w6_5
          try clear w6_4
          try clear w6_3
          try clear w6_2
          try clear w6_1
          try clear w6_0
          try clear zl6
          try clear u5_11
          try clear u5_10
          try clear u5_9
          try clear u5_8
          try clear u5_7
          try clear u5_6
          try clear u5_5
          try clear u5_4
          try clear u5_3
          try clear u5_2
          try clear u5_1
          try clear u5_0
          try clear ptY_5
          try clear hh5
          try clear hbX_5
          try clear hg5
          try clear w5_11
          try clear w5_10
          try clear w5_9
          try clear w5_8
          try clear w5_7
          try clear w5_6
          try clear w5_5
          try clear w5_4
          try clear w5_3
          try clear w5_2
          try clear w5_1
          try clear w5_0
          try clear zl5
          try clear ptX_4
          try clear ptY_4
          try clear hh4
          try clear hloX
          try clear hneYX
          try clear hq3
          try clear ptY_3
          try clear hh3
          try clear hq2
          try clear ptY_2
          try clear hh2
          try clear ptY_1
          try clear hh1
          try clear hloY
          go_wp2_with fail
          go_meet
          case rel => exact ⟨_, _, rfl, rfl, HBX, HBY, HE⟩
        · go_simp
          try go_wp2_with fail
          have hneYX : kd.heap.size ≠ t2.heap.size := by have := ptY_2.lt; omega
          have hloX : W0.heap.size ≤ t2.heap.size := (hh2).1.size
          have hh3 := JX.below (W0 := W0) (bA := w.heap.size) (bB := w.heap.size + 1) (bR := w.heap.size + 1 + 1) (a1 := a1) (m1 := m1) (mo1 := mo1) (ev1 := ev1) (su1 := su1) (mx1 := mx1) (ta1 := ta1) (tl1 := tl1) (tc1 := tc1) (ha1 := ha1) (hl1 := hl1) (hc1 := hc1) (a2 := a2) (m2 := m2) (mo2 := mo2) (ev2 := ev2) (su2 := su2) (mx2 := mx2) (ta2 := ta2) (tl2 := tl2) (tc2 := tc2) (ha2 := ha2) (hl2 := hl2) (hc2 := hc2) hh2 ((Below.refl t2.heap.size t2).alloc (Nat.le_refl _) (Obj.cells #[.string ⟨#[]⟩, .string ⟨#[]⟩, .int .i64 0, .int .i64 0, .int .i64 0, .int .i64 0, .slice none 0 0, .nilFunc, .nilFunc, .slice none 0 0, .nilFunc, .nilFunc] 74))
          have ptY_3 := ptY_2.below ((Below.refl t2.heap.size t2).alloc (Nat.le_refl _) (Obj.cells #[.string ⟨#[]⟩, .string ⟨#[]⟩, .int .i64 0, .int .i64 0, .int .i64 0, .int .i64 0, .slice none 0 0, .nilFunc, .nilFunc, .slice none 0 0, .nilFunc, .nilFunc] 74))
          have ptX_3 : EvtR.Pt t2.heap.size 12 (t2.alloc (Obj.cells #[.string ⟨#[]⟩, .string ⟨#[]⟩, .int .i64 0, .int .i64 0, .int .i64 0, .int .i64 0, .slice none 0 0, .nilFunc, .nilFunc, .slice none 0 0, .nilFunc, .nilFunc] 74)) := StR.pt_new t2 [.string ⟨#[]⟩, .string ⟨#[]⟩, .int .i64 0, .int .i64 0, .int .i64 0, .int .i64 0, .slice none 0 0, .nilFunc, .nilFunc, .slice none 0 0, .nilFunc, .nilFunc] 74
          refine hK.out _ _ hh3 (fun _ => ?_)
          clear hK K
          try simp only [Act.put, List.setIfInBounds_toArray, List.set_cons_zero, List.set_cons_succ]
          generalize (t2.alloc (Obj.cells #[.string ⟨#[]⟩, .string ⟨#[]⟩, .int .i64 0, .int .i64 0, .int .i64 0, .int .i64 0, .slice none 0 0, .nilFunc, .nilFunc, .slice none 0 0, .nilFunc, .nilFunc] 74)) = k3 at *
          refine wpAnyH_ready (rs := [3]) (by kernel_rfl) (by simp) ?_
          refine AllReadyH.cons (o := { dst := some 11, op := Op.call { callee := Callee.value (Operand.func 35), args := #[Operand.tmp 10], argTypes := #[29] }, type := 74, pos := "l07_window.go:262", after := #[{ on := 2, ground := Ground.data }, { on := 1, ground := Ground.chain }], guard := none }) rfl (fun K hK => ?_) AllReadyH.nil
          go_simp
          go_at_call 35
          refine (HUB.out _).mono ?_
          rintro e t4 ⟨rfl, hq4⟩
          try go_wp2_with fail
          have hh4 := JX.below (W0 := W0) (bA := w.heap.size) (bB := w.heap.size + 1) (bR := w.heap.size + 1 + 1) (a1 := a1) (m1 := m1) (mo1 := mo1) (ev1 := ev1) (su1 := su1) (mx1 := mx1) (ta1 := ta1) (tl1 := tl1) (tc1 := tc1) (ha1 := ha1) (hl1 := hl1) (hc1 := hc1) (a2 := a2) (m2 := m2) (mo2 := mo2) (ev2 := ev2) (su2 := su2) (mx2 := mx2) (ta2 := ta2) (tl2 := tl2) (tc2 := tc2) (ha2 := ha2) (hl2 := hl2) (hc2 := hc2) hh3 hq4
          have ptY_4 := ptY_3.below hq4
          have ptX_4 := ptX_3.below hq4
          refine hK.out _ _ hh4 (fun _ => ?_)
          clear hK K
          try simp only [Act.put, List.setIfInBounds_toArray, List.set_cons_zero, List.set_cons_succ]
          refine wpAnyH_ready (rs := [6]) (by kernel_rfl) (by simp) ?_
          refine AllReadyH.cons (o := { dst := none, op := Op.store 74 (Operand.tmp 5) (Operand.tmp 9), type := 0, pos := "l07_window.go:262", after := #[{ on := 4, ground := Ground.data }, { on := 1, ground := Ground.data }, { on := 3, ground := Ground.chain }, { on := 0, ground := Ground.phase }, { on := 1, ground := Ground.phase }, { on := 2, ground := Ground.textOnly Departure.lateStores }, { on := 3, ground := Ground.textOnly Departure.lateStoresUnsure }, { on := 4, ground := Ground.phase }, { on := 5, ground := Ground.phase }], guard := none }) rfl (fun K hK => ?_) AllReadyH.nil
          have zl5 := ptX_4.lt
          obtain ⟨e5_0, u5_0⟩ := ptX_4.has 0 (by omega)
          have w5_0 := ptX_4.free 0 (by omega)
          obtain ⟨e5_1, u5_1⟩ := ptX_4.has 1 (by omega)
          have w5_1 := ptX_4.free 1 (by omega)
          obtain ⟨e5_2, u5_2⟩ := ptX_4.has 2 (by omega)
          have w5_2 := ptX_4.free 2 (by omega)
          obtain ⟨e5_3, u5_3⟩ := ptX_4.has 3 (by omega)
          have w5_3 := ptX_4.free 3 (by omega)
          obtain ⟨e5_4, u5_4⟩ := ptX_4.has 4 (by omega)
          have w5_4 := ptX_4.free 4 (by omega)
          obtain ⟨e5_5, u5_5⟩ := ptX_4.has 5 (by omega)
          have w5_5 := ptX_4.free 5 (by omega)
          obtain ⟨e5_6, u5_6⟩ := ptX_4.has 6 (by omega)
          have w5_6 := ptX_4.free 6 (by omega)
          obtain ⟨e5_7, u5_7⟩ := ptX_4.has 7 (by omega)
          have w5_7 := ptX_4.free 7 (by omega)
          obtain ⟨e5_8, u5_8⟩ := ptX_4.has 8 (by omega)
          have w5_8 := ptX_4.free 8 (by omega)
          obtain ⟨e5_9, u5_9⟩ := ptX_4.has 9 (by omega)
          have w5_9 := ptX_4.free 9 (by omega)
          obtain ⟨e5_10, u5_10⟩ := ptX_4.has 10 (by omega)
          have w5_10 := ptX_4.free 10 (by omega)
          obtain ⟨e5_11, u5_11⟩ := ptX_4.has 11 (by omega)
          have w5_11 := ptX_4.free 11 (by omega)
          go_simp
          try go_wp2_with fail
          have hg5 := StR.stL_grown t2.heap.size [.string a1, .string m1, .int .i64 mo1, .int .i64 ev1, .int .i64 su1, .int .i64 mx1, .slice ta1 tl1 tc1, .func (.func 104) #[] #[], .func (.func 105) #[] #[], .slice ha1 hl1 hc1, .func (.func 106) #[] #[], .func (.func 107) #[] #[]] 0 t4
          have hbX_5 := StR.stL_blk (vs := [.string a1, .string m1, .int .i64 mo1, .int .i64 ev1, .int .i64 su1, .int .i64 mx1, .slice ta1 tl1 tc1, .func (.func 104) #[] #[], .func (.func 105) #[] #[], .slice ha1 hl1 hc1, .func (.func 106) #[] #[], .func (.func 107) #[] #[]]) (W := t4) ptX_4 (by simp)
          have hh5 := JX.grown (W0 := W0) (bA := w.heap.size) (bB := w.heap.size + 1) (bR := w.heap.size + 1 + 1) (a1 := a1) (m1 := m1) (mo1 := mo1) (ev1 := ev1) (su1 := su1) (mx1 := mx1) (ta1 := ta1) (tl1 := tl1) (tc1 := tc1) (ha1 := ha1) (hl1 := hl1) (hc1 := hc1) (a2 := a2) (m2 := m2) (mo2 := mo2) (ev2 := ev2) (su2 := su2) (mx2 := mx2) (ta2 := ta2) (tl2 := tl2) (tc2 := tc2) (ha2 := ha2) (hl2 := hl2) (hc2 := hc2) hh4 hloX a0 b0 r0 hg5
          have ptY_5 := StR.pt_far ptY_4 hg5 hneYX
          simp only [StR.stL, Nat.zero_add, Nat.reduceAdd] at hh5 hg5 hbX_5 ptY_5
          refine hK.out _ _ hh5 (fun _ => ?_)
          clear hK K
          try simp only [Act.put, List.setIfInBounds_toArray, List.set_cons_zero, List.set_cons_succ]
          generalize ((((((((((((t4.setCell ⟨t2.heap.size, 0, none⟩ (.string a1)).setCell ⟨t2.heap.size, 1, none⟩ (.string m1)).setCell ⟨t2.heap.size, 2, none⟩ (.int .i64 mo1)).setCell ⟨t2.heap.size, 3, none⟩ (.int .i64 ev1)).setCell ⟨t2.heap.size, 4, none⟩ (.int .i64 su1)).setCell ⟨t2.heap.size, 5, none⟩ (.int .i64 mx1)).setCell ⟨t2.heap.size, 6, none⟩ (.slice ta1 tl1 tc1)).setCell ⟨t2.heap.size, 7, none⟩ (.func (.func 104) #[] #[])).setCell ⟨t2.heap.size, 8, none⟩ (.func (.func 105) #[] #[])).setCell ⟨t2.heap.size, 9, none⟩ (.slice ha1 hl1 hc1)).setCell ⟨t2.heap.size, 10, none⟩ (.func (.func 106) #[] #[])).setCell ⟨t2.heap.size, 11, none⟩ (.func (.func 107) #[] #[])) = k5 at *
          refine wpAnyH_ready (rs := [7]) (by kernel_rfl) (by simp) ?_
          refine AllReadyH.cons (o := { dst := none, op := Op.store 74 (Operand.tmp 6) (Operand.tmp 11), type := 0, pos := "l07_window.go:262", after := #[{ on := 5, ground := Ground.data }, { on := 3, ground := Ground.data }, { on := 6, ground := Ground.chain }, { on := 0, ground := Ground.phase }, { on := 1, ground := Ground.phase }, { on := 2, ground := Ground.phase }, { on := 3, ground := Ground.phase }, { on := 4, ground := Ground.phase }, { on := 5, ground := Ground.phase }, { on := 6, ground := Ground.phase }], guard := none }) rfl (fun K hK => ?_) AllReadyH.nil
          have zl6 := ptY_5.lt
          obtain ⟨e6_0, u6_0⟩ := ptY_5.has 0 (by omega)
          have w6_0 := ptY_5.free 0 (by omega)
          obtain ⟨e6_1, u6_1⟩ := ptY_5.has 1 (by omega)
          have w6_1 := ptY_5.free 1 (by omega)
          obtain ⟨e6_2, u6_2⟩ := ptY_5.has 2 (by omega)
          have w6_2 := ptY_5.free 2 (by omega)
          obtain ⟨e6_3, u6_3⟩ := ptY_5.has 3 (by omega)
          have w6_3 := ptY_5.free 3 (by omega)
          obtain ⟨e6_4, u6_4⟩ := ptY_5.has 4 (by omega)
          have w6_4 := ptY_5.free 4 (by omega)
          obtain ⟨e6_5, u6_5⟩ := ptY_5.has 5 (by omega)
          have w6_5 := ptY_5.free 5 (by omega)
          obtain ⟨e6_6, u6_6⟩ := ptY_5.has 6 (by omega)
          have w6_6 := ptY_5.free 6 (by omega)
          obtain ⟨e6_7, u6_7⟩ := ptY_5.has 7 (by omega)
          have w6_7 := ptY_5.free 7 (by omega)
          obtain ⟨e6_8, u6_8⟩ := ptY_5.has 8 (by omega)
          have w6_8 := ptY_5.free 8 (by omega)
          obtain ⟨e6_9, u6_9⟩ := ptY_5.has 9 (by omega)
          have w6_9 := ptY_5.free 9 (by omega)
          obtain ⟨e6_10, u6_10⟩ := ptY_5.has 10 (by omega)
          have w6_10 := ptY_5.free 10 (by omega)
          obtain ⟨e6_11, u6_11⟩ := ptY_5.has 11 (by omega)
          have w6_11 := ptY_5.free 11 (by omega)
          go_simp
          try go_wp2_with fail
          have hg6 := StR.stL_grown kd.heap.size [.string a2, .string m2, .int .i64 mo2, .int .i64 ev2, .int .i64 su2, .int .i64 mx2, .slice ta2 tl2 tc2, .func (.func 104) #[] #[], .func (.func 105) #[] #[], .slice ha2 hl2 hc2, .func (.func 106) #[] #[], .func (.func 107) #[] #[]] 0 k5
          have hbY_6 := StR.stL_blk (vs := [.string a2, .string m2, .int .i64 mo2, .int .i64 ev2, .int .i64 su2, .int .i64 mx2, .slice ta2 tl2 tc2, .func (.func 104) #[] #[], .func (.func 105) #[] #[], .slice ha2 hl2 hc2, .func (.func 106) #[] #[], .func (.func 107) #[] #[]]) (W := k5) ptY_5 (by simp)
          have hh6 := JX.grown (W0 := W0) (bA := w.heap.size) (bB := w.heap.size + 1) (bR := w.heap.size + 1 + 1) (a1 := a1) (m1 := m1) (mo1 := mo1) (ev1 := ev1) (su1 := su1) (mx1 := mx1) (ta1 := ta1) (tl1 := tl1) (tc1 := tc1) (ha1 := ha1) (hl1 := hl1) (hc1 := hc1) (a2 := a2) (m2 := m2) (mo2 := mo2) (ev2 := ev2) (su2 := su2) (mx2 := mx2) (ta2 := ta2) (tl2 := tl2) (tc2 := tc2) (ha2 := ha2) (hl2 := hl2) (hc2 := hc2) hh5 hloY a0 b0 r0 hg6
          have blkX_6 := StR.blk_far hbX_5 hg6 (fun e => hneYX e.symm)
          simp only [StR.stL, Nat.zero_add, Nat.reduceAdd] at hh6 hg6 hbY_6 blkX_6
          refine hK.out _ _ hh6 (fun _ => ?_)
          clear hK K
          try simp only [Act.put, List.setIfInBounds_toArray, List.set_cons_zero, List.set_cons_succ]
          generalize ((((((((((((k5.setCell ⟨kd.heap.size, 0, none⟩ (.string a2)).setCell ⟨kd.heap.size, 1, none⟩ (.string m2)).setCell ⟨kd.heap.size, 2, none⟩ (.int .i64 mo2)).setCell ⟨kd.heap.size, 3, none⟩ (.int .i64 ev2)).setCell ⟨kd.heap.size, 4, none⟩ (.int .i64 su2)).setCell ⟨kd.heap.size, 5, none⟩ (.int .i64 mx2)).setCell ⟨kd.heap.size, 6, none⟩ (.slice ta2 tl2 tc2)).setCell ⟨kd.heap.size, 7, none⟩ (.func (.func 104) #[] #[])).setCell ⟨kd.heap.size, 8, none⟩ (.func (.func 105) #[] #[])).setCell ⟨kd.heap.size, 9, none⟩ (.slice ha2 hl2 hc2)).setCell ⟨kd.heap.size, 10, none⟩ (.func (.func 106) #[] #[])).setCell ⟨kd.heap.size, 11, none⟩ (.func (.func 107) #[] #[])) = k6 at *
          refine wpAnyH_done (by kernel_rfl) ?_ _
          have HBX := hid_intro blkX_6
          have HBY := hid_intro hbY_6
          have HE := hid_intro (show JX W0 w.heap.size (w.heap.size + 1) (w.heap.size + 1 + 1) a1 m1 mo1 ev1 su1 mx1 ta1 tl1 tc1 ha1 hl1 hc1 a2 m2 mo2 ev2 su2 mx2 ta2 tl2 tc2 ha2 hl2 hc2 k6 from hh6)
          try clear u6_11
          try clear u6_10
          try clear u6_9
          try clear u6_8
          try clear u6_7
          try clear u6_6
          try clear u6_5
          try clear u6_4
          try clear u6_3
          try clear u6_2
          try clear u6_1
          try clear u6_0
          try clear blkX_6
          try clear hh6
          try clear hbY_6
          try clear hg6
          try clear w6_11
          try clear w6_10
          try clear w6_9
          try clear w6_8
          try clear w6_7
          try clear w6_6
          try clear w6_5
          try clear w6_4
          try clear w6_3
          try clear w6_2
          try clear w6_1
          try clear w6_0
          try clear zl6
          try clear u5_11
          try clear u5_10
          try clear u5_9
          try clear u5_8
          try clear u5_7
          try clear u5_6
          try clear u5_5
          try clear u5_4
          try clear u5_3
          try clear u5_2
          try clear u5_1
          try clear u5_0
          try clear ptY_5
          try clear hh5
          try clear hbX_5
          try clear hg5
          try clear w5_11
          try clear w5_10
          try clear w5_9
          try clear w5_8
          try clear w5_7
          try clear w5_6
          try clear w5_5
          try clear w5_4
          try clear w5_3
          try clear w5_2
          try clear w5_1
          try clear w5_0
          try clear zl5
          try clear hq4
          try clear ptX_4
          try clear ptY_4
          try clear hh4
          try clear ptX_3
          try clear ptY_3
          try clear hh3
          try clear hloX
          try clear hneYX
          try clear hq2
          try clear ptY_2
          try clear hh2
          try clear ptY_1
          try clear hh1
          try clear hloY
          go_wp2_with fail
          go_meet
          case rel => exact ⟨_, _, rfl, rfl, HBX, HBY, HE⟩
      · go_simp
        try go_wp2_with fail
        have hneYX : kd.heap.size ≠ k1.heap.size := by have := ptY_1.lt; omega
        have hloX : W0.heap.size ≤ k1.heap.size := (hh1).1.size
        have hh2 := JX.below (W0 := W0) (bA := w.heap.size) (bB := w.heap.size + 1) (bR := w.heap.size + 1 + 1) (a1 := a1) (m1 := m1) (mo1 := mo1) (ev1 := ev1) (su1 := su1) (mx1 := mx1) (ta1 := ta1) (tl1 := tl1) (tc1 := tc1) (ha1 := ha1) (hl1 := hl1) (hc1 := hc1) (a2 := a2) (m2 := m2) (mo2 := mo2) (ev2 := ev2) (su2 := su2) (mx2 := mx2) (ta2 := ta2) (tl2 := tl2) (tc2 := tc2) (ha2 := ha2) (hl2 := hl2) (hc2 := hc2) hh1 ((Below.refl k1.heap.size k1).alloc (Nat.le_refl _) (Obj.cells #[.string ⟨#[]⟩, .string ⟨#[]⟩, .int .i64 0, .int .i64 0, .int .i64 0, .int .i64 0, .slice none 0 0, .nilFunc, .nilFunc, .slice none 0 0, .nilFunc, .nilFunc] 74))
        have ptY_2 := ptY_1.below ((Below.refl k1.heap.size k1).alloc (Nat.le_refl _) (Obj.cells #[.string ⟨#[]⟩, .string ⟨#[]⟩, .int .i64 0, .int .i64 0, .int .i64 0, .int .i64 0, .slice none 0 0, .nilFunc, .nilFunc, .slice none 0 0, .nilFunc, .nilFunc] 74))
        have ptX_2 : EvtR.Pt k1.heap.size 12 (k1.alloc (Obj.cells #[.string ⟨#[]⟩, .string ⟨#[]⟩, .int .i64 0, .int .i64 0, .int .i64 0, .int .i64 0, .slice none 0 0, .nilFunc, .nilFunc, .slice none 0 0, .nilFunc, .nilFunc] 74)) := StR.pt_new k1 [.string ⟨#[]⟩, .string ⟨#[]⟩, .int .i64 0, .int .i64 0, .int .i64 0, .int .i64 0, .slice none 0 0, .nilFunc, .nilFunc, .slice none 0 0, .nilFunc, .nilFunc] 74
        refine hK.out _ _ hh2 (fun _ => ?_)
        clear hK K
        try simp only [Act.put, List.setIfInBounds_toArray, List.set_cons_zero, List.set_cons_succ]
        generalize (k1.alloc (Obj.cells #[.string ⟨#[]⟩, .string ⟨#[]⟩, .int .i64 0, .int .i64 0, .int .i64 0, .int .i64 0, .slice none 0 0, .nilFunc, .nilFunc, .slice none 0 0, .nilFunc, .nilFunc] 74)) = k2 at *
        refine wpAnyH_ready (rs := [1]) (by kernel_rfl) (by simp) ?_
        refine AllReadyH.cons (o := { dst := some 9, op := Op.call { callee := Callee.value (Operand.func 35), args := #[Operand.tmp 8], argTypes := #[29] }, type := 74, pos := "l07_window.go:262", after := #[{ on := 0, ground := Ground.data }], guard := none }) rfl (fun K hK => ?_) AllReadyH.nil
        go_simp
        go_at_call 35
        refine (HUA.out _).mono ?_
        rintro e t3 ⟨rfl, hq3⟩
        try go_wp2_with fail
        have hh3 := JX.below (W0 := W0) (bA := w.heap.size) (bB := w.heap.size + 1) (bR := w.heap.size + 1 + 1) (a1 := a1) (m1 := m1) (mo1 := mo1) (ev1 := ev1) (su1 := su1) (mx1 := mx1) (ta1 := ta1) (tl1 := tl1) (tc1 := tc1) (ha1 := ha1) (hl1 := hl1) (hc1 := hc1) (a2 := a2) (m2 := m2) (mo2 := mo2) (ev2 := ev2) (su2 := su2) (mx2 := mx2) (ta2 := ta2) (tl2 := tl2) (tc2 := tc2) (ha2 := ha2) (hl2 := hl2) (hc2 := hc2) hh2 hq3
        have ptY_3 := ptY_2.below hq3
        have ptX_3 := ptX_2.below hq3
        refine hK.out _ _ hh3 (fun _ => ?_)
        clear hK K
        try simp only [Act.put, List.setIfInBounds_toArray, List.set_cons_zero, List.set_cons_succ]
        refine wpAnyH_ready (rs := [3]) (by kernel_rfl) (by simp) ?_
        refine AllReadyH.cons (o := { dst := some 11, op := Op.call { callee := Callee.value (Operand.func 35), args := #[Operand.tmp 10], argTypes := #[29] }, type := 74, pos := "l07_window.go:262", after := #[{ on := 2, ground := Ground.data }, { on := 1, ground := Ground.chain }], guard := none }) rfl (fun K hK => ?_) AllReadyH.nil
        go_simp
        go_at_call 35
        refine (HUB.out _).mono ?_
        rintro e t4 ⟨rfl, hq4⟩
        try go_wp2_with fail
        have hh4 := JX.below (W0 := W0) (bA := w.heap.size) (bB := w.heap.size + 1) (bR := w.heap.size + 1 + 1) (a1 := a1) (m1 := m1) (mo1 := mo1) (ev1 := ev1) (su1 := su1) (mx1 := mx1) (ta1 := ta1) (tl1 := tl1) (tc1 := tc1) (ha1 := ha1) (hl1 := hl1) (hc1 := hc1) (a2 := a2) (m2 := m2) (mo2 := mo2) (ev2 := ev2) (su2 := su2) (mx2 := mx2) (ta2 := ta2) (tl2 := tl2) (tc2 := tc2) (ha2 := ha2) (hl2 := hl2) (hc2 := hc2) hh3 hq4
        have ptY_4 := ptY_3.below hq4
        have ptX_4 := ptX_3.below hq4
        refine hK.out _ _ hh4 (fun _ => ?_)
        clear hK K
        try simp only [Act.put, List.setIfInBounds_toArray, List.set_cons_zero, List.set_cons_succ]
        refine wpAnyH_ready (rs := [6]) (by kernel_rfl) (by simp) ?_
        refine AllReadyH.cons (o := { dst := none, op := Op.store 74 (Operand.tmp 5) (Operand.tmp 9), type := 0, pos := "l07_window.go:262", after := #[{ on := 4, ground := Ground.data }, { on := 1, ground := Ground.data }, { on := 3, ground := Ground.chain }, { on := 0, ground := Ground.phase }, { on := 1, ground := Ground.phase }, { on := 2, ground := Ground.textOnly Departure.lateStores }, { on := 3, ground := Ground.textOnly Departure.lateStoresUnsure }, { on := 4, ground := Ground.phase }, { on := 5, ground := Ground.phase }], guard := none }) rfl (fun K hK => ?_) AllReadyH.nil
        have zl5 := ptX_4.lt
        obtain ⟨e5_0, u5_0⟩ := ptX_4.has 0 (by omega)
        have w5_0 := ptX_4.free 0 (by omega)
        obtain ⟨e5_1, u5_1⟩ := ptX_4.has 1 (by omega)
        have w5_1 := ptX_4.free 1 (by omega)
        obtain ⟨e5_2, u5_2⟩ := ptX_4.has 2 (by omega)
        have w5_2 := ptX_4.free 2 (by omega)
        obtain ⟨e5_3, u5_3⟩ := ptX_4.has 3 (by omega)
        have w5_3 := ptX_4.free 3 (by omega)
        obtain ⟨e5_4, u5_4⟩ := ptX_4.has 4 (by omega)
        have w5_4 := ptX_4.free 4 (by omega)
        obtain ⟨e5_5, u5_5⟩ := ptX_4.has 5 (by omega)
        have w5_5 := ptX_4.free 5 (by omega)
        obtain ⟨e5_6, u5_6⟩ := ptX_4.has 6 (by omega)
        have w5_6 := ptX_4.free 6 (by omega)
        obtain ⟨e5_7, u5_7⟩ := ptX_4.has 7 (by omega)
        have w5_7 := ptX_4.free 7 (by omega)
        obtain ⟨e5_8, u5_8⟩ := ptX_4.has 8 (by omega)
        have w5_8 := ptX_4.free 8 (by omega)
        obtain ⟨e5_9, u5_9⟩ := ptX_4.has 9 (by omega)
        have w5_9 := ptX_4.free 9 (by omega)
        obtain ⟨e5_10, u5_10⟩ := ptX_4.has 10 (by omega)
        have w5_10 := ptX_4.free 10 (by omega)
        obtain ⟨e5_11, u5_11⟩ := ptX_4.has 11 (by omega)
        have w5_11 := ptX_4.free 11 (by omega)
        go_simp
        try go_wp2_with fail
        have hg5 := StR.stL_grown k1.heap.size [.string a1, .string m1, .int .i64 mo1, .int .i64 ev1, .int .i64 su1, .int .i64 mx1, .slice ta1 tl1 tc1, .func (.func 104) #[] #[], .func (.func 105) #[] #[], .slice ha1 hl1 hc1, .func (.func 106) #[] #[], .func (.func 107) #[] #[]] 0 t4
        have hbX_5 := StR.stL_blk (vs := [.string a1, .string m1, .int .i64 mo1, .int .i64 ev1, .int .i64 su1, .int .i64 mx1, .slice ta1 tl1 tc1, .func (.func 104) #[] #[], .func (.func 105) #[] #[], .slice ha1 hl1 hc1, .func (.func 106) #[] #[], .func (.func 107) #[] #[]]) (W := t4) ptX_4 (by simp)
        have hh5 := JX.grown (W0 := W0) (bA := w.heap.size) (bB := w.heap.size + 1) (bR := w.heap.size + 1 + 1) (a1 := a1) (m1 := m1) (mo1 := mo1) (ev1 := ev1) (su1 := su1) (mx1 := mx1) (ta1 := ta1) (tl1 := tl1) (tc1 := tc1) (ha1 := ha1) (hl1 := hl1) (hc1 := hc1) (a2 := a2) (m2 := m2) (mo2 := mo2) (ev2 := ev2) (su2 := su2) (mx2 := mx2) (ta2 := ta2) (tl2 := tl2) (tc2 := tc2) (ha2 := ha2) (hl2 := hl2) (hc2 := hc2) hh4 hloX a0 b0 r0 hg5
        have ptY_5 := StR.pt_far ptY_4 hg5 hneYX
        simp only [StR.stL, Nat.zero_add, Nat.reduceAdd] at hh5 hg5 hbX_5 ptY_5
        refine hK.out _ _ hh5 (fun _ => ?_)
        clear hK K
        try simp only [Act.put, List.setIfInBounds_toArray, List.set_cons_zero, List.set_cons_succ]
        generalize ((((((((((((t4.setCell ⟨k1.heap.size, 0, none⟩ (.string a1)).setCell ⟨k1.heap.size, 1, none⟩ (.string m1)).setCell ⟨k1.heap.size, 2, none⟩ (.int .i64 mo1)).setCell ⟨k1.heap.size, 3, none⟩ (.int .i64 ev1)).setCell ⟨k1.heap.size, 4, none⟩ (.int .i64 su1)).setCell ⟨k1.heap.size, 5, none⟩ (.int .i64 mx1)).setCell ⟨k1.heap.size, 6, none⟩ (.slice ta1 tl1 tc1)).setCell ⟨k1.heap.size, 7, none⟩ (.func (.func 104) #[] #[])).setCell ⟨k1.heap.size, 8, none⟩ (.func (.func 105) #[] #[])).setCell ⟨k1.heap.size, 9, none⟩ (.slice ha1 hl1 hc1)).setCell ⟨k1.heap.size, 10, none⟩ (.func (.func 106) #[] #[])).setCell ⟨k1.heap.size, 11, none⟩ (.func (.func 107) #[] #[])) = k5 at *
        refine wpAnyH_ready (rs := [7]) (by kernel_rfl) (by simp) ?_
        refine AllReadyH.cons (o := { dst := none, op := Op.store 74 (Operand.tmp 6) (Operand.tmp 11), type := 0, pos := "l07_window.go:262", after := #[{ on := 5, ground := Ground.data }, { on := 3, ground := Ground.data }, { on := 6, ground := Ground.chain }, { on := 0, ground := Ground.phase }, { on := 1, ground := Ground.phase }, { on := 2, ground := Ground.phase }, { on := 3, ground := Ground.phase }, { on := 4, ground := Ground.phase }, { on := 5, ground := Ground.phase }, { on := 6, ground := Ground.phase }], guard := none }) rfl (fun K hK => ?_) AllReadyH.nil
        have zl6 := ptY_5.lt
        obtain ⟨e6_0, u6_0⟩ := ptY_5.has 0 (by omega)
        have w6_0 := ptY_5.free 0 (by omega)
        obtain ⟨e6_1, u6_1⟩ := ptY_5.has 1 (by omega)
        have w6_1 := ptY_5.free 1 (by omega)
        obtain ⟨e6_2, u6_2⟩ := ptY_5.has 2 (by omega)
        have w6_2 := ptY_5.free 2 (by omega)
        obtain ⟨e6_3, u6_3⟩ := ptY_5.has 3 (by omega)
        have w6_3 := ptY_5.free 3 (by omega)
        obtain ⟨e6_4, u6_4⟩ := ptY_5.has 4 (by omega)
        have w6_4 := ptY_5.free 4 (by omega)
        obtain ⟨e6_5, u6_5⟩ := ptY_5.has 5 (by omega)
        have w6_5 := ptY_5.free 5 (by omega)
        obtain ⟨e6_6, u6_6⟩ := ptY_5.has 6 (by omega)
        have w6_6 := ptY_5.free 6 (by omega)
        obtain ⟨e6_7, u6_7⟩ := ptY_5.has 7 (by omega)
        have w6_7 := ptY_5.free 7 (by omega)
        obtain ⟨e6_8, u6_8⟩ := ptY_5.has 8 (by omega)
        have w6_8 := ptY_5.free 8 (by omega)
        obtain ⟨e6_9, u6_9⟩ := ptY_5.has 9 (by omega)
        have w6_9 := ptY_5.free 9 (by omega)
        obtain ⟨e6_10, u6_10⟩ := ptY_5.has 10 (by omega)
        have w6_10 := ptY_5.free 10 (by omega)
        obtain ⟨e6_11, u6_11⟩ := ptY_5.has 11 (by omega)
        have w6_11 := ptY_5.free 11 (by omega)
        go_simp
        try go_wp2_with fail
        have hg6 := StR.stL_grown kd.heap.size [.string a2, .string m2, .int .i64 mo2, .int .i64 ev2, .int .i64 su2, .int .i64 mx2, .slice ta2 tl2 tc2, .func (.func 104) #[] #[], .func (.func 105) #[] #[], .slice ha2 hl2 hc2, .func (.func 106) #[] #[], .func (.func 107) #[] #[]] 0 k5
        have hbY_6 := StR.stL_blk (vs := [.string a2, .string m2, .int .i64 mo2, .int .i64 ev2, .int .i64 su2, .int .i64 mx2, .slice ta2 tl2 tc2, .func (.func 104) #[] #[], .func (.func 105) #[] #[], .slice ha2 hl2 hc2, .func (.func 106) #[] #[], .func (.func 107) #[] #[]]) (W := k5) ptY_5 (by simp)
        have hh6 := JX.grown (W0 := W0) (bA := w.heap.size) (bB := w.heap.size + 1) (bR := w.heap.size + 1 + 1) (a1 := a1) (m1 := m1) (mo1 := mo1) (ev1 := ev1) (su1 := su1) (mx1 := mx1) (ta1 := ta1) (tl1 := tl1) (tc1 := tc1) (ha1 := ha1) (hl1 := hl1) (hc1 := hc1) (a2 := a2) (m2 := m2) (mo2 := mo2) (ev2 := ev2) (su2 := su2) (mx2 := mx2) (ta2 := ta2) (tl2 := tl2) (tc2 := tc2) (ha2 := ha2) (hl2 := hl2) (hc2 := hc2) hh5 hloY a0 b0 r0 hg6
        have blkX_6 := StR.blk_far hbX_5 hg6 (fun e => hneYX e.symm)
        simp only [StR.stL, Nat.zero_add, Nat.reduceAdd] at hh6 hg6 hbY_6 blkX_6
        refine hK.out _ _ hh6 (fun _ => ?_)
        clear hK K
        try simp only [Act.put, List.setIfInBounds_toArray, List.set_cons_zero, List.set_cons_succ]
        generalize ((((((((((((k5.setCell ⟨kd.heap.size, 0, none⟩ (.string a2)).setCell ⟨kd.heap.size, 1, none⟩ (.string m2)).setCell ⟨kd.heap.size, 2, none⟩ (.int .i64 mo2)).setCell ⟨kd.heap.size, 3, none⟩ (.int .i64 ev2)).setCell ⟨kd.heap.size, 4, none⟩ (.int .i64 su2)).setCell ⟨kd.heap.size, 5, none⟩ (.int .i64 mx2)).setCell ⟨kd.heap.size, 6, none⟩ (.slice ta2 tl2 tc2)).setCell ⟨kd.heap.size, 7, none⟩ (.func (.func 104) #[] #[])).setCell ⟨kd.heap.size, 8, none⟩ (.func (.func 105) #[] #[])).setCell ⟨kd.heap.size, 9, none⟩ (.slice ha2 hl2 hc2)).setCell ⟨kd.heap.size, 10, none⟩ (.func (.func 106) #[] #[])).setCell ⟨kd.heap.size, 11, none⟩ (.func (.func 107) #[] #[])) = k6 at *
        refine wpAnyH_done (by kernel_rfl) ?_ _
        have HBX := hid_intro blkX_6
        have HBY := hid_intro hbY_6
        have HE := hid_intro (show JX W0 w.heap.size (w.heap.size + 1) (w.heap.size + 1 + 1) a1 m1 mo1 ev1 su1 mx1 ta1 tl1 tc1 ha1 hl1 hc1 a2 m2 mo2 ev2 su2 mx2 ta2 tl2 tc2 ha2 hl2 hc2 k6 from hh6)
        try clear u6_11
        try clear u6_10
        try clear u6_9
        try clear u6_8
        try clear u6_7
        try clear u6_6
        try clear u6_5
        try clear u6_4
        try clear u6_3
        try clear u6_2
        try clear u6_1
        try clear u6_0
        try clear blkX_6
        try clear hh6
        try clear hbY_6
        try clear hg6
        try clear w6_11
        try clear w6_10
        try clear w6_9
        try clear w6_8
        try clear w6_7
        try clear w6_6
        try clear w6_5
        try clear w6_4
        try clear w6_3
        try clear w6_2
        try clear w6_1
        try clear w6_0
        try clear zl6
        try clear u5_11
        try clear u5_10
        try clear u5_9
        try clear u5_8
        try clear u5_7
        try clear u5_6
        try clear u5_5
        try clear u5_4
        try clear u5_3
        try clear u5_2
        try clear u5_1
        try clear u5_0
        try clear ptY_5
        try clear hh5
        try clear hbX_5
        try clear hg5
        try clear w5_11
        try clear w5_10
        try clear w5_9
        try clear w5_8
        try clear w5_7
        try clear w5_6
        try clear w5_5
        try clear w5_4
        try clear w5_3
        try clear w5_2
        try clear w5_1
        try clear w5_0
        try clear zl5
        try clear hq4
        try clear ptX_4
        try clear ptY_4
        try clear hh4
        try clear hq3
        try clear ptX_3
        try clear ptY_3
        try clear hh3
        try clear ptX_2
        try clear ptY_2
        try clear hh2
        try clear hloX
        try clear hneYX
        try clear ptY_1
        try clear hh1
        try clear hloY
        go_wp2_with fail
        go_meet
        case rel => exact ⟨_, _, rfl, rfl, HBX, HBY, HE⟩
  case rest =>
    obtain ⟨bX, bY, rfl, rfl, HBX, HBY, HE⟩ := hcut
    clear HX0 HX1 HUA HUB HW
    have HBW := hid_intro (HB0.out.trans (HE.out.1.mono HB0.out.size))
    have x0 : wc.cell? ⟨bX, 0, none⟩ = some (.string a1) := HBX.out.2 0 (by simp)
    have x1 : wc.cell? ⟨bX, 1, none⟩ = some (.string m1) := HBX.out.2 1 (by simp)
    have x2 : wc.cell? ⟨bX, 2, none⟩ = some (.int .i64 mo1) := HBX.out.2 2 (by simp)
    have x3 : wc.cell? ⟨bX, 3, none⟩ = some (.int .i64 ev1) := HBX.out.2 3 (by simp)
    have x4 : wc.cell? ⟨bX, 4, none⟩ = some (.int .i64 su1) := HBX.out.2 4 (by simp)
    have x5 : wc.cell? ⟨bX, 5, none⟩ = some (.int .i64 mx1) := HBX.out.2 5 (by simp)
    have x6 : wc.cell? ⟨bX, 6, none⟩ = some (.slice ta1 tl1 tc1) := HBX.out.2 6 (by simp)
    have x7 : wc.cell? ⟨bX, 7, none⟩ = some (.func (.func 104) #[] #[]) := HBX.out.2 7 (by simp)
    have x8 : wc.cell? ⟨bX, 8, none⟩ = some (.func (.func 105) #[] #[]) := HBX.out.2 8 (by simp)
    have x9 : wc.cell? ⟨bX, 9, none⟩ = some (.slice ha1 hl1 hc1) := HBX.out.2 9 (by simp)
    have x10 : wc.cell? ⟨bX, 10, none⟩ = some (.func (.func 106) #[] #[]) := HBX.out.2 10 (by simp)
    have x11 : wc.cell? ⟨bX, 11, none⟩ = some (.func (.func 107) #[] #[]) := HBX.out.2 11 (by simp)
    have lx := HBX.out.1
    cases r1
    · go_wp2_with fail
      refine (HR1.out _ HBW.out).mono ?_
      rintro e w1 ⟨rfl, hb1⟩
      have HB1 := hid_intro (HBW.out.trans (hb1.mono HBW.out.size))
      have HE1 := hid_intro (HE.out.below hb1)
      clear hb1 HE
      clear x0 x1 x2 x3 x4 x5 x6 x7 x8 x9 x10 x11 lx
      have hp9 := HE1.out.pt
      have hl9 := hp9.lt
      obtain ⟨o0, r0⟩ := hp9.has 0 (by omega)
      have f0 := hp9.free 0 (by omega)
      obtain ⟨o1, r1⟩ := hp9.has 1 (by omega)
      have f1 := hp9.free 1 (by omega)
      obtain ⟨o2, r2⟩ := hp9.has 2 (by omega)
      have f2 := hp9.free 2 (by omega)
      obtain ⟨o3, r3⟩ := hp9.has 3 (by omega)
      have f3 := hp9.free 3 (by omega)
      obtain ⟨o4, r4⟩ := hp9.has 4 (by omega)
      have f4 := hp9.free 4 (by omega)
      obtain ⟨o5, r5⟩ := hp9.has 5 (by omega)
      have f5 := hp9.free 5 (by omega)
      obtain ⟨o6, r6⟩ := hp9.has 6 (by omega)
      have f6 := hp9.free 6 (by omega)
      obtain ⟨o7, r7⟩ := hp9.has 7 (by omega)
      have f7 := hp9.free 7 (by omega)
      obtain ⟨o8, r8⟩ := hp9.has 8 (by omega)
      have f8 := hp9.free 8 (by omega)
      have hgf := StR.stL_grown (w.heap.size + 1 + 1) [.string ⟨#[]⟩, .string ⟨#[]⟩, .int .i64 0, .int .i64 0, .int .i64 0, .int .i64 0, .slice none 0 0, .slice none 0 0, .int .i64 1] 0 w1
      have HBF := hid_intro (HB1.out.grown hgf HB1.out.size (fun k e => by simp only [Option.some.injEq] at e; omega))
      have HGF := hid_intro hgf
      simp only [StR.stL, Nat.zero_add, Nat.reduceAdd] at HBF HGF
      clear hgf hp9
      go_wp2_with fail
      refine bodyPost_ret (v := .agg #[.string ⟨#[]⟩, .string ⟨#[]⟩, .int .i64 0, .int .i64 0, .int .i64 0, .int .i64 0, .slice none 0 0, .slice none 0 0, .int .i64 1]) (by simp [results, Tryd.results10, go_sem, r0, r1, r2, r3, r4, r5, r6, r7, r8]) rfl ⟨.inl ⟨rfl, rfl⟩, HBF.out⟩
    go_wp2_with fail
    refine (HR1.out _ HBW.out).mono ?_
    rintro e w1 ⟨rfl, hb1⟩
    have HB1 := hid_intro (HBW.out.trans (hb1.mono HBW.out.size))
    have HE1 := hid_intro (HE.out.below hb1)
    have HX1' := hid_intro (HBX.out.below hb1)
    have HY1' := hid_intro (HBY.out.below hb1)
    clear hb1 HE HBX HBY HBW
    clear x0 x1 x2 x3 x4 x5 x6 x7 x8 x9 x10 x11 lx
    have y0 : w1.cell? ⟨bY, 0, none⟩ = some (.string a2) := HY1'.out.2 0 (by simp)
    have y1 : w1.cell? ⟨bY, 1, none⟩ = some (.string m2) := HY1'.out.2 1 (by simp)
    have y2 : w1.cell? ⟨bY, 2, none⟩ = some (.int .i64 mo2) := HY1'.out.2 2 (by simp)
    have y3 : w1.cell? ⟨bY, 3, none⟩ = some (.int .i64 ev2) := HY1'.out.2 3 (by simp)
    have y4 : w1.cell? ⟨bY, 4, none⟩ = some (.int .i64 su2) := HY1'.out.2 4 (by simp)
    have y5 : w1.cell? ⟨bY, 5, none⟩ = some (.int .i64 mx2) := HY1'.out.2 5 (by simp)
    have y6 : w1.cell? ⟨bY, 6, none⟩ = some (.slice ta2 tl2 tc2) := HY1'.out.2 6 (by simp)
    have y7 : w1.cell? ⟨bY, 7, none⟩ = some (.func (.func 104) #[] #[]) := HY1'.out.2 7 (by simp)
    have y8 : w1.cell? ⟨bY, 8, none⟩ = some (.func (.func 105) #[] #[]) := HY1'.out.2 8 (by simp)
    have y9 : w1.cell? ⟨bY, 9, none⟩ = some (.slice ha2 hl2 hc2) := HY1'.out.2 9 (by simp)
    have y10 : w1.cell? ⟨bY, 10, none⟩ = some (.func (.func 106) #[] #[]) := HY1'.out.2 10 (by simp)
    have y11 : w1.cell? ⟨bY, 11, none⟩ = some (.func (.func 107) #[] #[]) := HY1'.out.2 11 (by simp)
    have ly := HY1'.out.1
    cases r2
    · go_wp2_with fail
      refine (HR2.out _ HB1.out).mono ?_
      rintro e w2 ⟨rfl, hb2⟩
      have HB2 := hid_intro (HB1.out.trans (hb2.mono HB1.out.size))
      have HE2 := hid_intro (HE1.out.below hb2)
      clear hb2 HE1
      clear y0 y1 y2 y3 y4 y5 y6 y7 y8 y9 y10 y11 ly
      have hp9 := HE2.out.pt
      have hl9 := hp9.lt
      obtain ⟨o0, r0⟩ := hp9.has 0 (by omega)
      have f0 := hp9.free 0 (by omega)
      obtain ⟨o1, r1⟩ := hp9.has 1 (by omega)
      have f1 := hp9.free 1 (by omega)
      obtain ⟨o2, r2⟩ := hp9.has 2 (by omega)
      have f2 := hp9.free 2 (by omega)
      obtain ⟨o3, r3⟩ := hp9.has 3 (by omega)
      have f3 := hp9.free 3 (by omega)
      obtain ⟨o4, r4⟩ := hp9.has 4 (by omega)
      have f4 := hp9.free 4 (by omega)
      obtain ⟨o5, r5⟩ := hp9.has 5 (by omega)
      have f5 := hp9.free 5 (by omega)
      obtain ⟨o6, r6⟩ := hp9.has 6 (by omega)
      have f6 := hp9.free 6 (by omega)
      obtain ⟨o7, r7⟩ := hp9.has 7 (by omega)
      have f7 := hp9.free 7 (by omega)
      obtain ⟨o8, r8⟩ := hp9.has 8 (by omega)
      have f8 := hp9.free 8 (by omega)
      have hgf := StR.stL_grown (w.heap.size + 1 + 1) [.string ⟨#[]⟩, .string ⟨#[]⟩, .int .i64 0, .int .i64 0, .int .i64 0, .int .i64 0, .slice none 0 0, .slice none 0 0, .int .i64 1] 0 w2
      have HBF := hid_intro (HB2.out.grown hgf HB2.out.size (fun k e => by simp only [Option.some.injEq] at e; omega))
      have HGF := hid_intro hgf
      simp only [StR.stL, Nat.zero_add, Nat.reduceAdd] at HBF HGF
      clear hgf hp9
      go_wp2_with fail
      refine bodyPost_ret (v := .agg #[.string ⟨#[]⟩, .string ⟨#[]⟩, .int .i64 0, .int .i64 0, .int .i64 0, .int .i64 0, .slice none 0 0, .slice none 0 0, .int .i64 1]) (by simp [results, Tryd.results10, go_sem, r0, r1, r2, r3, r4, r5, r6, r7, r8]) rfl ⟨.inl ⟨rfl, rfl⟩, HBF.out⟩
    go_wp2_with fail
    refine (HR2.out _ HB1.out).mono ?_
    rintro e w2 ⟨rfl, hb2⟩
    have HB2 := hid_intro (HB1.out.trans (hb2.mono HB1.out.size))
    have HE2 := hid_intro (HE1.out.below hb2)
    have HX2 := hid_intro (HX1'.out.below hb2)
    have HY2 := hid_intro (HY1'.out.below hb2)
    clear hb2 HE1 HX1' HY1' HB1 HR1 HR2
    clear y0 y1 y2 y3 y4 y5 y6 y7 y8 y9 y10 y11 ly
    have x0 : w2.cell? ⟨bX, 0, none⟩ = some (.string a1) := HX2.out.2 0 (by simp)
    have x1 : w2.cell? ⟨bX, 1, none⟩ = some (.string m1) := HX2.out.2 1 (by simp)
    have x2 : w2.cell? ⟨bX, 2, none⟩ = some (.int .i64 mo1) := HX2.out.2 2 (by simp)
    have x3 : w2.cell? ⟨bX, 3, none⟩ = some (.int .i64 ev1) := HX2.out.2 3 (by simp)
    have x4 : w2.cell? ⟨bX, 4, none⟩ = some (.int .i64 su1) := HX2.out.2 4 (by simp)
    have x5 : w2.cell? ⟨bX, 5, none⟩ = some (.int .i64 mx1) := HX2.out.2 5 (by simp)
    have x6 : w2.cell? ⟨bX, 6, none⟩ = some (.slice ta1 tl1 tc1) := HX2.out.2 6 (by simp)
    have x7 : w2.cell? ⟨bX, 7, none⟩ = some (.func (.func 104) #[] #[]) := HX2.out.2 7 (by simp)
    have x8 : w2.cell? ⟨bX, 8, none⟩ = some (.func (.func 105) #[] #[]) := HX2.out.2 8 (by simp)
    have x9 : w2.cell? ⟨bX, 9, none⟩ = some (.slice ha1 hl1 hc1) := HX2.out.2 9 (by simp)
    have x10 : w2.cell? ⟨bX, 10, none⟩ = some (.func (.func 106) #[] #[]) := HX2.out.2 10 (by simp)
    have x11 : w2.cell? ⟨bX, 11, none⟩ = some (.func (.func 107) #[] #[]) := HX2.out.2 11 (by simp)
    have lx := HX2.out.1
    have y0 : w2.cell? ⟨bY, 0, none⟩ = some (.string a2) := HY2.out.2 0 (by simp)
    have y1 : w2.cell? ⟨bY, 1, none⟩ = some (.string m2) := HY2.out.2 1 (by simp)
    have y2 : w2.cell? ⟨bY, 2, none⟩ = some (.int .i64 mo2) := HY2.out.2 2 (by simp)
    have y3 : w2.cell? ⟨bY, 3, none⟩ = some (.int .i64 ev2) := HY2.out.2 3 (by simp)
    have y4 : w2.cell? ⟨bY, 4, none⟩ = some (.int .i64 su2) := HY2.out.2 4 (by simp)
    have y5 : w2.cell? ⟨bY, 5, none⟩ = some (.int .i64 mx2) := HY2.out.2 5 (by simp)
    have y6 : w2.cell? ⟨bY, 6, none⟩ = some (.slice ta2 tl2 tc2) := HY2.out.2 6 (by simp)
    have y7 : w2.cell? ⟨bY, 7, none⟩ = some (.func (.func 104) #[] #[]) := HY2.out.2 7 (by simp)
    have y8 : w2.cell? ⟨bY, 8, none⟩ = some (.func (.func 105) #[] #[]) := HY2.out.2 8 (by simp)
    have y9 : w2.cell? ⟨bY, 9, none⟩ = some (.slice ha2 hl2 hc2) := HY2.out.2 9 (by simp)
    have y10 : w2.cell? ⟨bY, 10, none⟩ = some (.func (.func 106) #[] #[]) := HY2.out.2 10 (by simp)
    have y11 : w2.cell? ⟨bY, 11, none⟩ = some (.func (.func 107) #[] #[]) := HY2.out.2 11 (by simp)
    have ly := HY2.out.1
    have HWJ := hid_intro (HWI.out (by simp) (by simp))
    clear HWI
    by_cases hsa : a1 = a2
    rotate_left
    · have na : a1.toList ≠ a2.toList := fun q => hsa (LtR.toList_inj q)
      have na2 : (a1.toList == a2.toList) = false := by simpa using na
      have HSN : Hid (¬ (a1 = a2 ∧ m1 = m2 ∧ mo1 = mo2)) := hid_intro (fun q => hsa q.1)
      have hp9 := HE2.out.pt
      have hl9 := hp9.lt
      obtain ⟨o0, r0⟩ := hp9.has 0 (by omega)
      have f0 := hp9.free 0 (by omega)
      obtain ⟨o1, r1⟩ := hp9.has 1 (by omega)
      have f1 := hp9.free 1 (by omega)
      obtain ⟨o2, r2⟩ := hp9.has 2 (by omega)
      have f2 := hp9.free 2 (by omega)
      obtain ⟨o3, r3⟩ := hp9.has 3 (by omega)
      have f3 := hp9.free 3 (by omega)
      obtain ⟨o4, r4⟩ := hp9.has 4 (by omega)
      have f4 := hp9.free 4 (by omega)
      obtain ⟨o5, r5⟩ := hp9.has 5 (by omega)
      have f5 := hp9.free 5 (by omega)
      obtain ⟨o6, r6⟩ := hp9.has 6 (by omega)
      have f6 := hp9.free 6 (by omega)
      obtain ⟨o7, r7⟩ := hp9.has 7 (by omega)
      have f7 := hp9.free 7 (by omega)
      obtain ⟨o8, r8⟩ := hp9.has 8 (by omega)
      have f8 := hp9.free 8 (by omega)
      have hgf := StR.stL_grown (w.heap.size + 1 + 1) [.string ⟨#[]⟩, .string ⟨#[]⟩, .int .i64 0, .int .i64 0, .int .i64 0, .int .i64 0, .slice none 0 0, .slice none 0 0, .int .i64 10] 0 w2
      have HBF := hid_intro (HB2.out.grown hgf HB2.out.size (fun k e => by simp only [Option.some.injEq] at e; omega))
      have HGF := hid_intro hgf
      simp only [StR.stL, Nat.zero_add, Nat.reduceAdd] at HBF HGF
      clear hgf hp9
      go_wp2_with fail
      refine bodyPost_ret (v := .agg #[.string ⟨#[]⟩, .string ⟨#[]⟩, .int .i64 0, .int .i64 0, .int .i64 0, .int .i64 0, .slice none 0 0, .slice none 0 0, .int .i64 10]) (by simp [results, Tryd.results10, go_sem, r0, r1, r2, r3, r4, r5, r6, r7, r8]) rfl ⟨.inr (.inl ⟨rfl, (by first | exact HSN.out | (simp; done) | simpa using HSN.out), rfl⟩), HBF.out⟩
    subst hsa
    by_cases hsb : m1 = m2
    rotate_left
    · have na : m1.toList ≠ m2.toList := fun q => hsb (LtR.toList_inj q)
      have na2 : (m1.toList == m2.toList) = false := by simpa using na
      have HSN : Hid (¬ (a1 = a1 ∧ m1 = m2 ∧ mo1 = mo2)) := hid_intro (fun q => hsb q.2.1)
      have hp9 := HE2.out.pt
      have hl9 := hp9.lt
      obtain ⟨o0, r0⟩ := hp9.has 0 (by omega)
      have f0 := hp9.free 0 (by omega)
      obtain ⟨o1, r1⟩ := hp9.has 1 (by omega)
      have f1 := hp9.free 1 (by omega)
      obtain ⟨o2, r2⟩ := hp9.has 2 (by omega)
      have f2 := hp9.free 2 (by omega)
      obtain ⟨o3, r3⟩ := hp9.has 3 (by omega)
      have f3 := hp9.free 3 (by omega)
      obtain ⟨o4, r4⟩ := hp9.has 4 (by omega)
      have f4 := hp9.free 4 (by omega)
      obtain ⟨o5, r5⟩ := hp9.has 5 (by omega)
      have f5 := hp9.free 5 (by omega)
      obtain ⟨o6, r6⟩ := hp9.has 6 (by omega)
      have f6 := hp9.free 6 (by omega)
      obtain ⟨o7, r7⟩ := hp9.has 7 (by omega)
      have f7 := hp9.free 7 (by omega)
      obtain ⟨o8, r8⟩ := hp9.has 8 (by omega)
      have f8 := hp9.free 8 (by omega)
      have hgf := StR.stL_grown (w.heap.size + 1 + 1) [.string ⟨#[]⟩, .string ⟨#[]⟩, .int .i64 0, .int .i64 0, .int .i64 0, .int .i64 0, .slice none 0 0, .slice none 0 0, .int .i64 10] 0 w2
      have HBF := hid_intro (HB2.out.grown hgf HB2.out.size (fun k e => by simp only [Option.some.injEq] at e; omega))
      have HGF := hid_intro hgf
      simp only [StR.stL, Nat.zero_add, Nat.reduceAdd] at HBF HGF
      clear hgf hp9
      go_wp2_with fail
      refine bodyPost_ret (v := .agg #[.string ⟨#[]⟩, .string ⟨#[]⟩, .int .i64 0, .int .i64 0, .int .i64 0, .int .i64 0, .slice none 0 0, .slice none 0 0, .int .i64 10]) (by simp [results, Tryd.results10, go_sem, r0, r1, r2, r3, r4, r5, r6, r7, r8]) rfl ⟨.inr (.inl ⟨rfl, (by first | exact HSN.out | (simp; done) | simpa using HSN.out), rfl⟩), HBF.out⟩
    subst hsb
    by_cases hsc : mo1 = mo2
    rotate_left
    · have na2 : (mo1 == mo2) = false := by simpa using hsc
      have HSN : Hid (¬ (a1 = a1 ∧ m1 = m1 ∧ mo1 = mo2)) := hid_intro (fun q => hsc q.2.2)
      have hp9 := HE2.out.pt
      have hl9 := hp9.lt
      obtain ⟨o0, r0⟩ := hp9.has 0 (by omega)
      have f0 := hp9.free 0 (by omega)
      obtain ⟨o1, r1⟩ := hp9.has 1 (by omega)
      have f1 := hp9.free 1 (by omega)
      obtain ⟨o2, r2⟩ := hp9.has 2 (by omega)
      have f2 := hp9.free 2 (by omega)
      obtain ⟨o3, r3⟩ := hp9.has 3 (by omega)
      have f3 := hp9.free 3 (by omega)
      obtain ⟨o4, r4⟩ := hp9.has 4 (by omega)
      have f4 := hp9.free 4 (by omega)
      obtain ⟨o5, r5⟩ := hp9.has 5 (by omega)
      have f5 := hp9.free 5 (by omega)
      obtain ⟨o6, r6⟩ := hp9.has 6 (by omega)
      have f6 := hp9.free 6 (by omega)
      obtain ⟨o7, r7⟩ := hp9.has 7 (by omega)
      have f7 := hp9.free 7 (by omega)
      obtain ⟨o8, r8⟩ := hp9.has 8 (by omega)
      have f8 := hp9.free 8 (by omega)
      have hgf := StR.stL_grown (w.heap.size + 1 + 1) [.string ⟨#[]⟩, .string ⟨#[]⟩, .int .i64 0, .int .i64 0, .int .i64 0, .int .i64 0, .slice none 0 0, .slice none 0 0, .int .i64 10] 0 w2
      have HBF := hid_intro (HB2.out.grown hgf HB2.out.size (fun k e => by simp only [Option.some.injEq] at e; omega))
      have HGF := hid_intro hgf
      simp only [StR.stL, Nat.zero_add, Nat.reduceAdd] at HBF HGF
      clear hgf hp9
      go_wp2_with fail
      refine bodyPost_ret (v := .agg #[.string ⟨#[]⟩, .string ⟨#[]⟩, .int .i64 0, .int .i64 0, .int .i64 0, .int .i64 0, .slice none 0 0, .slice none 0 0, .int .i64 10]) (by simp [results, Tryd.results10, go_sem, r0, r1, r2, r3, r4, r5, r6, r7, r8]) rfl ⟨.inr (.inl ⟨rfl, (by first | exact HSN.out | (simp; done) | simpa using HSN.out), rfl⟩), HBF.out⟩
    subst hsc
    go_wp2_with fail
    refine (HWJ.out _ HB2.out).mono ?_
    rintro e w3 ⟨ao, cc, ho, hcc, rfl, hT, hH, hb3⟩
    have HB3 := hid_intro ((HB2.out.trans (hb3.mono HB2.out.size)).alloc (HB2.out.trans (hb3.mono HB2.out.size)).size (.cells #[.string a1, .string m1, .int .i64 mo1, .int .i64 EV, .int .i64 SU, .int .i64 MX, .slice ao MT.length cc, .func (.func 104) #[] #[], .func (.func 105) #[] #[], .slice ho MH.length hcc, .func (.func 106) #[] #[], .func (.func 107) #[] #[]] 74))
    have HE3 := hid_intro ((HE2.out.below hb3).below ((Below.refl w3.heap.size w3).alloc (Nat.le_refl _) (.cells #[.string a1, .string m1, .int .i64 mo1, .int .i64 EV, .int .i64 SU, .int .i64 MX, .slice ao MT.length cc, .func (.func 104) #[] #[], .func (.func 105) #[] #[], .slice ho MH.length hcc, .func (.func 106) #[] #[], .func (.func 107) #[] #[]] 74)))
    have HT3 := hid_intro (hT.below ((Below.refl w3.heap.size w3).alloc (Nat.le_refl _) (.cells #[.string a1, .string m1, .int .i64 mo1, .int .i64 EV, .int .i64 SU, .int .i64 MX, .slice ao MT.length cc, .func (.func 104) #[] #[], .func (.func 105) #[] #[], .slice ho MH.length hcc, .func (.func 106) #[] #[], .func (.func 107) #[] #[]] 74)))
    have HH3 := hid_intro (hH.below ((Below.refl w3.heap.size w3).alloc (Nat.le_refl _) (.cells #[.string a1, .string m1, .int .i64 mo1, .int .i64 EV, .int .i64 SU, .int .i64 MX, .slice ao MT.length cc, .func (.func 104) #[] #[], .func (.func 105) #[] #[], .slice ho MH.length hcc, .func (.func 106) #[] #[], .func (.func 107) #[] #[]] 74)))
    have HU3 : Hid (Blk w3.heap.size [.string a1, .string m1, .int .i64 mo1, .int .i64 EV, .int .i64 SU, .int .i64 MX, .slice ao MT.length cc, .func (.func 104) #[] #[], .func (.func 105) #[] #[], .slice ho MH.length hcc, .func (.func 106) #[] #[], .func (.func 107) #[] #[]] (w3.alloc (.cells #[.string a1, .string m1, .int .i64 mo1, .int .i64 EV, .int .i64 SU, .int .i64 MX, .slice ao MT.length cc, .func (.func 104) #[] #[], .func (.func 105) #[] #[], .slice ho MH.length hcc, .func (.func 106) #[] #[], .func (.func 107) #[] #[]] 74))) := hid_intro (Blk.new w3 _ _)
    have HC3 := hid_intro (HR3.out ao cc ho hcc _ (HL.out.below HB3.out) HT3.out HH3.out)
    clear hT hH hb3 HE2 HX2 HY2 HR3
    go_wp2_with fail
    generalize (w3.alloc (.cells #[.string a1, .string m1, .int .i64 mo1, .int .i64 EV, .int .i64 SU, .int .i64 MX, .slice ao MT.length cc, .func (.func 104) #[] #[], .func (.func 105) #[] #[], .slice ho MH.length hcc, .func (.func 106) #[] #[], .func (.func 107) #[] #[]] 74)) = w4 at *
    clear x0 x1 x2 x3 x4 x5 x6 x7 x8 x9 x10 x11 lx
    clear y0 y1 y2 y3 y4 y5 y6 y7 y8 y9 y10 y11 ly
    refine HC3.out.mono ?_
    rintro e w5 ⟨rfl, hb5⟩
    have HB5 := hid_intro (HB3.out.trans (hb5.mono HB3.out.size))
    have HE5 := hid_intro (HE3.out.below hb5)
    have HT5 := hid_intro (HT3.out.below hb5)
    have HH5 := hid_intro (HH3.out.below hb5)
    have HU5 := hid_intro (HU3.out.below hb5)
    clear hb5 HE3 HT3 HH3 HU3 HC3 HB3
    cases r3
    · have hp9 := HE5.out.pt
      have hl9 := hp9.lt
      obtain ⟨o0, r0⟩ := hp9.has 0 (by omega)
      have f0 := hp9.free 0 (by omega)
      obtain ⟨o1, r1⟩ := hp9.has 1 (by omega)
      have f1 := hp9.free 1 (by omega)
      obtain ⟨o2, r2⟩ := hp9.has 2 (by omega)
      have f2 := hp9.free 2 (by omega)
      obtain ⟨o3, r3⟩ := hp9.has 3 (by omega)
      have f3 := hp9.free 3 (by omega)
      obtain ⟨o4, r4⟩ := hp9.has 4 (by omega)
      have f4 := hp9.free 4 (by omega)
      obtain ⟨o5, r5⟩ := hp9.has 5 (by omega)
      have f5 := hp9.free 5 (by omega)
      obtain ⟨o6, r6⟩ := hp9.has 6 (by omega)
      have f6 := hp9.free 6 (by omega)
      obtain ⟨o7, r7⟩ := hp9.has 7 (by omega)
      have f7 := hp9.free 7 (by omega)
      obtain ⟨o8, r8⟩ := hp9.has 8 (by omega)
      have f8 := hp9.free 8 (by omega)
      have hgf := StR.stL_grown (w.heap.size + 1 + 1) [.string ⟨#[]⟩, .string ⟨#[]⟩, .int .i64 0, .int .i64 0, .int .i64 0, .int .i64 0, .slice none 0 0, .slice none 0 0, .int .i64 9] 0 w5
      have HBF := hid_intro (HB5.out.grown hgf HB5.out.size (fun k e => by simp only [Option.some.injEq] at e; omega))
      have HGF := hid_intro hgf
      simp only [StR.stL, Nat.zero_add, Nat.reduceAdd] at HBF HGF
      clear hgf hp9
      go_wp2_with fail
      refine bodyPost_ret (v := .agg #[.string ⟨#[]⟩, .string ⟨#[]⟩, .int .i64 0, .int .i64 0, .int .i64 0, .int .i64 0, .slice none 0 0, .slice none 0 0, .int .i64 9]) (by simp [results, Tryd.results10, go_sem, r0, r1, r2, r3, r4, r5, r6, r7, r8]) rfl ⟨.inr (.inr (.inl ⟨rfl, (by first | exact ⟨rfl, rfl, rfl⟩ | trivial), rfl, rfl⟩)), HBF.out⟩
    have HWN2 := hid_intro (HWN.out (by simp) ao cc ho hcc w5 HT5.out HH5.out)
    have x0 : w5.cell? ⟨w3.heap.size, 0, none⟩ = some (.string a1) := HU5.out.2 0 (by simp)
    have x1 : w5.cell? ⟨w3.heap.size, 1, none⟩ = some (.string m1) := HU5.out.2 1 (by simp)
    have x2 : w5.cell? ⟨w3.heap.size, 2, none⟩ = some (.int .i64 mo1) := HU5.out.2 2 (by simp)
    have x3 : w5.cell? ⟨w3.heap.size, 3, none⟩ = some (.int .i64 EV) := HU5.out.2 3 (by simp)
    have x4 : w5.cell? ⟨w3.heap.size, 4, none⟩ = some (.int .i64 SU) := HU5.out.2 4 (by simp)
    have x5 : w5.cell? ⟨w3.heap.size, 5, none⟩ = some (.int .i64 MX) := HU5.out.2 5 (by simp)
    have x6 : w5.cell? ⟨w3.heap.size, 6, none⟩ = some (.slice ao MT.length cc) := HU5.out.2 6 (by simp)
    have x7 : w5.cell? ⟨w3.heap.size, 7, none⟩ = some (.func (.func 104) #[] #[]) := HU5.out.2 7 (by simp)
    have x8 : w5.cell? ⟨w3.heap.size, 8, none⟩ = some (.func (.func 105) #[] #[]) := HU5.out.2 8 (by simp)
    have x9 : w5.cell? ⟨w3.heap.size, 9, none⟩ = some (.slice ho MH.length hcc) := HU5.out.2 9 (by simp)
    have x10 : w5.cell? ⟨w3.heap.size, 10, none⟩ = some (.func (.func 106) #[] #[]) := HU5.out.2 10 (by simp)
    have x11 : w5.cell? ⟨w3.heap.size, 11, none⟩ = some (.func (.func 107) #[] #[]) := HU5.out.2 11 (by simp)
    have lx := HU5.out.1
    go_wp2_with fail
    refine HWN2.out.mono ?_
    rintro e w6 ⟨v, rfl, hm, hb6⟩
    clear x0 x1 x2 x3 x4 x5 x6 x7 x8 x9 x10 x11 lx
    have hs5 : w.heap.size + 1 + 1 < w5.heap.size := HE5.out.pt.lt
    obtain ⟨ta, tc, ha, hc, rfl, k1, k2, k3⟩ := hm
    have HM6 := hid_intro (show MadeW w5.heap.size z (.agg (wcells z ta tc ha hc)) w6 from ⟨ta, tc, ha, hc, rfl, k1, k2, k3⟩)
    have HB6 := hid_intro (HB5.out.trans (hb6.mono HB5.out.size))
    have HE6 := hid_intro (HE5.out.below hb6)
    clear hb6 k1 k2 k3 HE5 HT5 HH5 HU5 HWN2 HWN
    unfold wcells
    have hp9 := HE6.out.pt
    have hl9 := hp9.lt
    obtain ⟨o0, r0⟩ := hp9.has 0 (by omega)
    have f0 := hp9.free 0 (by omega)
    obtain ⟨o1, r1⟩ := hp9.has 1 (by omega)
    have f1 := hp9.free 1 (by omega)
    obtain ⟨o2, r2⟩ := hp9.has 2 (by omega)
    have f2 := hp9.free 2 (by omega)
    obtain ⟨o3, r3⟩ := hp9.has 3 (by omega)
    have f3 := hp9.free 3 (by omega)
    obtain ⟨o4, r4⟩ := hp9.has 4 (by omega)
    have f4 := hp9.free 4 (by omega)
    obtain ⟨o5, r5⟩ := hp9.has 5 (by omega)
    have f5 := hp9.free 5 (by omega)
    obtain ⟨o6, r6⟩ := hp9.has 6 (by omega)
    have f6 := hp9.free 6 (by omega)
    obtain ⟨o7, r7⟩ := hp9.has 7 (by omega)
    have f7 := hp9.free 7 (by omega)
    obtain ⟨o8, r8⟩ := hp9.has 8 (by omega)
    have f8 := hp9.free 8 (by omega)
    have hgf := StR.stL_grown (w.heap.size + 1 + 1) [.string z.a, .string z.m, .int .i64 z.mo, .int .i64 z.ev, .int .i64 z.su, .int .i64 z.mx, .slice ta z.ts.length tc, .slice ha z.hs.length hc, .int .i64 0] 0 w6
    have HBF := hid_intro (HB6.out.grown hgf HB6.out.size (fun k e => by simp only [Option.some.injEq] at e; omega))
    have HGF := hid_intro hgf
    simp only [StR.stL, Nat.zero_add, Nat.reduceAdd] at HBF HGF
    clear hgf hp9
    go_wp2_with fail
    refine bodyPost_ret (v := .agg #[.string z.a, .string z.m, .int .i64 z.mo, .int .i64 z.ev, .int .i64 z.su, .int .i64 z.mx, .slice ta z.ts.length tc, .slice ha z.hs.length hc, .int .i64 0]) (by simp [results, Tryd.results10, go_sem, r0, r1, r2, r3, r4, r5, r6, r7, r8]) rfl ⟨.inr (.inr (.inr ⟨rfl, (by first | exact ⟨rfl, rfl, rfl⟩ | trivial), rfl, .agg (wcells z ta tc ha hc), rfl, (HM6.out.far HGF.out hs5).low HB5.out.size⟩)), HBF.out⟩
end WinR
end Go.Proofs.YtmeemmbpkjfleaaDoor
