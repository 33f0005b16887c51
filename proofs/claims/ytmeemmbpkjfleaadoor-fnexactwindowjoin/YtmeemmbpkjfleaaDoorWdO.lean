/-
  What WindowJoin and WindowAdd hand back: held against each other, marked, looked at. The condition: lists of at most 1048576.
-/
import Derived.Test.YtmeemmbpkjfleaaDoorJnZ
namespace Go.Proofs.YtmeemmbpkjfleaaDoor
open Go.ChangeShapes Go.WideShapes Go.ChangeAt Go.RowKit
set_option linter.unusedVariables false
namespace WinR
open RowG (MadeG Rws)
open EvtR (Pt)
open CatR (Blk Blk.new)
def IsO (v : Value) (z : Wd) (cd : Int) (w : World) : Prop := ∃ ta tc ha hc, v = .agg (ocells z ta tc ha hc cd) ∧ Tgs ta z.ts w ∧ Hrs ha z.hs w
theorem IsO.below {v : Value} {z : Wd} {cd : Int} {w w' : World} (h : IsO v z cd w) (hb : Below w.heap.size w w') : IsO v z cd w' := by
  obtain ⟨ta, tc, ha, hc, e, h1, h2⟩ := h
  exact ⟨ta, tc, ha, hc, e, h1.below hb, h2.below hb⟩
theorem NewO.is {base : Nat} {z : Wd} {cd : Int} {v : Value} {w : World} (h : NewO base z cd v w) : IsO v z cd w := by
  obtain ⟨ta, tc, ha, hc, e, h1, h2, _⟩ := h
  exact ⟨ta, tc, ha, hc, e, h1, h2⟩
theorem MadeO.is {base : Nat} {z : Wd} {cd : Int} {v : Value} {w : World} (h : MadeO base z cd v w) : IsO v z cd w := by
  obtain ⟨ta, tc, ha, hc, e, h1, h2, _⟩ := h
  exact ⟨ta, tc, ha, hc, e, h1.rws, h2.rws⟩
set_option maxRecDepth 100000 in
set_option maxHeartbeats 8000000 in
theorem eqO_in (a m : ByteArray) (mo ev su mx cd : Int) (ta : Option Addr) (tl tc : Nat) (ha : Option Addr) (hl hc : Nat) (ta' : Option Addr) (tc' : Nat) (ha' : Option Addr) (hc' : Nat) (w : World)
    (hE : ∀ W, Below w.heap.size w W → Calls Tryd.prog 12 #[.agg #[.string a, .string m, .int .i64 mo, .int .i64 ev, .int .i64 su, .int .i64 mx, .slice ta tl tc, .slice ha hl hc], .agg #[.string a, .string m, .int .i64 mo, .int .i64 ev, .int .i64 su, .int .i64 mx, .slice ta' tl tc', .slice ha' hl hc']] W fun e w' => e = .returned (.bool true) ∧ Below W.heap.size W w') :
    Calls Tryd.prog 11 #[.agg #[.string a, .string m, .int .i64 mo, .int .i64 ev, .int .i64 su, .int .i64 mx, .slice ta tl tc, .slice ha hl hc, .int .i64 cd], .agg #[.string a, .string m, .int .i64 mo, .int .i64 ev, .int .i64 su, .int .i64 mx, .slice ta' tl tc', .slice ha' hl hc', .int .i64 cd]] w fun e w' => e = .returned (.bool true) ∧ Below w.heap.size w w' := by
  have HE := hid_intro hE
  clear hE
  have HA0 : Hid (Below w.heap.size w ((w.alloc (.cells #[.string a, .string m, .int .i64 mo, .int .i64 ev, .int .i64 su, .int .i64 mx, .slice ta tl tc, .slice ha hl hc, .int .i64 cd] 31)).alloc (.cells #[.string a, .string m, .int .i64 mo, .int .i64 ev, .int .i64 su, .int .i64 mx, .slice ta' tl tc', .slice ha' hl hc', .int .i64 cd] 31))) := hid_intro (((Below.refl _ _).alloc (by simp; try omega) _).alloc (by simp; try omega) _)
  have HX0 := hid_intro ((Blk.new w [.string a, .string m, .int .i64 mo, .int .i64 ev, .int .i64 su, .int .i64 mx, .slice ta tl tc, .slice ha hl hc, .int .i64 cd] 31).below ((Below.refl _ _).alloc (Nat.le_refl _) (.cells #[.string a, .string m, .int .i64 mo, .int .i64 ev, .int .i64 su, .int .i64 mx, .slice ta' tl tc', .slice ha' hl hc', .int .i64 cd] 31)))
  have HY0 := hid_intro (Blk.new (w.alloc (.cells #[.string a, .string m, .int .i64 mo, .int .i64 ev, .int .i64 su, .int .i64 mx, .slice ta tl tc, .slice ha hl hc, .int .i64 cd] 31)) [.string a, .string m, .int .i64 mo, .int .i64 ev, .int .i64 su, .int .i64 mx, .slice ta' tl tc', .slice ha' hl hc', .int .i64 cd] 31)
  have e1 : (w.alloc (.cells #[.string a, .string m, .int .i64 mo, .int .i64 ev, .int .i64 su, .int .i64 mx, .slice ta tl tc, .slice ha hl hc, .int .i64 cd] 31)).heap.size = w.heap.size + 1 := by simp
  rw [e1] at HY0
  clear e1
  go_enter Tryd.func11, Tryd.ntmps11
  go_wp2_with fail
  refine (HE.out _ HA0.out).mono ?_
  rintro e w1 ⟨rfl, hb1⟩
  have HB1 := hid_intro (HA0.out.trans (hb1.mono HA0.out.size))
  have hx := HX0.out.below hb1
  have hy := HY0.out.below hb1
  have x8 : w1.cell? ⟨w.heap.size, 8, none⟩ = some (.int .i64 cd) := hx.2 8 (by simp)
  have y8 : w1.cell? ⟨w.heap.size + 1, 8, none⟩ = some (.int .i64 cd) := hy.2 8 (by simp)
  have xl := hx.1
  have yl := hy.1
  clear hx hy hb1 HX0 HY0 HA0
  go_wp2_with fail
  go_ret
  exact ⟨rfl, HB1.out⟩
theorem eqO_any (v v' : Value) (z : Wd) (cd : Int) (w : World) (lt : z.ts.length ≤ 1048576) (lh : z.hs.length ≤ 1048576) (h : IsO v z cd w) (h' : IsO v' z cd w) :
    Calls Tryd.prog 11 #[v, v'] w fun e w' => e = .returned (.bool true) ∧ Below w.heap.size w w' := by
  obtain ⟨ta, tc, ha, hc, rfl, h1, h2⟩ := h
  obtain ⟨ta', tc', ha', hc', rfl, h1', h2'⟩ := h'
  exact eqO_in z.a z.m z.mo z.ev z.su z.mx cd ta z.ts.length tc ha z.hs.length hc ta' tc' ha' hc' w (fun W hW => eqW_any _ _ z W lt lh ⟨ta, tc, ha, hc, rfl, h1.below hW, h2.below hW⟩ ⟨ta', tc', ha', hc', rfl, h1'.below hW, h2'.below hW⟩)
set_option maxRecDepth 100000 in
set_option maxHeartbeats 8000000 in
theorem markO_in (D : World → Prop) (a m : ByteArray) (mo ev su mx cd Q : Int) (ta : Option Addr) (tl tc : Nat) (ha : Option Addr) (hl hc base top : Nat) (w : World)
    (hG : ∀ W, Below w.heap.size w W → Calls Tryd.prog 13 #[.agg #[.string a, .string m, .int .i64 mo, .int .i64 ev, .int .i64 su, .int .i64 mx, .slice ta tl tc, .slice ha hl hc], .int .i64 1] W fun e w' => e = .returned (.int .i64 Q) ∧ D w' ∧ Outs base top W w') :
    Calls Tryd.prog 14 #[.agg #[.string a, .string m, .int .i64 mo, .int .i64 ev, .int .i64 su, .int .i64 mx, .slice ta tl tc, .slice ha hl hc, .int .i64 cd], .int .i64 1] w fun e w' => e = .returned (.int .i64 Q) ∧ D w' ∧ Outs base top w w' := by
  have HG := hid_intro hG
  clear hG
  have HA0 : Hid (Below w.heap.size w (w.alloc (.cells #[.string a, .string m, .int .i64 mo, .int .i64 ev, .int .i64 su, .int .i64 mx, .slice ta tl tc, .slice ha hl hc, .int .i64 cd] 31))) := hid_intro ((Below.refl _ _).alloc (Nat.le_refl _) _)
  go_enter Tryd.func14, Tryd.ntmps14
  go_wp2_with fail
  refine (HG.out _ HA0.out).mono ?_
  rintro e w1 ⟨rfl, hD, ho⟩
  have HD := hid_intro hD
  have HO := hid_intro (((Outs.refl base top w).below HA0.out).trans ho)
  clear hD ho
  go_wp2_with fail
  go_ret
  exact ⟨rfl, HD.out, HO.out⟩
set_option maxRecDepth 100000 in
set_option maxHeartbeats 8000000 in
theorem heldO_in (a m : ByteArray) (mo ev su mx cd Q : Int) (hQ : ¬ Q < 0) (ta : Option Addr) (tl tc : Nat) (ha : Option Addr) (hl hc : Nat) (w : World)
    (hG : ∀ W, Below w.heap.size w W → Calls Tryd.prog 43 #[.agg #[.string a, .string m, .int .i64 mo, .int .i64 ev, .int .i64 su, .int .i64 mx, .slice ta tl tc, .slice ha hl hc], .int .i64 1] W fun e w' => e = .returned (.int .i64 Q) ∧ Below W.heap.size W w') :
    Calls Tryd.prog 15 #[.agg #[.string a, .string m, .int .i64 mo, .int .i64 ev, .int .i64 su, .int .i64 mx, .slice ta tl tc, .slice ha hl hc, .int .i64 cd], .int .i64 1] w fun e w' => e = .returned (.int .i64 Q) ∧ Below w.heap.size w w' := by
  have HG := hid_intro hG
  clear hG
  have HA0 : Hid (Below w.heap.size w (w.alloc (.cells #[.string a, .string m, .int .i64 mo, .int .i64 ev, .int .i64 su, .int .i64 mx, .slice ta tl tc, .slice ha hl hc, .int .i64 cd] 31))) := hid_intro ((Below.refl _ _).alloc (Nat.le_refl _) _)
  go_enter Tryd.func15, Tryd.ntmps15
  go_wp2_with fail
  refine (HG.out _ HA0.out).mono ?_
  rintro e w1 ⟨rfl, hb⟩
  have HO := hid_intro (HA0.out.trans (hb.mono HA0.out.size))
  clear hb
  go_wp2_with fail
  go_ret
  exact ⟨rfl, HO.out⟩
end WinR
end Go.Proofs.YtmeemmbpkjfleaaDoor
