/-
  The model's reading of an event. The condition: the text has at most 8000 bytes.
-/
import Derived.Test.YtmilejcpdfhmmaaSRdr
import Derived.Test.YtmilejcpdfhmmaaBRead
namespace Go.Proofs.Ytmilejcpdfhmmaa
open Go.ChangeShapes Go.WideShapes Go.ChangeAt Go.RowKit
set_option linter.unusedVariables false
namespace EvtR
open GetR NumsR
theorem SAfter.lt {g : Nat} {s : ByteArray} {o : Option Nat} {w : World} (h : SAfter g s o w) : g < w.heap.size := by
  cases o with
  | none => obtain ⟨p, hp, h⟩ := h; exact h.1
  | some p => exact h.2.1
theorem SAfter.grown {g : Nat} {s : ByteArray} {o : Option Nat} {w w' : World} {row : Option Nat} (h : SAfter g s o w) (hg : w.grownBy w' row) (hne : some g ≠ row) : SAfter g s o w' := by
  have key : ∀ p f, SRB g s p f w → SRB g s p f w' := by
    intro p f hr
    obtain ⟨hl, c0, c1, c2, f0, f1, f2⟩ := hr
    have e := hg.block g hl hne
    have c := fun j => World.cell?_of_block (a := ⟨g, j, none⟩) e
    have z := fun j => World.frozen?_of_block (a := ⟨g, j, none⟩) e
    exact ⟨by have := hg.size; omega, (c 0).trans c0, (c 1).trans c1, (c 2).trans c2, (z 0).trans f0, (z 1).trans f1, (z 2).trans f2⟩
  cases o with
  | none => obtain ⟨p, c, h⟩ := h; exact ⟨p, c, key _ _ h⟩
  | some p => exact ⟨h.1, key _ _ h.2⟩
/-- The block of an event that is filled. -/
def F6 (B : Nat) (i a m : ByteArray) (n k : Int) (t : ByteArray) (w : World) : Prop := B < w.heap.size ∧ w.cell? ⟨B, 0, none⟩ = some (.string i) ∧ w.cell? ⟨B, 1, none⟩ = some (.string a) ∧ w.cell? ⟨B, 2, none⟩ = some (.string m) ∧ w.cell? ⟨B, 3, none⟩ = some (.int .i64 n) ∧ w.cell? ⟨B, 4, none⟩ = some (.int .i64 k) ∧ w.cell? ⟨B, 5, none⟩ = some (.string t) ∧ ∀ j, j < 6 → w.frozen? ⟨B, j, none⟩ = false
theorem F6.grown {B : Nat} {i a m : ByteArray} {n k : Int} {t : ByteArray} {w w' : World} {row : Option Nat} (h : F6 B i a m n k t w) (hg : w.grownBy w' row) (hne : some B ≠ row) : F6 B i a m n k t w' := by
  obtain ⟨hl, c0, c1, c2, c3, c4, c5, f⟩ := h
  have e := hg.block B hl hne
  have c := fun j => World.cell?_of_block (a := ⟨B, j, none⟩) e
  have z := fun j => World.frozen?_of_block (a := ⟨B, j, none⟩) e
  exact ⟨by have := hg.size; omega, (c 0).trans c0, (c 1).trans c1, (c 2).trans c2, (c 3).trans c3, (c 4).trans c4, (c 5).trans c5, fun j hj => (z j).trans (f j hj)⟩
theorem F6.new (w : World) (T : TypeId) (i a m : ByteArray) (n k : Int) (t : ByteArray) : F6 w.heap.size i a m n k t (w.alloc (.cells #[.string i, .string a, .string m, .int .i64 n, .int .i64 k, .string t] T)) := by
  refine ⟨by simp, by simp [go_sem], by simp [go_sem], by simp [go_sem], by simp [go_sem], by simp [go_sem], by simp [go_sem], fun j hj => ?_⟩
  match j, hj with
  | 0, _ => simp [go_sem]
  | 1, _ => simp [go_sem]
  | 2, _ => simp [go_sem]
  | 3, _ => simp [go_sem]
  | 4, _ => simp [go_sem]
  | 5, _ => simp [go_sem]
theorem F6.set1 {B : Nat} {i a m : ByteArray} {n k : Int} {t : ByteArray} {w : World} (h : F6 B i a m n k t w) (x : ByteArray) : F6 B i x m n k t (w.setCell ⟨B, 1, none⟩ (.string x)) := by
  obtain ⟨hl, c0, c1, c2, c3, c4, c5, f⟩ := h
  exact ⟨by simpa using hl, by simp [go_sem, c0], by simp [go_sem, c1], by simp [go_sem, c2], by simp [go_sem, c3], by simp [go_sem, c4], by simp [go_sem, c5], fun j hj => by simp [go_sem, f j hj]⟩
theorem F6.set2 {B : Nat} {i a m : ByteArray} {n k : Int} {t : ByteArray} {w : World} (h : F6 B i a m n k t w) (x : ByteArray) : F6 B i a x n k t (w.setCell ⟨B, 2, none⟩ (.string x)) := by
  obtain ⟨hl, c0, c1, c2, c3, c4, c5, f⟩ := h
  exact ⟨by simpa using hl, by simp [go_sem, c0], by simp [go_sem, c1], by simp [go_sem, c2], by simp [go_sem, c3], by simp [go_sem, c4], by simp [go_sem, c5], fun j hj => by simp [go_sem, f j hj]⟩
theorem F6.set3 {B : Nat} {i a m : ByteArray} {n k : Int} {t : ByteArray} {w : World} (h : F6 B i a m n k t w) (x : Int) : F6 B i a m x k t (w.setCell ⟨B, 3, none⟩ (.int .i64 x)) := by
  obtain ⟨hl, c0, c1, c2, c3, c4, c5, f⟩ := h
  exact ⟨by simpa using hl, by simp [go_sem, c0], by simp [go_sem, c1], by simp [go_sem, c2], by simp [go_sem, c3], by simp [go_sem, c4], by simp [go_sem, c5], fun j hj => by simp [go_sem, f j hj]⟩
theorem F6.set4 {B : Nat} {i a m : ByteArray} {n k : Int} {t : ByteArray} {w : World} (h : F6 B i a m n k t w) (x : Int) : F6 B i a m n x t (w.setCell ⟨B, 4, none⟩ (.int .i64 x)) := by
  obtain ⟨hl, c0, c1, c2, c3, c4, c5, f⟩ := h
  exact ⟨by simpa using hl, by simp [go_sem, c0], by simp [go_sem, c1], by simp [go_sem, c2], by simp [go_sem, c3], by simp [go_sem, c4], by simp [go_sem, c5], fun j hj => by simp [go_sem, f j hj]⟩
theorem F6.set5 {B : Nat} {i a m : ByteArray} {n k : Int} {t : ByteArray} {w : World} (h : F6 B i a m n k t w) (x : ByteArray) : F6 B i a m n k x (w.setCell ⟨B, 5, none⟩ (.string x)) := by
  obtain ⟨hl, c0, c1, c2, c3, c4, c5, f⟩ := h
  exact ⟨by simpa using hl, by simp [go_sem, c0], by simp [go_sem, c1], by simp [go_sem, c2], by simp [go_sem, c3], by simp [go_sem, c4], by simp [go_sem, c5], fun j hj => by simp [go_sem, f j hj]⟩
abbrev SReads (f : Nat) (g : Nat) (s : ByteArray) (o o' : Option Nat) (v : Value) : Prop := ∀ w, SAfter g s o w → Calls Try.prog f #[.pointer (some ⟨g, 0, none⟩)] w fun e w' => e = .returned v ∧ SAfter g s o' w' ∧ w.grownBy w' (some g)
set_option maxRecDepth 100000 in
set_option maxHeartbeats 8000000 in
theorem sevent0 (g : Nat) (s : ByteArray) (o o1 o2 o3 o4 o5 o6 : Option Nat) (i a m t : ByteArray) (n k : Int) (w : World) (h : SAfter g s o w)
    (r1 : SReads 68 g s o o1 (.string i)) (r2 : SReads 68 g s o1 o2 (.string a)) (r3 : SReads 68 g s o2 o3 (.string m)) (r4 : SReads 67 g s o3 o4 (.int .i64 n)) (r5 : SReads 67 g s o4 o5 (.int .i64 k)) (r6 : SReads 68 g s o5 o6 (.string t)) :
    Calls Try.prog 39 #[.pointer (some ⟨g, 0, none⟩)] w fun e w' => e = .returned (ev i a m n k t) ∧ SAfter g s o6 w' ∧ w.grownBy w' (some g) := by
  have H1 := hid_intro r1
  have H2 := hid_intro r2
  have H3 := hid_intro r3
  have H4 := hid_intro r4
  have H5 := hid_intro r5
  have H6 := hid_intro r6
  have HA := hid_intro (h.grown (World.grownBy_alloc w (.cells #[.string ⟨#[]⟩, .string ⟨#[]⟩, .string ⟨#[]⟩, .int .i64 0, .int .i64 0, .string ⟨#[]⟩] 31) none) (by simp))
  have HZ := hid_intro (F6.new w 31 ⟨#[]⟩ ⟨#[]⟩ ⟨#[]⟩ 0 0 ⟨#[]⟩)
  have HG := hid_intro (World.grownBy_alloc w (.cells #[.string ⟨#[]⟩, .string ⟨#[]⟩, .string ⟨#[]⟩, .int .i64 0, .int .i64 0, .string ⟨#[]⟩] 31) (some g))
  have hgl := h.lt
  have hne : w.heap.size ≠ g := by omega
  clear h r1 r2 r3 r4 r5 r6
  go_enter Try.func39, Try.ntmps39
  go_wp2_with fail
  refine (H1.out _ HA.out).mono ?_
  rintro e w1 ⟨rfl, hA, hg⟩
  replace HZ := hid_intro (HZ.out.grown hg (by simp; exact hne))
  have HL1 := hid_intro HZ.out.1
  replace HG := hid_intro (gtrans HG.out hg)
  replace HA := hid_intro hA
  clear hA hg
  have HF := hid_intro (F6.new w1 31 i ⟨#[]⟩ ⟨#[]⟩ 0 0 ⟨#[]⟩)
  replace HA := hid_intro (HA.out.grown (World.grownBy_alloc w1 (.cells #[.string i, .string ⟨#[]⟩, .string ⟨#[]⟩, .int .i64 0, .int .i64 0, .string ⟨#[]⟩] 31) none) (by simp))
  replace HZ := hid_intro (HZ.out.grown (World.grownBy_alloc w1 (.cells #[.string i, .string ⟨#[]⟩, .string ⟨#[]⟩, .int .i64 0, .int .i64 0, .string ⟨#[]⟩] 31) none) (by simp))
  replace HG := hid_intro (gtrans HG.out (World.grownBy_alloc w1 (.cells #[.string i, .string ⟨#[]⟩, .string ⟨#[]⟩, .int .i64 0, .int .i64 0, .string ⟨#[]⟩] 31) (some g)))
  have hb1 : w1.heap.size ≠ g := by have := HL1.out; have := HG.out.size; intro e; omega
  have hb2 : w1.heap.size ≠ w.heap.size := by have := HL1.out; omega
  have hb3 : w.heap.size ≤ w1.heap.size := by have := HL1.out; omega
  go_wp2_with fail
  refine (H2.out _ HA.out).mono ?_
  rintro e w2 ⟨rfl, hA, hg⟩
  replace HF := hid_intro (HF.out.grown hg (by simp; exact hb1))
  replace HZ := hid_intro (HZ.out.grown hg (by simp; exact hne))
  replace HG := hid_intro (gtrans HG.out hg)
  obtain ⟨fl, c0, c1, c2, c3, c4, c5, fz⟩ := HF.out
  have fz1 := fz 1 (by omega)
  replace HF := hid_intro (HF.out.set1 a)
  replace HZ := hid_intro (HZ.out.grown (rset _ w1.heap.size 1 (.string a)) (by simp; exact fun h => hb2 h.symm))
  replace HG := hid_intro (gnew' (o := 1) (v := .string a) HG.out hb3)
  replace HA := hid_intro (SAfter.grown hA (rset _ w1.heap.size 1 (.string a)) (by simp; exact fun h => hb1 h.symm))
  clear hA hg fz
  go_wp2_with fail
  refine (H3.out _ HA.out).mono ?_
  rintro e w3 ⟨rfl, hA, hg⟩
  replace HF := hid_intro (HF.out.grown hg (by simp; exact hb1))
  replace HZ := hid_intro (HZ.out.grown hg (by simp; exact hne))
  replace HG := hid_intro (gtrans HG.out hg)
  obtain ⟨fl, c0, c1, c2, c3, c4, c5, fz⟩ := HF.out
  have fz2 := fz 2 (by omega)
  replace HF := hid_intro (HF.out.set2 m)
  replace HZ := hid_intro (HZ.out.grown (rset _ w1.heap.size 2 (.string m)) (by simp; exact fun h => hb2 h.symm))
  replace HG := hid_intro (gnew' (o := 2) (v := .string m) HG.out hb3)
  replace HA := hid_intro (SAfter.grown hA (rset _ w1.heap.size 2 (.string m)) (by simp; exact fun h => hb1 h.symm))
  clear hA hg fz
  go_wp2_with fail
  refine (H4.out _ HA.out).mono ?_
  rintro e w4 ⟨rfl, hA, hg⟩
  replace HF := hid_intro (HF.out.grown hg (by simp; exact hb1))
  replace HZ := hid_intro (HZ.out.grown hg (by simp; exact hne))
  replace HG := hid_intro (gtrans HG.out hg)
  obtain ⟨fl, c0, c1, c2, c3, c4, c5, fz⟩ := HF.out
  have fz3 := fz 3 (by omega)
  replace HF := hid_intro (HF.out.set3 n)
  replace HZ := hid_intro (HZ.out.grown (rset _ w1.heap.size 3 (.int .i64 n)) (by simp; exact fun h => hb2 h.symm))
  replace HG := hid_intro (gnew' (o := 3) (v := .int .i64 n) HG.out hb3)
  replace HA := hid_intro (SAfter.grown hA (rset _ w1.heap.size 3 (.int .i64 n)) (by simp; exact fun h => hb1 h.symm))
  clear hA hg fz
  go_wp2_with fail
  refine (H5.out _ HA.out).mono ?_
  rintro e w5 ⟨rfl, hA, hg⟩
  replace HF := hid_intro (HF.out.grown hg (by simp; exact hb1))
  replace HZ := hid_intro (HZ.out.grown hg (by simp; exact hne))
  replace HG := hid_intro (gtrans HG.out hg)
  obtain ⟨fl, c0, c1, c2, c3, c4, c5, fz⟩ := HF.out
  have fz4 := fz 4 (by omega)
  replace HF := hid_intro (HF.out.set4 k)
  replace HZ := hid_intro (HZ.out.grown (rset _ w1.heap.size 4 (.int .i64 k)) (by simp; exact fun h => hb2 h.symm))
  replace HG := hid_intro (gnew' (o := 4) (v := .int .i64 k) HG.out hb3)
  replace HA := hid_intro (SAfter.grown hA (rset _ w1.heap.size 4 (.int .i64 k)) (by simp; exact fun h => hb1 h.symm))
  clear hA hg fz
  go_wp2_with fail
  refine (H6.out _ HA.out).mono ?_
  rintro e w6 ⟨rfl, hA, hg⟩
  replace HF := hid_intro (HF.out.grown hg (by simp; exact hb1))
  replace HZ := hid_intro (HZ.out.grown hg (by simp; exact hne))
  replace HG := hid_intro (gtrans HG.out hg)
  obtain ⟨fl, c0, c1, c2, c3, c4, c5, fz⟩ := HF.out
  have fz5 := fz 5 (by omega)
  replace HF := hid_intro (HF.out.set5 t)
  replace HZ := hid_intro (HZ.out.grown (rset _ w1.heap.size 5 (.string t)) (by simp; exact fun h => hb2 h.symm))
  replace HG := hid_intro (gnew' (o := 5) (v := .string t) HG.out hb3)
  replace HA := hid_intro (SAfter.grown hA (rset _ w1.heap.size 5 (.string t)) (by simp; exact fun h => hb1 h.symm))
  clear hA hg fz
  obtain ⟨zl, z0, z1, z2, z3, z4, z5, zz⟩ := HZ.out
  have y0 := zz 0 (by omega)
  have y1 := zz 1 (by omega)
  have y2 := zz 2 (by omega)
  have y3 := zz 3 (by omega)
  have y4 := zz 4 (by omega)
  have y5 := zz 5 (by omega)
  clear zz
  go_wp2_with fail
  refine bodyPost_ret (v := ev i a m n k t) (by simp [ev, results, Try.results39, go_sem, z0, z1, z2, z3, z4, z5]) rfl ⟨rfl, ?_, ?_⟩
  · refine SAfter.grown (row := some w.heap.size) HA.out ?_ (by simp; exact fun h => hne h.symm)
    exact gtrans (gtrans (gtrans (gtrans (gtrans (rset _ _ 0 _) (rset _ _ 1 _)) (rset _ _ 2 _)) (rset _ _ 3 _)) (rset _ _ 4 _)) (rset _ _ 5 _)
  · exact gnew' (gnew' (gnew' (gnew' (gnew' (gnew' HG.out (Nat.le_refl _)) (Nat.le_refl _)) (Nat.le_refl _)) (Nat.le_refl _)) (Nat.le_refl _)) (Nat.le_refl _)
theorem sevent (g : Nat) (s : ByteArray) (o : Option Nat) (w : World) (hs : s.size ≤ 8000) (h : SAfter g s o w) :
    Calls Try.prog 39 #[.pointer (some ⟨g, 0, none⟩)] w fun e w' => e = .returned (rE s o).v ∧ SAfter g s (pE s o) w' ∧ w.grownBy w' (some g) :=
  sevent0 g s o _ _ _ _ _ _ _ _ _ _ _ _ w h (fun w h => srtext g s _ w hs h) (fun w h => srtext g s _ w hs h) (fun w h => srtext g s _ w hs h) (fun w h => srnum g s _ w hs h) (fun w h => srnum g s _ w hs h) (fun w h => srtext g s _ w hs h)
end EvtR
end Go.Proofs.Ytmilejcpdfhmmaa
