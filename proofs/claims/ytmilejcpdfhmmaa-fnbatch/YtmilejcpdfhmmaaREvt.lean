/-
  The program's reading of an event, and whether all was read. The condition: the text has at most 8000 bytes.
-/
import Derived.Test.YtmilejcpdfhmmaaRdr
import Derived.Test.YtmilejcpdfhmmaaEvS
import Derived.Deep.RegionWith
import Derived.Deep.QuietTactic
import Derived.BigQuiet
import Derived.Deep.CutRange
import Derived.Deep.DeepCutAuto
namespace Go.Proofs.Ytmilejcpdfhmmaa
open Go.ChangeShapes Go.WideShapes Go.ChangeAt Go.RowKit
set_option linter.unusedVariables false
namespace EvtR
open GetR NumsR
theorem rdrewN {B : Nat} {a w : World} (h : Below B a w) (n : Nat) : Below B a (w.drewN n) := ⟨h.os, h.tape, h.output, h.size, h.block⟩
theorem ended_any (g : Nat) (s : ByteArray) (o : Option Nat) (w : World) (hs : s.size ≤ 8000) (h : After g s o w) :
    Calls Try.prog 34 #[.pointer (some ⟨g, 0, none⟩)] w fun e w' => e = .returned (.bool (decide (o = some s.size))) ∧ Below w.heap.size w w' := by
  cases o with
  | none =>
    obtain ⟨p, c, hR⟩ := h
    unfold flt at hR
    obtain ⟨hl, c0, c1, c2, f0, f1, f2⟩ := hR
    go_enter Try.func34, Try.ntmps34
    go_wp2_with fail
    go_quiet (fail)
    go_wp2
    go_ret
    exact ⟨rfl, rdrewN (Below.refl _ _) _⟩
  | some p =>
    obtain ⟨hp, hl, c0, c1, c2, f0, f1, f2⟩ := h
    by_cases he : p = s.size
    · subst he
      go_enter Try.func34, Try.ntmps34
      go_wp2_with fail
      go_quiet (fail)
      go_wp2
      go_ret
      exact ⟨ret_bool (by simp), rdrewN (Below.refl _ _) _⟩
    · have he' : ¬ (p : Int) = (s.size : Int) := by omega
      go_enter Try.func34, Try.ntmps34
      go_wp2_with fail
      go_quiet (fail)
      go_wp2
      go_ret
      exact ⟨ret_bool (by simp [he]; exact he'), rdrewN (Below.refl _ _) _⟩
/-- A text read, with or without a fault ahead. -/
def rT (s : ByteArray) (o : Option Nat) : ByteArray := ((o.bind (txtAt s)).map (·.1)).getD ⟨#[]⟩
def pT (s : ByteArray) (o : Option Nat) : Option Nat := (o.bind (txtAt s)).map (·.2)
def rN (s : ByteArray) (o : Option Nat) : Int := ((o.bind (numAt s)).map (·.1)).getD 0
def pN (s : ByteArray) (o : Option Nat) : Option Nat := (o.bind (numAt s)).map (·.2)
theorem After.lt {g : Nat} {s : ByteArray} {o : Option Nat} {w : World} (h : After g s o w) : g < w.heap.size := by
  cases o with
  | none => obtain ⟨p, c, h⟩ := h; exact h.1
  | some p => exact h.2.1
theorem After.below {g : Nat} {s : ByteArray} {o : Option Nat} {w w' : World} (h : After g s o w) (hb : Below w.heap.size w w') : After g s o w' := by
  cases o with
  | none => obtain ⟨p, c, h⟩ := h; exact ⟨p, c, h.below hb⟩
  | some p => exact ⟨h.1, h.2.below hb⟩
theorem After.alloc {g : Nat} {s : ByteArray} {o : Option Nat} {w : World} (h : After g s o w) (x : Obj) : After g s o (w.alloc x) := h.below ((Below.refl _ _).alloc (Nat.le_refl _) x)
/-- An event's block that nothing has written yet. -/
def Z6 (B : Nat) (w : World) : Prop := B < w.heap.size ∧ (∀ k, k < 6 → w.cell? ⟨B, k, none⟩ = E.zero.cells[k]? ∧ w.frozen? ⟨B, k, none⟩ = false)
theorem Z6.new (w : World) (T : TypeId) : Z6 w.heap.size (w.alloc (.cells #[.string ⟨#[]⟩, .string ⟨#[]⟩, .string ⟨#[]⟩, .int .i64 0, .int .i64 0, .string ⟨#[]⟩] T)) := by
  refine ⟨by simp, fun k hk => ?_⟩
  match k, hk with
  | 0, _ => exact ⟨by simp [go_sem, E.zero, E.cells], by simp [go_sem]⟩
  | 1, _ => exact ⟨by simp [go_sem, E.zero, E.cells], by simp [go_sem]⟩
  | 2, _ => exact ⟨by simp [go_sem, E.zero, E.cells], by simp [go_sem]⟩
  | 3, _ => exact ⟨by simp [go_sem, E.zero, E.cells], by simp [go_sem]⟩
  | 4, _ => exact ⟨by simp [go_sem, E.zero, E.cells], by simp [go_sem]⟩
  | 5, _ => exact ⟨by simp [go_sem, E.zero, E.cells], by simp [go_sem]⟩
theorem Z6.grown {B : Nat} {w w' : World} {row : Option Nat} (h : Z6 B w) (hg : w.grownBy w' row) (hne : some B ≠ row) : Z6 B w' := by
  have e := hg.block B h.1 hne
  exact ⟨by have := hg.size; have := h.1; omega, fun k hk => ⟨(World.cell?_of_block (a := ⟨B, k, none⟩) e).trans (h.2 k hk).1, (World.frozen?_of_block (a := ⟨B, k, none⟩) e).trans (h.2 k hk).2⟩⟩
theorem gnew' {w wx : World} {g X o : Nat} {v : Value} (h : w.grownBy wx (some g)) (hX : w.heap.size ≤ X) : w.grownBy (wx.setCell ⟨X, o, none⟩ v) (some g) := by
  have hg := rset wx X o v
  refine ⟨hg.os.trans h.os, hg.tape.trans h.tape, hg.output.trans h.output, by have := h.size; have := hg.size; omega, fun k hk hne => ?_⟩
  have hs := h.size
  exact (hg.block k (by omega) (by intro e; cases e; omega)).trans (h.block k hk hne)
theorem After.other {g : Nat} {s : ByteArray} {o : Option Nat} {w : World} (h : After g s o w) {X : Nat} (hX : X ≠ g) (k : Nat) (v : Value) : After g s o (w.setCell ⟨X, k, none⟩ v) := by
  have key : ∀ p f, RdB g s p f w → RdB g s p f (w.setCell ⟨X, k, none⟩ v) := by
    intro p f hr
    obtain ⟨hl, c0, c1, c2, f0, f1, f2⟩ := hr
    have e := (rset w X k v).block g hl (by simp; exact fun h => hX h.symm)
    have c := fun j => World.cell?_of_block (a := ⟨g, j, none⟩) e
    have z := fun j => World.frozen?_of_block (a := ⟨g, j, none⟩) e
    exact ⟨by simpa using hl, (c 0).trans c0, (c 1).trans c1, (c 2).trans c2, (z 0).trans f0, (z 1).trans f1, (z 2).trans f2⟩
  cases o with
  | none => obtain ⟨p, c, h⟩ := h; exact ⟨p, c, key _ _ h⟩
  | some p => exact ⟨h.1, key _ _ h.2⟩
/-- What one call of a reader leaves. -/
abbrev Reads (f : Nat) (g : Nat) (s : ByteArray) (o o' : Option Nat) (v : Value) : Prop := ∀ w, After g s o w → Calls Try.prog f #[.pointer (some ⟨g, 0, none⟩)] w fun e w' => e = .returned v ∧ After g s o' w' ∧ w.grownBy w' (some g)
set_option maxRecDepth 100000 in
set_option maxHeartbeats 8000000 in
theorem revent0 (g : Nat) (s : ByteArray) (o o1 o2 o3 o4 o5 o6 : Option Nat) (i a m t : ByteArray) (n k : Int) (hi : i.size ≤ 1048576) (ha : a.size ≤ 1048576) (hm : m.size ≤ 1048576) (ht : t.size ≤ 1048576) (w : World) (h : After g s o w)
    (r1 : Reads 62 g s o o1 (.string i)) (r2 : Reads 62 g s o1 o2 (.string a)) (r3 : Reads 62 g s o2 o3 (.string m)) (r4 : Reads 61 g s o3 o4 (.int .i64 n)) (r5 : Reads 61 g s o4 o5 (.int .i64 k)) (r6 : Reads 62 g s o5 o6 (.string t)) :
    Calls Try.prog 33 #[.pointer (some ⟨g, 0, none⟩)] w fun e w' => e = .returned (bif evB i a m n k t then ev i a m n k t else ev ⟨#[]⟩ ⟨#[]⟩ ⟨#[]⟩ 0 0 ⟨#[]⟩) ∧ After g s o6 w' ∧ w.grownBy w' (some g) := by
  have H1 := hid_intro r1
  have H2 := hid_intro r2
  have H3 := hid_intro r3
  have H4 := hid_intro r4
  have H5 := hid_intro r5
  have H6 := hid_intro r6
  have HE := hid_intro (fun w => impl_event i a m n k t hi ha hm ht w)
  have HA := hid_intro (h.alloc (.cells #[.string ⟨#[]⟩, .string ⟨#[]⟩, .string ⟨#[]⟩, .int .i64 0, .int .i64 0, .string ⟨#[]⟩] 31))
  have HZ := hid_intro (Z6.new w 31)
  have HG := hid_intro (World.grownBy_alloc w (.cells #[.string ⟨#[]⟩, .string ⟨#[]⟩, .string ⟨#[]⟩, .int .i64 0, .int .i64 0, .string ⟨#[]⟩] 31) (some g))
  have hgl := h.lt
  have hne : w.heap.size ≠ g := by omega
  clear h r1 r2 r3 r4 r5 r6 hi ha hm ht
  unfold ev at *
  generalize evB i a m n k t = q at *
  go_enter Try.func33, Try.ntmps33
  go_wp2_with fail
  refine (H1.out _ HA.out).mono ?_
  rintro e w1 ⟨rfl, hA, hg⟩
  replace HA := hid_intro hA
  replace HZ := hid_intro (HZ.out.grown hg (by simp; exact hne))
  replace HG := hid_intro (gtrans HG.out hg)
  clear hA hg
  go_wp2_with fail
  refine (H2.out _ HA.out).mono ?_
  rintro e w2 ⟨rfl, hA, hg⟩
  replace HA := hid_intro hA
  replace HZ := hid_intro (HZ.out.grown hg (by simp; exact hne))
  replace HG := hid_intro (gtrans HG.out hg)
  clear hA hg
  go_wp2_with fail
  refine (H3.out _ HA.out).mono ?_
  rintro e w3 ⟨rfl, hA, hg⟩
  replace HA := hid_intro hA
  replace HZ := hid_intro (HZ.out.grown hg (by simp; exact hne))
  replace HG := hid_intro (gtrans HG.out hg)
  clear hA hg
  go_wp2_with fail
  refine (H4.out _ HA.out).mono ?_
  rintro e w4 ⟨rfl, hA, hg⟩
  replace HA := hid_intro hA
  replace HZ := hid_intro (HZ.out.grown hg (by simp; exact hne))
  replace HG := hid_intro (gtrans HG.out hg)
  clear hA hg
  go_wp2_with fail
  refine (H5.out _ HA.out).mono ?_
  rintro e w5 ⟨rfl, hA, hg⟩
  replace HA := hid_intro hA
  replace HZ := hid_intro (HZ.out.grown hg (by simp; exact hne))
  replace HG := hid_intro (gtrans HG.out hg)
  clear hA hg
  go_wp2_with fail
  refine (H6.out _ HA.out).mono ?_
  rintro e w6 ⟨rfl, hA, hg⟩
  replace HA := hid_intro hA
  replace HZ := hid_intro (HZ.out.grown hg (by simp; exact hne))
  replace HG := hid_intro (gtrans HG.out hg)
  clear hA hg
  go_wp2_with fail
  replace HA := hid_intro (HA.out.alloc (.cells #[.string i, .string a, .string m, .int .i64 n, .int .i64 k, .string t] 31))
  replace HZ := hid_intro (HZ.out.grown (World.grownBy_alloc w6 (.cells #[.string i, .string a, .string m, .int .i64 n, .int .i64 k, .string t] 31) none) (by simp))
  replace HG := hid_intro (gtrans HG.out (World.grownBy_alloc w6 (.cells #[.string i, .string a, .string m, .int .i64 n, .int .i64 k, .string t] 31) (some g)))
  refine (HE.out _).mono ?_
  rintro e w7 ⟨rfl, hb⟩
  obtain ⟨hc, hz⟩ := bcell hb
  have hlt : w6.heap.size < w7.heap.size := by have := hb.size; simp at this; omega
  replace HA := hid_intro (HA.out.below hb)
  replace HZ := hid_intro (HZ.out.grown (rgrown hb none) (by simp))
  replace HG := hid_intro (gtrans HG.out (rgrown hb (some g)))
  have z := fun k hk => (HZ.out.2 k hk).1
  have y := fun k hk => (HZ.out.2 k hk).2
  have z0 : w7.cell? ⟨w.heap.size, 0, none⟩ = some (.string ⟨#[]⟩) := z 0 (by omega)
  have z1 : w7.cell? ⟨w.heap.size, 1, none⟩ = some (.string ⟨#[]⟩) := z 1 (by omega)
  have z2 : w7.cell? ⟨w.heap.size, 2, none⟩ = some (.string ⟨#[]⟩) := z 2 (by omega)
  have z3 : w7.cell? ⟨w.heap.size, 3, none⟩ = some (.int .i64 0) := z 3 (by omega)
  have z4 : w7.cell? ⟨w.heap.size, 4, none⟩ = some (.int .i64 0) := z 4 (by omega)
  have z5 : w7.cell? ⟨w.heap.size, 5, none⟩ = some (.string ⟨#[]⟩) := z 5 (by omega)
  have y0 := y 0 (by omega)
  have y1 := y 1 (by omega)
  have y2 := y 2 (by omega)
  have y3 := y 3 (by omega)
  have y4 := y 4 (by omega)
  have y5 := y 5 (by omega)
  clear hb z y
  cases q
  all_goals (
    go_wp2_with fail
    refine bodyPost_ret (v := .agg _) (by simp [results, Try.results33, go_sem, z0, z1, z2, z3, z4, z5]) rfl ⟨rfl, ?_, ?_⟩
    · exact ((((((HA.out.other hne 0 _).other hne 1 _).other hne 2 _).other hne 3 _).other hne 4 _).other hne 5 _)
    · exact gnew' (gnew' (gnew' (gnew' (gnew' (gnew' HG.out (Nat.le_refl _)) (Nat.le_refl _)) (Nat.le_refl _)) (Nat.le_refl _)) (Nat.le_refl _)) (Nat.le_refl _))
/-- An event read, field by field, with or without a fault ahead or between. -/
def rE (s : ByteArray) (o : Option Nat) : E := ⟨rT s o, rT s (pT s o), rT s (pT s (pT s o)), rN s (pT s (pT s (pT s o))), rN s (pN s (pT s (pT s (pT s o)))), rT s (pN s (pN s (pT s (pT s (pT s o)))))⟩
def pE (s : ByteArray) (o : Option Nat) : Option Nat := pT s (pN s (pN s (pT s (pT s (pT s o)))))
theorem rT_size (s : ByteArray) (o : Option Nat) : (rT s o).size ≤ 8000 := by
  unfold rT
  cases h : o.bind (txtAt s) with
  | none => exact Nat.zero_le _
  | some x =>
    obtain ⟨t, q⟩ := x
    obtain ⟨p, rfl, hp⟩ := Option.bind_eq_some_iff.1 h
    simpa using (txtAt_back hp).1
theorem revent (g : Nat) (s : ByteArray) (o : Option Nat) (w : World) (hs : s.size ≤ 8000) (h : After g s o w) :
    Calls Try.prog 33 #[.pointer (some ⟨g, 0, none⟩)] w fun e w' => e = .returned (bif (rE s o).ok then (rE s o).v else E.zero.v) ∧ After g s (pE s o) w' ∧ w.grownBy w' (some g) := by
  have b := fun o => rT_size s o
  exact revent0 g s o _ _ _ _ _ _ _ _ _ _ _ _ (Nat.le_trans (b o) (by omega)) (Nat.le_trans (b (pT s o)) (by omega)) (Nat.le_trans (b (pT s (pT s o))) (by omega)) (Nat.le_trans (b (pN s (pN s (pT s (pT s (pT s o)))))) (by omega)) w h (fun w h => rword g s _ w hs h) (fun w h => rword g s _ w hs h) (fun w h => rword g s _ w hs h) (fun w h => rnum g s _ w hs h) (fun w h => rnum g s _ w hs h) (fun w h => rword g s _ w hs h)
end EvtR
end Go.Proofs.Ytmilejcpdfhmmaa
