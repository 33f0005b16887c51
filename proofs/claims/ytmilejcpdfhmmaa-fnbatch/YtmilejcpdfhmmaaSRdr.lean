/-
  The model's reader: a number and a text read at its place, behind a fault nothing. The condition: the text has at most 8000 bytes.
-/
import Derived.Test.YtmilejcpdfhmmaaRdKit
import Derived.Deep.RegionWith
namespace Go.Proofs.Ytmilejcpdfhmmaa
open Go.ChangeShapes Go.WideShapes Go.ChangeAt Go.RowKit
set_option linter.unusedVariables false
namespace EvtR
open GetR NumsR
/-- The model's reader's block. -/
def SRB (g : Nat) (s : ByteArray) (p : Nat) (b : Bool) (w : World) : Prop := g < w.heap.size ∧ w.cell? ⟨g, 0, none⟩ = some (.string s) ∧ w.cell? ⟨g, 1, none⟩ = some (.int .i64 p) ∧ w.cell? ⟨g, 2, none⟩ = some (.bool b) ∧ w.frozen? ⟨g, 0, none⟩ = false ∧ w.frozen? ⟨g, 1, none⟩ = false ∧ w.frozen? ⟨g, 2, none⟩ = false
theorem SRB.below {g : Nat} {s : ByteArray} {p : Nat} {b : Bool} {w w' : World} (h : SRB g s p b w) (hb : Below w.heap.size w w') : SRB g s p b w' := by
  obtain ⟨hl, c0, c1, c2, f0, f1, f2⟩ := h
  have c := fun o => hb.cell (p := ⟨g, o, none⟩) hl
  have z := fun o => hb.frozen (p := ⟨g, o, none⟩) hl
  exact ⟨by have := hb.size; omega, (c 0).trans c0, (c 1).trans c1, (c 2).trans c2, (z 0).trans f0, (z 1).trans f1, (z 2).trans f2⟩
theorem SRB.setAt {g : Nat} {s : ByteArray} {p : Nat} {b : Bool} {w : World} (h : SRB g s p b w) (q : Nat) : SRB g s q b (w.setCell ⟨g, 1, none⟩ (.int .i64 q)) := by
  obtain ⟨hl, c0, c1, c2, f0, f1, f2⟩ := h
  exact ⟨by simpa using hl, by simp [go_sem, c0], by simp [go_sem, c1], by simp [go_sem, c2], by simp [go_sem, f0], by simp [go_sem, f1], by simp [go_sem, f2]⟩
theorem SRB.setBad {g : Nat} {s : ByteArray} {p : Nat} {b : Bool} {w : World} (h : SRB g s p b w) : SRB g s p true (w.setCell ⟨g, 2, none⟩ (.bool true)) := by
  obtain ⟨hl, c0, c1, c2, f0, f1, f2⟩ := h
  exact ⟨by simpa using hl, by simp [go_sem, c0], by simp [go_sem, c1], by simp [go_sem, c2], by simp [go_sem, f0], by simp [go_sem, f1], by simp [go_sem, f2]⟩
/-- A new block of three cells. -/
def N3 (B : Nat) (a b c : Value) (w : World) : Prop := B < w.heap.size ∧ w.cell? ⟨B, 0, none⟩ = some a ∧ w.cell? ⟨B, 1, none⟩ = some b ∧ w.cell? ⟨B, 2, none⟩ = some c ∧ w.frozen? ⟨B, 0, none⟩ = false ∧ w.frozen? ⟨B, 1, none⟩ = false ∧ w.frozen? ⟨B, 2, none⟩ = false
theorem N3.new (W : World) (T : TypeId) (a b c : Value) : N3 W.heap.size a b c (W.alloc (.cells #[a, b, c] T)) :=
  ⟨by simp, by simp [go_sem], by simp [go_sem], by simp [go_sem], by simp [go_sem], by simp [go_sem], by simp [go_sem]⟩
theorem N3.below {B : Nat} {a b c : Value} {w w' : World} (h : N3 B a b c w) (hb : Below w.heap.size w w') : N3 B a b c w' := by
  obtain ⟨hl, c0, c1, c2, f0, f1, f2⟩ := h
  have c := fun o => hb.cell (p := ⟨B, o, none⟩) hl
  have z := fun o => hb.frozen (p := ⟨B, o, none⟩) hl
  exact ⟨by have := hb.size; omega, (c 0).trans c0, (c 1).trans c1, (c 2).trans c2, (z 0).trans f0, (z 1).trans f1, (z 2).trans f2⟩
theorem then2 {a b P : Prop} (ha : a) (hb : b) (k : a → b → P) : P := k ha hb
theorem then1 {a P : Prop} (ha : a) (k : a → P) : P := k ha
theorem SRB.other {g : Nat} {s : ByteArray} {p : Nat} {b : Bool} {w : World} (h : SRB g s p b w) {X : Nat} (hX : X ≠ g) (o : Nat) (v : Value) : SRB g s p b (w.setCell ⟨X, o, none⟩ v) := by
  obtain ⟨hl, c0, c1, c2, f0, f1, f2⟩ := h
  have e := (rset w X o v).block g hl (by simp; exact fun h => hX h.symm)
  have c := fun k => World.cell?_of_block (a := ⟨g, k, none⟩) e
  have z := fun k => World.frozen?_of_block (a := ⟨g, k, none⟩) e
  exact ⟨by simpa using hl, (c 0).trans c0, (c 1).trans c1, (c 2).trans c2, (z 0).trans f0, (z 1).trans f1, (z 2).trans f2⟩
theorem gnew {w wx : World} {g X o : Nat} {v : Value} (h : w.grownBy wx (some g)) (hX : w.heap.size ≤ X) : w.grownBy (wx.setCell ⟨X, o, none⟩ v) (some g) := by
  have hg := rset wx X o v
  refine ⟨hg.os.trans h.os, hg.tape.trans h.tape, hg.output.trans h.output, by have := h.size; have := hg.size; omega, fun k hk hne => ?_⟩
  have hs := h.size
  exact (hg.block k (by omega) (by intro e; cases e; omega)).trans (h.block k hk hne)
theorem galloc {w w1 : World} {g : Nat} (h : w.grownBy w1 (some g)) (o : Obj) : w.grownBy (w1.alloc o) (some g) := gtrans h (World.grownBy_alloc w1 o _)
set_option maxHeartbeats 4000000 in
theorem snum_got (g : Nat) (s : ByteArray) (p q : Nat) (n : Int) (w : World) (hR : SRB g s p false w)
    (hr : ∀ w, Calls Try.prog 78 #[.string s, .int .i64 p] w fun e w' => e = .returned (.agg #[.int .i64 n, .int .i64 (q : Nat), .int .i64 0]) ∧ Below w.heap.size w w') :
    Calls Try.prog 67 #[.pointer (some ⟨g, 0, none⟩)] w fun e w' => e = .returned (.int .i64 n) ∧ SRB g s q false w' ∧ w.grownBy w' (some g) := by
  have HR := hid_intro hR
  have HH := hid_intro hr
  obtain ⟨hl, c0, c1, c2, f0, f1, f2⟩ := hR
  have hne : w.heap.size ≠ g := by omega
  clear hr
  go_enter Try.func67, Try.ntmps67
  go_wp2_with fail
  go_region_with (go_at_call 78; refine (HH.out _).mono ?_; rintro e w1 ⟨rfl, hb⟩; have HB := hid_intro hb; first | (refine then2 (SRB.below (SRB.below (show SRB g s p false w.drew from HR.out) ((Below.refl _ _).alloc (Nat.le_refl _) _)) hb) (show N3 w.heap.size (.int .i64 0) (.int .i64 0) (.int .i64 0) w1 from N3.below (N3.new w.drew 106 (.int .i64 0) (.int .i64 0) (.int .i64 0)) hb) ?_; intro hX hZ; have HX := hid_intro hX; obtain ⟨zl, z0, z1, z2, y0, y1, y2⟩ := hZ; obtain ⟨hl1, d0, d1, d2, e0, e1, e2⟩ := hX) | (refine then1 (SRB.below (show SRB g s p false w.drew from HR.out) hb) ?_; intro hX; have HX := hid_intro hX; have hl0 : ¬ w1.heap.size = g := (by have := hX.1; omega); obtain ⟨hl1, d0, d1, d2, e0, e1, e2⟩ := hX); clear hb)
  all_goals (
    go_wp2_with fail
    go_ret
    first
      | (have hzl := zl; exact ⟨rfl, ((((HX.out.other hne 0 _).other hne 1 _).other hne 2 _).setAt q), gtrans (gnew (gnew (gnew (undrew (gtrans (World.grownBy_alloc _ _ _) (rgrown HB.out _))) (Nat.le_refl _)) (Nat.le_refl _)) (Nat.le_refl _)) (rset _ g 1 _)⟩)
      | exact ⟨rfl, (HX.out.setAt q).below ((Below.refl _ _).alloc (Nat.le_refl _) _), galloc (gtrans (undrew (rgrown HB.out _)) (rset _ g 1 _)) _⟩)
set_option maxHeartbeats 4000000 in
theorem snum_bad (g : Nat) (s : ByteArray) (p q : Nat) (n : Int) (c : Int) (hc : (c == 0) = false) (w : World) (hR : SRB g s p false w)
    (hr : ∀ w, Calls Try.prog 78 #[.string s, .int .i64 p] w fun e w' => e = .returned (.agg #[.int .i64 n, .int .i64 (q : Nat), .int .i64 c]) ∧ Below w.heap.size w w') :
    Calls Try.prog 67 #[.pointer (some ⟨g, 0, none⟩)] w fun e w' => e = .returned (.int .i64 0) ∧ SRB g s p true w' ∧ w.grownBy w' (some g) := by
  have HR := hid_intro hR
  have HH := hid_intro hr
  obtain ⟨hl, c0, c1, c2, f0, f1, f2⟩ := hR
  have hne : w.heap.size ≠ g := by omega
  have hcn : ¬ c = 0 := by simpa using hc
  have hcn2 : (c != 0) = true := by simp [hcn]
  clear hr
  go_enter Try.func67, Try.ntmps67
  go_wp2_with fail
  go_region_with (go_at_call 78; refine (HH.out _).mono ?_; rintro e w1 ⟨rfl, hb⟩; have HB := hid_intro hb; first | (refine then2 (SRB.below (SRB.below (show SRB g s p false w.drew from HR.out) ((Below.refl _ _).alloc (Nat.le_refl _) _)) hb) (show N3 w.heap.size (.int .i64 0) (.int .i64 0) (.int .i64 0) w1 from N3.below (N3.new w.drew 106 (.int .i64 0) (.int .i64 0) (.int .i64 0)) hb) ?_; intro hX hZ; have HX := hid_intro hX; obtain ⟨zl, z0, z1, z2, y0, y1, y2⟩ := hZ; obtain ⟨hl1, d0, d1, d2, e0, e1, e2⟩ := hX) | (refine then1 (SRB.below (show SRB g s p false w.drew from HR.out) hb) ?_; intro hX; have HX := hid_intro hX; have hl0 : ¬ w1.heap.size = g := (by have := hX.1; omega); obtain ⟨hl1, d0, d1, d2, e0, e1, e2⟩ := hX); clear hb)
  all_goals (
    go_wp2_with fail
    go_ret
    first
      | (have hzl := zl; exact ⟨rfl, ((((HX.out.other hne 0 _).other hne 1 _).other hne 2 _).setBad), gtrans (gnew (gnew (gnew (undrew (gtrans (World.grownBy_alloc _ _ _) (rgrown HB.out _))) (Nat.le_refl _)) (Nat.le_refl _)) (Nat.le_refl _)) (rset _ g 2 _)⟩)
      | exact ⟨rfl, HX.out.setBad.below ((Below.refl _ _).alloc (Nat.le_refl _) _), galloc (gtrans (undrew (rgrown HB.out _)) (rset _ g 2 _)) _⟩)
set_option maxHeartbeats 4000000 in
theorem snum_flt (g : Nat) (s : ByteArray) (p q : Nat) (n : Int) (c : Int) (w : World) (hR : SRB g s p true w)
    (hr : ∀ w, Calls Try.prog 78 #[.string s, .int .i64 p] w fun e w' => e = .returned (.agg #[.int .i64 n, .int .i64 (q : Nat), .int .i64 c]) ∧ Below w.heap.size w w') :
    Calls Try.prog 67 #[.pointer (some ⟨g, 0, none⟩)] w fun e w' => e = .returned (.int .i64 0) ∧ SRB g s p true w' ∧ w.grownBy w' (some g) := by
  have HR := hid_intro hR
  have HH := hid_intro hr
  obtain ⟨hl, c0, c1, c2, f0, f1, f2⟩ := hR
  have hne : w.heap.size ≠ g := by omega
  clear hr
  go_enter Try.func67, Try.ntmps67
  go_wp2_with fail
  go_region_with (go_at_call 78; refine (HH.out _).mono ?_; rintro e w1 ⟨rfl, hb⟩; have HB := hid_intro hb; first | (refine then2 (SRB.below (SRB.below (show SRB g s p true w.drew from HR.out) ((Below.refl _ _).alloc (Nat.le_refl _) _)) hb) (show N3 w.heap.size (.int .i64 0) (.int .i64 0) (.int .i64 0) w1 from N3.below (N3.new w.drew 106 (.int .i64 0) (.int .i64 0) (.int .i64 0)) hb) ?_; intro hX hZ; have HX := hid_intro hX; obtain ⟨zl, z0, z1, z2, y0, y1, y2⟩ := hZ; obtain ⟨hl1, d0, d1, d2, e0, e1, e2⟩ := hX) | (refine then1 (SRB.below (show SRB g s p true w.drew from HR.out) hb) ?_; intro hX; have HX := hid_intro hX; have hl0 : ¬ w1.heap.size = g := (by have := hX.1; omega); obtain ⟨hl1, d0, d1, d2, e0, e1, e2⟩ := hX); clear hb)
  all_goals (
    go_wp2_with fail
    go_ret
    first
      | (have hzl := zl; exact ⟨rfl, ((((HX.out.other hne 0 _).other hne 1 _).other hne 2 _).setBad), gtrans (gnew (gnew (gnew (undrew (gtrans (World.grownBy_alloc _ _ _) (rgrown HB.out _))) (Nat.le_refl _)) (Nat.le_refl _)) (Nat.le_refl _)) (rset _ g 2 _)⟩)
      | exact ⟨rfl, HX.out.setBad.below ((Below.refl _ _).alloc (Nat.le_refl _) _), galloc (gtrans (undrew (rgrown HB.out _)) (rset _ g 2 _)) _⟩)
set_option maxHeartbeats 4000000 in
theorem stext_got (g : Nat) (s : ByteArray) (p q : Nat) (t : ByteArray) (w : World) (hR : SRB g s p false w)
    (hr : ∀ w, Calls Try.prog 79 #[.string s, .int .i64 p] w fun e w' => e = .returned (.agg #[.string t, .int .i64 (q : Nat), .int .i64 0]) ∧ Below w.heap.size w w') :
    Calls Try.prog 68 #[.pointer (some ⟨g, 0, none⟩)] w fun e w' => e = .returned (.string t) ∧ SRB g s q false w' ∧ w.grownBy w' (some g) := by
  have HR := hid_intro hR
  have HH := hid_intro hr
  obtain ⟨hl, c0, c1, c2, f0, f1, f2⟩ := hR
  have hne : w.heap.size ≠ g := by omega
  clear hr
  go_enter Try.func68, Try.ntmps68
  go_wp2_with fail
  go_region_with (go_at_call 79; refine (HH.out _).mono ?_; rintro e w1 ⟨rfl, hb⟩; have HB := hid_intro hb; first | (refine then2 (SRB.below (SRB.below (show SRB g s p false w.drew from HR.out) ((Below.refl _ _).alloc (Nat.le_refl _) _)) hb) (show N3 w.heap.size (.string ⟨#[]⟩) (.int .i64 0) (.int .i64 0) w1 from N3.below (N3.new w.drew 109 (.string ⟨#[]⟩) (.int .i64 0) (.int .i64 0)) hb) ?_; intro hX hZ; have HX := hid_intro hX; obtain ⟨zl, z0, z1, z2, y0, y1, y2⟩ := hZ; obtain ⟨hl1, d0, d1, d2, e0, e1, e2⟩ := hX) | (refine then1 (SRB.below (show SRB g s p false w.drew from HR.out) hb) ?_; intro hX; have HX := hid_intro hX; have hl0 : ¬ w1.heap.size = g := (by have := hX.1; omega); obtain ⟨hl1, d0, d1, d2, e0, e1, e2⟩ := hX); clear hb)
  all_goals (
    go_wp2_with fail
    go_ret
    first
      | (have hzl := zl; exact ⟨rfl, ((((HX.out.other hne 0 _).other hne 1 _).other hne 2 _).setAt q), gtrans (gnew (gnew (gnew (undrew (gtrans (World.grownBy_alloc _ _ _) (rgrown HB.out _))) (Nat.le_refl _)) (Nat.le_refl _)) (Nat.le_refl _)) (rset _ g 1 _)⟩)
      | exact ⟨rfl, (HX.out.setAt q).below ((Below.refl _ _).alloc (Nat.le_refl _) _), galloc (gtrans (undrew (rgrown HB.out _)) (rset _ g 1 _)) _⟩)
set_option maxHeartbeats 4000000 in
theorem stext_bad (g : Nat) (s : ByteArray) (p q : Nat) (t : ByteArray) (c : Int) (hc : (c == 0) = false) (w : World) (hR : SRB g s p false w)
    (hr : ∀ w, Calls Try.prog 79 #[.string s, .int .i64 p] w fun e w' => e = .returned (.agg #[.string t, .int .i64 (q : Nat), .int .i64 c]) ∧ Below w.heap.size w w') :
    Calls Try.prog 68 #[.pointer (some ⟨g, 0, none⟩)] w fun e w' => e = .returned (.string ⟨#[]⟩) ∧ SRB g s p true w' ∧ w.grownBy w' (some g) := by
  have HR := hid_intro hR
  have HH := hid_intro hr
  obtain ⟨hl, c0, c1, c2, f0, f1, f2⟩ := hR
  have hne : w.heap.size ≠ g := by omega
  have hcn : ¬ c = 0 := by simpa using hc
  have hcn2 : (c != 0) = true := by simp [hcn]
  clear hr
  go_enter Try.func68, Try.ntmps68
  go_wp2_with fail
  go_region_with (go_at_call 79; refine (HH.out _).mono ?_; rintro e w1 ⟨rfl, hb⟩; have HB := hid_intro hb; first | (refine then2 (SRB.below (SRB.below (show SRB g s p false w.drew from HR.out) ((Below.refl _ _).alloc (Nat.le_refl _) _)) hb) (show N3 w.heap.size (.string ⟨#[]⟩) (.int .i64 0) (.int .i64 0) w1 from N3.below (N3.new w.drew 109 (.string ⟨#[]⟩) (.int .i64 0) (.int .i64 0)) hb) ?_; intro hX hZ; have HX := hid_intro hX; obtain ⟨zl, z0, z1, z2, y0, y1, y2⟩ := hZ; obtain ⟨hl1, d0, d1, d2, e0, e1, e2⟩ := hX) | (refine then1 (SRB.below (show SRB g s p false w.drew from HR.out) hb) ?_; intro hX; have HX := hid_intro hX; have hl0 : ¬ w1.heap.size = g := (by have := hX.1; omega); obtain ⟨hl1, d0, d1, d2, e0, e1, e2⟩ := hX); clear hb)
  all_goals (
    go_wp2_with fail
    go_ret
    first
      | (have hzl := zl; exact ⟨rfl, ((((HX.out.other hne 0 _).other hne 1 _).other hne 2 _).setBad), gtrans (gnew (gnew (gnew (undrew (gtrans (World.grownBy_alloc _ _ _) (rgrown HB.out _))) (Nat.le_refl _)) (Nat.le_refl _)) (Nat.le_refl _)) (rset _ g 2 _)⟩)
      | exact ⟨rfl, HX.out.setBad.below ((Below.refl _ _).alloc (Nat.le_refl _) _), galloc (gtrans (undrew (rgrown HB.out _)) (rset _ g 2 _)) _⟩)
set_option maxHeartbeats 4000000 in
theorem stext_flt (g : Nat) (s : ByteArray) (p q : Nat) (t : ByteArray) (c : Int) (w : World) (hR : SRB g s p true w)
    (hr : ∀ w, Calls Try.prog 79 #[.string s, .int .i64 p] w fun e w' => e = .returned (.agg #[.string t, .int .i64 (q : Nat), .int .i64 c]) ∧ Below w.heap.size w w') :
    Calls Try.prog 68 #[.pointer (some ⟨g, 0, none⟩)] w fun e w' => e = .returned (.string ⟨#[]⟩) ∧ SRB g s p true w' ∧ w.grownBy w' (some g) := by
  have HR := hid_intro hR
  have HH := hid_intro hr
  obtain ⟨hl, c0, c1, c2, f0, f1, f2⟩ := hR
  have hne : w.heap.size ≠ g := by omega
  clear hr
  go_enter Try.func68, Try.ntmps68
  go_wp2_with fail
  go_region_with (go_at_call 79; refine (HH.out _).mono ?_; rintro e w1 ⟨rfl, hb⟩; have HB := hid_intro hb; first | (refine then2 (SRB.below (SRB.below (show SRB g s p true w.drew from HR.out) ((Below.refl _ _).alloc (Nat.le_refl _) _)) hb) (show N3 w.heap.size (.string ⟨#[]⟩) (.int .i64 0) (.int .i64 0) w1 from N3.below (N3.new w.drew 109 (.string ⟨#[]⟩) (.int .i64 0) (.int .i64 0)) hb) ?_; intro hX hZ; have HX := hid_intro hX; obtain ⟨zl, z0, z1, z2, y0, y1, y2⟩ := hZ; obtain ⟨hl1, d0, d1, d2, e0, e1, e2⟩ := hX) | (refine then1 (SRB.below (show SRB g s p true w.drew from HR.out) hb) ?_; intro hX; have HX := hid_intro hX; have hl0 : ¬ w1.heap.size = g := (by have := hX.1; omega); obtain ⟨hl1, d0, d1, d2, e0, e1, e2⟩ := hX); clear hb)
  all_goals (
    go_wp2_with fail
    go_ret
    first
      | (have hzl := zl; exact ⟨rfl, ((((HX.out.other hne 0 _).other hne 1 _).other hne 2 _).setBad), gtrans (gnew (gnew (gnew (undrew (gtrans (World.grownBy_alloc _ _ _) (rgrown HB.out _))) (Nat.le_refl _)) (Nat.le_refl _)) (Nat.le_refl _)) (rset _ g 2 _)⟩)
      | exact ⟨rfl, HX.out.setBad.below ((Below.refl _ _).alloc (Nat.le_refl _) _), galloc (gtrans (undrew (rgrown HB.out _)) (rset _ g 2 _)) _⟩)
/-- What a read of the model's leaves: the reader behind it, with or without a fault. -/
def SAfter (g : Nat) (s : ByteArray) (o : Option Nat) (w : World) : Prop := match o with
  | some p => p ≤ 8000 ∧ SRB g s p false w
  | none => ∃ p, p ≤ 8000 ∧ SRB g s p true w
theorem srnum (g : Nat) (s : ByteArray) (o : Option Nat) (w : World) (hs : s.size ≤ 8000) (h : SAfter g s o w) :
    Calls Try.prog 67 #[.pointer (some ⟨g, 0, none⟩)] w fun e w' => e = .returned (.int .i64 (((o.bind (numAt s)).map (·.1)).getD 0)) ∧ SAfter g s ((o.bind (numAt s)).map (·.2)) w' ∧ w.grownBy w' (some g) := by
  cases o with
  | none =>
    obtain ⟨p, hp, h⟩ := h
    rcases num_spec s p hs hp with ⟨n, q, hn, _, hq, hc⟩ | ⟨hn, c, hc0, hc⟩
    · exact (snum_flt g s p q n 0 w h hc).mono fun e w' ⟨h1, h2, h3⟩ => ⟨h1, ⟨p, hp, h2⟩, h3⟩
    · exact (snum_flt g s p 0 0 c w h hc).mono fun e w' ⟨h1, h2, h3⟩ => ⟨h1, ⟨p, hp, h2⟩, h3⟩
  | some p =>
    rcases num_spec s p hs h.1 with ⟨n, q, hn, _, hq, hc⟩ | ⟨hn, c, hc0, hc⟩
    · refine (snum_got g s p q n w h.2 hc).mono fun e w' ⟨h1, h2, h3⟩ => ?_
      simp only [Option.bind_some, hn]
      exact ⟨h1, ⟨hq, h2⟩, h3⟩
    · refine (snum_bad g s p 0 0 c hc0 w h.2 hc).mono fun e w' ⟨h1, h2, h3⟩ => ?_
      simp only [Option.bind_some, hn]
      exact ⟨h1, ⟨p, h.1, h2⟩, h3⟩
theorem srtext (g : Nat) (s : ByteArray) (o : Option Nat) (w : World) (hs : s.size ≤ 8000) (h : SAfter g s o w) :
    Calls Try.prog 68 #[.pointer (some ⟨g, 0, none⟩)] w fun e w' => e = .returned (.string (((o.bind (txtAt s)).map (·.1)).getD ⟨#[]⟩)) ∧ SAfter g s ((o.bind (txtAt s)).map (·.2)) w' ∧ w.grownBy w' (some g) := by
  cases o with
  | none =>
    obtain ⟨p, hp, h⟩ := h
    rcases txt_spec s p hs hp with ⟨n, q, hn, _, hq, hc⟩ | ⟨hn, c, hc0, hc⟩
    · exact (stext_flt g s p q n 0 w h hc).mono fun e w' ⟨h1, h2, h3⟩ => ⟨h1, ⟨p, hp, h2⟩, h3⟩
    · exact (stext_flt g s p 0 ⟨#[]⟩ c w h hc).mono fun e w' ⟨h1, h2, h3⟩ => ⟨h1, ⟨p, hp, h2⟩, h3⟩
  | some p =>
    rcases txt_spec s p hs h.1 with ⟨n, q, hn, _, hq, hc⟩ | ⟨hn, c, hc0, hc⟩
    · refine (stext_got g s p q n w h.2 hc).mono fun e w' ⟨h1, h2, h3⟩ => ?_
      simp only [Option.bind_some, hn]
      exact ⟨h1, ⟨hq, h2⟩, h3⟩
    · refine (stext_bad g s p 0 ⟨#[]⟩ c hc0 w h.2 hc).mono fun e w' ⟨h1, h2, h3⟩ => ?_
      simp only [Option.bind_some, hn]
      exact ⟨h1, ⟨p, h.1, h2⟩, h3⟩
end EvtR
end Go.Proofs.Ytmilejcpdfhmmaa
