/-
  The program's reading of a window. The conditions: what the readers ask for.
  What the program calls a right window. The conditions: texts of at most 1048576 bytes, lists of at most 1048576; the program's table stands in its variable.
  What the model calls a window's right tags. The conditions: at most 1048576 tags of at most 1048576 bytes.
  A region that draws its order, in a class of worlds that all hold some facts: one walk of the order of the text serves. No condition.
  What the model calls a window's right hours. The conditions: at most 12 hours; the sum is one that may be.
  What the model calls a right window. The conditions: texts of at most 1048576 bytes, at most 1048576 tags.
  A text's bytes: both sides put the same. No condition but the length.
  Parts of texts that are joined, and lists of texts of one's own. No condition.
  The bytes of a window, on both sides. The conditions: texts of at most 1048576 bytes, lists of at most 1048576; the program's table stands in its variable.
  The bytes of a window, the model's side, and both sides. The conditions: texts of at most 1048576 bytes, lists of at most 1048576; the program's table stands in its variable.
  What a window's text comes to when it is read: what is read is spelled by just its bytes. Bytes alone. No condition.
  The zero window. No condition.
  A window handed back with its code. No condition.
  The law's own mark, a text. The condition: its number is 1 to 99999999.
  The law's own marks in a window's lists: written, and found again. The conditions: lists of at most 1048576, marks from 1 to 10000000 on.
-/
import Derived.BigQuiet
import Derived.Deep.QuietTactic
import Derived.OwnWalk
import Derived.Lib.ConvBytes
import Derived.Laws.BytesArg
import Derived.Deep.RegionHeld3
import Derived.Test.YtnlmpejgiakepaaDoorR3
namespace Go.Proofs.YtnlmpejgiakepaaDoor
open Go.ChangeShapes Go.WideShapes Go.ChangeAt Go.RowKit
set_option linter.unusedVariables false
namespace WinR
open RowG (MadeG Rws cellsAll)
open EvtR (Pt After Reads gtrans)
open CatR (Blk Blk.new)
theorem memo0 {goal : Prop} (F : World → Prop) {G : World → Prop} (h1 : Hid (∀ W, F W → G W) → goal) (h2 : ∀ W, F W → G W) : goal := h1 h2
theorem memo1 {goal : Prop} (F : Nat → World → Prop) {G : Nat → World → Prop} (h1 : Hid (∀ x0 W, F x0 W → G x0 W) → goal) (h2 : ∀ x0 W, F x0 W → G x0 W) : goal := h1 h2
theorem memo2 {goal : Prop} (F : Nat → Nat → World → Prop) {G : Nat → Nat → World → Prop} (h1 : Hid (∀ x0 x1 W, F x0 x1 W → G x0 x1 W) → goal) (h2 : ∀ x0 x1 W, F x0 x1 W → G x0 x1 W) : goal := h1 h2
theorem memo3 {goal : Prop} (F : Nat → Nat → Nat → World → Prop) {G : Nat → Nat → Nat → World → Prop} (h1 : Hid (∀ x0 x1 x2 W, F x0 x1 x2 W → G x0 x1 x2 W) → goal) (h2 : ∀ x0 x1 x2 W, F x0 x1 x2 W → G x0 x1 x2 W) : goal := h1 h2
theorem memo4 {goal : Prop} (F : Nat → Nat → Nat → Nat → World → Prop) {G : Nat → Nat → Nat → Nat → World → Prop} (h1 : Hid (∀ x0 x1 x2 x3 W, F x0 x1 x2 x3 W → G x0 x1 x2 x3 W) → goal) (h2 : ∀ x0 x1 x2 x3 W, F x0 x1 x2 x3 W → G x0 x1 x2 x3 W) : goal := h1 h2
theorem memo5 {goal : Prop} (F : Nat → Nat → Nat → Nat → Nat → World → Prop) {G : Nat → Nat → Nat → Nat → Nat → World → Prop} (h1 : Hid (∀ x0 x1 x2 x3 x4 W, F x0 x1 x2 x3 x4 W → G x0 x1 x2 x3 x4 W) → goal) (h2 : ∀ x0 x1 x2 x3 x4 W, F x0 x1 x2 x3 x4 W → G x0 x1 x2 x3 x4 W) : goal := h1 h2
theorem memo6 {goal : Prop} (F : Nat → Nat → Nat → Nat → Nat → Nat → World → Prop) {G : Nat → Nat → Nat → Nat → Nat → Nat → World → Prop} (h1 : Hid (∀ x0 x1 x2 x3 x4 x5 W, F x0 x1 x2 x3 x4 x5 W → G x0 x1 x2 x3 x4 x5 W) → goal) (h2 : ∀ x0 x1 x2 x3 x4 x5 W, F x0 x1 x2 x3 x4 x5 W → G x0 x1 x2 x3 x4 x5 W) : goal := h1 h2
theorem memo7 {goal : Prop} (F : Nat → Nat → Nat → Nat → Nat → Nat → Nat → World → Prop) {G : Nat → Nat → Nat → Nat → Nat → Nat → Nat → World → Prop} (h1 : Hid (∀ x0 x1 x2 x3 x4 x5 x6 W, F x0 x1 x2 x3 x4 x5 x6 W → G x0 x1 x2 x3 x4 x5 x6 W) → goal) (h2 : ∀ x0 x1 x2 x3 x4 x5 x6 W, F x0 x1 x2 x3 x4 x5 x6 W → G x0 x1 x2 x3 x4 x5 x6 W) : goal := h1 h2
theorem memo8 {goal : Prop} (F : Nat → Nat → Nat → Nat → Nat → Nat → Nat → Nat → World → Prop) {G : Nat → Nat → Nat → Nat → Nat → Nat → Nat → Nat → World → Prop} (h1 : Hid (∀ x0 x1 x2 x3 x4 x5 x6 x7 W, F x0 x1 x2 x3 x4 x5 x6 x7 W → G x0 x1 x2 x3 x4 x5 x6 x7 W) → goal) (h2 : ∀ x0 x1 x2 x3 x4 x5 x6 x7 W, F x0 x1 x2 x3 x4 x5 x6 x7 W → G x0 x1 x2 x3 x4 x5 x6 x7 W) : goal := h1 h2
theorem memo9 {goal : Prop} (F : Nat → Nat → Nat → Nat → Nat → Nat → Nat → Nat → Nat → World → Prop) {G : Nat → Nat → Nat → Nat → Nat → Nat → Nat → Nat → Nat → World → Prop} (h1 : Hid (∀ x0 x1 x2 x3 x4 x5 x6 x7 x8 W, F x0 x1 x2 x3 x4 x5 x6 x7 x8 W → G x0 x1 x2 x3 x4 x5 x6 x7 x8 W) → goal) (h2 : ∀ x0 x1 x2 x3 x4 x5 x6 x7 x8 W, F x0 x1 x2 x3 x4 x5 x6 x7 x8 W → G x0 x1 x2 x3 x4 x5 x6 x7 x8 W) : goal := h1 h2
theorem gnewG {w wx wy : World} {g X : Nat} (h : w.grownBy wx (some g)) (hg : wx.grownBy wy (some X)) (hX : w.heap.size ≤ X) : w.grownBy wy (some g) := by
  refine ⟨hg.os.trans h.os, hg.tape.trans h.tape, hg.output.trans h.output, Nat.le_trans h.size hg.size, fun k hk hne => ?_⟩
  have hs := h.size
  exact (hg.block k (by omega) (by intro e; cases e; omega)).trans (h.block k hk hne)
theorem gnewR {w wx wy : World} {g : Nat} {row : Option Nat} (h : w.grownBy wx (some g)) (hg : wx.grownBy wy row) (hX : ∀ X, row = some X → w.heap.size ≤ X) : w.grownBy wy (some g) := by
  refine ⟨hg.os.trans h.os, hg.tape.trans h.tape, hg.output.trans h.output, Nat.le_trans h.size hg.size, fun k hk hne => ?_⟩
  have hs := h.size
  exact (hg.block k (by omega) (by intro e; have := hX k e.symm; omega)).trans (h.block k hk hne)
theorem galloc {w wx : World} {g : Nat} (h : w.grownBy wx (some g)) (o : Obj) : w.grownBy (wx.alloc o) (some g) := gtrans h (World.grownBy_alloc wx o _)
theorem after_grown {g : Nat} {s : ByteArray} {o : Option Nat} {w w' : World} {row : Option Nat} (h : After g s o w) (hg : w.grownBy w' row) (hne : some g ≠ row) : After g s o w' := by
  have key : ∀ p f, EvtR.RdB g s p f w → EvtR.RdB g s p f w' := by
    intro p f hr
    obtain ⟨hl, c0, c1, c2, f0, f1, f2⟩ := hr
    have e := hg.block g hl hne
    have c := fun j => World.cell?_of_block (a := ⟨g, j, none⟩) e
    have z := fun j => World.frozen?_of_block (a := ⟨g, j, none⟩) e
    exact ⟨by have := hg.size; omega, (c 0).trans c0, (c 1).trans c1, (c 2).trans c2, (z 0).trans f0, (z 1).trans f1, (z 2).trans f2⟩
  cases o with
  | none => obtain ⟨p, c, h⟩ := h; exact ⟨p, c, key _ _ h⟩
  | some p => exact ⟨h.1, key _ _ h.2⟩
theorem blkW_pt {b n : Nat} {cs : List Value} {w : World} (h : BlkW b cs w) (hn : cs.length = n) : Pt b n w := by
  subst hn
  exact ⟨h.1.1, fun o ho => ⟨cs[o], by rw [h.1.2 o ho]; simp [ho]⟩, h.2⟩
theorem stL_blkW {b : Nat} {cs vs : List Value} {w : World} (h : BlkW b cs w) (hn : cs.length = vs.length) : BlkW b vs (StR.stL w b 0 vs) := by
  have hp := blkW_pt h hn
  exact ⟨StR.stL_blk hp (Nat.le_refl _), fun i hi => (StR.stL_pt vs 0 w hp).free i hi⟩
theorem own_keepG {w w' : World} {base e size n : Nat} {v : Value} {xs : List Value} {g : Nat} (h : w.ownsRow base e size v n xs) (hg : w.grownBy w' (some g)) (hlt : g < base) : w'.ownsRow base e size v n xs := by
  refine h.kept hg ?_
  rcases hob : v.ownBlock with _ | b
  · exact .inl rfl
  · refine .inr (fun e => ?_)
    have := (h.lt b hob).1
    simp only [Option.some.injEq] at e
    omega
theorem own_apart {w : World} {base e size n base' e' size' n' : Nat} {v v' : Value} {xs xs' : List Value} (h : w.ownsRow base e size v n xs) (h' : w.ownsRow base' e' size' v' n' xs') (hT : e' ≠ e) : ∀ b, v.ownBlock = some b → some b ≠ v'.ownBlock := by
  intro b hb q
  rcases h.2 with ⟨h0, _⟩ | ⟨g, cap, cur, hv, _, hh, _⟩
  · rw [h0] at hb; simp [Value.ownBlock] at hb
  · rw [hv] at hb
    simp only [Value.ownBlock, Option.some.injEq] at hb
    rcases h'.2 with ⟨h0, _⟩ | ⟨g2, cap2, cur2, hv2, _, hh2, _⟩
    · rw [h0] at q; simp [Value.ownBlock] at q
    · rw [hv2] at q
      simp only [Value.ownBlock, Option.some.injEq] at q
      subst hb
      subst q
      rw [hh2] at hh
      simp at hh
      exact hT hh.2
theorem own_keepO {w w' : World} {base e size n : Nat} {v : Value} {xs : List Value} {row : Option Nat} (h : w.ownsRow base e size v n xs) (hg : w.grownBy w' row) (hne : ∀ b, v.ownBlock = some b → some b ≠ row) : w'.ownsRow base e size v n xs := by
  refine h.kept hg ?_
  rcases hob : v.ownBlock with _ | b
  · exact .inl rfl
  · exact .inr (hne b hob)
theorem own_low {w : World} {base base' e size n : Nat} {v : Value} {xs : List Value} (h : w.ownsRow base e size v n xs) (hb : base' ≤ base) : w.ownsRow base' e size v n xs := by
  refine ⟨h.1, ?_⟩
  rcases h.2 with hn | ⟨g, cap, cur, rfl, h1, rest⟩
  · exact .inl hn
  · exact .inr ⟨g, cap, cur, rfl, by omega, rest⟩
theorem cellsAll_snoc {α : Type} (cells : α → List Value) (l : List α) (x : α) : cellsAll cells (l ++ [x]) = cellsAll cells l ++ cells x := by simp [cellsAll]
theorem own_form {w : World} {base e size n : Nat} {v : Value} {xs : List Value} (h : w.ownsRow base e size v (n + 1) xs) : ∃ b c, v = .slice (some ⟨b, 0, none⟩) (n + 1) c := by
  rcases h.2 with ⟨_, h0⟩ | ⟨g, cap, cur, hv, _⟩
  · omega
  · exact ⟨_, _, hv⟩
theorem one_cellS (w : World) (x : ByteArray) (T : TypeId) : ∀ j u, [Value.string x][j]? = some u → (w.alloc (.cells #[.string x] T)).cell? ((⟨w.heap.size, 0, none⟩ : Addr).add j) = some u := one_cell w x T
theorem hr_cells (w : World) (x y : Int) (T : TypeId) : ∀ j u, [Value.int .i64 x, Value.int .i64 y][j]? = some u → (w.alloc (.cells #[.int .i64 x, .int .i64 y] T)).cell? ((⟨w.heap.size, 0, none⟩ : Addr).add j) = some u := by
  intro j u hj
  match j, hj with
  | 0, hj => simp at hj; subst hj; simp [Addr.add]
  | 1, hj => simp at hj; subst hj; simp [Addr.add, go_sem]
theorem hr_one (x y : Int) : ∀ u ∈ [Value.int .i64 x, Value.int .i64 y], u.oneCell' = true := by
  intro u hu
  simp at hu
  rcases hu with rfl | rfl <;> rfl
set_option maxRecDepth 100000 in
set_option maxHeartbeats 16000000 in
theorem iread_in (g : Nat) (s : ByteArray) (o0 o1 o2 o3 o4 o5 o6 : Option Nat) (a m : ByteArray) (mo ev su mx : Int) (C D : Nat) (PT PH : Nat → Option Nat) (LT : Nat → List ByteArray) (LH : Nat → List H) (tg : Nat → ByteArray) (hh ss : Nat → Int) (w : World) (hA : After g s o0 w)
    (r1 : Reads 69 g s o0 o1 (.string a)) (r2 : Reads 69 g s o1 o2 (.string m)) (r3 : Reads 70 g s o2 o3 (.int .i64 mo)) (r4 : Reads 70 g s o3 o4 (.int .i64 ev)) (r5 : Reads 70 g s o4 o5 (.int .i64 su)) (r6 : Reads 70 g s o5 o6 (.int .i64 mx))
    (rc1 : ∀ w, After g s o6 w → Calls Tryd.prog 71 #[.pointer (some ⟨g, 0, none⟩), .int .i64 12] w fun e w' => e = .returned (.int .i64 C) ∧ After g s (PT 0) w' ∧ w.grownBy w' (some g))
    (rt : ∀ k, Reads 69 g s (PT k) (PT (k + 1)) (.string (tg k)))
    (rc2 : ∀ w, After g s (PT C) w → Calls Tryd.prog 71 #[.pointer (some ⟨g, 0, none⟩), .int .i64 12] w fun e w' => e = .returned (.int .i64 D) ∧ After g s (PH 0) w' ∧ w.grownBy w' (some g))
    (rh : ∀ k, ∃ om, Reads 70 g s (PH k) om (.int .i64 (hh k)) ∧ Reads 70 g s om (PH (k + 1)) (.int .i64 (ss k)))
    (hC : C ≤ 12) (hD : D ≤ 12) (hT0 : LT 0 = []) (hTM : ∀ k, LT (k + 1) = LT k ++ [tg k]) (hH0 : LH 0 = []) (hHM : ∀ k, LH (k + 1) = LH k ++ [⟨hh k, ss k⟩]) :
    Calls Tryd.prog 38 #[.pointer (some ⟨g, 0, none⟩)] w fun e w' => ∃ ta tc ha hc, e = .returned (.agg #[.string a, .string m, .int .i64 mo, .int .i64 ev, .int .i64 su, .int .i64 mx, .slice ta C tc, .slice ha D hc]) ∧ w'.ownsRow w.heap.size 9 1 (.slice ta C tc) C (cellsAll tcells (LT C)) ∧ w'.ownsRow w.heap.size 65 2 (.slice ha D hc) D (cellsAll H.cells (LH D)) ∧ After g s (PH D) w' ∧ w.grownBy w' (some g) := by
  obtain ⟨i0, hi, hz0, hz1, hz2⟩ := info_parts infoT
  obtain ⟨j0, gi, gz0, gz1, gz2⟩ := info_parts infoH
  have R1 := hid_intro r1
  have R2 := hid_intro r2
  have R3 := hid_intro r3
  have R4 := hid_intro r4
  have R5 := hid_intro r5
  have R6 := hid_intro r6
  have RC1 := hid_intro rc1
  have RT := hid_intro rt
  have RC2 := hid_intro rc2
  have RH := hid_intro rh
  have HT0 := hid_intro hT0
  have HTM := hid_intro hTM
  have HH0 := hid_intro hH0
  have HHM := hid_intro hHM
  have hgw : g < w.heap.size := hA.lt
  obtain ⟨W0, hW0⟩ : ∃ W0, W0 = w.alloc (.cells #[.string ⟨#[]⟩, .string ⟨#[]⟩, .int .i64 0, .int .i64 0, .int .i64 0, .int .i64 0, .slice none 0 0, .slice none 0 0] 32) := ⟨_, rfl⟩
  have HA0 : Hid (After g s o0 W0) := hid_intro (by rw [hW0]; exact hA.alloc _)
  have HG0 : Hid (w.grownBy W0 (some g)) := hid_intro (by rw [hW0]; exact World.grownBy_alloc w _ _)
  have HR0 : Hid (BlkW w.heap.size [.string ⟨#[]⟩, .string ⟨#[]⟩, .int .i64 0, .int .i64 0, .int .i64 0, .int .i64 0, .slice none 0 0, .slice none 0 0] W0) := hid_intro (by rw [hW0]; exact BlkW.new w [.string ⟨#[]⟩, .string ⟨#[]⟩, .int .i64 0, .int .i64 0, .int .i64 0, .int .i64 0, .slice none 0 0, .slice none 0 0] 32)
  have HW := hid_intro hW0
  clear r1 r2 r3 r4 r5 r6 rc1 rt rc2 rh hT0 hTM hH0 hHM hA hW0
  have sz3 : 0 < 1 := by omega
  have gsz3 : 0 < 2 := by omega
  go_enter Tryd.func38, Tryd.ntmps38
  go_wp2_with fail
  rw [← HW.out]
  clear HW
  have HA := HA0
  have HG := HG0
  have HR := HR0
  clear HA0 HG0 HR0
  refine (R1.out _ HA.out).mono ?_
  rintro e q1 ⟨rfl, hA, hq⟩
  replace HA := hid_intro hA
  replace HG := hid_intro (gtrans HG.out hq)
  replace HR := hid_intro (HR.out.grown hq (by simp; omega))
  clear hA hq
  go_wp2_with fail
  refine (R2.out _ HA.out).mono ?_
  rintro e q2 ⟨rfl, hA, hq⟩
  replace HA := hid_intro hA
  replace HG := hid_intro (gtrans HG.out hq)
  replace HR := hid_intro (HR.out.grown hq (by simp; omega))
  clear hA hq
  go_wp2_with fail
  refine (R3.out _ HA.out).mono ?_
  rintro e q3 ⟨rfl, hA, hq⟩
  replace HA := hid_intro hA
  replace HG := hid_intro (gtrans HG.out hq)
  replace HR := hid_intro (HR.out.grown hq (by simp; omega))
  clear hA hq
  go_wp2_with fail
  refine (R4.out _ HA.out).mono ?_
  rintro e q4 ⟨rfl, hA, hq⟩
  replace HA := hid_intro hA
  replace HG := hid_intro (gtrans HG.out hq)
  replace HR := hid_intro (HR.out.grown hq (by simp; omega))
  clear hA hq
  go_wp2_with fail
  refine (R5.out _ HA.out).mono ?_
  rintro e q5 ⟨rfl, hA, hq⟩
  replace HA := hid_intro hA
  replace HG := hid_intro (gtrans HG.out hq)
  replace HR := hid_intro (HR.out.grown hq (by simp; omega))
  clear hA hq
  go_wp2_with fail
  refine (R6.out _ HA.out).mono ?_
  rintro e q6 ⟨rfl, hA, hq⟩
  replace HA := hid_intro hA
  replace HG := hid_intro (gtrans HG.out hq)
  replace HR := hid_intro (HR.out.grown hq (by simp; omega))
  clear hA hq
  obtain ⟨wA, hwA⟩ : ∃ z, z = q6.alloc (.cells #[.string a, .string m, .int .i64 mo, .int .i64 ev, .int .i64 su, .int .i64 mx, .slice none 0 0, .slice none 0 0] 32) := ⟨_, rfl⟩
  have HV : Hid (BlkW q6.heap.size [.string a, .string m, .int .i64 mo, .int .i64 ev, .int .i64 su, .int .i64 mx, .slice none 0 0, .slice none 0 0] wA) := hid_intro (by rw [hwA]; exact BlkW.new q6 [.string a, .string m, .int .i64 mo, .int .i64 ev, .int .i64 su, .int .i64 mx, .slice none 0 0, .slice none 0 0] 32)
  have hlo : w.heap.size < q6.heap.size := HR.out.1.1
  replace HA : Hid (After g s o6 wA) := hid_intro (by rw [hwA]; exact HA.out.alloc _)
  replace HG : Hid (w.grownBy wA (some g)) := hid_intro (by rw [hwA]; exact galloc HG.out _)
  replace HR : Hid (BlkW w.heap.size [.string ⟨#[]⟩, .string ⟨#[]⟩, .int .i64 0, .int .i64 0, .int .i64 0, .int .i64 0, .slice none 0 0, .slice none 0 0] wA) := hid_intro (by rw [hwA]; exact HR.out.below ((Below.refl _ _).alloc (Nat.le_refl _) _))
  have HW := hid_intro hwA
  obtain ⟨bV, hbV⟩ : ∃ z, z = q6.heap.size := ⟨_, rfl⟩
  rw [← hbV] at HV hlo
  have HBV := hid_intro hbV
  clear hwA hbV
  go_wp2_with fail
  rw [← HW.out, ← HBV.out]
  clear HW HBV
  refine (RC1.out _ HA.out).mono ?_
  rintro e wB ⟨rfl, hA, hq⟩
  replace HA := hid_intro hA
  replace HG := hid_intro (gtrans HG.out hq)
  replace HR := hid_intro (HR.out.grown hq (by simp; omega))
  replace HV := hid_intro (HV.out.grown hq (by simp; omega))
  clear hA hq
  go_wp2_with fail
  go_loopw [19] (fun z wr => ∃ (k : Nat) (ta : Option Addr) (tc : Nat), k ≤ C ∧ z = .int .i64 k ∧ Hid (After g s (PT k) wr) ∧ Hid (w.grownBy wr (some g)) ∧ Hid (BlkW w.heap.size [.string ⟨#[]⟩, .string ⟨#[]⟩, .int .i64 0, .int .i64 0, .int .i64 0, .int .i64 0, .slice none 0 0, .slice none 0 0] wr) ∧ Hid (BlkW bV [.string a, .string m, .int .i64 mo, .int .i64 ev, .int .i64 su, .int .i64 mx, .slice ta k tc, .slice none 0 0] wr) ∧ Hid (wr.ownsRow (bV + 1) 9 1 (.slice ta k tc) k (cellsAll tcells (LT k)))) (fun z _ => C - (intOf z).toNat)
  case atStart => exact ⟨0, none, 0, by omega, rfl, HA, HG, HR, HV, hid_intro (by rw [HT0.out]; exact World.ownsRow_nil _ _ _ _)⟩
  case round =>
    clear HA HG HR HV
    obtain ⟨k, ta, tc, hk, rfl, HA, HG, HR, HV, HO⟩ := hrel
    by_cases hlt : k < C
    · have hlt2 : (k : Int) < (C : Int) := by omega
      have RD1 := hid_intro (RT.out k)
      have HLM := hid_intro (HTM.out k)
      generalize tg k = X at *
      have sz1 : k + 1 ≤ maxLen := by unfold maxLen; omega
      have sz2 : (k + 1) * 16 ≤ 140737488355328 := by omega
      have hA0 := EvtR.After.below HA.out (Below.refl wr.heap.size wr).drew
      have hG0 := gtrans HG.out (EvtR.rgrown (Below.refl wr.heap.size wr).drew _)
      have hR0 := HR.out.below (Below.refl wr.heap.size wr).drew
      have hV0 := HV.out.below (Below.refl wr.heap.size wr).drew
      have hO0 := RowG.own_below HO.out (Below.refl wr.heap.size wr).drew
      have hbg : g < bV := by omega
      go_wp2_with fail
      refine wp_region_held_drew (S := (fun _ => True)) (by kernel_rfl) trivial (fun hHeld => ?_)
      generalize wr.drew = kd at *
      apply memo3 (fun bN sb sc W => (True) ∧ (After g s (PT (k + 1)) W) ∧ (w.grownBy W (some g)) ∧ (BlkW w.heap.size [.string ⟨#[]⟩, .string ⟨#[]⟩, .int .i64 0, .int .i64 0, .int .i64 0, .int .i64 0, .slice none 0 0, .slice none 0 0] W) ∧ (BlkW bV [.string a, .string m, .int .i64 mo, .int .i64 ev, .int .i64 su, .int .i64 mx, .slice ta k tc, .slice none 0 0] W) ∧ (W.ownsRow (bV + 1) 9 1 (.slice (some ⟨sb, 0, none⟩) (k + 1) sc) (k + 1) (cellsAll tcells (LT (k + 1)))) ∧ True)
      · intro N1_3_4_5
        apply memo1 (fun bN W => (True) ∧ (After g s (PT (k + 1)) W) ∧ (w.grownBy W (some g)) ∧ (BlkW w.heap.size [.string ⟨#[]⟩, .string ⟨#[]⟩, .int .i64 0, .int .i64 0, .int .i64 0, .int .i64 0, .slice none 0 0, .slice none 0 0] W) ∧ (BlkW bV [.string a, .string m, .int .i64 mo, .int .i64 ev, .int .i64 su, .int .i64 mx, .slice ta k tc, .slice none 0 0] W) ∧ (W.ownsRow (bV + 1) 9 1 (.slice ta k tc) k (cellsAll tcells (LT k))) ∧ (∀ j u, ([.string X] : List Value)[j]? = some u → W.cell? ((⟨bN, 0, none⟩ : Addr).add j) = some u) ∧ (bV < bN) ∧ True)
        · intro N1_3_4
          apply memo0 (fun  W => (True) ∧ (After g s (PT (k + 1)) W) ∧ (w.grownBy W (some g)) ∧ (BlkW w.heap.size [.string ⟨#[]⟩, .string ⟨#[]⟩, .int .i64 0, .int .i64 0, .int .i64 0, .int .i64 0, .slice none 0 0, .slice none 0 0] W) ∧ (BlkW bV [.string a, .string m, .int .i64 mo, .int .i64 ev, .int .i64 su, .int .i64 mx, .slice ta k tc, .slice none 0 0] W) ∧ (W.ownsRow (bV + 1) 9 1 (.slice ta k tc) k (cellsAll tcells (LT k))) ∧ True)
          · intro N1_3
            apply memo1 (fun bN W => (True) ∧ (After g s (PT (k + 1)) W) ∧ (w.grownBy W (some g)) ∧ (BlkW w.heap.size [.string ⟨#[]⟩, .string ⟨#[]⟩, .int .i64 0, .int .i64 0, .int .i64 0, .int .i64 0, .slice none 0 0, .slice none 0 0] W) ∧ (BlkW bV [.string a, .string m, .int .i64 mo, .int .i64 ev, .int .i64 su, .int .i64 mx, .slice ta k tc, .slice none 0 0] W) ∧ (W.ownsRow (bV + 1) 9 1 (.slice ta k tc) k (cellsAll tcells (LT k))) ∧ (∀ j u, ([.string X] : List Value)[j]? = some u → W.cell? ((⟨bN, 0, none⟩ : Addr).add j) = some u) ∧ (bV < bN) ∧ True)
            · intro N3_4
              apply memo0 (fun  W => (True) ∧ (After g s (PT k) W) ∧ (w.grownBy W (some g)) ∧ (BlkW w.heap.size [.string ⟨#[]⟩, .string ⟨#[]⟩, .int .i64 0, .int .i64 0, .int .i64 0, .int .i64 0, .slice none 0 0, .slice none 0 0] W) ∧ (BlkW bV [.string a, .string m, .int .i64 mo, .int .i64 ev, .int .i64 su, .int .i64 mx, .slice ta k tc, .slice none 0 0] W) ∧ (W.ownsRow (bV + 1) 9 1 (.slice ta k tc) k (cellsAll tcells (LT k))) ∧ True)
              · intro N1
                apply memo0 (fun  W => (True) ∧ (After g s (PT (k + 1)) W) ∧ (w.grownBy W (some g)) ∧ (BlkW w.heap.size [.string ⟨#[]⟩, .string ⟨#[]⟩, .int .i64 0, .int .i64 0, .int .i64 0, .int .i64 0, .slice none 0 0, .slice none 0 0] W) ∧ (BlkW bV [.string a, .string m, .int .i64 mo, .int .i64 ev, .int .i64 su, .int .i64 mx, .slice ta k tc, .slice none 0 0] W) ∧ (W.ownsRow (bV + 1) 9 1 (.slice ta k tc) k (cellsAll tcells (LT k))) ∧ True)
                · intro N3
                  refine wpAnyH_take (i := 0) (oi := { dst := some 21, op := Op.fieldAddr 32 (Operand.tmp 3) 6, type := 0, pos := "l07_window.go:224", after := #[], guard := none }) (v := ?_) rfl (by kernel_rfl) (by kernel_rfl) (by kernel_rfl) (fun _ _ _ h => h) (Or.inl ⟨by rfl, ?_⟩) (by assumption) ?_
                  rotate_left
                  · (intro w hSw; (try dsimp only at hSw); go_simp) <;> with_reducible rfl
                  try simp only [Act.put, List.setIfInBounds_toArray, List.set_cons_zero, List.set_cons_succ]
                  refine wpAnyH_take (i := 2) (oi := { dst := some 23, op := Op.move (Operand.tmp 0), type := 67, pos := "l07_window.go:224", after := #[], guard := none }) (v := ?_) rfl (by kernel_rfl) (by kernel_rfl) (by kernel_rfl) (fun _ _ _ h => h) (Or.inl ⟨by rfl, ?_⟩) (by assumption) ?_
                  rotate_left
                  · (intro w hSw; (try dsimp only at hSw); go_simp) <;> with_reducible rfl
                  try simp only [Act.put, List.setIfInBounds_toArray, List.set_cons_zero, List.set_cons_succ]
                  refine wpAnyH_ready (rs := [1, 3]) (by kernel_rfl) (by simp) ?_
                  refine AllReadyH.cons (o := { dst := some 22, op := Op.load 22 (Operand.tmp 21), type := 22, pos := "l07_window.go:224", after := #[{ on := 0, ground := Ground.data }], guard := none }) rfl (fun K hK => ?_) (AllReadyH.cons (o := { dst := some 24, op := Op.call { callee := Callee.value (Operand.func 69), args := #[Operand.tmp 23], argTypes := #[67] }, type := 9, pos := "l07_window.go:224", after := #[{ on := 2, ground := Ground.data }], guard := none }) rfl (fun K hK => ?_) AllReadyH.nil)
                  · have c6 := hV0.1.2 6 (by simp)
                    have l6 := hV0.1.1
                    simp only [List.getElem?_cons_zero, List.getElem?_cons_succ] at c6
                    go_simp
                    try go_wp2_with fail
                    refine hK.out _ _ trivial (fun _ => ?_)
                    clear hK K
                    try simp only [Act.put, List.setIfInBounds_toArray, List.set_cons_zero, List.set_cons_succ]
                    clear c6 l6
                    exact N1.out  kd ⟨trivial, hA0, hG0, hR0, hV0, hO0, trivial⟩
                  · go_simp
                    go_at_call 69
                    refine (RD1.out _ hA0).mono ?_
                    rintro e q1 ⟨rfl, hA1, hq1⟩
                    try go_wp2_with fail
                    have hG1 := gtrans hG0 hq1
                    have hR1 := hR0.grown hq1 (by simp; omega)
                    have hV1 := hV0.grown hq1 (by simp; omega)
                    have hO1 := own_keepG hO0 hq1 (by omega)
                    refine hK.out _ _ trivial (fun _ => ?_)
                    clear hK K
                    try simp only [Act.put, List.setIfInBounds_toArray, List.set_cons_zero, List.set_cons_succ]
                    exact N3.out  q1 ⟨trivial, hA1, hG1, hR1, hV1, hO1, trivial⟩
                · rintro  W ⟨hTr, hA0, hG0, hR0, hV0, hO0, _⟩
                  refine wpAnyH_ready (rs := [1, 4]) (by kernel_rfl) (by simp) ?_
                  refine AllReadyH.cons (o := { dst := some 22, op := Op.load 22 (Operand.tmp 21), type := 22, pos := "l07_window.go:224", after := #[{ on := 0, ground := Ground.data }], guard := none }) rfl (fun K hK => ?_) (AllReadyH.cons (o := { dst := some 25, op := Op.buildSlice 22 1 #[(0, Operand.tmp 24)], type := 22, pos := "l07_window.go:224", after := #[{ on := 3, ground := Ground.data }], guard := none }) rfl (fun K hK => ?_) AllReadyH.nil)
                  · have c6 := hV0.1.2 6 (by simp)
                    have l6 := hV0.1.1
                    simp only [List.getElem?_cons_zero, List.getElem?_cons_succ] at c6
                    go_simp
                    try go_wp2_with fail
                    refine hK.out _ _ trivial (fun _ => ?_)
                    clear hK K
                    try simp only [Act.put, List.setIfInBounds_toArray, List.set_cons_zero, List.set_cons_succ]
                    clear c6 l6
                    exact N1_3.out  W ⟨trivial, hA0, hG0, hR0, hV0, hO0, trivial⟩
                  · go_simp
                    try go_wp2_with fail
                    have hA1 := hA0.alloc (Obj.cells #[.string X] 9)
                    have hG1 := galloc hG0 (Obj.cells #[.string X] 9)
                    have hR1 := hR0.below ((Below.refl W.heap.size W).alloc (Nat.le_refl _) (Obj.cells #[.string X] 9))
                    have hV1 := hV0.below ((Below.refl W.heap.size W).alloc (Nat.le_refl _) (Obj.cells #[.string X] 9))
                    have hO1 := RowG.own_below hO0 ((Below.refl W.heap.size W).alloc (Nat.le_refl _) (Obj.cells #[.string X] 9))
                    have hnw : ∀ j u, ([.string X] : List Value)[j]? = some u → (W.alloc (Obj.cells #[.string X] 9)).cell? ((⟨W.heap.size, 0, none⟩ : Addr).add j) = some u := one_cell W X 9
                    have hlb : bV < W.heap.size := hV0.1.1
                    refine hK.out _ _ trivial (fun _ => ?_)
                    clear hK K
                    try simp only [Act.put, List.setIfInBounds_toArray, List.set_cons_zero, List.set_cons_succ]
                    obtain ⟨bN, hbN⟩ : ∃ z, z = W.heap.size := ⟨_, rfl⟩
                    rw [← hbN] at hnw hlb ⊢
                    obtain ⟨k1, hk1⟩ : ∃ z, z = W.alloc (Obj.cells #[.string X] 9) := ⟨_, rfl⟩
                    rw [← hk1] at hnw hA1 hG1 hR1 hV1 hO1 ⊢
                    exact N3_4.out bN k1 ⟨trivial, hA1, hG1, hR1, hV1, hO1, hnw, hlb, trivial⟩
              · rintro  W ⟨hTr, hA0, hG0, hR0, hV0, hO0, _⟩
                refine wpAnyH_ready (rs := [3]) (by kernel_rfl) (by simp) ?_
                refine AllReadyH.cons (o := { dst := some 24, op := Op.call { callee := Callee.value (Operand.func 69), args := #[Operand.tmp 23], argTypes := #[67] }, type := 9, pos := "l07_window.go:224", after := #[{ on := 2, ground := Ground.data }], guard := none }) rfl (fun K hK => ?_) AllReadyH.nil
                go_simp
                go_at_call 69
                refine (RD1.out _ hA0).mono ?_
                rintro e q1 ⟨rfl, hA1, hq1⟩
                try go_wp2_with fail
                have hG1 := gtrans hG0 hq1
                have hR1 := hR0.grown hq1 (by simp; omega)
                have hV1 := hV0.grown hq1 (by simp; omega)
                have hO1 := own_keepG hO0 hq1 (by omega)
                refine hK.out _ _ trivial (fun _ => ?_)
                clear hK K
                try simp only [Act.put, List.setIfInBounds_toArray, List.set_cons_zero, List.set_cons_succ]
                exact N1_3.out  q1 ⟨trivial, hA1, hG1, hR1, hV1, hO1, trivial⟩
            · rintro bN W ⟨hTr, hA0, hG0, hR0, hV0, hO0, hnw, hlb, _⟩
              refine wpAnyH_ready (rs := [1]) (by kernel_rfl) (by simp) ?_
              refine AllReadyH.cons (o := { dst := some 22, op := Op.load 22 (Operand.tmp 21), type := 22, pos := "l07_window.go:224", after := #[{ on := 0, ground := Ground.data }], guard := none }) rfl (fun K hK => ?_) AllReadyH.nil
              have c6 := hV0.1.2 6 (by simp)
              have l6 := hV0.1.1
              simp only [List.getElem?_cons_zero, List.getElem?_cons_succ] at c6
              go_simp
              try go_wp2_with fail
              refine hK.out _ _ trivial (fun _ => ?_)
              clear hK K
              try simp only [Act.put, List.setIfInBounds_toArray, List.set_cons_zero, List.set_cons_succ]
              clear c6 l6
              exact N1_3_4.out bN W ⟨trivial, hA0, hG0, hR0, hV0, hO0, hnw, hlb, trivial⟩
          · rintro  W ⟨hTr, hA0, hG0, hR0, hV0, hO0, _⟩
            refine wpAnyH_ready (rs := [4]) (by kernel_rfl) (by simp) ?_
            refine AllReadyH.cons (o := { dst := some 25, op := Op.buildSlice 22 1 #[(0, Operand.tmp 24)], type := 22, pos := "l07_window.go:224", after := #[{ on := 3, ground := Ground.data }], guard := none }) rfl (fun K hK => ?_) AllReadyH.nil
            go_simp
            try go_wp2_with fail
            have hA1 := hA0.alloc (Obj.cells #[.string X] 9)
            have hG1 := galloc hG0 (Obj.cells #[.string X] 9)
            have hR1 := hR0.below ((Below.refl W.heap.size W).alloc (Nat.le_refl _) (Obj.cells #[.string X] 9))
            have hV1 := hV0.below ((Below.refl W.heap.size W).alloc (Nat.le_refl _) (Obj.cells #[.string X] 9))
            have hO1 := RowG.own_below hO0 ((Below.refl W.heap.size W).alloc (Nat.le_refl _) (Obj.cells #[.string X] 9))
            have hnw : ∀ j u, ([.string X] : List Value)[j]? = some u → (W.alloc (Obj.cells #[.string X] 9)).cell? ((⟨W.heap.size, 0, none⟩ : Addr).add j) = some u := one_cell W X 9
            have hlb : bV < W.heap.size := hV0.1.1
            refine hK.out _ _ trivial (fun _ => ?_)
            clear hK K
            try simp only [Act.put, List.setIfInBounds_toArray, List.set_cons_zero, List.set_cons_succ]
            obtain ⟨bN, hbN⟩ : ∃ z, z = W.heap.size := ⟨_, rfl⟩
            rw [← hbN] at hnw hlb ⊢
            obtain ⟨k1, hk1⟩ : ∃ z, z = W.alloc (Obj.cells #[.string X] 9) := ⟨_, rfl⟩
            rw [← hk1] at hnw hA1 hG1 hR1 hV1 hO1 ⊢
            exact N1_3_4.out bN k1 ⟨trivial, hA1, hG1, hR1, hV1, hO1, hnw, hlb, trivial⟩
        · rintro bN W ⟨hTr, hA0, hG0, hR0, hV0, hO0, hnw, hlb, _⟩
          refine wpAnyH_ready (rs := [5]) (by kernel_rfl) (by simp) ?_
          refine AllReadyH.cons (o := { dst := some 26, op := Op.call { callee := Callee.builtin Builtin.append, args := #[Operand.tmp 22, Operand.tmp 25], argTypes := #[22, 22] }, type := 22, pos := "l07_window.go:224", after := #[{ on := 1, ground := Ground.data }, { on := 4, ground := Ground.data }, { on := 3, ground := Ground.chain }], guard := none }) rfl (fun K hK => ?_) AllReadyH.nil
          refine step_append_own rfl _ _ 22 rfl (bV + 1) 9 i0 (.string ⟨#[]⟩) 1 16 Tryd.underlying22 hi hz0 hz1 hz2 rfl sz3 _ _ _ rfl hO0 ⟨bN, 0, none⟩ 1 1 [.string X] rfl rfl hnw (one_one X) sz1 sz2 (hV0.1.1) ?_
          intro v9 w9 hown hgrow hne
          have hA1 := after_grown hA0 hgrow (fun e => by have := (hO0.lt _ e.symm).1; omega)
          have hG1 := gnewR hG0 hgrow (fun X e => by have := (hO0.lt _ e).1; omega)
          have hR1 := hR0.grown hgrow (fun e => by have := (hO0.lt _ e.symm).1; omega)
          have hV1 := hV0.grown hgrow (fun e => by have := (hO0.lt _ e.symm).1; omega)
          have hO1 : w9.ownsRow (bV + 1) 9 1 v9 (k + 1) (cellsAll tcells (LT (k + 1))) := by rw [HLM.out, cellsAll_snoc]; exact hown
          obtain ⟨sb, sc, rfl⟩ := own_form hO1
          clear hown hgrow hne hnw
          refine hK.out _ _ trivial (fun _ => ?_)
          clear hK K
          try simp only [Act.put, List.setIfInBounds_toArray, List.set_cons_zero, List.set_cons_succ]
          refine wpAnyH_take (i := 6) (oi := { dst := some 27, op := Op.fieldAddr 32 (Operand.tmp 3) 6, type := 0, pos := "l07_window.go:224", after := #[{ on := 0, ground := Ground.phase }, { on := 1, ground := Ground.phase }, { on := 2, ground := Ground.phase }, { on := 3, ground := Ground.phase }, { on := 4, ground := Ground.phase }, { on := 5, ground := Ground.phase }], guard := none }) (v := ?_) rfl (by kernel_rfl) (by kernel_rfl) (by kernel_rfl) (fun _ _ _ h => h) (Or.inl ⟨by rfl, ?_⟩) (by assumption) ?_
          rotate_left
          · (intro w hSw; (try dsimp only at hSw); go_simp) <;> with_reducible rfl
          try simp only [Act.put, List.setIfInBounds_toArray, List.set_cons_zero, List.set_cons_succ]
          exact N1_3_4_5.out bN sb sc w9 ⟨trivial, hA1, hG1, hR1, hV1, hO1, trivial⟩
      · rintro bN sb sc W ⟨hTr, hA0, hG0, hR0, hV0, hO0, _⟩
        refine wpAnyH_ready (rs := [7]) (by kernel_rfl) (by simp) ?_
        refine AllReadyH.cons (o := { dst := none, op := Op.store 22 (Operand.tmp 27) (Operand.tmp 26), type := 0, pos := "l07_window.go:224", after := #[{ on := 6, ground := Ground.data }, { on := 5, ground := Ground.data }, { on := 5, ground := Ground.chain }, { on := 0, ground := Ground.phase }, { on := 1, ground := Ground.phase }, { on := 2, ground := Ground.phase }, { on := 3, ground := Ground.phase }, { on := 4, ground := Ground.phase }, { on := 5, ground := Ground.phase }], guard := none }) rfl (fun K hK => ?_) AllReadyH.nil
        have c6 := hV0.1.2 6 (by simp)
        have l6 := hV0.1.1
        have f6 := hV0.2 6 (by simp)
        simp only [List.getElem?_cons_zero, List.getElem?_cons_succ] at c6
        go_simp
        try go_wp2_with fail
        have hg := RowG.grown_set W bV 6 (.slice (some ⟨sb, 0, none⟩) (k + 1) sc)
        have hA9 := after_grown hA0 hg (by simp; omega)
        have hG9 := gnewG hG0 hg (by omega)
        have hR9 := hR0.grown hg (by simp; omega)
        have hV9 := hV0.set 6 (.slice (some ⟨sb, 0, none⟩) (k + 1) sc) (by simp)
        have hO9 := own_keepG hO0 hg (by omega)
        simp only [List.set_cons_zero, List.set_cons_succ] at hV9
        refine hK.out _ _ trivial (fun _ => ?_)
        clear hK K
        try simp only [Act.put, List.setIfInBounds_toArray, List.set_cons_zero, List.set_cons_succ]
        generalize (W.setCell ⟨bV, 6, none⟩ (.slice (some ⟨sb, 0, none⟩) (k + 1) sc)) = kk at *
        refine wpAnyH_done (by kernel_rfl) ?_ _
        have HA9 := hid_intro hA9
        have HG9 := hid_intro hG9
        have HR9 := hid_intro hR9
        have HV9 := hid_intro hV9
        have HO9 := hid_intro hO9
        clear hA9 hG9 hR9 hV9 hO9 hg c6 l6 f6
        go_wp2_with fail
        go_roundw
        case rel => exact ⟨k + 1, some ⟨sb, 0, none⟩, sc, by omega, by go_num, HA9, HG9, HR9, HV9, HO9⟩
        case measure => simp [intOf]; omega
    · have hlt2 : ¬ (k : Int) < (C : Int) := by omega
      obtain rfl : k = C := by omega
      go_wp2_with fail
      refine (RC2.out _ HA.out).mono ?_
      rintro e wC ⟨rfl, hA, hq⟩
      replace HA := hid_intro hA
      replace HG := hid_intro (gtrans HG.out hq)
      replace HR := hid_intro (HR.out.grown hq (by simp; omega))
      replace HV := hid_intro (HV.out.grown hq (by simp; omega))
      replace HO := hid_intro (own_keepG HO.out hq (by omega))
      clear hA hq
      have HT := HO
      clear HO
      go_wp2_with fail
      go_loopw [31] (fun z wr => ∃ (i : Nat) (ha : Option Addr) (hc : Nat), i ≤ D ∧ z = .int .i64 i ∧ Hid (After g s (PH i) wr) ∧ Hid (w.grownBy wr (some g)) ∧ Hid (BlkW w.heap.size [.string ⟨#[]⟩, .string ⟨#[]⟩, .int .i64 0, .int .i64 0, .int .i64 0, .int .i64 0, .slice none 0 0, .slice none 0 0] wr) ∧ Hid (BlkW bV [.string a, .string m, .int .i64 mo, .int .i64 ev, .int .i64 su, .int .i64 mx, .slice ta k tc, .slice ha i hc] wr) ∧ Hid (wr.ownsRow (bV + 1) 9 1 (.slice ta k tc) k (cellsAll tcells (LT k))) ∧ Hid (wr.ownsRow (bV + 1) 65 2 (.slice ha i hc) i (cellsAll H.cells (LH i)))) (fun z _ => D - (intOf z).toNat)
      case atStart => exact ⟨0, none, 0, by omega, rfl, HA, HG, HR, HV, HT, hid_intro (by rw [HH0.out]; exact World.ownsRow_nil _ _ _ _)⟩
      case round =>
        clear HA HG HR HV HT
        obtain ⟨i, ha, hc, hk2, rfl, HA, HG, HR, HV, HT, HO⟩ := hrel
        by_cases hlt3 : i < D
        · have hlt2 : (i : Int) < (D : Int) := by omega
          obtain ⟨om, rd1, rd2⟩ := RH.out i
          have RD1 := hid_intro rd1
          have RD2 := hid_intro rd2
          clear rd1 rd2
          have HLM := hid_intro (HHM.out i)
          generalize hh i = X at *
          generalize ss i = Y at *
          have sz1 : i + 1 ≤ maxLen := by unfold maxLen; omega
          have sz2 : (i + 1) * 16 ≤ 140737488355328 := by omega
          have hA0 := EvtR.After.below HA.out (Below.refl wr.heap.size wr).drew
          have hG0 := gtrans HG.out (EvtR.rgrown (Below.refl wr.heap.size wr).drew _)
          have hR0 := HR.out.below (Below.refl wr.heap.size wr).drew
          have hV0 := HV.out.below (Below.refl wr.heap.size wr).drew
          have hO0 := RowG.own_below HO.out (Below.refl wr.heap.size wr).drew
          have hT0 := RowG.own_below HT.out (Below.refl wr.heap.size wr).drew
          have hbg : g < bV := by omega
          go_wp2_with fail
          refine wp_region_held_drew (S := (fun _ => True)) (by kernel_rfl) trivial (fun hHeld => ?_)
          generalize wr.drew = kd at *
          apply memo3 (fun bN sb sc W => (True) ∧ (After g s (PH (i + 1)) W) ∧ (w.grownBy W (some g)) ∧ (BlkW w.heap.size [.string ⟨#[]⟩, .string ⟨#[]⟩, .int .i64 0, .int .i64 0, .int .i64 0, .int .i64 0, .slice none 0 0, .slice none 0 0] W) ∧ (BlkW bV [.string a, .string m, .int .i64 mo, .int .i64 ev, .int .i64 su, .int .i64 mx, .slice ta k tc, .slice ha i hc] W) ∧ (W.ownsRow (bV + 1) 65 2 (.slice (some ⟨sb, 0, none⟩) (i + 1) sc) (i + 1) (cellsAll H.cells (LH (i + 1)))) ∧ (W.ownsRow (bV + 1) 9 1 (.slice ta k tc) k (cellsAll tcells (LT k))) ∧ True)
          · intro N1_3_5_7_8
            apply memo1 (fun bN W => (True) ∧ (After g s (PH (i + 1)) W) ∧ (w.grownBy W (some g)) ∧ (BlkW w.heap.size [.string ⟨#[]⟩, .string ⟨#[]⟩, .int .i64 0, .int .i64 0, .int .i64 0, .int .i64 0, .slice none 0 0, .slice none 0 0] W) ∧ (BlkW bV [.string a, .string m, .int .i64 mo, .int .i64 ev, .int .i64 su, .int .i64 mx, .slice ta k tc, .slice ha i hc] W) ∧ (W.ownsRow (bV + 1) 65 2 (.slice ha i hc) i (cellsAll H.cells (LH i))) ∧ (W.ownsRow (bV + 1) 9 1 (.slice ta k tc) k (cellsAll tcells (LT k))) ∧ (∀ j u, ([.int .i64 X, .int .i64 Y] : List Value)[j]? = some u → W.cell? ((⟨bN, 0, none⟩ : Addr).add j) = some u) ∧ (bV < bN) ∧ True)
            · intro N1_3_5_7
              apply memo0 (fun  W => (True) ∧ (After g s (PH (i + 1)) W) ∧ (w.grownBy W (some g)) ∧ (BlkW w.heap.size [.string ⟨#[]⟩, .string ⟨#[]⟩, .int .i64 0, .int .i64 0, .int .i64 0, .int .i64 0, .slice none 0 0, .slice none 0 0] W) ∧ (BlkW bV [.string a, .string m, .int .i64 mo, .int .i64 ev, .int .i64 su, .int .i64 mx, .slice ta k tc, .slice ha i hc] W) ∧ (W.ownsRow (bV + 1) 65 2 (.slice ha i hc) i (cellsAll H.cells (LH i))) ∧ (W.ownsRow (bV + 1) 9 1 (.slice ta k tc) k (cellsAll tcells (LT k))) ∧ True)
              · intro N1_3_5
                apply memo1 (fun bN W => (True) ∧ (After g s (PH (i + 1)) W) ∧ (w.grownBy W (some g)) ∧ (BlkW w.heap.size [.string ⟨#[]⟩, .string ⟨#[]⟩, .int .i64 0, .int .i64 0, .int .i64 0, .int .i64 0, .slice none 0 0, .slice none 0 0] W) ∧ (BlkW bV [.string a, .string m, .int .i64 mo, .int .i64 ev, .int .i64 su, .int .i64 mx, .slice ta k tc, .slice ha i hc] W) ∧ (W.ownsRow (bV + 1) 65 2 (.slice ha i hc) i (cellsAll H.cells (LH i))) ∧ (W.ownsRow (bV + 1) 9 1 (.slice ta k tc) k (cellsAll tcells (LT k))) ∧ (∀ j u, ([.int .i64 X, .int .i64 Y] : List Value)[j]? = some u → W.cell? ((⟨bN, 0, none⟩ : Addr).add j) = some u) ∧ (bV < bN) ∧ True)
                · intro N3_5_7
                  apply memo0 (fun  W => (True) ∧ (After g s om W) ∧ (w.grownBy W (some g)) ∧ (BlkW w.heap.size [.string ⟨#[]⟩, .string ⟨#[]⟩, .int .i64 0, .int .i64 0, .int .i64 0, .int .i64 0, .slice none 0 0, .slice none 0 0] W) ∧ (BlkW bV [.string a, .string m, .int .i64 mo, .int .i64 ev, .int .i64 su, .int .i64 mx, .slice ta k tc, .slice ha i hc] W) ∧ (W.ownsRow (bV + 1) 65 2 (.slice ha i hc) i (cellsAll H.cells (LH i))) ∧ (W.ownsRow (bV + 1) 9 1 (.slice ta k tc) k (cellsAll tcells (LT k))) ∧ True)
                  · intro N1_3
                    apply memo0 (fun  W => (True) ∧ (After g s (PH (i + 1)) W) ∧ (w.grownBy W (some g)) ∧ (BlkW w.heap.size [.string ⟨#[]⟩, .string ⟨#[]⟩, .int .i64 0, .int .i64 0, .int .i64 0, .int .i64 0, .slice none 0 0, .slice none 0 0] W) ∧ (BlkW bV [.string a, .string m, .int .i64 mo, .int .i64 ev, .int .i64 su, .int .i64 mx, .slice ta k tc, .slice ha i hc] W) ∧ (W.ownsRow (bV + 1) 65 2 (.slice ha i hc) i (cellsAll H.cells (LH i))) ∧ (W.ownsRow (bV + 1) 9 1 (.slice ta k tc) k (cellsAll tcells (LT k))) ∧ True)
                    · intro N3_5
                      apply memo0 (fun  W => (True) ∧ (After g s (PH i) W) ∧ (w.grownBy W (some g)) ∧ (BlkW w.heap.size [.string ⟨#[]⟩, .string ⟨#[]⟩, .int .i64 0, .int .i64 0, .int .i64 0, .int .i64 0, .slice none 0 0, .slice none 0 0] W) ∧ (BlkW bV [.string a, .string m, .int .i64 mo, .int .i64 ev, .int .i64 su, .int .i64 mx, .slice ta k tc, .slice ha i hc] W) ∧ (W.ownsRow (bV + 1) 65 2 (.slice ha i hc) i (cellsAll H.cells (LH i))) ∧ (W.ownsRow (bV + 1) 9 1 (.slice ta k tc) k (cellsAll tcells (LT k))) ∧ True)
                      · intro N1
                        apply memo0 (fun  W => (True) ∧ (After g s om W) ∧ (w.grownBy W (some g)) ∧ (BlkW w.heap.size [.string ⟨#[]⟩, .string ⟨#[]⟩, .int .i64 0, .int .i64 0, .int .i64 0, .int .i64 0, .slice none 0 0, .slice none 0 0] W) ∧ (BlkW bV [.string a, .string m, .int .i64 mo, .int .i64 ev, .int .i64 su, .int .i64 mx, .slice ta k tc, .slice ha i hc] W) ∧ (W.ownsRow (bV + 1) 65 2 (.slice ha i hc) i (cellsAll H.cells (LH i))) ∧ (W.ownsRow (bV + 1) 9 1 (.slice ta k tc) k (cellsAll tcells (LT k))) ∧ True)
                        · intro N3
                          refine wpAnyH_take (i := 0) (oi := { dst := some 33, op := Op.fieldAddr 32 (Operand.tmp 3) 7, type := 0, pos := "l07_window.go:227", after := #[], guard := none }) (v := ?_) rfl (by kernel_rfl) (by kernel_rfl) (by kernel_rfl) (fun _ _ _ h => h) (Or.inl ⟨by rfl, ?_⟩) (by assumption) ?_
                          rotate_left
                          · (intro w hSw; (try dsimp only at hSw); go_simp) <;> with_reducible rfl
                          try simp only [Act.put, List.setIfInBounds_toArray, List.set_cons_zero, List.set_cons_succ]
                          refine wpAnyH_take (i := 2) (oi := { dst := some 35, op := Op.move (Operand.tmp 0), type := 67, pos := "l07_window.go:227", after := #[], guard := none }) (v := ?_) rfl (by kernel_rfl) (by kernel_rfl) (by kernel_rfl) (fun _ _ _ h => h) (Or.inl ⟨by rfl, ?_⟩) (by assumption) ?_
                          rotate_left
                          · (intro w hSw; (try dsimp only at hSw); go_simp) <;> with_reducible rfl
                          try simp only [Act.put, List.setIfInBounds_toArray, List.set_cons_zero, List.set_cons_succ]
                          refine wpAnyH_take (i := 4) (oi := { dst := some 37, op := Op.move (Operand.tmp 0), type := 67, pos := "l07_window.go:227", after := #[], guard := none }) (v := ?_) rfl (by kernel_rfl) (by kernel_rfl) (by kernel_rfl) (fun _ _ _ h => h) (Or.inl ⟨by rfl, ?_⟩) (by assumption) ?_
                          rotate_left
                          · (intro w hSw; (try dsimp only at hSw); go_simp) <;> with_reducible rfl
                          try simp only [Act.put, List.setIfInBounds_toArray, List.set_cons_zero, List.set_cons_succ]
                          refine wpAnyH_ready (rs := [1, 3]) (by kernel_rfl) (by simp) ?_
                          refine AllReadyH.cons (o := { dst := some 34, op := Op.load 30 (Operand.tmp 33), type := 30, pos := "l07_window.go:227", after := #[{ on := 0, ground := Ground.data }], guard := none }) rfl (fun K hK => ?_) (AllReadyH.cons (o := { dst := some 36, op := Op.call { callee := Callee.value (Operand.func 70), args := #[Operand.tmp 35], argTypes := #[67] }, type := 2, pos := "l07_window.go:227", after := #[{ on := 2, ground := Ground.data }], guard := none }) rfl (fun K hK => ?_) AllReadyH.nil)
                          · have c6 := hV0.1.2 7 (by simp)
                            have l6 := hV0.1.1
                            simp only [List.getElem?_cons_zero, List.getElem?_cons_succ] at c6
                            go_simp
                            try go_wp2_with fail
                            refine hK.out _ _ trivial (fun _ => ?_)
                            clear hK K
                            try simp only [Act.put, List.setIfInBounds_toArray, List.set_cons_zero, List.set_cons_succ]
                            clear c6 l6
                            exact N1.out  kd ⟨trivial, hA0, hG0, hR0, hV0, hO0, hT0, trivial⟩
                          · go_simp
                            go_at_call 70
                            refine (RD1.out _ hA0).mono ?_
                            rintro e q1 ⟨rfl, hA1, hq1⟩
                            try go_wp2_with fail
                            have hG1 := gtrans hG0 hq1
                            have hR1 := hR0.grown hq1 (by simp; omega)
                            have hV1 := hV0.grown hq1 (by simp; omega)
                            have hO1 := own_keepG hO0 hq1 (by omega)
                            have hT1 := own_keepG hT0 hq1 (by omega)
                            refine hK.out _ _ trivial (fun _ => ?_)
                            clear hK K
                            try simp only [Act.put, List.setIfInBounds_toArray, List.set_cons_zero, List.set_cons_succ]
                            exact N3.out  q1 ⟨trivial, hA1, hG1, hR1, hV1, hO1, hT1, trivial⟩
                        · rintro  W ⟨hTr, hA0, hG0, hR0, hV0, hO0, hT0, _⟩
                          refine wpAnyH_ready (rs := [1, 5]) (by kernel_rfl) (by simp) ?_
                          refine AllReadyH.cons (o := { dst := some 34, op := Op.load 30 (Operand.tmp 33), type := 30, pos := "l07_window.go:227", after := #[{ on := 0, ground := Ground.data }], guard := none }) rfl (fun K hK => ?_) (AllReadyH.cons (o := { dst := some 38, op := Op.call { callee := Callee.value (Operand.func 70), args := #[Operand.tmp 37], argTypes := #[67] }, type := 2, pos := "l07_window.go:227", after := #[{ on := 4, ground := Ground.data }, { on := 3, ground := Ground.chain }], guard := none }) rfl (fun K hK => ?_) AllReadyH.nil)
                          · have c6 := hV0.1.2 7 (by simp)
                            have l6 := hV0.1.1
                            simp only [List.getElem?_cons_zero, List.getElem?_cons_succ] at c6
                            go_simp
                            try go_wp2_with fail
                            refine hK.out _ _ trivial (fun _ => ?_)
                            clear hK K
                            try simp only [Act.put, List.setIfInBounds_toArray, List.set_cons_zero, List.set_cons_succ]
                            clear c6 l6
                            exact N1_3.out  W ⟨trivial, hA0, hG0, hR0, hV0, hO0, hT0, trivial⟩
                          · go_simp
                            go_at_call 70
                            refine (RD2.out _ hA0).mono ?_
                            rintro e q1 ⟨rfl, hA1, hq1⟩
                            try go_wp2_with fail
                            have hG1 := gtrans hG0 hq1
                            have hR1 := hR0.grown hq1 (by simp; omega)
                            have hV1 := hV0.grown hq1 (by simp; omega)
                            have hO1 := own_keepG hO0 hq1 (by omega)
                            have hT1 := own_keepG hT0 hq1 (by omega)
                            refine hK.out _ _ trivial (fun _ => ?_)
                            clear hK K
                            try simp only [Act.put, List.setIfInBounds_toArray, List.set_cons_zero, List.set_cons_succ]
                            refine wpAnyH_take (i := 6) (oi := { dst := some 39, op := Op.build 65 #[(0, Operand.tmp 36), (1, Operand.tmp 38)], type := 65, pos := "l07_window.go:227", after := #[{ on := 3, ground := Ground.data }, { on := 5, ground := Ground.data }], guard := none }) (v := ?_) rfl (by kernel_rfl) (by kernel_rfl) (by kernel_rfl) (fun _ _ _ h => h) (Or.inl ⟨by rfl, ?_⟩) (by assumption) ?_
                            rotate_left
                            · (intro w hSw; (try dsimp only at hSw); go_simp) <;> with_reducible rfl
                            try simp only [Act.put, List.setIfInBounds_toArray, List.set_cons_zero, List.set_cons_succ]
                            exact N3_5.out  q1 ⟨trivial, hA1, hG1, hR1, hV1, hO1, hT1, trivial⟩
                      · rintro  W ⟨hTr, hA0, hG0, hR0, hV0, hO0, hT0, _⟩
                        refine wpAnyH_ready (rs := [3]) (by kernel_rfl) (by simp) ?_
                        refine AllReadyH.cons (o := { dst := some 36, op := Op.call { callee := Callee.value (Operand.func 70), args := #[Operand.tmp 35], argTypes := #[67] }, type := 2, pos := "l07_window.go:227", after := #[{ on := 2, ground := Ground.data }], guard := none }) rfl (fun K hK => ?_) AllReadyH.nil
                        go_simp
                        go_at_call 70
                        refine (RD1.out _ hA0).mono ?_
                        rintro e q1 ⟨rfl, hA1, hq1⟩
                        try go_wp2_with fail
                        have hG1 := gtrans hG0 hq1
                        have hR1 := hR0.grown hq1 (by simp; omega)
                        have hV1 := hV0.grown hq1 (by simp; omega)
                        have hO1 := own_keepG hO0 hq1 (by omega)
                        have hT1 := own_keepG hT0 hq1 (by omega)
                        refine hK.out _ _ trivial (fun _ => ?_)
                        clear hK K
                        try simp only [Act.put, List.setIfInBounds_toArray, List.set_cons_zero, List.set_cons_succ]
                        exact N1_3.out  q1 ⟨trivial, hA1, hG1, hR1, hV1, hO1, hT1, trivial⟩
                    · rintro  W ⟨hTr, hA0, hG0, hR0, hV0, hO0, hT0, _⟩
                      refine wpAnyH_ready (rs := [1, 7]) (by kernel_rfl) (by simp) ?_
                      refine AllReadyH.cons (o := { dst := some 34, op := Op.load 30 (Operand.tmp 33), type := 30, pos := "l07_window.go:227", after := #[{ on := 0, ground := Ground.data }], guard := none }) rfl (fun K hK => ?_) (AllReadyH.cons (o := { dst := some 40, op := Op.buildSlice 30 1 #[(0, Operand.tmp 39)], type := 30, pos := "l07_window.go:227", after := #[{ on := 6, ground := Ground.data }], guard := none }) rfl (fun K hK => ?_) AllReadyH.nil)
                      · have c6 := hV0.1.2 7 (by simp)
                        have l6 := hV0.1.1
                        simp only [List.getElem?_cons_zero, List.getElem?_cons_succ] at c6
                        go_simp
                        try go_wp2_with fail
                        refine hK.out _ _ trivial (fun _ => ?_)
                        clear hK K
                        try simp only [Act.put, List.setIfInBounds_toArray, List.set_cons_zero, List.set_cons_succ]
                        clear c6 l6
                        exact N1_3_5.out  W ⟨trivial, hA0, hG0, hR0, hV0, hO0, hT0, trivial⟩
                      · go_simp
                        try go_wp2_with fail
                        have hA1 := hA0.alloc (Obj.cells #[.int .i64 X, .int .i64 Y] 65)
                        have hG1 := galloc hG0 (Obj.cells #[.int .i64 X, .int .i64 Y] 65)
                        have hR1 := hR0.below ((Below.refl W.heap.size W).alloc (Nat.le_refl _) (Obj.cells #[.int .i64 X, .int .i64 Y] 65))
                        have hV1 := hV0.below ((Below.refl W.heap.size W).alloc (Nat.le_refl _) (Obj.cells #[.int .i64 X, .int .i64 Y] 65))
                        have hO1 := RowG.own_below hO0 ((Below.refl W.heap.size W).alloc (Nat.le_refl _) (Obj.cells #[.int .i64 X, .int .i64 Y] 65))
                        have hT1 := RowG.own_below hT0 ((Below.refl W.heap.size W).alloc (Nat.le_refl _) (Obj.cells #[.int .i64 X, .int .i64 Y] 65))
                        have hnw : ∀ j u, ([.int .i64 X, .int .i64 Y] : List Value)[j]? = some u → (W.alloc (Obj.cells #[.int .i64 X, .int .i64 Y] 65)).cell? ((⟨W.heap.size, 0, none⟩ : Addr).add j) = some u := hr_cells W X Y 65
                        have hlb : bV < W.heap.size := hV0.1.1
                        refine hK.out _ _ trivial (fun _ => ?_)
                        clear hK K
                        try simp only [Act.put, List.setIfInBounds_toArray, List.set_cons_zero, List.set_cons_succ]
                        obtain ⟨bN, hbN⟩ : ∃ z, z = W.heap.size := ⟨_, rfl⟩
                        rw [← hbN] at hnw hlb ⊢
                        obtain ⟨k1, hk1⟩ : ∃ z, z = W.alloc (Obj.cells #[.int .i64 X, .int .i64 Y] 65) := ⟨_, rfl⟩
                        rw [← hk1] at hnw hA1 hG1 hR1 hV1 hO1 hT1 ⊢
                        exact N3_5_7.out bN k1 ⟨trivial, hA1, hG1, hR1, hV1, hO1, hT1, hnw, hlb, trivial⟩
                  · rintro  W ⟨hTr, hA0, hG0, hR0, hV0, hO0, hT0, _⟩
                    refine wpAnyH_ready (rs := [5]) (by kernel_rfl) (by simp) ?_
                    refine AllReadyH.cons (o := { dst := some 38, op := Op.call { callee := Callee.value (Operand.func 70), args := #[Operand.tmp 37], argTypes := #[67] }, type := 2, pos := "l07_window.go:227", after := #[{ on := 4, ground := Ground.data }, { on := 3, ground := Ground.chain }], guard := none }) rfl (fun K hK => ?_) AllReadyH.nil
                    go_simp
                    go_at_call 70
                    refine (RD2.out _ hA0).mono ?_
                    rintro e q1 ⟨rfl, hA1, hq1⟩
                    try go_wp2_with fail
                    have hG1 := gtrans hG0 hq1
                    have hR1 := hR0.grown hq1 (by simp; omega)
                    have hV1 := hV0.grown hq1 (by simp; omega)
                    have hO1 := own_keepG hO0 hq1 (by omega)
                    have hT1 := own_keepG hT0 hq1 (by omega)
                    refine hK.out _ _ trivial (fun _ => ?_)
                    clear hK K
                    try simp only [Act.put, List.setIfInBounds_toArray, List.set_cons_zero, List.set_cons_succ]
                    refine wpAnyH_take (i := 6) (oi := { dst := some 39, op := Op.build 65 #[(0, Operand.tmp 36), (1, Operand.tmp 38)], type := 65, pos := "l07_window.go:227", after := #[{ on := 3, ground := Ground.data }, { on := 5, ground := Ground.data }], guard := none }) (v := ?_) rfl (by kernel_rfl) (by kernel_rfl) (by kernel_rfl) (fun _ _ _ h => h) (Or.inl ⟨by rfl, ?_⟩) (by assumption) ?_
                    rotate_left
                    · (intro w hSw; (try dsimp only at hSw); go_simp) <;> with_reducible rfl
                    try simp only [Act.put, List.setIfInBounds_toArray, List.set_cons_zero, List.set_cons_succ]
                    exact N1_3_5.out  q1 ⟨trivial, hA1, hG1, hR1, hV1, hO1, hT1, trivial⟩
                · rintro bN W ⟨hTr, hA0, hG0, hR0, hV0, hO0, hT0, hnw, hlb, _⟩
                  refine wpAnyH_ready (rs := [1]) (by kernel_rfl) (by simp) ?_
                  refine AllReadyH.cons (o := { dst := some 34, op := Op.load 30 (Operand.tmp 33), type := 30, pos := "l07_window.go:227", after := #[{ on := 0, ground := Ground.data }], guard := none }) rfl (fun K hK => ?_) AllReadyH.nil
                  have c6 := hV0.1.2 7 (by simp)
                  have l6 := hV0.1.1
                  simp only [List.getElem?_cons_zero, List.getElem?_cons_succ] at c6
                  go_simp
                  try go_wp2_with fail
                  refine hK.out _ _ trivial (fun _ => ?_)
                  clear hK K
                  try simp only [Act.put, List.setIfInBounds_toArray, List.set_cons_zero, List.set_cons_succ]
                  clear c6 l6
                  exact N1_3_5_7.out bN W ⟨trivial, hA0, hG0, hR0, hV0, hO0, hT0, hnw, hlb, trivial⟩
              · rintro  W ⟨hTr, hA0, hG0, hR0, hV0, hO0, hT0, _⟩
                refine wpAnyH_ready (rs := [7]) (by kernel_rfl) (by simp) ?_
                refine AllReadyH.cons (o := { dst := some 40, op := Op.buildSlice 30 1 #[(0, Operand.tmp 39)], type := 30, pos := "l07_window.go:227", after := #[{ on := 6, ground := Ground.data }], guard := none }) rfl (fun K hK => ?_) AllReadyH.nil
                go_simp
                try go_wp2_with fail
                have hA1 := hA0.alloc (Obj.cells #[.int .i64 X, .int .i64 Y] 65)
                have hG1 := galloc hG0 (Obj.cells #[.int .i64 X, .int .i64 Y] 65)
                have hR1 := hR0.below ((Below.refl W.heap.size W).alloc (Nat.le_refl _) (Obj.cells #[.int .i64 X, .int .i64 Y] 65))
                have hV1 := hV0.below ((Below.refl W.heap.size W).alloc (Nat.le_refl _) (Obj.cells #[.int .i64 X, .int .i64 Y] 65))
                have hO1 := RowG.own_below hO0 ((Below.refl W.heap.size W).alloc (Nat.le_refl _) (Obj.cells #[.int .i64 X, .int .i64 Y] 65))
                have hT1 := RowG.own_below hT0 ((Below.refl W.heap.size W).alloc (Nat.le_refl _) (Obj.cells #[.int .i64 X, .int .i64 Y] 65))
                have hnw : ∀ j u, ([.int .i64 X, .int .i64 Y] : List Value)[j]? = some u → (W.alloc (Obj.cells #[.int .i64 X, .int .i64 Y] 65)).cell? ((⟨W.heap.size, 0, none⟩ : Addr).add j) = some u := hr_cells W X Y 65
                have hlb : bV < W.heap.size := hV0.1.1
                refine hK.out _ _ trivial (fun _ => ?_)
                clear hK K
                try simp only [Act.put, List.setIfInBounds_toArray, List.set_cons_zero, List.set_cons_succ]
                obtain ⟨bN, hbN⟩ : ∃ z, z = W.heap.size := ⟨_, rfl⟩
                rw [← hbN] at hnw hlb ⊢
                obtain ⟨k1, hk1⟩ : ∃ z, z = W.alloc (Obj.cells #[.int .i64 X, .int .i64 Y] 65) := ⟨_, rfl⟩
                rw [← hk1] at hnw hA1 hG1 hR1 hV1 hO1 hT1 ⊢
                exact N1_3_5_7.out bN k1 ⟨trivial, hA1, hG1, hR1, hV1, hO1, hT1, hnw, hlb, trivial⟩
            · rintro bN W ⟨hTr, hA0, hG0, hR0, hV0, hO0, hT0, hnw, hlb, _⟩
              refine wpAnyH_ready (rs := [8]) (by kernel_rfl) (by simp) ?_
              refine AllReadyH.cons (o := { dst := some 41, op := Op.call { callee := Callee.builtin Builtin.append, args := #[Operand.tmp 34, Operand.tmp 40], argTypes := #[30, 30] }, type := 30, pos := "l07_window.go:227", after := #[{ on := 1, ground := Ground.data }, { on := 7, ground := Ground.data }, { on := 5, ground := Ground.chain }], guard := none }) rfl (fun K hK => ?_) AllReadyH.nil
              refine step_append_own rfl _ _ 30 rfl (bV + 1) 65 j0 (.agg #[.int .i64 0, .int .i64 0]) 2 16 Tryd.underlying30 gi gz0 gz1 gz2 rfl gsz3 _ _ _ rfl hO0 ⟨bN, 0, none⟩ 1 1 [.int .i64 X, .int .i64 Y] rfl rfl hnw (hr_one X Y) sz1 sz2 (hV0.1.1) ?_
              intro v9 w9 hown hgrow hne
              have hA1 := after_grown hA0 hgrow (fun e => by have := (hO0.lt _ e.symm).1; omega)
              have hG1 := gnewR hG0 hgrow (fun X e => by have := (hO0.lt _ e).1; omega)
              have hR1 := hR0.grown hgrow (fun e => by have := (hO0.lt _ e.symm).1; omega)
              have hV1 := hV0.grown hgrow (fun e => by have := (hO0.lt _ e.symm).1; omega)
              have hT1 := own_keepO hT0 hgrow (own_apart hT0 hO0 (by decide))
              have hO1 : w9.ownsRow (bV + 1) 65 2 v9 (i + 1) (cellsAll H.cells (LH (i + 1))) := by rw [HLM.out, cellsAll_snoc]; exact hown
              obtain ⟨sb, sc, rfl⟩ := own_form hO1
              clear hown hgrow hne hnw
              refine hK.out _ _ trivial (fun _ => ?_)
              clear hK K
              try simp only [Act.put, List.setIfInBounds_toArray, List.set_cons_zero, List.set_cons_succ]
              refine wpAnyH_take (i := 9) (oi := { dst := some 42, op := Op.fieldAddr 32 (Operand.tmp 3) 7, type := 0, pos := "l07_window.go:227", after := #[{ on := 0, ground := Ground.phase }, { on := 1, ground := Ground.phase }, { on := 2, ground := Ground.phase }, { on := 3, ground := Ground.phase }, { on := 4, ground := Ground.phase }, { on := 5, ground := Ground.phase }, { on := 6, ground := Ground.phase }, { on := 7, ground := Ground.phase }, { on := 8, ground := Ground.phase }], guard := none }) (v := ?_) rfl (by kernel_rfl) (by kernel_rfl) (by kernel_rfl) (fun _ _ _ h => h) (Or.inl ⟨by rfl, ?_⟩) (by assumption) ?_
              rotate_left
              · (intro w hSw; (try dsimp only at hSw); go_simp) <;> with_reducible rfl
              try simp only [Act.put, List.setIfInBounds_toArray, List.set_cons_zero, List.set_cons_succ]
              exact N1_3_5_7_8.out bN sb sc w9 ⟨trivial, hA1, hG1, hR1, hV1, hO1, hT1, trivial⟩
          · rintro bN sb sc W ⟨hTr, hA0, hG0, hR0, hV0, hO0, hT0, _⟩
            refine wpAnyH_ready (rs := [10]) (by kernel_rfl) (by simp) ?_
            refine AllReadyH.cons (o := { dst := none, op := Op.store 30 (Operand.tmp 42) (Operand.tmp 41), type := 0, pos := "l07_window.go:227", after := #[{ on := 9, ground := Ground.data }, { on := 8, ground := Ground.data }, { on := 8, ground := Ground.chain }, { on := 0, ground := Ground.phase }, { on := 1, ground := Ground.phase }, { on := 2, ground := Ground.phase }, { on := 3, ground := Ground.phase }, { on := 4, ground := Ground.phase }, { on := 5, ground := Ground.phase }, { on := 6, ground := Ground.phase }, { on := 7, ground := Ground.phase }, { on := 8, ground := Ground.phase }], guard := none }) rfl (fun K hK => ?_) AllReadyH.nil
            have c6 := hV0.1.2 7 (by simp)
            have l6 := hV0.1.1
            have f6 := hV0.2 7 (by simp)
            simp only [List.getElem?_cons_zero, List.getElem?_cons_succ] at c6
            go_simp
            try go_wp2_with fail
            have hg := RowG.grown_set W bV 7 (.slice (some ⟨sb, 0, none⟩) (i + 1) sc)
            have hA9 := after_grown hA0 hg (by simp; omega)
            have hG9 := gnewG hG0 hg (by omega)
            have hR9 := hR0.grown hg (by simp; omega)
            have hV9 := hV0.set 7 (.slice (some ⟨sb, 0, none⟩) (i + 1) sc) (by simp)
            have hO9 := own_keepG hO0 hg (by omega)
            have hT9 := own_keepG hT0 hg (by omega)
            simp only [List.set_cons_zero, List.set_cons_succ] at hV9
            refine hK.out _ _ trivial (fun _ => ?_)
            clear hK K
            try simp only [Act.put, List.setIfInBounds_toArray, List.set_cons_zero, List.set_cons_succ]
            generalize (W.setCell ⟨bV, 7, none⟩ (.slice (some ⟨sb, 0, none⟩) (i + 1) sc)) = kk at *
            refine wpAnyH_done (by kernel_rfl) ?_ _
            have HA9 := hid_intro hA9
            have HG9 := hid_intro hG9
            have HR9 := hid_intro hR9
            have HV9 := hid_intro hV9
            have HO9 := hid_intro hO9
            have HT9 := hid_intro hT9
            clear hA9 hG9 hR9 hV9 hO9 hg c6 l6 f6 hT9
            go_wp2_with fail
            go_roundw
            case rel => exact ⟨i + 1, some ⟨sb, 0, none⟩, sc, by omega, by go_num, HA9, HG9, HR9, HV9, HT9, HO9⟩
            case measure => simp [intOf]; omega
        · have hlt2 : ¬ (i : Int) < (D : Int) := by omega
          obtain rfl : i = D := by omega
          obtain ⟨⟨vl, vk⟩, _⟩ := HV.out
          have v0 : wr.cell? ⟨bV, 0, none⟩ = some (.string a) := vk 0 (by simp)
          have v1 : wr.cell? ⟨bV, 1, none⟩ = some (.string m) := vk 1 (by simp)
          have v2 : wr.cell? ⟨bV, 2, none⟩ = some (.int .i64 mo) := vk 2 (by simp)
          have v3 : wr.cell? ⟨bV, 3, none⟩ = some (.int .i64 ev) := vk 3 (by simp)
          have v4 : wr.cell? ⟨bV, 4, none⟩ = some (.int .i64 su) := vk 4 (by simp)
          have v5 : wr.cell? ⟨bV, 5, none⟩ = some (.int .i64 mx) := vk 5 (by simp)
          have v6 : wr.cell? ⟨bV, 6, none⟩ = some (.slice ta k tc) := vk 6 (by simp)
          have v7 : wr.cell? ⟨bV, 7, none⟩ = some (.slice ha i hc) := vk 7 (by simp)
          obtain ⟨⟨rl, rk⟩, rf⟩ := HR.out
          have p0 : wr.cell? ⟨w.heap.size, 0, none⟩ = some (.string ⟨#[]⟩) := rk 0 (by simp)
          have f0 : wr.frozen? ⟨w.heap.size, 0, none⟩ = false := rf 0 (by simp)
          have p1 : wr.cell? ⟨w.heap.size, 1, none⟩ = some (.string ⟨#[]⟩) := rk 1 (by simp)
          have f1 : wr.frozen? ⟨w.heap.size, 1, none⟩ = false := rf 1 (by simp)
          have p2 : wr.cell? ⟨w.heap.size, 2, none⟩ = some (.int .i64 0) := rk 2 (by simp)
          have f2 : wr.frozen? ⟨w.heap.size, 2, none⟩ = false := rf 2 (by simp)
          have p3 : wr.cell? ⟨w.heap.size, 3, none⟩ = some (.int .i64 0) := rk 3 (by simp)
          have f3 : wr.frozen? ⟨w.heap.size, 3, none⟩ = false := rf 3 (by simp)
          have p4 : wr.cell? ⟨w.heap.size, 4, none⟩ = some (.int .i64 0) := rk 4 (by simp)
          have f4 : wr.frozen? ⟨w.heap.size, 4, none⟩ = false := rf 4 (by simp)
          have p5 : wr.cell? ⟨w.heap.size, 5, none⟩ = some (.int .i64 0) := rk 5 (by simp)
          have f5 : wr.frozen? ⟨w.heap.size, 5, none⟩ = false := rf 5 (by simp)
          have p6 : wr.cell? ⟨w.heap.size, 6, none⟩ = some (.slice none 0 0) := rk 6 (by simp)
          have f6 : wr.frozen? ⟨w.heap.size, 6, none⟩ = false := rf 6 (by simp)
          have p7 : wr.cell? ⟨w.heap.size, 7, none⟩ = some (.slice none 0 0) := rk 7 (by simp)
          have f7 : wr.frozen? ⟨w.heap.size, 7, none⟩ = false := rf 7 (by simp)
          have hg := StR.stL_grown w.heap.size [.string a, .string m, .int .i64 mo, .int .i64 ev, .int .i64 su, .int .i64 mx, .slice ta k tc, .slice ha i hc] 0 wr
          have HA9 := hid_intro (after_grown HA.out hg (by simp; omega))
          have HG9 := hid_intro (gnewG HG.out hg (Nat.le_refl _))
          have HT9 := hid_intro (own_keepG HT.out hg (by omega))
          have HO9 := hid_intro (own_keepG HO.out hg (by omega))
          simp only [StR.stL, Nat.zero_add, Nat.reduceAdd] at HA9 HG9 HT9 HO9
          clear vk rk rf hg HA HG HR HV HT HO
          go_wp2_with fail
          refine bodyPost_ret (v := .agg #[.string a, .string m, .int .i64 mo, .int .i64 ev, .int .i64 su, .int .i64 mx, .slice ta k tc, .slice ha i hc]) (by simp [results, Tryd.results38, go_sem, p0, p1, p2, p3, p4, p5, p6, p7]) rfl ⟨_, _, _, _, rfl, own_low HT9.out (by omega), own_low HO9.out (by omega), HA9.out, HG9.out⟩
end WinR
end Go.Proofs.YtnlmpejgiakepaaDoor
namespace Go.Proofs.YtnlmpejgiakepaaDoor
open Go.ChangeShapes Go.WideShapes Go.ChangeAt Go.RowKit
set_option linter.unusedVariables false
namespace WinR
open RowG LtR
open CatR (Blk Blk.new)
open DateR (Laid)
theorem counted_su {ev su mx : Int} (h : countedB ev su mx = true) : (1 ≤ ev ∧ ev ≤ 1000) ∧ (0 ≤ su ∧ su ≤ 1000000000000) ∧ 0 ≤ mx ∧ mx ≤ su := by
  unfold countedB at h
  simp only [Bool.and_eq_true, decide_eq_true_eq] at h
  exact h
set_option maxRecDepth 100000 in
set_option maxHeartbeats 8000000 in
theorem right_in (a m : ByteArray) (mo ev su mx : Int) (ta : Option Addr) (tl tc : Nat) (ha : Option Addr) (hl hc : Nat) (b1 b2 b3 b4 : Bool) (w : World)
    (h1 : ∀ W, Calls Tryd.prog 73 #[.agg #[.string a, .string m, .int .i64 mo]] W fun e w' => e = .returned (.bool b1) ∧ Below W.heap.size W w')
    (h2 : ∀ W, Calls Tryd.prog 74 #[.agg #[.int .i64 ev, .int .i64 su, .int .i64 mx]] W fun e w' => e = .returned (.bool b2) ∧ Below W.heap.size W w')
    (h3 : ∀ W, Below w.heap.size w W → Calls Tryd.prog 75 #[.agg #[.string a, .string m, .int .i64 mo, .int .i64 ev, .int .i64 su, .int .i64 mx, .slice ta tl tc, .func (.func 88) #[] #[], .func (.func 89) #[] #[], .slice ha hl hc, .func (.func 90) #[] #[], .func (.func 91) #[] #[]]] W fun e w' => e = .returned (.bool b3) ∧ Below W.heap.size W w')
    (h4 : b2 = true → ∀ W, Below w.heap.size w W → Calls Tryd.prog 76 #[.agg #[.string a, .string m, .int .i64 mo, .int .i64 ev, .int .i64 su, .int .i64 mx, .slice ta tl tc, .func (.func 88) #[] #[], .func (.func 89) #[] #[], .slice ha hl hc, .func (.func 90) #[] #[], .func (.func 91) #[] #[]]] W fun e w' => e = .returned (.bool b4) ∧ Below W.heap.size W w') :
    Calls Tryd.prog 54 #[.agg #[.string a, .string m, .int .i64 mo, .int .i64 ev, .int .i64 su, .int .i64 mx, .slice ta tl tc, .func (.func 88) #[] #[], .func (.func 89) #[] #[], .slice ha hl hc, .func (.func 90) #[] #[], .func (.func 91) #[] #[]]] w fun e w' => e = .returned (.bool (b1 && (b2 && (b3 && b4)))) ∧ Below w.heap.size w w' := by
  have H1 := hid_intro h1
  have H2 := hid_intro h2
  have H3 := hid_intro h3
  have H4 := hid_intro h4
  clear h1 h2 h3 h4
  have HB0 : Hid (Below w.heap.size w (w.alloc (.cells #[.string a, .string m, .int .i64 mo, .int .i64 ev, .int .i64 su, .int .i64 mx, .slice ta tl tc, .func (.func 88) #[] #[], .func (.func 89) #[] #[], .slice ha hl hc, .func (.func 90) #[] #[], .func (.func 91) #[] #[]] 97))) := hid_intro ((Below.refl _ _).alloc (Nat.le_refl _) _)
  have HX0 := hid_intro (Blk.new w [.string a, .string m, .int .i64 mo, .int .i64 ev, .int .i64 su, .int .i64 mx, .slice ta tl tc, .func (.func 88) #[] #[], .func (.func 89) #[] #[], .slice ha hl hc, .func (.func 90) #[] #[], .func (.func 91) #[] #[]] 97)
  rcases four b1 b2 b3 b4 with rfl | ⟨rfl, rfl⟩ | ⟨rfl, rfl, rfl⟩ | ⟨rfl, rfl, rfl, rfl⟩ | ⟨rfl, rfl, rfl, rfl⟩
  · go_enter Tryd.func54, Tryd.ntmps54
    go_wp2_with fail
    refine (H1.out _).mono ?_
    rintro e w1 ⟨rfl, hb1⟩
    have HB1 := hid_intro (HB0.out.trans (hb1.mono HB0.out.size))
    have HX1 := hid_intro (HX0.out.below hb1)
    clear hb1
    go_wp2_with fail
    go_ret
    exact ⟨rfl, HB1.out⟩
  · go_enter Tryd.func54, Tryd.ntmps54
    go_wp2_with fail
    refine (H1.out _).mono ?_
    rintro e w1 ⟨rfl, hb1⟩
    have HB1 := hid_intro (HB0.out.trans (hb1.mono HB0.out.size))
    have HX1 := hid_intro (HX0.out.below hb1)
    clear hb1
    obtain ⟨xl, xc⟩ := HX1.out
    have y0 : w1.cell? ⟨w.heap.size, 0, none⟩ = some (.string a) := xc 0 (by simp)
    have y1 : w1.cell? ⟨w.heap.size, 1, none⟩ = some (.string m) := xc 1 (by simp)
    have y2 : w1.cell? ⟨w.heap.size, 2, none⟩ = some (.int .i64 mo) := xc 2 (by simp)
    have y3 : w1.cell? ⟨w.heap.size, 3, none⟩ = some (.int .i64 ev) := xc 3 (by simp)
    have y4 : w1.cell? ⟨w.heap.size, 4, none⟩ = some (.int .i64 su) := xc 4 (by simp)
    have y5 : w1.cell? ⟨w.heap.size, 5, none⟩ = some (.int .i64 mx) := xc 5 (by simp)
    have y6 : w1.cell? ⟨w.heap.size, 6, none⟩ = some (.slice ta tl tc) := xc 6 (by simp)
    have y7 : w1.cell? ⟨w.heap.size, 7, none⟩ = some (.func (.func 88) #[] #[]) := xc 7 (by simp)
    have y8 : w1.cell? ⟨w.heap.size, 8, none⟩ = some (.func (.func 89) #[] #[]) := xc 8 (by simp)
    have y9 : w1.cell? ⟨w.heap.size, 9, none⟩ = some (.slice ha hl hc) := xc 9 (by simp)
    have y10 : w1.cell? ⟨w.heap.size, 10, none⟩ = some (.func (.func 90) #[] #[]) := xc 10 (by simp)
    have y11 : w1.cell? ⟨w.heap.size, 11, none⟩ = some (.func (.func 91) #[] #[]) := xc 11 (by simp)
    clear xc
    go_wp2_with fail
    refine (H2.out _).mono ?_
    rintro e w2 ⟨rfl, hb2⟩
    have HB2 := hid_intro (HB1.out.trans (hb2.mono HB1.out.size))
    have HX2 := hid_intro (HX1.out.below hb2)
    clear hb2
    go_wp2_with fail
    go_ret
    exact ⟨rfl, HB2.out⟩
  · go_enter Tryd.func54, Tryd.ntmps54
    go_wp2_with fail
    refine (H1.out _).mono ?_
    rintro e w1 ⟨rfl, hb1⟩
    have HB1 := hid_intro (HB0.out.trans (hb1.mono HB0.out.size))
    have HX1 := hid_intro (HX0.out.below hb1)
    clear hb1
    obtain ⟨xl, xc⟩ := HX1.out
    have y0 : w1.cell? ⟨w.heap.size, 0, none⟩ = some (.string a) := xc 0 (by simp)
    have y1 : w1.cell? ⟨w.heap.size, 1, none⟩ = some (.string m) := xc 1 (by simp)
    have y2 : w1.cell? ⟨w.heap.size, 2, none⟩ = some (.int .i64 mo) := xc 2 (by simp)
    have y3 : w1.cell? ⟨w.heap.size, 3, none⟩ = some (.int .i64 ev) := xc 3 (by simp)
    have y4 : w1.cell? ⟨w.heap.size, 4, none⟩ = some (.int .i64 su) := xc 4 (by simp)
    have y5 : w1.cell? ⟨w.heap.size, 5, none⟩ = some (.int .i64 mx) := xc 5 (by simp)
    have y6 : w1.cell? ⟨w.heap.size, 6, none⟩ = some (.slice ta tl tc) := xc 6 (by simp)
    have y7 : w1.cell? ⟨w.heap.size, 7, none⟩ = some (.func (.func 88) #[] #[]) := xc 7 (by simp)
    have y8 : w1.cell? ⟨w.heap.size, 8, none⟩ = some (.func (.func 89) #[] #[]) := xc 8 (by simp)
    have y9 : w1.cell? ⟨w.heap.size, 9, none⟩ = some (.slice ha hl hc) := xc 9 (by simp)
    have y10 : w1.cell? ⟨w.heap.size, 10, none⟩ = some (.func (.func 90) #[] #[]) := xc 10 (by simp)
    have y11 : w1.cell? ⟨w.heap.size, 11, none⟩ = some (.func (.func 91) #[] #[]) := xc 11 (by simp)
    clear xc
    go_wp2_with fail
    refine (H2.out _).mono ?_
    rintro e w2 ⟨rfl, hb2⟩
    have HB2 := hid_intro (HB1.out.trans (hb2.mono HB1.out.size))
    have HX2 := hid_intro (HX1.out.below hb2)
    clear hb2
    clear y0 y1 y2 y3 y4 y5 y6 y7 y8 y9 y10 y11
    obtain ⟨xl, xc⟩ := HX2.out
    have y0 : w2.cell? ⟨w.heap.size, 0, none⟩ = some (.string a) := xc 0 (by simp)
    have y1 : w2.cell? ⟨w.heap.size, 1, none⟩ = some (.string m) := xc 1 (by simp)
    have y2 : w2.cell? ⟨w.heap.size, 2, none⟩ = some (.int .i64 mo) := xc 2 (by simp)
    have y3 : w2.cell? ⟨w.heap.size, 3, none⟩ = some (.int .i64 ev) := xc 3 (by simp)
    have y4 : w2.cell? ⟨w.heap.size, 4, none⟩ = some (.int .i64 su) := xc 4 (by simp)
    have y5 : w2.cell? ⟨w.heap.size, 5, none⟩ = some (.int .i64 mx) := xc 5 (by simp)
    have y6 : w2.cell? ⟨w.heap.size, 6, none⟩ = some (.slice ta tl tc) := xc 6 (by simp)
    have y7 : w2.cell? ⟨w.heap.size, 7, none⟩ = some (.func (.func 88) #[] #[]) := xc 7 (by simp)
    have y8 : w2.cell? ⟨w.heap.size, 8, none⟩ = some (.func (.func 89) #[] #[]) := xc 8 (by simp)
    have y9 : w2.cell? ⟨w.heap.size, 9, none⟩ = some (.slice ha hl hc) := xc 9 (by simp)
    have y10 : w2.cell? ⟨w.heap.size, 10, none⟩ = some (.func (.func 90) #[] #[]) := xc 10 (by simp)
    have y11 : w2.cell? ⟨w.heap.size, 11, none⟩ = some (.func (.func 91) #[] #[]) := xc 11 (by simp)
    clear xc
    go_wp2_with fail
    refine (H3.out _ HB2.out).mono ?_
    rintro e w3 ⟨rfl, hb3⟩
    have HB3 := hid_intro (HB2.out.trans (hb3.mono HB2.out.size))
    have HX3 := hid_intro (HX2.out.below hb3)
    clear hb3
    go_wp2_with fail
    go_ret
    exact ⟨rfl, HB3.out⟩
  · go_enter Tryd.func54, Tryd.ntmps54
    go_wp2_with fail
    refine (H1.out _).mono ?_
    rintro e w1 ⟨rfl, hb1⟩
    have HB1 := hid_intro (HB0.out.trans (hb1.mono HB0.out.size))
    have HX1 := hid_intro (HX0.out.below hb1)
    clear hb1
    obtain ⟨xl, xc⟩ := HX1.out
    have y0 : w1.cell? ⟨w.heap.size, 0, none⟩ = some (.string a) := xc 0 (by simp)
    have y1 : w1.cell? ⟨w.heap.size, 1, none⟩ = some (.string m) := xc 1 (by simp)
    have y2 : w1.cell? ⟨w.heap.size, 2, none⟩ = some (.int .i64 mo) := xc 2 (by simp)
    have y3 : w1.cell? ⟨w.heap.size, 3, none⟩ = some (.int .i64 ev) := xc 3 (by simp)
    have y4 : w1.cell? ⟨w.heap.size, 4, none⟩ = some (.int .i64 su) := xc 4 (by simp)
    have y5 : w1.cell? ⟨w.heap.size, 5, none⟩ = some (.int .i64 mx) := xc 5 (by simp)
    have y6 : w1.cell? ⟨w.heap.size, 6, none⟩ = some (.slice ta tl tc) := xc 6 (by simp)
    have y7 : w1.cell? ⟨w.heap.size, 7, none⟩ = some (.func (.func 88) #[] #[]) := xc 7 (by simp)
    have y8 : w1.cell? ⟨w.heap.size, 8, none⟩ = some (.func (.func 89) #[] #[]) := xc 8 (by simp)
    have y9 : w1.cell? ⟨w.heap.size, 9, none⟩ = some (.slice ha hl hc) := xc 9 (by simp)
    have y10 : w1.cell? ⟨w.heap.size, 10, none⟩ = some (.func (.func 90) #[] #[]) := xc 10 (by simp)
    have y11 : w1.cell? ⟨w.heap.size, 11, none⟩ = some (.func (.func 91) #[] #[]) := xc 11 (by simp)
    clear xc
    go_wp2_with fail
    refine (H2.out _).mono ?_
    rintro e w2 ⟨rfl, hb2⟩
    have HB2 := hid_intro (HB1.out.trans (hb2.mono HB1.out.size))
    have HX2 := hid_intro (HX1.out.below hb2)
    clear hb2
    clear y0 y1 y2 y3 y4 y5 y6 y7 y8 y9 y10 y11
    obtain ⟨xl, xc⟩ := HX2.out
    have y0 : w2.cell? ⟨w.heap.size, 0, none⟩ = some (.string a) := xc 0 (by simp)
    have y1 : w2.cell? ⟨w.heap.size, 1, none⟩ = some (.string m) := xc 1 (by simp)
    have y2 : w2.cell? ⟨w.heap.size, 2, none⟩ = some (.int .i64 mo) := xc 2 (by simp)
    have y3 : w2.cell? ⟨w.heap.size, 3, none⟩ = some (.int .i64 ev) := xc 3 (by simp)
    have y4 : w2.cell? ⟨w.heap.size, 4, none⟩ = some (.int .i64 su) := xc 4 (by simp)
    have y5 : w2.cell? ⟨w.heap.size, 5, none⟩ = some (.int .i64 mx) := xc 5 (by simp)
    have y6 : w2.cell? ⟨w.heap.size, 6, none⟩ = some (.slice ta tl tc) := xc 6 (by simp)
    have y7 : w2.cell? ⟨w.heap.size, 7, none⟩ = some (.func (.func 88) #[] #[]) := xc 7 (by simp)
    have y8 : w2.cell? ⟨w.heap.size, 8, none⟩ = some (.func (.func 89) #[] #[]) := xc 8 (by simp)
    have y9 : w2.cell? ⟨w.heap.size, 9, none⟩ = some (.slice ha hl hc) := xc 9 (by simp)
    have y10 : w2.cell? ⟨w.heap.size, 10, none⟩ = some (.func (.func 90) #[] #[]) := xc 10 (by simp)
    have y11 : w2.cell? ⟨w.heap.size, 11, none⟩ = some (.func (.func 91) #[] #[]) := xc 11 (by simp)
    clear xc
    go_wp2_with fail
    refine (H3.out _ HB2.out).mono ?_
    rintro e w3 ⟨rfl, hb3⟩
    have HB3 := hid_intro (HB2.out.trans (hb3.mono HB2.out.size))
    have HX3 := hid_intro (HX2.out.below hb3)
    clear hb3
    clear y0 y1 y2 y3 y4 y5 y6 y7 y8 y9 y10 y11
    obtain ⟨xl, xc⟩ := HX3.out
    have y0 : w3.cell? ⟨w.heap.size, 0, none⟩ = some (.string a) := xc 0 (by simp)
    have y1 : w3.cell? ⟨w.heap.size, 1, none⟩ = some (.string m) := xc 1 (by simp)
    have y2 : w3.cell? ⟨w.heap.size, 2, none⟩ = some (.int .i64 mo) := xc 2 (by simp)
    have y3 : w3.cell? ⟨w.heap.size, 3, none⟩ = some (.int .i64 ev) := xc 3 (by simp)
    have y4 : w3.cell? ⟨w.heap.size, 4, none⟩ = some (.int .i64 su) := xc 4 (by simp)
    have y5 : w3.cell? ⟨w.heap.size, 5, none⟩ = some (.int .i64 mx) := xc 5 (by simp)
    have y6 : w3.cell? ⟨w.heap.size, 6, none⟩ = some (.slice ta tl tc) := xc 6 (by simp)
    have y7 : w3.cell? ⟨w.heap.size, 7, none⟩ = some (.func (.func 88) #[] #[]) := xc 7 (by simp)
    have y8 : w3.cell? ⟨w.heap.size, 8, none⟩ = some (.func (.func 89) #[] #[]) := xc 8 (by simp)
    have y9 : w3.cell? ⟨w.heap.size, 9, none⟩ = some (.slice ha hl hc) := xc 9 (by simp)
    have y10 : w3.cell? ⟨w.heap.size, 10, none⟩ = some (.func (.func 90) #[] #[]) := xc 10 (by simp)
    have y11 : w3.cell? ⟨w.heap.size, 11, none⟩ = some (.func (.func 91) #[] #[]) := xc 11 (by simp)
    clear xc
    go_wp2_with fail
    refine (H4.out (by first | rfl | trivial) _ HB3.out).mono ?_
    rintro e w4 ⟨rfl, hb4⟩
    have HB4 := hid_intro (HB3.out.trans (hb4.mono HB3.out.size))
    have HX4 := hid_intro (HX3.out.below hb4)
    clear hb4
    go_wp2_with fail
    go_ret
    exact ⟨rfl, HB4.out⟩
  · go_enter Tryd.func54, Tryd.ntmps54
    go_wp2_with fail
    refine (H1.out _).mono ?_
    rintro e w1 ⟨rfl, hb1⟩
    have HB1 := hid_intro (HB0.out.trans (hb1.mono HB0.out.size))
    have HX1 := hid_intro (HX0.out.below hb1)
    clear hb1
    obtain ⟨xl, xc⟩ := HX1.out
    have y0 : w1.cell? ⟨w.heap.size, 0, none⟩ = some (.string a) := xc 0 (by simp)
    have y1 : w1.cell? ⟨w.heap.size, 1, none⟩ = some (.string m) := xc 1 (by simp)
    have y2 : w1.cell? ⟨w.heap.size, 2, none⟩ = some (.int .i64 mo) := xc 2 (by simp)
    have y3 : w1.cell? ⟨w.heap.size, 3, none⟩ = some (.int .i64 ev) := xc 3 (by simp)
    have y4 : w1.cell? ⟨w.heap.size, 4, none⟩ = some (.int .i64 su) := xc 4 (by simp)
    have y5 : w1.cell? ⟨w.heap.size, 5, none⟩ = some (.int .i64 mx) := xc 5 (by simp)
    have y6 : w1.cell? ⟨w.heap.size, 6, none⟩ = some (.slice ta tl tc) := xc 6 (by simp)
    have y7 : w1.cell? ⟨w.heap.size, 7, none⟩ = some (.func (.func 88) #[] #[]) := xc 7 (by simp)
    have y8 : w1.cell? ⟨w.heap.size, 8, none⟩ = some (.func (.func 89) #[] #[]) := xc 8 (by simp)
    have y9 : w1.cell? ⟨w.heap.size, 9, none⟩ = some (.slice ha hl hc) := xc 9 (by simp)
    have y10 : w1.cell? ⟨w.heap.size, 10, none⟩ = some (.func (.func 90) #[] #[]) := xc 10 (by simp)
    have y11 : w1.cell? ⟨w.heap.size, 11, none⟩ = some (.func (.func 91) #[] #[]) := xc 11 (by simp)
    clear xc
    go_wp2_with fail
    refine (H2.out _).mono ?_
    rintro e w2 ⟨rfl, hb2⟩
    have HB2 := hid_intro (HB1.out.trans (hb2.mono HB1.out.size))
    have HX2 := hid_intro (HX1.out.below hb2)
    clear hb2
    clear y0 y1 y2 y3 y4 y5 y6 y7 y8 y9 y10 y11
    obtain ⟨xl, xc⟩ := HX2.out
    have y0 : w2.cell? ⟨w.heap.size, 0, none⟩ = some (.string a) := xc 0 (by simp)
    have y1 : w2.cell? ⟨w.heap.size, 1, none⟩ = some (.string m) := xc 1 (by simp)
    have y2 : w2.cell? ⟨w.heap.size, 2, none⟩ = some (.int .i64 mo) := xc 2 (by simp)
    have y3 : w2.cell? ⟨w.heap.size, 3, none⟩ = some (.int .i64 ev) := xc 3 (by simp)
    have y4 : w2.cell? ⟨w.heap.size, 4, none⟩ = some (.int .i64 su) := xc 4 (by simp)
    have y5 : w2.cell? ⟨w.heap.size, 5, none⟩ = some (.int .i64 mx) := xc 5 (by simp)
    have y6 : w2.cell? ⟨w.heap.size, 6, none⟩ = some (.slice ta tl tc) := xc 6 (by simp)
    have y7 : w2.cell? ⟨w.heap.size, 7, none⟩ = some (.func (.func 88) #[] #[]) := xc 7 (by simp)
    have y8 : w2.cell? ⟨w.heap.size, 8, none⟩ = some (.func (.func 89) #[] #[]) := xc 8 (by simp)
    have y9 : w2.cell? ⟨w.heap.size, 9, none⟩ = some (.slice ha hl hc) := xc 9 (by simp)
    have y10 : w2.cell? ⟨w.heap.size, 10, none⟩ = some (.func (.func 90) #[] #[]) := xc 10 (by simp)
    have y11 : w2.cell? ⟨w.heap.size, 11, none⟩ = some (.func (.func 91) #[] #[]) := xc 11 (by simp)
    clear xc
    go_wp2_with fail
    refine (H3.out _ HB2.out).mono ?_
    rintro e w3 ⟨rfl, hb3⟩
    have HB3 := hid_intro (HB2.out.trans (hb3.mono HB2.out.size))
    have HX3 := hid_intro (HX2.out.below hb3)
    clear hb3
    clear y0 y1 y2 y3 y4 y5 y6 y7 y8 y9 y10 y11
    obtain ⟨xl, xc⟩ := HX3.out
    have y0 : w3.cell? ⟨w.heap.size, 0, none⟩ = some (.string a) := xc 0 (by simp)
    have y1 : w3.cell? ⟨w.heap.size, 1, none⟩ = some (.string m) := xc 1 (by simp)
    have y2 : w3.cell? ⟨w.heap.size, 2, none⟩ = some (.int .i64 mo) := xc 2 (by simp)
    have y3 : w3.cell? ⟨w.heap.size, 3, none⟩ = some (.int .i64 ev) := xc 3 (by simp)
    have y4 : w3.cell? ⟨w.heap.size, 4, none⟩ = some (.int .i64 su) := xc 4 (by simp)
    have y5 : w3.cell? ⟨w.heap.size, 5, none⟩ = some (.int .i64 mx) := xc 5 (by simp)
    have y6 : w3.cell? ⟨w.heap.size, 6, none⟩ = some (.slice ta tl tc) := xc 6 (by simp)
    have y7 : w3.cell? ⟨w.heap.size, 7, none⟩ = some (.func (.func 88) #[] #[]) := xc 7 (by simp)
    have y8 : w3.cell? ⟨w.heap.size, 8, none⟩ = some (.func (.func 89) #[] #[]) := xc 8 (by simp)
    have y9 : w3.cell? ⟨w.heap.size, 9, none⟩ = some (.slice ha hl hc) := xc 9 (by simp)
    have y10 : w3.cell? ⟨w.heap.size, 10, none⟩ = some (.func (.func 90) #[] #[]) := xc 10 (by simp)
    have y11 : w3.cell? ⟨w.heap.size, 11, none⟩ = some (.func (.func 91) #[] #[]) := xc 11 (by simp)
    clear xc
    go_wp2_with fail
    refine (H4.out (by first | rfl | trivial) _ HB3.out).mono ?_
    rintro e w4 ⟨rfl, hb4⟩
    have HB4 := hid_intro (HB3.out.trans (hb4.mono HB3.out.size))
    have HX4 := hid_intro (HX3.out.below hb4)
    clear hb4
    go_wp2_with fail
    go_ret
    exact ⟨rfl, HB4.out⟩
theorem impl_right (a m : ByteArray) (mo ev su mx : Int) (ts : List ByteArray) (hs : List H) (ta : Option Addr) (tc : Nat) (ha : Option Addr) (hc : Nat) (w : World) (h1 : a.size ≤ 1048576) (h2 : m.size ≤ 1048576) (h3 : ts.length ≤ 1048576) (h4 : ∀ t ∈ ts, t.size ≤ 1048576) (h5 : hs.length ≤ 1048576) (hL : Laid w) (hT : Tgs ta ts w) (hH : Hrs ha hs w) :
    Calls Tryd.prog 54 #[.agg #[.string a, .string m, .int .i64 mo, .int .i64 ev, .int .i64 su, .int .i64 mx, .slice ta ts.length tc, .func (.func 88) #[] #[], .func (.func 89) #[] #[], .slice ha hs.length hc, .func (.func 90) #[] #[], .func (.func 91) #[] #[]]] w fun e w' => e = .returned (.bool (wB ⟨a, m, mo, ev, su, mx, ts, hs⟩)) ∧ Below w.heap.size w w' :=
  right_in a m mo ev su mx ta ts.length tc ha hs.length hc _ _ _ _ w (fun W => impl_named a m mo W h1 h2) (fun W => impl_counted ev su mx W) (fun W hW => impl_tagged a m mo ev su mx ts ta tc _ W h3 h4 (hT.below hW)) (fun hc W hW => impl_timed a m mo ev su mx hs _ ha _ W h5 (counted_su hc).2.1 (hL.below hW) (hH.below hW))
theorem impl_window_right (x : Wd) (ta : Option Addr) (tc : Nat) (ha : Option Addr) (hc : Nat) (w : World) (h1 : x.a.size ≤ 1048576) (h2 : x.m.size ≤ 1048576) (h3 : x.ts.length ≤ 1048576) (h4 : ∀ t ∈ x.ts, t.size ≤ 1048576) (h5 : x.hs.length ≤ 1048576) (hL : Laid w) (hT : Tgs ta x.ts w) (hH : Hrs ha x.hs w) :
    Calls Tryd.prog 40 #[.agg (wcells x ta tc ha hc)] w fun e w' => e = .returned (.bool (wB x)) ∧ Below w.heap.size w w' := by
  obtain ⟨a, m, mo, ev, su, mx, ts, hs⟩ := x
  dsimp only at *
  have H1 := hid_intro (fun W => impl_usage a m mo ev su mx ta ts.length tc ha hs.length hc W)
  have H2 := hid_intro (fun W (hW : Below w.heap.size w W) => impl_right a m mo ev su mx ts hs ta tc ha hc W h1 h2 h3 h4 h5 (hL.below hW) (hT.below hW) (hH.below hW))
  unfold wcells
  dsimp only
  generalize wB ⟨a, m, mo, ev, su, mx, ts, hs⟩ = R at *
  generalize ts.length = tl at *
  generalize hs.length = hl at *
  clear hL hT hH h4
  have HB0 : Hid (Below w.heap.size w (w.alloc (.cells #[.string a, .string m, .int .i64 mo, .int .i64 ev, .int .i64 su, .int .i64 mx, .slice ta tl tc, .slice ha hl hc] 32))) := hid_intro ((Below.refl _ _).alloc (Nat.le_refl _) _)
  go_enter Tryd.func40, Tryd.ntmps40
  go_wp2_with fail
  refine (H1.out _).mono ?_
  rintro e w1 ⟨rfl, hb1⟩
  have HB1 := hid_intro (HB0.out.trans (hb1.mono HB0.out.size))
  clear hb1
  go_wp2_with fail
  refine (H2.out _ HB1.out).mono ?_
  rintro e w2 ⟨rfl, hb2⟩
  have HB2 := hid_intro (HB1.out.trans (hb2.mono HB1.out.size))
  clear hb2
  go_wp2_with fail
  go_ret
  exact ⟨rfl, HB2.out⟩
end WinR
end Go.Proofs.YtnlmpejgiakepaaDoor
namespace Go.Proofs.YtnlmpejgiakepaaDoor
open Go.ChangeShapes Go.WideShapes Go.ChangeAt Go.RowKit
set_option linter.unusedVariables false
namespace WinR
open RowG LtR
theorem tag_word (X : ByteArray) : (WordR.printB X && decide ((X.size : Int) ≤ 10)) = EvtR.tagB X := by
  unfold EvtR.tagB
  rw [Bool.and_comm]
  congr 1
  exact decide_eq_decide.2 (by omega)
theorem ok_none {X : ByteArray} (h : X.size = 0) : tagOk X = false := by unfold tagOk; rw [decide_eq_false (by omega), Bool.false_and]
theorem ok_some {X : ByteArray} (h : X.size ≠ 0) : tagOk X = EvtR.tagB X := by unfold tagOk; rw [decide_eq_true (by omega), Bool.true_and]
set_option maxRecDepth 100000 in
set_option maxHeartbeats 4000000 in
theorem spec_tags (ao : Option Addr) (cap : Nat) (ts : List ByteArray) (w : World) (hlen : ts.length ≤ 1048576) (hS : ∀ t ∈ ts, t.size ≤ 1048576) (hI : Tgs ao ts w) :
    Calls Tryd.prog 44 #[.slice ao ts.length cap] w fun e w' => e = .returned (.bool (tagsB ts)) ∧ Below w.heap.size w w' := by
  have HI := hid_intro hI
  have HS := hid_intro hS
  have HBA := hid_intro (fun k => tags_bad (ts := ts) (k := k))
  have HDO := hid_intro (tags_done (ts := ts))
  generalize tagsB ts = R at *
  obtain ⟨len, hl⟩ : ∃ len, len = ts.length := ⟨_, rfl⟩
  rw [← hl] at hlen ⊢
  have HL := hid_intro hl
  clear hI hl hS
  go_enter Tryd.func44, Tryd.ntmps44
  go_wp2_with fail
  go_loopw [3] (fun z wr => ∃ k : Nat, k ≤ len ∧ z = .int .i64 k ∧ Hid (TUp ts k) ∧ Hid (Below w.heap.size w wr)) (fun z _ => len - (intOf z).toNat)
  case atStart => exact ⟨0, by omega, rfl, hid_intro (TUp.zero ts), hid_intro (Below.refl _ _)⟩
  case round =>
    obtain ⟨k, hk, rfl, HK, HB⟩ := hrel
    by_cases hlt : k < len
    · have hlt2 : (k : Int) < (len : Int) := by omega
      have hkl : k < ts.length := by have := HL.out; omega
      obtain ⟨b, off, rfl, hbl, c0⟩ := (HI.out.below HB.out).at k hkl
      have hsz := HS.out _ (getD_mem (z := tz) ts k hkl)
      have H1 := hid_intro (fun w => WordR.spec_word (ts.getD k tz) 10 w hsz)
      rw [tag_word] at H1
      have HB1 := hid_intro (fun h => HBA.out k hkl (.inl h))
      have HB2 := hid_intro (fun h0 h => HBA.out k hkl (.inr ⟨h0, h⟩))
      have HM := hid_intro (fun h1 h2 => HK.out.more hkl h1 h2)
      have HO0 := hid_intro (ok_none (X := ts.getD k tz))
      have HO1 := hid_intro (ok_some (X := ts.getD k tz))
      rcases (show k = 0 ∨ ∃ j, j + 1 = k from by rcases k with _ | j; exact .inl rfl; exact .inr ⟨j, rfl⟩) with rfl | ⟨j, hkj⟩
      · simp only [Nat.add_zero] at c0
        generalize ts.getD 0 tz = X at *
        by_cases hi : X.size = 0
        · have he := EvtR.empty_of X hi
          have HR : Hid (R = false) := hid_intro (HB1.out (HO0.out hi))
          go_wp2_with fail
          go_quiet ((go_at_call 46; exact Calls.quiet_of_same (H1.out _)))
          go_wp2_with fail
          go_ret
          exact ⟨ret_bool HR.out.symm, bdN HB.out _⟩
        · obtain ⟨he, he2⟩ := EvtR.full_of X hi
          have HO2 := hid_intro (HO1.out hi)
          generalize EvtR.tagB X = g at *
          cases g
          · have HR : Hid (R = false) := hid_intro (HB1.out HO2.out)
            go_wp2_with fail
            go_quiet ((go_at_call 46; exact Calls.quiet_of_same (H1.out _)))
            go_wp2_with fail
            go_ret
            exact ⟨ret_bool HR.out.symm, bdN HB.out _⟩
          · have HM2 := hid_intro (HM.out HO2.out (fun h => absurd h (by omega)))
            go_wp2_with fail
            go_quiet ((go_at_call 46; exact Calls.quiet_of_same (H1.out _)))
            go_wp2_with fail
            go_roundw
            case rel => exact ⟨0 + 1, by omega, by go_num, HM2, hid_intro (bdN HB.out _)⟩
            case measure => simp [intOf]; omega
      · obtain ⟨b', off', hbo, hbl', d0⟩ := (HI.out.below HB.out).at j (by omega)
        obtain ⟨rfl, rfl⟩ : b = b' ∧ off = off' := by simpa using hbo
        have hj1 : IntKind.i64.wrap ((k : Int) - 1) = (j : Int) := by rw [IntKind.wrap_i64]; omega
        have hj2 : 0 < k := by omega
        have hj3 : (j : Int) < (len : Int) := by omega
        rw [show k - 1 = j by omega] at HB2 HM
        clear hbl' hbo hkj
        generalize ts.getD k tz = X at *
        generalize ts.getD j tz = Y at *
        by_cases hi : X.size = 0
        · have he := EvtR.empty_of X hi
          have HR : Hid (R = false) := hid_intro (HB1.out (HO0.out hi))
          go_wp2_with fail
          go_quiet ((go_at_call 46; exact Calls.quiet_of_same (H1.out _)))
          go_wp2_with fail
          go_ret
          exact ⟨ret_bool HR.out.symm, bdN HB.out _⟩
        · obtain ⟨he, he2⟩ := EvtR.full_of X hi
          have HO2 := hid_intro (HO1.out hi)
          generalize EvtR.tagB X = g at *
          cases g
          · have HR : Hid (R = false) := hid_intro (HB1.out HO2.out)
            go_wp2_with fail
            go_quiet ((go_at_call 46; exact Calls.quiet_of_same (H1.out _)))
            go_wp2_with fail
            go_ret
            exact ⟨ret_bool HR.out.symm, bdN HB.out _⟩
          · cases hq : Op.bytesLess Y.toList X.toList
            · have HR : Hid (R = false) := hid_intro (HB2.out hj2 hq)
              go_wp2_with fail
              go_quiet ((go_at_call 46; exact Calls.quiet_of_same (H1.out _)))
              go_wp2_with fail
              go_ret
              exact ⟨ret_bool HR.out.symm, bdN HB.out _⟩
            · have HM2 := hid_intro (HM.out HO2.out (fun _ => hq))
              go_wp2_with fail
              go_quiet ((go_at_call 46; exact Calls.quiet_of_same (H1.out _)))
              go_wp2_with fail
              go_roundw
              case rel => exact ⟨k + 1, by omega, by go_num, HM2, hid_intro (bdN HB.out _)⟩
              case measure => simp [intOf]; omega
    · have hlt2 : ¬ (k : Int) < (len : Int) := by omega
      obtain rfl : k = len := by omega
      have HR : Hid (R = decide (k ≤ 12)) := hid_intro (by rw [HDO.out (by rw [← HL.out]; exact HK.out), ← HL.out])
      by_cases h12 : k ≤ 12
      · rw [decide_eq_true h12] at HR
        have h12' : (k : Int) ≤ 12 := by omega
        go_wp2_with fail
        go_ret
        exact ⟨ret_bool HR.out.symm, HB.out⟩
      · rw [decide_eq_false h12] at HR
        have h12' : ¬ (k : Int) ≤ 12 := by omega
        go_wp2_with fail
        go_ret
        exact ⟨ret_bool HR.out.symm, HB.out⟩
end WinR
end Go.Proofs.YtnlmpejgiakepaaDoor
namespace Go.Proofs.YtnlmpejgiakepaaDoor
open Go.ChangeShapes Go.WideShapes Go.ChangeAt Go.RowKit
/-- A world that holds some facts. -/
structure HW (S : World → Prop) where
  w : World
  h : S w
theorem wp_region_hw {P : Program} {id : Nat} {Q : Exit → Act → World → Prop} {a : Act} {w : World} {l : List Oper} (S : World → Prop) (hm : P.follows .mixedOrders = true) (hB : Region.lexB .any l.toArray = true) (hC : S w.drew)
    (h : wpQuiet P l.toArray (fun w' => ∃ s : HW S, w' = s.w) (fun a' => ∀ w', (∃ s : HW S, w' = s.w) → Q .normal a' w') l a) : (Code.region id l.toArray true).wp P Q a w :=
  wp_region_quiet (C := fun w' => ∃ s : HW S, w' = s.w) hm hB ⟨⟨_, hC⟩, rfl⟩ (by simpa using h)
end Go.Proofs.YtnlmpejgiakepaaDoor
namespace Go.Proofs.YtnlmpejgiakepaaDoor
open Go.ChangeShapes Go.WideShapes Go.ChangeAt Go.RowKit
set_option linter.unusedVariables false
namespace WinR
open RowG LtR
/-- What the round reads. -/
def SHt (w : World) (b o o' : Nat) (x y : H) (W : World) : Prop := Below w.heap.size w W ∧ b < W.heap.size ∧ W.cell? ⟨b, o, none⟩ = some (.int .i64 x.h) ∧ W.cell? ⟨b, o + 1, none⟩ = some (.int .i64 x.s) ∧ W.cell? ⟨b, o', none⟩ = some (.int .i64 y.h)
theorem SHt.below {w : World} {b o o' : Nat} {x y : H} {W W' : World} (h : SHt w b o o' x y W) (hb : Below W.heap.size W W') : SHt w b o o' x y W' := by
  obtain ⟨h0, h1, c0, c1, c2⟩ := h
  have c := fun o => hb.cell (p := ⟨b, o, none⟩) h1
  have := hb.size
  exact ⟨h0.trans (hb.mono h0.size), by omega, (c _).trans c0, (c _).trans c1, (c _).trans c2⟩
/-- What is told of an hour, the model's way: not in its limits, of another month, not rising, a sum that may not be. -/
theorem ok_far {mo su : Int} {x : H} (h : ¬ (0 ≤ x.h ∧ x.h ≤ 2016666)) : hOk mo su x = false := by unfold hOk; rw [hour_far h, Bool.false_and]
theorem ok_in {mo su : Int} {x : H} {v : Int} {k : Nat} (h1 : 0 ≤ x.h) (h2 : x.h ≤ 2016666) (hv : v = (k : Int)) (f1 : DateM.fd k ≤ 60 * x.h / 1440) (f2 : 60 * x.h / 1440 < DateM.fd (k + 1)) : hOk mo su x = (decide (v = mo) && decide (0 ≤ x.s ∧ x.s ≤ su)) := by
  unfold hOk
  rw [hour_month h1 h2 k hv f1 f2]
theorem is_any (n low high : Int) (w : World) :
    Calls Tryd.prog 43 #[.int .i64 n, .int .i64 low, .int .i64 high] w fun e w' => e = .returned (.bool (decide (low ≤ n ∧ n ≤ high))) ∧ Below w.heap.size w w' :=
  (EvtR.is_any n low high w).mono fun e w' ⟨h1, h2⟩ => by subst h2; exact ⟨h1, Below.refl _ _⟩
theorem is_lit (n low high : Int) (b : Bool) (hb : b = decide (low ≤ n ∧ n ≤ high)) (w : World) :
    Calls Tryd.prog 43 #[.int .i64 n, .int .i64 low, .int .i64 high] w fun e w' => e = .returned (.bool b) ∧ Below w.heap.size w w' := by
  rw [hb]; exact is_any n low high w
set_option maxRecDepth 100000 in
set_option maxHeartbeats 8000000 in
theorem spec_hours (ao : Option Addr) (cap : Nat) (hs : List H) (mo su : Int) (w : World) (hlen : hs.length ≤ 12) (hsu : 0 ≤ su ∧ su ≤ 1000000000000) (hI : Hrs ao hs w) :
    Calls Tryd.prog 45 #[.slice ao hs.length cap, .int .i64 mo, .int .i64 su] w fun e w' => e = .returned (.bool (hoursB hs mo su)) ∧ Below w.heap.size w w' := by
  have HI := hid_intro hI
  have HBA := hid_intro (fun k => hours_bad (hs := hs) (mo := mo) (su := su) (k := k))
  have HDO := hid_intro (hours_done (hs := hs) (mo := mo) (su := su))
  generalize hoursB hs mo su = R at *
  obtain ⟨len, hl⟩ : ∃ len, len = hs.length := ⟨_, rfl⟩
  rw [← hl] at hlen ⊢
  have HL := hid_intro hl
  obtain ⟨hs0, hs1⟩ := hsu
  clear hI hl
  go_enter Tryd.func45, Tryd.ntmps45
  go_wp2_with fail
  go_loopw [7, 8] (fun y z wr => ∃ k : Nat, k ≤ len ∧ y = .int .i64 (hsum (hs.take k)) ∧ z = .int .i64 k ∧ Hid (SUp hs mo su k) ∧ Hid (Below w.heap.size w wr)) (fun y z _ => len - (intOf z).toNat)
  case atStart => exact ⟨0, by omega, by simp [hsum], rfl, hid_intro (SUp.zero hs mo su), hid_intro (Below.refl _ _)⟩
  case round =>
    obtain ⟨k, hk, rfl, rfl, HK, HB⟩ := hrel
    by_cases hlt1 : k < len
    · have hlt2 : (k : Int) < (len : Int) := by omega
      have hkl : k < hs.length := by have := HL.out; omega
      have HSS := hid_intro (HK.out.sum hs0 (by omega))
      have hT0 : 0 ≤ hsum (hs.take k) := HSS.out.1
      have hT1 : hsum (hs.take k) ≤ 12000000000000 := by
        have h1 := HSS.out.2
        have h2 : su * (k : Int) ≤ 1000000000000 * 12 := Int.mul_le_mul hs1 (by omega) (by omega) (by omega)
        omega
      have HST := hid_intro (hsum_take hs k hkl)
      obtain ⟨b, off, rfl, hbl, c0, c1⟩ := (HI.out.below HB.out).at k hkl
      have HB1 := hid_intro (fun h => HBA.out k hkl (.inl h))
      have HB2 := hid_intro (fun h0 h => HBA.out k hkl (.inr ⟨h0, h⟩))
      have HM := hid_intro (fun h1 h2 => HK.out.more hkl h1 h2)
      generalize hsum (hs.take k) = T at *
      rcases (show k = 0 ∨ ∃ j, j + 1 = k from by rcases k with _ | j; exact .inl rfl; exact .inr ⟨j, rfl⟩) with rfl | ⟨j, hkj⟩
      · simp only [Nat.zero_mul, Nat.add_zero] at c0 c1
        generalize hs.getD 0 H.zero = X at *
        obtain ⟨xh, xs⟩ := X
        dsimp only at c0 c1 HST
        have d0 := c0
        obtain ⟨yh, hyh⟩ : ∃ yh, yh = xh := ⟨_, rfl⟩
        rw [← hyh] at d0
        obtain ⟨ys, hys⟩ : ∃ ys : Int, ys = 0 := ⟨_, rfl⟩
        clear hyh hys
        have HS0 : Hid (SHt w b (off) (off) ⟨xh, xs⟩ ⟨yh, ys⟩ wr) := hid_intro ⟨HB.out, hbl, c0, c1, d0⟩
        obtain ⟨S, hS⟩ : ∃ S : World → Prop, ∀ W, S W ↔ SHt w b (off) (off) ⟨xh, xs⟩ ⟨yh, ys⟩ W := ⟨_, fun _ => Iff.rfl⟩
        have HSC : Hid (∀ s : HW S, SHt w b (off) (off) ⟨xh, xs⟩ ⟨yh, ys⟩ s.w) := hid_intro (fun s => (hS _).1 s.h)
        have HSB : Hid (∀ (s : HW S) w', Below s.w.heap.size s.w w' → S w') := hid_intro (fun s w' hb => (hS _).2 ((HSC.out s).below hb))
        have HSD : Hid (S wr.drew) := hid_intro ((hS _).2 (HS0.out.below (Below.refl _ _).drew))
        have hne : Nonempty (HW S) := ⟨⟨_, HSD.out⟩⟩
        have f0 : ∀ s : HW S, s.w.cell? ⟨b, off, none⟩ = some (.int .i64 xh) := fun s => (HSC.out s).2.2.1
        have f1 : ∀ s : HW S, s.w.cell? ⟨b, off + 1, none⟩ = some (.int .i64 xs) := fun s => (HSC.out s).2.2.2.1
        clear hS
        rcases (show (¬ 0 ≤ xh) ∨ (0 ≤ xh ∧ ¬ xh ≤ 2016666) ∨ (0 ≤ xh ∧ xh ≤ 2016666) by omega) with p1 | ⟨p1, p2⟩ | ⟨p1, p2⟩
        · have HR : Hid (R = false) := hid_intro (HB1.out (ok_far (fun h => p1 h.1)))
          have HIs1 : Hid (false = decide (0 ≤ xh ∧ xh ≤ 2016666)) := hid_intro (decide_eq_false (by omega)).symm
          have HIs2 := HIs1
          go_wp2_with fail
          refine wp_region_hw S (by kernel_rfl) (by kernel_rfl) HSD.out ?_
          repeat (go_big_quiet_step ((rename_i s; first | (go_at_call 43; refine (is_lit _ _ _ _ (by first | exact HIs1.out | exact HIs2.out) _).mono ?_; rintro e w1 ⟨rfl, hb1⟩; exact ⟨rfl, ⟨w1, HSB.out s w1 hb1⟩, rfl⟩))))
          refine wpQuiet_nil ?_
          intro _ hw'
          obtain ⟨s, hw''⟩ := hw'
          subst hw''
          have HBF := hid_intro (HSC.out s).1
          go_wp2_with fail
          go_ret
          exact ⟨ret_bool HR.out.symm, HBF.out⟩
        · have HR : Hid (R = false) := hid_intro (HB1.out (ok_far (fun h => p2 h.2)))
          have HIs1 : Hid (false = decide (0 ≤ xh ∧ xh ≤ 2016666)) := hid_intro (decide_eq_false (by omega)).symm
          have HIs2 := HIs1
          go_wp2_with fail
          refine wp_region_hw S (by kernel_rfl) (by kernel_rfl) HSD.out ?_
          repeat (go_big_quiet_step ((rename_i s; first | (go_at_call 43; refine (is_lit _ _ _ _ (by first | exact HIs1.out | exact HIs2.out) _).mono ?_; rintro e w1 ⟨rfl, hb1⟩; exact ⟨rfl, ⟨w1, HSB.out s w1 hb1⟩, rfl⟩))))
          refine wpQuiet_nil ?_
          intro _ hw'
          obtain ⟨s, hw''⟩ := hw'
          subst hw''
          have HBF := hid_intro (HSC.out s).1
          go_wp2_with fail
          go_ret
          exact ⟨ret_bool HR.out.symm, HBF.out⟩
        · obtain ⟨K, K1, F1, F2, _, hms⟩ := month_two (60 * xh) (by omega) (by omega)
          have HMO := hid_intro hms
          have HOK := hid_intro (ok_in (mo := mo) (su := su) (x := ⟨xh, xs⟩) p1 p2 (v := (K : Int)) rfl F1 F2)
          generalize hn60 : 60 * xh = n at *
          clear hms F1 F2
          have HIs1 : Hid (true = decide (0 ≤ xh ∧ xh ≤ 2016666)) := hid_intro (decide_eq_true ⟨p1, p2⟩).symm
          by_cases hmo : (K : Int) = mo
          · rw [decide_eq_true hmo, Bool.true_and] at HOK
            have hmo2 : ((K : Int) != mo) = false := by simp [hmo]
            by_cases hin : 0 ≤ xs ∧ xs ≤ su
            · have HM2 := hid_intro (HM.out (by rw [HOK.out, decide_eq_true hin]) (fun h => absurd h (by omega)))
              have HIs2 : Hid (true = decide (0 ≤ xs ∧ xs ≤ su)) := hid_intro (decide_eq_true hin).symm
              obtain ⟨hin1, hin2⟩ := hin
              go_wp2_with fail
              refine wp_region_hw S (by kernel_rfl) (by kernel_rfl) HSD.out ?_
              repeat (go_big_quiet_step ((rename_i s; first | (go_at_call 43; refine (is_lit _ _ _ _ (by first | exact HIs1.out | exact HIs2.out) _).mono ?_; rintro e w1 ⟨rfl, hb1⟩; exact ⟨rfl, ⟨w1, HSB.out s w1 hb1⟩, rfl⟩) | (go_at_call 51; (try rw [hn60]); refine (HMO.out _).mono ?_; rintro e w1 ⟨rfl, hb1⟩; exact ⟨rfl, ⟨w1, HSB.out s w1 hb1⟩, rfl⟩))))
              refine wpQuiet_nil ?_
              intro _ hw'
              obtain ⟨s, hw''⟩ := hw'
              subst hw''
              have HBF := hid_intro (HSC.out s).1
              go_wp2_with fail
              go_roundw
              case rel => exact ⟨0 + 1, by omega, by rw [HST.out], by go_num, HM2, HBF⟩
              case measure => simp [intOf]; omega
            · have HR : Hid (R = false) := hid_intro (HB1.out (by rw [HOK.out, decide_eq_false hin]))
              have HIs2 : Hid (false = decide (0 ≤ xs ∧ xs ≤ su)) := hid_intro (decide_eq_false hin).symm
              go_wp2_with fail
              refine wp_region_hw S (by kernel_rfl) (by kernel_rfl) HSD.out ?_
              repeat (go_big_quiet_step ((rename_i s; first | (go_at_call 43; refine (is_lit _ _ _ _ (by first | exact HIs1.out | exact HIs2.out) _).mono ?_; rintro e w1 ⟨rfl, hb1⟩; exact ⟨rfl, ⟨w1, HSB.out s w1 hb1⟩, rfl⟩) | (go_at_call 51; (try rw [hn60]); refine (HMO.out _).mono ?_; rintro e w1 ⟨rfl, hb1⟩; exact ⟨rfl, ⟨w1, HSB.out s w1 hb1⟩, rfl⟩))))
              refine wpQuiet_nil ?_
              intro _ hw'
              obtain ⟨s, hw''⟩ := hw'
              subst hw''
              have HBF := hid_intro (HSC.out s).1
              go_wp2_with fail
              go_ret
              exact ⟨ret_bool HR.out.symm, HBF.out⟩
          · rw [decide_eq_false hmo, Bool.false_and] at HOK
            have HR : Hid (R = false) := hid_intro (HB1.out HOK.out)
            have hmo2 : ((K : Int) != mo) = true := by simp [hmo]
            have HIs2 := HIs1
            go_wp2_with fail
            refine wp_region_hw S (by kernel_rfl) (by kernel_rfl) HSD.out ?_
            repeat (go_big_quiet_step ((rename_i s; first | (go_at_call 43; refine (is_lit _ _ _ _ (by first | exact HIs1.out | exact HIs2.out) _).mono ?_; rintro e w1 ⟨rfl, hb1⟩; exact ⟨rfl, ⟨w1, HSB.out s w1 hb1⟩, rfl⟩) | (go_at_call 51; (try rw [hn60]); refine (HMO.out _).mono ?_; rintro e w1 ⟨rfl, hb1⟩; exact ⟨rfl, ⟨w1, HSB.out s w1 hb1⟩, rfl⟩))))
            refine wpQuiet_nil ?_
            intro _ hw'
            obtain ⟨s, hw''⟩ := hw'
            subst hw''
            have HBF := hid_intro (HSC.out s).1
            go_wp2_with fail
            go_ret
            exact ⟨ret_bool HR.out.symm, HBF.out⟩
      · obtain ⟨b', off', hbo, hbl', d0, _⟩ := (HI.out.below HB.out).at j (by omega)
        obtain ⟨rfl, rfl⟩ : b = b' ∧ off = off' := by simpa using hbo
        have hj1 : IntKind.i64.wrap ((k : Int) - 1) = (j : Int) := by rw [IntKind.wrap_i64]; omega
        have hj2 : 0 < k := by omega
        have hj3 : (j : Int) < (len : Int) := by omega
        rw [show k - 1 = j by omega] at HB2 HM
        clear hbl' hbo hkj
        generalize hs.getD k H.zero = X at *
        generalize hs.getD j H.zero = Y at *
        obtain ⟨xh, xs⟩ := X
        obtain ⟨yh, ys⟩ := Y
        dsimp only at c0 c1 d0 HST
        have HS0 : Hid (SHt w b (off + k * 2) (off + j * 2) ⟨xh, xs⟩ ⟨yh, ys⟩ wr) := hid_intro ⟨HB.out, hbl, c0, c1, d0⟩
        obtain ⟨S, hS⟩ : ∃ S : World → Prop, ∀ W, S W ↔ SHt w b (off + k * 2) (off + j * 2) ⟨xh, xs⟩ ⟨yh, ys⟩ W := ⟨_, fun _ => Iff.rfl⟩
        have HSC : Hid (∀ s : HW S, SHt w b (off + k * 2) (off + j * 2) ⟨xh, xs⟩ ⟨yh, ys⟩ s.w) := hid_intro (fun s => (hS _).1 s.h)
        have HSB : Hid (∀ (s : HW S) w', Below s.w.heap.size s.w w' → S w') := hid_intro (fun s w' hb => (hS _).2 ((HSC.out s).below hb))
        have HSD : Hid (S wr.drew) := hid_intro ((hS _).2 (HS0.out.below (Below.refl _ _).drew))
        have hne : Nonempty (HW S) := ⟨⟨_, HSD.out⟩⟩
        have f0 : ∀ s : HW S, s.w.cell? ⟨b, off + k * 2, none⟩ = some (.int .i64 xh) := fun s => (HSC.out s).2.2.1
        have f1 : ∀ s : HW S, s.w.cell? ⟨b, off + k * 2 + 1, none⟩ = some (.int .i64 xs) := fun s => (HSC.out s).2.2.2.1
        have f2 : ∀ s : HW S, s.w.cell? ⟨b, off + j * 2, none⟩ = some (.int .i64 yh) := fun s => (HSC.out s).2.2.2.2
        clear hS
        rcases (show (¬ 0 ≤ xh) ∨ (0 ≤ xh ∧ ¬ xh ≤ 2016666) ∨ (0 ≤ xh ∧ xh ≤ 2016666) by omega) with p1 | ⟨p1, p2⟩ | ⟨p1, p2⟩
        · have HR : Hid (R = false) := hid_intro (HB1.out (ok_far (fun h => p1 h.1)))
          have HIs1 : Hid (false = decide (0 ≤ xh ∧ xh ≤ 2016666)) := hid_intro (decide_eq_false (by omega)).symm
          have HIs2 := HIs1
          go_wp2_with fail
          refine wp_region_hw S (by kernel_rfl) (by kernel_rfl) HSD.out ?_
          repeat (go_big_quiet_step ((rename_i s; first | (go_at_call 43; refine (is_lit _ _ _ _ (by first | exact HIs1.out | exact HIs2.out) _).mono ?_; rintro e w1 ⟨rfl, hb1⟩; exact ⟨rfl, ⟨w1, HSB.out s w1 hb1⟩, rfl⟩))))
          refine wpQuiet_nil ?_
          intro _ hw'
          obtain ⟨s, hw''⟩ := hw'
          subst hw''
          have HBF := hid_intro (HSC.out s).1
          go_wp2_with fail
          go_ret
          exact ⟨ret_bool HR.out.symm, HBF.out⟩
        · have HR : Hid (R = false) := hid_intro (HB1.out (ok_far (fun h => p2 h.2)))
          have HIs1 : Hid (false = decide (0 ≤ xh ∧ xh ≤ 2016666)) := hid_intro (decide_eq_false (by omega)).symm
          have HIs2 := HIs1
          go_wp2_with fail
          refine wp_region_hw S (by kernel_rfl) (by kernel_rfl) HSD.out ?_
          repeat (go_big_quiet_step ((rename_i s; first | (go_at_call 43; refine (is_lit _ _ _ _ (by first | exact HIs1.out | exact HIs2.out) _).mono ?_; rintro e w1 ⟨rfl, hb1⟩; exact ⟨rfl, ⟨w1, HSB.out s w1 hb1⟩, rfl⟩))))
          refine wpQuiet_nil ?_
          intro _ hw'
          obtain ⟨s, hw''⟩ := hw'
          subst hw''
          have HBF := hid_intro (HSC.out s).1
          go_wp2_with fail
          go_ret
          exact ⟨ret_bool HR.out.symm, HBF.out⟩
        · obtain ⟨K, K1, F1, F2, _, hms⟩ := month_two (60 * xh) (by omega) (by omega)
          have HMO := hid_intro hms
          have HOK := hid_intro (ok_in (mo := mo) (su := su) (x := ⟨xh, xs⟩) p1 p2 (v := (K : Int)) rfl F1 F2)
          generalize hn60 : 60 * xh = n at *
          clear hms F1 F2
          have HIs1 : Hid (true = decide (0 ≤ xh ∧ xh ≤ 2016666)) := hid_intro (decide_eq_true ⟨p1, p2⟩).symm
          by_cases hmo : (K : Int) = mo
          · rw [decide_eq_true hmo, Bool.true_and] at HOK
            have hmo2 : ((K : Int) != mo) = false := by simp [hmo]
            by_cases hr : yh < xh
            · have hr2 : decide (xh ≤ yh) = false := decide_eq_false (by omega)
              have hr3 : (xh ≤ yh) = False := eq_false (by omega)
              by_cases hin : 0 ≤ xs ∧ xs ≤ su
              · have HM2 := hid_intro (HM.out (by rw [HOK.out, decide_eq_true hin]) (fun _ => by unfold hlt; exact decide_eq_true hr))
                have HIs2 : Hid (true = decide (0 ≤ xs ∧ xs ≤ su)) := hid_intro (decide_eq_true hin).symm
                obtain ⟨hin1, hin2⟩ := hin
                go_wp2_with fail
                refine wp_region_hw S (by kernel_rfl) (by kernel_rfl) HSD.out ?_
                repeat (go_big_quiet_step ((rename_i s; first | (go_at_call 43; refine (is_lit _ _ _ _ (by first | exact HIs1.out | exact HIs2.out) _).mono ?_; rintro e w1 ⟨rfl, hb1⟩; exact ⟨rfl, ⟨w1, HSB.out s w1 hb1⟩, rfl⟩) | (go_at_call 51; (try rw [hn60]); refine (HMO.out _).mono ?_; rintro e w1 ⟨rfl, hb1⟩; exact ⟨rfl, ⟨w1, HSB.out s w1 hb1⟩, rfl⟩))))
                refine wpQuiet_nil ?_
                intro _ hw'
                obtain ⟨s, hw''⟩ := hw'
                subst hw''
                have HBF := hid_intro (HSC.out s).1
                go_wp2_with fail
                go_roundw
                case rel => exact ⟨k + 1, by omega, by rw [HST.out], by go_num, HM2, HBF⟩
                case measure => simp [intOf]; omega
              · have HR : Hid (R = false) := hid_intro (HB1.out (by rw [HOK.out, decide_eq_false hin]))
                have HIs2 : Hid (false = decide (0 ≤ xs ∧ xs ≤ su)) := hid_intro (decide_eq_false hin).symm
                go_wp2_with fail
                refine wp_region_hw S (by kernel_rfl) (by kernel_rfl) HSD.out ?_
                repeat (go_big_quiet_step ((rename_i s; first | (go_at_call 43; refine (is_lit _ _ _ _ (by first | exact HIs1.out | exact HIs2.out) _).mono ?_; rintro e w1 ⟨rfl, hb1⟩; exact ⟨rfl, ⟨w1, HSB.out s w1 hb1⟩, rfl⟩) | (go_at_call 51; (try rw [hn60]); refine (HMO.out _).mono ?_; rintro e w1 ⟨rfl, hb1⟩; exact ⟨rfl, ⟨w1, HSB.out s w1 hb1⟩, rfl⟩))))
                refine wpQuiet_nil ?_
                intro _ hw'
                obtain ⟨s, hw''⟩ := hw'
                subst hw''
                have HBF := hid_intro (HSC.out s).1
                go_wp2_with fail
                go_ret
                exact ⟨ret_bool HR.out.symm, HBF.out⟩
            · have HR : Hid (R = false) := hid_intro (HB2.out hj2 (by unfold hlt; exact decide_eq_false hr))
              have hr2 : xh ≤ yh := by omega
              have HIs2 := HIs1
              go_wp2_with fail
              refine wp_region_hw S (by kernel_rfl) (by kernel_rfl) HSD.out ?_
              repeat (go_big_quiet_step ((rename_i s; first | (go_at_call 43; refine (is_lit _ _ _ _ (by first | exact HIs1.out | exact HIs2.out) _).mono ?_; rintro e w1 ⟨rfl, hb1⟩; exact ⟨rfl, ⟨w1, HSB.out s w1 hb1⟩, rfl⟩) | (go_at_call 51; (try rw [hn60]); refine (HMO.out _).mono ?_; rintro e w1 ⟨rfl, hb1⟩; exact ⟨rfl, ⟨w1, HSB.out s w1 hb1⟩, rfl⟩))))
              refine wpQuiet_nil ?_
              intro _ hw'
              obtain ⟨s, hw''⟩ := hw'
              subst hw''
              have HBF := hid_intro (HSC.out s).1
              go_wp2_with fail
              go_ret
              exact ⟨ret_bool HR.out.symm, HBF.out⟩
          · rw [decide_eq_false hmo, Bool.false_and] at HOK
            have HR : Hid (R = false) := hid_intro (HB1.out HOK.out)
            have hmo2 : ((K : Int) != mo) = true := by simp [hmo]
            have HIs2 := HIs1
            go_wp2_with fail
            refine wp_region_hw S (by kernel_rfl) (by kernel_rfl) HSD.out ?_
            repeat (go_big_quiet_step ((rename_i s; first | (go_at_call 43; refine (is_lit _ _ _ _ (by first | exact HIs1.out | exact HIs2.out) _).mono ?_; rintro e w1 ⟨rfl, hb1⟩; exact ⟨rfl, ⟨w1, HSB.out s w1 hb1⟩, rfl⟩) | (go_at_call 51; (try rw [hn60]); refine (HMO.out _).mono ?_; rintro e w1 ⟨rfl, hb1⟩; exact ⟨rfl, ⟨w1, HSB.out s w1 hb1⟩, rfl⟩))))
            refine wpQuiet_nil ?_
            intro _ hw'
            obtain ⟨s, hw''⟩ := hw'
            subst hw''
            have HBF := hid_intro (HSC.out s).1
            go_wp2_with fail
            go_ret
            exact ⟨ret_bool HR.out.symm, HBF.out⟩
    · have hlt2 : ¬ (k : Int) < (len : Int) := by omega
      obtain rfl : k = len := by omega
      have HR : Hid (R = decide (hsum (hs.take k) = su)) := hid_intro (by rw [HDO.out (by rw [← HL.out]; exact HK.out), List.take_of_length_le (by have := HL.out; omega)])
      generalize hsum (hs.take k) = T at *
      by_cases hz : T = su
      · rw [decide_eq_true hz] at HR
        go_wp2_with fail
        go_ret
        exact ⟨ret_bool (by rw [HR.out]; try simp [hz]), HB.out⟩
      · rw [decide_eq_false hz] at HR
        go_wp2_with fail
        go_ret
        exact ⟨ret_bool (by rw [HR.out]; try simp [hz]), HB.out⟩
end WinR
end Go.Proofs.YtnlmpejgiakepaaDoor
namespace Go.Proofs.YtnlmpejgiakepaaDoor
open Go.ChangeShapes Go.WideShapes Go.ChangeAt Go.RowKit
set_option linter.unusedVariables false
namespace WinR
open RowG LtR
open CatR (Blk Blk.new)
theorem six (b1 b2 b3 b4 b5 b6 : Bool) : (b1 = false) ∨ (b1 = true ∧ b2 = false) ∨ (b1 = true ∧ b2 = true ∧ b3 = false) ∨ (b1 = true ∧ b2 = true ∧ b3 = true ∧ b4 = false) ∨ (b1 = true ∧ b2 = true ∧ b3 = true ∧ b4 = true ∧ b5 = false) ∨ (b1 = true ∧ b2 = true ∧ b3 = true ∧ b4 = true ∧ b5 = true ∧ b6 = false) ∨ (b1 = true ∧ b2 = true ∧ b3 = true ∧ b4 = true ∧ b5 = true ∧ b6 = true) := by
  cases b1 <;> cases b2 <;> cases b3 <;> cases b4 <;> cases b5 <;> cases b6 <;> simp
theorem sisMonth_any (n : Int) (w : World) : Calls Tryd.prog 42 #[.int .i64 n] w fun e w' => e = .returned (.bool (decide (0 ≤ n ∧ n ≤ 2760))) ∧ w' = w := by
  have H := EvtR.is_any n 0 2760
  generalize decide (0 ≤ n ∧ n ≤ 2760) = b at *
  go_enter Tryd.func42, Tryd.ntmps42
  go_wp2_with (go_at_call 43; refine (H _).mono ?_; rintro e w' ⟨rfl, rfl⟩)
  go_ret
  exact ⟨rfl, rfl⟩
set_option maxRecDepth 100000 in
set_option maxHeartbeats 8000000 in
theorem sright_in (a m : ByteArray) (mo ev su mx : Int) (ta : Option Addr) (tl tc : Nat) (ha : Option Addr) (hl hc : Nat) (b1 b2 b3 b4 b5 b6 b7 b8 : Bool) (w : World)
    (h1 : ∀ W, Calls Tryd.prog 41 #[.string a] W fun e w' => e = .returned (.bool b1) ∧ w' = W) (h2 : ∀ W, Calls Tryd.prog 41 #[.string m] W fun e w' => e = .returned (.bool b2) ∧ w' = W) (h3 : ∀ W, Calls Tryd.prog 42 #[.int .i64 mo] W fun e w' => e = .returned (.bool b3) ∧ w' = W) (h4 : ∀ W, Calls Tryd.prog 43 #[.int .i64 ev, .int .i64 1, .int .i64 1000] W fun e w' => e = .returned (.bool b4) ∧ w' = W) (h5 : ∀ W, Calls Tryd.prog 43 #[.int .i64 su, .int .i64 0, .int .i64 1000000000000] W fun e w' => e = .returned (.bool b5) ∧ w' = W) (h6 : ∀ W, Calls Tryd.prog 43 #[.int .i64 mx, .int .i64 0, .int .i64 su] W fun e w' => e = .returned (.bool b6) ∧ w' = W)
    (h7 : ∀ W, Below w.heap.size w W → Calls Tryd.prog 44 #[.slice ta tl tc] W fun e w' => e = .returned (.bool b7) ∧ Below W.heap.size W w')
    (h8 : b5 = true → hl ≤ 12 → ∀ W, Below w.heap.size w W → Calls Tryd.prog 45 #[.slice ha hl hc, .int .i64 mo, .int .i64 su] W fun e w' => e = .returned (.bool b8) ∧ Below W.heap.size W w') :
    Calls Tryd.prog 20 #[.agg #[.string a, .string m, .int .i64 mo, .int .i64 ev, .int .i64 su, .int .i64 mx, .slice ta tl tc, .slice ha hl hc]] w fun e w' => e = .returned (.bool ((b1 && (b2 && b3)) && ((b4 && (b5 && b6)) && (b7 && (decide (1 ≤ hl ∧ hl ≤ 12) && b8))))) ∧ Below w.heap.size w w' := by
  have H1 := hid_intro h1
  have H2 := hid_intro h2
  have H3 := hid_intro h3
  have H4 := hid_intro h4
  have H5 := hid_intro h5
  have H6 := hid_intro h6
  have H7 := hid_intro h7
  have H8 := hid_intro h8
  clear h1 h2 h3 h4 h5 h6 h7 h8
  have HB0 : Hid (Below w.heap.size w (w.alloc (.cells #[.string a, .string m, .int .i64 mo, .int .i64 ev, .int .i64 su, .int .i64 mx, .slice ta tl tc, .slice ha hl hc] 32))) := hid_intro ((Below.refl _ _).alloc (Nat.le_refl _) _)
  have HX0 := hid_intro (Blk.new w [.string a, .string m, .int .i64 mo, .int .i64 ev, .int .i64 su, .int .i64 mx, .slice ta tl tc, .slice ha hl hc] 32)
  rcases six b1 b2 b3 b4 b5 b6 with rfl | ⟨rfl, rfl⟩ | ⟨rfl, rfl, rfl⟩ | ⟨rfl, rfl, rfl, rfl⟩ | ⟨rfl, rfl, rfl, rfl, rfl⟩ | ⟨rfl, rfl, rfl, rfl, rfl, rfl⟩ | ⟨rfl, rfl, rfl, rfl, rfl, rfl⟩
  · go_enter Tryd.func20, Tryd.ntmps20
    go_wp2_with fail
    refine (H1.out _).mono ?_
    rintro e w1 ⟨rfl, rfl⟩
    go_wp2_with fail
    go_ret
    exact ⟨ret_bool (by simp), HB0.out⟩
  · go_enter Tryd.func20, Tryd.ntmps20
    go_wp2_with fail
    refine (H1.out _).mono ?_
    rintro e w1 ⟨rfl, rfl⟩
    go_wp2_with fail
    refine (H2.out _).mono ?_
    rintro e w1 ⟨rfl, rfl⟩
    go_wp2_with fail
    go_ret
    exact ⟨ret_bool (by simp), HB0.out⟩
  · go_enter Tryd.func20, Tryd.ntmps20
    go_wp2_with fail
    refine (H1.out _).mono ?_
    rintro e w1 ⟨rfl, rfl⟩
    go_wp2_with fail
    refine (H2.out _).mono ?_
    rintro e w1 ⟨rfl, rfl⟩
    go_wp2_with fail
    refine (H3.out _).mono ?_
    rintro e w1 ⟨rfl, rfl⟩
    go_wp2_with fail
    go_ret
    exact ⟨ret_bool (by simp), HB0.out⟩
  · go_enter Tryd.func20, Tryd.ntmps20
    go_wp2_with fail
    refine (H1.out _).mono ?_
    rintro e w1 ⟨rfl, rfl⟩
    go_wp2_with fail
    refine (H2.out _).mono ?_
    rintro e w1 ⟨rfl, rfl⟩
    go_wp2_with fail
    refine (H3.out _).mono ?_
    rintro e w1 ⟨rfl, rfl⟩
    go_wp2_with fail
    refine (H4.out _).mono ?_
    rintro e w1 ⟨rfl, rfl⟩
    go_wp2_with fail
    go_ret
    exact ⟨ret_bool (by simp), HB0.out⟩
  · go_enter Tryd.func20, Tryd.ntmps20
    go_wp2_with fail
    refine (H1.out _).mono ?_
    rintro e w1 ⟨rfl, rfl⟩
    go_wp2_with fail
    refine (H2.out _).mono ?_
    rintro e w1 ⟨rfl, rfl⟩
    go_wp2_with fail
    refine (H3.out _).mono ?_
    rintro e w1 ⟨rfl, rfl⟩
    go_wp2_with fail
    refine (H4.out _).mono ?_
    rintro e w1 ⟨rfl, rfl⟩
    go_wp2_with fail
    refine (H5.out _).mono ?_
    rintro e w1 ⟨rfl, rfl⟩
    go_wp2_with fail
    go_ret
    exact ⟨ret_bool (by simp), HB0.out⟩
  · go_enter Tryd.func20, Tryd.ntmps20
    go_wp2_with fail
    refine (H1.out _).mono ?_
    rintro e w1 ⟨rfl, rfl⟩
    go_wp2_with fail
    refine (H2.out _).mono ?_
    rintro e w1 ⟨rfl, rfl⟩
    go_wp2_with fail
    refine (H3.out _).mono ?_
    rintro e w1 ⟨rfl, rfl⟩
    go_wp2_with fail
    refine (H4.out _).mono ?_
    rintro e w1 ⟨rfl, rfl⟩
    go_wp2_with fail
    refine (H5.out _).mono ?_
    rintro e w1 ⟨rfl, rfl⟩
    go_wp2_with fail
    refine (H6.out _).mono ?_
    rintro e w1 ⟨rfl, rfl⟩
    go_wp2_with fail
    go_ret
    exact ⟨ret_bool (by simp), HB0.out⟩
  · cases b7
    · go_enter Tryd.func20, Tryd.ntmps20
      go_wp2_with fail
      refine (H1.out _).mono ?_
      rintro e w1 ⟨rfl, rfl⟩
      go_wp2_with fail
      refine (H2.out _).mono ?_
      rintro e w1 ⟨rfl, rfl⟩
      go_wp2_with fail
      refine (H3.out _).mono ?_
      rintro e w1 ⟨rfl, rfl⟩
      go_wp2_with fail
      refine (H4.out _).mono ?_
      rintro e w1 ⟨rfl, rfl⟩
      go_wp2_with fail
      refine (H5.out _).mono ?_
      rintro e w1 ⟨rfl, rfl⟩
      go_wp2_with fail
      refine (H6.out _).mono ?_
      rintro e w1 ⟨rfl, rfl⟩
      go_wp2_with fail
      refine (H7.out _ HB0.out).mono ?_
      rintro e w2 ⟨rfl, hb2⟩
      have HB2 := hid_intro (HB0.out.trans (hb2.mono HB0.out.size))
      clear hb2 HX0
      go_wp2_with fail
      go_ret
      exact ⟨ret_bool (by simp), HB2.out⟩
    · rcases (show (¬ 1 ≤ hl) ∨ (1 ≤ hl ∧ ¬ hl ≤ 12) ∨ (1 ≤ hl ∧ hl ≤ 12) by omega) with q | ⟨q, q2⟩ | ⟨q, q2⟩
      · have q' : ¬ (1 : Int) ≤ (hl : Int) := by omega
        rw [decide_eq_false (show ¬ (1 ≤ hl ∧ hl ≤ 12) by omega)]
        go_enter Tryd.func20, Tryd.ntmps20
        go_wp2_with fail
        refine (H1.out _).mono ?_
        rintro e w1 ⟨rfl, rfl⟩
        go_wp2_with fail
        refine (H2.out _).mono ?_
        rintro e w1 ⟨rfl, rfl⟩
        go_wp2_with fail
        refine (H3.out _).mono ?_
        rintro e w1 ⟨rfl, rfl⟩
        go_wp2_with fail
        refine (H4.out _).mono ?_
        rintro e w1 ⟨rfl, rfl⟩
        go_wp2_with fail
        refine (H5.out _).mono ?_
        rintro e w1 ⟨rfl, rfl⟩
        go_wp2_with fail
        refine (H6.out _).mono ?_
        rintro e w1 ⟨rfl, rfl⟩
        go_wp2_with fail
        refine (H7.out _ HB0.out).mono ?_
        rintro e w2 ⟨rfl, hb2⟩
        have HB2 := hid_intro (HB0.out.trans (hb2.mono HB0.out.size))
        have HX2 := hid_intro (HX0.out.below hb2)
        clear hb2 HX0
        obtain ⟨xl, xc⟩ := HX2.out
        have y2 : w2.cell? ⟨w.heap.size, 2, none⟩ = some (.int .i64 mo) := xc 2 (by simp)
        have y4 : w2.cell? ⟨w.heap.size, 4, none⟩ = some (.int .i64 su) := xc 4 (by simp)
        have y7 : w2.cell? ⟨w.heap.size, 7, none⟩ = some (.slice ha hl hc) := xc 7 (by simp)
        clear xc
        go_wp2_with fail
        go_ret
        exact ⟨ret_bool (by simp), HB2.out⟩
      · have q' : (1 : Int) ≤ (hl : Int) := by omega
        have q2' : ¬ (hl : Int) ≤ 12 := by omega
        rw [decide_eq_false (show ¬ (1 ≤ hl ∧ hl ≤ 12) by omega)]
        go_enter Tryd.func20, Tryd.ntmps20
        go_wp2_with fail
        refine (H1.out _).mono ?_
        rintro e w1 ⟨rfl, rfl⟩
        go_wp2_with fail
        refine (H2.out _).mono ?_
        rintro e w1 ⟨rfl, rfl⟩
        go_wp2_with fail
        refine (H3.out _).mono ?_
        rintro e w1 ⟨rfl, rfl⟩
        go_wp2_with fail
        refine (H4.out _).mono ?_
        rintro e w1 ⟨rfl, rfl⟩
        go_wp2_with fail
        refine (H5.out _).mono ?_
        rintro e w1 ⟨rfl, rfl⟩
        go_wp2_with fail
        refine (H6.out _).mono ?_
        rintro e w1 ⟨rfl, rfl⟩
        go_wp2_with fail
        refine (H7.out _ HB0.out).mono ?_
        rintro e w2 ⟨rfl, hb2⟩
        have HB2 := hid_intro (HB0.out.trans (hb2.mono HB0.out.size))
        have HX2 := hid_intro (HX0.out.below hb2)
        clear hb2 HX0
        obtain ⟨xl, xc⟩ := HX2.out
        have y2 : w2.cell? ⟨w.heap.size, 2, none⟩ = some (.int .i64 mo) := xc 2 (by simp)
        have y4 : w2.cell? ⟨w.heap.size, 4, none⟩ = some (.int .i64 su) := xc 4 (by simp)
        have y7 : w2.cell? ⟨w.heap.size, 7, none⟩ = some (.slice ha hl hc) := xc 7 (by simp)
        clear xc
        go_wp2_with fail
        go_ret
        exact ⟨ret_bool (by simp), HB2.out⟩
      · have q' : (1 : Int) ≤ (hl : Int) := by omega
        have q2' : (hl : Int) ≤ 12 := by omega
        rw [decide_eq_true (show 1 ≤ hl ∧ hl ≤ 12 by omega)]
        have H9 := hid_intro (H8.out rfl q2)
        go_enter Tryd.func20, Tryd.ntmps20
        go_wp2_with fail
        refine (H1.out _).mono ?_
        rintro e w1 ⟨rfl, rfl⟩
        go_wp2_with fail
        refine (H2.out _).mono ?_
        rintro e w1 ⟨rfl, rfl⟩
        go_wp2_with fail
        refine (H3.out _).mono ?_
        rintro e w1 ⟨rfl, rfl⟩
        go_wp2_with fail
        refine (H4.out _).mono ?_
        rintro e w1 ⟨rfl, rfl⟩
        go_wp2_with fail
        refine (H5.out _).mono ?_
        rintro e w1 ⟨rfl, rfl⟩
        go_wp2_with fail
        refine (H6.out _).mono ?_
        rintro e w1 ⟨rfl, rfl⟩
        go_wp2_with fail
        refine (H7.out _ HB0.out).mono ?_
        rintro e w2 ⟨rfl, hb2⟩
        have HB2 := hid_intro (HB0.out.trans (hb2.mono HB0.out.size))
        have HX2 := hid_intro (HX0.out.below hb2)
        clear hb2 HX0
        obtain ⟨xl, xc⟩ := HX2.out
        have y2 : w2.cell? ⟨w.heap.size, 2, none⟩ = some (.int .i64 mo) := xc 2 (by simp)
        have y4 : w2.cell? ⟨w.heap.size, 4, none⟩ = some (.int .i64 su) := xc 4 (by simp)
        have y7 : w2.cell? ⟨w.heap.size, 7, none⟩ = some (.slice ha hl hc) := xc 7 (by simp)
        clear xc
        go_wp2_with fail
        refine (H9.out _ HB2.out).mono ?_
        rintro e w3 ⟨rfl, hb3⟩
        have HB3 := hid_intro (HB2.out.trans (hb3.mono HB2.out.size))
        clear hb3
        go_wp2_with fail
        go_ret
        exact ⟨ret_bool (by simp), HB3.out⟩
theorem spec_window_right (x : Wd) (ta : Option Addr) (tc : Nat) (ha : Option Addr) (hc : Nat) (w : World) (h1 : x.a.size ≤ 1048576) (h2 : x.m.size ≤ 1048576) (h3 : x.ts.length ≤ 1048576) (h4 : ∀ t ∈ x.ts, t.size ≤ 1048576) (hT : Tgs ta x.ts w) (hH : Hrs ha x.hs w) :
    Calls Tryd.prog 20 #[.agg (wcells x ta tc ha hc)] w fun e w' => e = .returned (.bool (wB x)) ∧ Below w.heap.size w w' :=
  sright_in x.a x.m x.mo x.ev x.su x.mx ta x.ts.length tc ha x.hs.length hc _ _ _ _ _ _ _ _ w (fun W => NameR.spec_any x.a W h1) (fun W => NameR.spec_any x.m W h2) (fun W => sisMonth_any x.mo W) (fun W => EvtR.is_any x.ev 1 1000 W) (fun W => EvtR.is_any x.su 0 1000000000000 W) (fun W => EvtR.is_any x.mx 0 x.su W) (fun W hW => spec_tags ta tc x.ts W h3 h4 (hT.below hW)) (fun hs hl W hW => spec_hours ha hc x.hs x.mo x.su W hl (of_decide_eq_true hs) (hH.below hW))
end WinR
end Go.Proofs.YtnlmpejgiakepaaDoor
namespace Go.Proofs.YtnlmpejgiakepaaDoor
open Go.ChangeShapes Go.WideShapes Go.ChangeAt Go.RowKit
open Go.ChangeMaps (open_string shut_string)
set_option linter.unusedVariables false
namespace PutTextL
theorem spec_text (t : ByteArray) (w : World) (ht : t.size ≤ 8000) :
    Calls Tryd.prog 92 #[.string t] w fun e w' => e = .returned (.string (NumR.numB t.size ++ t)) ∧ Below w.heap.size w w' := by
  obtain ⟨v, hv⟩ : ∃ v, v = NumR.numB t.size := ⟨_, rfl⟩
  have h1 := fun w => NumR.spec_put t.size w (by omega)
  have h2 := NumR.numB_size (n := t.size) (by omega)
  rw [← hv] at h1 h2
  rw [← hv]
  clear hv
  go_enter Tryd.func92, Tryd.ntmps92
  go_wp2_with (first | (go_at_call 93; refine (h1 _).mono ?_; rintro e w1 ⟨rfl, hb1⟩))
  go_ret
  exact ⟨rfl, hb1⟩
theorem spec_big (t : ByteArray) (w : World) (ht : 8000 < t.size) (hm : t.size ≤ 1048576) :
    Calls Tryd.prog 92 #[.string t] w fun e w' => e = .returned (.string ⟨#[]⟩) ∧ Below w.heap.size w w' := by
  go_enter Tryd.func92, Tryd.ntmps92
  go_wp2
  go_ret
  exact ⟨rfl, Below.refl _ _⟩
end PutTextL
end Go.Proofs.YtnlmpejgiakepaaDoor
namespace Go.Proofs.YtnlmpejgiakepaaDoor
open Go.ChangeShapes Go.WideShapes Go.ChangeAt Go.RowKit
set_option linter.unusedVariables false
namespace WinR
open NumR (numB numB_size)
open JoinR (joinB jl)
open CatR (Blk)
def txB (t : ByteArray) : ByteArray := numB t.size ++ t
theorem joinB_app (a b : List ByteArray) : joinB (a ++ b) = joinB a ++ joinB b := by
  apply ByteArray.ext
  simp [joinB]
theorem joinB_one (x : ByteArray) : joinB [x] = x := by
  apply ByteArray.ext
  simp [joinB]
theorem joinB_two (x y : ByteArray) : joinB [x, y] = x ++ y := by
  apply ByteArray.ext
  simp [joinB]
theorem jl_size (l : List ByteArray) : (jl l l.length).length = (joinB l).size := by
  rw [JoinR.jl_all]
  show _ = (List.toArray _).size
  rw [List.size_toArray]
theorem take_flat {α : Type} (l : List α) (f : α → List ByteArray) (d : α) (k : Nat) (h : k < l.length) : (l.take (k + 1)).flatMap f = (l.take k).flatMap f ++ f (l.getD k d) := by
  rw [List.take_add_one, List.getElem?_eq_getElem h, List.flatMap_append]
  simp [List.getD, h]
theorem take_map {α : Type} (l : List α) (f : α → ByteArray) (d : α) (k : Nat) (h : k < l.length) : (l.take (k + 1)).map f = (l.take k).map f ++ [f (l.getD k d)] := by
  rw [List.take_add_one, List.getElem?_eq_getElem h, List.map_append]
  simp [List.getD, h]
theorem join_size_le (K : Nat) : ∀ l : List ByteArray, (∀ x ∈ l, x.size ≤ K) → (joinB l).size ≤ l.length * K
  | [], _ => by show 0 ≤ _; exact Nat.zero_le _
  | x :: l, h => by
    have h1 := join_size_le K l (fun y hy => h y (List.mem_cons_of_mem _ hy))
    have h2 := h x (List.mem_cons_self ..)
    have e : joinB (x :: l) = x ++ joinB l := by
      have := joinB_app [x] l
      rw [joinB_one] at this
      exact this
    rw [e, ByteArray.size_append, List.length_cons, Nat.add_mul]
    omega
theorem num_le {n : Int} (h0 : 0 ≤ n) (h1 : n ≤ 1000000000000) : (numB n).size ≤ 40 := by
  have := numB_size (n := n) (by omega)
  omega
theorem txt_le {t : ByteArray} (h : t.size ≤ 20) : (txB t).size ≤ 40 := by
  unfold txB
  have := numB_size (n := (t.size : Int)) (by omega)
  rw [ByteArray.size_append]
  omega
theorem infoS : (Tryd.prog.info? 9).map (fun i => (i.zero, i.size, i.bytes)) = some (some (.string ⟨#[]⟩), 1, 16) := by kernel_rfl
theorem own_below {w w' : World} {base e size n : Nat} {v : Value} {xs : List Value} (h : w.ownsRow base e size v n xs) (hb : Below w.heap.size w w') : w'.ownsRow base e size v n xs := by
  refine ⟨h.1, ?_⟩
  rcases h.2 with hn | ⟨g, cap, cur, rfl, h1, hg, rest⟩
  · exact .inl hn
  · exact .inr ⟨g, cap, cur, rfl, h1, (hb.block g (Array.getElem?_eq_some_iff.1 hg).1).trans hg, rest⟩
theorem own_texts {w : World} {base n : Nat} {v : Value} {xs : List ByteArray} (h : w.ownsRow base 9 1 v n (xs.map Value.string)) (hne : v ≠ .slice none 0 0) :
    ∃ g cap, v = .slice (some ⟨g, 0, none⟩) n cap ∧ g < w.heap.size ∧ xs.length = n ∧ n ≤ cap ∧ ∀ k (hk : k < xs.length), w.cell? ⟨g, k, none⟩ = some (.string xs[k]) := by
  have hl := h.1
  have hlen : xs.length = n := by simpa using hl
  rcases h.2 with ⟨h0, _⟩ | ⟨g, cap, cur, hv, _, _, hc, _⟩
  · exact absurd h0 hne
  · refine ⟨g, cap, hv, (h.lt g (by rw [hv]; rfl)).2, hlen, hc, fun k hk => ?_⟩
    have := h.cells (g := g) (by rw [hv]; rfl) k (.string xs[k]) (by simp [List.getElem?_map, List.getElem?_eq_getElem hk])
    rw [← this]
    congr 1
    unfold Addr.add; split <;> simp_all
/-- What is held while a pair's fields are put. -/
def BM2 (w : World) (B : Nat) (a0 a1 : Value) (W : World) : Prop := Below w.heap.size w W ∧ B < W.heap.size ∧ W.cell? ⟨B, 0, none⟩ = some a0 ∧ W.cell? ⟨B, 1, none⟩ = some a1
theorem BM2.below {w : World} {B : Nat} {a0 a1 : Value} {W W' : World} (h : BM2 w B a0 a1 W) (hb : Below W.heap.size W W') : BM2 w B a0 a1 W' := by
  obtain ⟨h0, l1, p0, p1⟩ := h
  have f := fun o => hb.cell (p := ⟨B, o, none⟩) l1
  have hs := hb.size
  exact ⟨h0.trans (hb.mono h0.size), by omega, (f 0).trans p0, (f 1).trans p1⟩
theorem BM2.drew {w : World} {B : Nat} {a0 a1 : Value} {W : World} (h : BM2 w B a0 a1 W) : BM2 w B a0 a1 W.drew := ⟨h.1.drew, h.2⟩
theorem BM2.grown {w : World} {B : Nat} {a0 a1 : Value} {W W' : World} {v : Value} {wr : World} {base e size n : Nat} {xs : List Value} (h : BM2 w B a0 a1 W) (hg : W.grownBy W' v.ownBlock) (ho : wr.ownsRow base e size v n xs) (hB : B = wr.heap.size := by rfl) (hbase : w.heap.size ≤ base := by omega) : BM2 w B a0 a1 W' := by
  obtain ⟨h0, l1, p0, p1⟩ := h
  have hne : some B ≠ v.ownBlock := fun e => by have := (ho.lt B e.symm).2; omega
  have e := hg.block B l1 hne
  exact ⟨h0.grown hg h0.size (fun k e => by have := (ho.lt k e).1; omega), by have := hg.size; omega, (World.cell?_of_block (a := ⟨B, 0, none⟩) e).trans p0, (World.cell?_of_block (a := ⟨B, 1, none⟩) e).trans p1⟩
end WinR
end Go.Proofs.YtnlmpejgiakepaaDoor
namespace Go.Proofs.YtnlmpejgiakepaaDoor
open Go.ChangeShapes Go.WideShapes Go.ChangeAt Go.RowKit
set_option linter.unusedVariables false
namespace WinR
open RowG (take_more)
open NumR (numB numB_size)
open JoinR (joinB jl)
open CatR (Blk Blk.new)
open DateR (Laid)
def hP (x : H) : List ByteArray := [numB x.h, numB x.s]
def wH (x : Wd) : List ByteArray := [txB x.a, txB x.m, numB x.mo, numB x.ev, numB x.su, numB x.mx]
def qA (x : Wd) (k : Nat) : List ByteArray := (wH x ++ [numB x.ts.length]) ++ (x.ts.take k).map txB
def qB (x : Wd) (k : Nat) : List ByteArray := (qA x x.ts.length ++ [numB x.hs.length]) ++ (x.hs.take k).flatMap hP
def wP (x : Wd) : List ByteArray := qB x x.hs.length
/-- A window's bytes. -/
def wBy (x : Wd) : ByteArray := bif wB x then joinB (wP x) else ⟨#[]⟩
/-- What is known of a right window, in numbers. -/
theorem right_bd {x : Wd} (h : wB x = true) : (x.a.size ≤ 20 ∧ x.m.size ≤ 20) ∧ (0 ≤ x.mo ∧ x.mo ≤ 2760) ∧ (1 ≤ x.ev ∧ x.ev ≤ 1000) ∧ (0 ≤ x.su ∧ x.su ≤ 1000000000000) ∧ (0 ≤ x.mx ∧ x.mx ≤ x.su) ∧ (x.ts.length ≤ 12 ∧ ∀ t ∈ x.ts, t.size ≤ 20) ∧ (1 ≤ x.hs.length ∧ x.hs.length ≤ 12) ∧ ∀ y ∈ x.hs, (0 ≤ y.h ∧ y.h ≤ 2016666) ∧ 0 ≤ y.s ∧ y.s ≤ 1000000000000 := by
  unfold wB namedB countedB tagsB timedB hoursB at h
  simp only [Bool.and_eq_true, decide_eq_true_eq] at h
  obtain ⟨⟨n1, n2, n3⟩, ⟨c1, c2, c3⟩, ⟨t1, _, t3⟩, d1, _, d3, _⟩ := h
  have nl : ∀ s : ByteArray, NameR.nameB s = true → s.size ≤ 20 := fun s hs => by
    rcases Nat.lt_or_ge 20 s.size with q | q
    · rw [NameR.name_size (.inr q)] at hs; cases hs
    · exact q
  refine ⟨⟨nl _ n1, nl _ n2⟩, n3, c1, c2, c3, ⟨t1, fun t ht => ?_⟩, d1, fun y hy => ?_⟩
  · have := List.all_eq_true.1 t3 t ht
    unfold tagOk EvtR.tagB at this
    simp only [Bool.and_eq_true, decide_eq_true_eq] at this
    have := this.2.1
    omega
  · have := List.all_eq_true.1 d3 y hy
    unfold hOk hourIn at this
    simp only [Bool.and_eq_true, decide_eq_true_eq] at this
    exact ⟨⟨this.1.1, this.1.2.1⟩, this.2.1, by omega⟩
theorem wH_le {x : Wd} (h : wB x = true) : ∀ y ∈ wH x, y.size ≤ 40 := by
  obtain ⟨⟨b1, b2⟩, b3, b4, b5, b6, b7, b8, b9⟩ := right_bd h
  intro y hy
  simp only [wH, List.mem_cons, List.not_mem_nil, or_false] at hy
  rcases hy with rfl | rfl | rfl | rfl | rfl | rfl
  · exact txt_le b1
  · exact txt_le b2
  · exact num_le b3.1 (by omega)
  · exact num_le (by omega) (by omega)
  · exact num_le b5.1 b5.2
  · exact num_le b6.1 (by omega)
theorem qA_le {x : Wd} (h : wB x = true) (k : Nat) : (∀ y ∈ qA x k, y.size ≤ 40) ∧ (qA x k).length ≤ 19 := by
  obtain ⟨⟨b1, b2⟩, b3, b4, b5, b6, b7, b8, b9⟩ := right_bd h
  constructor
  · intro y hy
    unfold qA at hy
    simp only [List.mem_append, List.mem_cons, List.not_mem_nil, or_false, List.mem_map] at hy
    rcases hy with (hy | rfl) | ⟨u, hu, rfl⟩
    · exact wH_le h y hy
    · exact num_le (by omega) (by omega)
    · exact txt_le (b7.2 u (List.mem_of_mem_take hu))
  · unfold qA wH
    simp only [List.length_append, List.length_cons, List.length_nil, List.length_map, List.length_take]
    omega
theorem hP_len (l : List H) : (l.flatMap hP).length = 2 * l.length := by
  induction l with
  | nil => rfl
  | cons y l ih => simp only [List.flatMap_cons, List.length_append, ih, hP, List.length_cons, List.length_nil]; omega
theorem qB_le {x : Wd} (h : wB x = true) (k : Nat) : (∀ y ∈ qB x k, y.size ≤ 40) ∧ (qB x k).length ≤ 44 := by
  obtain ⟨⟨b1, b2⟩, b3, b4, b5, b6, b7, b8, b9⟩ := right_bd h
  have hA := qA_le h x.ts.length
  constructor
  · intro y hy
    unfold qB at hy
    simp only [List.mem_append, List.mem_cons, List.not_mem_nil, or_false, List.mem_flatMap] at hy
    rcases hy with (hy | rfl) | ⟨u, hu, hy⟩
    · exact hA.1 y hy
    · exact num_le (by omega) (by omega)
    · have := b9 u (List.mem_of_mem_take hu)
      simp only [hP, List.mem_cons, List.not_mem_nil, or_false] at hy
      rcases hy with rfl | rfl
      · exact num_le this.1.1 (by omega)
      · exact num_le this.2.1 this.2.2
  · have := hA.2
    unfold qB
    simp only [List.length_append, List.length_cons, List.length_nil, hP_len, List.length_take]
    omega
theorem qA_size {x : Wd} (h : wB x = true) (k : Nat) : (joinB (qA x k)).size ≤ 2000 := by
  have h1 := qA_le h k
  have := join_size_le 40 _ h1.1
  omega
theorem qB_size {x : Wd} (h : wB x = true) (k : Nat) : (joinB (qB x k)).size ≤ 2000 := by
  have h1 := qB_le h k
  have := join_size_le 40 _ h1.1
  omega
theorem qA_more (x : Wd) (k : Nat) (h : k < x.ts.length) : qA x (k + 1) = qA x k ++ [txB (x.ts.getD k tz)] := by
  unfold qA; rw [take_map x.ts txB tz k h, ← List.append_assoc]
theorem qB_more (x : Wd) (k : Nat) (h : k < x.hs.length) : qB x (k + 1) = qB x k ++ [numB (x.hs.getD k H.zero).h, numB (x.hs.getD k H.zero).s] := by
  unfold qB; rw [take_flat x.hs hP H.zero k h, ← List.append_assoc]; rfl
/-- The window's block, as the regions read it. -/
def WBx (w : World) (a m : ByteArray) (mo ev su mx : Int) (ta : Option Addr) (tl tc : Nat) (ha : Option Addr) (hl hc : Nat) (W : World) : Prop := Below w.heap.size w W ∧ w.heap.size < W.heap.size ∧ W.cell? ⟨w.heap.size, 0, none⟩ = some (.string a) ∧ W.cell? ⟨w.heap.size, 1, none⟩ = some (.string m) ∧ W.cell? ⟨w.heap.size, 2, none⟩ = some (.int .i64 mo) ∧ W.cell? ⟨w.heap.size, 3, none⟩ = some (.int .i64 ev) ∧ W.cell? ⟨w.heap.size, 4, none⟩ = some (.int .i64 su) ∧ W.cell? ⟨w.heap.size, 5, none⟩ = some (.int .i64 mx) ∧ W.cell? ⟨w.heap.size, 6, none⟩ = some (.slice ta tl tc) ∧ W.cell? ⟨w.heap.size, 7, none⟩ = some (.slice ha hl hc)
theorem WBx.below {w : World} {a m : ByteArray} {mo ev su mx : Int} {ta : Option Addr} {tl tc : Nat} {ha : Option Addr} {hl hc : Nat} {W W' : World} (h : WBx w a m mo ev su mx ta tl tc ha hl hc W) (hb : Below W.heap.size W W') : WBx w a m mo ev su mx ta tl tc ha hl hc W' := by
  obtain ⟨h0, h1, c0, c1, c2, c3, c4, c5, c6, c7⟩ := h
  have c := fun o => hb.cell (p := ⟨w.heap.size, o, none⟩) h1
  have := hb.size
  exact ⟨h0.trans (hb.mono h0.size), by omega, (c 0).trans c0, (c 1).trans c1, (c 2).trans c2, (c 3).trans c3, (c 4).trans c4, (c 5).trans c5, (c 6).trans c6, (c 7).trans c7⟩
theorem WBx.blk {w : World} {a m : ByteArray} {mo ev su mx : Int} {ta : Option Addr} {tl tc : Nat} {ha : Option Addr} {hl hc : Nat} {W : World} (h : WBx w a m mo ev su mx ta tl tc ha hl hc W) : Blk w.heap.size [.string a, .string m, .int .i64 mo, .int .i64 ev, .int .i64 su, .int .i64 mx, .slice ta tl tc, .slice ha hl hc] W := by
  obtain ⟨h0, h1, c0, c1, c2, c3, c4, c5, c6, c7⟩ := h
  exact ⟨h1, fun i hi => by
    match i, hi with
    | 0, _ => exact c0
    | 1, _ => exact c1
    | 2, _ => exact c2
    | 3, _ => exact c3
    | 4, _ => exact c4
    | 5, _ => exact c5
    | 6, _ => exact c6
    | 7, _ => exact c7⟩
theorem WBx.of {w : World} {a m : ByteArray} {mo ev su mx : Int} {ta : Option Addr} {tl tc : Nat} {ha : Option Addr} {hl hc : Nat} {W : World} (hb : Below w.heap.size w W) (h : Blk w.heap.size [.string a, .string m, .int .i64 mo, .int .i64 ev, .int .i64 su, .int .i64 mx, .slice ta tl tc, .slice ha hl hc] W) : WBx w a m mo ev su mx ta tl tc ha hl hc W :=
  ⟨hb, h.1, h.2 0 (by simp), h.2 1 (by simp), h.2 2 (by simp), h.2 3 (by simp), h.2 4 (by simp), h.2 5 (by simp), h.2 6 (by simp), h.2 7 (by simp)⟩
end WinR
end Go.Proofs.YtnlmpejgiakepaaDoor
namespace Go.Proofs.YtnlmpejgiakepaaDoor
open Go.ChangeShapes Go.WideShapes Go.ChangeAt Go.RowKit
set_option linter.unusedVariables false
namespace WinR
open RowG (take_more)
open NumR (numB numB_size)
open JoinR (joinB jl)
open CatR (Blk Blk.new)
open DateR (Laid)
/-- What a round of the hours reads. -/
def WHx (w wr : World) (ha : Option Addr) (hl hc b o : Nat) (U P : Int) (W : World) : Prop := Below wr.heap.size wr W ∧ w.heap.size < wr.heap.size ∧ b < wr.heap.size ∧ W.cell? ⟨w.heap.size, 7, none⟩ = some (.slice ha hl hc) ∧ W.cell? ⟨b, o, none⟩ = some (.int .i64 U) ∧ W.cell? ⟨b, o + 1, none⟩ = some (.int .i64 P)
theorem WHx.below {w wr : World} {ha : Option Addr} {hl hc b o : Nat} {U P : Int} {W W' : World} (h : WHx w wr ha hl hc b o U P W) (hb : Below W.heap.size W W') : WHx w wr ha hl hc b o U P W' := by
  obtain ⟨h0, h1, h2, c0, c1, c2⟩ := h
  have s := h0.size
  exact ⟨h0.trans (hb.mono h0.size), h1, h2, (hb.cell (p := ⟨w.heap.size, 7, none⟩) (Nat.lt_of_lt_of_le h1 s)).trans c0, (hb.cell (p := ⟨b, o, none⟩) (Nat.lt_of_lt_of_le h2 s)).trans c1, (hb.cell (p := ⟨b, o + 1, none⟩) (Nat.lt_of_lt_of_le h2 s)).trans c2⟩
set_option maxRecDepth 100000 in
set_option maxHeartbeats 16000000 in
theorem spec_wb_in (a m : ByteArray) (mo ev su mx : Int) (ts : List ByteArray) (hs : List H) (ta : Option Addr) (tc : Nat) (ha : Option Addr) (hc : Nat) (T1 T2 T3 T4 T5 T6 T7 T8 : ByteArray) (QA QB : Nat → List ByteArray) (w : World) (l1 : ts.length ≤ 12) (l2 : hs.length ≤ 12) (hT : Tgs ta ts w) (hH : Hrs ha hs w)
    (p1 : ∀ W, Calls Tryd.prog 92 #[.string a] W fun e w' => e = .returned (.string T1) ∧ Below W.heap.size W w') (p2 : ∀ W, Calls Tryd.prog 92 #[.string m] W fun e w' => e = .returned (.string T2) ∧ Below W.heap.size W w') (p3 : ∀ W, Calls Tryd.prog 93 #[.int .i64 mo] W fun e w' => e = .returned (.string T3) ∧ Below W.heap.size W w') (p4 : ∀ W, Calls Tryd.prog 93 #[.int .i64 ev] W fun e w' => e = .returned (.string T4) ∧ Below W.heap.size W w') (p5 : ∀ W, Calls Tryd.prog 93 #[.int .i64 su] W fun e w' => e = .returned (.string T5) ∧ Below W.heap.size W w') (p6 : ∀ W, Calls Tryd.prog 93 #[.int .i64 mx] W fun e w' => e = .returned (.string T6) ∧ Below W.heap.size W w') (p7 : ∀ W, Calls Tryd.prog 93 #[.int .i64 (ts.length : Int)] W fun e w' => e = .returned (.string T7) ∧ Below W.heap.size W w') (p8 : ∀ W, Calls Tryd.prog 93 #[.int .i64 (hs.length : Int)] W fun e w' => e = .returned (.string T8) ∧ Below W.heap.size W w')
    (z1 : T1.size ≤ 40) (z2 : T2.size ≤ 40) (z3 : T3.size ≤ 40) (z4 : T4.size ≤ 40) (z5 : T5.size ≤ 40) (z6 : T6.size ≤ 40) (z7 : T7.size ≤ 40) (z8 : T8.size ≤ 40)
    (s7 : ∀ t ∈ ts, t.size ≤ 20) (s9 : ∀ y ∈ hs, (0 ≤ y.h ∧ y.h ≤ 2016666) ∧ 0 ≤ y.s ∧ y.s ≤ 1000000000000)
    (hA0 : QA 0 = [T1, T2, T3, T4, T5, T6] ++ [T7]) (hAM : ∀ k, k < ts.length → QA (k + 1) = QA k ++ [numB (ts.getD k tz).size ++ ts.getD k tz]) (hAS : ∀ k, (joinB (QA k)).size ≤ 2000)
    (hB0 : QB 0 = QA ts.length ++ [T8]) (hBM : ∀ k, k < hs.length → QB (k + 1) = QB k ++ [numB (hs.getD k H.zero).h, numB (hs.getD k H.zero).s]) (hBS : ∀ k, (joinB (QB k)).size ≤ 2000) :
    Calls Tryd.prog 68 #[.agg #[.string a, .string m, .int .i64 mo, .int .i64 ev, .int .i64 su, .int .i64 mx, .slice ta ts.length tc, .slice ha hs.length hc]] w fun e w' => e = .returned (.string (joinB (QB hs.length))) ∧ Below w.heap.size w w' := by
  have HT := hid_intro hT
  have HH := hid_intro hH
  have P1 := hid_intro p1
  have P2 := hid_intro p2
  have P3 := hid_intro p3
  have P4 := hid_intro p4
  have P5 := hid_intro p5
  have P6 := hid_intro p6
  have P7 := hid_intro p7
  have P8 := hid_intro p8
  have S7 := hid_intro s7
  have S9 := hid_intro s9
  have HJ0 : Hid (joinB (QA 0) = T1 ++ T2 ++ T3 ++ T4 ++ T5 ++ T6 ++ T7) := hid_intro (by rw [hA0]; apply ByteArray.ext; simp [joinB])
  have HJM : Hid (∀ k, k < ts.length → joinB (QA (k + 1)) = joinB (QA k) ++ (numB (ts.getD k tz).size ++ ts.getD k tz)) := hid_intro (fun k hk => by rw [hAM k hk, joinB_app, joinB_one])
  have HK0 : Hid (joinB (QB 0) = joinB (QA ts.length) ++ T8) := hid_intro (by rw [hB0, joinB_app, joinB_one])
  have HKM : Hid (∀ k, k < hs.length → joinB (QB (k + 1)) = joinB (QB k) ++ numB (hs.getD k H.zero).h ++ numB (hs.getD k H.zero).s) := hid_intro (fun k hk => by rw [hBM k hk, joinB_app, joinB_two]; apply ByteArray.ext; simp [Array.append_assoc])
  have HAS := hid_intro hAS
  have HBS := hid_intro hBS
  obtain ⟨JA, hJA⟩ : ∃ JA : Nat → ByteArray, ∀ k, JA k = joinB (QA k) := ⟨_, fun _ => rfl⟩
  obtain ⟨JB, hJB⟩ : ∃ JB : Nat → ByteArray, ∀ k, JB k = joinB (QB k) := ⟨_, fun _ => rfl⟩
  have HJ0 : Hid (JA 0 = T1 ++ T2 ++ T3 ++ T4 ++ T5 ++ T6 ++ T7) := hid_intro (by rw [hJA]; exact HJ0.out)
  have HJM : Hid (∀ k, k < ts.length → JA (k + 1) = JA k ++ (numB (ts.getD k tz).size ++ ts.getD k tz)) := hid_intro (fun k hk => by rw [hJA, hJA]; exact HJM.out k hk)
  have HK0 : Hid (JB 0 = JA ts.length ++ T8) := hid_intro (by rw [hJA, hJB]; exact HK0.out)
  have HKM : Hid (∀ k, k < hs.length → JB (k + 1) = JB k ++ numB (hs.getD k H.zero).h ++ numB (hs.getD k H.zero).s) := hid_intro (fun k hk => by rw [hJB, hJB]; exact HKM.out k hk)
  have HAS : Hid (∀ k, (JA k).size ≤ 2000) := hid_intro (fun k => by rw [hJA]; exact hAS k)
  have HBS : Hid (∀ k, (JB k).size ≤ 2000) := hid_intro (fun k => by rw [hJB]; exact hBS k)
  rw [← hJB]
  have v1 : ¬ 9223372036854775807 < T1.size + T2.size := by omega
  have v2 : ¬ 9223372036854775807 < T1.size + T2.size + T3.size := by omega
  have v3 : ¬ 9223372036854775807 < T1.size + T2.size + T3.size + T4.size := by omega
  have v4 : ¬ 9223372036854775807 < T1.size + T2.size + T3.size + T4.size + T5.size := by omega
  have v5 : ¬ 9223372036854775807 < T1.size + T2.size + T3.size + T4.size + T5.size + T6.size := by omega
  have v6 : ¬ 9223372036854775807 < T1.size + T2.size + T3.size + T4.size + T5.size + T6.size + T7.size := by omega
  obtain ⟨tl, htl⟩ : ∃ tl, tl = ts.length := ⟨_, rfl⟩
  obtain ⟨hl, hhl⟩ : ∃ hl, hl = hs.length := ⟨_, rfl⟩
  have HTL := hid_intro htl
  have HHL := hid_intro hhl
  rw [← htl] at l1 P7 HJM HK0 ⊢
  rw [← hhl] at l2 P8 HKM ⊢
  clear hT hH p1 p2 p3 p4 p5 p6 p7 p8 s7 s9 hA0 hAM hAS hB0 hBM hBS hJA hJB htl hhl
  have HS0 : Hid (WBx w a m mo ev su mx ta tl tc ha hl hc ((w.alloc (.cells #[.string a, .string m, .int .i64 mo, .int .i64 ev, .int .i64 su, .int .i64 mx, .slice ta tl tc, .slice ha hl hc] 32)).drew)) := hid_intro (WBx.below (WBx.of ((Below.refl _ _).alloc (Nat.le_refl _) _) (Blk.new w [.string a, .string m, .int .i64 mo, .int .i64 ev, .int .i64 su, .int .i64 mx, .slice ta tl tc, .slice ha hl hc] 32)) (Below.refl _ _).drew)
  go_enter Tryd.func68, Tryd.ntmps68
  go_wp2_with fail
  refine wp_region_held_drew (S := (fun W => Below w.heap.size w W ∧ w.heap.size < W.heap.size ∧ W.cell? ⟨w.heap.size, 0, none⟩ = some (.string a) ∧ W.cell? ⟨w.heap.size, 1, none⟩ = some (.string m) ∧ W.cell? ⟨w.heap.size, 2, none⟩ = some (.int .i64 mo) ∧ W.cell? ⟨w.heap.size, 3, none⟩ = some (.int .i64 ev) ∧ W.cell? ⟨w.heap.size, 4, none⟩ = some (.int .i64 su) ∧ W.cell? ⟨w.heap.size, 5, none⟩ = some (.int .i64 mx) ∧ W.cell? ⟨w.heap.size, 6, none⟩ = some (.slice ta tl tc) ∧ W.cell? ⟨w.heap.size, 7, none⟩ = some (.slice ha hl hc))) (by kernel_rfl) HS0.out (fun hHeld => ?_)
  refine wpAnyH_take (i := 0) (oi := { dst := some 6, op := Op.fieldAddr 32 (Operand.tmp 1) 0, type := 0, pos := "l07_window.go:140", after := #[], guard := none }) (v := ?_) rfl (by kernel_rfl) (by kernel_rfl) (by kernel_rfl) (fun _ _ _ h => h) (Or.inl ⟨by rfl, ?_⟩) (by assumption) ?_
  rotate_left
  · (intro w hSw; (try dsimp only at hSw); go_simp) <;> with_reducible rfl
  try simp only [Act.put, List.setIfInBounds_toArray, List.set_cons_zero, List.set_cons_succ]
  refine wpAnyH_take (i := 1) (oi := { dst := some 7, op := Op.load 9 (Operand.tmp 6), type := 9, pos := "l07_window.go:140", after := #[{ on := 0, ground := Ground.data }], guard := none }) (v := ?_) rfl (by kernel_rfl) (by kernel_rfl) (by kernel_rfl) (fun _ _ _ h => h) (Or.inl ⟨by rfl, ?_⟩) (by assumption) ?_
  rotate_left
  · (intro w hSw; (try dsimp only at hSw); go_simp) <;> with_reducible rfl
  try simp only [Act.put, List.setIfInBounds_toArray, List.set_cons_zero, List.set_cons_succ]
  refine wpAnyH_take (i := 3) (oi := { dst := some 9, op := Op.fieldAddr 32 (Operand.tmp 1) 1, type := 0, pos := "l07_window.go:140", after := #[], guard := none }) (v := ?_) rfl (by kernel_rfl) (by kernel_rfl) (by kernel_rfl) (fun _ _ _ h => h) (Or.inl ⟨by rfl, ?_⟩) (by assumption) ?_
  rotate_left
  · (intro w hSw; (try dsimp only at hSw); go_simp) <;> with_reducible rfl
  try simp only [Act.put, List.setIfInBounds_toArray, List.set_cons_zero, List.set_cons_succ]
  refine wpAnyH_take (i := 4) (oi := { dst := some 10, op := Op.load 9 (Operand.tmp 9), type := 9, pos := "l07_window.go:140", after := #[{ on := 3, ground := Ground.data }], guard := none }) (v := ?_) rfl (by kernel_rfl) (by kernel_rfl) (by kernel_rfl) (fun _ _ _ h => h) (Or.inl ⟨by rfl, ?_⟩) (by assumption) ?_
  rotate_left
  · (intro w hSw; (try dsimp only at hSw); go_simp) <;> with_reducible rfl
  try simp only [Act.put, List.setIfInBounds_toArray, List.set_cons_zero, List.set_cons_succ]
  refine wpAnyH_take (i := 7) (oi := { dst := some 13, op := Op.fieldAddr 32 (Operand.tmp 1) 2, type := 0, pos := "l07_window.go:140", after := #[], guard := none }) (v := ?_) rfl (by kernel_rfl) (by kernel_rfl) (by kernel_rfl) (fun _ _ _ h => h) (Or.inl ⟨by rfl, ?_⟩) (by assumption) ?_
  rotate_left
  · (intro w hSw; (try dsimp only at hSw); go_simp) <;> with_reducible rfl
  try simp only [Act.put, List.setIfInBounds_toArray, List.set_cons_zero, List.set_cons_succ]
  refine wpAnyH_take (i := 8) (oi := { dst := some 14, op := Op.load 2 (Operand.tmp 13), type := 2, pos := "l07_window.go:140", after := #[{ on := 7, ground := Ground.data }], guard := none }) (v := ?_) rfl (by kernel_rfl) (by kernel_rfl) (by kernel_rfl) (fun _ _ _ h => h) (Or.inl ⟨by rfl, ?_⟩) (by assumption) ?_
  rotate_left
  · (intro w hSw; (try dsimp only at hSw); go_simp) <;> with_reducible rfl
  try simp only [Act.put, List.setIfInBounds_toArray, List.set_cons_zero, List.set_cons_succ]
  refine wpAnyH_take (i := 11) (oi := { dst := some 17, op := Op.fieldAddr 32 (Operand.tmp 1) 3, type := 0, pos := "l07_window.go:140", after := #[], guard := none }) (v := ?_) rfl (by kernel_rfl) (by kernel_rfl) (by kernel_rfl) (fun _ _ _ h => h) (Or.inl ⟨by rfl, ?_⟩) (by assumption) ?_
  rotate_left
  · (intro w hSw; (try dsimp only at hSw); go_simp) <;> with_reducible rfl
  try simp only [Act.put, List.setIfInBounds_toArray, List.set_cons_zero, List.set_cons_succ]
  refine wpAnyH_take (i := 12) (oi := { dst := some 18, op := Op.load 2 (Operand.tmp 17), type := 2, pos := "l07_window.go:140", after := #[{ on := 11, ground := Ground.data }], guard := none }) (v := ?_) rfl (by kernel_rfl) (by kernel_rfl) (by kernel_rfl) (fun _ _ _ h => h) (Or.inl ⟨by rfl, ?_⟩) (by assumption) ?_
  rotate_left
  · (intro w hSw; (try dsimp only at hSw); go_simp) <;> with_reducible rfl
  try simp only [Act.put, List.setIfInBounds_toArray, List.set_cons_zero, List.set_cons_succ]
  refine wpAnyH_take (i := 15) (oi := { dst := some 21, op := Op.fieldAddr 32 (Operand.tmp 1) 4, type := 0, pos := "l07_window.go:140", after := #[], guard := none }) (v := ?_) rfl (by kernel_rfl) (by kernel_rfl) (by kernel_rfl) (fun _ _ _ h => h) (Or.inl ⟨by rfl, ?_⟩) (by assumption) ?_
  rotate_left
  · (intro w hSw; (try dsimp only at hSw); go_simp) <;> with_reducible rfl
  try simp only [Act.put, List.setIfInBounds_toArray, List.set_cons_zero, List.set_cons_succ]
  refine wpAnyH_take (i := 16) (oi := { dst := some 22, op := Op.load 2 (Operand.tmp 21), type := 2, pos := "l07_window.go:140", after := #[{ on := 15, ground := Ground.data }], guard := none }) (v := ?_) rfl (by kernel_rfl) (by kernel_rfl) (by kernel_rfl) (fun _ _ _ h => h) (Or.inl ⟨by rfl, ?_⟩) (by assumption) ?_
  rotate_left
  · (intro w hSw; (try dsimp only at hSw); go_simp) <;> with_reducible rfl
  try simp only [Act.put, List.setIfInBounds_toArray, List.set_cons_zero, List.set_cons_succ]
  refine wpAnyH_take (i := 19) (oi := { dst := some 25, op := Op.fieldAddr 32 (Operand.tmp 1) 5, type := 0, pos := "l07_window.go:140", after := #[], guard := none }) (v := ?_) rfl (by kernel_rfl) (by kernel_rfl) (by kernel_rfl) (fun _ _ _ h => h) (Or.inl ⟨by rfl, ?_⟩) (by assumption) ?_
  rotate_left
  · (intro w hSw; (try dsimp only at hSw); go_simp) <;> with_reducible rfl
  try simp only [Act.put, List.setIfInBounds_toArray, List.set_cons_zero, List.set_cons_succ]
  refine wpAnyH_take (i := 20) (oi := { dst := some 26, op := Op.load 2 (Operand.tmp 25), type := 2, pos := "l07_window.go:140", after := #[{ on := 19, ground := Ground.data }], guard := none }) (v := ?_) rfl (by kernel_rfl) (by kernel_rfl) (by kernel_rfl) (fun _ _ _ h => h) (Or.inl ⟨by rfl, ?_⟩) (by assumption) ?_
  rotate_left
  · (intro w hSw; (try dsimp only at hSw); go_simp) <;> with_reducible rfl
  try simp only [Act.put, List.setIfInBounds_toArray, List.set_cons_zero, List.set_cons_succ]
  refine wpAnyH_take (i := 23) (oi := { dst := some 29, op := Op.fieldAddr 32 (Operand.tmp 1) 6, type := 0, pos := "l07_window.go:140", after := #[], guard := none }) (v := ?_) rfl (by kernel_rfl) (by kernel_rfl) (by kernel_rfl) (fun _ _ _ h => h) (Or.inl ⟨by rfl, ?_⟩) (by assumption) ?_
  rotate_left
  · (intro w hSw; (try dsimp only at hSw); go_simp) <;> with_reducible rfl
  try simp only [Act.put, List.setIfInBounds_toArray, List.set_cons_zero, List.set_cons_succ]
  refine wpAnyH_take (i := 24) (oi := { dst := some 30, op := Op.load 22 (Operand.tmp 29), type := 22, pos := "l07_window.go:140", after := #[{ on := 23, ground := Ground.data }], guard := none }) (v := ?_) rfl (by kernel_rfl) (by kernel_rfl) (by kernel_rfl) (fun _ _ _ h => h) (Or.inl ⟨by rfl, ?_⟩) (by assumption) ?_
  rotate_left
  · (intro w hSw; (try dsimp only at hSw); go_simp) <;> with_reducible rfl
  try simp only [Act.put, List.setIfInBounds_toArray, List.set_cons_zero, List.set_cons_succ]
  refine wpAnyH_take (i := 25) (oi := { dst := some 31, op := Op.call { callee := Callee.builtin Builtin.len, args := #[Operand.tmp 30], argTypes := #[22] }, type := 3, pos := "l07_window.go:140", after := #[{ on := 24, ground := Ground.data }], guard := none }) (v := ?_) rfl (by kernel_rfl) (by kernel_rfl) (by kernel_rfl) (fun _ _ _ h => h) (Or.inl ⟨by rfl, ?_⟩) (by assumption) ?_
  rotate_left
  · (intro w hSw; (try dsimp only at hSw); go_simp) <;> with_reducible rfl
  try simp only [Act.put, List.setIfInBounds_toArray, List.set_cons_zero, List.set_cons_succ]
  refine wpAnyH_ready (rs := [2]) (by kernel_rfl) (by simp) ?_
  refine AllReadyH.cons (o := { dst := some 8, op := Op.call { callee := Callee.value (Operand.func 92), args := #[Operand.tmp 7], argTypes := #[9] }, type := 9, pos := "l07_window.go:140", after := #[{ on := 1, ground := Ground.data }], guard := none }) rfl (fun K hK => ?_) AllReadyH.nil
  go_simp
  go_at_call 92
  refine (P1.out _).mono ?_
  rintro e q1 ⟨rfl, hq1⟩
  try go_wp2_with fail
  have hk1 := WBx.below (w := w) (a := a) (m := m) (mo := mo) (ev := ev) (su := su) (mx := mx) (ta := ta) (tl := tl) (tc := tc) (ha := ha) (hl := hl) (hc := hc) HS0.out hq1
  refine hK.out _ _ hk1 (fun _ => ?_)
  clear hK K
  try simp only [Act.put, List.setIfInBounds_toArray, List.set_cons_zero, List.set_cons_succ]
  refine wpAnyH_ready (rs := [5]) (by kernel_rfl) (by simp) ?_
  refine AllReadyH.cons (o := { dst := some 11, op := Op.call { callee := Callee.value (Operand.func 92), args := #[Operand.tmp 10], argTypes := #[9] }, type := 9, pos := "l07_window.go:140", after := #[{ on := 4, ground := Ground.data }, { on := 2, ground := Ground.chain }], guard := none }) rfl (fun K hK => ?_) AllReadyH.nil
  go_simp
  go_at_call 92
  refine (P2.out _).mono ?_
  rintro e q2 ⟨rfl, hq2⟩
  try go_wp2_with fail
  have hk2 := WBx.below (w := w) (a := a) (m := m) (mo := mo) (ev := ev) (su := su) (mx := mx) (ta := ta) (tl := tl) (tc := tc) (ha := ha) (hl := hl) (hc := hc) hk1 hq2
  refine hK.out _ _ hk2 (fun _ => ?_)
  clear hK K
  try simp only [Act.put, List.setIfInBounds_toArray, List.set_cons_zero, List.set_cons_succ]
  refine wpAnyH_take (i := 6) (oi := { dst := some 12, op := Op.binOp BinOp.add 9 (Operand.tmp 8) (Operand.tmp 11) 9, type := 9, pos := "l07_window.go:140", after := #[{ on := 2, ground := Ground.data }, { on := 5, ground := Ground.data }], guard := none }) (v := ?_) rfl (by kernel_rfl) (by kernel_rfl) (by kernel_rfl) (fun _ _ _ h => h) (Or.inl ⟨by rfl, ?_⟩) (by assumption) ?_
  rotate_left
  · (intro w hSw; (try dsimp only at hSw); go_simp) <;> with_reducible rfl
  try simp only [Act.put, List.setIfInBounds_toArray, List.set_cons_zero, List.set_cons_succ]
  refine wpAnyH_ready (rs := [9]) (by kernel_rfl) (by simp) ?_
  refine AllReadyH.cons (o := { dst := some 15, op := Op.call { callee := Callee.value (Operand.func 93), args := #[Operand.tmp 14], argTypes := #[2] }, type := 9, pos := "l07_window.go:140", after := #[{ on := 8, ground := Ground.data }, { on := 5, ground := Ground.chain }], guard := none }) rfl (fun K hK => ?_) AllReadyH.nil
  go_simp
  go_at_call 93
  refine (P3.out _).mono ?_
  rintro e q3 ⟨rfl, hq3⟩
  try go_wp2_with fail
  have hk3 := WBx.below (w := w) (a := a) (m := m) (mo := mo) (ev := ev) (su := su) (mx := mx) (ta := ta) (tl := tl) (tc := tc) (ha := ha) (hl := hl) (hc := hc) hk2 hq3
  refine hK.out _ _ hk3 (fun _ => ?_)
  clear hK K
  try simp only [Act.put, List.setIfInBounds_toArray, List.set_cons_zero, List.set_cons_succ]
  refine wpAnyH_take (i := 10) (oi := { dst := some 16, op := Op.binOp BinOp.add 9 (Operand.tmp 12) (Operand.tmp 15) 9, type := 9, pos := "l07_window.go:140", after := #[{ on := 6, ground := Ground.data }, { on := 9, ground := Ground.data }], guard := none }) (v := ?_) rfl (by kernel_rfl) (by kernel_rfl) (by kernel_rfl) (fun _ _ _ h => h) (Or.inl ⟨by rfl, ?_⟩) (by assumption) ?_
  rotate_left
  · (intro w hSw; (try dsimp only at hSw); go_simp) <;> with_reducible rfl
  try simp only [Act.put, List.setIfInBounds_toArray, List.set_cons_zero, List.set_cons_succ]
  refine wpAnyH_ready (rs := [13]) (by kernel_rfl) (by simp) ?_
  refine AllReadyH.cons (o := { dst := some 19, op := Op.call { callee := Callee.value (Operand.func 93), args := #[Operand.tmp 18], argTypes := #[2] }, type := 9, pos := "l07_window.go:140", after := #[{ on := 12, ground := Ground.data }, { on := 9, ground := Ground.chain }], guard := none }) rfl (fun K hK => ?_) AllReadyH.nil
  go_simp
  go_at_call 93
  refine (P4.out _).mono ?_
  rintro e q4 ⟨rfl, hq4⟩
  try go_wp2_with fail
  have hk4 := WBx.below (w := w) (a := a) (m := m) (mo := mo) (ev := ev) (su := su) (mx := mx) (ta := ta) (tl := tl) (tc := tc) (ha := ha) (hl := hl) (hc := hc) hk3 hq4
  refine hK.out _ _ hk4 (fun _ => ?_)
  clear hK K
  try simp only [Act.put, List.setIfInBounds_toArray, List.set_cons_zero, List.set_cons_succ]
  refine wpAnyH_take (i := 14) (oi := { dst := some 20, op := Op.binOp BinOp.add 9 (Operand.tmp 16) (Operand.tmp 19) 9, type := 9, pos := "l07_window.go:140", after := #[{ on := 10, ground := Ground.data }, { on := 13, ground := Ground.data }], guard := none }) (v := ?_) rfl (by kernel_rfl) (by kernel_rfl) (by kernel_rfl) (fun _ _ _ h => h) (Or.inl ⟨by rfl, ?_⟩) (by assumption) ?_
  rotate_left
  · (intro w hSw; (try dsimp only at hSw); go_simp) <;> with_reducible rfl
  try simp only [Act.put, List.setIfInBounds_toArray, List.set_cons_zero, List.set_cons_succ]
  refine wpAnyH_ready (rs := [17]) (by kernel_rfl) (by simp) ?_
  refine AllReadyH.cons (o := { dst := some 23, op := Op.call { callee := Callee.value (Operand.func 93), args := #[Operand.tmp 22], argTypes := #[2] }, type := 9, pos := "l07_window.go:140", after := #[{ on := 16, ground := Ground.data }, { on := 13, ground := Ground.chain }], guard := none }) rfl (fun K hK => ?_) AllReadyH.nil
  go_simp
  go_at_call 93
  refine (P5.out _).mono ?_
  rintro e q5 ⟨rfl, hq5⟩
  try go_wp2_with fail
  have hk5 := WBx.below (w := w) (a := a) (m := m) (mo := mo) (ev := ev) (su := su) (mx := mx) (ta := ta) (tl := tl) (tc := tc) (ha := ha) (hl := hl) (hc := hc) hk4 hq5
  refine hK.out _ _ hk5 (fun _ => ?_)
  clear hK K
  try simp only [Act.put, List.setIfInBounds_toArray, List.set_cons_zero, List.set_cons_succ]
  refine wpAnyH_take (i := 18) (oi := { dst := some 24, op := Op.binOp BinOp.add 9 (Operand.tmp 20) (Operand.tmp 23) 9, type := 9, pos := "l07_window.go:140", after := #[{ on := 14, ground := Ground.data }, { on := 17, ground := Ground.data }], guard := none }) (v := ?_) rfl (by kernel_rfl) (by kernel_rfl) (by kernel_rfl) (fun _ _ _ h => h) (Or.inl ⟨by rfl, ?_⟩) (by assumption) ?_
  rotate_left
  · (intro w hSw; (try dsimp only at hSw); go_simp) <;> with_reducible rfl
  try simp only [Act.put, List.setIfInBounds_toArray, List.set_cons_zero, List.set_cons_succ]
  refine wpAnyH_ready (rs := [21]) (by kernel_rfl) (by simp) ?_
  refine AllReadyH.cons (o := { dst := some 27, op := Op.call { callee := Callee.value (Operand.func 93), args := #[Operand.tmp 26], argTypes := #[2] }, type := 9, pos := "l07_window.go:140", after := #[{ on := 20, ground := Ground.data }, { on := 17, ground := Ground.chain }], guard := none }) rfl (fun K hK => ?_) AllReadyH.nil
  go_simp
  go_at_call 93
  refine (P6.out _).mono ?_
  rintro e q6 ⟨rfl, hq6⟩
  try go_wp2_with fail
  have hk6 := WBx.below (w := w) (a := a) (m := m) (mo := mo) (ev := ev) (su := su) (mx := mx) (ta := ta) (tl := tl) (tc := tc) (ha := ha) (hl := hl) (hc := hc) hk5 hq6
  refine hK.out _ _ hk6 (fun _ => ?_)
  clear hK K
  try simp only [Act.put, List.setIfInBounds_toArray, List.set_cons_zero, List.set_cons_succ]
  refine wpAnyH_take (i := 22) (oi := { dst := some 28, op := Op.binOp BinOp.add 9 (Operand.tmp 24) (Operand.tmp 27) 9, type := 9, pos := "l07_window.go:140", after := #[{ on := 18, ground := Ground.data }, { on := 21, ground := Ground.data }], guard := none }) (v := ?_) rfl (by kernel_rfl) (by kernel_rfl) (by kernel_rfl) (fun _ _ _ h => h) (Or.inl ⟨by rfl, ?_⟩) (by assumption) ?_
  rotate_left
  · (intro w hSw; (try dsimp only at hSw); go_simp) <;> with_reducible rfl
  try simp only [Act.put, List.setIfInBounds_toArray, List.set_cons_zero, List.set_cons_succ]
  refine wpAnyH_ready (rs := [26]) (by kernel_rfl) (by simp) ?_
  refine AllReadyH.cons (o := { dst := some 32, op := Op.call { callee := Callee.value (Operand.func 93), args := #[Operand.tmp 31], argTypes := #[2] }, type := 9, pos := "l07_window.go:140", after := #[{ on := 25, ground := Ground.data }, { on := 21, ground := Ground.chain }], guard := none }) rfl (fun K hK => ?_) AllReadyH.nil
  go_simp
  go_at_call 93
  refine (P7.out _).mono ?_
  rintro e q7 ⟨rfl, hq7⟩
  try go_wp2_with fail
  have hk7 := WBx.below (w := w) (a := a) (m := m) (mo := mo) (ev := ev) (su := su) (mx := mx) (ta := ta) (tl := tl) (tc := tc) (ha := ha) (hl := hl) (hc := hc) hk6 hq7
  refine hK.out _ _ hk7 (fun _ => ?_)
  clear hK K
  try simp only [Act.put, List.setIfInBounds_toArray, List.set_cons_zero, List.set_cons_succ]
  refine wpAnyH_take (i := 27) (oi := { dst := some 33, op := Op.binOp BinOp.add 9 (Operand.tmp 28) (Operand.tmp 32) 9, type := 9, pos := "l07_window.go:140", after := #[{ on := 22, ground := Ground.data }, { on := 26, ground := Ground.data }], guard := none }) (v := ?_) rfl (by kernel_rfl) (by kernel_rfl) (by kernel_rfl) (fun _ _ _ h => h) (Or.inl ⟨by rfl, ?_⟩) (by assumption) ?_
  rotate_left
  · (intro w hSw; (try dsimp only at hSw); go_simp) <;> with_reducible rfl
  try simp only [Act.put, List.setIfInBounds_toArray, List.set_cons_zero, List.set_cons_succ]
  refine wpAnyH_take (i := 28) (oi := { dst := some 3, op := Op.assign (Operand.tmp 33), type := 9, pos := "l07_window.go:140", after := #[{ on := 27, ground := Ground.data }, { on := 26, ground := Ground.chain }, { on := 0, ground := Ground.phase }, { on := 1, ground := Ground.phase }, { on := 2, ground := Ground.phase }, { on := 3, ground := Ground.phase }, { on := 4, ground := Ground.phase }, { on := 5, ground := Ground.phase }, { on := 6, ground := Ground.phase }, { on := 7, ground := Ground.phase }, { on := 8, ground := Ground.phase }, { on := 9, ground := Ground.phase }, { on := 10, ground := Ground.phase }, { on := 11, ground := Ground.phase }, { on := 12, ground := Ground.phase }, { on := 13, ground := Ground.phase }, { on := 14, ground := Ground.phase }, { on := 15, ground := Ground.phase }, { on := 16, ground := Ground.phase }, { on := 17, ground := Ground.phase }, { on := 18, ground := Ground.phase }, { on := 19, ground := Ground.phase }, { on := 20, ground := Ground.phase }, { on := 21, ground := Ground.phase }, { on := 22, ground := Ground.phase }, { on := 23, ground := Ground.phase }, { on := 24, ground := Ground.phase }, { on := 25, ground := Ground.phase }, { on := 26, ground := Ground.phase }, { on := 27, ground := Ground.phase }], guard := none }) (v := ?_) rfl (by kernel_rfl) (by kernel_rfl) (by kernel_rfl) (fun _ _ _ h => h) (Or.inl ⟨by rfl, ?_⟩) (by assumption) ?_
  rotate_left
  · (intro w hSw; (try dsimp only at hSw); go_simp) <;> with_reducible rfl
  try simp only [Act.put, List.setIfInBounds_toArray, List.set_cons_zero, List.set_cons_succ]
  refine wpAnyH_done (by kernel_rfl) ?_ _
  have HB1 := hid_intro hk7.1
  have HX1 := hid_intro (WBx.blk hk7)
  clear hk1 hk2 hk3 hk4 hk5 hk6 hk7 hq1 hq2 hq3 hq4 hq5 hq6 hq7 HS0 v1 v2 v3 v4 v5 v6
  rw [← HJ0.out]
  go_wp2_with fail
  go_loopw [3, 4] (fun y z wr => ∃ k : Nat, k ≤ tl ∧ y = .string (JA k) ∧ z = .int .i64 k ∧ Hid (Below w.heap.size w wr) ∧ Hid (Blk w.heap.size [.string a, .string m, .int .i64 mo, .int .i64 ev, .int .i64 su, .int .i64 mx, .slice ta tl tc, .slice ha hl hc] wr)) (fun y z _ => tl - (intOf z).toNat)
  case atStart => exact ⟨0, by omega, rfl, rfl, HB1, HX1⟩
  case round =>
    clear HB1 HX1
    obtain ⟨k, hk, rfl, rfl, HB, HX⟩ := hrel
    have hxl := HX.out.1
    have x6 : wr.cell? ⟨w.heap.size, 6, none⟩ = some (.slice ta tl tc) := HX.out.2 6 (by simp)
    by_cases hlt : k < tl
    · have hlt2 : (k : Int) < (tl : Int) := by omega
      have hkl : k < ts.length := by have := HTL.out; omega
      obtain ⟨b, off, rfl, hbl, c0⟩ := (HT.out.below HB.out).at k hkl
      have hsz := S7.out _ (RowG.getD_mem (z := tz) ts k hkl)
      have HC := hid_intro (HJM.out k hlt)
      have HPT := hid_intro (fun w => PutTextL.spec_text (ts.getD k tz) w (by omega))
      have hG : (numB ((ts.getD k tz).size : Int) ++ ts.getD k tz).size ≤ 40 := txt_le hsz
      generalize numB ((ts.getD k tz).size : Int) ++ ts.getD k tz = G at *
      generalize ts.getD k tz = Y at *
      have hJ := HAS.out k
      generalize JA k = J at *
      have v1 : ¬ 9223372036854775807 < J.size + G.size := by omega
      go_wp2_with fail
      refine (HPT.out _).mono ?_
      rintro e w4 ⟨rfl, hb4⟩
      have HW4 := hid_intro (HB.out.trans (hb4.mono HB.out.size))
      have HX4 := hid_intro (HX.out.below hb4)
      clear hb4 c0 x6 hxl
      go_wp2_with fail
      go_roundw
      case rel => exact ⟨k + 1, by omega, by rw [HC.out], by go_num, HW4, HX4⟩
      case measure => simp [intOf]; omega
    · have hlt2 : ¬ (k : Int) < (tl : Int) := by omega
      obtain rfl : k = tl := by omega
      have x7 : wr.cell? ⟨w.heap.size, 7, none⟩ = some (.slice ha hl hc) := HX.out.2 7 (by simp)
      have hJ := HAS.out k
      generalize JA k = J at *
      have v1 : ¬ 9223372036854775807 < J.size + T8.size := by omega
      go_wp2_with fail
      refine (P8.out _).mono ?_
      rintro e w4 ⟨rfl, hb4⟩
      have HW4 := hid_intro (HB.out.trans (hb4.mono HB.out.size))
      have HX4 := hid_intro (HX.out.below hb4)
      clear hb4 x6 x7 hxl
      go_wp2_with fail
      rw [← HK0.out]
      go_loopw [3, 5] (fun y z wx => ∃ i : Nat, i ≤ hl ∧ y = .string (JB i) ∧ z = .int .i64 i ∧ Hid (Below w.heap.size w wx) ∧ Hid (Blk w.heap.size [.string a, .string m, .int .i64 mo, .int .i64 ev, .int .i64 su, .int .i64 mx, .slice ta k tc, .slice ha hl hc] wx)) (fun y z _ => hl - (intOf z).toNat)
      case atStart => exact ⟨0, by omega, rfl, rfl, HW4, HX4⟩
      case round =>
        clear HW4 HX4 HB HX hJ v1
        obtain ⟨i, hi, rfl, rfl, HB, HX⟩ := hrel
        have hxl := HX.out.1
        have x7 : wr.cell? ⟨w.heap.size, 7, none⟩ = some (.slice ha hl hc) := HX.out.2 7 (by simp)
        by_cases hlt3 : i < hl
        · have hlt2 : (i : Int) < (hl : Int) := by omega
          have hil : i < hs.length := by have := HHL.out; omega
          obtain ⟨b, off, rfl, hbl, c0, c1⟩ := (HH.out.below HB.out).at i hil
          have u1 := S9.out _ (RowG.getD_mem (z := H.zero) hs i hil)
          have HC := hid_intro (HKM.out i hlt3)
          generalize hs.getD i H.zero = Y at *
          obtain ⟨U, P⟩ := Y
          dsimp only at c0 c1 u1 HC
          obtain ⟨⟨u2, u3⟩, u4, u5⟩ := u1
          have Q1 := hid_intro (fun w => NumR.spec_put U w (by omega))
          have Q2 := hid_intro (fun w => NumR.spec_put P w (by omega))
          have hX1 : (numB U).size ≤ 40 := num_le u2 (by omega)
          have hX2 : (numB P).size ≤ 40 := num_le u4 u5
          generalize numB U = X1 at *
          generalize numB P = X2 at *
          have hJ := HBS.out i
          generalize JB i = J at *
          have v1 : ¬ 9223372036854775807 < J.size + X1.size := by omega
          have v2 : ¬ 9223372036854775807 < J.size + X1.size + X2.size := by omega
          have HS1 : Hid (WHx w wr (some ⟨b, off, none⟩) hl hc b (off + i * 2) U P wr.drew) := hid_intro (WHx.below ⟨Below.refl _ _, hxl, hbl, x7, c0, c1⟩ (Below.refl _ _).drew)
          clear u2 u3 u4 u5
          go_wp2_with fail
          refine wp_region_held_drew (S := (fun W => Below wr.heap.size wr W ∧ w.heap.size < wr.heap.size ∧ b < wr.heap.size ∧ W.cell? ⟨w.heap.size, 7, none⟩ = some (.slice (some ⟨b, off, none⟩) hl hc) ∧ W.cell? ⟨b, off + i * 2, none⟩ = some (.int .i64 U) ∧ W.cell? ⟨b, off + i * 2 + 1, none⟩ = some (.int .i64 P))) (by kernel_rfl) HS1.out (fun hHeld => ?_)
          refine wpAnyH_take (i := 0) (oi := { dst := some 62, op := Op.move (Operand.tmp 3), type := 9, pos := "l07_window.go:146", after := #[], guard := none }) (v := ?_) rfl (by kernel_rfl) (by kernel_rfl) (by kernel_rfl) (fun _ _ _ h => h) (Or.inl ⟨by rfl, ?_⟩) (by assumption) ?_
          rotate_left
          · (intro w hSw; (try dsimp only at hSw); go_simp) <;> with_reducible rfl
          try simp only [Act.put, List.setIfInBounds_toArray, List.set_cons_zero, List.set_cons_succ]
          refine wpAnyH_take (i := 1) (oi := { dst := some 63, op := Op.fieldAddr 32 (Operand.tmp 1) 7, type := 0, pos := "l07_window.go:146", after := #[], guard := none }) (v := ?_) rfl (by kernel_rfl) (by kernel_rfl) (by kernel_rfl) (fun _ _ _ h => h) (Or.inl ⟨by rfl, ?_⟩) (by assumption) ?_
          rotate_left
          · (intro w hSw; (try dsimp only at hSw); go_simp) <;> with_reducible rfl
          try simp only [Act.put, List.setIfInBounds_toArray, List.set_cons_zero, List.set_cons_succ]
          refine wpAnyH_take (i := 2) (oi := { dst := some 64, op := Op.load 30 (Operand.tmp 63), type := 30, pos := "l07_window.go:146", after := #[{ on := 1, ground := Ground.data }], guard := none }) (v := ?_) rfl (by kernel_rfl) (by kernel_rfl) (by kernel_rfl) (fun _ _ _ h => h) (Or.inl ⟨by rfl, ?_⟩) (by assumption) ?_
          rotate_left
          · (intro w hSw; (try dsimp only at hSw); go_simp) <;> with_reducible rfl
          try simp only [Act.put, List.setIfInBounds_toArray, List.set_cons_zero, List.set_cons_succ]
          refine wpAnyH_take (i := 3) (oi := { dst := some 65, op := Op.move (Operand.tmp 5), type := 3, pos := "l07_window.go:146", after := #[], guard := none }) (v := ?_) rfl (by kernel_rfl) (by kernel_rfl) (by kernel_rfl) (fun _ _ _ h => h) (Or.inl ⟨by rfl, ?_⟩) (by assumption) ?_
          rotate_left
          · (intro w hSw; (try dsimp only at hSw); go_simp) <;> with_reducible rfl
          try simp only [Act.put, List.setIfInBounds_toArray, List.set_cons_zero, List.set_cons_succ]
          refine wpAnyH_take (i := 4) (oi := { dst := some 66, op := Op.indexAddr 30 (Operand.tmp 64) (Operand.tmp 65), type := 0, pos := "l07_window.go:146", after := #[{ on := 2, ground := Ground.data }, { on := 3, ground := Ground.data }], guard := none }) (v := ?_) rfl (by kernel_rfl) (by kernel_rfl) (by kernel_rfl) (fun _ _ _ h => h) (Or.inl ⟨by rfl, ?_⟩) (by assumption) ?_
          rotate_left
          · (intro w hSw; (try dsimp only at hSw); go_simp) <;> with_reducible rfl
          try simp only [Act.put, List.setIfInBounds_toArray, List.set_cons_zero, List.set_cons_succ]
          refine wpAnyH_take (i := 5) (oi := { dst := some 67, op := Op.fieldAddr 65 (Operand.tmp 66) 0, type := 0, pos := "l07_window.go:146", after := #[{ on := 4, ground := Ground.data }], guard := none }) (v := ?_) rfl (by kernel_rfl) (by kernel_rfl) (by kernel_rfl) (fun _ _ _ h => h) (Or.inl ⟨by rfl, ?_⟩) (by assumption) ?_
          rotate_left
          · (intro w hSw; (try dsimp only at hSw); go_simp) <;> with_reducible rfl
          try simp only [Act.put, List.setIfInBounds_toArray, List.set_cons_zero, List.set_cons_succ]
          refine wpAnyH_take (i := 6) (oi := { dst := some 68, op := Op.load 2 (Operand.tmp 67), type := 2, pos := "l07_window.go:146", after := #[{ on := 5, ground := Ground.data }], guard := none }) (v := ?_) rfl (by kernel_rfl) (by kernel_rfl) (by kernel_rfl) (fun _ _ _ h => h) (Or.inl ⟨by rfl, ?_⟩) (by assumption) ?_
          rotate_left
          · (intro w hSw; (try dsimp only at hSw); go_simp) <;> with_reducible rfl
          try simp only [Act.put, List.setIfInBounds_toArray, List.set_cons_zero, List.set_cons_succ]
          refine wpAnyH_take (i := 9) (oi := { dst := some 71, op := Op.fieldAddr 32 (Operand.tmp 1) 7, type := 0, pos := "l07_window.go:146", after := #[], guard := none }) (v := ?_) rfl (by kernel_rfl) (by kernel_rfl) (by kernel_rfl) (fun _ _ _ h => h) (Or.inl ⟨by rfl, ?_⟩) (by assumption) ?_
          rotate_left
          · (intro w hSw; (try dsimp only at hSw); go_simp) <;> with_reducible rfl
          try simp only [Act.put, List.setIfInBounds_toArray, List.set_cons_zero, List.set_cons_succ]
          refine wpAnyH_take (i := 10) (oi := { dst := some 72, op := Op.load 30 (Operand.tmp 71), type := 30, pos := "l07_window.go:146", after := #[{ on := 9, ground := Ground.data }], guard := none }) (v := ?_) rfl (by kernel_rfl) (by kernel_rfl) (by kernel_rfl) (fun _ _ _ h => h) (Or.inl ⟨by rfl, ?_⟩) (by assumption) ?_
          rotate_left
          · (intro w hSw; (try dsimp only at hSw); go_simp) <;> with_reducible rfl
          try simp only [Act.put, List.setIfInBounds_toArray, List.set_cons_zero, List.set_cons_succ]
          refine wpAnyH_take (i := 11) (oi := { dst := some 73, op := Op.move (Operand.tmp 5), type := 3, pos := "l07_window.go:146", after := #[], guard := none }) (v := ?_) rfl (by kernel_rfl) (by kernel_rfl) (by kernel_rfl) (fun _ _ _ h => h) (Or.inl ⟨by rfl, ?_⟩) (by assumption) ?_
          rotate_left
          · (intro w hSw; (try dsimp only at hSw); go_simp) <;> with_reducible rfl
          try simp only [Act.put, List.setIfInBounds_toArray, List.set_cons_zero, List.set_cons_succ]
          refine wpAnyH_take (i := 12) (oi := { dst := some 74, op := Op.indexAddr 30 (Operand.tmp 72) (Operand.tmp 73), type := 0, pos := "l07_window.go:146", after := #[{ on := 10, ground := Ground.data }, { on := 11, ground := Ground.data }], guard := none }) (v := ?_) rfl (by kernel_rfl) (by kernel_rfl) (by kernel_rfl) (fun _ _ _ h => h) (Or.inl ⟨by rfl, ?_⟩) (by assumption) ?_
          rotate_left
          · (intro w hSw; (try dsimp only at hSw); go_simp) <;> with_reducible rfl
          try simp only [Act.put, List.setIfInBounds_toArray, List.set_cons_zero, List.set_cons_succ]
          refine wpAnyH_take (i := 13) (oi := { dst := some 75, op := Op.fieldAddr 65 (Operand.tmp 74) 1, type := 0, pos := "l07_window.go:146", after := #[{ on := 12, ground := Ground.data }], guard := none }) (v := ?_) rfl (by kernel_rfl) (by kernel_rfl) (by kernel_rfl) (fun _ _ _ h => h) (Or.inl ⟨by rfl, ?_⟩) (by assumption) ?_
          rotate_left
          · (intro w hSw; (try dsimp only at hSw); go_simp) <;> with_reducible rfl
          try simp only [Act.put, List.setIfInBounds_toArray, List.set_cons_zero, List.set_cons_succ]
          refine wpAnyH_take (i := 14) (oi := { dst := some 76, op := Op.load 2 (Operand.tmp 75), type := 2, pos := "l07_window.go:146", after := #[{ on := 13, ground := Ground.data }], guard := none }) (v := ?_) rfl (by kernel_rfl) (by kernel_rfl) (by kernel_rfl) (fun _ _ _ h => h) (Or.inl ⟨by rfl, ?_⟩) (by assumption) ?_
          rotate_left
          · (intro w hSw; (try dsimp only at hSw); go_simp) <;> with_reducible rfl
          try simp only [Act.put, List.setIfInBounds_toArray, List.set_cons_zero, List.set_cons_succ]
          refine wpAnyH_ready (rs := [7]) (by kernel_rfl) (by simp) ?_
          refine AllReadyH.cons (o := { dst := some 69, op := Op.call { callee := Callee.value (Operand.func 93), args := #[Operand.tmp 68], argTypes := #[2] }, type := 9, pos := "l07_window.go:146", after := #[{ on := 6, ground := Ground.data }], guard := none }) rfl (fun K hK => ?_) AllReadyH.nil
          go_simp
          go_at_call 93
          refine (Q1.out _).mono ?_
          rintro e q1 ⟨rfl, hq1⟩
          try go_wp2_with fail
          have hk1 := WHx.below (w := w) (wr := wr) (ha := some ⟨b, off, none⟩) (hl := hl) (hc := hc) (b := b) (o := off + i * 2) (U := U) (P := P) HS1.out hq1
          refine hK.out _ _ hk1 (fun _ => ?_)
          clear hK K
          try simp only [Act.put, List.setIfInBounds_toArray, List.set_cons_zero, List.set_cons_succ]
          refine wpAnyH_take (i := 8) (oi := { dst := some 70, op := Op.binOp BinOp.add 9 (Operand.tmp 62) (Operand.tmp 69) 9, type := 9, pos := "l07_window.go:146", after := #[{ on := 0, ground := Ground.data }, { on := 7, ground := Ground.data }], guard := none }) (v := ?_) rfl (by kernel_rfl) (by kernel_rfl) (by kernel_rfl) (fun _ _ _ h => h) (Or.inl ⟨by rfl, ?_⟩) (by assumption) ?_
          rotate_left
          · (intro w hSw; (try dsimp only at hSw); go_simp) <;> with_reducible rfl
          try simp only [Act.put, List.setIfInBounds_toArray, List.set_cons_zero, List.set_cons_succ]
          refine wpAnyH_ready (rs := [15]) (by kernel_rfl) (by simp) ?_
          refine AllReadyH.cons (o := { dst := some 77, op := Op.call { callee := Callee.value (Operand.func 93), args := #[Operand.tmp 76], argTypes := #[2] }, type := 9, pos := "l07_window.go:146", after := #[{ on := 14, ground := Ground.data }, { on := 7, ground := Ground.chain }], guard := none }) rfl (fun K hK => ?_) AllReadyH.nil
          go_simp
          go_at_call 93
          refine (Q2.out _).mono ?_
          rintro e q2 ⟨rfl, hq2⟩
          try go_wp2_with fail
          have hk2 := WHx.below (w := w) (wr := wr) (ha := some ⟨b, off, none⟩) (hl := hl) (hc := hc) (b := b) (o := off + i * 2) (U := U) (P := P) hk1 hq2
          refine hK.out _ _ hk2 (fun _ => ?_)
          clear hK K
          try simp only [Act.put, List.setIfInBounds_toArray, List.set_cons_zero, List.set_cons_succ]
          refine wpAnyH_take (i := 16) (oi := { dst := some 78, op := Op.binOp BinOp.add 9 (Operand.tmp 70) (Operand.tmp 77) 9, type := 9, pos := "l07_window.go:146", after := #[{ on := 8, ground := Ground.data }, { on := 15, ground := Ground.data }], guard := none }) (v := ?_) rfl (by kernel_rfl) (by kernel_rfl) (by kernel_rfl) (fun _ _ _ h => h) (Or.inl ⟨by rfl, ?_⟩) (by assumption) ?_
          rotate_left
          · (intro w hSw; (try dsimp only at hSw); go_simp) <;> with_reducible rfl
          try simp only [Act.put, List.setIfInBounds_toArray, List.set_cons_zero, List.set_cons_succ]
          refine wpAnyH_take (i := 17) (oi := { dst := some 3, op := Op.assign (Operand.tmp 78), type := 9, pos := "l07_window.go:146", after := #[{ on := 16, ground := Ground.data }, { on := 15, ground := Ground.chain }, { on := 0, ground := Ground.phase }, { on := 1, ground := Ground.phase }, { on := 2, ground := Ground.phase }, { on := 3, ground := Ground.phase }, { on := 4, ground := Ground.phase }, { on := 5, ground := Ground.phase }, { on := 6, ground := Ground.phase }, { on := 7, ground := Ground.phase }, { on := 8, ground := Ground.phase }, { on := 9, ground := Ground.phase }, { on := 10, ground := Ground.phase }, { on := 11, ground := Ground.phase }, { on := 12, ground := Ground.phase }, { on := 13, ground := Ground.phase }, { on := 14, ground := Ground.phase }, { on := 15, ground := Ground.phase }, { on := 16, ground := Ground.phase }], guard := none }) (v := ?_) rfl (by kernel_rfl) (by kernel_rfl) (by kernel_rfl) (fun _ _ _ h => h) (Or.inl ⟨by rfl, ?_⟩) (by assumption) ?_
          rotate_left
          · (intro w hSw; (try dsimp only at hSw); go_simp) <;> with_reducible rfl
          try simp only [Act.put, List.setIfInBounds_toArray, List.set_cons_zero, List.set_cons_succ]
          refine wpAnyH_done (by kernel_rfl) ?_ _
          have HB5 := hid_intro (HB.out.trans (hk2.1.mono HB.out.size))
          have HX5 := hid_intro (HX.out.below hk2.1)
          clear hk1 hk2 hq1 hq2 HS1 c0 c1 x7
          go_wp2_with fail
          go_roundw
          case rel => exact ⟨i + 1, by omega, by rw [HC.out], by go_num, HB5, HX5⟩
          case measure => simp [intOf]; omega
        · have hlt2 : ¬ (i : Int) < (hl : Int) := by omega
          obtain rfl : i = hl := by omega
          go_wp2_with fail
          go_ret
          exact ⟨rfl, HB.out⟩
theorem spec_wb_all (a m : ByteArray) (mo ev su mx : Int) (ta : Option Addr) (tl tc : Nat) (ha : Option Addr) (hl hc : Nat) (R : ByteArray) (r : Bool) (w : World)
    (h1 : ∀ W, Below w.heap.size w W → Calls Tryd.prog 20 #[.agg #[.string a, .string m, .int .i64 mo, .int .i64 ev, .int .i64 su, .int .i64 mx, .slice ta tl tc, .slice ha hl hc]] W fun e w' => e = .returned (.bool r) ∧ Below W.heap.size W w')
    (h2 : r = true → ∀ W, Below w.heap.size w W → Calls Tryd.prog 68 #[.agg #[.string a, .string m, .int .i64 mo, .int .i64 ev, .int .i64 su, .int .i64 mx, .slice ta tl tc, .slice ha hl hc]] W fun e w' => e = .returned (.string R) ∧ Below W.heap.size W w') :
    Calls Tryd.prog 37 #[.agg #[.string a, .string m, .int .i64 mo, .int .i64 ev, .int .i64 su, .int .i64 mx, .slice ta tl tc, .slice ha hl hc]] w fun e w' => e = .returned (.string (bif r then R else ⟨#[]⟩)) ∧ Below w.heap.size w w' := by
  have H1 := hid_intro h1
  have H2 := hid_intro h2
  clear h1 h2
  have HB0 : Hid (Below w.heap.size w (w.alloc (.cells #[.string a, .string m, .int .i64 mo, .int .i64 ev, .int .i64 su, .int .i64 mx, .slice ta tl tc, .slice ha hl hc] 32))) := hid_intro ((Below.refl _ _).alloc (Nat.le_refl _) _)
  have HX0 := hid_intro (Blk.new w [.string a, .string m, .int .i64 mo, .int .i64 ev, .int .i64 su, .int .i64 mx, .slice ta tl tc, .slice ha hl hc] 32)
  cases r
  · go_enter Tryd.func37, Tryd.ntmps37
    go_wp2_with fail
    refine (H1.out _ HB0.out).mono ?_
    rintro e w1 ⟨rfl, hb1⟩
    have HB1 := hid_intro (HB0.out.trans (hb1.mono HB0.out.size))
    clear hb1
    go_wp2_with fail
    go_ret
    exact ⟨rfl, HB1.out⟩
  · have H3 := hid_intro (H2.out rfl)
    go_enter Tryd.func37, Tryd.ntmps37
    go_wp2_with fail
    refine (H1.out _ HB0.out).mono ?_
    rintro e w1 ⟨rfl, hb1⟩
    have HB1 := hid_intro (HB0.out.trans (hb1.mono HB0.out.size))
    have HX1 := hid_intro (HX0.out.below hb1)
    clear hb1
    obtain ⟨xl, xc⟩ := HX1.out
    have x0 : w1.cell? ⟨w.heap.size, 0, none⟩ = some (.string a) := xc 0 (by simp)
    have x1 : w1.cell? ⟨w.heap.size, 1, none⟩ = some (.string m) := xc 1 (by simp)
    have x2 : w1.cell? ⟨w.heap.size, 2, none⟩ = some (.int .i64 mo) := xc 2 (by simp)
    have x3 : w1.cell? ⟨w.heap.size, 3, none⟩ = some (.int .i64 ev) := xc 3 (by simp)
    have x4 : w1.cell? ⟨w.heap.size, 4, none⟩ = some (.int .i64 su) := xc 4 (by simp)
    have x5 : w1.cell? ⟨w.heap.size, 5, none⟩ = some (.int .i64 mx) := xc 5 (by simp)
    have x6 : w1.cell? ⟨w.heap.size, 6, none⟩ = some (.slice ta tl tc) := xc 6 (by simp)
    have x7 : w1.cell? ⟨w.heap.size, 7, none⟩ = some (.slice ha hl hc) := xc 7 (by simp)
    clear xc
    go_wp2_with fail
    refine (H3.out _ HB1.out).mono ?_
    rintro e w2 ⟨rfl, hb2⟩
    have HB2 := hid_intro (HB1.out.trans (hb2.mono HB1.out.size))
    clear hb2
    go_wp2_with fail
    go_ret
    exact ⟨rfl, HB2.out⟩
theorem qA_zero (x : Wd) : qA x 0 = [numB x.a.size ++ x.a, numB x.m.size ++ x.m, numB x.mo, numB x.ev, numB x.su, numB x.mx] ++ [numB x.ts.length] := by unfold qA; simp [wH, txB]
theorem qB_zero (x : Wd) : qB x 0 = qA x x.ts.length ++ [numB x.hs.length] := by unfold qB; simp
theorem spec_bytes (x : Wd) (ta : Option Addr) (tc : Nat) (ha : Option Addr) (hc : Nat) (w : World) (h1 : x.a.size ≤ 1048576) (h2 : x.m.size ≤ 1048576) (h3 : x.ts.length ≤ 1048576) (h4 : ∀ t ∈ x.ts, t.size ≤ 1048576) (h5 : x.hs.length ≤ 1048576) (hT : Tgs ta x.ts w) (hH : Hrs ha x.hs w) :
    Calls Tryd.prog 37 #[.agg (wcells x ta tc ha hc)] w fun e w' => e = .returned (.string (wBy x)) ∧ Below w.heap.size w w' :=
  spec_wb_all x.a x.m x.mo x.ev x.su x.mx ta x.ts.length tc ha x.hs.length hc _ _ w (fun W hW => spec_window_right x ta tc ha hc W h1 h2 h3 h4 (hT.below hW) (hH.below hW)) (fun hb W hW => by
    obtain ⟨⟨b1, b2⟩, b3, b4, b5, b6, ⟨b7, b7'⟩, ⟨b8, b8'⟩, b9⟩ := right_bd hb
    exact spec_wb_in x.a x.m x.mo x.ev x.su x.mx x.ts x.hs ta tc ha hc _ _ _ _ _ _ _ _ (qA x) (qB x) W b7 b8' (hT.below hW) (hH.below hW) (fun w => PutTextL.spec_text x.a w (by omega)) (fun w => PutTextL.spec_text x.m w (by omega)) (fun w => NumR.spec_put x.mo w (by omega)) (fun w => NumR.spec_put x.ev w (by omega)) (fun w => NumR.spec_put x.su w (by omega)) (fun w => NumR.spec_put x.mx w (by omega)) (fun w => NumR.spec_put (x.ts.length : Int) w (by omega)) (fun w => NumR.spec_put (x.hs.length : Int) w (by omega)) (txt_le b1) (txt_le b2) (num_le b3.1 (by omega)) (num_le (by omega) (by omega)) (num_le b5.1 b5.2) (num_le b6.1 (by omega)) (num_le (by omega) (by omega)) (num_le (by omega) (by omega)) b7' b9 (qA_zero x) (qA_more x) (qA_size hb) (qB_zero x) (qB_more x) (qB_size hb))
end WinR
end Go.Proofs.YtnlmpejgiakepaaDoor
namespace Go.Proofs.YtnlmpejgiakepaaDoor
open Go.ChangeShapes Go.WideShapes Go.ChangeAt Go.RowKit
set_option linter.unusedVariables false
namespace WinR
open EvtR (rT pT rN pN rC pC rC_le txtAt txtAt_back txtB cut_two cut_size rT_size)
open NumsR (numAt numAt_back I64)
open NumR (numB numB_size)
open JoinR (joinB)
/-- These bytes are spelled by these parts. -/
def Sp (s : ByteArray) (p q : Nat) (L : List ByteArray) : Prop := p ≤ q ∧ q ≤ s.size ∧ s.extract p q = joinB L
theorem sp_nil {s : ByteArray} {p : Nat} (h : p ≤ s.size) : Sp s p p [] := ⟨Nat.le_refl _, h, by
  apply ByteArray.ext
  simp [joinB]⟩
theorem sp_app {s : ByteArray} {p q r : Nat} {L L' : List ByteArray} (h : Sp s p q L) (h' : Sp s q r L') : Sp s p r (L ++ L') :=
  ⟨Nat.le_trans h.1 h'.1, h'.2.1, by rw [cut_two s p q r h.1 h'.1, h.2.2, h'.2.2, joinB_app]⟩
theorem sp_txt {s : ByteArray} {o : Option Nat} {q : Nat} (h : pT s o = some q) : ∃ p, o = some p ∧ Sp s p q [txB (rT s o)] ∧ p < q := by
  cases o with
  | none => cases h
  | some p =>
    unfold pT at h
    simp only [Option.bind_some, Option.map_eq_some_iff] at h
    obtain ⟨⟨t, r⟩, h1, rfl⟩ := h
    have e : rT s (some p) = t := by unfold rT; simp [h1]
    obtain ⟨b1, b2, b3, b4⟩ := txtAt_back h1
    refine ⟨p, rfl, ⟨Nat.le_of_lt b2, b3, ?_⟩, b2⟩
    rw [e, b4, joinB_one]
    rfl
theorem sp_num {s : ByteArray} {o : Option Nat} {q : Nat} (h : pN s o = some q) : ∃ p, o = some p ∧ Sp s p q [numB (rN s o)] ∧ p < q := by
  cases o with
  | none => cases h
  | some p =>
    unfold pN at h
    simp only [Option.bind_some, Option.map_eq_some_iff] at h
    obtain ⟨⟨n, r⟩, h1, rfl⟩ := h
    have e : rN s (some p) = n := by unfold rN; simp [h1]
    obtain ⟨b1, b2, b3, b4⟩ := numAt_back h1
    refine ⟨p, rfl, ⟨Nat.le_of_lt b2, b3, ?_⟩, b2⟩
    rw [e, b4, joinB_one]
theorem sp_cnt {s : ByteArray} {o : Option Nat} {M q : Nat} (h : pC s o M = some q) : ∃ p, o = some p ∧ Sp s p q [numB (rC s o M)] ∧ p < q := by
  unfold pC at h
  split at h
  · rename_i k
    obtain ⟨p, e, h1, h2⟩ := sp_num h
    refine ⟨p, e, ?_, h2⟩
    have e2 : ((rC s o M : Nat) : Int) = rN s o := by
      unfold rC
      rw [if_pos k]
      omega
    rw [e2]
    exact h1
  · cases h
/-- So many texts read, and the place behind them. -/
def tgsR (s : ByteArray) : Option Nat → Nat → List ByteArray × Option Nat
  | o, 0 => ([], o)
  | o, k + 1 => (rT s o :: (tgsR s (pT s o) k).1, (tgsR s (pT s o) k).2)
def hrsR (s : ByteArray) : Option Nat → Nat → List H × Option Nat
  | o, 0 => ([], o)
  | o, k + 1 => (⟨rN s o, rN s (pN s o)⟩ :: (hrsR s (pN s (pN s o)) k).1, (hrsR s (pN s (pN s o)) k).2)
theorem tgsR_len (s : ByteArray) : ∀ (k : Nat) (o : Option Nat), (tgsR s o k).1.length = k
  | 0, _ => rfl
  | k + 1, o => by simp [tgsR, tgsR_len s k]
theorem hrsR_len (s : ByteArray) : ∀ (k : Nat) (o : Option Nat), (hrsR s o k).1.length = k
  | 0, _ => rfl
  | k + 1, o => by simp [hrsR, hrsR_len s k]
theorem tgsR_none (s : ByteArray) : ∀ k : Nat, (tgsR s none k).2 = none
  | 0 => rfl
  | k + 1 => by
    show (tgsR s (pT s none) k).2 = none
    exact tgsR_none s k
theorem hrsR_none (s : ByteArray) : ∀ k : Nat, (hrsR s none k).2 = none
  | 0 => rfl
  | k + 1 => by
    show (hrsR s (pN s (pN s none)) k).2 = none
    exact hrsR_none s k
theorem sp_tgs (s : ByteArray) : ∀ (k : Nat) (o : Option Nat) (q : Nat), (∀ p, o = some p → p ≤ s.size) → (tgsR s o k).2 = some q → ∃ p, o = some p ∧ Sp s p q ((tgsR s o k).1.map txB)
  | 0, o, q, hp, h => ⟨q, h, sp_nil (hp q h)⟩
  | k + 1, o, q, hp, h => by
    have h1 : (tgsR s (pT s o) k).2 = some q := h
    obtain ⟨r, e, h2⟩ := sp_tgs s k (pT s o) q (fun p e => by obtain ⟨_, _, h3, _⟩ := sp_txt e; exact h3.2.1) h1
    obtain ⟨p, e2, h3, _⟩ := sp_txt e
    exact ⟨p, e2, sp_app h3 h2⟩
theorem sp_hrs (s : ByteArray) : ∀ (k : Nat) (o : Option Nat) (q : Nat), (∀ p, o = some p → p ≤ s.size) → (hrsR s o k).2 = some q → ∃ p, o = some p ∧ Sp s p q ((hrsR s o k).1.flatMap hP)
  | 0, o, q, hp, h => ⟨q, h, sp_nil (hp q h)⟩
  | k + 1, o, q, hp, h => by
    have h1 : (hrsR s (pN s (pN s o)) k).2 = some q := h
    obtain ⟨r, e, h2⟩ := sp_hrs s k (pN s (pN s o)) q (fun p e => by obtain ⟨_, _, h3, _⟩ := sp_num e; exact h3.2.1) h1
    obtain ⟨p1, e1, h3, _⟩ := sp_num e
    obtain ⟨p, e2, h4, _⟩ := sp_num e1
    refine ⟨p, e2, ?_⟩
    have := sp_app h4 (sp_app h3 h2)
    exact this
/-- The places behind a window's first six parts. -/
def oW (s : ByteArray) : Nat → Option Nat
  | 0 => some 0
  | 1 => pT s (some 0)
  | 2 => pT s (pT s (some 0))
  | 3 => pN s (pT s (pT s (some 0)))
  | 4 => pN s (pN s (pT s (pT s (some 0))))
  | 5 => pN s (pN s (pN s (pT s (pT s (some 0)))))
  | _ => pN s (pN s (pN s (pN s (pT s (pT s (some 0))))))
def oC1 (s : ByteArray) : Option Nat := pC s (oW s 6) 12
def nC1 (s : ByteArray) : Nat := rC s (oW s 6) 12
def oT (s : ByteArray) : Option Nat := (tgsR s (oC1 s) (nC1 s)).2
def oC2 (s : ByteArray) : Option Nat := pC s (oT s) 12
def nC2 (s : ByteArray) : Nat := rC s (oT s) 12
/-- The window that is read, and the place behind it. -/
def winR (s : ByteArray) : Wd := ⟨rT s (oW s 0), rT s (oW s 1), rN s (oW s 2), rN s (oW s 3), rN s (oW s 4), rN s (oW s 5), (tgsR s (oC1 s) (nC1 s)).1, (hrsR s (oC2 s) (nC2 s)).1⟩
def oE (s : ByteArray) : Option Nat := (hrsR s (oC2 s) (nC2 s)).2
theorem win_back {s : ByteArray} {q : Nat} (h : oE s = some q) : q ≤ s.size ∧ 0 < q ∧ s.extract 0 q = joinB (wP (winR s)) := by
  obtain ⟨p9, e9, h9⟩ := sp_hrs s _ _ q (fun p e => by obtain ⟨_, _, h3, _⟩ := sp_cnt e; exact h3.2.1) h
  obtain ⟨p8, e8, h8, _⟩ := sp_cnt e9
  obtain ⟨p7, e7, h7⟩ := sp_tgs s _ _ p8 (fun p e => by obtain ⟨_, _, h3, _⟩ := sp_cnt e; exact h3.2.1) e8
  obtain ⟨p6, e6, h6, _⟩ := sp_cnt e7
  obtain ⟨p5, e5, h5, _⟩ := sp_num e6
  obtain ⟨p4, e4, h4, _⟩ := sp_num e5
  obtain ⟨p3, e3, h3, _⟩ := sp_num e4
  obtain ⟨p2, e2, h2, _⟩ := sp_num e3
  obtain ⟨p1, e1, h1, _⟩ := sp_txt e2
  obtain ⟨p0, e0, h0, l0⟩ := sp_txt e1
  cases e0
  have hh := sp_app h0 (sp_app h1 (sp_app h2 (sp_app h3 (sp_app h4 (sp_app h5 (sp_app h6 (sp_app h7 (sp_app h8 h9))))))))
  have l1 := h1.1
  have l2 := h2.1
  have l3 := h3.1
  have l4 := h4.1
  have l5 := h5.1
  have l6 := h6.1
  have l7 := h7.1
  have l8 := h8.1
  have l9 := h9.1
  refine ⟨hh.2.1, by omega, ?_⟩
  rw [hh.2.2]
  have n1 : (winR s).ts.length = nC1 s := tgsR_len s _ _
  have n2 : (winR s).hs.length = nC2 s := hrsR_len s _ _
  unfold wP qB qA wH
  rw [List.take_length, List.take_length, n1, n2]
  simp only [List.cons_append, List.nil_append, List.append_assoc]
  rfl
theorem cut_whole (s : ByteArray) : s.extract 0 s.size = s := by
  apply ByteArray.ext
  rw [ByteArray.data_extract]
  exact Array.extract_size
/-- What the model asks of what is read is what the program asks. -/
theorem win_same (s : ByteArray) : (oE s ≠ none ∧ s.size ≠ 0 ∧ wBy (winR s) = s) ↔ (oE s = some s.size ∧ wB (winR s) = true) := by
  constructor
  · rintro ⟨h1, h2, h3⟩
    cases ho : oE s with
    | none => exact absurd ho h1
    | some q =>
      obtain ⟨b1, b2, b3⟩ := win_back ho
      cases hw : wB (winR s)
      · unfold wBy at h3
        rw [hw] at h3
        rw [← h3] at h2
        exact absurd rfl h2
      · unfold wBy at h3
        rw [hw] at h3
        simp only [cond_true] at h3
        rw [h3] at b3
        have hz := congrArg ByteArray.size b3
        rw [cut_size s 0 q b1] at hz
        exact ⟨by rw [show q = s.size by omega], rfl⟩
  · rintro ⟨h1, h2⟩
    obtain ⟨b1, b2, b3⟩ := win_back h1
    refine ⟨by rw [h1]; simp, by omega, ?_⟩
    unfold wBy
    rw [h2]
    simp only [cond_true]
    rw [← b3, cut_whole]
end WinR
end Go.Proofs.YtnlmpejgiakepaaDoor
namespace Go.Proofs.YtnlmpejgiakepaaDoor
namespace WinR
def wz : Wd := ⟨⟨#[]⟩, ⟨#[]⟩, 0, 0, 0, 0, [], []⟩
end WinR
end Go.Proofs.YtnlmpejgiakepaaDoor
namespace Go.Proofs.YtnlmpejgiakepaaDoor
open Go.ChangeShapes Go.WideShapes Go.ChangeAt Go.RowKit
set_option linter.unusedVariables false
namespace WinR
open RowG (MadeG Rws)
/-- What is handed back, as cells. -/
def ocells (z : Wd) (ta : Option Addr) (tc : Nat) (ha : Option Addr) (hc : Nat) (cd : Int) : Array Value := #[.string z.a, .string z.m, .int .i64 z.mo, .int .i64 z.ev, .int .i64 z.su, .int .i64 z.mx, .slice ta z.ts.length tc, .slice ha z.hs.length hc, .int .i64 cd]
/-- An answer whose lists lie in blocks from base on. -/
def NewO (base : Nat) (z : Wd) (cd : Int) (v : Value) (w : World) : Prop := ∃ ta tc ha hc, v = .agg (ocells z ta tc ha hc cd) ∧ Tgs ta z.ts w ∧ Hrs ha z.hs w ∧ (z.ts.length = 0 ∨ ∀ b off, ta = some ⟨b, off, none⟩ → base ≤ b) ∧ (z.hs.length = 0 ∨ ∀ b off, ha = some ⟨b, off, none⟩ → base ≤ b)
/-- An answer of one's own. -/
def MadeO (base : Nat) (z : Wd) (cd : Int) (v : Value) (w : World) : Prop := ∃ ta tc ha hc, v = .agg (ocells z ta tc ha hc cd) ∧ MadeG 1 tcells tz base ta z.ts w ∧ MadeG 2 H.cells H.zero base ha z.hs w ∧ Apart ta ha z.ts.length z.hs.length
theorem wz_new_o (base : Nat) (cd : Int) (w : World) : NewO base wz cd (.agg #[.string ⟨#[]⟩, .string ⟨#[]⟩, .int .i64 0, .int .i64 0, .int .i64 0, .int .i64 0, .slice none 0 0, .slice none 0 0, .int .i64 cd]) w :=
  ⟨none, 0, none, 0, rfl, .inl rfl, .inl rfl, .inl rfl, .inl rfl⟩
theorem wz_made_o (base : Nat) (cd : Int) (w : World) : MadeO base wz cd (.agg #[.string ⟨#[]⟩, .string ⟨#[]⟩, .int .i64 0, .int .i64 0, .int .i64 0, .int .i64 0, .slice none 0 0, .slice none 0 0, .int .i64 cd]) w :=
  ⟨none, 0, none, 0, rfl, ⟨.inl rfl, .inl rfl⟩, ⟨.inl rfl, .inl rfl⟩, .inl rfl⟩
end WinR
end Go.Proofs.YtnlmpejgiakepaaDoor
namespace Go.Proofs.YtnlmpejgiakepaaDoor
open Go.ChangeShapes Go.WideShapes Go.ChangeAt Go.RowKit
set_option linter.unusedVariables false
namespace MarkR
theorem hid_intro {p : Prop} (h : p) : Hid p := h
theorem conv_m (w : World) (z : Int) : (convert 118 9 (.slice (some ⟨w.heap.size, 0, none⟩) 1 1)).run Tryd.prog (w.alloc (Obj.cells #[.int .u8 z] 5)) = .ok (.string (strOfNums [z])) (w.alloc (Obj.cells #[.int .u8 z] 5)) := by
  refine run_convert_bytes_arg _ 118 5 Tryd.underlying118 Tryd.underlying5 w.heap.size 0 1 1 _ rfl ?_ 9 Tryd.underlying9
  intro i hi
  match i, hi with
  | 0, _ => simp [go_sem]
/-- The digits put ahead of a text. -/
def mk : Nat → Nat → ByteArray → ByteArray
  | 0, _, out => out
  | f + 1, k, out => if k = 0 then out else mk f (k / 10) (strOfNums [48 + ((k % 10 : Nat) : Int)] ++ out)
def mT (k : Nat) : ByteArray := (⟨#[109]⟩ : ByteArray) ++ mk 9 k ⟨#[]⟩
set_option maxRecDepth 100000 in
set_option maxHeartbeats 4000000 in
theorem mark_any (K : Nat) (h0 : 1 ≤ K) (h : K < 100000000) (w : World) : Calls Tryd.prog 63 #[.int .i64 K] w fun e w' => e = .returned (.string (mT K)) ∧ Below w.heap.size w w' := by
  have h1 : ¬ (K : Int) ≤ 0 := by omega
  have HT : Hid (mT K = (⟨#[109]⟩ : ByteArray) ++ mk 9 K ⟨#[]⟩) := rfl
  generalize mT K = R at *
  go_enter Tryd.func63, Tryd.ntmps63
  go_wp2_with fail
  go_loopw [0, 3] (fun x z wr => ∃ (f k : Nat) (out : ByteArray), x = .int .i64 (k : Int) ∧ z = .string out ∧ k < 10 ^ f ∧ f ≤ 9 ∧ Hid (mk 9 K ⟨#[]⟩ = mk f k out) ∧ out.size + f = 9 ∧ Hid (Below w.heap.size w wr)) (fun x _ _ => (intOf x).toNat)
  case atStart => exact ⟨9, K, ⟨#[]⟩, rfl, rfl, by omega, by omega, rfl, rfl, hid_intro (Below.refl _ _)⟩
  case round =>
    obtain ⟨f, k, out, rfl, rfl, hk, hf, HD, hz, HB⟩ := hrel
    by_cases hk0 : k = 0
    · subst hk0
      have HO : Hid (R = (⟨#[109]⟩ : ByteArray) ++ out) := hid_intro (by rw [HT.out, HD.out]; cases f <;> simp [mk])
      have q1 : ¬ 9223372036854775807 < 1 + out.size := by omega
      go_wp2_with fail
      go_ret
      exact ⟨ret_str HO.out.symm, HB.out⟩
    · obtain ⟨g, rfl⟩ : ∃ g, f = g + 1 := ⟨f - 1, by rcases f with _ | f; simp at hk; omega; omega⟩
      have hk2 : k / 10 < 10 ^ g := by rw [Nat.pow_succ] at hk; omega
      have HD2 : Hid (mk 9 K ⟨#[]⟩ = mk g (k / 10) (strOfNums [48 + ((k % 10 : Nat) : Int)] ++ out)) := hid_intro (by rw [HD.out, mk, if_neg hk0])
      have hkb : k < 1000000000 := by
        have : 10 ^ (g + 1) ≤ 10 ^ 9 := Nat.pow_le_pow_right (by omega) hf
        omega
      have k1 : (0 : Int) < (k : Int) := by omega
      have e1 : (k : Int) % 10 = ((k % 10 : Nat) : Int) := by omega
      have e2 : (k : Int) / 10 = ((k / 10 : Nat) : Int) := by omega
      have e3 : (k : Int).tmod 10 = ((k % 10 : Nat) : Int) := by rw [Int.tmod_eq_emod_of_nonneg (by omega)]; omega
      have e4 : (k : Int).tdiv 10 = ((k / 10 : Nat) : Int) := by rw [Int.tdiv_eq_ediv_of_nonneg (by omega)]; omega
      have d10 : k % 10 < 10 := by omega
      have dk : k / 10 < k := by omega
      have hC : (strOfNums [48 + ((k % 10 : Nat) : Int)]).size = 1 := strOfNums_size _
      have hcv := conv_m wr (48 + ((k % 10 : Nat) : Int))
      generalize k % 10 = d at *
      generalize k / 10 = q at *
      generalize strOfNums [48 + (d : Int)] = T at *
      have q1 : ¬ 9223372036854775807 < T.size + out.size := by omega
      have HDk := hid_intro dk
      clear dk hk HD
      go_wp2_with fail
      go_roundw
      case rel => exact ⟨g, q, T ++ out, rfl, rfl, hk2, by omega, HD2, by rw [ByteArray.size_append]; omega, hid_intro (HB.out.alloc HB.out.size _)⟩
      case measure => simp [intOf]; have := HDk.out; omega
end MarkR
end Go.Proofs.YtnlmpejgiakepaaDoor
namespace Go.Proofs.YtnlmpejgiakepaaDoor
open Go.ChangeShapes Go.WideShapes Go.ChangeAt Go.RowKit
set_option linter.unusedVariables false
namespace WinR
open RowG (Wr MadeG grown_set)
open EvtR (Pt)
open CatR (Blk Blk.new)
open MarkR (mk mT mark_any)
/-- Only blocks between two numbers are written. -/
structure Outs (base top : Nat) (w w' : World) : Prop where
  os : w'.os = w.os
  tape : w'.tape = w.tape
  output : w'.output = w.output
  size : w.heap.size ≤ w'.heap.size
  block : ∀ k, k < w.heap.size → k < base ∨ top ≤ k → w'.heap[k]? = w.heap[k]?
theorem Outs.refl (base top : Nat) (w : World) : Outs base top w w := ⟨rfl, rfl, rfl, Nat.le_refl _, fun _ _ _ => rfl⟩
theorem Outs.trans {base top : Nat} {w w1 w2 : World} (h : Outs base top w w1) (h2 : Outs base top w1 w2) : Outs base top w w2 :=
  ⟨h2.os.trans h.os, h2.tape.trans h.tape, h2.output.trans h.output, Nat.le_trans h.size h2.size, fun k hk hn => (h2.block k (Nat.lt_of_lt_of_le hk h.size) hn).trans (h.block k hk hn)⟩
theorem Outs.below {base top : Nat} {w w1 w2 : World} (h : Outs base top w w1) (hb : Below w1.heap.size w1 w2) : Outs base top w w2 :=
  h.trans ⟨hb.os, hb.tape, hb.output, hb.size, fun k hk _ => hb.block k hk⟩
theorem Outs.grown {base top : Nat} {w w1 w2 : World} {g : Nat} (h : Outs base top w w1) (hg : w1.grownBy w2 (some g)) (h1 : base ≤ g) (h2 : g < top) : Outs base top w w2 :=
  h.trans ⟨hg.os, hg.tape, hg.output, hg.size, fun k hk hn => hg.block k hk (by simp; omega)⟩
theorem Outs.bel {base top : Nat} {w w' : World} (h : Outs base top w w') {B : Nat} (hB : B ≤ base) (hw : B ≤ w.heap.size) : Below B w w' :=
  ⟨h.os, h.tape, h.output, by have := h.size; omega, fun k hk => h.block k (by omega) (.inl (by omega))⟩
theorem Outs.blkw {base top b : Nat} {cs : List Value} {w w' : World} (h : Outs base top w w') (hp : BlkW b cs w) (hg : b < base ∨ top ≤ b) : BlkW b cs w' := by
  have e := h.block b hp.1.1 hg
  exact ⟨⟨Nat.lt_of_lt_of_le hp.1.1 h.size, fun i hi => (World.cell?_of_block (a := ⟨b, i, none⟩) e).trans (hp.1.2 i hi)⟩, fun i hi => (World.frozen?_of_block (a := ⟨b, i, none⟩) e).trans (hp.2 i hi)⟩
theorem Outs.blk {base top b : Nat} {cs : List Value} {w w' : World} (h : Outs base top w w') (hp : Blk b cs w) (hg : b < base ∨ top ≤ b) : Blk b cs w' := by
  have e := h.block b hp.1 hg
  exact ⟨Nat.lt_of_lt_of_le hp.1 h.size, fun i hi => (World.cell?_of_block (a := ⟨b, i, none⟩) e).trans (hp.2 i hi)⟩
theorem gtrans {w w1 w2 : World} {g : Option Nat} (h1 : w.grownBy w1 g) (h2 : w1.grownBy w2 g) : w.grownBy w2 g :=
  ⟨h2.os.trans h1.os, h2.tape.trans h1.tape, h2.output.trans h1.output, Nat.le_trans h1.size h2.size, fun k hk hne => (h2.block k (by have := h1.size; omega) hne).trans (h1.block k hk hne)⟩
theorem rgrown {w w' : World} (hb : Below w.heap.size w w') (row : Option Nat) : w.grownBy w' row := ⟨hb.os, hb.tape, hb.output, hb.size, fun k hk _ => hb.block k hk⟩
/-- The cells of marked tags, of marked hours. -/
def mtC (K o : Nat) : Option Value := some (.string (mT (K + o)))
def mhC (K o : Nat) : Option Value := some (.int .i64 ((K + o : Nat) : Int))
theorem mark_st {f : Nat → Option Value} {g m j : Nat} {w0 w : World} (hp : Pt g m w) (hm : Wr f j g w) (hg : w0.grownBy w (some g)) (hj : j < m) (v : Value) (hv : f j = some v) :
    Pt g m (w.setCell ⟨g, j, none⟩ v) ∧ Wr f (j + 1) g (w.setCell ⟨g, j, none⟩ v) ∧ w0.grownBy (w.setCell ⟨g, j, none⟩ v) (some g) :=
  ⟨hp.set _ _, hm.more hp hj v hv, gtrans hg (grown_set _ g _ _)⟩
set_option maxRecDepth 100000 in
set_option maxHeartbeats 4000000 in
theorem markT (g n cap K : Nat) (w : World) (hn : n ≤ 1048576) (hK : 1 ≤ K ∧ K ≤ 10000000) (h0 : Pt g n w) :
    Calls Tryd.prog 31 #[.slice (some ⟨g, 0, none⟩) n cap, .int .i64 K] w fun e w' => e = .returned (.int .i64 (K + n : Nat)) ∧ Pt g n w' ∧ Wr (mtC K) n g w' ∧ w.grownBy w' (some g) := by
  have HP := hid_intro h0
  obtain ⟨k1, k2⟩ := hK
  have HT : Hid (∀ (z : Int) (L : Nat), z = L → 1 ≤ L → L < 100000000 → ∀ w, Calls Tryd.prog 63 #[.int .i64 z] w fun e w' => e = .returned (.string (mT L)) ∧ Below w.heap.size w w') := hid_intro (fun z L e h0 h w => by subst e; exact mark_any L h0 h w)
  clear h0
  go_enter Tryd.func31, Tryd.ntmps31
  go_wp2_with fail
  go_loopw [5, 1] (fun x z wr => ∃ i : Nat, x = .int .i64 (i : Int) ∧ z = .int .i64 ((K : Int) + (i : Int)) ∧ i ≤ n ∧ Hid (Pt g n wr) ∧ Hid (Wr (mtC K) i g wr) ∧ Hid (w.grownBy wr (some g))) (fun x _ _ => n - (intOf x).toNat)
  case atStart => exact ⟨0, rfl, by simp, by omega, HP, hid_intro (fun o ho => absurd ho (by omega)), hid_intro ⟨rfl, rfl, rfl, Nat.le_refl _, fun _ _ _ => rfl⟩⟩
  case round =>
    obtain ⟨i, rfl, rfl, hi, HP, HM, HG⟩ := hrel
    by_cases hin : i = n
    · subst hin
      go_wp2_with fail
      go_ret
      exact ⟨by go_num, HP.out, HM.out, HG.out⟩
    · have h1 : (i : Int) < (n : Int) := by omega
      go_wp2_with fail
      refine (HT.out _ (K + i) (by push_cast; omega) (by omega) (by omega) _).mono ?_
      rintro e w1 ⟨rfl, hb⟩
      have HP1 := hid_intro (HP.out.below hb)
      have HM1 := hid_intro (HM.out.below HP.out hb)
      have HG1 := hid_intro (gtrans HG.out (rgrown hb _))
      obtain ⟨v0, c0⟩ := HP1.out.has i (by omega)
      have f0 := HP1.out.free i (by omega)
      have HS := hid_intro (mark_st HP1.out HM1.out HG1.out (by omega) (.string (mT (K + i))) rfl)
      clear hb HP HM HG HP1 HM1 HG1
      go_wp2_with fail
      go_roundw
      case rel => exact ⟨i + 1, by go_num, by (congr 1) <;> omega, by omega, hid_intro HS.out.1, hid_intro HS.out.2.1, hid_intro HS.out.2.2⟩
      case measure => simp [intOf]; omega
set_option maxRecDepth 100000 in
set_option maxHeartbeats 4000000 in
theorem markH (g n cap K : Nat) (w : World) (hn : n ≤ 1048576) (hK : 1 ≤ K ∧ K ≤ 20000000) (h0 : Pt g (n * 2) w) :
    Calls Tryd.prog 32 #[.slice (some ⟨g, 0, none⟩) n cap, .int .i64 K] w fun e w' => e = .returned (.int .i64 (K + 2 * n : Nat)) ∧ Pt g (n * 2) w' ∧ Wr (mhC K) (n * 2) g w' ∧ w.grownBy w' (some g) := by
  have HP := hid_intro h0
  obtain ⟨k1, k2⟩ := hK
  clear h0
  go_enter Tryd.func32, Tryd.ntmps32
  go_wp2_with fail
  go_loopw [5, 1] (fun x z wr => ∃ i : Nat, x = .int .i64 (i : Int) ∧ z = .int .i64 ((K : Int) + 2 * (i : Int)) ∧ i ≤ n ∧ Hid (Pt g (n * 2) wr) ∧ Hid (Wr (mhC K) (i * 2) g wr) ∧ Hid (w.grownBy wr (some g))) (fun x _ _ => n - (intOf x).toNat)
  case atStart => exact ⟨0, rfl, by simp, by omega, HP, hid_intro (fun o ho => absurd ho (by omega)), hid_intro ⟨rfl, rfl, rfl, Nat.le_refl _, fun _ _ _ => rfl⟩⟩
  case round =>
    obtain ⟨i, rfl, rfl, hi, HP, HM, HG⟩ := hrel
    by_cases hin : i = n
    · subst hin
      go_wp2_with fail
      go_ret
      exact ⟨by go_num, HP.out, HM.out, HG.out⟩
    · have h1 : (i : Int) < (n : Int) := by omega
      obtain ⟨v0, c0⟩ := HP.out.has (i * 2) (by omega)
      have f0 := HP.out.free (i * 2) (by omega)
      obtain ⟨v1, c1⟩ := HP.out.has (i * 2 + 1) (by omega)
      have f1 := HP.out.free (i * 2 + 1) (by omega)
      have HS := hid_intro (mark_st HP.out HM.out HG.out (by omega) (.int .i64 ((K : Int) + 2 * (i : Int))) (by unfold mhC; congr 2; push_cast; omega))
      have HS2 := hid_intro (mark_st HS.out.1 HS.out.2.1 HS.out.2.2 (by omega) (.int .i64 ((K : Int) + 2 * (i : Int) + 1)) (by unfold mhC; congr 2; push_cast; omega))
      clear HP HM HG HS
      go_wp2_with fail
      go_roundw
      case rel => exact ⟨i + 1, by go_num, by (congr 1) <;> omega, by omega, hid_intro HS2.out.1, hid_intro (by rw [show (i + 1) * 2 = i * 2 + 1 + 1 by omega]; exact HS2.out.2.1), hid_intro HS2.out.2.2⟩
      case measure => simp [intOf]; omega
/-- What a round of the marked tags reads. -/
def MTx (w : World) (g o : Nat) (t0 : ByteArray) (W : World) : Prop := Below w.heap.size w W ∧ g < W.heap.size ∧ W.cell? ⟨g, o, none⟩ = some (.string t0)
theorem MTx.below {w w1 w2 : World} {g o : Nat} {t0 : ByteArray} (h : MTx w g o t0 w1) (hb : Below w1.heap.size w1 w2) : MTx w g o t0 w2 :=
  ⟨h.1.trans (hb.mono h.1.size), Nat.lt_of_lt_of_le h.2.1 hb.size, (hb.cell (p := ⟨g, o, none⟩) h.2.1).trans h.2.2⟩
set_option maxRecDepth 100000 in
set_option maxHeartbeats 4000000 in
theorem heldT (g n cap K : Nat) (w : World) (hn : n ≤ 1048576) (hK : 1 ≤ K ∧ K ≤ 10000000) (h0 : g < w.heap.size) (hm : Wr (mtC K) n g w) :
    Calls Tryd.prog 64 #[.slice (some ⟨g, 0, none⟩) n cap, .int .i64 K] w fun e w' => e = .returned (.int .i64 (K + n : Nat)) ∧ Below w.heap.size w w' := by
  have HP := hid_intro h0
  have HM := hid_intro hm
  obtain ⟨k1, k2⟩ := hK
  clear h0 hm
  go_enter Tryd.func64, Tryd.ntmps64
  go_wp2_with fail
  go_loopw [5, 1] (fun x z wr => ∃ i : Nat, x = .int .i64 (i : Int) ∧ z = .int .i64 ((K : Int) + (i : Int)) ∧ i ≤ n ∧ Hid (Below w.heap.size w wr)) (fun x _ _ => n - (intOf x).toNat)
  case atStart => exact ⟨0, rfl, by simp, by omega, hid_intro (Below.refl _ _)⟩
  case round =>
    obtain ⟨i, rfl, rfl, hi, HB⟩ := hrel
    by_cases hin : i = n
    · subst hin
      go_wp2_with fail
      go_ret
      exact ⟨by go_num, HB.out⟩
    · have h1 : (i : Int) < (n : Int) := by omega
      have q0 : wr.cell? ⟨g, i, none⟩ = some (.string (mT (K + i))) := (HB.out.cell (p := ⟨g, i, none⟩) HP.out).trans (HM.out i (by omega))
      have HT0 : Hid (∀ w, Calls Tryd.prog 63 #[.int .i64 ((K : Int) + (i : Int))] w fun e w' => e = .returned (.string (mT (K + i))) ∧ Below w.heap.size w w') := hid_intro (fun w => by have := mark_any (K + i) (by omega) (by omega) w; rw [show ((K + i : Nat) : Int) = (K : Int) + (i : Int) by omega] at this; exact this)
      generalize mT (K + i) = T0 at *
      have hgl : g < wr.heap.size := Nat.lt_of_lt_of_le HP.out HB.out.size
      have HS0 : Hid (MTx w g i T0 wr.drew) := hid_intro (MTx.below ⟨HB.out, hgl, q0⟩ (Below.refl _ _).drew)
      go_wp2_with fail
      go_region_held3 (fun w' => Below w.heap.size w w' ∧ g < w'.heap.size ∧ w'.cell? ⟨g, i, none⟩ = some (.string T0)) (first | assumption | (exact HS0.out) | (exact MTx.below (w := w) (g := g) (o := i) (t0 := T0) (by assumption) hb))
        (first | (go_at_call 63; refine (HT0.out _).mono ?_; rintro e w' ⟨rfl, hb⟩))
      rename_i hS
      have HB2 := hid_intro hS.1
      clear hS HS0 q0
      go_wp2_with fail
      go_roundw
      case rel => exact ⟨i + 1, by go_num, by (congr 1) <;> omega, by omega, HB2⟩
      case measure => simp [intOf]; omega
set_option maxRecDepth 100000 in
set_option maxHeartbeats 4000000 in
theorem heldH (g n cap K : Nat) (w : World) (hn : n ≤ 1048576) (hK : 1 ≤ K ∧ K ≤ 20000000) (h0 : g < w.heap.size) (hm : Wr (mhC K) (n * 2) g w) :
    Calls Tryd.prog 65 #[.slice (some ⟨g, 0, none⟩) n cap, .int .i64 K] w fun e w' => e = .returned (.int .i64 (K + 2 * n : Nat)) ∧ Below w.heap.size w w' := by
  have HP := hid_intro h0
  have HM := hid_intro hm
  obtain ⟨k1, k2⟩ := hK
  clear h0 hm
  go_enter Tryd.func65, Tryd.ntmps65
  go_wp2_with fail
  go_loopw [5, 1] (fun x z wr => ∃ i : Nat, x = .int .i64 (i : Int) ∧ z = .int .i64 ((K : Int) + 2 * (i : Int)) ∧ i ≤ n ∧ Hid (Below w.heap.size w wr)) (fun x _ _ => n - (intOf x).toNat)
  case atStart => exact ⟨0, rfl, by simp, by omega, hid_intro (Below.refl _ _)⟩
  case round =>
    obtain ⟨i, rfl, rfl, hi, HB⟩ := hrel
    by_cases hin : i = n
    · subst hin
      go_wp2_with fail
      go_ret
      exact ⟨by go_num, HB.out⟩
    · have h1 : (i : Int) < (n : Int) := by omega
      have q0 : wr.cell? ⟨g, i * 2, none⟩ = some (.int .i64 ((K : Int) + 2 * (i : Int))) := ((HB.out.cell (p := ⟨g, i * 2, none⟩) HP.out).trans (HM.out (i * 2) (by omega))).trans (by unfold mhC; congr 2; push_cast; omega)
      have q1 : wr.cell? ⟨g, i * 2 + 1, none⟩ = some (.int .i64 ((K : Int) + 2 * (i : Int) + 1)) := ((HB.out.cell (p := ⟨g, i * 2 + 1, none⟩) HP.out).trans (HM.out (i * 2 + 1) (by omega))).trans (by unfold mhC; congr 2; push_cast; omega)
      go_wp2_with fail
      try (go_quiet (fail); go_wp2_with fail)
      go_roundw
      case rel => exact ⟨i + 1, by go_num, by (congr 1) <;> omega, by omega, hid_intro (by first | exact HB.out | exact bdN HB.out _)⟩
      case measure => simp [intOf]; omega
set_option maxHeartbeats 4000000 in
theorem nil_any (f : Nat) (hf : f = 31 ∨ f = 32 ∨ f = 64 ∨ f = 65) (ao : Option Addr) (cap K : Nat) (w : World) (hK : K ≤ 20000000) : Calls Tryd.prog f #[.slice ao 0 cap, .int .i64 K] w fun e w' => e = .returned (.int .i64 K) ∧ Below w.heap.size w w' := by
  rcases hf with rfl | rfl | rfl | rfl
  · go_enter Tryd.func31, Tryd.ntmps31
    go_wp2_with fail
    go_loopw [5, 1] (fun x z wr => x = .int .i64 0 ∧ z = .int .i64 (K : Int) ∧ Hid (Below w.heap.size w wr)) (fun x _ _ => 0)
    case atStart => exact ⟨rfl, rfl, hid_intro (Below.refl _ _)⟩
    case round =>
      obtain ⟨rfl, rfl, HB⟩ := hrel
      go_wp2_with fail
      go_ret
      exact ⟨rfl, HB.out⟩
  · go_enter Tryd.func32, Tryd.ntmps32
    go_wp2_with fail
    go_loopw [5, 1] (fun x z wr => x = .int .i64 0 ∧ z = .int .i64 (K : Int) ∧ Hid (Below w.heap.size w wr)) (fun x _ _ => 0)
    case atStart => exact ⟨rfl, rfl, hid_intro (Below.refl _ _)⟩
    case round =>
      obtain ⟨rfl, rfl, HB⟩ := hrel
      go_wp2_with fail
      go_ret
      exact ⟨rfl, HB.out⟩
  · go_enter Tryd.func64, Tryd.ntmps64
    go_wp2_with fail
    go_loopw [5, 1] (fun x z wr => x = .int .i64 0 ∧ z = .int .i64 (K : Int) ∧ Hid (Below w.heap.size w wr)) (fun x _ _ => 0)
    case atStart => exact ⟨rfl, rfl, hid_intro (Below.refl _ _)⟩
    case round =>
      obtain ⟨rfl, rfl, HB⟩ := hrel
      go_wp2_with fail
      go_ret
      exact ⟨rfl, HB.out⟩
  · go_enter Tryd.func65, Tryd.ntmps65
    go_wp2_with fail
    go_loopw [5, 1] (fun x z wr => x = .int .i64 0 ∧ z = .int .i64 (K : Int) ∧ Hid (Below w.heap.size w wr)) (fun x _ _ => 0)
    case atStart => exact ⟨rfl, rfl, hid_intro (Below.refl _ _)⟩
    case round =>
      obtain ⟨rfl, rfl, HB⟩ := hrel
      go_wp2_with fail
      go_ret
      exact ⟨rfl, HB.out⟩
/-- The marks stand in the window's lists. -/
def MkdW (ta ha : Option Addr) (tl hl K : Nat) (w : World) : Prop := (tl = 0 ∨ ∃ g, ta = some ⟨g, 0, none⟩ ∧ Pt g tl w ∧ Wr (mtC K) tl g w) ∧ (hl = 0 ∨ ∃ g, ha = some ⟨g, 0, none⟩ ∧ Pt g (hl * 2) w ∧ Wr (mhC (K + tl)) (hl * 2) g w)
theorem MkdW.below {ta ha : Option Addr} {tl hl K : Nat} {w w' : World} (h : MkdW ta ha tl hl K w) (hb : Below w.heap.size w w') : MkdW ta ha tl hl K w' :=
  ⟨h.1.imp id (fun ⟨g, e, p, q⟩ => ⟨g, e, p.below hb, q.below p hb⟩), h.2.imp id (fun ⟨g, e, p, q⟩ => ⟨g, e, p.below hb, q.below p hb⟩)⟩
theorem pt_out {base top g m : Nat} {w w' : World} (h : Outs base top w w') (hp : Pt g m w) (hg : g < base ∨ top ≤ g) : Pt g m w' := by
  have e := h.block g hp.lt hg
  exact ⟨Nat.lt_of_lt_of_le hp.lt h.size, fun o ho => by obtain ⟨v, hv⟩ := hp.has o ho; exact ⟨v, (World.cell?_of_block (a := ⟨g, o, none⟩) e).trans hv⟩, fun o ho => (World.frozen?_of_block (a := ⟨g, o, none⟩) e).trans (hp.free o ho)⟩
theorem wr_grown {f : Nat → Option Value} {n g m x : Nat} {w w' : World} (h : Wr f n g w) (hp : Pt g m w) (hg : w.grownBy w' (some x)) (hx : g ≠ x) : Wr f n g w' :=
  fun o ho => (World.cell?_of_block (a := ⟨g, o, none⟩) (hg.block g hp.lt (by simp; exact hx))).trans (h o ho)
theorem pt_grown {g m x : Nat} {w w' : World} (hp : Pt g m w) (hg : w.grownBy w' (some x)) (hx : g ≠ x) : Pt g m w' := by
  have e := hg.block g hp.lt (by simp; exact hx)
  exact ⟨Nat.lt_of_lt_of_le hp.lt hg.size, fun o ho => by obtain ⟨v, hv⟩ := hp.has o ho; exact ⟨v, (World.cell?_of_block (a := ⟨g, o, none⟩) e).trans hv⟩, fun o ho => (World.frozen?_of_block (a := ⟨g, o, none⟩) e).trans (hp.free o ho)⟩
set_option maxRecDepth 100000 in
set_option maxHeartbeats 4000000 in
theorem markW_in (a m : ByteArray) (mo ev su mx : Int) (ta : Option Addr) (tl tc : Nat) (ha : Option Addr) (hl hc K base top : Nat) (w : World) (lt : tl ≤ 1048576) (lh : hl ≤ 1048576) (hK : 1 ≤ K ∧ K ≤ 10000000) (htop : top ≤ w.heap.size)
    (hT : tl = 0 ∨ ∃ g, ta = some ⟨g, 0, none⟩ ∧ base ≤ g ∧ g < top ∧ Pt g tl w) (hH : hl = 0 ∨ ∃ g, ha = some ⟨g, 0, none⟩ ∧ base ≤ g ∧ g < top ∧ Pt g (hl * 2) w) (hA : Apart ta ha tl hl) :
    Calls Tryd.prog 13 #[.agg #[.string a, .string m, .int .i64 mo, .int .i64 ev, .int .i64 su, .int .i64 mx, .slice ta tl tc, .slice ha hl hc], .int .i64 K] w fun e w' => e = .returned (.int .i64 (K + tl + 2 * hl : Nat)) ∧ MkdW ta ha tl hl K w' ∧ Outs base top w w' := by
  have HT : Hid (∀ W, Below w.heap.size w W → Calls Tryd.prog 31 #[.slice ta tl tc, .int .i64 K] W fun e w' => e = .returned (.int .i64 (K + tl : Nat)) ∧ (tl = 0 ∨ ∃ g, ta = some ⟨g, 0, none⟩ ∧ Pt g tl w' ∧ Wr (mtC K) tl g w') ∧ (hl = 0 ∨ ∃ g, ha = some ⟨g, 0, none⟩ ∧ base ≤ g ∧ g < top ∧ Pt g (hl * 2) w') ∧ Outs base top w w' ∧ ∀ b cs, Blk b cs W → b < base ∨ top ≤ b → Blk b cs w') := hid_intro (fun W hW => by
    have O0 := (Outs.refl base top w).below hW
    rcases Nat.eq_zero_or_pos tl with rfl | hpos
    · exact (nil_any _ (.inl rfl) ta tc K W (by omega)).mono fun e w' ⟨e1, e2⟩ => ⟨e1, .inl rfl, hH.imp id (fun ⟨g, q1, q2, q3, q4⟩ => ⟨g, q1, q2, q3, (q4.below hW).below e2⟩), O0.below e2, fun b cs hb _ => hb.below e2⟩
    · obtain ⟨g, rfl, g1, g2, hp⟩ := hT.resolve_left (by omega)
      refine (markT g tl tc K W lt hK (hp.below hW)).mono fun e w' ⟨e1, e2, e3, e4⟩ => ⟨e1, .inr ⟨g, rfl, e2, e3⟩, ?_, O0.grown e4 g1 g2, fun b cs hb hn => ?_⟩
      · rcases Nat.eq_zero_or_pos hl with rfl | hpos2
        · exact .inl rfl
        · obtain ⟨g', rfl, q2, q3, q4⟩ := hH.resolve_left (by omega)
          have := (hA.resolve_left (by omega)).resolve_left (by omega) g 0 g' 0 rfl rfl
          exact .inr ⟨g', rfl, q2, q3, pt_grown (q4.below hW) e4 (fun e => this e.symm)⟩
      · have e := e4.block b hb.1 (by simp; omega)
        exact ⟨Nat.lt_of_lt_of_le hb.1 e4.size, fun i hi => (World.cell?_of_block (a := ⟨b, i, none⟩) e).trans (hb.2 i hi)⟩)
  have HH : Hid (∀ W, Outs base top w W → (tl = 0 ∨ ∃ g, ta = some ⟨g, 0, none⟩ ∧ Pt g tl W ∧ Wr (mtC K) tl g W) → (hl = 0 ∨ ∃ g, ha = some ⟨g, 0, none⟩ ∧ base ≤ g ∧ g < top ∧ Pt g (hl * 2) W) → Calls Tryd.prog 32 #[.slice ha hl hc, .int .i64 (K + tl : Nat)] W fun e w' => e = .returned (.int .i64 (K + tl + 2 * hl : Nat)) ∧ MkdW ta ha tl hl K w' ∧ Outs base top w w') := hid_intro (fun W O0 hm hh => by
    rcases Nat.eq_zero_or_pos hl with rfl | hpos
    · exact (nil_any _ (.inr (.inl rfl)) ha hc (K + tl) W (by omega)).mono fun e w' ⟨e1, e2⟩ => ⟨e1, ⟨hm.imp id (fun ⟨g, q1, q2, q3⟩ => ⟨g, q1, q2.below e2, q3.below q2 e2⟩), .inl rfl⟩, O0.below e2⟩
    · obtain ⟨g, rfl, g1, g2, hp⟩ := hh.resolve_left (by omega)
      refine (markH g hl hc (K + tl) W lh (by omega) hp).mono fun e w' ⟨e1, e2, e3, e4⟩ => ⟨e1, ⟨?_, .inr ⟨g, rfl, e2, e3⟩⟩, O0.grown e4 g1 g2⟩
      rcases Nat.eq_zero_or_pos tl with rfl | hpos2
      · exact .inl rfl
      · obtain ⟨g', rfl, q2, q3⟩ := hm.resolve_left (by omega)
        have := (hA.resolve_left (by omega)).resolve_left (by omega) g' 0 g 0 rfl rfl
        exact .inr ⟨g', rfl, pt_grown q2 e4 this, wr_grown q3 q2 e4 this⟩)
  have HB0 : Hid (Below w.heap.size w (w.alloc (.cells #[.string a, .string m, .int .i64 mo, .int .i64 ev, .int .i64 su, .int .i64 mx, .slice ta tl tc, .slice ha hl hc] 32))) := hid_intro ((Below.refl _ _).alloc (Nat.le_refl _) _)
  have HX0 := hid_intro (Blk.new w [.string a, .string m, .int .i64 mo, .int .i64 ev, .int .i64 su, .int .i64 mx, .slice ta tl tc, .slice ha hl hc] 32)
  have HTP := hid_intro htop
  generalize MkdW ta ha tl hl K = MM at *
  clear hT hH hA htop
  go_enter Tryd.func13, Tryd.ntmps13
  go_wp2_with fail
  refine (HT.out _ HB0.out).mono ?_
  rintro e w1 ⟨rfl, ht1, hh1, ho1, hbk⟩
  have HX1 := hid_intro (hbk _ _ HX0.out (.inr HTP.out))
  have HT1 := hid_intro ht1
  have HH1 := hid_intro hh1
  have HO1 := hid_intro ho1
  clear ht1 hh1 ho1 hbk
  obtain ⟨xl, xc⟩ := HX1.out
  have x7 : w1.cell? ⟨w.heap.size, 7, none⟩ = some (.slice ha hl hc) := xc 7 (by simp)
  clear xc
  go_wp2_with fail
  refine (HH.out _ HO1.out HT1.out HH1.out).mono ?_
  rintro e w2 ⟨rfl, hm2, ho2⟩
  have HM2 := hid_intro hm2
  have HO2 := hid_intro ho2
  clear hm2 ho2
  go_wp2_with fail
  go_ret
  exact ⟨rfl, HM2.out, HO2.out⟩
set_option maxRecDepth 100000 in
set_option maxHeartbeats 4000000 in
theorem heldW_in (a m : ByteArray) (mo ev su mx : Int) (ta : Option Addr) (tl tc : Nat) (ha : Option Addr) (hl hc K : Nat) (w : World) (lt : tl ≤ 1048576) (lh : hl ≤ 1048576) (hK : 1 ≤ K ∧ K ≤ 10000000) (hM : MkdW ta ha tl hl K w) :
    Calls Tryd.prog 33 #[.agg #[.string a, .string m, .int .i64 mo, .int .i64 ev, .int .i64 su, .int .i64 mx, .slice ta tl tc, .slice ha hl hc], .int .i64 K] w fun e w' => e = .returned (.int .i64 (K + tl + 2 * hl : Nat)) ∧ Below w.heap.size w w' := by
  have HT : Hid (∀ W, Below w.heap.size w W → Calls Tryd.prog 64 #[.slice ta tl tc, .int .i64 K] W fun e w' => e = .returned (.int .i64 (K + tl : Nat)) ∧ Below W.heap.size W w') := hid_intro (fun W hW => by
    rcases Nat.eq_zero_or_pos tl with rfl | hpos
    · exact nil_any _ (.inr (.inr (.inl rfl))) ta tc K W (by omega)
    · obtain ⟨g, rfl, q2, q3⟩ := (hM.below hW).1.resolve_left (by omega)
      exact heldT g tl tc K W lt hK q2.lt q3)
  have HH : Hid (∀ W, Below w.heap.size w W → Calls Tryd.prog 65 #[.slice ha hl hc, .int .i64 (K + tl : Nat)] W fun e w' => e = .returned (.int .i64 (K + tl + 2 * hl : Nat)) ∧ Below W.heap.size W w') := hid_intro (fun W hW => by
    rcases Nat.eq_zero_or_pos hl with rfl | hpos
    · exact nil_any _ (.inr (.inr (.inr rfl))) ha hc (K + tl) W (by omega)
    · obtain ⟨g, rfl, q2, q3⟩ := (hM.below hW).2.resolve_left (by omega)
      exact heldH g hl hc (K + tl) W lh (by omega) q2.lt q3)
  have HB0 : Hid (Below w.heap.size w (w.alloc (.cells #[.string a, .string m, .int .i64 mo, .int .i64 ev, .int .i64 su, .int .i64 mx, .slice ta tl tc, .slice ha hl hc] 32))) := hid_intro ((Below.refl _ _).alloc (Nat.le_refl _) _)
  have HX0 := hid_intro (Blk.new w [.string a, .string m, .int .i64 mo, .int .i64 ev, .int .i64 su, .int .i64 mx, .slice ta tl tc, .slice ha hl hc] 32)
  have n1 : ¬ (((K + tl : Nat) : Int) < 0) := by omega
  have n2 : ¬ (((K + tl + 2 * hl : Nat) : Int) < 0) := by omega
  generalize K + tl + 2 * hl = K2 at *
  generalize hK1 : K + tl = K1 at *
  clear hM
  go_enter Tryd.func33, Tryd.ntmps33
  go_wp2_with fail
  refine (HT.out _ HB0.out).mono ?_
  rintro e w1 ⟨rfl, hb1⟩
  have HB1 := hid_intro (HB0.out.trans (hb1.mono HB0.out.size))
  have HX1 := hid_intro (HX0.out.below hb1)
  clear hb1
  obtain ⟨xl, xc⟩ := HX1.out
  have x7 : w1.cell? ⟨w.heap.size, 7, none⟩ = some (.slice ha hl hc) := xc 7 (by simp)
  clear xc
  go_wp2_with fail
  refine (HH.out _ HB1.out).mono ?_
  rintro e w2 ⟨rfl, hb2⟩
  have HB2 := hid_intro (HB1.out.trans (hb2.mono HB1.out.size))
  clear hb2
  go_wp2_with fail
  go_ret
  exact ⟨rfl, HB2.out⟩
/-- A window that was made is marked. -/
theorem markW (base top K : Nat) (x : Wd) (ta : Option Addr) (tc : Nat) (ha : Option Addr) (hc : Nat) (w : World) (lt : x.ts.length ≤ 1048576) (lh : x.hs.length ≤ 1048576) (hK : 1 ≤ K ∧ K ≤ 10000000) (htop : top ≤ w.heap.size)
    (h1 : MadeG 1 tcells tz base ta x.ts w) (h2 : MadeG 2 H.cells H.zero base ha x.hs w) (h3 : Apart ta ha x.ts.length x.hs.length) (t1 : ∀ g, ta = some ⟨g, 0, none⟩ → g < top) (t2 : ∀ g, ha = some ⟨g, 0, none⟩ → g < top) :
    Calls Tryd.prog 13 #[.agg (wcells x ta tc ha hc), .int .i64 K] w fun e w' => e = .returned (.int .i64 (K + x.ts.length + 2 * x.hs.length : Nat)) ∧ MkdW ta ha x.ts.length x.hs.length K w' ∧ Outs base top w w' :=
  markW_in x.a x.m x.mo x.ev x.su x.mx ta x.ts.length tc ha x.hs.length hc K base top w lt lh hK htop (h1.own.imp id (fun ⟨g, e1, e2, e3⟩ => ⟨g, e1, e2, t1 g e1, by rw [Nat.mul_one] at e3; exact e3⟩)) (h2.own.imp id (fun ⟨g, e1, e2, e3⟩ => ⟨g, e1, e2, t2 g e1, e3⟩)) h3
end WinR
end Go.Proofs.YtnlmpejgiakepaaDoor
