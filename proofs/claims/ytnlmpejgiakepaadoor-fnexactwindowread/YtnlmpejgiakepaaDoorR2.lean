/-
  Windows that the law is given: the law's own copies, and windows held against each other. The condition: at most 1048576 of each.
  The program's rising lists: whether hours rise. The condition: at most 1048576 of them.
  Leap years, and the days of the week: either side tells the same. No condition.
  The days of a month, and whether a date is right: either side tells the same. The condition: the program's table stands in its variable.
  Whether a date is right: either side tells the same. The condition: the program's table stands in its variable.
  A date's day: either side tells the same. The condition: the program's table stands in its variable.
  A day's date, the program's side. The condition: the program's table stands in its variable.
  A day's date, the model's side. No condition.
  A day's date: both sides hand back the same; of a day within the years it is a right date, whose day is that one. The condition: the program's table stands in its variable.
  A right minute's month: both sides hand back the same; whether an hour lies in a month. The condition: the program's table stands in its variable.
  What the program calls a right window. The conditions: texts of at most 1048576 bytes, lists of at most 1048576; the program's table stands in its variable.
  What the program calls a window's right tags. The conditions: texts of at most 1048576 bytes, lists of at most 1048576.
  What the program calls a window's right hours. The conditions: lists of at most 1048576; the sum is one that may be; the program's table stands in its variable.
  A window as the program works with it, and what it calls right. The conditions: texts of at most 1048576 bytes, lists of at most 1048576; the program's table stands in its variable.
  strings.Clone: the same bytes come back; nothing that was there is written. The condition: the text has at most 2^48 bytes.
  Lists of one's own that grow by append. No condition.
  A window laid in new memory, the program's way. The conditions: texts of at most 1048576 bytes, at most 1048576 tags, 1 to 1048576 hours.
  Cells of a block written one behind another. No condition.
  Two lists that rise, laid into one: two at a time, or one by one; the same list. The conditions are named: what is smaller is so of what comes behind, too.
-/
import Derived.Deep.QuietTactic
import Derived.BigQuiet
import Derived.Deep.RegionHeld3
import Derived.Deep.DrawnRows
import Derived.Laws.EntriesVeiled
import Derived.Lib.Strings
import Derived.Lib.BufferWrite
import Derived.Lib.UnsafeStr
import Derived.Lib.Hide
import Derived.Laws.MakeOwn
import Derived.OwnWalk
import Derived.Lib.SliceRun
import Derived.Deep.CutRange
import Derived.Test.YtnlmpejgiakepaaDoorR1
namespace Go.Proofs.YtnlmpejgiakepaaDoor
open Go.ChangeShapes Go.WideShapes Go.ChangeAt Go.RowKit
set_option linter.unusedVariables false
namespace WinR
open RowG
open EvtR (Pt)
open CatR (Blk Blk.new)
/-- A block that may be written. -/
def BlkW (b : Nat) (cs : List Value) (w : World) : Prop := Blk b cs w ∧ ∀ i, i < cs.length → w.frozen? ⟨b, i, none⟩ = false
theorem BlkW.below {b : Nat} {cs : List Value} {w w' : World} (h : BlkW b cs w) (hb : Below w.heap.size w w') : BlkW b cs w' :=
  ⟨h.1.below hb, fun i hi => (hb.frozen (p := ⟨b, i, none⟩) h.1.1).trans (h.2 i hi)⟩
theorem BlkW.new (w : World) (cs : List Value) (T : TypeId) : BlkW w.heap.size cs (w.alloc (.cells cs.toArray T)) :=
  ⟨Blk.new w cs T, fun i hi => by simp [go_sem]⟩
theorem BlkW.set {b : Nat} {cs : List Value} {w : World} (h : BlkW b cs w) (o : Nat) (v : Value) (ho : o < cs.length) : BlkW b (cs.set o v) (w.setCell ⟨b, o, none⟩ v) := by
  obtain ⟨⟨hl, hc⟩, hf⟩ := h
  refine ⟨⟨by simpa using hl, fun i hi => ?_⟩, fun i hi => ?_⟩
  · rw [List.length_set] at hi
    by_cases e : o = i
    · subst e
      have := hc o hi
      rw [List.getElem?_eq_getElem hi] at this
      rw [List.getElem?_set_self ho]
      simp [go_sem, this]
    · rw [List.getElem?_set_ne e, ← hc i hi]
      simp [go_sem]
  · rw [List.length_set] at hi
    have := hf i hi
    simp [go_sem, this]
theorem BlkW.other {b : Nat} {cs : List Value} {w : World} (h : BlkW b cs w) (g o : Nat) (v : Value) (hg : g ≠ b) : BlkW b cs (w.setCell ⟨g, o, none⟩ v) := by
  have e := (grown_set w g o v).block b h.1.1 (by simp; exact fun q => hg q.symm)
  exact ⟨⟨by simpa using h.1.1, fun i hi => (World.cell?_of_block (a := ⟨b, i, none⟩) e).trans (h.1.2 i hi)⟩, fun i hi => (World.frozen?_of_block (a := ⟨b, i, none⟩) e).trans (h.2 i hi)⟩
theorem Rws.put {α : Type} {k : Nat} {cells : α → List Value} {z : α} {ao : Option Addr} {xs : List α} {w : World} (h : Rws k cells z ao xs w) (g o : Nat) (v : Value) (hne : xs.length = 0 ∨ ∀ b off, ao = some ⟨b, off, none⟩ → b ≠ g) : Rws k cells z ao xs (w.setCell ⟨g, o, none⟩ v) :=
  h.grown (grown_set w g o v) (hne.imp id (fun hn b off e q => hn b off e (by simpa using q)))
theorem MadeG.put {α : Type} {k : Nat} {cells : α → List Value} {z : α} {base : Nat} {ao : Option Addr} {xs : List α} {w : World} (h : MadeG k cells z base ao xs w) (g o : Nat) (v : Value) (hne : xs.length = 0 ∨ ∀ b off, ao = some ⟨b, off, none⟩ → b ≠ g) : MadeG k cells z base ao xs (w.setCell ⟨g, o, none⟩ v) := by
  refine ⟨Rws.put h.rws g o v hne, ?_⟩
  rcases h.own with h0 | ⟨b, e1, e2, e3⟩
  · exact .inl h0
  · rcases hne with h0 | hn
    · exact .inl h0
    have e := (grown_set w g o v).block b e3.lt (by simp; exact fun q => hn b 0 e1 q)
    exact .inr ⟨b, e1, e2, by simpa using e3.lt, fun x hx => by obtain ⟨u, hu⟩ := e3.has x hx; exact ⟨u, (World.cell?_of_block (a := ⟨b, x, none⟩) e).trans hu⟩, fun x hx => (World.frozen?_of_block (a := ⟨b, x, none⟩) e).trans (e3.free x hx)⟩
/-- Two lists lie apart. -/
def Apart (ta ha : Option Addr) (tl hl : Nat) : Prop := tl = 0 ∨ hl = 0 ∨ ∀ b o b' o', ta = some ⟨b, o, none⟩ → ha = some ⟨b', o', none⟩ → b ≠ b'
/-- A window that a call has made. -/
def MadeW (base : Nat) (x : Wd) (v : Value) (w : World) : Prop := ∃ ta tc ha hc, v = .agg (wcells x ta tc ha hc) ∧ MadeG 1 tcells tz base ta x.ts w ∧ MadeG 2 H.cells H.zero base ha x.hs w ∧ Apart ta ha x.ts.length x.hs.length
theorem MadeW.below {base : Nat} {x : Wd} {v : Value} {w w' : World} (h : MadeW base x v w) (hb : Below w.heap.size w w') : MadeW base x v w' := by
  obtain ⟨ta, tc, ha, hc, hv, h1, h2, h3⟩ := h
  exact ⟨ta, tc, ha, hc, hv, h1.below hb, h2.below hb, h3⟩
theorem MadeW.low {base base' : Nat} {x : Wd} {v : Value} {w : World} (h : MadeW base x v w) (hb : base' ≤ base) : MadeW base' x v w := by
  obtain ⟨ta, tc, ha, hc, hv, h1, h2, h3⟩ := h
  exact ⟨ta, tc, ha, hc, hv, h1.low hb, h2.low hb, h3⟩
theorem MadeW.is {base : Nat} {x : Wd} {v : Value} {w : World} (h : MadeW base x v w) : IsWd v x w := by
  obtain ⟨ta, tc, ha, hc, hv, h1, h2, h3⟩ := h
  exact ⟨ta, tc, ha, hc, hv, h1.rws, h2.rws⟩
set_option maxRecDepth 100000 in
set_option maxHeartbeats 8000000 in
theorem toW_in (a m : ByteArray) (mo ev su mx : Int) (ta : Option Addr) (ts : List ByteArray) (tc : Nat) (ha : Option Addr) (hs : List H) (hc : Nat) (w : World) (ht : ts.length ≤ 1048576) (hh : hs.length ≤ 1048576) (hT : Tgs ta ts w) (hH : Hrs ha hs w) :
    Calls Tryd.prog 8 #[.agg #[.string a, .string m, .int .i64 mo, .int .i64 ev, .int .i64 su, .int .i64 mx, .slice ta ts.length tc, .slice ha hs.length hc]] w fun e w' => ∃ v, e = .returned v ∧ MadeW w.heap.size ⟨a, m, mo, ev, su, mx, ts, hs⟩ v w' ∧ Below w.heap.size w w' := by
  have H1 := hid_intro (fun W (hW : Below w.heap.size w W) => toTs_any ta tc ts W ht (hT.below hW))
  have H2 := hid_intro (fun W (hW : Below w.heap.size w W) => toHs_any ha hc hs W hh (hH.below hW))
  have HF : Hid (∀ W g1 g2, w.heap.size ≤ g1 → w.heap.size ≤ g2 → g1 ≠ g2 → MadeG 1 tcells tz g1 (some ⟨g1, 0, none⟩) ts W → MadeG 2 H.cells H.zero g2 (some ⟨g2, 0, none⟩) hs W → MadeW w.heap.size ⟨a, m, mo, ev, su, mx, ts, hs⟩ (.agg #[.string a, .string m, .int .i64 mo, .int .i64 ev, .int .i64 su, .int .i64 mx, .slice (some ⟨g1, 0, none⟩) ts.length ts.length, .slice (some ⟨g2, 0, none⟩) hs.length hs.length]) W) := hid_intro (fun W g1 g2 l1 l2 hn m1 m2 =>
    ⟨_, _, _, _, rfl, m1.low l1, m2.low l2, .inr (.inr (fun b o b' o' e1 e2 => by simp at e1 e2; omega))⟩)
  generalize MadeW w.heap.size ⟨a, m, mo, ev, su, mx, ts, hs⟩ = M at *
  obtain ⟨tl, htl⟩ : ∃ tl, tl = ts.length := ⟨_, rfl⟩
  obtain ⟨hl, hhl⟩ : ∃ hl, hl = hs.length := ⟨_, rfl⟩
  have HTL := hid_intro htl
  have HHL := hid_intro hhl
  rw [← htl] at ht H1 HF ⊢
  rw [← hhl] at hh H2 HF ⊢
  clear hT hH htl hhl
  have HB0 : Hid (Below w.heap.size w (((w.alloc (.cells #[.string a, .string m, .int .i64 mo, .int .i64 ev, .int .i64 su, .int .i64 mx, .slice ta tl tc, .slice ha hl hc] 25)).alloc (.cells #[.string ⟨#[]⟩, .string ⟨#[]⟩, .int .i64 0, .int .i64 0, .int .i64 0, .int .i64 0, .slice none 0 0, .slice none 0 0] 32)).alloc (.cells #[.string a, .string m, .int .i64 mo, .int .i64 ev, .int .i64 su, .int .i64 mx, .slice none 0 0, .slice none 0 0] 32))) := hid_intro ((((Below.refl _ _).alloc (Nat.le_refl _) _).alloc (by simp) _).alloc (by simp; omega) _)
  have HX0 := hid_intro (((BlkW.new w [.string a, .string m, .int .i64 mo, .int .i64 ev, .int .i64 su, .int .i64 mx, .slice ta tl tc, .slice ha hl hc] 25).below ((Below.refl _ _).alloc (Nat.le_refl _) (Obj.cells #[.string ⟨#[]⟩, .string ⟨#[]⟩, .int .i64 0, .int .i64 0, .int .i64 0, .int .i64 0, .slice none 0 0, .slice none 0 0] 32))).below ((Below.refl _ _).alloc (Nat.le_refl _) (Obj.cells #[.string a, .string m, .int .i64 mo, .int .i64 ev, .int .i64 su, .int .i64 mx, .slice none 0 0, .slice none 0 0] 32)))
  have HY0 := hid_intro ((BlkW.new (w.alloc (.cells #[.string a, .string m, .int .i64 mo, .int .i64 ev, .int .i64 su, .int .i64 mx, .slice ta tl tc, .slice ha hl hc] 25)) [.string ⟨#[]⟩, .string ⟨#[]⟩, .int .i64 0, .int .i64 0, .int .i64 0, .int .i64 0, .slice none 0 0, .slice none 0 0] 32).below ((Below.refl _ _).alloc (Nat.le_refl _) (Obj.cells #[.string a, .string m, .int .i64 mo, .int .i64 ev, .int .i64 su, .int .i64 mx, .slice none 0 0, .slice none 0 0] 32)))
  have HZ0 := hid_intro (BlkW.new ((w.alloc (.cells #[.string a, .string m, .int .i64 mo, .int .i64 ev, .int .i64 su, .int .i64 mx, .slice ta tl tc, .slice ha hl hc] 25)).alloc (.cells #[.string ⟨#[]⟩, .string ⟨#[]⟩, .int .i64 0, .int .i64 0, .int .i64 0, .int .i64 0, .slice none 0 0, .slice none 0 0] 32)) [.string a, .string m, .int .i64 mo, .int .i64 ev, .int .i64 su, .int .i64 mx, .slice none 0 0, .slice none 0 0] 32)
  have e1 : (w.alloc (.cells #[.string a, .string m, .int .i64 mo, .int .i64 ev, .int .i64 su, .int .i64 mx, .slice ta tl tc, .slice ha hl hc] 25)).heap.size = w.heap.size + 1 := by simp
  have e2 : ((w.alloc (.cells #[.string a, .string m, .int .i64 mo, .int .i64 ev, .int .i64 su, .int .i64 mx, .slice ta tl tc, .slice ha hl hc] 25)).alloc (.cells #[.string ⟨#[]⟩, .string ⟨#[]⟩, .int .i64 0, .int .i64 0, .int .i64 0, .int .i64 0, .slice none 0 0, .slice none 0 0] 32)).heap.size = w.heap.size + 1 + 1 := by simp
  rw [e1] at HY0
  rw [e2] at HZ0
  clear e1 e2
  go_enter Tryd.func8, Tryd.ntmps8
  go_wp2_with fail
  refine (H1.out _ HB0.out).mono ?_
  rintro e w1 ⟨rfl, hT1, hP1, hb1⟩
  have HM1 := hid_intro (show MadeG 1 tcells tz _ _ ts w1 from ⟨hT1, .inr ⟨_, rfl, Nat.le_refl _, by rw [Nat.mul_one]; exact HTL.out ▸ hP1⟩⟩)
  obtain ⟨g1, hg1⟩ : ∃ g1, g1 = (((w.alloc (.cells #[.string a, .string m, .int .i64 mo, .int .i64 ev, .int .i64 su, .int .i64 mx, .slice ta tl tc, .slice ha hl hc] 25)).alloc (.cells #[.string ⟨#[]⟩, .string ⟨#[]⟩, .int .i64 0, .int .i64 0, .int .i64 0, .int .i64 0, .slice none 0 0, .slice none 0 0] 32)).alloc (.cells #[.string a, .string m, .int .i64 mo, .int .i64 ev, .int .i64 su, .int .i64 mx, .slice none 0 0, .slice none 0 0] 32)).heap.size := ⟨_, rfl⟩
  have HG1 : Hid (w.heap.size + 3 = g1) := hid_intro (by rw [hg1]; simp)
  have HG1b : Hid (g1 < w1.heap.size) := hid_intro (by rw [hg1]; exact hP1.lt)
  rw [← hg1] at HM1 ⊢
  clear hg1
  have HX1 := hid_intro (HX0.out.below hb1)
  have HY1 := hid_intro ((HY0.out.below hb1).other (w.heap.size + 1 + 1) 6 (.slice (some ⟨g1, 0, none⟩) tl tl) (by omega))
  have HZ1 := hid_intro ((HZ0.out.below hb1).set 6 (.slice (some ⟨g1, 0, none⟩) tl tl) (by simp))
  have HZ1' := hid_intro (HZ0.out.below hb1)
  have HB1 : Hid (Below w.heap.size w (w1.setCell ⟨w.heap.size + 1 + 1, 6, none⟩ (.slice (some ⟨g1, 0, none⟩) tl tl))) := hid_intro ((HB0.out.trans (hb1.mono HB0.out.size)).setCell (by simp; omega) _)
  obtain ⟨⟨xl, xc⟩, _⟩ := HX1.out
  have x7 : w1.cell? ⟨w.heap.size, 7, none⟩ = some (.slice ha hl hc) := xc 7 (by simp)
  obtain ⟨⟨zl, zk⟩, zf⟩ := HZ1'.out
  have z6 : w1.cell? ⟨w.heap.size + 1 + 1, 6, none⟩ = some (.slice none 0 0) := zk 6 (by simp)
  have f6 : w1.frozen? ⟨w.heap.size + 1 + 1, 6, none⟩ = false := zf 6 (by simp)
  clear xc zk zf hT1 hP1 hb1 HZ1' HX0 HY0 HZ0 HX1
  replace HM1 := hid_intro (MadeG.put HM1.out (w.heap.size + 1 + 1) 6 (.slice (some ⟨g1, 0, none⟩) tl tl) (.inr (fun b off e => by simp at e; have := HG1.out; omega)))
  go_wp2_with fail
  refine (H2.out _ HB1.out).mono ?_
  rintro e w2 ⟨rfl, hT2, hP2, hb2⟩
  have HM2 := hid_intro (show MadeG 2 H.cells H.zero _ _ hs w2 from ⟨hT2, .inr ⟨_, rfl, Nat.le_refl _, HHL.out ▸ hP2⟩⟩)
  obtain ⟨g2, hg2⟩ : ∃ g2, g2 = (w1.setCell ⟨w.heap.size + 1 + 1, 6, none⟩ (.slice (some ⟨g1, 0, none⟩) tl tl)).heap.size := ⟨_, rfl⟩
  have HG2 : Hid (g1 < g2) := hid_intro (by rw [hg2]; simpa using HG1b.out)
  rw [← hg2] at HM2 ⊢
  clear hg2
  replace HM1 := hid_intro (HM1.out.below hb2)
  replace HY1 := hid_intro (HY1.out.below hb2)
  replace HZ1 := hid_intro (HZ1.out.below hb2)
  replace HB1 := hid_intro (HB1.out.trans (hb2.mono HB1.out.size))
  clear hT2 hP2 hb2 x7 z6 f6 xl zl
  obtain ⟨⟨zl, zk⟩, zf⟩ := HZ1.out
  have z0 : w2.cell? ⟨w.heap.size + 1 + 1, 0, none⟩ = some (.string a) := zk 0 (by simp)
  have z1 : w2.cell? ⟨w.heap.size + 1 + 1, 1, none⟩ = some (.string m) := zk 1 (by simp)
  have z2 : w2.cell? ⟨w.heap.size + 1 + 1, 2, none⟩ = some (.int .i64 mo) := zk 2 (by simp)
  have z3 : w2.cell? ⟨w.heap.size + 1 + 1, 3, none⟩ = some (.int .i64 ev) := zk 3 (by simp)
  have z4 : w2.cell? ⟨w.heap.size + 1 + 1, 4, none⟩ = some (.int .i64 su) := zk 4 (by simp)
  have z5 : w2.cell? ⟨w.heap.size + 1 + 1, 5, none⟩ = some (.int .i64 mx) := zk 5 (by simp)
  have z6 : w2.cell? ⟨w.heap.size + 1 + 1, 6, none⟩ = some (.slice (some ⟨g1, 0, none⟩) tl tl) := zk 6 (by simp)
  have z7 : w2.cell? ⟨w.heap.size + 1 + 1, 7, none⟩ = some (.slice none 0 0) := zk 7 (by simp)
  have f7 : w2.frozen? ⟨w.heap.size + 1 + 1, 7, none⟩ = false := zf 7 (by simp)
  obtain ⟨⟨yl, yk⟩, yf⟩ := HY1.out
  have y0 : w2.cell? ⟨w.heap.size + 1, 0, none⟩ = some (.string ⟨#[]⟩) := yk 0 (by simp)
  have q0 : w2.frozen? ⟨w.heap.size + 1, 0, none⟩ = false := yf 0 (by simp)
  have y1 : w2.cell? ⟨w.heap.size + 1, 1, none⟩ = some (.string ⟨#[]⟩) := yk 1 (by simp)
  have q1 : w2.frozen? ⟨w.heap.size + 1, 1, none⟩ = false := yf 1 (by simp)
  have y2 : w2.cell? ⟨w.heap.size + 1, 2, none⟩ = some (.int .i64 0) := yk 2 (by simp)
  have q2 : w2.frozen? ⟨w.heap.size + 1, 2, none⟩ = false := yf 2 (by simp)
  have y3 : w2.cell? ⟨w.heap.size + 1, 3, none⟩ = some (.int .i64 0) := yk 3 (by simp)
  have q3 : w2.frozen? ⟨w.heap.size + 1, 3, none⟩ = false := yf 3 (by simp)
  have y4 : w2.cell? ⟨w.heap.size + 1, 4, none⟩ = some (.int .i64 0) := yk 4 (by simp)
  have q4 : w2.frozen? ⟨w.heap.size + 1, 4, none⟩ = false := yf 4 (by simp)
  have y5 : w2.cell? ⟨w.heap.size + 1, 5, none⟩ = some (.int .i64 0) := yk 5 (by simp)
  have q5 : w2.frozen? ⟨w.heap.size + 1, 5, none⟩ = false := yf 5 (by simp)
  have y6 : w2.cell? ⟨w.heap.size + 1, 6, none⟩ = some (.slice none 0 0) := yk 6 (by simp)
  have q6 : w2.frozen? ⟨w.heap.size + 1, 6, none⟩ = false := yf 6 (by simp)
  have y7 : w2.cell? ⟨w.heap.size + 1, 7, none⟩ = some (.slice none 0 0) := yk 7 (by simp)
  have q7 : w2.frozen? ⟨w.heap.size + 1, 7, none⟩ = false := yf 7 (by simp)
  clear zk zf yk yf HY1 HZ1
  have HN1 : Hid (∀ b off, (some ⟨g1, 0, none⟩ : Option Addr) = some ⟨b, off, none⟩ → ∀ g, g ≤ w.heap.size + 1 + 1 → b ≠ g) := hid_intro (fun b off e g hg => by simp at e; have := HG1.out; omega)
  have HN2 : Hid (∀ b off, (some ⟨g2, 0, none⟩ : Option Addr) = some ⟨b, off, none⟩ → ∀ g, g ≤ w.heap.size + 1 + 1 → b ≠ g) := hid_intro (fun b off e g hg => by simp at e; have := HG1.out; have := HG2.out; omega)
  go_wp2_with fail
  refine bodyPost_ret (v := .agg #[.string a, .string m, .int .i64 mo, .int .i64 ev, .int .i64 su, .int .i64 mx, .slice (some ⟨g1, 0, none⟩) tl tl, .slice (some ⟨g2, 0, none⟩) hl hl]) (by simp [results, Tryd.results8, go_sem, y0, y1, y2, y3, y4, y5, y6, y7]) rfl ⟨_, rfl, HF.out _ g1 g2 (by have := HG1.out; omega) (by have := HG1.out; have := HG2.out; omega) (by have := HG2.out; omega) ?_ ?_, ?_⟩
  · exact (MadeG.put (MadeG.put (MadeG.put (MadeG.put (MadeG.put (MadeG.put (MadeG.put (MadeG.put (MadeG.put HM1.out _ _ _ (.inr (fun b off e => HN1.out b off e _ (by omega)))) _ _ _ (.inr (fun b off e => HN1.out b off e _ (by omega)))) _ _ _ (.inr (fun b off e => HN1.out b off e _ (by omega)))) _ _ _ (.inr (fun b off e => HN1.out b off e _ (by omega)))) _ _ _ (.inr (fun b off e => HN1.out b off e _ (by omega)))) _ _ _ (.inr (fun b off e => HN1.out b off e _ (by omega)))) _ _ _ (.inr (fun b off e => HN1.out b off e _ (by omega)))) _ _ _ (.inr (fun b off e => HN1.out b off e _ (by omega)))) _ _ _ (.inr (fun b off e => HN1.out b off e _ (by omega))))
  · exact (MadeG.put (MadeG.put (MadeG.put (MadeG.put (MadeG.put (MadeG.put (MadeG.put (MadeG.put (MadeG.put HM2.out _ _ _ (.inr (fun b off e => HN2.out b off e _ (by omega)))) _ _ _ (.inr (fun b off e => HN2.out b off e _ (by omega)))) _ _ _ (.inr (fun b off e => HN2.out b off e _ (by omega)))) _ _ _ (.inr (fun b off e => HN2.out b off e _ (by omega)))) _ _ _ (.inr (fun b off e => HN2.out b off e _ (by omega)))) _ _ _ (.inr (fun b off e => HN2.out b off e _ (by omega)))) _ _ _ (.inr (fun b off e => HN2.out b off e _ (by omega)))) _ _ _ (.inr (fun b off e => HN2.out b off e _ (by omega)))) _ _ _ (.inr (fun b off e => HN2.out b off e _ (by omega))))
  · exact (((((((((HB1.out.setCell (by simp; omega) _).setCell (by simp) _).setCell (by simp) _).setCell (by simp) _).setCell (by simp) _).setCell (by simp) _).setCell (by simp) _).setCell (by simp) _).setCell (by simp) _)
theorem toW_any (v : Value) (x : Wd) (w : World) (ht : x.ts.length ≤ 1048576) (hh : x.hs.length ≤ 1048576) (h : IsWd v x w) :
    Calls Tryd.prog 8 #[v] w fun e w' => ∃ v', e = .returned v' ∧ MadeW w.heap.size x v' w' ∧ Below w.heap.size w w' := by
  obtain ⟨ta, tc, ha, hc, rfl, hT, hH⟩ := h
  exact toW_in x.a x.m x.mo x.ev x.su x.mx ta x.ts tc ha x.hs hc w ht hh hT hH
set_option maxRecDepth 100000 in
set_option maxHeartbeats 8000000 in
theorem eqW_in (a m : ByteArray) (mo ev su mx : Int) (ta : Option Addr) (tl tc : Nat) (ha : Option Addr) (hl hc : Nat) (ta' : Option Addr) (tc' : Nat) (ha' : Option Addr) (hc' : Nat) (w : World)
    (h1 : ∀ W, Below w.heap.size w W → Calls Tryd.prog 29 #[.slice ta tl tc, .slice ta' tl tc'] W fun e w' => e = .returned (.bool true) ∧ Below W.heap.size W w')
    (h2 : ∀ W, Below w.heap.size w W → Calls Tryd.prog 30 #[.slice ha hl hc, .slice ha' hl hc'] W fun e w' => e = .returned (.bool true) ∧ Below W.heap.size W w') :
    Calls Tryd.prog 12 #[.agg #[.string a, .string m, .int .i64 mo, .int .i64 ev, .int .i64 su, .int .i64 mx, .slice ta tl tc, .slice ha hl hc], .agg #[.string a, .string m, .int .i64 mo, .int .i64 ev, .int .i64 su, .int .i64 mx, .slice ta' tl tc', .slice ha' hl hc']] w fun e w' => e = .returned (.bool true) ∧ Below w.heap.size w w' := by
  have H1 := hid_intro h1
  have H2 := hid_intro h2
  have HB0 : Hid (Below w.heap.size w ((w.alloc (.cells #[.string a, .string m, .int .i64 mo, .int .i64 ev, .int .i64 su, .int .i64 mx, .slice ta tl tc, .slice ha hl hc] 32)).alloc (.cells #[.string a, .string m, .int .i64 mo, .int .i64 ev, .int .i64 su, .int .i64 mx, .slice ta' tl tc', .slice ha' hl hc'] 32))) := hid_intro (((Below.refl _ _).alloc (Nat.le_refl _) _).alloc (by simp) _)
  have HX0 := hid_intro ((Blk.new w [.string a, .string m, .int .i64 mo, .int .i64 ev, .int .i64 su, .int .i64 mx, .slice ta tl tc, .slice ha hl hc] 32).below ((Below.refl _ _).alloc (Nat.le_refl _) (Obj.cells #[.string a, .string m, .int .i64 mo, .int .i64 ev, .int .i64 su, .int .i64 mx, .slice ta' tl tc', .slice ha' hl hc'] 32)))
  have HY0 := hid_intro (Blk.new (w.alloc (.cells #[.string a, .string m, .int .i64 mo, .int .i64 ev, .int .i64 su, .int .i64 mx, .slice ta tl tc, .slice ha hl hc] 32)) [.string a, .string m, .int .i64 mo, .int .i64 ev, .int .i64 su, .int .i64 mx, .slice ta' tl tc', .slice ha' hl hc'] 32)
  have e1 : (w.alloc (.cells #[.string a, .string m, .int .i64 mo, .int .i64 ev, .int .i64 su, .int .i64 mx, .slice ta tl tc, .slice ha hl hc] 32)).heap.size = w.heap.size + 1 := by simp
  rw [e1] at HY0
  clear e1 h1 h2
  go_enter Tryd.func12, Tryd.ntmps12
  go_wp2_with fail
  refine (H1.out _ HB0.out).mono ?_
  rintro e w1 ⟨rfl, hb1⟩
  have HB1 := hid_intro (HB0.out.trans (hb1.mono HB0.out.size))
  have HX1 := hid_intro (HX0.out.below hb1)
  have HY1 := hid_intro (HY0.out.below hb1)
  obtain ⟨xl, xc⟩ := HX1.out
  have x7 : w1.cell? ⟨w.heap.size, 7, none⟩ = some (.slice ha hl hc) := xc 7 (by simp)
  obtain ⟨yl, yc⟩ := HY1.out
  have y7 : w1.cell? ⟨w.heap.size + 1, 7, none⟩ = some (.slice ha' hl hc') := yc 7 (by simp)
  clear xc yc hb1
  go_wp2_with fail
  refine (H2.out _ HB1.out).mono ?_
  rintro e w2 ⟨rfl, hb2⟩
  have HB2 := hid_intro (HB1.out.trans (hb2.mono HB1.out.size))
  clear hb2
  go_wp2_with fail
  go_ret
  exact ⟨rfl, HB2.out⟩
theorem eqW_any (v v' : Value) (x : Wd) (w : World) (ht : x.ts.length ≤ 1048576) (hh : x.hs.length ≤ 1048576) (h : IsWd v x w) (h' : IsWd v' x w) :
    Calls Tryd.prog 12 #[v, v'] w fun e w' => e = .returned (.bool true) ∧ Below w.heap.size w w' := by
  obtain ⟨ta, tc, ha, hc, rfl, hT, hH⟩ := h
  obtain ⟨ta', tc', ha', hc', rfl, hT', hH'⟩ := h'
  exact eqW_in x.a x.m x.mo x.ev x.su x.mx ta x.ts.length tc ha x.hs.length hc ta' tc' ha' hc' w (fun W hW => eqTs_any ta ta' tc tc' x.ts W ht (hT.below hW) (hT'.below hW)) (fun W hW => eqHs_any ha ha' hc hc' x.hs W hh (hH.below hW) (hH'.below hW))
end WinR
end Go.Proofs.YtnlmpejgiakepaaDoor
namespace Go.Proofs.YtnlmpejgiakepaaDoor
open Go.ChangeShapes Go.WideShapes Go.ChangeAt Go.RowKit
set_option linter.unusedVariables false
namespace WinR
open RowG LtR
open CatR (Blk Blk.new)
/-- What the round reads. -/
def HSt (w : World) (ao : Option Addr) (len cap : Nat) (b o1 o2 : Nat) (x y : H) (W : World) : Prop := Below w.heap.size w W ∧ w.heap.size < W.heap.size ∧ b < W.heap.size ∧ W.cell? ⟨w.heap.size, 0, none⟩ = some (.slice ao len cap) ∧ W.cell? ⟨w.heap.size, 1, none⟩ = some (.func (.func 90) #[] #[]) ∧ W.cell? ⟨w.heap.size, 2, none⟩ = some (.func (.func 91) #[] #[]) ∧ W.cell? ⟨b, o1, none⟩ = some (.int .i64 x.h) ∧ W.cell? ⟨b, o1 + 1, none⟩ = some (.int .i64 x.s) ∧ W.cell? ⟨b, o2, none⟩ = some (.int .i64 y.h) ∧ W.cell? ⟨b, o2 + 1, none⟩ = some (.int .i64 y.s)
theorem HSt.below {w : World} {ao : Option Addr} {len cap b o1 o2 : Nat} {x y : H} {W W' : World} (h : HSt w ao len cap b o1 o2 x y W) (hb : Below W.heap.size W W') : HSt w ao len cap b o1 o2 x y W' := by
  obtain ⟨h0, h1, h2, c0, c1, c2, d0, d1, d2, d3⟩ := h
  have c := fun o => hb.cell (p := ⟨w.heap.size, o, none⟩) h1
  have d := fun o => hb.cell (p := ⟨b, o, none⟩) h2
  have := hb.size
  exact ⟨h0.trans (hb.mono h0.size), by omega, by omega, (c 0).trans c0, (c 1).trans c1, (c 2).trans c2, (d _).trans d0, (d _).trans d1, (d _).trans d2, (d _).trans d3⟩
set_option maxRecDepth 100000 in
set_option maxHeartbeats 4000000 in
theorem hours_rises (ao : Option Addr) (cap : Nat) (hs : List H) (w : World) (hlen : hs.length ≤ 1048576) (hI : Hrs ao hs w) :
    Calls Tryd.prog 103 #[.agg #[.slice ao hs.length cap, .func (.func 90) #[] #[], .func (.func 91) #[] #[]]] w fun e w' => e = .returned (.bool (riseB hlt H.zero hs)) ∧ Below w.heap.size w w' := by
  have HI := hid_intro hI
  have HNO := hid_intro (fun k => rise_no (r := hlt) (z := H.zero) (xs := hs) (k := k))
  have HYES : Hid (RiseTo hlt H.zero hs hs.length → riseB hlt H.zero hs = true) := hid_intro rise_yes
  generalize riseB hlt H.zero hs = R at *
  obtain ⟨len, hl⟩ : ∃ len, len = hs.length := ⟨_, rfl⟩
  rw [← hl] at hlen HYES ⊢
  have HL := hid_intro hl
  clear hI hl
  have HB0 : Hid (Below w.heap.size w (w.alloc (.cells #[.slice ao len cap, .func (.func 90) #[] #[], .func (.func 91) #[] #[]] 95))) := hid_intro ((Below.refl _ _).alloc (Nat.le_refl _) _)
  have HX0 : Hid (Blk w.heap.size [.slice ao len cap, .func (.func 90) #[] #[], .func (.func 91) #[] #[]] (w.alloc (.cells #[.slice ao len cap, .func (.func 90) #[] #[], .func (.func 91) #[] #[]] 95))) := hid_intro (Blk.new w _ _)
  go_enter Tryd.func103, Tryd.ntmps103
  go_wp2_with fail
  go_loopw [3] (fun z wr => ∃ k : Nat, 1 ≤ k ∧ (k = 1 ∨ k ≤ len) ∧ z = .int .i64 (k : Int) ∧ Hid (RiseTo hlt H.zero hs k) ∧ Hid (Below w.heap.size w wr) ∧ Hid (Blk w.heap.size [.slice ao len cap, .func (.func 90) #[] #[], .func (.func 91) #[] #[]] wr)) (fun z _ => len - (intOf z).toNat)
  case atStart => exact ⟨1, by omega, by omega, rfl, hid_intro (rise_one _ (by omega)), HB0, HX0⟩
  case round =>
    obtain ⟨k, hk1, hk2, rfl, HR, HB, HX⟩ := hrel
    obtain ⟨xl, xc⟩ := HX.out
    have x0 : wr.cell? ⟨w.heap.size, 0, none⟩ = some (.slice ao len cap) := xc 0 (by simp)
    have x1 : wr.cell? ⟨w.heap.size, 1, none⟩ = some (.func (.func 90) #[] #[]) := xc 1 (by simp)
    have x2 : wr.cell? ⟨w.heap.size, 2, none⟩ = some (.func (.func 91) #[] #[]) := xc 2 (by simp)
    clear xc
    by_cases hlt1 : k < len
    · have hlt2 : (k : Int) < (len : Int) := by omega
      have hk0 : (0 : Int) ≤ (k : Int) := by omega
      obtain ⟨j, hj⟩ : ∃ j, j = k - 1 := ⟨_, rfl⟩
      have hj0 : (0 : Int) ≤ (j : Int) := by omega
      have hj1 : (j : Int) < (len : Int) := by omega
      have hwr : IntKind.i64.wrap ((k : Int) - 1) = (j : Int) := by rw [IntKind.wrap_i64]; omega
      obtain ⟨b, off, rfl, hbl, c1, c2⟩ := (HI.out.below HB.out).at k (by have := HL.out; omega)
      obtain ⟨b', off', he, _, d1, d2⟩ := (HI.out.below HB.out).at j (by have := HL.out; omega)
      obtain ⟨rfl, rfl⟩ : b = b' ∧ off = off' := by simpa using he
      have HN := hid_intro (HNO.out k (by have := HL.out; omega) (by omega))
      have HM := hid_intro (fun h => HR.out.more (k := k) h)
      rw [← hj] at HN HM
      generalize hs.getD k H.zero = X at *
      generalize hs.getD j H.zero = Y at *
      have HS0 : Hid (HSt w (some ⟨b, off, none⟩) len cap b (off + k * 2) (off + j * 2) X Y wr.drew) := hid_intro (HSt.below ⟨HB.out, xl, hbl, x0, x1, x2, c1, c2, d1, d2⟩ (Below.refl _ _).drew)
      obtain ⟨xh, xs⟩ := X
      obtain ⟨yh, ys⟩ := Y
      dsimp only at c1 c2 d1 d2
      clear hj
      by_cases hle : xh ≤ yh
      · have HF : Hid (R = false) := hid_intro (HN.out (by unfold hlt; exact decide_eq_false (by show ¬ yh < xh; omega)))
        go_wp2_with fail
        go_region_held3 (fun W => Below w.heap.size w W ∧ w.heap.size < W.heap.size ∧ b < W.heap.size ∧ W.cell? ⟨w.heap.size, 0, none⟩ = some (.slice (some ⟨b, off, none⟩) len cap) ∧ W.cell? ⟨w.heap.size, 1, none⟩ = some (.func (.func 90) #[] #[]) ∧ W.cell? ⟨w.heap.size, 2, none⟩ = some (.func (.func 91) #[] #[]) ∧ W.cell? ⟨b, off + k * 2, none⟩ = some (.int .i64 xh) ∧ W.cell? ⟨b, off + k * 2 + 1, none⟩ = some (.int .i64 xs) ∧ W.cell? ⟨b, off + j * 2, none⟩ = some (.int .i64 yh) ∧ W.cell? ⟨b, off + j * 2 + 1, none⟩ = some (.int .i64 ys)) (first | assumption | (exact HS0.out) | (exact HSt.below (x := ⟨xh, xs⟩) (y := ⟨yh, ys⟩) (by assumption) hb))
          (first | (go_at_call 90; refine (hkey _ _ _).mono ?_; rintro e w' ⟨rfl, hb⟩))
        rename_i hSz
        have HSz := hid_intro hSz.1
        clear hSz
        go_wp2_with fail
        go_ret
        exact ⟨ret_bool HF.out.symm, HSz.out⟩
      · have hle2 : yh < xh := by omega
        have HM2 := hid_intro (HM.out (fun _ => by unfold hlt; exact decide_eq_true (by show yh < xh; omega)))
        go_wp2_with fail
        go_region_held3 (fun W => Below w.heap.size w W ∧ w.heap.size < W.heap.size ∧ b < W.heap.size ∧ W.cell? ⟨w.heap.size, 0, none⟩ = some (.slice (some ⟨b, off, none⟩) len cap) ∧ W.cell? ⟨w.heap.size, 1, none⟩ = some (.func (.func 90) #[] #[]) ∧ W.cell? ⟨w.heap.size, 2, none⟩ = some (.func (.func 91) #[] #[]) ∧ W.cell? ⟨b, off + k * 2, none⟩ = some (.int .i64 xh) ∧ W.cell? ⟨b, off + k * 2 + 1, none⟩ = some (.int .i64 xs) ∧ W.cell? ⟨b, off + j * 2, none⟩ = some (.int .i64 yh) ∧ W.cell? ⟨b, off + j * 2 + 1, none⟩ = some (.int .i64 ys)) (first | assumption | (exact HS0.out) | (exact HSt.below (x := ⟨xh, xs⟩) (y := ⟨yh, ys⟩) (by assumption) hb))
          (first | (go_at_call 90; refine (hkey _ _ _).mono ?_; rintro e w' ⟨rfl, hb⟩))
        rename_i hSz
        have HSz := hid_intro hSz.1
        have HSy : Hid (Blk w.heap.size [.slice (some ⟨b, off, none⟩) len cap, .func (.func 90) #[] #[], .func (.func 91) #[] #[]] w') := hid_intro ⟨hSz.2.1, fun i hi => by
          match i, hi with
          | 0, _ => exact hSz.2.2.2.1
          | 1, _ => exact hSz.2.2.2.2.1
          | 2, _ => exact hSz.2.2.2.2.2.1⟩
        clear hSz
        go_wp2_with fail
        go_roundw
        case rel => exact ⟨k + 1, by omega, by omega, by go_num, HM2, HSz, HSy⟩
        case measure => simp [intOf]; omega
    · have hlt2 : ¬ (k : Int) < (len : Int) := by omega
      have HF : Hid (R = true) := hid_intro (HYES.out (fun i h1 h2 => HR.out i (by omega) h2))
      go_wp2_with fail
      go_ret
      exact ⟨ret_bool HF.out.symm, HB.out⟩
end WinR
end Go.Proofs.YtnlmpejgiakepaaDoor
namespace Go.Proofs.YtnlmpejgiakepaaDoor
open Go.ChangeShapes Go.WideShapes Go.ChangeAt Go.RowKit
set_option linter.unusedVariables false
namespace DateR
open DateM
theorem hid_intro {p : Prop} (h : p) : Hid p := h
theorem tmod_iff (y k : Int) : y.tmod k = 0 ↔ y % k = 0 := ⟨fun h => Int.emod_eq_zero_of_dvd (Int.dvd_of_tmod_eq_zero h), fun h => Int.tmod_eq_zero_of_dvd (Int.dvd_of_emod_eq_zero h)⟩
theorem leap_a (y : Int) (h1 : y.tmod 4 = 0) (h2 : y.tmod 100 = 0) : (y.tmod 400 == 0) = leapB y := by
  rw [tmod_iff] at h1 h2
  unfold leapB
  rw [Bool.eq_iff_iff, beq_iff_eq, decide_eq_true_eq, tmod_iff]
  omega
theorem leap_b (y : Int) (h1 : y.tmod 4 = 0) (h2 : ¬ y.tmod 100 = 0) : true = leapB y := by
  rw [tmod_iff] at h1 h2
  exact (decide_eq_true ⟨h1, .inl h2⟩).symm
theorem leap_c (y : Int) (h1 : ¬ y.tmod 4 = 0) : false = leapB y := by
  rw [tmod_iff] at h1
  exact (decide_eq_false fun h => h1 h.1).symm
theorem leap_d (y : Int) (h1 : ¬ y.tmod 4 = 0) : (y.tmod 400 == 0) = leapB y := by
  rw [tmod_iff] at h1
  unfold leapB
  rw [Bool.eq_iff_iff, beq_iff_eq, decide_eq_true_eq, tmod_iff]
  omega
theorem impl_leap (y : Int) (w : World) : Calls Tryd.prog 119 #[.int .i64 y] w fun e w' => e = .returned (.bool (leapB y)) ∧ w' = w := by
  go_enter Tryd.func119, Tryd.ntmps119
  go_wp2
  · go_ret
    exact ⟨ret_bool (leap_a y ‹_› ‹_›), rfl⟩
  · go_ret
    exact ⟨ret_bool (leap_b y ‹_› ‹_›), rfl⟩
  · go_ret
    exact ⟨ret_bool (leap_d y ‹_›), rfl⟩
theorem spec_leap (y : Int) (w : World) : Calls Tryd.prog 115 #[.int .i64 y] w fun e w' => e = .returned (.bool (leapB y)) ∧ w' = w := by
  go_enter Tryd.func115, Tryd.ntmps115
  go_wp2
  · go_ret
    exact ⟨ret_bool (leap_a y ‹_› ‹_›), rfl⟩
  · go_ret
    exact ⟨ret_bool (leap_b y ‹_› ‹_›), rfl⟩
  · go_ret
    exact ⟨ret_bool (leap_c y ‹_›), rfl⟩
/-- The day of the week. -/
def wd (d : Int) : Int := if 0 ≤ d ∧ d ≤ 100000 then (d + 3) % 7 else -1
end DateR
end Go.Proofs.YtnlmpejgiakepaaDoor
namespace Go.Proofs.YtnlmpejgiakepaaDoor
open Go.ChangeShapes Go.WideShapes Go.ChangeAt Go.RowKit
set_option linter.unusedVariables false
namespace DateR
open DateM
/-- The table of the months' days. -/
def tab : List Int := [31, 28, 31, 30, 31, 30, 31, 31, 30, 31, 30, 31]
/-- The variable holds the table. -/
def Laid (w : World) : Prop := 0 < w.heap.size ∧ ∀ k : Nat, k < 12 → w.cell? ⟨0, k, none⟩ = some (.int .i64 (tab.getD k 0))
theorem Laid.below {w w' : World} (h : Laid w) (hb : Below w.heap.size w w') : Laid w' :=
  ⟨by have := hb.size; have := h.1; omega, fun k hk => by rw [hb.cell (p := ⟨0, k, none⟩) h.1]; exact h.2 k hk⟩
theorem bel_drewN {B : Nat} {a w : World} (h : Below B a w) (n : Nat) : Below B a (w.drewN n) := ⟨h.os, h.tape, h.output, h.size, h.block⟩
theorem Laid.drewN {w : World} (h : Laid w) (n : Nat) : Laid (w.drewN n) := ⟨by simpa using h.1, fun k hk => by simpa using h.2 k hk⟩
theorem within_any (n low high : Int) (w : World) :
    Calls Tryd.prog 85 #[.int .i64 n, .int .i64 low, .int .i64 high] w fun e w' => e = .returned (.bool (decide (low ≤ n ∧ n ≤ high))) ∧ w' = w := by
  by_cases h1 : low ≤ n
  · go_enter Tryd.func85, Tryd.ntmps85
    go_wp2
    go_ret
    exact ⟨ret_bool (by simp [h1]), rfl⟩
  · go_enter Tryd.func85, Tryd.ntmps85
    go_wp2
    go_ret
    exact ⟨ret_bool (by rw [decide_eq_false (show ¬ low ≤ n by omega)]; rfl), rfl⟩
theorem tab_md (y : Int) (k : Nat) (h : k < 12) (h2 : k = 1 → leapB y = false) : tab.getD k 0 = md y ((k : Int) + 1) := by
  match k, h, h2 with
  | 0, _, _ => rfl
  | 1, _, h2 => unfold md; rw [h2 rfl]; rfl
  | 2, _, _ => rfl
  | 3, _, _ => rfl
  | 4, _, _ => rfl
  | 5, _, _ => rfl
  | 6, _, _ => rfl
  | 7, _, _ => rfl
  | 8, _, _ => rfl
  | 9, _, _ => rfl
  | 10, _, _ => rfl
  | 11, _, _ => rfl
theorem tab_name (w : World) (k : Nat) (hk : k < 12) (hL : Laid w) : ∃ X : Int, w.cell? ⟨0, k, none⟩ = some (.int .i64 X) ∧ Hid (X = tab.getD k 0) := ⟨_, hL.2 k hk, rfl⟩
theorem md_2 (y : Int) : md y 2 = if leapB y = true then 29 else 28 := rfl
theorem impl_md_in (y : Int) (k : Nat) (hk : k < 12) (y1 : 1970 ≤ y) (y2 : y ≤ 2200) (w : World) (hL : Laid w) :
    Calls Tryd.prog 120 #[.int .i64 y, .int .i64 ((k : Int) + 1)] w fun e w' => e = .returned (.int .i64 (md y ((k : Int) + 1))) ∧ w' = w := by
  obtain ⟨X, hc, HX⟩ := tab_name w k hk hL
  have h0 := hL.1
  have k1 : (1 : Int) ≤ (k : Int) + 1 := by omega
  have k2 : (k : Int) + 1 ≤ 12 := by omega
  have HK := hid_intro hk
  clear hL
  by_cases e : k = 1
  · subst e
    cases hl : leapB y
    · have hi := fun w => impl_leap y w
      rw [hl] at hi
      have HM : Hid (X = md y 2) := by
        show X = md y 2
        rw [HX.out, md_2, hl]; rfl
      clear hl
      go_enter Tryd.func120, Tryd.ntmps120
      go_wp2_with (first | (go_at_call 85; go_in) | (go_at_call 119; refine (hi _).mono ?_; rintro e w' ⟨rfl, rfl⟩))
      go_ret
      exact ⟨ret_int HM.out, rfl⟩
    · have hi := fun w => impl_leap y w
      rw [hl] at hi
      have HM : Hid (29 = md y 2) := by
        show 29 = md y 2
        rw [md_2, hl]; rfl
      clear hl
      go_enter Tryd.func120, Tryd.ntmps120
      go_wp2_with (first | (go_at_call 85; go_in) | (go_at_call 119; refine (hi _).mono ?_; rintro e w' ⟨rfl, rfl⟩))
      go_ret
      exact ⟨ret_int HM.out, rfl⟩
  · have ne : ¬ (k : Int) + 1 = 2 := by omega
    have nf : ((k : Int) + 1 == 2) = false := by simpa using ne
    have HM := hid_intro (HX.out.trans (tab_md y k hk fun h => absurd h e))
    clear e hk
    go_enter Tryd.func120, Tryd.ntmps120
    go_wp2_with (first | (go_at_call 85; go_in) | (go_at_call 119; refine (impl_leap y _).mono ?_; rintro e w' ⟨rfl, rfl⟩))
    go_ret
    exact ⟨ret_int HM.out, rfl⟩
theorem md_key (y m : Int) (h : ¬ (1970 ≤ y ∧ y ≤ 2200 ∧ 1 ≤ m ∧ m ≤ 12)) : (¬ 1970 ≤ y) ∨ (1970 ≤ y ∧ ¬ y ≤ 2200) ∨ (1970 ≤ y ∧ y ≤ 2200 ∧ ((¬ 1 ≤ m) ∨ (1 ≤ m ∧ ¬ m ≤ 12))) := by omega
theorem impl_md_out (y m : Int) (h : ¬ (1970 ≤ y ∧ y ≤ 2200 ∧ 1 ≤ m ∧ m ≤ 12)) (w : World) :
    Calls Tryd.prog 120 #[.int .i64 y, .int .i64 m] w fun e w' => e = .returned (.int .i64 0) ∧ w' = w := by
  rcases md_key y m h with h1 | ⟨h1, h2⟩ | ⟨h1, h2, h3 | ⟨h3, h4⟩⟩
  all_goals
    clear h
    go_enter Tryd.func120, Tryd.ntmps120
    go_wp2
    go_ret
    exact ⟨rfl, rfl⟩
theorem impl_md (y m : Int) (w : World) (hL : Laid w) :
    Calls Tryd.prog 120 #[.int .i64 y, .int .i64 m] w fun e w' => e = .returned (.int .i64 (mdays y m)) ∧ w' = w := by
  unfold mdays
  by_cases h : 1970 ≤ y ∧ y ≤ 2200 ∧ 1 ≤ m ∧ m ≤ 12
  · rw [if_pos h]
    obtain ⟨k, rfl⟩ : ∃ k : Nat, m = (k : Int) + 1 := ⟨(m - 1).toNat, by omega⟩
    exact impl_md_in y k (by omega) h.1 h.2.1 w hL
  · rw [if_neg h]
    exact impl_md_out y m h w
theorem tab_at (k : Nat) (h : k < 12) : ([Value.int IntKind.i64 31, Value.int IntKind.i64 28, Value.int IntKind.i64 31, Value.int IntKind.i64 30, Value.int IntKind.i64 31, Value.int IntKind.i64 30, Value.int IntKind.i64 31, Value.int IntKind.i64 31, Value.int IntKind.i64 30, Value.int IntKind.i64 31, Value.int IntKind.i64 30, Value.int IntKind.i64 31] : List Value)[k] = .int .i64 (tab.getD k 0) := by
  match k, h with
  | 0, _ => rfl
  | 1, _ => rfl
  | 2, _ => rfl
  | 3, _ => rfl
  | 4, _ => rfl
  | 5, _ => rfl
  | 6, _ => rfl
  | 7, _ => rfl
  | 8, _ => rfl
  | 9, _ => rfl
  | 10, _ => rfl
  | 11, _ => rfl
theorem spec_md_in (y : Int) (k : Nat) (hk : k < 12) (y1 : 1970 ≤ y) (y2 : y ≤ 2200) (w : World) :
    Calls Tryd.prog 99 #[.int .i64 y, .int .i64 ((k : Int) + 1)] w fun e w' => e = .returned (.int .i64 (md y ((k : Int) + 1))) ∧ Below w.heap.size w w' := by
  have k1 : (1 : Int) ≤ (k : Int) + 1 := by omega
  have k2 : (k : Int) + 1 ≤ 12 := by omega
  by_cases e : k = 1
  · subst e
    cases hl : leapB y
    · have hi := fun w => spec_leap y w
      rw [hl] at hi
      have HM : Hid (28 = md y 2) := by
        show 28 = md y 2
        rw [md_2, hl]; rfl
      clear hl
      go_enter Tryd.func99, Tryd.ntmps99
      go_wp2_with (first | (go_at_call 98; go_in) | (go_at_call 43; go_in) | (go_at_call 115; refine (hi _).mono ?_; rintro e w' ⟨rfl, rfl⟩))
      go_ret
      exact ⟨ret_int HM.out, (Below.refl _ _).alloc (Nat.le_refl _) _⟩
    · have hi := fun w => spec_leap y w
      rw [hl] at hi
      have HM : Hid (29 = md y 2) := by
        show 29 = md y 2
        rw [md_2, hl]; rfl
      clear hl
      go_enter Tryd.func99, Tryd.ntmps99
      go_wp2_with (first | (go_at_call 98; go_in) | (go_at_call 43; go_in) | (go_at_call 115; refine (hi _).mono ?_; rintro e w' ⟨rfl, rfl⟩))
      go_ret
      exact ⟨ret_int HM.out, Below.refl _ _⟩
  · have ne : ¬ (k : Int) + 1 = 2 := by omega
    have nf : ((k : Int) + 1 == 2) = false := by simpa using ne
    have HM := hid_intro (tab_md y k hk fun h => absurd h e)
    have HK := hid_intro hk
    clear e
    go_enter Tryd.func99, Tryd.ntmps99
    go_wp2_with (first | (go_at_call 98; go_in) | (go_at_call 43; go_in) | (go_at_call 115; refine (spec_leap y _).mono ?_; rintro e w' ⟨rfl, rfl⟩))
    go_ret
    exact ⟨(congrArg Ending.returned (tab_at k HK.out)).trans (ret_int HM.out), (Below.refl _ _).alloc (Nat.le_refl _) _⟩
theorem spec_md_out (y m : Int) (h : ¬ (1970 ≤ y ∧ y ≤ 2200 ∧ 1 ≤ m ∧ m ≤ 12)) (w : World) :
    Calls Tryd.prog 99 #[.int .i64 y, .int .i64 m] w fun e w' => e = .returned (.int .i64 0) ∧ w' = w := by
  rcases md_key y m h with h1 | ⟨h1, h2⟩ | ⟨h1, h2, h3 | ⟨h3, h4⟩⟩
  all_goals
    clear h
    go_enter Tryd.func99, Tryd.ntmps99
    go_wp2
    go_ret
    exact ⟨rfl, rfl⟩
theorem spec_md (y m : Int) (w : World) :
    Calls Tryd.prog 99 #[.int .i64 y, .int .i64 m] w fun e w' => e = .returned (.int .i64 (mdays y m)) ∧ Below w.heap.size w w' := by
  unfold mdays
  by_cases h : 1970 ≤ y ∧ y ≤ 2200 ∧ 1 ≤ m ∧ m ≤ 12
  · rw [if_pos h]
    obtain ⟨k, rfl⟩ : ∃ k : Nat, m = (k : Int) + 1 := ⟨(m - 1).toNat, by omega⟩
    exact spec_md_in y k (by omega) h.1 h.2.1 w
  · rw [if_neg h]
    exact (spec_md_out y m h w).mono fun e w' ⟨h1, h2⟩ => ⟨h1, h2 ▸ Below.refl _ _⟩
/-- A date as the program has it. -/
def date (y m d : Int) : Value := .agg #[.int .i64 y, .int .i64 m, .int .i64 d]
end DateR
end Go.Proofs.YtnlmpejgiakepaaDoor
namespace Go.Proofs.YtnlmpejgiakepaaDoor
open Go.ChangeShapes Go.WideShapes Go.ChangeAt Go.RowKit
set_option linter.unusedVariables false
namespace DateR
open DateM
theorem is_any (n low high : Int) (w : World) :
    Calls Tryd.prog 43 #[.int .i64 n, .int .i64 low, .int .i64 high] w fun e w' => e = .returned (.bool (decide (low ≤ n ∧ n ≤ high))) ∧ w' = w := by
  by_cases h1 : low ≤ n
  · go_enter Tryd.func43, Tryd.ntmps43
    go_wp2
    go_ret
    exact ⟨ret_bool (by simp [h1]), rfl⟩
  · go_enter Tryd.func43, Tryd.ntmps43
    go_wp2
    go_ret
    exact ⟨ret_bool (by rw [decide_eq_false (show ¬ low ≤ n by omega)]; rfl), rfl⟩
theorem year_any (n : Int) (w : World) :
    Calls Tryd.prog 98 #[.int .i64 n] w fun e w' => e = .returned (.bool (decide (1970 ≤ n ∧ n ≤ 2200))) ∧ w' = w := by
  go_enter Tryd.func98, Tryd.ntmps98
  go_wp2_with (go_at_call 43; refine (is_any _ _ _ _).mono ?_; rintro e w' ⟨rfl, rfl⟩)
  go_ret
  exact ⟨ret_bool (by simp), rfl⟩
end DateR
end Go.Proofs.YtnlmpejgiakepaaDoor
namespace Go.Proofs.YtnlmpejgiakepaaDoor
open Go.ChangeShapes Go.WideShapes Go.ChangeAt Go.RowKit
set_option linter.unusedVariables false
namespace DateR
open DateM
theorem impl_yd (y : Int) (w : World) : Calls Tryd.prog 110 #[.int .i64 y] w fun e w' => e = .returned (.int .i64 (yd y)) ∧ w' = w := by
  have hi := fun w => impl_leap y w
  unfold yd
  cases hl : leapB y
  all_goals
    rw [hl] at hi
    clear hl
    go_enter Tryd.func110, Tryd.ntmps110
    go_wp2_with (go_at_call 119; refine (hi _).mono ?_; rintro e w' ⟨rfl, rfl⟩)
    go_ret
    exact ⟨rfl, rfl⟩
theorem spec_yd (y : Int) (w : World) : Calls Tryd.prog 97 #[.int .i64 y] w fun e w' => e = .returned (.int .i64 (yd y)) ∧ w' = w := by
  have hi := fun w => spec_leap y w
  unfold yd
  cases hl : leapB y
  all_goals
    rw [hl] at hi
    clear hl
    go_enter Tryd.func97, Tryd.ntmps97
    go_wp2_with (go_at_call 115; refine (hi _).mono ?_; rintro e w' ⟨rfl, rfl⟩)
    go_ret
    exact ⟨rfl, rfl⟩
theorem add_year (D : Int) (k : Nat) (h1 : 0 ≤ D) (h2 : D ≤ 30) (hk : k ≤ 230) : wrap64 (D + ys k + yd (1970 + (k : Int))) = D + ys (k + 1) := by
  have a := ys_bd k
  have b := yd_bd (1970 + (k : Int))
  rw [ys_succ]
  unfold wrap64
  omega
theorem add_month (E y : Int) (k : Nat) (h1 : 0 ≤ E) (h2 : E ≤ 90000) (hk : k < 12) (y1 : 1970 ≤ y) (y2 : y ≤ 2200) : wrap64 (E + ms y k + mdays y ((k : Int) + 1)) = E + ms y (k + 1) := by
  have a := ms_bd y k
  have b := md_bd y ((k : Int) + 1)
  have c : mdays y ((k : Int) + 1) = md y ((k : Int) + 1) := if_pos (by omega)
  rw [c, ms_succ]
  unfold wrap64
  omega
theorem day_parts (y m d : Int) (h : rightB y m d = true) : ∃ K M : Nat, K ≤ 230 ∧ M ≤ 11 ∧ y - 1970 = (K : Int) ∧ m - 1 = (M : Int) ∧ 1 ≤ d ∧ d ≤ 31 ∧ Hid (num y m d = d - 1 + ys K + ms y M) ∧ 1970 ≤ y ∧ y ≤ 2200 ∧ 1 ≤ m ∧ m ≤ 12 := by
  obtain ⟨y1, y2, m1, m2, d1, d2⟩ := (right_iff y m d).1 h
  have b := md_bd y m
  refine ⟨(y - 1970).toNat, (m - 1).toNat, by omega, by omega, by omega, by omega, d1, by omega, rfl, y1, y2, m1, m2⟩
end DateR
end Go.Proofs.YtnlmpejgiakepaaDoor
namespace Go.Proofs.YtnlmpejgiakepaaDoor
open Go.ChangeShapes Go.WideShapes Go.ChangeAt Go.RowKit
set_option linter.unusedVariables false
namespace DateR
open DateM
theorem less_month (y left : Int) (j J : Nat) (h1 : ms y J ≤ left) (h2 : left < ms y (J + 1)) (hj : j ≤ J) (hJ : J < 12) (y1 : 1970 ≤ y) (y2 : y ≤ 2200) :
    ∃ L X : Int, L = left - ms y j ∧ X = mdays y ((j : Int) + 1) ∧ 0 ≤ L ∧ L ≤ 400 ∧ 28 ≤ X ∧ X ≤ 31 ∧ (j < J → ¬ L < X) ∧ (j = J → L < X) ∧ L - X = left - ms y (j + 1) := by
  have a := ms_mono y hj
  have b := ms_bd y (J + 1)
  have b2 := ms_bd y j
  have c : mdays y ((j : Int) + 1) = md y ((j : Int) + 1) := if_pos (by omega)
  have d := md_bd y ((j : Int) + 1)
  have e := ms_succ y j
  refine ⟨_, _, rfl, rfl, by omega, by omega, by omega, by omega, fun h => ?_, fun h => ?_, by omega⟩
  · have := ms_mono y (show j + 1 ≤ J from h)
    omega
  · subst h; omega
set_option maxRecDepth 100000 in
set_option maxHeartbeats 4000000 in
theorem iny (y left : Int) (J : Nat) (h1 : ms y J ≤ left) (h2 : left < ms y (J + 1)) (hJ : J < 12) (y1 : 1970 ≤ y) (y2 : y ≤ 2200) (w : World) (hL : Laid w) :
    Calls Tryd.prog 111 #[.int .i64 y, .int .i64 left] w fun e w' => e = .returned (date y ((J : Int) + 1) (left - ms y J + 1)) ∧ Below w.heap.size w w' := by
  have HB0 := hid_intro ((Below.refl w.heap.size w).alloc (Nat.le_refl _) (Obj.cells #[.int .i64 0, .int .i64 0, .int .i64 0] 112))
  have HL := hid_intro (hL.below HB0.out)
  have H := fun j hj => less_month y left j J h1 h2 hj hJ y1 y2
  have HH := hid_intro H
  clear H hL h1 h2
  go_enter Tryd.func111, Tryd.ntmps111
  go_wp2_with fail
  go_loop [1, 7] (fun x z => ∃ j : Nat, j ≤ J ∧ z = .int .i64 j ∧ x = .int .i64 (left - ms y j)) (fun _ z => J + 1 - (intOf z).toNat)
  case atStart => exact ⟨0, by omega, rfl, by simp [ms]⟩
  case round =>
    obtain ⟨j, hj, rfl, rfl⟩ := hrel
    obtain ⟨L, X, hLe, hX, l0, l1, x0, x1, f1, f2, f3⟩ := HH.out j hj
    have HI := hid_intro (impl_md y ((j : Int) + 1) _ HL.out)
    rw [← hX] at HI
    rw [← hLe]
    have HF := hid_intro f3
    have j2 : (j : Int) < 12 := by omega
    have HLe := hid_intro hLe
    clear hLe hX f3
    by_cases hlt : j < J
    · have hn := f1 hlt
      clear f1 f2
      go_wp2_with (go_at_call 120; refine HI.out.mono ?_; rintro e w' ⟨rfl, rfl⟩)
      go_round
      case rel => exact ⟨j + 1, by omega, by go_num, by rw [HF.out]⟩
      case measure => simp [intOf]; omega
    · obtain rfl : j = J := by omega
      have hn := f2 rfl
      clear f1 f2
      go_wp2_with (go_at_call 120; refine HI.out.mono ?_; rintro e w' ⟨rfl, rfl⟩)
      rw [← HLe.out]
      refine bodyPost_ret (v := date y ((j : Int) + 1) (L + 1)) (by simp [date, results, Tryd.results111, go_sem]) rfl ⟨rfl, ?_⟩
      repeat' first | exact HB0.out | apply Below.setCell
      all_goals first | exact Nat.le_refl _ | exact (Below.refl _ _).alloc (Nat.le_refl _) _
theorem less_year (day : Int) (j K : Nat) (h1 : ys K ≤ day) (h2 : day < ys (K + 1)) (hj : j ≤ K) (hd : day ≤ 100000) :
    ∃ L X : Int, L = day - ys j ∧ X = yd (1970 + (j : Int)) ∧ 0 ≤ L ∧ L ≤ 100000 ∧ 365 ≤ X ∧ X ≤ 366 ∧ (j < K → ¬ L < X) ∧ (j = K → L < X) ∧ L - X = day - ys (j + 1) := by
  have a := ys_mono hj
  have b2 := ys_bd j
  have d := yd_bd (1970 + (j : Int))
  have e := ys_succ j
  refine ⟨_, _, rfl, rfl, by omega, by omega, by omega, by omega, fun h => ?_, fun h => ?_, by omega⟩
  · have := ys_mono (show j + 1 ≤ K from h)
    omega
  · subst h; omega
set_option maxRecDepth 100000 in
set_option maxHeartbeats 4000000 in
theorem impl_dateof_in (day : Int) (K J : Nat) (d0 : 0 ≤ day) (d1 : day ≤ 100000) (h1 : ys K ≤ day) (h2 : day < ys (K + 1)) (hK : K ≤ 230) (m1 : ms (1970 + (K : Int)) J ≤ day - ys K) (m2 : day - ys K < ms (1970 + (K : Int)) (J + 1)) (hJ : J < 12) (w : World) (hL : Laid w) :
    Calls Tryd.prog 87 #[.int .i64 day] w fun e w' => e = .returned (date (1970 + (K : Int)) ((J : Int) + 1) (day - ys K - ms (1970 + (K : Int)) J + 1)) ∧ Below w.heap.size w w' := by
  have HB0 := hid_intro ((Below.refl w.heap.size w).alloc (Nat.le_refl _) (Obj.cells #[.int .i64 0, .int .i64 0, .int .i64 0] 112))
  have HL := hid_intro (hL.below HB0.out)
  have HH := hid_intro (fun j hj => less_year day j K h1 h2 hj d1)
  have HY := hid_intro (fun w hL => iny (1970 + (K : Int)) (day - ys K) J m1 m2 hJ (by omega) (by omega) w hL)
  clear hL h1 h2 m1 m2
  go_enter Tryd.func87, Tryd.ntmps87
  go_wp2_with (first | (go_at_call 109; go_in) | (go_at_call 85; go_in))
  go_loop [3, 11] (fun x z => ∃ j : Nat, j ≤ K ∧ z = .int .i64 j ∧ x = .int .i64 (day - ys j)) (fun _ z => K + 1 - (intOf z).toNat)
  case atStart => exact ⟨0, by omega, rfl, by simp [ys]⟩
  case round =>
    obtain ⟨j, hj, rfl, rfl⟩ := hrel
    obtain ⟨L, X, hLe, hX, l0, l1, x0, x1, f1, f2, f3⟩ := HH.out j hj
    have HI := hid_intro (fun w => impl_yd (1970 + (j : Int)) w)
    rw [← hX] at HI
    rw [← hLe]
    have HF := hid_intro f3
    have j2 : (j : Int) < 231 := by omega
    have HLe := hid_intro hLe
    clear hLe hX f3
    by_cases hlt : j < K
    · have hn := f1 hlt
      clear f1 f2
      go_wp2_with (go_at_call 110; refine (HI.out _).mono ?_; rintro e w' ⟨rfl, rfl⟩)
      go_round
      case rel => exact ⟨j + 1, by omega, by go_num, by rw [HF.out]⟩
      case measure => simp [intOf]; omega
    · obtain rfl : j = K := by omega
      have hn := f2 rfl
      rw [← HLe.out] at HY
      obtain ⟨D, hD⟩ : ∃ D, D = L - ms (1970 + (j : Int)) J + 1 := ⟨_, rfl⟩
      rw [← hD] at HY
      have HD := hid_intro hD
      clear f1 f2 hD HH
      unfold date at *
      go_wp2_with (first | (go_at_call 110; refine (HI.out _).mono ?_; rintro e w' ⟨rfl, rfl⟩) | (go_at_call 111; refine (HY.out _ HL.out).mono ?_; rintro e w2 ⟨rfl, hb⟩; obtain ⟨hc, hz⟩ := bcell hb))
      refine bodyPost_ret (v := date (1970 + (j : Int)) ((J : Int) + 1) D) (by simp [date, results, Tryd.results87, go_sem, hc]) rfl ⟨by rw [HD.out, HLe.out], ?_⟩
      exact (((bel_alloc hb).setCell (by simp) _).setCell (by simp) _).setCell (by simp) _
theorem past_year (day : Int) (j K : Nat) (h1 : ys K ≤ day) (hK : 231 ≤ K) (hj : j ≤ 231) (hd : day ≤ 100000) (d0 : 0 ≤ day) :
    ∃ L X : Int, L = day - ys j ∧ X = yd (1970 + (j : Int)) ∧ 0 ≤ L ∧ L ≤ 100000 ∧ 365 ≤ X ∧ X ≤ 366 ∧ (j < 231 → ¬ L < X) ∧ L - X = day - ys (j + 1) := by
  have a := ys_mono (show j ≤ K by omega)
  have b2 := ys_bd j
  have d := yd_bd (1970 + (j : Int))
  have e := ys_succ j
  refine ⟨_, _, rfl, rfl, by omega, by omega, by omega, by omega, fun h => ?_, by omega⟩
  have := ys_mono (show j + 1 ≤ K by omega)
  omega
set_option maxRecDepth 100000 in
set_option maxHeartbeats 4000000 in
theorem impl_dateof_past (day : Int) (K : Nat) (d0 : 0 ≤ day) (d1 : day ≤ 100000) (h1 : ys K ≤ day) (hK : 231 ≤ K) (w : World) :
    Calls Tryd.prog 87 #[.int .i64 day] w fun e w' => e = .returned (date 0 0 0) ∧ Below w.heap.size w w' := by
  have HB0 := hid_intro ((Below.refl w.heap.size w).alloc (Nat.le_refl _) (Obj.cells #[.int .i64 0, .int .i64 0, .int .i64 0] 112))
  have HH := hid_intro (fun j hj => past_year day j K h1 hK hj d1 d0)
  clear h1 hK
  go_enter Tryd.func87, Tryd.ntmps87
  go_wp2_with (first | (go_at_call 109; go_in) | (go_at_call 85; go_in))
  go_loop [3, 11] (fun x z => ∃ j : Nat, j ≤ 231 ∧ z = .int .i64 j ∧ x = .int .i64 (day - ys j)) (fun _ z => 232 - (intOf z).toNat)
  case atStart => exact ⟨0, by omega, rfl, by simp [ys]⟩
  case round =>
    obtain ⟨j, hj, rfl, rfl⟩ := hrel
    obtain ⟨L, X, hLe, hX, l0, l1, x0, x1, f1, f3⟩ := HH.out j hj
    have HI := hid_intro (fun w => impl_yd (1970 + (j : Int)) w)
    rw [← hX] at HI
    rw [← hLe]
    have HF := hid_intro f3
    clear hLe hX f3
    by_cases hlt : j < 231
    · have hn := f1 hlt
      have j2 : (j : Int) < 231 := by omega
      clear f1
      go_wp2_with (go_at_call 110; refine (HI.out _).mono ?_; rintro e w' ⟨rfl, rfl⟩)
      go_round
      case rel => exact ⟨j + 1, by omega, by go_num, by rw [HF.out]⟩
      case measure => simp [intOf]; omega
    · have j2 : ¬ (j : Int) < 231 := by omega
      clear f1
      go_wp2_with fail
      refine bodyPost_ret (v := date 0 0 0) (by simp [date, results, Tryd.results87, go_sem]) rfl ⟨rfl, ?_⟩
      repeat' first | exact HB0.out | apply Below.setCell
      all_goals first | exact Nat.le_refl _ | exact (Below.refl _ _).alloc (Nat.le_refl _) _
theorem impl_dateof_none (day : Int) (h : day < 0 ∨ 100000 < day) (w : World) :
    Calls Tryd.prog 87 #[.int .i64 day] w fun e w' => e = .returned (date 0 0 0) ∧ Below w.heap.size w w' := by
  have key : (¬ 0 ≤ day) ∨ (0 ≤ day ∧ ¬ day ≤ 100000) := by omega
  clear h
  rcases key with h1 | ⟨h1, h2⟩
  all_goals
    go_enter Tryd.func87, Tryd.ntmps87
    go_wp2
    refine bodyPost_ret (v := date 0 0 0) (by simp [date, results, Tryd.results87, go_sem]) rfl ⟨rfl, ?_⟩
    repeat' first | exact Below.refl _ _ | apply Below.setCell | apply Below.alloc
    all_goals first | omega | (simp; done) | (simp; omega)
end DateR
end Go.Proofs.YtnlmpejgiakepaaDoor
namespace Go.Proofs.YtnlmpejgiakepaaDoor
open Go.ChangeShapes Go.WideShapes Go.ChangeAt Go.RowKit
set_option linter.unusedVariables false
namespace DateR
open DateM
/-- The model's two blocks: what is handed back, and the date that is reckoned. -/
structure Two (w wr : World) (y m : Int) : Prop where
  bel : Below w.heap.size w wr
  lt : w.heap.size + 1 < wr.heap.size
  r0 : wr.cell? ⟨w.heap.size, 0, none⟩ = some (.int .i64 0)
  r1 : wr.cell? ⟨w.heap.size, 1, none⟩ = some (.int .i64 0)
  r2 : wr.cell? ⟨w.heap.size, 2, none⟩ = some (.int .i64 0)
  c0 : wr.cell? ⟨w.heap.size + 1, 0, none⟩ = some (.int .i64 y)
  c1 : wr.cell? ⟨w.heap.size + 1, 1, none⟩ = some (.int .i64 m)
  c2 : wr.cell? ⟨w.heap.size + 1, 2, none⟩ = some (.int .i64 0)
  f0 : wr.frozen? ⟨w.heap.size, 0, none⟩ = false
  f1 : wr.frozen? ⟨w.heap.size, 1, none⟩ = false
  f2 : wr.frozen? ⟨w.heap.size, 2, none⟩ = false
  g0 : wr.frozen? ⟨w.heap.size + 1, 0, none⟩ = false
  g1 : wr.frozen? ⟨w.heap.size + 1, 1, none⟩ = false
  g2 : wr.frozen? ⟨w.heap.size + 1, 2, none⟩ = false
theorem Two.start (w : World) : Two w ((w.alloc (Obj.cells #[.int .i64 0, .int .i64 0, .int .i64 0] 112)).alloc (Obj.cells #[.int .i64 1970, .int .i64 1, .int .i64 0] 112)) 1970 1 where
  bel := ((Below.refl _ _).alloc (Nat.le_refl _) _).alloc (by simp) _
  lt := by simp
  r0 := by simp [go_sem]
  r1 := by simp [go_sem]
  r2 := by simp [go_sem]
  c0 := by simp [go_sem]
  c1 := by simp [go_sem]
  c2 := by simp [go_sem]
  f0 := by simp [go_sem]
  f1 := by simp [go_sem]
  f2 := by simp [go_sem]
  g0 := by simp [go_sem]
  g1 := by simp [go_sem]
  g2 := by simp [go_sem]
theorem Two.below {w w1 w2 : World} {y m : Int} (h : Two w w1 y m) (hb : Below w1.heap.size w1 w2) : Two w w2 y m where
  bel := h.bel.trans (hb.mono h.bel.size)
  lt := by have := hb.size; have := h.lt; omega
  r0 := (hb.cell (p := ⟨w.heap.size, 0, none⟩) (by have := h.lt; simp only; omega)).trans h.r0
  r1 := (hb.cell (p := ⟨w.heap.size, 1, none⟩) (by have := h.lt; simp only; omega)).trans h.r1
  r2 := (hb.cell (p := ⟨w.heap.size, 2, none⟩) (by have := h.lt; simp only; omega)).trans h.r2
  c0 := (hb.cell (p := ⟨w.heap.size + 1, 0, none⟩) h.lt).trans h.c0
  c1 := (hb.cell (p := ⟨w.heap.size + 1, 1, none⟩) h.lt).trans h.c1
  c2 := (hb.cell (p := ⟨w.heap.size + 1, 2, none⟩) h.lt).trans h.c2
  f0 := (hb.frozen (p := ⟨w.heap.size, 0, none⟩) (by have := h.lt; simp only; omega)).trans h.f0
  f1 := (hb.frozen (p := ⟨w.heap.size, 1, none⟩) (by have := h.lt; simp only; omega)).trans h.f1
  f2 := (hb.frozen (p := ⟨w.heap.size, 2, none⟩) (by have := h.lt; simp only; omega)).trans h.f2
  g0 := (hb.frozen (p := ⟨w.heap.size + 1, 0, none⟩) h.lt).trans h.g0
  g1 := (hb.frozen (p := ⟨w.heap.size + 1, 1, none⟩) h.lt).trans h.g1
  g2 := (hb.frozen (p := ⟨w.heap.size + 1, 2, none⟩) h.lt).trans h.g2
theorem Two.year {w wr : World} {y m : Int} (h : Two w wr y m) (v : Int) : Two w (wr.setCell ⟨w.heap.size + 1, 0, none⟩ (.int .i64 v)) v m where
  bel := h.bel.setCell (by simp) _
  lt := by have := h.lt; simpa using this
  r0 := by simp [go_sem, h.r0]
  r1 := by simp [go_sem, h.r1]
  r2 := by simp [go_sem, h.r2]
  c0 := by simp [go_sem, h.c0]
  c1 := by simp [go_sem, h.c1]
  c2 := by simp [go_sem, h.c2]
  f0 := by simp [go_sem, h.f0]
  f1 := by simp [go_sem, h.f1]
  f2 := by simp [go_sem, h.f2]
  g0 := by simp [go_sem, h.g0]
  g1 := by simp [go_sem, h.g1]
  g2 := by simp [go_sem, h.g2]
theorem Two.month {w wr : World} {y m : Int} (h : Two w wr y m) (v : Int) : Two w (wr.setCell ⟨w.heap.size + 1, 1, none⟩ (.int .i64 v)) y v where
  bel := h.bel.setCell (by simp) _
  lt := by have := h.lt; simpa using this
  r0 := by simp [go_sem, h.r0]
  r1 := by simp [go_sem, h.r1]
  r2 := by simp [go_sem, h.r2]
  c0 := by simp [go_sem, h.c0]
  c1 := by simp [go_sem, h.c1]
  c2 := by simp [go_sem, h.c2]
  f0 := by simp [go_sem, h.f0]
  f1 := by simp [go_sem, h.f1]
  f2 := by simp [go_sem, h.f2]
  g0 := by simp [go_sem, h.g0]
  g1 := by simp [go_sem, h.g1]
  g2 := by simp [go_sem, h.g2]
/-- What the model hands back of a day. -/
def outOf (day : Int) (K J : Nat) : Value := if K ≤ 230 then date (1970 + (K : Int)) ((J : Int) + 1) (day - ys K - ms (1970 + (K : Int)) J + 1) else date 0 0 0
set_option maxRecDepth 100000 in
set_option maxHeartbeats 4000000 in
theorem spec_dateof_in (day : Int) (K J : Nat) (d0 : 0 ≤ day) (d1 : day ≤ 100000) (h1 : ys K ≤ day) (h2 : day < ys (K + 1)) (hm1 : ms (1970 + (K : Int)) J ≤ day - ys K) (hm2 : day - ys K < ms (1970 + (K : Int)) (J + 1)) (hJ : J < 12) (w : World) :
    Calls Tryd.prog 72 #[.int .i64 day] w fun e w' => e = .returned (outOf day K J) ∧ Below w.heap.size w w' := by
  have HH := hid_intro (fun j hj => less_year day j K h1 h2 hj d1)
  have hK : K ≤ 300 := by have := ys_bd K; omega
  have HM : Hid (K ≤ 230 → ∀ j, j ≤ J → _) := hid_intro (fun hK j hj => less_month (1970 + (K : Int)) (day - ys K) j J hm1 hm2 hj hJ (by omega) (by omega))
  clear h1 h2 hm1 hm2
  have hT := Two.start w
  obtain ⟨W, hW⟩ : ∃ W, W = (w.alloc (Obj.cells #[.int .i64 0, .int .i64 0, .int .i64 0] 112)).alloc (Obj.cells #[.int .i64 1970, .int .i64 1, .int .i64 0] 112) := ⟨_, rfl⟩
  rw [← hW] at hT
  have HT := hid_intro hT
  have HW := hid_intro hW
  clear hT hW
  go_enter Tryd.func72, Tryd.ntmps72
  go_wp2_with (first | (go_at_call 96; go_in) | (go_at_call 43; go_in))
  rw [← HW.out]
  go_loopw [0] (fun x wr => ∃ j : Nat, j ≤ K ∧ x = .int .i64 (day - ys j) ∧ Hid (Two w wr (1970 + (j : Int)) 1)) (fun x _ => (intOf x).toNat)
  case atStart => exact ⟨0, by omega, by simp [ys], HT⟩
  case round =>
    obtain ⟨j, hj, rfl, HR⟩ := hrel
    obtain ⟨L, X, hLe, hX, l0, l1, x0, x1, f1, f2, f3⟩ := HH.out j hj
    have hc0 := HR.out.c0
    have hg0 := HR.out.g0
    have HI := hid_intro (fun w => spec_yd (1970 + (j : Int)) w)
    rw [← hX] at HI
    rw [← hLe]
    have HF := hid_intro f3
    have HLe := hid_intro hLe
    have j2 : (j : Int) ≤ 300 := by omega
    clear hLe hX f3
    by_cases hlt : j < K
    · have hn := f1 hlt
      have hn2 : X ≤ L := by omega
      clear f1 f2
      go_wp2_with (go_at_call 97; refine (HI.out _).mono ?_; rintro e w' ⟨rfl, rfl⟩)
      go_roundw
      case rel => exact ⟨j + 1, by omega, by rw [HF.out], hid_intro (by have := HR.out.year (1970 + (j : Int) + 1); rw [show (1970 + ((j + 1 : Nat) : Int)) = 1970 + (j : Int) + 1 by omega]; exact this)⟩
      case measure => simp [intOf]; omega
    · obtain rfl : j = K := by omega
      have hn := f2 rfl
      have hn2 : ¬ X ≤ L := by omega
      clear f1 f2
      by_cases hp : j ≤ 230
      · have q1 : (1970 : Int) ≤ 1970 + (j : Int) := by omega
        have q2 : (1970 : Int) + (j : Int) ≤ 2200 := by omega
        go_wp2_with (first | (go_at_call 97; refine (HI.out _).mono ?_; rintro e w' ⟨rfl, rfl⟩) | (go_at_call 98; refine (year_any _ _).mono ?_; rintro e w' ⟨rfl, rfl⟩))
        have HMJ := hid_intro (HM.out hp)
        rw [← HLe.out] at HMJ
        have HO : Hid (date (1970 + (j : Int)) ((J : Int) + 1) (L - ms (1970 + (j : Int)) J + 1) = outOf day j J) := hid_intro (by rw [HLe.out]; exact (if_pos hp).symm)
        clear HM HLe HF HH hn hn2 hc0 hg0
        go_loopw [0] (fun x wr => ∃ i : Nat, i ≤ J ∧ x = .int .i64 (L - ms (1970 + (j : Int)) i) ∧ Hid (Two w wr (1970 + (j : Int)) ((i : Int) + 1))) (fun x _ => (intOf x).toNat)
        case atStart => exact ⟨0, by omega, by simp [ms], HR⟩
        case round =>
          obtain ⟨i, hi, rfl, HR2⟩ := hrel
          obtain ⟨Z, Y, hZe, hY, z0, z1, y0, y1, f1, f2, f3⟩ := HMJ.out i hi
          have hc0 := HR2.out.c0
          have hc1 := HR2.out.c1
          have hg1 := HR2.out.g1
          have HMD := hid_intro (fun w => spec_md (1970 + (j : Int)) ((i : Int) + 1) w)
          rw [← hY] at HMD
          rw [← hZe]
          have HF := hid_intro f3
          have HZe := hid_intro hZe
          have i2 : (i : Int) < 12 := by omega
          clear hZe hY f3
          by_cases hlt2 : i < J
          · have hn := f1 hlt2
            have hn2 : Y ≤ Z := by omega
            have i3 : (i : Int) + 1 < 12 := by omega
            clear f1 f2
            go_wp2_with fail
            refine (HMD.out _).mono ?_
            rintro e w2 ⟨rfl, hb2⟩
            have HR3 := hid_intro (HR2.out.below hb2)
            have hc0 := HR3.out.c0
            have hc1 := HR3.out.c1
            have hg1 := HR3.out.g1
            clear hb2
            go_wp2_with fail
            refine (HMD.out _).mono ?_
            rintro e w3 ⟨rfl, hb3⟩
            have HR4 := hid_intro (HR3.out.below hb3)
            have hc0 := HR4.out.c0
            have hc1 := HR4.out.c1
            have hg1 := HR4.out.g1
            clear hb3
            go_wp2_with fail
            go_roundw
            case rel => exact ⟨i + 1, by omega, by rw [HF.out], hid_intro (by have := HR4.out.month ((i : Int) + 1 + 1); rw [show (((i + 1 : Nat) : Int) + 1) = (i : Int) + 1 + 1 by omega]; exact this)⟩
            case measure => simp [intOf]; omega
          · obtain rfl : i = J := by omega
            have hn := f2 rfl
            have hn2 : ¬ Y ≤ Z := by omega
            clear f1 f2
            rw [← HZe.out] at HO
            by_cases hl : i = 11
            · subst hl
              have hc2 := HR2.out.c2
              have hg2 := HR2.out.g2
              have r0 := HR2.out.r0
              have r1 := HR2.out.r1
              have r2 := HR2.out.r2
              have e0 := HR2.out.f0
              have e1 := HR2.out.f1
              have e2 := HR2.out.f2
              go_wp2_with fail
              refine bodyPost_ret (v := date (1970 + (j : Int)) 12 (Z + 1)) (by simp [date, results, Tryd.results72, go_sem, r0, r1, r2]) rfl ⟨by rw [← HO.out]; rfl, ?_⟩
              repeat' first | exact HR2.out.bel | apply Below.setCell
              all_goals simp
            · have i3 : (i : Int) + 1 < 12 := by omega
              go_wp2_with fail
              refine (HMD.out _).mono ?_
              rintro e w2 ⟨rfl, hb2⟩
              have HR3 := hid_intro (HR2.out.below hb2)
              have hc0 := HR3.out.c0
              have hc1 := HR3.out.c1
              have hc2 := HR3.out.c2
              have hg2 := HR3.out.g2
              have r0 := HR3.out.r0
              have r1 := HR3.out.r1
              have r2 := HR3.out.r2
              have e0 := HR3.out.f0
              have e1 := HR3.out.f1
              have e2 := HR3.out.f2
              clear hb2
              go_wp2_with fail
              refine bodyPost_ret (v := date (1970 + (j : Int)) ((i : Int) + 1) (Z + 1)) (by simp [date, results, Tryd.results72, go_sem, r0, r1, r2]) rfl ⟨by rw [← HO.out], ?_⟩
              repeat' first | exact HR3.out.bel | apply Below.setCell
              all_goals simp
      · have q1 : (1970 : Int) ≤ 1970 + (j : Int) := by omega
        have q2 : ¬ (1970 : Int) + (j : Int) ≤ 2200 := by omega
        have q3 : decide ((1970 : Int) + (j : Int) ≤ 2200) = false := decide_eq_false q2
        have r0 := HR.out.r0
        have r1 := HR.out.r1
        have r2 := HR.out.r2
        have e0 := HR.out.f0
        have e1 := HR.out.f1
        have e2 := HR.out.f2
        have HO : Hid (date 0 0 0 = outOf day j J) := hid_intro (if_neg hp).symm
        go_wp2_with (first | (go_at_call 97; refine (HI.out _).mono ?_; rintro e w' ⟨rfl, rfl⟩) | (go_at_call 98; refine (year_any _ _).mono ?_; rintro e w' ⟨rfl, rfl⟩))
        refine bodyPost_ret (v := date 0 0 0) (by simp [date, results, Tryd.results72, go_sem, r0, r1, r2]) rfl ⟨by rw [HO.out], ?_⟩
        repeat' first | exact HR.out.bel | apply Below.setCell
        all_goals exact Nat.le_refl _
end DateR
end Go.Proofs.YtnlmpejgiakepaaDoor
namespace Go.Proofs.YtnlmpejgiakepaaDoor
open Go.ChangeShapes Go.WideShapes Go.ChangeAt Go.RowKit
set_option linter.unusedVariables false
namespace DateR
open DateM
theorem spec_dateof_none (day : Int) (h : day < 0 ∨ 100000 < day) (w : World) :
    Calls Tryd.prog 72 #[.int .i64 day] w fun e w' => e = .returned (date 0 0 0) ∧ Below w.heap.size w w' := by
  have key : (¬ 0 ≤ day) ∨ (0 ≤ day ∧ ¬ day ≤ 100000) := by omega
  clear h
  rcases key with h1 | ⟨h1, h2⟩
  all_goals
    go_enter Tryd.func72, Tryd.ntmps72
    go_wp2
    refine bodyPost_ret (v := date 0 0 0) (by simp [date, results, Tryd.results72, go_sem]) rfl ⟨rfl, ?_⟩
    repeat' first | exact Below.refl _ _ | apply Below.setCell | apply Below.alloc
    all_goals first | omega | (simp; done) | (simp; omega)
theorem num_of (day : Int) (K J : Nat) (hK : K ≤ 230) (hJ : J < 12) (m1 : ms (1970 + (K : Int)) J ≤ day - ys K) (m2 : day - ys K < ms (1970 + (K : Int)) (J + 1)) :
    rightB (1970 + (K : Int)) ((J : Int) + 1) (day - ys K - ms (1970 + (K : Int)) J + 1) = true ∧ num (1970 + (K : Int)) ((J : Int) + 1) (day - ys K - ms (1970 + (K : Int)) J + 1) = day := by
  have e := ms_succ (1970 + (K : Int)) J
  refine ⟨(right_iff _ _ _).2 ⟨by omega, by omega, by omega, by omega, by omega, by omega⟩, ?_⟩
  unfold num
  rw [show (1970 + (K : Int) - 1970).toNat = K by omega, show ((J : Int) + 1 - 1).toNat = J by omega]
  omega
/-- What is known of a day's date. -/
def DateOfIs (day y m d : Int) : Prop := (0 ≤ day ∧ day < ys 231 ∧ rightB y m d = true ∧ num y m d = day) ∨ (¬ (0 ≤ day ∧ day < ys 231) ∧ y = 0 ∧ m = 0 ∧ d = 0)
theorem ys231 : ys 231 ≤ 100000 := by have := ys_bd 231; omega
theorem dateof_both (day : Int) : ∃ y m d : Int, DateOfIs day y m d ∧ (∀ w, Laid w → Calls Tryd.prog 87 #[.int .i64 day] w fun e w' => e = .returned (date y m d) ∧ Below w.heap.size w w') ∧ (∀ w, Calls Tryd.prog 72 #[.int .i64 day] w fun e w' => e = .returned (date y m d) ∧ Below w.heap.size w w') := by
  by_cases h : day < 0 ∨ 100000 < day
  · have := ys231
    exact ⟨0, 0, 0, .inr ⟨by omega, rfl, rfl, rfl⟩, fun w _ => impl_dateof_none day h w, fun w => spec_dateof_none day h w⟩
  · have d0 : 0 ≤ day := by omega
    have d1 : day ≤ 100000 := by omega
    obtain ⟨K, h1, h2⟩ := year_is day d0
    obtain ⟨J, hJ, m1, m2⟩ := month_is (1970 + (K : Int)) (day - ys K) (by omega) (by have := ys_succ K; omega)
    have hs := fun w => spec_dateof_in day K J d0 d1 h1 h2 m1 m2 hJ w
    unfold outOf at hs
    by_cases hK : K ≤ 230
    · rw [if_pos hK] at hs
      obtain ⟨n1, n2⟩ := num_of day K J hK hJ m1 m2
      have := ys_mono (show K + 1 ≤ 231 by omega)
      exact ⟨_, _, _, .inl ⟨d0, by omega, n1, n2⟩, fun w hL => impl_dateof_in day K J d0 d1 h1 h2 hK m1 m2 hJ w hL, hs⟩
    · rw [if_neg hK] at hs
      have := ys_mono (show 231 ≤ K by omega)
      exact ⟨0, 0, 0, .inr ⟨by omega, rfl, rfl, rfl⟩, fun w _ => impl_dateof_past day K d0 d1 h1 (by omega) w, hs⟩
end DateR
end Go.Proofs.YtnlmpejgiakepaaDoor
namespace Go.Proofs.YtnlmpejgiakepaaDoor
open Go.ChangeShapes Go.WideShapes Go.ChangeAt Go.RowKit
set_option linter.unusedVariables false
namespace WinR
open DateM DateR
theorem impl_month_in (n y m d : Int) (h1 : 0 ≤ n) (h2 : n ≤ 121000000) (hy1 : 1970 ≤ y) (hy2 : y ≤ 2200) (hm1 : 1 ≤ m) (hm2 : m ≤ 12) (w : World) (hL : Laid w)
    (hd : ∀ w, Laid w → Calls Tryd.prog 87 #[.int .i64 (n.tdiv 1440)] w fun e w' => e = .returned (date y m d) ∧ Below w.heap.size w w') :
    Calls Tryd.prog 58 #[.int .i64 n] w fun e w' => e = .returned (.int .i64 (12 * (y - 1970) + (m - 1))) ∧ Below w.heap.size w w' := by
  have hb : 0 ≤ n.tdiv 1440 ∧ n.tdiv 1440 ≤ 121000000 := by rw [Int.tdiv_eq_ediv_of_nonneg h1]; omega
  obtain ⟨b1, b2⟩ := hb
  generalize hq : n.tdiv 1440 = q at *
  have HD := hid_intro hd
  have HL := hid_intro hL
  clear hd hL
  unfold date at *
  go_enter Tryd.func58, Tryd.ntmps58
  go_wp2_with (first | (go_at_call 84; go_in) | (go_at_call 85; go_in) | (go_at_call 87; (try rw [hq]); refine (HD.out _ HL.out).mono ?_; rintro e w1 ⟨rfl, hb1⟩))
  go_ret
  exact ⟨ret_int (by omega), hb1.alloc hb1.size _⟩
theorem spec_month_in (n y m d : Int) (h1 : 0 ≤ n) (h2 : n ≤ 121000000) (hy1 : 1970 ≤ y) (hy2 : y ≤ 2200) (hm1 : 1 ≤ m) (hm2 : m ≤ 12) (w : World)
    (hd : ∀ w, Calls Tryd.prog 72 #[.int .i64 (n.tdiv 1440)] w fun e w' => e = .returned (date y m d) ∧ Below w.heap.size w w') :
    Calls Tryd.prog 51 #[.int .i64 n] w fun e w' => e = .returned (.int .i64 (12 * (y - 1970) + (m - 1))) ∧ Below w.heap.size w w' := by
  have hb : 0 ≤ n.tdiv 1440 ∧ n.tdiv 1440 ≤ 121000000 := by rw [Int.tdiv_eq_ediv_of_nonneg h1]; omega
  obtain ⟨b1, b2⟩ := hb
  generalize hq : n.tdiv 1440 = q at *
  have HD := hid_intro hd
  clear hd
  unfold date at *
  go_enter Tryd.func51, Tryd.ntmps51
  go_wp2_with (first | (go_at_call 72; (try rw [hq]); refine (HD.out _).mono ?_; rintro e w1 ⟨rfl, hb1⟩))
  go_ret
  exact ⟨ret_int (by omega), hb1.alloc hb1.size _⟩
theorem month_two (n : Int) (h1 : 0 ≤ n) (h2 : n ≤ 121000000) : ∃ k : Nat, k ≤ 2771 ∧ fd k ≤ n / 1440 ∧ n / 1440 < fd (k + 1) ∧ (∀ w, Laid w → Calls Tryd.prog 58 #[.int .i64 n] w fun e w' => e = .returned (.int .i64 (k : Int)) ∧ Below w.heap.size w w') ∧ (∀ w, Calls Tryd.prog 51 #[.int .i64 n] w fun e w' => e = .returned (.int .i64 (k : Int)) ∧ Below w.heap.size w w') := by
  obtain ⟨y, m, d, hd, hi, hs⟩ := dateof_both (n.tdiv 1440)
  have e : n.tdiv 1440 = n / 1440 := Int.tdiv_eq_ediv_of_nonneg h1
  have := ys_231
  rcases hd with ⟨_, _, hr, hn⟩ | ⟨hx, _⟩
  · obtain ⟨k, k1, k2, k3, k4⟩ := num_fd y m d hr
    obtain ⟨y1, y2, m1, m2, _, _⟩ := (right_iff y m d).1 hr
    exact ⟨k, k1, by omega, by omega, fun w hL => by rw [← k2]; exact impl_month_in n y m d h1 h2 y1 y2 m1 m2 w hL hi, fun w => by rw [← k2]; exact spec_month_in n y m d h1 h2 y1 y2 m1 m2 w hs⟩
  · omega
/-- Whether an hour lies in a month, the program's way. -/
theorem impl_hour_of (h mo : Int) (w : World) (hL : Laid w) :
    Calls Tryd.prog 104 #[.int .i64 h, .int .i64 mo] w fun e w' => e = .returned (.bool (hourIn h mo)) ∧ Below w.heap.size w w' := by
  rcases (show (¬ 0 ≤ h) ∨ (0 ≤ h ∧ ¬ h ≤ 2016666) ∨ (0 ≤ h ∧ h ≤ 2016666) by omega) with q | ⟨q, q2⟩ | ⟨q, q2⟩
  · rw [hour_far (fun x => q x.1)]
    clear hL
    go_enter Tryd.func104, Tryd.ntmps104
    go_wp2_with (go_at_call 85; go_in)
    go_ret
    exact ⟨rfl, Below.refl _ _⟩
  · rw [hour_far (fun x => q2 x.2)]
    clear hL
    go_enter Tryd.func104, Tryd.ntmps104
    go_wp2_with (go_at_call 85; go_in)
    go_ret
    exact ⟨rfl, Below.refl _ _⟩
  · obtain ⟨k, k1, f1, f2, hi, hs⟩ := month_two (60 * h) (by omega) (by omega)
    rw [hour_month q q2 k rfl f1 f2]
    have HI := hid_intro (hi w hL)
    clear hL hi hs f1 f2
    have hm : h * 60 = 60 * h := by omega
    generalize hq : 60 * h = n at *
    by_cases he : (k : Int) = mo
    · subst he
      rw [decide_eq_true rfl]
      go_enter Tryd.func104, Tryd.ntmps104
      go_wp2_with (first | (go_at_call 85; go_in) | (go_at_call 58; (try rw [hm]); refine HI.out.mono ?_; rintro e w1 ⟨rfl, hb1⟩))
      go_ret
      exact ⟨rfl, hb1⟩
    · rw [decide_eq_false he]
      have he2 : ((k : Int) == mo) = false := by simpa using he
      go_enter Tryd.func104, Tryd.ntmps104
      go_wp2_with (first | (go_at_call 85; go_in) | (go_at_call 58; (try rw [hm]); refine HI.out.mono ?_; rintro e w1 ⟨rfl, hb1⟩))
      go_ret
      exact ⟨ret_bool (by first | rfl | simpa using he), hb1⟩
end WinR
end Go.Proofs.YtnlmpejgiakepaaDoor
namespace Go.Proofs.YtnlmpejgiakepaaDoor
open Go.ChangeShapes Go.WideShapes Go.ChangeAt Go.RowKit
set_option linter.unusedVariables false
namespace WinR
open RowG LtR
open CatR (Blk Blk.new)
open DateR (Laid)
theorem withinI (n low high : Int) (w : World) :
    Calls Tryd.prog 102 #[.int .i64 n, .int .i64 low, .int .i64 high] w fun e w' => e = .returned (.bool (decide (low ≤ n ∧ n ≤ high))) ∧ w' = w := by
  rcases (show (¬ low ≤ n) ∨ (low ≤ n ∧ ¬ n ≤ high) ∨ (low ≤ n ∧ n ≤ high) by omega) with h | ⟨h1, h2⟩ | ⟨h1, h2⟩
  all_goals
    go_enter Tryd.func102, Tryd.ntmps102
    go_wp2
    go_ret
    exact ⟨ret_bool (by first | (simp [*]; done) | (simp; omega)), rfl⟩
theorem three (b1 b2 b3 : Bool) : (b1 = false) ∨ (b1 = true ∧ b2 = false) ∨ (b1 = true ∧ b2 = true ∧ b3 = false) ∨ (b1 = true ∧ b2 = true ∧ b3 = true) := by
  cases b1 <;> cases b2 <;> cases b3 <;> simp
theorem four (b1 b2 b3 b4 : Bool) : (b1 = false) ∨ (b1 = true ∧ b2 = false) ∨ (b1 = true ∧ b2 = true ∧ b3 = false) ∨ (b1 = true ∧ b2 = true ∧ b3 = true ∧ b4 = false) ∨ (b1 = true ∧ b2 = true ∧ b3 = true ∧ b4 = true) := by
  cases b1 <;> cases b2 <;> cases b3 <;> cases b4 <;> simp
theorem isMonth_any (n : Int) (w : World) : Calls Tryd.prog 100 #[.int .i64 n] w fun e w' => e = .returned (.bool (decide (0 ≤ n ∧ n ≤ 2760))) ∧ w' = w := by
  have H := EvtR.within_any n 0 2760
  generalize decide (0 ≤ n ∧ n ≤ 2760) = b at *
  go_enter Tryd.func100, Tryd.ntmps100
  go_wp2_with (go_at_call 85; refine (H _).mono ?_; rintro e w' ⟨rfl, rfl⟩)
  go_ret
  exact ⟨rfl, rfl⟩
set_option maxHeartbeats 4000000 in
theorem impl_named (a m : ByteArray) (mo : Int) (w : World) (ha : a.size ≤ 1048576) (hm : m.size ≤ 1048576) :
    Calls Tryd.prog 73 #[.agg #[.string a, .string m, .int .i64 mo]] w fun e w' => e = .returned (.bool (namedB a m mo)) ∧ Below w.heap.size w w' := by
  unfold namedB
  have H1 := hid_intro (fun w => NameR.impl_any a w ha)
  have H2 := hid_intro (fun w => NameR.impl_any m w hm)
  have H3 := hid_intro (fun w => isMonth_any mo w)
  have HB : Hid (Below w.heap.size w (w.alloc (.cells #[.string a, .string m, .int .i64 mo] 85))) := hid_intro ((Below.refl _ _).alloc (Nat.le_refl _) _)
  have HX : Hid (∀ W, W = w.alloc (.cells #[.string a, .string m, .int .i64 mo] 85) → W.cell? ⟨w.heap.size, 0, none⟩ = some (.string a) ∧ W.cell? ⟨w.heap.size, 1, none⟩ = some (.string m) ∧ W.cell? ⟨w.heap.size, 2, none⟩ = some (.int .i64 mo)) := hid_intro (fun W h => by subst h; simp [go_sem])
  generalize NameR.nameB a = b1 at *
  generalize NameR.nameB m = b2 at *
  generalize decide (0 ≤ mo ∧ mo ≤ 2760) = b3 at *
  rcases three b1 b2 b3 with rfl | ⟨rfl, rfl⟩ | ⟨rfl, rfl, rfl⟩ | ⟨rfl, rfl, rfl⟩
  · go_enter Tryd.func73, Tryd.ntmps73
    go_wp2_with fail
    refine (H1.out _).mono ?_
    rintro e w1 ⟨rfl, rfl⟩
    go_wp2_with fail
    go_ret
    exact ⟨rfl, HB.out⟩
  · go_enter Tryd.func73, Tryd.ntmps73
    go_wp2_with fail
    refine (H1.out _).mono ?_
    rintro e w1 ⟨rfl, rfl⟩
    go_wp2_with fail
    refine (H2.out _).mono ?_
    rintro e w1 ⟨rfl, rfl⟩
    go_wp2_with fail
    go_ret
    exact ⟨rfl, HB.out⟩
  · go_enter Tryd.func73, Tryd.ntmps73
    go_wp2_with fail
    refine (H1.out _).mono ?_
    rintro e w1 ⟨rfl, rfl⟩
    go_wp2_with fail
    refine (H2.out _).mono ?_
    rintro e w1 ⟨rfl, rfl⟩
    go_wp2_with fail
    refine (H3.out _).mono ?_
    rintro e w1 ⟨rfl, rfl⟩
    go_wp2_with fail
    go_ret
    exact ⟨rfl, HB.out⟩
  · go_enter Tryd.func73, Tryd.ntmps73
    go_wp2_with fail
    refine (H1.out _).mono ?_
    rintro e w1 ⟨rfl, rfl⟩
    go_wp2_with fail
    refine (H2.out _).mono ?_
    rintro e w1 ⟨rfl, rfl⟩
    go_wp2_with fail
    refine (H3.out _).mono ?_
    rintro e w1 ⟨rfl, rfl⟩
    go_wp2_with fail
    go_ret
    exact ⟨rfl, HB.out⟩
set_option maxHeartbeats 4000000 in
theorem impl_counted (ev su mx : Int) (w : World) :
    Calls Tryd.prog 74 #[.agg #[.int .i64 ev, .int .i64 su, .int .i64 mx]] w fun e w' => e = .returned (.bool (countedB ev su mx)) ∧ Below w.heap.size w w' := by
  unfold countedB
  have H1 := hid_intro (fun w => EvtR.within_any ev 1 1000 w)
  have H2 := hid_intro (fun w => EvtR.within_any su 0 1000000000000 w)
  have H3 := hid_intro (fun w => EvtR.within_any mx 0 su w)
  have HB : Hid (Below w.heap.size w (w.alloc (.cells #[.int .i64 ev, .int .i64 su, .int .i64 mx] 87))) := hid_intro ((Below.refl _ _).alloc (Nat.le_refl _) _)
  generalize decide (1 ≤ ev ∧ ev ≤ 1000) = b1 at *
  generalize decide (0 ≤ su ∧ su ≤ 1000000000000) = b2 at *
  generalize decide (0 ≤ mx ∧ mx ≤ su) = b3 at *
  rcases three b1 b2 b3 with rfl | ⟨rfl, rfl⟩ | ⟨rfl, rfl, rfl⟩ | ⟨rfl, rfl, rfl⟩
  · go_enter Tryd.func74, Tryd.ntmps74
    go_wp2_with fail
    refine (H1.out _).mono ?_
    rintro e w1 ⟨rfl, rfl⟩
    go_wp2_with fail
    go_ret
    exact ⟨rfl, HB.out⟩
  · go_enter Tryd.func74, Tryd.ntmps74
    go_wp2_with fail
    refine (H1.out _).mono ?_
    rintro e w1 ⟨rfl, rfl⟩
    go_wp2_with fail
    refine (H2.out _).mono ?_
    rintro e w1 ⟨rfl, rfl⟩
    go_wp2_with fail
    go_ret
    exact ⟨rfl, HB.out⟩
  · go_enter Tryd.func74, Tryd.ntmps74
    go_wp2_with fail
    refine (H1.out _).mono ?_
    rintro e w1 ⟨rfl, rfl⟩
    go_wp2_with fail
    refine (H2.out _).mono ?_
    rintro e w1 ⟨rfl, rfl⟩
    go_wp2_with fail
    refine (H3.out _).mono ?_
    rintro e w1 ⟨rfl, rfl⟩
    go_wp2_with fail
    go_ret
    exact ⟨rfl, HB.out⟩
  · go_enter Tryd.func74, Tryd.ntmps74
    go_wp2_with fail
    refine (H1.out _).mono ?_
    rintro e w1 ⟨rfl, rfl⟩
    go_wp2_with fail
    refine (H2.out _).mono ?_
    rintro e w1 ⟨rfl, rfl⟩
    go_wp2_with fail
    refine (H3.out _).mono ?_
    rintro e w1 ⟨rfl, rfl⟩
    go_wp2_with fail
    go_ret
    exact ⟨rfl, HB.out⟩
end WinR
end Go.Proofs.YtnlmpejgiakepaaDoor
namespace Go.Proofs.YtnlmpejgiakepaaDoor
open Go.ChangeShapes Go.WideShapes Go.ChangeAt Go.RowKit
set_option linter.unusedVariables false
namespace WinR
open RowG LtR
open CatR (Blk Blk.new)
open DateR (Laid)
set_option maxRecDepth 100000 in
set_option maxHeartbeats 4000000 in
theorem impl_tagged (a m : ByteArray) (mo ev su mx : Int) (ts : List ByteArray) (ta : Option Addr) (tc : Nat) (hv : Value) (w : World) (hlen : ts.length ≤ 1048576) (hS : ∀ t ∈ ts, t.size ≤ 1048576) (hI : Tgs ta ts w) :
    Calls Tryd.prog 75 #[.agg #[.string a, .string m, .int .i64 mo, .int .i64 ev, .int .i64 su, .int .i64 mx, .slice ta ts.length tc, .func (.func 88) #[] #[], .func (.func 89) #[] #[], hv, .func (.func 90) #[] #[], .func (.func 91) #[] #[]]] w fun e w' => e = .returned (.bool (tagsB ts)) ∧ Below w.heap.size w w' := by
  have HI := hid_intro hI
  have HS := hid_intro hS
  have HLO := hid_intro (tags_long (ts := ts))
  have HRI := hid_intro (tags_rise (ts := ts))
  have HEN := hid_intro (tags_end (ts := ts))
  have HC := hid_intro (fun W (hW : Below w.heap.size w W) => tags_rises ta tc ts W hlen (hI.below hW))
  generalize tagsB ts = R at *
  generalize riseB lt tz ts = r at *
  obtain ⟨len, hl⟩ : ∃ len, len = ts.length := ⟨_, rfl⟩
  rw [← hl] at hlen HLO HEN HC ⊢
  have HL := hid_intro hl
  clear hI hl hS
  have HB0 : Hid (Below w.heap.size w (w.alloc (.cells #[.string a, .string m, .int .i64 mo, .int .i64 ev, .int .i64 su, .int .i64 mx, .slice ta len tc, .func (.func 88) #[] #[], .func (.func 89) #[] #[], hv, .func (.func 90) #[] #[], .func (.func 91) #[] #[]] 97))) := hid_intro ((Below.refl _ _).alloc (Nat.le_refl _) _)
  have HX0 := hid_intro (Blk.new w [.string a, .string m, .int .i64 mo, .int .i64 ev, .int .i64 su, .int .i64 mx, .slice ta len tc, .func (.func 88) #[] #[], .func (.func 89) #[] #[], hv, .func (.func 90) #[] #[], .func (.func 91) #[] #[]] 97)
  by_cases h12 : 12 < len
  · have h12' : (12 : Int) < (len : Int) := by omega
    have HF := hid_intro (HLO.out h12)
    clear HX0 HC HRI HEN HLO
    go_enter Tryd.func75, Tryd.ntmps75
    go_wp2_with fail
    go_ret
    exact ⟨ret_bool HF.out.symm, HB0.out⟩
  · have h12' : ¬ (12 : Int) < (len : Int) := by omega
    cases r
    · have HF := hid_intro (HRI.out rfl)
      clear HX0 HRI HEN HLO
      go_enter Tryd.func75, Tryd.ntmps75
      go_wp2_with fail
      refine (HC.out _ HB0.out).mono ?_
      rintro e w1 ⟨rfl, hb1⟩
      have HB1 := hid_intro (HB0.out.trans (hb1.mono HB0.out.size))
      clear hb1
      go_wp2_with fail
      go_ret
      exact ⟨ret_bool HF.out.symm, HB1.out⟩
    · have HE := hid_intro (HEN.out (by omega) rfl)
      clear HRI HEN HLO
      go_enter Tryd.func75, Tryd.ntmps75
      go_wp2_with fail
      refine (HC.out _ HB0.out).mono ?_
      rintro e w1 ⟨rfl, hb1⟩
      have HB1 := hid_intro (HB0.out.trans (hb1.mono HB0.out.size))
      have HX1 := hid_intro (HX0.out.below hb1)
      clear hb1 HB0 HX0
      obtain ⟨xl, xc⟩ := HX1.out
      have x6 : w1.cell? ⟨w.heap.size, 6, none⟩ = some (.slice ta len tc) := xc 6 (by simp)
      clear xc
      go_wp2_with fail
      go_loopw [20] (fun z wr => ∃ k : Nat, k ≤ len ∧ z = .int .i64 k ∧ Hid ((ts.take k).all tagOk = true) ∧ Hid (Below w.heap.size w wr)) (fun z _ => len - (intOf z).toNat)
      case atStart => exact ⟨0, by omega, rfl, hid_intro (by simp), HB1⟩
      case round =>
        obtain ⟨k, hk, rfl, HK, HB⟩ := hrel
        by_cases hlt : k < len
        · have hlt2 : (k : Int) < (len : Int) := by omega
          have hkl : k < ts.length := by have := HL.out; omega
          obtain ⟨b, off, rfl, hbl, c0⟩ := (HI.out.below HB.out).at k hkl
          have hsz := HS.out _ (getD_mem (z := tz) ts k hkl)
          have HT := hid_intro (fun w => EvtR.impl_tag (ts.getD k tz) w hsz)
          have HNO := hid_intro (fun h => all_no (z := tz) (xs := ts) tagOk hkl h)
          have HGO : Hid (tagOk (ts.getD k tz) = true → (ts.take (k + 1)).all tagOk = true) := hid_intro (fun h => by rw [all_take (z := tz) _ k hkl, HK.out, h]; rfl)
          have HTO : Hid (tagOk (ts.getD k tz) = (decide (1 ≤ (ts.getD k tz).size) && EvtR.tagB (ts.getD k tz))) := rfl
          generalize tagOk (ts.getD k tz) = q at *
          generalize ts.getD k tz = X at *
          by_cases hi : X.size = 0
          · have he := EvtR.empty_of X hi
            have HF : Hid (R = false) := hid_intro (by rw [HE.out]; exact HNO.out (by rw [HTO.out, decide_eq_false (by omega), Bool.false_and]))
            go_wp2_with fail
            go_ret
            exact ⟨ret_bool HF.out.symm, HB.out⟩
          · obtain ⟨he, he2⟩ := EvtR.full_of X hi
            have HTO2 : Hid (q = EvtR.tagB X) := hid_intro (by rw [HTO.out, decide_eq_true (by omega), Bool.true_and])
            generalize EvtR.tagB X = g at *
            cases g
            · have HF : Hid (R = false) := hid_intro (by rw [HE.out]; exact HNO.out HTO2.out)
              go_wp2_with fail
              refine (HT.out _).mono ?_
              rintro e w2 ⟨rfl, hb2⟩
              have HB2 := hid_intro (HB.out.trans (hb2.mono HB.out.size))
              clear hb2 c0
              go_wp2_with fail
              go_ret
              exact ⟨ret_bool HF.out.symm, HB2.out⟩
            · have HG := hid_intro (HGO.out HTO2.out)
              go_wp2_with fail
              refine (HT.out _).mono ?_
              rintro e w2 ⟨rfl, hb2⟩
              have HB2 := hid_intro (HB.out.trans (hb2.mono HB.out.size))
              clear hb2 c0
              go_wp2_with fail
              go_roundw
              case rel => exact ⟨k + 1, by omega, by go_num, HG, HB2⟩
              case measure => simp [intOf]; omega
        · have hlt2 : ¬ (k : Int) < (len : Int) := by omega
          obtain rfl : k = len := by omega
          have HF : Hid (R = true) := hid_intro (by
            rw [HE.out]
            have h := HK.out
            rwa [List.take_of_length_le (by have := HL.out; omega)] at h)
          go_wp2_with fail
          go_ret
          exact ⟨ret_bool HF.out.symm, HB.out⟩
end WinR
end Go.Proofs.YtnlmpejgiakepaaDoor
namespace Go.Proofs.YtnlmpejgiakepaaDoor
open Go.ChangeShapes Go.WideShapes Go.ChangeAt Go.RowKit
set_option linter.unusedVariables false
namespace WinR
open RowG LtR
open CatR (Blk Blk.new)
open DateR (Laid)
theorem timed_few {hs : List H} {mo su : Int} (h : ¬ (1 ≤ hs.length ∧ hs.length ≤ 12)) : timedB hs mo su = false := by unfold timedB; rw [decide_eq_false h, Bool.false_and]
theorem timed_in {hs : List H} {mo su : Int} (h : 1 ≤ hs.length ∧ hs.length ≤ 12) : timedB hs mo su = hoursB hs mo su := by unfold timedB; rw [decide_eq_true h, Bool.true_and]
set_option maxRecDepth 100000 in
set_option maxHeartbeats 8000000 in
theorem impl_timed (a m : ByteArray) (mo ev su mx : Int) (hs : List H) (tv : Value) (ha : Option Addr) (hc : Nat) (w : World) (hlen : hs.length ≤ 1048576) (hsu : 0 ≤ su ∧ su ≤ 1000000000000) (hL : Laid w) (hI : Hrs ha hs w) :
    Calls Tryd.prog 76 #[.agg #[.string a, .string m, .int .i64 mo, .int .i64 ev, .int .i64 su, .int .i64 mx, tv, .func (.func 88) #[] #[], .func (.func 89) #[] #[], .slice ha hs.length hc, .func (.func 90) #[] #[], .func (.func 91) #[] #[]]] w fun e w' => e = .returned (.bool (timedB hs mo su)) ∧ Below w.heap.size w w' := by
  have HI := hid_intro hI
  have HLA := hid_intro hL
  have HFEW := hid_intro (timed_few (hs := hs) (mo := mo) (su := su))
  have HIN := hid_intro (timed_in (hs := hs) (mo := mo) (su := su))
  have HRI := hid_intro (hours_rise (hs := hs) (mo := mo) (su := su))
  have HEN := hid_intro (hours_end (hs := hs) (mo := mo) (su := su))
  have HNO := hid_intro (fun k => hours_no (hs := hs) (mo := mo) (su := su) (k := k))
  have HC := hid_intro (fun W (hW : Below w.heap.size w W) => hours_rises ha hc hs W hlen (hI.below hW))
  have HWI := hid_intro (fun w => withinI hs.length 1 12 w)
  generalize timedB hs mo su = R at *
  generalize hoursB hs mo su = Q at *
  generalize riseB hlt H.zero hs = r at *
  obtain ⟨len, hl⟩ : ∃ len, len = hs.length := ⟨_, rfl⟩
  rw [← hl] at hlen HFEW HIN HC HWI ⊢
  have HL := hid_intro hl
  obtain ⟨hs0, hs1⟩ := hsu
  clear hI hl hL
  have HB0 : Hid (Below w.heap.size w (w.alloc (.cells #[.string a, .string m, .int .i64 mo, .int .i64 ev, .int .i64 su, .int .i64 mx, tv, .func (.func 88) #[] #[], .func (.func 89) #[] #[], .slice ha len hc, .func (.func 90) #[] #[], .func (.func 91) #[] #[]] 97))) := hid_intro ((Below.refl _ _).alloc (Nat.le_refl _) _)
  have HX0 := hid_intro (Blk.new w [.string a, .string m, .int .i64 mo, .int .i64 ev, .int .i64 su, .int .i64 mx, tv, .func (.func 88) #[] #[], .func (.func 89) #[] #[], .slice ha len hc, .func (.func 90) #[] #[], .func (.func 91) #[] #[]] 97)
  by_cases h12 : 1 ≤ len ∧ len ≤ 12
  · rw [decide_eq_true (show (1 : Int) ≤ (len : Int) ∧ (len : Int) ≤ 12 by omega)] at HWI
    have HRQ := hid_intro (HIN.out h12)
    cases r
    · have HF : Hid (R = false) := hid_intro (by rw [HRQ.out]; exact HRI.out rfl)
      clear HX0 HRI HEN HNO HFEW HIN
      go_enter Tryd.func76, Tryd.ntmps76
      go_wp2_with fail
      refine (HWI.out _).mono ?_
      rintro e w1 ⟨rfl, rfl⟩
      go_wp2_with fail
      refine (HC.out _ HB0.out).mono ?_
      rintro e w2 ⟨rfl, hb1⟩
      have HB1 := hid_intro (HB0.out.trans (hb1.mono HB0.out.size))
      clear hb1
      go_wp2_with fail
      go_ret
      exact ⟨ret_bool HF.out.symm, HB1.out⟩
    · have HE := hid_intro (HEN.out rfl)
      clear HRI HEN HFEW HIN
      go_enter Tryd.func76, Tryd.ntmps76
      go_wp2_with fail
      refine (HWI.out _).mono ?_
      rintro e w1 ⟨rfl, rfl⟩
      go_wp2_with fail
      refine (HC.out _ HB0.out).mono ?_
      rintro e w2 ⟨rfl, hb1⟩
      have HB1 := hid_intro (HB0.out.trans (hb1.mono HB0.out.size))
      have HX1 := hid_intro (HX0.out.below hb1)
      clear hb1 HB0 HX0
      obtain ⟨xl, xc⟩ := HX1.out
      have x2 : w2.cell? ⟨w.heap.size, 2, none⟩ = some (.int .i64 mo) := xc 2 (by simp)
      have x4 : w2.cell? ⟨w.heap.size, 4, none⟩ = some (.int .i64 su) := xc 4 (by simp)
      have x9 : w2.cell? ⟨w.heap.size, 9, none⟩ = some (.slice ha len hc) := xc 9 (by simp)
      clear xc
      go_wp2_with fail
      go_loopw [3, 25] (fun y z wr => ∃ k : Nat, k ≤ len ∧ y = .int .i64 (su - hsum (hs.take k)) ∧ z = .int .i64 k ∧ Hid (HUp hs mo su k) ∧ Hid (Below w.heap.size w wr) ∧ Hid (w.heap.size < wr.heap.size ∧ wr.cell? ⟨w.heap.size, 2, none⟩ = some (.int .i64 mo))) (fun y z _ => len - (intOf z).toNat)
      case atStart => exact ⟨0, by omega, by simp [hsum], rfl, hid_intro (HUp.zero _ _ _), HB1, hid_intro ⟨xl, x2⟩⟩
      case round =>
        obtain ⟨k, hk, rfl, rfl, HK, HB, HX⟩ := hrel
        clear x2 x4 x9 xl
        obtain ⟨xl, x2⟩ := HX.out
        by_cases hlt1 : k < len
        · have hlt2 : (k : Int) < (len : Int) := by omega
          have hkl : k < hs.length := by have := HL.out; omega
          obtain ⟨b, off, rfl, hbl, c0, c1⟩ := (HI.out.below HB.out).at k hkl
          have HN := hid_intro (HNO.out k hkl)
          have HM := hid_intro (fun h1 h2 h3 => HK.out.more h1 h2 h3)
          have HST := hid_intro (hsum_take hs k hkl)
          have HSN := hid_intro (HK.out.nn (by omega))
          have HHO := hid_intro (fun W hW => impl_hour_of (hs.getD k H.zero).h mo W hW)
          have HWS := hid_intro (fun w => EvtR.within_any (hs.getD k H.zero).s 0 (su - hsum (hs.take k)) w)
          have hq0 : 0 ≤ su - hsum (hs.take k) ∨ su - hsum (hs.take k) < 0 := by omega
          have hq1 : su - hsum (hs.take k) ≤ 1000000000000 := by have := HSN.out; omega
          generalize hourIn (hs.getD k H.zero).h mo = g at *
          generalize hs.getD k H.zero = X at *
          obtain ⟨xh, xs⟩ := X
          dsimp only at c0 c1 HHO HWS HM HN HST
          generalize hT : hsum (hs.take k) = T at *
          have HLA2 := hid_intro ((HLA.out.below HB.out).below ((Below.refl wr.heap.size wr).alloc (Nat.le_refl _) (Obj.cells #[.int .i64 xh, .int .i64 xs] 65)))
          have HBX := hid_intro (HB.out.alloc HB.out.size (Obj.cells #[.int .i64 xh, .int .i64 xs] 65))
          have HZ := hid_intro (Blk.new wr [.int .i64 xh, .int .i64 xs] 65)
          cases g
          · have HF : Hid (R = false) := hid_intro (by rw [HRQ.out]; exact HN.out (fun h => by cases h.1))
            go_wp2_with fail
            refine (HHO.out _ HLA2.out).mono ?_
            rintro e w3 ⟨rfl, hb3⟩
            have HB3 := hid_intro (HBX.out.trans (hb3.mono HBX.out.size))
            clear hb3
            go_wp2_with fail
            go_ret
            exact ⟨ret_bool HF.out.symm, HB3.out⟩
          · go_wp2_with fail
            refine (HHO.out _ HLA2.out).mono ?_
            rintro e w3 ⟨rfl, hb3⟩
            have HB3 := hid_intro (HBX.out.trans (hb3.mono HBX.out.size))
            have HZ3 := hid_intro (HZ.out.below hb3)
            have HX3 : Hid (w.heap.size < w3.heap.size ∧ w3.cell? ⟨w.heap.size, 2, none⟩ = some (.int .i64 mo)) := hid_intro (by
              have hc := hb3.cell (p := ⟨w.heap.size, 2, none⟩) (by simp; omega)
              have := hb3.size
              simp at this
              exact ⟨by omega, (hc.trans (((Below.refl wr.heap.size wr).alloc (Nat.le_refl _) _).cell (p := ⟨w.heap.size, 2, none⟩) xl)).trans x2⟩)
            clear hb3 HZ HBX
            obtain ⟨zl, zc⟩ := HZ3.out
            have z1 : w3.cell? ⟨wr.heap.size, 1, none⟩ = some (.int .i64 xs) := zc 1 (by simp)
            clear zc c0 c1 x2
            by_cases hin : 0 ≤ xs ∧ xs ≤ su - T
            · rw [decide_eq_true hin] at HWS
              have HM2 := hid_intro (HM.out (by first | rfl | trivial) hin.1 hin.2)
              obtain ⟨hin1, hin2⟩ := hin
              go_wp2_with fail
              refine (HWS.out _).mono ?_
              rintro e w4 ⟨rfl, rfl⟩
              go_wp2_with fail
              go_roundw
              case rel => exact ⟨k + 1, by omega, by rw [HST.out]; congr 1; omega, by go_num, HM2, HB3, HX3⟩
              case measure => simp [intOf]; omega
            · rw [decide_eq_false hin] at HWS
              have HF : Hid (R = false) := hid_intro (by rw [HRQ.out]; exact HN.out (fun h => hin h.2))
              go_wp2_with fail
              refine (HWS.out _).mono ?_
              rintro e w4 ⟨rfl, rfl⟩
              go_wp2_with fail
              go_ret
              exact ⟨ret_bool HF.out.symm, HB3.out⟩
        · have hlt2 : ¬ (k : Int) < (len : Int) := by omega
          obtain rfl : k = len := by omega
          have HF : Hid (R = decide (su - hsum (hs.take k) = 0)) := hid_intro (by
            rw [HRQ.out, HE.out (by rw [← HL.out]; exact HK.out), List.take_of_length_le (by have := HL.out; omega)])
          generalize hsum (hs.take k) = T at *
          by_cases hz : su - T = 0
          · rw [decide_eq_true hz] at HF
            go_wp2_with fail
            go_ret
            exact ⟨ret_bool (by rw [HF.out]; try simp [hz]), HB.out⟩
          · rw [decide_eq_false hz] at HF
            go_wp2_with fail
            go_ret
            exact ⟨ret_bool (by rw [HF.out]; try simp [hz]), HB.out⟩
  · rw [decide_eq_false (show ¬ ((1 : Int) ≤ (len : Int) ∧ (len : Int) ≤ 12) by omega)] at HWI
    have HF := hid_intro (HFEW.out h12)
    clear HX0 HC HRI HEN HNO HFEW HIN
    go_enter Tryd.func76, Tryd.ntmps76
    go_wp2_with fail
    refine (HWI.out _).mono ?_
    rintro e w1 ⟨rfl, rfl⟩
    go_wp2_with fail
    go_ret
    exact ⟨ret_bool HF.out.symm, HB0.out⟩
end WinR
end Go.Proofs.YtnlmpejgiakepaaDoor
namespace Go.Proofs.YtnlmpejgiakepaaDoor
open Go.ChangeShapes Go.WideShapes Go.ChangeAt Go.RowKit
set_option linter.unusedVariables false
namespace WinR
open RowG LtR
open CatR (Blk Blk.new)
open DateR (Laid)
open EvtR (Pt)
theorem impl_rtags (ta : Option Addr) (tl tc : Nat) (w : World) :
    Calls Tryd.prog 59 #[.slice ta tl tc] w fun e w' => e = .returned (.agg #[.slice ta tl tc, .func (.func 88) #[] #[], .func (.func 89) #[] #[]]) ∧ Below w.heap.size w w' := by
  go_enter Tryd.func59, Tryd.ntmps59
  go_wp2_with fail
  refine bodyPost_ret (v := .agg #[.slice ta tl tc, .func (.func 88) #[] #[], .func (.func 89) #[] #[]]) (by simp [results, Tryd.results59, go_sem]) rfl ⟨rfl, ?_⟩
  repeat' first | exact Below.refl _ _ | apply Below.setCell | apply Below.alloc
  all_goals first | omega | (simp; done) | (simp; omega)
theorem impl_rhours (ta : Option Addr) (tl tc : Nat) (w : World) :
    Calls Tryd.prog 60 #[.slice ta tl tc] w fun e w' => e = .returned (.agg #[.slice ta tl tc, .func (.func 90) #[] #[], .func (.func 91) #[] #[]]) ∧ Below w.heap.size w w' := by
  go_enter Tryd.func60, Tryd.ntmps60
  go_wp2_with fail
  refine bodyPost_ret (v := .agg #[.slice ta tl tc, .func (.func 90) #[] #[], .func (.func 91) #[] #[]]) (by simp [results, Tryd.results60, go_sem]) rfl ⟨rfl, ?_⟩
  repeat' first | exact Below.refl _ _ | apply Below.setCell | apply Below.alloc
  all_goals first | omega | (simp; done) | (simp; omega)
/-- The window's block and the one that is handed back. -/
def UBx (w : World) (a m : ByteArray) (mo ev su mx : Int) (ta : Option Addr) (tl tc : Nat) (ha : Option Addr) (hl hc : Nat) (W : World) : Prop := Below w.heap.size w W ∧ w.heap.size + 1 < W.heap.size ∧ W.cell? ⟨w.heap.size, 0, none⟩ = some (.string a) ∧ W.cell? ⟨w.heap.size, 1, none⟩ = some (.string m) ∧ W.cell? ⟨w.heap.size, 2, none⟩ = some (.int .i64 mo) ∧ W.cell? ⟨w.heap.size, 3, none⟩ = some (.int .i64 ev) ∧ W.cell? ⟨w.heap.size, 4, none⟩ = some (.int .i64 su) ∧ W.cell? ⟨w.heap.size, 5, none⟩ = some (.int .i64 mx) ∧ W.cell? ⟨w.heap.size, 6, none⟩ = some (.slice ta tl tc) ∧ W.cell? ⟨w.heap.size, 7, none⟩ = some (.slice ha hl hc) ∧ Pt (w.heap.size + 1) 12 W
theorem UBx.below {w : World} {a m : ByteArray} {mo ev su mx : Int} {ta : Option Addr} {tl tc : Nat} {ha : Option Addr} {hl hc : Nat} {W W' : World} (h : UBx w a m mo ev su mx ta tl tc ha hl hc W) (hb : Below W.heap.size W W') : UBx w a m mo ev su mx ta tl tc ha hl hc W' := by
  obtain ⟨h0, h1, c0, c1, c2, c3, c4, c5, c6, c7, hp⟩ := h
  have c := fun o => hb.cell (p := ⟨w.heap.size, o, none⟩) (Nat.lt_trans (Nat.lt_succ_self _) h1)
  have := hb.size
  exact ⟨h0.trans (hb.mono h0.size), by omega, (c 0).trans c0, (c 1).trans c1, (c 2).trans c2, (c 3).trans c3, (c 4).trans c4, (c 5).trans c5, (c 6).trans c6, (c 7).trans c7, hp.below hb⟩
theorem UBx.put {w : World} {a m : ByteArray} {mo ev su mx : Int} {ta : Option Addr} {tl tc : Nat} {ha : Option Addr} {hl hc : Nat} {W : World} (h : UBx w a m mo ev su mx ta tl tc ha hl hc W) (o : Nat) (v : Value) : UBx w a m mo ev su mx ta tl tc ha hl hc (W.setCell ⟨w.heap.size + 1, o, none⟩ v) := by
  obtain ⟨h0, h1, c0, c1, c2, c3, c4, c5, c6, c7, hp⟩ := h
  exact ⟨h0.setCell (by simp) _, by simpa using h1, by simp [go_sem, c0], by simp [go_sem, c1], by simp [go_sem, c2], by simp [go_sem, c3], by simp [go_sem, c4], by simp [go_sem, c5], by simp [go_sem, c6], by simp [go_sem, c7], hp.set _ _⟩
theorem UBx.out {w : World} {a m : ByteArray} {mo ev su mx : Int} {ta : Option Addr} {tl tc : Nat} {ha : Option Addr} {hl hc : Nat} {W : World} (h : UBx w a m mo ev su mx ta tl tc ha hl hc W) : ∃ v0 v1 v2 v3 v4 v5 v6 v7 v8 v9 v10 v11, W.cell? ⟨w.heap.size + 1, 0, none⟩ = some v0 ∧ W.cell? ⟨w.heap.size + 1, 1, none⟩ = some v1 ∧ W.cell? ⟨w.heap.size + 1, 2, none⟩ = some v2 ∧ W.cell? ⟨w.heap.size + 1, 3, none⟩ = some v3 ∧ W.cell? ⟨w.heap.size + 1, 4, none⟩ = some v4 ∧ W.cell? ⟨w.heap.size + 1, 5, none⟩ = some v5 ∧ W.cell? ⟨w.heap.size + 1, 6, none⟩ = some v6 ∧ W.cell? ⟨w.heap.size + 1, 7, none⟩ = some v7 ∧ W.cell? ⟨w.heap.size + 1, 8, none⟩ = some v8 ∧ W.cell? ⟨w.heap.size + 1, 9, none⟩ = some v9 ∧ W.cell? ⟨w.heap.size + 1, 10, none⟩ = some v10 ∧ W.cell? ⟨w.heap.size + 1, 11, none⟩ = some v11 ∧ W.frozen? ⟨w.heap.size + 1, 0, none⟩ = false ∧ W.frozen? ⟨w.heap.size + 1, 1, none⟩ = false ∧ W.frozen? ⟨w.heap.size + 1, 2, none⟩ = false ∧ W.frozen? ⟨w.heap.size + 1, 3, none⟩ = false ∧ W.frozen? ⟨w.heap.size + 1, 4, none⟩ = false ∧ W.frozen? ⟨w.heap.size + 1, 5, none⟩ = false ∧ W.frozen? ⟨w.heap.size + 1, 6, none⟩ = false ∧ W.frozen? ⟨w.heap.size + 1, 7, none⟩ = false ∧ W.frozen? ⟨w.heap.size + 1, 8, none⟩ = false ∧ W.frozen? ⟨w.heap.size + 1, 9, none⟩ = false ∧ W.frozen? ⟨w.heap.size + 1, 10, none⟩ = false ∧ W.frozen? ⟨w.heap.size + 1, 11, none⟩ = false := by
  obtain ⟨_, _, _, _, _, _, _, _, _, _, hp⟩ := h
  obtain ⟨v0, e0⟩ := hp.has 0 (by omega)
  obtain ⟨v1, e1⟩ := hp.has 1 (by omega)
  obtain ⟨v2, e2⟩ := hp.has 2 (by omega)
  obtain ⟨v3, e3⟩ := hp.has 3 (by omega)
  obtain ⟨v4, e4⟩ := hp.has 4 (by omega)
  obtain ⟨v5, e5⟩ := hp.has 5 (by omega)
  obtain ⟨v6, e6⟩ := hp.has 6 (by omega)
  obtain ⟨v7, e7⟩ := hp.has 7 (by omega)
  obtain ⟨v8, e8⟩ := hp.has 8 (by omega)
  obtain ⟨v9, e9⟩ := hp.has 9 (by omega)
  obtain ⟨v10, e10⟩ := hp.has 10 (by omega)
  obtain ⟨v11, e11⟩ := hp.has 11 (by omega)
  exact ⟨v0, v1, v2, v3, v4, v5, v6, v7, v8, v9, v10, v11, e0, e1, e2, e3, e4, e5, e6, e7, e8, e9, e10, e11, hp.free 0 (by omega), hp.free 1 (by omega), hp.free 2 (by omega), hp.free 3 (by omega), hp.free 4 (by omega), hp.free 5 (by omega), hp.free 6 (by omega), hp.free 7 (by omega), hp.free 8 (by omega), hp.free 9 (by omega), hp.free 10 (by omega), hp.free 11 (by omega)⟩
set_option maxRecDepth 100000 in
set_option maxHeartbeats 8000000 in
theorem impl_usage (a m : ByteArray) (mo ev su mx : Int) (ta : Option Addr) (tl tc : Nat) (ha : Option Addr) (hl hc : Nat) (w : World) :
    Calls Tryd.prog 53 #[.agg #[.string a, .string m, .int .i64 mo, .int .i64 ev, .int .i64 su, .int .i64 mx, .slice ta tl tc, .slice ha hl hc]] w fun e w' => e = .returned (.agg #[.string a, .string m, .int .i64 mo, .int .i64 ev, .int .i64 su, .int .i64 mx, .slice ta tl tc, .func (.func 88) #[] #[], .func (.func 89) #[] #[], .slice ha hl hc, .func (.func 90) #[] #[], .func (.func 91) #[] #[]]) ∧ Below w.heap.size w w' := by
  go_enter Tryd.func53, Tryd.ntmps53
  go_wp2_with fail
  have HT0 : Hid (UBx w a m mo ev su mx ta tl tc ha hl hc (((w.alloc (.cells #[.string a, .string m, .int .i64 mo, .int .i64 ev, .int .i64 su, .int .i64 mx, .slice ta tl tc, .slice ha hl hc] 32)).alloc (.cells #[.string ⟨#[]⟩, .string ⟨#[]⟩, .int .i64 0, .int .i64 0, .int .i64 0, .int .i64 0, .slice none 0 0, .nilFunc, .nilFunc, .slice none 0 0, .nilFunc, .nilFunc] 97)).drew)) := hid_intro (by
    refine ⟨((((Below.refl _ _).alloc (Nat.le_refl _) _).alloc (by simp) _).drew), by simp, by simp [go_sem], by simp [go_sem], by simp [go_sem], by simp [go_sem], by simp [go_sem], by simp [go_sem], by simp [go_sem], by simp [go_sem], by simp, fun o ho => ?_, fun o ho => ?_⟩
    · match o, ho with
      | 0, _ => exact ⟨_, by simp [go_sem]; rfl⟩
      | 1, _ => exact ⟨_, by simp [go_sem]; rfl⟩
      | 2, _ => exact ⟨_, by simp [go_sem]; rfl⟩
      | 3, _ => exact ⟨_, by simp [go_sem]; rfl⟩
      | 4, _ => exact ⟨_, by simp [go_sem]; rfl⟩
      | 5, _ => exact ⟨_, by simp [go_sem]; rfl⟩
      | 6, _ => exact ⟨_, by simp [go_sem]; rfl⟩
      | 7, _ => exact ⟨_, by simp [go_sem]; rfl⟩
      | 8, _ => exact ⟨_, by simp [go_sem]; rfl⟩
      | 9, _ => exact ⟨_, by simp [go_sem]; rfl⟩
      | 10, _ => exact ⟨_, by simp [go_sem]; rfl⟩
      | 11, _ => exact ⟨_, by simp [go_sem]; rfl⟩
    · match o, ho with
      | 0, _ => simp [go_sem]
      | 1, _ => simp [go_sem]
      | 2, _ => simp [go_sem]
      | 3, _ => simp [go_sem]
      | 4, _ => simp [go_sem]
      | 5, _ => simp [go_sem]
      | 6, _ => simp [go_sem]
      | 7, _ => simp [go_sem]
      | 8, _ => simp [go_sem]
      | 9, _ => simp [go_sem]
      | 10, _ => simp [go_sem]
      | 11, _ => simp [go_sem]
)
  refine wp_region_held_drew (S := (fun W => Below w.heap.size w W ∧ w.heap.size + 1 < W.heap.size ∧ W.cell? ⟨w.heap.size, 0, none⟩ = some (.string a) ∧ W.cell? ⟨w.heap.size, 1, none⟩ = some (.string m) ∧ W.cell? ⟨w.heap.size, 2, none⟩ = some (.int .i64 mo) ∧ W.cell? ⟨w.heap.size, 3, none⟩ = some (.int .i64 ev) ∧ W.cell? ⟨w.heap.size, 4, none⟩ = some (.int .i64 su) ∧ W.cell? ⟨w.heap.size, 5, none⟩ = some (.int .i64 mx) ∧ W.cell? ⟨w.heap.size, 6, none⟩ = some (.slice ta tl tc) ∧ W.cell? ⟨w.heap.size, 7, none⟩ = some (.slice ha hl hc) ∧ Pt (w.heap.size + 1) 12 W)) (by kernel_rfl) HT0.out (fun hHeld => ?_)
  refine wpAnyH_take (i := 0) (oi := { dst := some 3, op := Op.fieldAddr 32 (Operand.tmp 1) 0, type := 0, pos := "l07_window.go:134", after := #[], guard := none }) (v := ?_) rfl (by kernel_rfl) (by kernel_rfl) (by kernel_rfl) (fun _ _ _ h => h) (Or.inl ⟨by rfl, ?_⟩) (by assumption) ?_
  rotate_left
  · (intro w hSw; (try dsimp only at hSw); go_simp) <;> with_reducible rfl
  try simp only [Act.put, List.setIfInBounds_toArray, List.set_cons_zero, List.set_cons_succ]
  refine wpAnyH_take (i := 1) (oi := { dst := some 4, op := Op.load 9 (Operand.tmp 3), type := 9, pos := "l07_window.go:134", after := #[{ on := 0, ground := Ground.data }], guard := none }) (v := ?_) rfl (by kernel_rfl) (by kernel_rfl) (by kernel_rfl) (fun _ _ _ h => h) (Or.inl ⟨by rfl, ?_⟩) (by assumption) ?_
  rotate_left
  · (intro w hSw; (try dsimp only at hSw); go_simp) <;> with_reducible rfl
  try simp only [Act.put, List.setIfInBounds_toArray, List.set_cons_zero, List.set_cons_succ]
  refine wpAnyH_take (i := 2) (oi := { dst := some 5, op := Op.fieldAddr 32 (Operand.tmp 1) 1, type := 0, pos := "l07_window.go:134", after := #[], guard := none }) (v := ?_) rfl (by kernel_rfl) (by kernel_rfl) (by kernel_rfl) (fun _ _ _ h => h) (Or.inl ⟨by rfl, ?_⟩) (by assumption) ?_
  rotate_left
  · (intro w hSw; (try dsimp only at hSw); go_simp) <;> with_reducible rfl
  try simp only [Act.put, List.setIfInBounds_toArray, List.set_cons_zero, List.set_cons_succ]
  refine wpAnyH_take (i := 3) (oi := { dst := some 6, op := Op.load 9 (Operand.tmp 5), type := 9, pos := "l07_window.go:134", after := #[{ on := 2, ground := Ground.data }], guard := none }) (v := ?_) rfl (by kernel_rfl) (by kernel_rfl) (by kernel_rfl) (fun _ _ _ h => h) (Or.inl ⟨by rfl, ?_⟩) (by assumption) ?_
  rotate_left
  · (intro w hSw; (try dsimp only at hSw); go_simp) <;> with_reducible rfl
  try simp only [Act.put, List.setIfInBounds_toArray, List.set_cons_zero, List.set_cons_succ]
  refine wpAnyH_take (i := 4) (oi := { dst := some 7, op := Op.fieldAddr 32 (Operand.tmp 1) 2, type := 0, pos := "l07_window.go:134", after := #[], guard := none }) (v := ?_) rfl (by kernel_rfl) (by kernel_rfl) (by kernel_rfl) (fun _ _ _ h => h) (Or.inl ⟨by rfl, ?_⟩) (by assumption) ?_
  rotate_left
  · (intro w hSw; (try dsimp only at hSw); go_simp) <;> with_reducible rfl
  try simp only [Act.put, List.setIfInBounds_toArray, List.set_cons_zero, List.set_cons_succ]
  refine wpAnyH_take (i := 5) (oi := { dst := some 8, op := Op.load 2 (Operand.tmp 7), type := 2, pos := "l07_window.go:134", after := #[{ on := 4, ground := Ground.data }], guard := none }) (v := ?_) rfl (by kernel_rfl) (by kernel_rfl) (by kernel_rfl) (fun _ _ _ h => h) (Or.inl ⟨by rfl, ?_⟩) (by assumption) ?_
  rotate_left
  · (intro w hSw; (try dsimp only at hSw); go_simp) <;> with_reducible rfl
  try simp only [Act.put, List.setIfInBounds_toArray, List.set_cons_zero, List.set_cons_succ]
  refine wpAnyH_take (i := 6) (oi := { dst := some 9, op := Op.build 85 #[(0, Operand.tmp 4), (1, Operand.tmp 6), (2, Operand.tmp 8)], type := 85, pos := "l07_window.go:134", after := #[{ on := 1, ground := Ground.data }, { on := 3, ground := Ground.data }, { on := 5, ground := Ground.data }], guard := none }) (v := ?_) rfl (by kernel_rfl) (by kernel_rfl) (by kernel_rfl) (fun _ _ _ h => h) (Or.inl ⟨by rfl, ?_⟩) (by assumption) ?_
  rotate_left
  · (intro w hSw; (try dsimp only at hSw); go_simp) <;> with_reducible rfl
  try simp only [Act.put, List.setIfInBounds_toArray, List.set_cons_zero, List.set_cons_succ]
  refine wpAnyH_take (i := 7) (oi := { dst := some 10, op := Op.fieldAddr 32 (Operand.tmp 1) 3, type := 0, pos := "l07_window.go:134", after := #[], guard := none }) (v := ?_) rfl (by kernel_rfl) (by kernel_rfl) (by kernel_rfl) (fun _ _ _ h => h) (Or.inl ⟨by rfl, ?_⟩) (by assumption) ?_
  rotate_left
  · (intro w hSw; (try dsimp only at hSw); go_simp) <;> with_reducible rfl
  try simp only [Act.put, List.setIfInBounds_toArray, List.set_cons_zero, List.set_cons_succ]
  refine wpAnyH_take (i := 8) (oi := { dst := some 11, op := Op.load 2 (Operand.tmp 10), type := 2, pos := "l07_window.go:134", after := #[{ on := 7, ground := Ground.data }], guard := none }) (v := ?_) rfl (by kernel_rfl) (by kernel_rfl) (by kernel_rfl) (fun _ _ _ h => h) (Or.inl ⟨by rfl, ?_⟩) (by assumption) ?_
  rotate_left
  · (intro w hSw; (try dsimp only at hSw); go_simp) <;> with_reducible rfl
  try simp only [Act.put, List.setIfInBounds_toArray, List.set_cons_zero, List.set_cons_succ]
  refine wpAnyH_take (i := 9) (oi := { dst := some 12, op := Op.fieldAddr 32 (Operand.tmp 1) 4, type := 0, pos := "l07_window.go:134", after := #[], guard := none }) (v := ?_) rfl (by kernel_rfl) (by kernel_rfl) (by kernel_rfl) (fun _ _ _ h => h) (Or.inl ⟨by rfl, ?_⟩) (by assumption) ?_
  rotate_left
  · (intro w hSw; (try dsimp only at hSw); go_simp) <;> with_reducible rfl
  try simp only [Act.put, List.setIfInBounds_toArray, List.set_cons_zero, List.set_cons_succ]
  refine wpAnyH_take (i := 10) (oi := { dst := some 13, op := Op.load 2 (Operand.tmp 12), type := 2, pos := "l07_window.go:134", after := #[{ on := 9, ground := Ground.data }], guard := none }) (v := ?_) rfl (by kernel_rfl) (by kernel_rfl) (by kernel_rfl) (fun _ _ _ h => h) (Or.inl ⟨by rfl, ?_⟩) (by assumption) ?_
  rotate_left
  · (intro w hSw; (try dsimp only at hSw); go_simp) <;> with_reducible rfl
  try simp only [Act.put, List.setIfInBounds_toArray, List.set_cons_zero, List.set_cons_succ]
  refine wpAnyH_take (i := 11) (oi := { dst := some 14, op := Op.fieldAddr 32 (Operand.tmp 1) 5, type := 0, pos := "l07_window.go:134", after := #[], guard := none }) (v := ?_) rfl (by kernel_rfl) (by kernel_rfl) (by kernel_rfl) (fun _ _ _ h => h) (Or.inl ⟨by rfl, ?_⟩) (by assumption) ?_
  rotate_left
  · (intro w hSw; (try dsimp only at hSw); go_simp) <;> with_reducible rfl
  try simp only [Act.put, List.setIfInBounds_toArray, List.set_cons_zero, List.set_cons_succ]
  refine wpAnyH_take (i := 12) (oi := { dst := some 15, op := Op.load 2 (Operand.tmp 14), type := 2, pos := "l07_window.go:134", after := #[{ on := 11, ground := Ground.data }], guard := none }) (v := ?_) rfl (by kernel_rfl) (by kernel_rfl) (by kernel_rfl) (fun _ _ _ h => h) (Or.inl ⟨by rfl, ?_⟩) (by assumption) ?_
  rotate_left
  · (intro w hSw; (try dsimp only at hSw); go_simp) <;> with_reducible rfl
  try simp only [Act.put, List.setIfInBounds_toArray, List.set_cons_zero, List.set_cons_succ]
  refine wpAnyH_take (i := 13) (oi := { dst := some 16, op := Op.build 87 #[(0, Operand.tmp 11), (1, Operand.tmp 13), (2, Operand.tmp 15)], type := 87, pos := "l07_window.go:134", after := #[{ on := 8, ground := Ground.data }, { on := 10, ground := Ground.data }, { on := 12, ground := Ground.data }], guard := none }) (v := ?_) rfl (by kernel_rfl) (by kernel_rfl) (by kernel_rfl) (fun _ _ _ h => h) (Or.inl ⟨by rfl, ?_⟩) (by assumption) ?_
  rotate_left
  · (intro w hSw; (try dsimp only at hSw); go_simp) <;> with_reducible rfl
  try simp only [Act.put, List.setIfInBounds_toArray, List.set_cons_zero, List.set_cons_succ]
  refine wpAnyH_take (i := 14) (oi := { dst := some 17, op := Op.fieldAddr 32 (Operand.tmp 1) 6, type := 0, pos := "l07_window.go:134", after := #[], guard := none }) (v := ?_) rfl (by kernel_rfl) (by kernel_rfl) (by kernel_rfl) (fun _ _ _ h => h) (Or.inl ⟨by rfl, ?_⟩) (by assumption) ?_
  rotate_left
  · (intro w hSw; (try dsimp only at hSw); go_simp) <;> with_reducible rfl
  try simp only [Act.put, List.setIfInBounds_toArray, List.set_cons_zero, List.set_cons_succ]
  refine wpAnyH_take (i := 15) (oi := { dst := some 18, op := Op.load 22 (Operand.tmp 17), type := 22, pos := "l07_window.go:134", after := #[{ on := 14, ground := Ground.data }], guard := none }) (v := ?_) rfl (by kernel_rfl) (by kernel_rfl) (by kernel_rfl) (fun _ _ _ h => h) (Or.inl ⟨by rfl, ?_⟩) (by assumption) ?_
  rotate_left
  · (intro w hSw; (try dsimp only at hSw); go_simp) <;> with_reducible rfl
  try simp only [Act.put, List.setIfInBounds_toArray, List.set_cons_zero, List.set_cons_succ]
  refine wpAnyH_take (i := 17) (oi := { dst := some 20, op := Op.fieldAddr 32 (Operand.tmp 1) 7, type := 0, pos := "l07_window.go:134", after := #[], guard := none }) (v := ?_) rfl (by kernel_rfl) (by kernel_rfl) (by kernel_rfl) (fun _ _ _ h => h) (Or.inl ⟨by rfl, ?_⟩) (by assumption) ?_
  rotate_left
  · (intro w hSw; (try dsimp only at hSw); go_simp) <;> with_reducible rfl
  try simp only [Act.put, List.setIfInBounds_toArray, List.set_cons_zero, List.set_cons_succ]
  refine wpAnyH_take (i := 18) (oi := { dst := some 21, op := Op.load 30 (Operand.tmp 20), type := 30, pos := "l07_window.go:134", after := #[{ on := 17, ground := Ground.data }], guard := none }) (v := ?_) rfl (by kernel_rfl) (by kernel_rfl) (by kernel_rfl) (fun _ _ _ h => h) (Or.inl ⟨by rfl, ?_⟩) (by assumption) ?_
  rotate_left
  · (intro w hSw; (try dsimp only at hSw); go_simp) <;> with_reducible rfl
  try simp only [Act.put, List.setIfInBounds_toArray, List.set_cons_zero, List.set_cons_succ]
  refine wpAnyH_ready (rs := [16]) (by kernel_rfl) (by simp) ?_
  refine AllReadyH.cons (o := { dst := some 19, op := Op.call { callee := Callee.value (Operand.func 59), args := #[Operand.tmp 18], argTypes := #[22] }, type := 91, pos := "l07_window.go:137", after := #[{ on := 15, ground := Ground.data }], guard := none }) rfl (fun K hK => ?_) AllReadyH.nil
  go_simp
  go_at_call 59
  refine (impl_rtags _ _ _ _).mono ?_
  rintro e q1 ⟨rfl, hq1⟩
  try go_wp2_with fail
  have hk1 := UBx.below (w := w) (a := a) (m := m) (mo := mo) (ev := ev) (su := su) (mx := mx) (ta := ta) (tl := tl) (tc := tc) (ha := ha) (hl := hl) (hc := hc) HT0.out hq1
  refine hK.out _ _ hk1 (fun _ => ?_)
  clear hK K
  try simp only [Act.put, List.setIfInBounds_toArray, List.set_cons_zero, List.set_cons_succ]
  refine wpAnyH_ready (rs := [19]) (by kernel_rfl) (by simp) ?_
  refine AllReadyH.cons (o := { dst := some 22, op := Op.call { callee := Callee.value (Operand.func 60), args := #[Operand.tmp 21], argTypes := #[30] }, type := 95, pos := "l07_window.go:138", after := #[{ on := 18, ground := Ground.data }, { on := 16, ground := Ground.chain }], guard := none }) rfl (fun K hK => ?_) AllReadyH.nil
  go_simp
  go_at_call 60
  refine (impl_rhours _ _ _ _).mono ?_
  rintro e q2 ⟨rfl, hq2⟩
  try go_wp2_with fail
  have hk2 := UBx.below (w := w) (a := a) (m := m) (mo := mo) (ev := ev) (su := su) (mx := mx) (ta := ta) (tl := tl) (tc := tc) (ha := ha) (hl := hl) (hc := hc) hk1 hq2
  refine hK.out _ _ hk2 (fun _ => ?_)
  clear hK K
  try simp only [Act.put, List.setIfInBounds_toArray, List.set_cons_zero, List.set_cons_succ]
  refine wpAnyH_take (i := 20) (oi := { dst := some 23, op := Op.build 97 #[(0, Operand.tmp 9), (1, Operand.tmp 16), (2, Operand.tmp 19), (3, Operand.tmp 22)], type := 97, pos := "l07_window.go:134", after := #[{ on := 6, ground := Ground.data }, { on := 13, ground := Ground.data }, { on := 16, ground := Ground.data }, { on := 19, ground := Ground.data }], guard := none }) (v := ?_) rfl (by kernel_rfl) (by kernel_rfl) (by kernel_rfl) (fun _ _ _ h => h) (Or.inl ⟨by rfl, ?_⟩) (by assumption) ?_
  rotate_left
  · (intro w hSw; (try dsimp only at hSw); go_simp) <;> with_reducible rfl
  try simp only [Act.put, List.setIfInBounds_toArray, List.set_cons_zero, List.set_cons_succ]
  obtain ⟨v0, v1, v2, v3, v4, v5, v6, v7, v8, v9, v10, v11, r0, r1, r2, r3, r4, r5, r6, r7, r8, r9, r10, r11, z0, z1, z2, z3, z4, z5, z6, z7, z8, z9, z10, z11⟩ := UBx.out (w := w) (a := a) (m := m) (mo := mo) (ev := ev) (su := su) (mx := mx) (ta := ta) (tl := tl) (tc := tc) (ha := ha) (hl := hl) (hc := hc) hk2
  have hlt := hk2.2.1
  refine wpAnyH_ready (rs := [21]) (by kernel_rfl) (by simp) ?_
  refine AllReadyH.cons (o := { dst := none, op := Op.store 97 (Operand.tmp 2) (Operand.tmp 23), type := 0, pos := "l07_window.go:134", after := #[{ on := 20, ground := Ground.data }, { on := 19, ground := Ground.chain }, { on := 0, ground := Ground.phase }, { on := 1, ground := Ground.phase }, { on := 2, ground := Ground.phase }, { on := 3, ground := Ground.phase }, { on := 4, ground := Ground.phase }, { on := 5, ground := Ground.phase }, { on := 6, ground := Ground.phase }, { on := 7, ground := Ground.phase }, { on := 8, ground := Ground.phase }, { on := 9, ground := Ground.phase }, { on := 10, ground := Ground.phase }, { on := 11, ground := Ground.phase }, { on := 12, ground := Ground.phase }, { on := 13, ground := Ground.phase }, { on := 14, ground := Ground.phase }, { on := 15, ground := Ground.phase }, { on := 16, ground := Ground.phase }, { on := 17, ground := Ground.phase }, { on := 18, ground := Ground.phase }, { on := 19, ground := Ground.phase }, { on := 20, ground := Ground.phase }], guard := none }) rfl (fun K hK => ?_) AllReadyH.nil
  go_simp
  try go_wp2_with fail
  have hk3 := (UBx.put (w := w) (a := a) (m := m) (mo := mo) (ev := ev) (su := su) (mx := mx) (ta := ta) (tl := tl) (tc := tc) (ha := ha) (hl := hl) (hc := hc) (UBx.put (w := w) (a := a) (m := m) (mo := mo) (ev := ev) (su := su) (mx := mx) (ta := ta) (tl := tl) (tc := tc) (ha := ha) (hl := hl) (hc := hc) (UBx.put (w := w) (a := a) (m := m) (mo := mo) (ev := ev) (su := su) (mx := mx) (ta := ta) (tl := tl) (tc := tc) (ha := ha) (hl := hl) (hc := hc) (UBx.put (w := w) (a := a) (m := m) (mo := mo) (ev := ev) (su := su) (mx := mx) (ta := ta) (tl := tl) (tc := tc) (ha := ha) (hl := hl) (hc := hc) (UBx.put (w := w) (a := a) (m := m) (mo := mo) (ev := ev) (su := su) (mx := mx) (ta := ta) (tl := tl) (tc := tc) (ha := ha) (hl := hl) (hc := hc) (UBx.put (w := w) (a := a) (m := m) (mo := mo) (ev := ev) (su := su) (mx := mx) (ta := ta) (tl := tl) (tc := tc) (ha := ha) (hl := hl) (hc := hc) (UBx.put (w := w) (a := a) (m := m) (mo := mo) (ev := ev) (su := su) (mx := mx) (ta := ta) (tl := tl) (tc := tc) (ha := ha) (hl := hl) (hc := hc) (UBx.put (w := w) (a := a) (m := m) (mo := mo) (ev := ev) (su := su) (mx := mx) (ta := ta) (tl := tl) (tc := tc) (ha := ha) (hl := hl) (hc := hc) (UBx.put (w := w) (a := a) (m := m) (mo := mo) (ev := ev) (su := su) (mx := mx) (ta := ta) (tl := tl) (tc := tc) (ha := ha) (hl := hl) (hc := hc) (UBx.put (w := w) (a := a) (m := m) (mo := mo) (ev := ev) (su := su) (mx := mx) (ta := ta) (tl := tl) (tc := tc) (ha := ha) (hl := hl) (hc := hc) (UBx.put (w := w) (a := a) (m := m) (mo := mo) (ev := ev) (su := su) (mx := mx) (ta := ta) (tl := tl) (tc := tc) (ha := ha) (hl := hl) (hc := hc) (UBx.put (w := w) (a := a) (m := m) (mo := mo) (ev := ev) (su := su) (mx := mx) (ta := ta) (tl := tl) (tc := tc) (ha := ha) (hl := hl) (hc := hc) hk2 0 (.string a)) 1 (.string m)) 2 (.int .i64 mo)) 3 (.int .i64 ev)) 4 (.int .i64 su)) 5 (.int .i64 mx)) 6 (.slice ta tl tc)) 7 (.func (.func 88) #[] #[])) 8 (.func (.func 89) #[] #[])) 9 (.slice ha hl hc)) 10 (.func (.func 90) #[] #[])) 11 (.func (.func 91) #[] #[]))
  refine hK.out _ _ hk3 (fun _ => ?_)
  clear hK K
  try simp only [Act.put, List.setIfInBounds_toArray, List.set_cons_zero, List.set_cons_succ]
  refine wpAnyH_done (by kernel_rfl) ?_ _
  have HB := hid_intro hk3.1
  clear hk3 hk2 hk1
  go_wp2_with fail
  refine bodyPost_ret (v := .agg #[.string a, .string m, .int .i64 mo, .int .i64 ev, .int .i64 su, .int .i64 mx, .slice ta tl tc, .func (.func 88) #[] #[], .func (.func 89) #[] #[], .slice ha hl hc, .func (.func 90) #[] #[], .func (.func 91) #[] #[]]) (by simp [results, Tryd.results53, go_sem, r0, r1, r2, r3, r4, r5, r6, r7, r8, r9, r10, r11]) rfl ⟨rfl, HB.out⟩
end WinR
end Go.Proofs.YtnlmpejgiakepaaDoor
namespace Go.Proofs.YtnlmpejgiakepaaDoor
open Go.ChangeShapes Go.WideShapes Go.ChangeAt Go.RowKit
set_option linter.unusedVariables false
namespace CloneR
theorem hid_intro {p : Prop} (h : p) : Hid p := h
theorem info8 : (Tryd.prog.info? 5).map (fun i => (i.zero, i.size, i.bytes)) = some (some (.int .u8 0), 1, 1) := by kernel_rfl
set_option maxHeartbeats 4000000 in
set_option maxRecDepth 100000 in
theorem lite_any (s : ByteArray) (w : World) (hlim : s.size ≤ 281474976710656) :
    Calls Tryd.prog 107 #[.string s] w fun e w' => e = .returned (.string s) ∧ Below w.heap.size w w' := by
  by_cases h0 : s.size = 0
  · obtain rfl : s = ⟨#[]⟩ := ByteArray.ext (Array.eq_empty_of_size_eq_zero h0)
    go_enter Tryd.func107, Tryd.ntmps107
    go_wp2
    go_ret
    exact ⟨rfl, Below.refl _ _⟩
  · obtain ⟨i0, hi, hz0, hz1, hz2⟩ := info_parts info8
    have hone : (Tryd.prog.info? 5).map (·.size) = some 1 := by rw [hi]; simp [hz1]
    have hcells : Tryd.prog.cellsOf 5 = 1 := by simp [Program.cellsOf, hi, hz1]
    obtain ⟨M, hM⟩ : ∃ M, M = madeCells (Value.int .u8 0).cells (((s.size : Nat) : Int).toNat * i0.size) := ⟨_, rfl⟩
    have hMs : M.size = s.size := by rw [hM, size_madeCells, hz1]; simp
    have hmake : ∀ W : World, (Instr.makeSlice 118 (.int .i64 (s.size : Int)) (.int .i64 (s.size : Int))).run Tryd.prog W = .ok (.slice (some ⟨W.heap.size, 0, none⟩) s.size s.size) (W.alloc (.cells M 5)) := fun W => by
      have h := run_make (P := Tryd.prog) W 118 5 i0 (.int .u8 0) Tryd.underlying118 hi hz0 .i64 .i64 (s.size : Int) (s.size : Int) (by omega) (by omega) (by rw [hz2]; omega) (by omega)
      rw [← hM] at h
      simpa using h
    clear hM
    have hcopy := Lib.run_copy_row_string (P := Tryd.prog) (w.alloc (.cells M 5)) 118 9 3 5 w.heap.size 0 s.size s.size s M 5 Tryd.underlying118 hone (heap_alloc_new w _) (Nat.le_refl _) (by omega)
    obtain ⟨Y, hY⟩ : ∃ Y, Y = (M.toList.take 0 ++ Lib.byteCells s.data.toList ++ M.toList.drop (0 + s.size)).toArray := ⟨_, rfl⟩
    rw [← hY] at hcopy
    have hYl : Y.toList = Lib.byteCells s.data.toList := by
      rw [hY, List.toList_toArray, List.take_zero, List.nil_append, List.drop_of_length_le (by rw [Array.length_toList]; omega), List.append_nil]
    have hYs : Y.size = s.size := by rw [← Array.length_toList, hYl, Lib.byteCells_length, ← Lib.size_eq]
    have hg : ((w.alloc (.cells M 5)).setRow w.heap.size Y).heap[w.heap.size]? = some (.cells Y 5 (0, 0)) := setRow_heap _ _ M _ 5 (0, 0) (heap_alloc_new w _)
    have hne : s.data.toList ≠ [] := fun e => h0 (by rw [Lib.size_eq, e]; rfl)
    have hstr := Lib.run_unsafeString_row (P := Tryd.prog) ((w.alloc (.cells M 5)).setRow w.heap.size Y) 137 3 9 5 Tryd.underlying137 hcells w.heap.size Y.size (by unfold World.shape?; rw [hg]) s.data.toList hne (by rw [← Lib.size_eq]; omega) (by rw [← Lib.size_eq]; omega)
      (fun j x hx => Lib.cells_of_row hg Y.size j _ (by rw [List.take_of_length_le (by rw [Array.length_toList]; exact Nat.le_refl _), hYl]; simp [Lib.byteCells, hx]))
    rw [← Lib.size_eq] at hstr
    clear hY
    go_enter Tryd.func107, Tryd.ntmps107
    go_wp2
    go_ret
    have b1 : Below w.heap.size w (w.alloc (.cells M 5)) := (Below.refl _ w).alloc (Nat.le_refl _) _
    have b2 : Below w.heap.size (w.alloc (.cells M 5)) ((w.alloc (.cells M 5)).setRow w.heap.size Y) := ⟨rfl, rfl, rfl, by simp, fun k hk => setRow_other _ _ _ _ (by omega)⟩
    exact ⟨rfl, Lib.below_freeze (b1.trans b2) (p := ⟨w.heap.size, 0, none⟩) (Nat.le_refl _) _⟩
theorem clone_any (s : ByteArray) (w : World) (hlim : s.size ≤ 281474976710656) :
    Calls Tryd.prog 80 #[.string s] w fun e w' => e = .returned (.string s) ∧ Below w.heap.size w w' := by
  have H := hid_intro (fun w => lite_any s w hlim)
  go_enter Tryd.func80, Tryd.ntmps80
  go_wp2_with (go_at_call 107; refine (H.out _).mono ?_; rintro e w1 ⟨rfl, hb⟩)
  go_ret
  exact ⟨rfl, hb⟩
end CloneR
end Go.Proofs.YtnlmpejgiakepaaDoor
namespace Go.Proofs.YtnlmpejgiakepaaDoor
open Go.ChangeShapes Go.WideShapes Go.ChangeAt Go.RowKit
set_option linter.unusedVariables false
namespace WinR
open CatR (Blk)
theorem own_drew {w : World} {base e size n : Nat} {v : Value} {xs : List Value} (h : w.ownsRow base e size v n xs) : w.drew.ownsRow base e size v n xs := h
theorem step_append_own {P : Program} {w : World} {ops : Array Oper} {o : Oper} {a : Act} {K : Act → World → Prop} {Q : Exit → Act → World → Prop} {E : Prop} (hgd : o.guard = none) (s x : Operand) (t : TypeId)
    (ho : o.op = .call { callee := .builtin .append, args := #[s, x], argTypes := #[t, t] })
    (base : Nat) (e : TypeId) (i : TypeInfo) (z : Value) (size bytes : Nat) (ht : P.underlying t = some (.slice e)) (hi : P.info? e = some i) (hz : i.zero = some z)
    (hsize : i.size = size) (hby : i.bytes = bytes) (hzs : z.cells.size = size) (hsz : 0 < size)
    (v : Value) (n : Nat) (xs : List Value) (hs : a.eval s = v) (hown : w.ownsRow base e size v n xs)
    (ad : Addr) (m c : Nat) (news : List Value) (hx : a.eval x = .slice (some ad) m c) (hl : news.length = m * size) (hnews : ∀ j u, news[j]? = some u → w.cell? (ad.add j) = some u) (h1 : ∀ u ∈ news, u.oneCell' = true)
    (h63 : n + m ≤ maxLen) (hbytes : (n + m) * bytes ≤ 140737488355328) (hbase : base ≤ w.heap.size)
    (h : ∀ v' w', w'.ownsRow base e size v' (n + m) (xs ++ news) → w.grownBy w' v.ownBlock → (v' = .slice none 0 0 ↔ v = .slice none 0 0 ∧ m = 0) → K (a.put o.dst v') w') : if Region.wanted o (yielded ops a.tmps) = true then Oper.wp P o a w K Q else E := by
  have hw : Region.wanted o (yielded ops a.tmps) = true := by simp [Region.wanted, hgd]
  rw [if_pos hw]
  exact wp_append_own w s x t ho base e i z size bytes ht hi hz hsize hby hzs hsz v n xs hs hown ad m c news hx hl hnews h1 h63 hbytes hbase h
theorem own_base {w : World} {base e size n : Nat} {v : Value} {xs : List Value} (h : w.ownsRow base e size v n xs) (hv : v ≠ .slice none 0 0) : base ≤ w.heap.size := by
  rcases h.2 with ⟨h0, _⟩ | ⟨g, cap, cur, h1, h2, hg, _⟩
  · exact absurd h0 hv
  · have := (Array.getElem?_eq_some_iff.1 hg).1
    omega
theorem two_cells (w : World) (x y : ByteArray) (T : TypeId) : ∀ j u, [Value.string x, Value.string y][j]? = some u → (w.alloc (.cells #[.string x, .string y] T)).cell? ((⟨w.heap.size, 0, none⟩ : Addr).add j) = some u := by
  intro j u hj
  match j, hj with
  | 0, hj => simp at hj; subst hj; simp [Addr.add]
  | 1, hj => simp at hj; subst hj; simp [Addr.add, go_sem]
theorem two_one (x y : ByteArray) : ∀ u ∈ [Value.string x, Value.string y], u.oneCell' = true := by
  intro u hu
  simp at hu
  rcases hu with rfl | rfl <;> rfl
theorem one_cell (w : World) (x : ByteArray) (T : TypeId) : ∀ j u, [Value.string x][j]? = some u → (w.alloc (.cells #[.string x] T)).cell? ((⟨w.heap.size, 0, none⟩ : Addr).add j) = some u := by
  intro j u hj
  match j, hj with
  | 0, hj => simp at hj; subst hj; simp [Addr.add]
theorem one_one (x : ByteArray) : ∀ u ∈ [Value.string x], u.oneCell' = true := by
  intro u hu
  simp at hu
  subst hu; rfl
theorem blk_grown {b : Nat} {cs : List Value} {w w' : World} {row : Option Nat} (h : Blk b cs w) (hg : w.grownBy w' row) (hne : some b ≠ row) : Blk b cs w' := by
  have e := hg.block b h.1 hne
  exact ⟨by have := hg.size; have := h.1; omega, fun i hi => (World.cell?_of_block (a := ⟨b, i, none⟩) e).trans (h.2 i hi)⟩
end WinR
end Go.Proofs.YtnlmpejgiakepaaDoor
namespace Go.Proofs.YtnlmpejgiakepaaDoor
open Go.ChangeShapes Go.WideShapes Go.ChangeAt Go.RowKit
set_option linter.unusedVariables false
namespace WinR
open RowG (MadeG Rws cellsAll cellsAll_len cellsAll_get own_made take_more getD_mem own_set)
open EvtR (Pt)
open CatR (Blk Blk.new)
theorem hrs_cells {b off : Nat} {hs : List H} {w : World} (h : Hrs (some ⟨b, off, none⟩) hs w) : ∀ j u, (cellsAll H.cells hs)[j]? = some u → w.cell? ⟨b, off + j, none⟩ = some u := by
  intro j u hj
  have hlt := (List.getElem?_eq_some_iff.1 hj).1
  rw [cellsAll_len H.len hs] at hlt
  have e : j = (j / 2) * 2 + j % 2 := by omega
  have hi : j / 2 < hs.length := by omega
  rw [e, cellsAll_get (z := H.zero) H.len hs (j / 2) (j % 2) hi (by omega)] at hj
  rcases h with h0 | ⟨b', off', he, _, hc⟩
  · omega
  · simp only [Option.some.injEq, Addr.mk.injEq, and_true] at he
    obtain ⟨rfl, rfl⟩ := he
    have := hc (j / 2) hi (j % 2) (by omega)
    rw [show off + j = off + j / 2 * 2 + j % 2 by omega, this]
    exact hj
theorem hrs_one (hs : List H) : ∀ v ∈ cellsAll H.cells hs, v.oneCell' = true := by
  intro v hv
  simp only [cellsAll, List.mem_flatMap, H.cells, List.mem_cons, List.not_mem_nil, or_false] at hv
  obtain ⟨x, _, rfl | rfl⟩ := hv <;> rfl
/-- A list's address and room. -/
def SlOk (ao : Option Addr) (n c : Nat) : Prop := (ao = none ∧ n = 0 ∧ c = 0) ∨ (∃ b off, ao = some ⟨b, off, none⟩ ∧ n ≤ c ∧ c ≤ maxLen)
theorem own_slok {w : World} {base e size n l c : Nat} {ao : Option Addr} {xs : List Value} (h : w.ownsRow base e size (.slice ao l c) n xs) : SlOk ao l c := by
  rcases h.2 with ⟨h0, _⟩ | ⟨g, cap, cur, hv, _, _, hc, hm, _⟩
  · simp only [Value.slice.injEq] at h0
    exact .inl h0
  · simp only [Value.slice.injEq] at hv
    obtain ⟨rfl, rfl, rfl⟩ := hv
    exact .inr ⟨g, 0, rfl, hc, hm⟩
/-- The room of a window's lists. -/
def SlW (v : Value) : Prop := ∃ a m mo ev su mx ta tl tc ha hl hc, v = .agg #[.string a, .string m, .int .i64 mo, .int .i64 ev, .int .i64 su, .int .i64 mx, .slice ta tl tc, .slice ha hl hc] ∧ SlOk ta tl tc ∧ SlOk ha hl hc
def MadeWS (base : Nat) (x : Wd) (v : Value) (w : World) : Prop := MadeW base x v w ∧ SlW v
set_option maxRecDepth 100000 in
set_option maxHeartbeats 4000000 in
theorem clone_hrs (b off cap : Nat) (hs : List H) (w : World) (h5 : hs.length ≤ 1048576) (hI : Hrs (some ⟨b, off, none⟩) hs w) :
    Calls Tryd.prog 81 #[.slice (some ⟨b, off, none⟩) hs.length cap] w fun e w' => ∃ ao cp, e = .returned (.slice ao hs.length cp) ∧ (MadeG 2 H.cells H.zero w.heap.size ao hs w' ∧ SlOk ao hs.length cp) ∧ Below w.heap.size w w' := by
  obtain ⟨i0, hi, hz0, hz1, hz2⟩ := info_parts infoH
  have HC := hid_intro (hrs_cells hI)
  have HL := hid_intro (cellsAll_len H.len hs)
  have H1 := hid_intro (hrs_one hs)
  have HM : Hid (∀ v w', w'.ownsRow w.heap.size 65 2 v hs.length (cellsAll H.cells hs) → ∃ ao cp, v = .slice ao hs.length cp ∧ (MadeG 2 H.cells H.zero w.heap.size ao hs w' ∧ SlOk ao hs.length cp)) := hid_intro (fun v w' h => by
    obtain ⟨ao, cp, rfl, hm⟩ := own_made (z := H.zero) H.len h
    exact ⟨ao, cp, rfl, hm, own_slok h⟩)
  generalize MadeG 2 H.cells H.zero w.heap.size = M at *
  generalize cellsAll H.cells hs = C at *
  generalize hs.length = len at *
  clear hI
  have hnil := fun W => Lib.run_eql_slice_nil (P := Tryd.prog) W 30 65 (some ⟨b, off, none⟩) len cap 0 0 Tryd.underlying30
  have HE0 : Hid ((w.alloc (.cells #[] 65)).ownsRow w.heap.size 65 2 (.slice (some ⟨w.heap.size, 0, none⟩) 0 0) 0 []) := hid_intro (World.ownsRow_made w #[] 0 (Nat.le_refl _) (by unfold maxLen; omega) (by simp))
  have HN : Hid (∀ j u, C[j]? = some u → (w.alloc (.cells #[] 65)).cell? ((⟨b, off, none⟩ : Addr).add j) = some u) := hid_intro (fun j u hj => by
    have h := HC.out j u hj
    rw [Addr.add_lit]
    exact (((Below.refl w.heap.size w).alloc (Nat.le_refl _) _).cell (p := ⟨b, off + j, none⟩) (World.block_lt_of_cell? w ⟨b, off + j, none⟩ h)).trans h)
  go_enter Tryd.func81, Tryd.ntmps81
  go_wp2_with (at_builtin; refine wpList_append_own _ rfl _ _ 30 rfl w.heap.size 65 i0 (.agg #[.int .i64 0, .int .i64 0]) 2 16 Tryd.underlying30 hi hz0 hz1 hz2 rfl (by decide) _ _ _ rfl HE0.out ⟨b, off, none⟩ len cap C rfl HL.out HN.out H1.out (by unfold maxLen; omega) (by omega) (by simp) ?_)
  intro v1 w1 hown hgrow hne
  have HO : Hid (w1.ownsRow w.heap.size 65 2 v1 len C) := hid_intro (by first | exact hown | simpa using hown)
  have HB : Hid (Below w.heap.size w w1) := hid_intro (((Below.refl _ _).alloc (Nat.le_refl _) _).grown hgrow (by simp) (fun k e => by simp [Value.ownBlock] at e; omega))
  obtain ⟨ao, cp, rfl, hm⟩ := HM.out _ _ HO.out
  have HMM := hid_intro hm
  clear hown hgrow hne hm
  go_wp2_with fail
  go_ret
  exact ⟨_, _, rfl, HMM.out, HB.out⟩
theorem own_slice {w : World} {base e size n : Nat} {v : Value} {xs : List Value} (h : w.ownsRow base e size v n xs) : ∃ a l c, v = .slice a l c := by
  rcases h.2 with ⟨h0, _⟩ | ⟨g, cap, cur, hv, _⟩
  · exact ⟨_, _, _, h0⟩
  · exact ⟨_, _, _, hv⟩
/-- What the round's region reads: the tags so far. -/
def VWx (W0 : World) (V : Nat) (tv : Value) (W : World) : Prop := Below W0.heap.size W0 W ∧ V < W.heap.size ∧ W.cell? ⟨V, 6, none⟩ = some tv ∧ W.frozen? ⟨V, 6, none⟩ = false
theorem VWx.below {W0 : World} {V : Nat} {tv : Value} {W W' : World} (h : VWx W0 V tv W) (hb : Below W.heap.size W W') : VWx W0 V tv W' :=
  ⟨h.1.trans (hb.mono h.1.size), Nat.lt_of_lt_of_le h.2.1 hb.size, (hb.cell (p := ⟨V, 6, none⟩) h.2.1).trans h.2.2.1, (hb.frozen (p := ⟨V, 6, none⟩) h.2.1).trans h.2.2.2⟩
theorem VWx.grown {W0 : World} {V : Nat} {tv : Value} {W W' : World} {row : Option Nat} (h : VWx W0 V tv W) (hg : W.grownBy W' row) (hr : ∀ g, row = some g → V + 1 ≤ g) (hV : W0.heap.size ≤ V) : VWx W0 V tv W' := by
  have e := hg.block V h.2.1 (fun q => by have := hr V q.symm; omega)
  exact ⟨h.1.grown hg h.1.size (fun k q => by have := hr k q; omega), Nat.lt_of_lt_of_le h.2.1 hg.size, (World.cell?_of_block (a := ⟨V, 6, none⟩) e).trans h.2.2.1, (World.frozen?_of_block (a := ⟨V, 6, none⟩) e).trans h.2.2.2⟩
theorem BlkW.grown {b : Nat} {cs : List Value} {w w' : World} {row : Option Nat} (h : BlkW b cs w) (hg : w.grownBy w' row) (hne : some b ≠ row) : BlkW b cs w' := by
  have e := hg.block b h.1.1 hne
  exact ⟨⟨Nat.lt_of_lt_of_le h.1.1 hg.size, fun i hi => (World.cell?_of_block (a := ⟨b, i, none⟩) e).trans (h.1.2 i hi)⟩, fun i hi => (World.frozen?_of_block (a := ⟨b, i, none⟩) e).trans (h.2 i hi)⟩
/-- What the first region reads. -/
def UWx (w W0 : World) (a m : ByteArray) (mo ev su mx : Int) (W : World) : Prop := Below W0.heap.size W0 W ∧ w.heap.size < W0.heap.size ∧ W.cell? ⟨w.heap.size, 0, none⟩ = some (.string a) ∧ W.cell? ⟨w.heap.size, 1, none⟩ = some (.string m) ∧ W.cell? ⟨w.heap.size, 2, none⟩ = some (.int .i64 mo) ∧ W.cell? ⟨w.heap.size, 3, none⟩ = some (.int .i64 ev) ∧ W.cell? ⟨w.heap.size, 4, none⟩ = some (.int .i64 su) ∧ W.cell? ⟨w.heap.size, 5, none⟩ = some (.int .i64 mx)
theorem UWx.below {w W0 : World} {a m : ByteArray} {mo ev su mx : Int} {W W' : World} (h : UWx w W0 a m mo ev su mx W) (hb : Below W.heap.size W W') : UWx w W0 a m mo ev su mx W' := by
  obtain ⟨h0, h1, c0, c1, c2, c3, c4, c5⟩ := h
  have c := fun o => hb.cell (p := ⟨w.heap.size, o, none⟩) (Nat.lt_of_lt_of_le h1 h0.size)
  exact ⟨h0.trans (hb.mono h0.size), h1, (c 0).trans c0, (c 1).trans c1, (c 2).trans c2, (c 3).trans c3, (c 4).trans c4, (c 5).trans c5⟩
theorem UWx.put {w W0 : World} {a m : ByteArray} {mo ev su mx : Int} {W : World} (h : UWx w W0 a m mo ev su mx W) (V o : Nat) (v : Value) (hV : W0.heap.size ≤ V) : UWx w W0 a m mo ev su mx (W.setCell ⟨V, o, none⟩ v) := by
  obtain ⟨h0, h1, c0, c1, c2, c3, c4, c5⟩ := h
  have e := (RowG.grown_set W V o v).block w.heap.size (Nat.lt_of_lt_of_le h1 h0.size) (by simp; omega)
  have c := fun k => World.cell?_of_block (a := ⟨w.heap.size, k, none⟩) e
  exact ⟨h0.setCell hV _, h1, (c 0).trans c0, (c 1).trans c1, (c 2).trans c2, (c 3).trans c3, (c 4).trans c4, (c 5).trans c5⟩
set_option maxRecDepth 100000 in
set_option maxHeartbeats 16000000 in
theorem win_in (a m : ByteArray) (mo ev su mx : Int) (ts : List ByteArray) (ta : Option Addr) (tc : Nat) (hs : List H) (hb ho hc : Nat) (w : World) (la : a.size ≤ 1048576) (lm : m.size ≤ 1048576) (lt : ts.length ≤ 1048576) (lts : ∀ t ∈ ts, t.size ≤ 1048576) (lh : hs.length ≤ 1048576) (hT : Tgs ta ts w) (hH : Hrs (some ⟨hb, ho, none⟩) hs w) :
    Calls Tryd.prog 56 #[.agg #[.string a, .string m, .int .i64 mo, .int .i64 ev, .int .i64 su, .int .i64 mx, .slice ta ts.length tc, .func (.func 88) #[] #[], .func (.func 89) #[] #[], .slice (some ⟨hb, ho, none⟩) hs.length hc, .func (.func 90) #[] #[], .func (.func 91) #[] #[]]] w fun e w' => ∃ v, e = .returned v ∧ MadeWS w.heap.size ⟨a, m, mo, ev, su, mx, ts, hs⟩ v w' ∧ Below w.heap.size w w' := by
  obtain ⟨i0, hi, hz0, hz1, hz2⟩ := info_parts infoT
  have C1 := hid_intro (fun w => CloneR.clone_any a w (by omega))
  have C2 := hid_intro (fun w => CloneR.clone_any m w (by omega))
  have HT := hid_intro hT
  have HLT := hid_intro lts
  have HCH := hid_intro (fun W (hW : Below w.heap.size w W) => clone_hrs hb ho hc hs W lh (hH.below hW))
  have HF : Hid (∀ W V tv ha cp, w.heap.size ≤ V → W.ownsRow (V + 1) 9 1 tv ts.length (cellsAll tcells ts) → MadeG 2 H.cells H.zero w.heap.size ha hs W → (∀ g, tv.ownBlock = some g → ∀ b o, ha = some ⟨b, o, none⟩ → hs.length ≠ 0 → g ≠ b) → SlOk ha hs.length cp → ∃ ta' tc', tv = .slice ta' ts.length tc' ∧ MadeWS w.heap.size ⟨a, m, mo, ev, su, mx, ts, hs⟩ (.agg #[.string a, .string m, .int .i64 mo, .int .i64 ev, .int .i64 su, .int .i64 mx, tv, .slice ha hs.length cp]) W) := hid_intro (fun W V tv ha cp hV h1 h2 h3 h4 => by
    obtain ⟨ta', tc', rfl, hm⟩ := own_made (z := tz) t_len h1
    refine ⟨ta', tc', rfl, ⟨ta', tc', ha, cp, rfl, hm.low (by omega), h2, ?_⟩, _, _, _, _, _, _, _, _, _, _, _, _, rfl, own_slok h1, h4⟩
    rcases hm.own with h0 | ⟨g, e1, _, _⟩
    · exact .inl h0
    · by_cases hh0 : hs.length = 0
      · exact .inr (.inl hh0)
      · refine .inr (.inr (fun b o b' o' q1 q2 => ?_))
        have := h3 g (by rw [e1]; rfl) b' o' q2 hh0
        rw [e1] at q1
        simp at q1
        omega)
  generalize MadeWS w.heap.size ⟨a, m, mo, ev, su, mx, ts, hs⟩ = M at *
  obtain ⟨tl, htl⟩ : ∃ tl, tl = ts.length := ⟨_, rfl⟩
  obtain ⟨hl, hhl⟩ : ∃ hl, hl = hs.length := ⟨_, rfl⟩
  have HTL := hid_intro htl
  have HHL := hid_intro hhl
  rw [← htl] at lt HF ⊢
  rw [← hhl] at lh HCH HF ⊢
  clear hT hH lts htl hhl
  obtain ⟨W0, hW0⟩ : ∃ W0, W0 = (w.alloc (.cells #[.string a, .string m, .int .i64 mo, .int .i64 ev, .int .i64 su, .int .i64 mx, .slice ta tl tc, .func (.func 88) #[] #[], .func (.func 89) #[] #[], .slice (some ⟨hb, ho, none⟩) hl hc, .func (.func 90) #[] #[], .func (.func 91) #[] #[]] 97)).alloc (.cells #[.string ⟨#[]⟩, .string ⟨#[]⟩, .int .i64 0, .int .i64 0, .int .i64 0, .int .i64 0, .slice none 0 0, .slice none 0 0] 32) := ⟨_, rfl⟩
  have HW0 := hid_intro hW0
  have HB0 : Hid (Below w.heap.size w W0) := hid_intro (by rw [hW0]; exact ((Below.refl _ _).alloc (Nat.le_refl _) _).alloc (by simp) _)
  have HX0 : Hid (Blk w.heap.size [.string a, .string m, .int .i64 mo, .int .i64 ev, .int .i64 su, .int .i64 mx, .slice ta tl tc, .func (.func 88) #[] #[], .func (.func 89) #[] #[], .slice (some ⟨hb, ho, none⟩) hl hc, .func (.func 90) #[] #[], .func (.func 91) #[] #[]] W0) := hid_intro (by rw [hW0]; exact (Blk.new w _ _).below ((Below.refl _ _).alloc (Nat.le_refl _) _))
  have HY0 : Hid (BlkW (w.heap.size + 1) [.string ⟨#[]⟩, .string ⟨#[]⟩, .int .i64 0, .int .i64 0, .int .i64 0, .int .i64 0, .slice none 0 0, .slice none 0 0] W0) := hid_intro (by
    have h := BlkW.new (w.alloc (.cells #[.string a, .string m, .int .i64 mo, .int .i64 ev, .int .i64 su, .int .i64 mx, .slice ta tl tc, .func (.func 88) #[] #[], .func (.func 89) #[] #[], .slice (some ⟨hb, ho, none⟩) hl hc, .func (.func 90) #[] #[], .func (.func 91) #[] #[]] 97)) [.string ⟨#[]⟩, .string ⟨#[]⟩, .int .i64 0, .int .i64 0, .int .i64 0, .int .i64 0, .slice none 0 0, .slice none 0 0] 32
    rw [show (w.alloc (.cells #[.string a, .string m, .int .i64 mo, .int .i64 ev, .int .i64 su, .int .i64 mx, .slice ta tl tc, .func (.func 88) #[] #[], .func (.func 89) #[] #[], .slice (some ⟨hb, ho, none⟩) hl hc, .func (.func 90) #[] #[], .func (.func 91) #[] #[]] 97)).heap.size = w.heap.size + 1 by simp] at h
    rw [hW0]
    exact h)
  have HWS : Hid (W0.heap.size = w.heap.size + 2) := hid_intro (by rw [hW0]; simp)
  clear hW0
  have HS0 : Hid (UWx w W0 a m mo ev su mx W0.drew) := hid_intro (UWx.below ⟨Below.refl _ _, HX0.out.1, HX0.out.2 0 (by simp), HX0.out.2 1 (by simp), HX0.out.2 2 (by simp), HX0.out.2 3 (by simp), HX0.out.2 4 (by simp), HX0.out.2 5 (by simp)⟩ (Below.refl _ _).drew)
  go_enter Tryd.func56, Tryd.ntmps56
  go_wp2_with fail
  rw [← HW0.out]
  go_cut [3] from 6 to 26 (fun v wx => ∃ V, v = .pointer (some ⟨V, 0, none⟩) ∧ Hid (Below W0.heap.size W0 wx) ∧ Hid (BlkW V [.string a, .string m, .int .i64 mo, .int .i64 ev, .int .i64 su, .int .i64 mx, .slice none 0 0, .slice none 0 0] wx) ∧ Hid (W0.heap.size ≤ V))
  case first =>
    clear HW0
    refine wp_region_held_drew (S := (fun W => Below W0.heap.size W0 W ∧ w.heap.size < W0.heap.size ∧ W.cell? ⟨w.heap.size, 0, none⟩ = some (.string a) ∧ W.cell? ⟨w.heap.size, 1, none⟩ = some (.string m) ∧ W.cell? ⟨w.heap.size, 2, none⟩ = some (.int .i64 mo) ∧ W.cell? ⟨w.heap.size, 3, none⟩ = some (.int .i64 ev) ∧ W.cell? ⟨w.heap.size, 4, none⟩ = some (.int .i64 su) ∧ W.cell? ⟨w.heap.size, 5, none⟩ = some (.int .i64 mx))) (by kernel_rfl) HS0.out (fun hHeld => ?_)
    obtain ⟨Wd, hWd⟩ : ∃ Wd, Wd = W0.drew := ⟨_, rfl⟩
    rw [← hWd] at HS0 ⊢
    try rw [← hWd] at hHeld
    clear hWd
    refine wpAnyH_take (i := 0) (oi := { dst := some 6, op := Op.fieldAddr 97 (Operand.tmp 1) 0, type := 0, pos := "l07_window.go:144", after := #[], guard := none }) (v := ?_) rfl (by kernel_rfl) (by kernel_rfl) (by kernel_rfl) (fun _ _ _ h => h) (Or.inl ⟨by rfl, ?_⟩) (by assumption) ?_
    rotate_left
    · (intro w hSw; (try dsimp only at hSw); go_simp) <;> with_reducible rfl
    try simp only [Act.put, List.setIfInBounds_toArray, List.set_cons_zero, List.set_cons_succ]
    refine wpAnyH_take (i := 1) (oi := { dst := some 7, op := Op.fieldAddr 85 (Operand.tmp 6) 0, type := 0, pos := "l07_window.go:144", after := #[{ on := 0, ground := Ground.data }], guard := none }) (v := ?_) rfl (by kernel_rfl) (by kernel_rfl) (by kernel_rfl) (fun _ _ _ h => h) (Or.inl ⟨by rfl, ?_⟩) (by assumption) ?_
    rotate_left
    · (intro w hSw; (try dsimp only at hSw); go_simp) <;> with_reducible rfl
    try simp only [Act.put, List.setIfInBounds_toArray, List.set_cons_zero, List.set_cons_succ]
    refine wpAnyH_take (i := 2) (oi := { dst := some 8, op := Op.load 9 (Operand.tmp 7), type := 9, pos := "l07_window.go:144", after := #[{ on := 1, ground := Ground.data }], guard := none }) (v := ?_) rfl (by kernel_rfl) (by kernel_rfl) (by kernel_rfl) (fun _ _ _ h => h) (Or.inl ⟨by rfl, ?_⟩) (by assumption) ?_
    rotate_left
    · (intro w hSw; (try dsimp only at hSw); go_simp) <;> with_reducible rfl
    try simp only [Act.put, List.setIfInBounds_toArray, List.set_cons_zero, List.set_cons_succ]
    refine wpAnyH_take (i := 4) (oi := { dst := some 10, op := Op.fieldAddr 97 (Operand.tmp 1) 0, type := 0, pos := "l07_window.go:144", after := #[], guard := none }) (v := ?_) rfl (by kernel_rfl) (by kernel_rfl) (by kernel_rfl) (fun _ _ _ h => h) (Or.inl ⟨by rfl, ?_⟩) (by assumption) ?_
    rotate_left
    · (intro w hSw; (try dsimp only at hSw); go_simp) <;> with_reducible rfl
    try simp only [Act.put, List.setIfInBounds_toArray, List.set_cons_zero, List.set_cons_succ]
    refine wpAnyH_take (i := 5) (oi := { dst := some 11, op := Op.fieldAddr 85 (Operand.tmp 10) 1, type := 0, pos := "l07_window.go:144", after := #[{ on := 4, ground := Ground.data }], guard := none }) (v := ?_) rfl (by kernel_rfl) (by kernel_rfl) (by kernel_rfl) (fun _ _ _ h => h) (Or.inl ⟨by rfl, ?_⟩) (by assumption) ?_
    rotate_left
    · (intro w hSw; (try dsimp only at hSw); go_simp) <;> with_reducible rfl
    try simp only [Act.put, List.setIfInBounds_toArray, List.set_cons_zero, List.set_cons_succ]
    refine wpAnyH_take (i := 6) (oi := { dst := some 12, op := Op.load 9 (Operand.tmp 11), type := 9, pos := "l07_window.go:144", after := #[{ on := 5, ground := Ground.data }], guard := none }) (v := ?_) rfl (by kernel_rfl) (by kernel_rfl) (by kernel_rfl) (fun _ _ _ h => h) (Or.inl ⟨by rfl, ?_⟩) (by assumption) ?_
    rotate_left
    · (intro w hSw; (try dsimp only at hSw); go_simp) <;> with_reducible rfl
    try simp only [Act.put, List.setIfInBounds_toArray, List.set_cons_zero, List.set_cons_succ]
    refine wpAnyH_take (i := 8) (oi := { dst := some 14, op := Op.fieldAddr 97 (Operand.tmp 1) 0, type := 0, pos := "l07_window.go:144", after := #[], guard := none }) (v := ?_) rfl (by kernel_rfl) (by kernel_rfl) (by kernel_rfl) (fun _ _ _ h => h) (Or.inl ⟨by rfl, ?_⟩) (by assumption) ?_
    rotate_left
    · (intro w hSw; (try dsimp only at hSw); go_simp) <;> with_reducible rfl
    try simp only [Act.put, List.setIfInBounds_toArray, List.set_cons_zero, List.set_cons_succ]
    refine wpAnyH_take (i := 9) (oi := { dst := some 15, op := Op.fieldAddr 85 (Operand.tmp 14) 2, type := 0, pos := "l07_window.go:144", after := #[{ on := 8, ground := Ground.data }], guard := none }) (v := ?_) rfl (by kernel_rfl) (by kernel_rfl) (by kernel_rfl) (fun _ _ _ h => h) (Or.inl ⟨by rfl, ?_⟩) (by assumption) ?_
    rotate_left
    · (intro w hSw; (try dsimp only at hSw); go_simp) <;> with_reducible rfl
    try simp only [Act.put, List.setIfInBounds_toArray, List.set_cons_zero, List.set_cons_succ]
    refine wpAnyH_take (i := 10) (oi := { dst := some 16, op := Op.load 2 (Operand.tmp 15), type := 2, pos := "l07_window.go:144", after := #[{ on := 9, ground := Ground.data }], guard := none }) (v := ?_) rfl (by kernel_rfl) (by kernel_rfl) (by kernel_rfl) (fun _ _ _ h => h) (Or.inl ⟨by rfl, ?_⟩) (by assumption) ?_
    rotate_left
    · (intro w hSw; (try dsimp only at hSw); go_simp) <;> with_reducible rfl
    try simp only [Act.put, List.setIfInBounds_toArray, List.set_cons_zero, List.set_cons_succ]
    refine wpAnyH_take (i := 11) (oi := { dst := some 17, op := Op.fieldAddr 97 (Operand.tmp 1) 1, type := 0, pos := "l07_window.go:144", after := #[], guard := none }) (v := ?_) rfl (by kernel_rfl) (by kernel_rfl) (by kernel_rfl) (fun _ _ _ h => h) (Or.inl ⟨by rfl, ?_⟩) (by assumption) ?_
    rotate_left
    · (intro w hSw; (try dsimp only at hSw); go_simp) <;> with_reducible rfl
    try simp only [Act.put, List.setIfInBounds_toArray, List.set_cons_zero, List.set_cons_succ]
    refine wpAnyH_take (i := 12) (oi := { dst := some 18, op := Op.fieldAddr 87 (Operand.tmp 17) 0, type := 0, pos := "l07_window.go:144", after := #[{ on := 11, ground := Ground.data }], guard := none }) (v := ?_) rfl (by kernel_rfl) (by kernel_rfl) (by kernel_rfl) (fun _ _ _ h => h) (Or.inl ⟨by rfl, ?_⟩) (by assumption) ?_
    rotate_left
    · (intro w hSw; (try dsimp only at hSw); go_simp) <;> with_reducible rfl
    try simp only [Act.put, List.setIfInBounds_toArray, List.set_cons_zero, List.set_cons_succ]
    refine wpAnyH_take (i := 13) (oi := { dst := some 19, op := Op.load 2 (Operand.tmp 18), type := 2, pos := "l07_window.go:144", after := #[{ on := 12, ground := Ground.data }], guard := none }) (v := ?_) rfl (by kernel_rfl) (by kernel_rfl) (by kernel_rfl) (fun _ _ _ h => h) (Or.inl ⟨by rfl, ?_⟩) (by assumption) ?_
    rotate_left
    · (intro w hSw; (try dsimp only at hSw); go_simp) <;> with_reducible rfl
    try simp only [Act.put, List.setIfInBounds_toArray, List.set_cons_zero, List.set_cons_succ]
    refine wpAnyH_take (i := 14) (oi := { dst := some 20, op := Op.fieldAddr 97 (Operand.tmp 1) 1, type := 0, pos := "l07_window.go:144", after := #[], guard := none }) (v := ?_) rfl (by kernel_rfl) (by kernel_rfl) (by kernel_rfl) (fun _ _ _ h => h) (Or.inl ⟨by rfl, ?_⟩) (by assumption) ?_
    rotate_left
    · (intro w hSw; (try dsimp only at hSw); go_simp) <;> with_reducible rfl
    try simp only [Act.put, List.setIfInBounds_toArray, List.set_cons_zero, List.set_cons_succ]
    refine wpAnyH_take (i := 15) (oi := { dst := some 21, op := Op.fieldAddr 87 (Operand.tmp 20) 1, type := 0, pos := "l07_window.go:144", after := #[{ on := 14, ground := Ground.data }], guard := none }) (v := ?_) rfl (by kernel_rfl) (by kernel_rfl) (by kernel_rfl) (fun _ _ _ h => h) (Or.inl ⟨by rfl, ?_⟩) (by assumption) ?_
    rotate_left
    · (intro w hSw; (try dsimp only at hSw); go_simp) <;> with_reducible rfl
    try simp only [Act.put, List.setIfInBounds_toArray, List.set_cons_zero, List.set_cons_succ]
    refine wpAnyH_take (i := 16) (oi := { dst := some 22, op := Op.load 2 (Operand.tmp 21), type := 2, pos := "l07_window.go:144", after := #[{ on := 15, ground := Ground.data }], guard := none }) (v := ?_) rfl (by kernel_rfl) (by kernel_rfl) (by kernel_rfl) (fun _ _ _ h => h) (Or.inl ⟨by rfl, ?_⟩) (by assumption) ?_
    rotate_left
    · (intro w hSw; (try dsimp only at hSw); go_simp) <;> with_reducible rfl
    try simp only [Act.put, List.setIfInBounds_toArray, List.set_cons_zero, List.set_cons_succ]
    refine wpAnyH_take (i := 17) (oi := { dst := some 23, op := Op.fieldAddr 97 (Operand.tmp 1) 1, type := 0, pos := "l07_window.go:144", after := #[], guard := none }) (v := ?_) rfl (by kernel_rfl) (by kernel_rfl) (by kernel_rfl) (fun _ _ _ h => h) (Or.inl ⟨by rfl, ?_⟩) (by assumption) ?_
    rotate_left
    · (intro w hSw; (try dsimp only at hSw); go_simp) <;> with_reducible rfl
    try simp only [Act.put, List.setIfInBounds_toArray, List.set_cons_zero, List.set_cons_succ]
    refine wpAnyH_take (i := 18) (oi := { dst := some 24, op := Op.fieldAddr 87 (Operand.tmp 23) 2, type := 0, pos := "l07_window.go:144", after := #[{ on := 17, ground := Ground.data }], guard := none }) (v := ?_) rfl (by kernel_rfl) (by kernel_rfl) (by kernel_rfl) (fun _ _ _ h => h) (Or.inl ⟨by rfl, ?_⟩) (by assumption) ?_
    rotate_left
    · (intro w hSw; (try dsimp only at hSw); go_simp) <;> with_reducible rfl
    try simp only [Act.put, List.setIfInBounds_toArray, List.set_cons_zero, List.set_cons_succ]
    refine wpAnyH_take (i := 19) (oi := { dst := some 25, op := Op.load 2 (Operand.tmp 24), type := 2, pos := "l07_window.go:144", after := #[{ on := 18, ground := Ground.data }], guard := none }) (v := ?_) rfl (by kernel_rfl) (by kernel_rfl) (by kernel_rfl) (fun _ _ _ h => h) (Or.inl ⟨by rfl, ?_⟩) (by assumption) ?_
    rotate_left
    · (intro w hSw; (try dsimp only at hSw); go_simp) <;> with_reducible rfl
    try simp only [Act.put, List.setIfInBounds_toArray, List.set_cons_zero, List.set_cons_succ]
    refine wpAnyH_ready (rs := [3, 21]) (by kernel_rfl) (by simp) ?_
    refine AllReadyH.cons (o := { dst := some 9, op := Op.call { callee := Callee.value (Operand.func 80), args := #[Operand.tmp 8], argTypes := #[9] }, type := 9, pos := "l07_window.go:144", after := #[{ on := 2, ground := Ground.data }], guard := none }) rfl (fun K hK => ?_) (AllReadyH.cons (o := { dst := some 3, op := Op.alloc 32, type := 0, pos := "l07_window.go:144", after := #[], guard := none }) rfl (fun K hK => ?_) AllReadyH.nil)
    · go_simp
      go_at_call 80
      refine (C1.out _).mono ?_
      rintro e q1 ⟨rfl, hq1⟩
      try go_wp2_with fail
      have hkq1 := UWx.below (w := w) (W0 := W0) (a := a) (m := m) (mo := mo) (ev := ev) (su := su) (mx := mx) HS0.out hq1
      refine hK.out _ _ hkq1 (fun _ => ?_)
      clear hK K
      try simp only [Act.put, List.setIfInBounds_toArray, List.set_cons_zero, List.set_cons_succ]
      refine wpAnyH_ready (rs := [7, 21]) (by kernel_rfl) (by simp) ?_
      refine AllReadyH.cons (o := { dst := some 13, op := Op.call { callee := Callee.value (Operand.func 80), args := #[Operand.tmp 12], argTypes := #[9] }, type := 9, pos := "l07_window.go:144", after := #[{ on := 6, ground := Ground.data }, { on := 3, ground := Ground.chain }], guard := none }) rfl (fun K hK => ?_) (AllReadyH.cons (o := { dst := some 3, op := Op.alloc 32, type := 0, pos := "l07_window.go:144", after := #[], guard := none }) rfl (fun K hK => ?_) AllReadyH.nil)
      · go_simp
        go_at_call 80
        refine (C2.out _).mono ?_
        rintro e q2 ⟨rfl, hq2⟩
        try go_wp2_with fail
        have hkq2 := UWx.below (w := w) (W0 := W0) (a := a) (m := m) (mo := mo) (ev := ev) (su := su) (mx := mx) hkq1 hq2
        refine hK.out _ _ hkq2 (fun _ => ?_)
        clear hK K
        try simp only [Act.put, List.setIfInBounds_toArray, List.set_cons_zero, List.set_cons_succ]
        refine wpAnyH_take (i := 20) (oi := { dst := some 26, op := Op.build 32 #[(0, Operand.tmp 9), (1, Operand.tmp 13), (2, Operand.tmp 16), (3, Operand.tmp 19), (4, Operand.tmp 22), (5, Operand.tmp 25)], type := 32, pos := "l07_window.go:144", after := #[{ on := 3, ground := Ground.data }, { on := 7, ground := Ground.data }, { on := 10, ground := Ground.data }, { on := 13, ground := Ground.data }, { on := 16, ground := Ground.data }, { on := 19, ground := Ground.data }], guard := none }) (v := ?_) rfl (by kernel_rfl) (by kernel_rfl) (by kernel_rfl) (fun _ _ _ h => h) (Or.inl ⟨by rfl, ?_⟩) (by assumption) ?_
        rotate_left
        · (intro w hSw; (try dsimp only at hSw); go_simp) <;> with_reducible rfl
        try simp only [Act.put, List.setIfInBounds_toArray, List.set_cons_zero, List.set_cons_succ]
        refine wpAnyH_ready (rs := [21]) (by kernel_rfl) (by simp) ?_
        refine AllReadyH.cons (o := { dst := some 3, op := Op.alloc 32, type := 0, pos := "l07_window.go:144", after := #[], guard := none }) rfl (fun K hK => ?_) AllReadyH.nil
        go_simp
        try go_wp2_with fail
        have hka := UWx.below (w := w) (W0 := W0) (a := a) (m := m) (mo := mo) (ev := ev) (su := su) (mx := mx) hkq2 ((Below.refl q2.heap.size q2).alloc (Nat.le_refl _) (Obj.cells #[.string ⟨#[]⟩, .string ⟨#[]⟩, .int .i64 0, .int .i64 0, .int .i64 0, .int .i64 0, .slice none 0 0, .slice none 0 0] 32))
        have hva := BlkW.new q2 [.string ⟨#[]⟩, .string ⟨#[]⟩, .int .i64 0, .int .i64 0, .int .i64 0, .int .i64 0, .slice none 0 0, .slice none 0 0] 32
        have hle := hkq2.1.size
        refine hK.out _ _ hka (fun _ => ?_)
        clear hK K
        try simp only [Act.put, List.setIfInBounds_toArray, List.set_cons_zero, List.set_cons_succ]
        obtain ⟨VB, hVB⟩ : ∃ VB, VB = q2.heap.size := ⟨_, rfl⟩
        obtain ⟨Wa, hWa⟩ : ∃ Wa, Wa = q2.alloc (Obj.cells #[.string ⟨#[]⟩, .string ⟨#[]⟩, .int .i64 0, .int .i64 0, .int .i64 0, .int .i64 0, .slice none 0 0, .slice none 0 0] 32) := ⟨_, rfl⟩
        have hvb : W0.heap.size ≤ VB := by rw [hVB]; exact hle
        rw [← hWa] at hka hva ⊢
        rw [← hVB] at hva ⊢
        clear hWa hVB hle
        refine wpAnyH_ready (rs := [22]) (by kernel_rfl) (by simp) ?_
        refine AllReadyH.cons (o := { dst := none, op := Op.store 32 (Operand.tmp 3) (Operand.tmp 26), type := 0, pos := "l07_window.go:144", after := #[{ on := 21, ground := Ground.data }, { on := 20, ground := Ground.data }, { on := 7, ground := Ground.chain }, { on := 0, ground := Ground.phase }, { on := 1, ground := Ground.phase }, { on := 2, ground := Ground.phase }, { on := 3, ground := Ground.phase }, { on := 4, ground := Ground.phase }, { on := 5, ground := Ground.phase }, { on := 6, ground := Ground.phase }, { on := 7, ground := Ground.phase }, { on := 8, ground := Ground.phase }, { on := 9, ground := Ground.phase }, { on := 10, ground := Ground.phase }, { on := 11, ground := Ground.phase }, { on := 12, ground := Ground.phase }, { on := 13, ground := Ground.phase }, { on := 14, ground := Ground.phase }, { on := 15, ground := Ground.phase }, { on := 16, ground := Ground.phase }, { on := 17, ground := Ground.phase }, { on := 18, ground := Ground.phase }, { on := 19, ground := Ground.phase }, { on := 20, ground := Ground.phase }, { on := 21, ground := Ground.phase }], guard := none }) rfl (fun K hK => ?_) AllReadyH.nil
        obtain ⟨⟨vl, vcs⟩, vfs⟩ := hva
        have y0 : Wa.cell? ⟨VB, 0, none⟩ = some (.string ⟨#[]⟩) := vcs 0 (by simp)
        have f0 := vfs 0 (by simp)
        have y1 : Wa.cell? ⟨VB, 1, none⟩ = some (.string ⟨#[]⟩) := vcs 1 (by simp)
        have f1 := vfs 1 (by simp)
        have y2 : Wa.cell? ⟨VB, 2, none⟩ = some (.int .i64 0) := vcs 2 (by simp)
        have f2 := vfs 2 (by simp)
        have y3 : Wa.cell? ⟨VB, 3, none⟩ = some (.int .i64 0) := vcs 3 (by simp)
        have f3 := vfs 3 (by simp)
        have y4 : Wa.cell? ⟨VB, 4, none⟩ = some (.int .i64 0) := vcs 4 (by simp)
        have f4 := vfs 4 (by simp)
        have y5 : Wa.cell? ⟨VB, 5, none⟩ = some (.int .i64 0) := vcs 5 (by simp)
        have f5 := vfs 5 (by simp)
        have y6 : Wa.cell? ⟨VB, 6, none⟩ = some (.slice none 0 0) := vcs 6 (by simp)
        have f6 := vfs 6 (by simp)
        have y7 : Wa.cell? ⟨VB, 7, none⟩ = some (.slice none 0 0) := vcs 7 (by simp)
        have f7 := vfs 7 (by simp)
        go_simp
        try go_wp2_with fail
        have hks := (UWx.put (w := w) (W0 := W0) (a := a) (m := m) (mo := mo) (ev := ev) (su := su) (mx := mx) (UWx.put (w := w) (W0 := W0) (a := a) (m := m) (mo := mo) (ev := ev) (su := su) (mx := mx) (UWx.put (w := w) (W0 := W0) (a := a) (m := m) (mo := mo) (ev := ev) (su := su) (mx := mx) (UWx.put (w := w) (W0 := W0) (a := a) (m := m) (mo := mo) (ev := ev) (su := su) (mx := mx) (UWx.put (w := w) (W0 := W0) (a := a) (m := m) (mo := mo) (ev := ev) (su := su) (mx := mx) (UWx.put (w := w) (W0 := W0) (a := a) (m := m) (mo := mo) (ev := ev) (su := su) (mx := mx) (UWx.put (w := w) (W0 := W0) (a := a) (m := m) (mo := mo) (ev := ev) (su := su) (mx := mx) (UWx.put (w := w) (W0 := W0) (a := a) (m := m) (mo := mo) (ev := ev) (su := su) (mx := mx) hka VB 0 (.string a) hvb) VB 1 (.string m) hvb) VB 2 (.int .i64 mo) hvb) VB 3 (.int .i64 ev) hvb) VB 4 (.int .i64 su) hvb) VB 5 (.int .i64 mx) hvb) VB 6 (.slice none 0 0) hvb) VB 7 (.slice none 0 0) hvb)
        have hvs := (BlkW.set (BlkW.set (BlkW.set (BlkW.set (BlkW.set (BlkW.set (BlkW.set (BlkW.set (⟨⟨vl, vcs⟩, vfs⟩ : BlkW VB [.string ⟨#[]⟩, .string ⟨#[]⟩, .int .i64 0, .int .i64 0, .int .i64 0, .int .i64 0, .slice none 0 0, .slice none 0 0] Wa) 0 (.string a) (by simp)) 1 (.string m) (by simp)) 2 (.int .i64 mo) (by simp)) 3 (.int .i64 ev) (by simp)) 4 (.int .i64 su) (by simp)) 5 (.int .i64 mx) (by simp)) 6 (.slice none 0 0) (by simp)) 7 (.slice none 0 0) (by simp))
        refine hK.out _ _ hks (fun _ => ?_)
        clear hK K
        try simp only [Act.put, List.setIfInBounds_toArray, List.set_cons_zero, List.set_cons_succ]
        refine wpAnyH_done (by kernel_rfl) ?_ _
        have HBF := hid_intro hks.1
        have HVF := hid_intro hvs
        clear hks hvs y0 y1 y2 y3 y4 y5 y6 y7 f0 f1 f2 f3 f4 f5 f6 f7 vcs vfs
        go_wp2_with fail
        go_meet
        case rel => exact ⟨VB, rfl, HBF, HVF, hid_intro hvb⟩
      · go_simp
        try go_wp2_with fail
        have hka := UWx.below (w := w) (W0 := W0) (a := a) (m := m) (mo := mo) (ev := ev) (su := su) (mx := mx) hkq1 ((Below.refl q1.heap.size q1).alloc (Nat.le_refl _) (Obj.cells #[.string ⟨#[]⟩, .string ⟨#[]⟩, .int .i64 0, .int .i64 0, .int .i64 0, .int .i64 0, .slice none 0 0, .slice none 0 0] 32))
        have hva := BlkW.new q1 [.string ⟨#[]⟩, .string ⟨#[]⟩, .int .i64 0, .int .i64 0, .int .i64 0, .int .i64 0, .slice none 0 0, .slice none 0 0] 32
        have hle := hkq1.1.size
        refine hK.out _ _ hka (fun _ => ?_)
        clear hK K
        try simp only [Act.put, List.setIfInBounds_toArray, List.set_cons_zero, List.set_cons_succ]
        obtain ⟨VB, hVB⟩ : ∃ VB, VB = q1.heap.size := ⟨_, rfl⟩
        obtain ⟨Wa, hWa⟩ : ∃ Wa, Wa = q1.alloc (Obj.cells #[.string ⟨#[]⟩, .string ⟨#[]⟩, .int .i64 0, .int .i64 0, .int .i64 0, .int .i64 0, .slice none 0 0, .slice none 0 0] 32) := ⟨_, rfl⟩
        have hvb : W0.heap.size ≤ VB := by rw [hVB]; exact hle
        rw [← hWa] at hka hva ⊢
        rw [← hVB] at hva ⊢
        clear hWa hVB hle
        refine wpAnyH_ready (rs := [7]) (by kernel_rfl) (by simp) ?_
        refine AllReadyH.cons (o := { dst := some 13, op := Op.call { callee := Callee.value (Operand.func 80), args := #[Operand.tmp 12], argTypes := #[9] }, type := 9, pos := "l07_window.go:144", after := #[{ on := 6, ground := Ground.data }, { on := 3, ground := Ground.chain }], guard := none }) rfl (fun K hK => ?_) AllReadyH.nil
        go_simp
        go_at_call 80
        refine (C2.out _).mono ?_
        rintro e q2 ⟨rfl, hq2⟩
        try go_wp2_with fail
        have hkq2 := UWx.below (w := w) (W0 := W0) (a := a) (m := m) (mo := mo) (ev := ev) (su := su) (mx := mx) hka hq2
        have hvq2 := BlkW.below hva hq2
        refine hK.out _ _ hkq2 (fun _ => ?_)
        clear hK K
        try simp only [Act.put, List.setIfInBounds_toArray, List.set_cons_zero, List.set_cons_succ]
        refine wpAnyH_take (i := 20) (oi := { dst := some 26, op := Op.build 32 #[(0, Operand.tmp 9), (1, Operand.tmp 13), (2, Operand.tmp 16), (3, Operand.tmp 19), (4, Operand.tmp 22), (5, Operand.tmp 25)], type := 32, pos := "l07_window.go:144", after := #[{ on := 3, ground := Ground.data }, { on := 7, ground := Ground.data }, { on := 10, ground := Ground.data }, { on := 13, ground := Ground.data }, { on := 16, ground := Ground.data }, { on := 19, ground := Ground.data }], guard := none }) (v := ?_) rfl (by kernel_rfl) (by kernel_rfl) (by kernel_rfl) (fun _ _ _ h => h) (Or.inl ⟨by rfl, ?_⟩) (by assumption) ?_
        rotate_left
        · (intro w hSw; (try dsimp only at hSw); go_simp) <;> with_reducible rfl
        try simp only [Act.put, List.setIfInBounds_toArray, List.set_cons_zero, List.set_cons_succ]
        refine wpAnyH_ready (rs := [22]) (by kernel_rfl) (by simp) ?_
        refine AllReadyH.cons (o := { dst := none, op := Op.store 32 (Operand.tmp 3) (Operand.tmp 26), type := 0, pos := "l07_window.go:144", after := #[{ on := 21, ground := Ground.data }, { on := 20, ground := Ground.data }, { on := 7, ground := Ground.chain }, { on := 0, ground := Ground.phase }, { on := 1, ground := Ground.phase }, { on := 2, ground := Ground.phase }, { on := 3, ground := Ground.phase }, { on := 4, ground := Ground.phase }, { on := 5, ground := Ground.phase }, { on := 6, ground := Ground.phase }, { on := 7, ground := Ground.phase }, { on := 8, ground := Ground.phase }, { on := 9, ground := Ground.phase }, { on := 10, ground := Ground.phase }, { on := 11, ground := Ground.phase }, { on := 12, ground := Ground.phase }, { on := 13, ground := Ground.phase }, { on := 14, ground := Ground.phase }, { on := 15, ground := Ground.phase }, { on := 16, ground := Ground.phase }, { on := 17, ground := Ground.phase }, { on := 18, ground := Ground.phase }, { on := 19, ground := Ground.phase }, { on := 20, ground := Ground.phase }, { on := 21, ground := Ground.phase }], guard := none }) rfl (fun K hK => ?_) AllReadyH.nil
        obtain ⟨⟨vl, vcs⟩, vfs⟩ := hvq2
        have y0 : q2.cell? ⟨VB, 0, none⟩ = some (.string ⟨#[]⟩) := vcs 0 (by simp)
        have f0 := vfs 0 (by simp)
        have y1 : q2.cell? ⟨VB, 1, none⟩ = some (.string ⟨#[]⟩) := vcs 1 (by simp)
        have f1 := vfs 1 (by simp)
        have y2 : q2.cell? ⟨VB, 2, none⟩ = some (.int .i64 0) := vcs 2 (by simp)
        have f2 := vfs 2 (by simp)
        have y3 : q2.cell? ⟨VB, 3, none⟩ = some (.int .i64 0) := vcs 3 (by simp)
        have f3 := vfs 3 (by simp)
        have y4 : q2.cell? ⟨VB, 4, none⟩ = some (.int .i64 0) := vcs 4 (by simp)
        have f4 := vfs 4 (by simp)
        have y5 : q2.cell? ⟨VB, 5, none⟩ = some (.int .i64 0) := vcs 5 (by simp)
        have f5 := vfs 5 (by simp)
        have y6 : q2.cell? ⟨VB, 6, none⟩ = some (.slice none 0 0) := vcs 6 (by simp)
        have f6 := vfs 6 (by simp)
        have y7 : q2.cell? ⟨VB, 7, none⟩ = some (.slice none 0 0) := vcs 7 (by simp)
        have f7 := vfs 7 (by simp)
        go_simp
        try go_wp2_with fail
        have hks := (UWx.put (w := w) (W0 := W0) (a := a) (m := m) (mo := mo) (ev := ev) (su := su) (mx := mx) (UWx.put (w := w) (W0 := W0) (a := a) (m := m) (mo := mo) (ev := ev) (su := su) (mx := mx) (UWx.put (w := w) (W0 := W0) (a := a) (m := m) (mo := mo) (ev := ev) (su := su) (mx := mx) (UWx.put (w := w) (W0 := W0) (a := a) (m := m) (mo := mo) (ev := ev) (su := su) (mx := mx) (UWx.put (w := w) (W0 := W0) (a := a) (m := m) (mo := mo) (ev := ev) (su := su) (mx := mx) (UWx.put (w := w) (W0 := W0) (a := a) (m := m) (mo := mo) (ev := ev) (su := su) (mx := mx) (UWx.put (w := w) (W0 := W0) (a := a) (m := m) (mo := mo) (ev := ev) (su := su) (mx := mx) (UWx.put (w := w) (W0 := W0) (a := a) (m := m) (mo := mo) (ev := ev) (su := su) (mx := mx) hkq2 VB 0 (.string a) hvb) VB 1 (.string m) hvb) VB 2 (.int .i64 mo) hvb) VB 3 (.int .i64 ev) hvb) VB 4 (.int .i64 su) hvb) VB 5 (.int .i64 mx) hvb) VB 6 (.slice none 0 0) hvb) VB 7 (.slice none 0 0) hvb)
        have hvs := (BlkW.set (BlkW.set (BlkW.set (BlkW.set (BlkW.set (BlkW.set (BlkW.set (BlkW.set (⟨⟨vl, vcs⟩, vfs⟩ : BlkW VB [.string ⟨#[]⟩, .string ⟨#[]⟩, .int .i64 0, .int .i64 0, .int .i64 0, .int .i64 0, .slice none 0 0, .slice none 0 0] q2) 0 (.string a) (by simp)) 1 (.string m) (by simp)) 2 (.int .i64 mo) (by simp)) 3 (.int .i64 ev) (by simp)) 4 (.int .i64 su) (by simp)) 5 (.int .i64 mx) (by simp)) 6 (.slice none 0 0) (by simp)) 7 (.slice none 0 0) (by simp))
        refine hK.out _ _ hks (fun _ => ?_)
        clear hK K
        try simp only [Act.put, List.setIfInBounds_toArray, List.set_cons_zero, List.set_cons_succ]
        refine wpAnyH_done (by kernel_rfl) ?_ _
        have HBF := hid_intro hks.1
        have HVF := hid_intro hvs
        clear hks hvs y0 y1 y2 y3 y4 y5 y6 y7 f0 f1 f2 f3 f4 f5 f6 f7 vcs vfs
        go_wp2_with fail
        go_meet
        case rel => exact ⟨VB, rfl, HBF, HVF, hid_intro hvb⟩
    · go_simp
      try go_wp2_with fail
      have hka := UWx.below (w := w) (W0 := W0) (a := a) (m := m) (mo := mo) (ev := ev) (su := su) (mx := mx) HS0.out ((Below.refl Wd.heap.size Wd).alloc (Nat.le_refl _) (Obj.cells #[.string ⟨#[]⟩, .string ⟨#[]⟩, .int .i64 0, .int .i64 0, .int .i64 0, .int .i64 0, .slice none 0 0, .slice none 0 0] 32))
      have hva := BlkW.new Wd [.string ⟨#[]⟩, .string ⟨#[]⟩, .int .i64 0, .int .i64 0, .int .i64 0, .int .i64 0, .slice none 0 0, .slice none 0 0] 32
      have hle := HS0.out.1.size
      refine hK.out _ _ hka (fun _ => ?_)
      clear hK K
      try simp only [Act.put, List.setIfInBounds_toArray, List.set_cons_zero, List.set_cons_succ]
      obtain ⟨VB, hVB⟩ : ∃ VB, VB = Wd.heap.size := ⟨_, rfl⟩
      obtain ⟨Wa, hWa⟩ : ∃ Wa, Wa = Wd.alloc (Obj.cells #[.string ⟨#[]⟩, .string ⟨#[]⟩, .int .i64 0, .int .i64 0, .int .i64 0, .int .i64 0, .slice none 0 0, .slice none 0 0] 32) := ⟨_, rfl⟩
      have hvb : W0.heap.size ≤ VB := by rw [hVB]; exact hle
      rw [← hWa] at hka hva ⊢
      rw [← hVB] at hva ⊢
      clear hWa hVB hle
      refine wpAnyH_ready (rs := [3]) (by kernel_rfl) (by simp) ?_
      refine AllReadyH.cons (o := { dst := some 9, op := Op.call { callee := Callee.value (Operand.func 80), args := #[Operand.tmp 8], argTypes := #[9] }, type := 9, pos := "l07_window.go:144", after := #[{ on := 2, ground := Ground.data }], guard := none }) rfl (fun K hK => ?_) AllReadyH.nil
      go_simp
      go_at_call 80
      refine (C1.out _).mono ?_
      rintro e q1 ⟨rfl, hq1⟩
      try go_wp2_with fail
      have hkq1 := UWx.below (w := w) (W0 := W0) (a := a) (m := m) (mo := mo) (ev := ev) (su := su) (mx := mx) hka hq1
      have hvq1 := BlkW.below hva hq1
      refine hK.out _ _ hkq1 (fun _ => ?_)
      clear hK K
      try simp only [Act.put, List.setIfInBounds_toArray, List.set_cons_zero, List.set_cons_succ]
      refine wpAnyH_ready (rs := [7]) (by kernel_rfl) (by simp) ?_
      refine AllReadyH.cons (o := { dst := some 13, op := Op.call { callee := Callee.value (Operand.func 80), args := #[Operand.tmp 12], argTypes := #[9] }, type := 9, pos := "l07_window.go:144", after := #[{ on := 6, ground := Ground.data }, { on := 3, ground := Ground.chain }], guard := none }) rfl (fun K hK => ?_) AllReadyH.nil
      go_simp
      go_at_call 80
      refine (C2.out _).mono ?_
      rintro e q2 ⟨rfl, hq2⟩
      try go_wp2_with fail
      have hkq2 := UWx.below (w := w) (W0 := W0) (a := a) (m := m) (mo := mo) (ev := ev) (su := su) (mx := mx) hkq1 hq2
      have hvq2 := BlkW.below hvq1 hq2
      refine hK.out _ _ hkq2 (fun _ => ?_)
      clear hK K
      try simp only [Act.put, List.setIfInBounds_toArray, List.set_cons_zero, List.set_cons_succ]
      refine wpAnyH_take (i := 20) (oi := { dst := some 26, op := Op.build 32 #[(0, Operand.tmp 9), (1, Operand.tmp 13), (2, Operand.tmp 16), (3, Operand.tmp 19), (4, Operand.tmp 22), (5, Operand.tmp 25)], type := 32, pos := "l07_window.go:144", after := #[{ on := 3, ground := Ground.data }, { on := 7, ground := Ground.data }, { on := 10, ground := Ground.data }, { on := 13, ground := Ground.data }, { on := 16, ground := Ground.data }, { on := 19, ground := Ground.data }], guard := none }) (v := ?_) rfl (by kernel_rfl) (by kernel_rfl) (by kernel_rfl) (fun _ _ _ h => h) (Or.inl ⟨by rfl, ?_⟩) (by assumption) ?_
      rotate_left
      · (intro w hSw; (try dsimp only at hSw); go_simp) <;> with_reducible rfl
      try simp only [Act.put, List.setIfInBounds_toArray, List.set_cons_zero, List.set_cons_succ]
      refine wpAnyH_ready (rs := [22]) (by kernel_rfl) (by simp) ?_
      refine AllReadyH.cons (o := { dst := none, op := Op.store 32 (Operand.tmp 3) (Operand.tmp 26), type := 0, pos := "l07_window.go:144", after := #[{ on := 21, ground := Ground.data }, { on := 20, ground := Ground.data }, { on := 7, ground := Ground.chain }, { on := 0, ground := Ground.phase }, { on := 1, ground := Ground.phase }, { on := 2, ground := Ground.phase }, { on := 3, ground := Ground.phase }, { on := 4, ground := Ground.phase }, { on := 5, ground := Ground.phase }, { on := 6, ground := Ground.phase }, { on := 7, ground := Ground.phase }, { on := 8, ground := Ground.phase }, { on := 9, ground := Ground.phase }, { on := 10, ground := Ground.phase }, { on := 11, ground := Ground.phase }, { on := 12, ground := Ground.phase }, { on := 13, ground := Ground.phase }, { on := 14, ground := Ground.phase }, { on := 15, ground := Ground.phase }, { on := 16, ground := Ground.phase }, { on := 17, ground := Ground.phase }, { on := 18, ground := Ground.phase }, { on := 19, ground := Ground.phase }, { on := 20, ground := Ground.phase }, { on := 21, ground := Ground.phase }], guard := none }) rfl (fun K hK => ?_) AllReadyH.nil
      obtain ⟨⟨vl, vcs⟩, vfs⟩ := hvq2
      have y0 : q2.cell? ⟨VB, 0, none⟩ = some (.string ⟨#[]⟩) := vcs 0 (by simp)
      have f0 := vfs 0 (by simp)
      have y1 : q2.cell? ⟨VB, 1, none⟩ = some (.string ⟨#[]⟩) := vcs 1 (by simp)
      have f1 := vfs 1 (by simp)
      have y2 : q2.cell? ⟨VB, 2, none⟩ = some (.int .i64 0) := vcs 2 (by simp)
      have f2 := vfs 2 (by simp)
      have y3 : q2.cell? ⟨VB, 3, none⟩ = some (.int .i64 0) := vcs 3 (by simp)
      have f3 := vfs 3 (by simp)
      have y4 : q2.cell? ⟨VB, 4, none⟩ = some (.int .i64 0) := vcs 4 (by simp)
      have f4 := vfs 4 (by simp)
      have y5 : q2.cell? ⟨VB, 5, none⟩ = some (.int .i64 0) := vcs 5 (by simp)
      have f5 := vfs 5 (by simp)
      have y6 : q2.cell? ⟨VB, 6, none⟩ = some (.slice none 0 0) := vcs 6 (by simp)
      have f6 := vfs 6 (by simp)
      have y7 : q2.cell? ⟨VB, 7, none⟩ = some (.slice none 0 0) := vcs 7 (by simp)
      have f7 := vfs 7 (by simp)
      go_simp
      try go_wp2_with fail
      have hks := (UWx.put (w := w) (W0 := W0) (a := a) (m := m) (mo := mo) (ev := ev) (su := su) (mx := mx) (UWx.put (w := w) (W0 := W0) (a := a) (m := m) (mo := mo) (ev := ev) (su := su) (mx := mx) (UWx.put (w := w) (W0 := W0) (a := a) (m := m) (mo := mo) (ev := ev) (su := su) (mx := mx) (UWx.put (w := w) (W0 := W0) (a := a) (m := m) (mo := mo) (ev := ev) (su := su) (mx := mx) (UWx.put (w := w) (W0 := W0) (a := a) (m := m) (mo := mo) (ev := ev) (su := su) (mx := mx) (UWx.put (w := w) (W0 := W0) (a := a) (m := m) (mo := mo) (ev := ev) (su := su) (mx := mx) (UWx.put (w := w) (W0 := W0) (a := a) (m := m) (mo := mo) (ev := ev) (su := su) (mx := mx) (UWx.put (w := w) (W0 := W0) (a := a) (m := m) (mo := mo) (ev := ev) (su := su) (mx := mx) hkq2 VB 0 (.string a) hvb) VB 1 (.string m) hvb) VB 2 (.int .i64 mo) hvb) VB 3 (.int .i64 ev) hvb) VB 4 (.int .i64 su) hvb) VB 5 (.int .i64 mx) hvb) VB 6 (.slice none 0 0) hvb) VB 7 (.slice none 0 0) hvb)
      have hvs := (BlkW.set (BlkW.set (BlkW.set (BlkW.set (BlkW.set (BlkW.set (BlkW.set (BlkW.set (⟨⟨vl, vcs⟩, vfs⟩ : BlkW VB [.string ⟨#[]⟩, .string ⟨#[]⟩, .int .i64 0, .int .i64 0, .int .i64 0, .int .i64 0, .slice none 0 0, .slice none 0 0] q2) 0 (.string a) (by simp)) 1 (.string m) (by simp)) 2 (.int .i64 mo) (by simp)) 3 (.int .i64 ev) (by simp)) 4 (.int .i64 su) (by simp)) 5 (.int .i64 mx) (by simp)) 6 (.slice none 0 0) (by simp)) 7 (.slice none 0 0) (by simp))
      refine hK.out _ _ hks (fun _ => ?_)
      clear hK K
      try simp only [Act.put, List.setIfInBounds_toArray, List.set_cons_zero, List.set_cons_succ]
      refine wpAnyH_done (by kernel_rfl) ?_ _
      have HBF := hid_intro hks.1
      have HVF := hid_intro hvs
      clear hks hvs y0 y1 y2 y3 y4 y5 y6 y7 f0 f1 f2 f3 f4 f5 f6 f7 vcs vfs
      go_wp2_with fail
      go_meet
      case rel => exact ⟨VB, rfl, HBF, HVF, hid_intro hvb⟩
  case rest =>
    obtain ⟨V, rfl, HB1, HV1, hV0⟩ := hcut
    clear HS0 HW0
    have HVs := hid_intro hV0.out
    have HX1 := hid_intro (HX0.out.below HB1.out)
    have HY1 := hid_intro (HY0.out.below HB1.out)
    obtain ⟨xl, xc⟩ := HX1.out
    have x6 : wc.cell? ⟨w.heap.size, 6, none⟩ = some (.slice ta tl tc) := xc 6 (by simp)
    clear xc
    go_wp2_with fail
    go_loopw [31] (fun z wr => ∃ (k : Nat) (tv : Value), k ≤ tl ∧ z = .int .i64 k ∧ Hid (Below W0.heap.size W0 wr) ∧ Hid (BlkW V [.string a, .string m, .int .i64 mo, .int .i64 ev, .int .i64 su, .int .i64 mx, tv, .slice none 0 0] wr) ∧ Hid (wr.ownsRow (V + 1) 9 1 tv k (cellsAll tcells (ts.take k)))) (fun z _ => tl - (intOf z).toNat)
    case atStart => exact ⟨0, .slice none 0 0, by omega, rfl, HB1, HV1, hid_intro (World.ownsRow_nil _ _ _ _)⟩
    case round =>
      clear HB1 HV1 x6 xl HX1 HY1
      obtain ⟨k, tv, hk, rfl, HB, HV, HO⟩ := hrel
      by_cases hlt : k < tl
      · have hlt2 : (k : Int) < (tl : Int) := by omega
        have hkl : k < ts.length := by have := HTL.out; omega
        obtain ⟨b, off, rfl, hbl, c0⟩ := (HT.out.below (HB0.out.trans (HB.out.mono HB0.out.size))).at k hkl
        have hsz := HLT.out _ (getD_mem (z := tz) ts k hkl)
        have HCA : Hid (cellsAll tcells (ts.take (k + 1)) = cellsAll tcells (ts.take k) ++ [.string (ts.getD k tz)]) := hid_intro (by rw [take_more (z := tz) ts k hkl, RowG.cellsAll_app]; rfl)
        have HC := hid_intro (fun w => CloneR.clone_any (ts.getD k tz) w (by omega))
        generalize ts.getD k tz = Y at *
        have HS1 : Hid (VWx W0 V tv wr.drew) := hid_intro ⟨HB.out.drew, HV.out.1.1, HV.out.1.2 6 (by simp), HV.out.2 6 (by simp)⟩
        have HVd : Hid (BlkW V [.string a, .string m, .int .i64 mo, .int .i64 ev, .int .i64 su, .int .i64 mx, tv, .slice none 0 0] wr.drew) := hid_intro (HV.out.below (Below.refl _ _).drew)
        have HOd : Hid (wr.drew.ownsRow (V + 1) 9 1 tv k (cellsAll tcells (ts.take k))) := hid_intro HO.out
        have hVW := HV.out.1.1
        have sz1 : k + 1 ≤ maxLen := by unfold maxLen; omega
        have sz2 : (k + 1) * 16 ≤ 140737488355328 := by omega
        have sz3 : 0 < 1 := by omega
        go_wp2_with fail
        refine wp_region_held_drew (S := (fun W => Below W0.heap.size W0 W ∧ V < W.heap.size)) (by kernel_rfl) ⟨HS1.out.1, HS1.out.2.1⟩ (fun hHeld => ?_)
        refine wpAnyH_take (i := 0) (oi := { dst := some 35, op := Op.fieldAddr 32 (Operand.tmp 3) 6, type := 0, pos := "l07_window.go:146", after := #[], guard := none }) (v := ?_) rfl (by kernel_rfl) (by kernel_rfl) (by kernel_rfl) (fun _ _ _ h => h) (Or.inl ⟨by rfl, ?_⟩) (by assumption) ?_
        rotate_left
        · (intro w hSw; (try dsimp only at hSw); go_simp) <;> with_reducible rfl
        try simp only [Act.put, List.setIfInBounds_toArray, List.set_cons_zero, List.set_cons_succ]
        refine wpAnyH_take (i := 2) (oi := { dst := some 37, op := Op.move (Operand.tmp 5), type := 9, pos := "l07_window.go:146", after := #[], guard := none }) (v := ?_) rfl (by kernel_rfl) (by kernel_rfl) (by kernel_rfl) (fun _ _ _ h => h) (Or.inl ⟨by rfl, ?_⟩) (by assumption) ?_
        rotate_left
        · (intro w hSw; (try dsimp only at hSw); go_simp) <;> with_reducible rfl
        try simp only [Act.put, List.setIfInBounds_toArray, List.set_cons_zero, List.set_cons_succ]
        refine wpAnyH_ready (rs := [1, 3]) (by kernel_rfl) (by simp) ?_
        refine AllReadyH.cons (o := { dst := some 36, op := Op.load 22 (Operand.tmp 35), type := 22, pos := "l07_window.go:146", after := #[{ on := 0, ground := Ground.data }], guard := none }) rfl (fun K hK => ?_) (AllReadyH.cons (o := { dst := some 38, op := Op.call { callee := Callee.value (Operand.func 80), args := #[Operand.tmp 37], argTypes := #[9] }, type := 9, pos := "l07_window.go:146", after := #[{ on := 2, ground := Ground.data }], guard := none }) rfl (fun K hK => ?_) AllReadyH.nil)
        · have y6 := HS1.out.2.2.1
          have yl := HS1.out.2.1
          go_simp
          try go_wp2_with fail
          clear y6 yl
          refine hK.out _ _ ⟨HS1.out.1, HS1.out.2.1⟩ (fun _ => ?_)
          clear hK K
          try simp only [Act.put, List.setIfInBounds_toArray, List.set_cons_zero, List.set_cons_succ]
          refine wpAnyH_ready (rs := [3]) (by kernel_rfl) (by simp) ?_
          refine AllReadyH.cons (o := { dst := some 38, op := Op.call { callee := Callee.value (Operand.func 80), args := #[Operand.tmp 37], argTypes := #[9] }, type := 9, pos := "l07_window.go:146", after := #[{ on := 2, ground := Ground.data }], guard := none }) rfl (fun K hK => ?_) AllReadyH.nil
          go_simp
          go_at_call 80
          refine (HC.out _).mono ?_
          rintro e q1 ⟨rfl, hq1⟩
          try go_wp2_with fail
          have hk1 := VWx.below (W0 := W0) (V := V) (tv := tv) HS1.out hq1
          have hv1 := HVd.out.below hq1
          have ho1 := RowG.own_below HOd.out hq1
          refine hK.out _ _ ⟨hk1.1, hk1.2.1⟩ (fun _ => ?_)
          clear hK K
          try simp only [Act.put, List.setIfInBounds_toArray, List.set_cons_zero, List.set_cons_succ]
          refine wpAnyH_ready (rs := [4]) (by kernel_rfl) (by simp) ?_
          refine AllReadyH.cons (o := { dst := some 39, op := Op.buildSlice 22 1 #[(0, Operand.tmp 38)], type := 22, pos := "l07_window.go:146", after := #[{ on := 3, ground := Ground.data }], guard := none }) rfl (fun K hK => ?_) AllReadyH.nil
          go_simp
          try go_wp2_with fail
          have hk2 := VWx.below (W0 := W0) (V := V) (tv := tv) hk1 ((Below.refl q1.heap.size q1).alloc (Nat.le_refl _) (Obj.cells #[.string Y] 9))
          have hv2 := hv1.below ((Below.refl q1.heap.size q1).alloc (Nat.le_refl _) (Obj.cells #[.string Y] 9))
          have ho2 := ho1.alloc (Obj.cells #[.string Y] 9)
          refine hK.out _ _ ⟨hk2.1, hk2.2.1⟩ (fun _ => ?_)
          clear hK K
          try simp only [Act.put, List.setIfInBounds_toArray, List.set_cons_zero, List.set_cons_succ]
          refine wpAnyH_ready (rs := [5]) (by kernel_rfl) (by simp) ?_
          refine AllReadyH.cons (o := { dst := some 40, op := Op.call { callee := Callee.builtin Builtin.append, args := #[Operand.tmp 36, Operand.tmp 39], argTypes := #[22, 22] }, type := 22, pos := "l07_window.go:146", after := #[{ on := 1, ground := Ground.data }, { on := 4, ground := Ground.data }, { on := 3, ground := Ground.chain }], guard := none }) rfl (fun K hK => ?_) AllReadyH.nil
          refine step_append_own rfl _ _ 22 rfl (V + 1) 9 i0 (.string ⟨#[]⟩) 1 16 Tryd.underlying22 hi hz0 hz1 hz2 rfl sz3 _ _ _ rfl ho2 ⟨q1.heap.size, 0, none⟩ 1 1 [.string Y] rfl rfl (one_cell _ _ _) (one_one _) sz1 sz2 (by have := hk1.2.1; simp; omega) ?_
          intro v' w4 hown hgrow hne
          obtain ⟨sa, sn, sc, rfl⟩ := own_slice hown
          have hk3 := VWx.grown (W0 := W0) (V := V) (tv := tv) hk2 hgrow (fun g hg => (ho2.lt g hg).1) HVs.out
          have hv3 := BlkW.grown hv2 hgrow (fun e => by have := (ho2.lt _ e.symm).1; omega)
          refine hK.out _ _ ⟨hk3.1, hk3.2.1⟩ (fun _ => ?_)
          clear hK K
          try simp only [Act.put, List.setIfInBounds_toArray, List.set_cons_zero, List.set_cons_succ]
          refine wpAnyH_take (i := 6) (oi := { dst := some 41, op := Op.fieldAddr 32 (Operand.tmp 3) 6, type := 0, pos := "l07_window.go:146", after := #[{ on := 0, ground := Ground.phase }, { on := 1, ground := Ground.phase }, { on := 2, ground := Ground.phase }, { on := 3, ground := Ground.phase }, { on := 4, ground := Ground.phase }, { on := 5, ground := Ground.phase }], guard := none }) (v := ?_) rfl (by kernel_rfl) (by kernel_rfl) (by kernel_rfl) (fun _ _ _ h => h) (Or.inl ⟨by rfl, ?_⟩) (by assumption) ?_
          rotate_left
          · (intro w hSw; (try dsimp only at hSw); go_simp) <;> with_reducible rfl
          try simp only [Act.put, List.setIfInBounds_toArray, List.set_cons_zero, List.set_cons_succ]
          refine wpAnyH_ready (rs := [7]) (by kernel_rfl) (by simp) ?_
          refine AllReadyH.cons (o := { dst := none, op := Op.store 22 (Operand.tmp 41) (Operand.tmp 40), type := 0, pos := "l07_window.go:146", after := #[{ on := 6, ground := Ground.data }, { on := 5, ground := Ground.data }, { on := 5, ground := Ground.chain }, { on := 0, ground := Ground.phase }, { on := 1, ground := Ground.phase }, { on := 2, ground := Ground.phase }, { on := 3, ground := Ground.phase }, { on := 4, ground := Ground.phase }, { on := 5, ground := Ground.phase }], guard := none }) rfl (fun K hK => ?_) AllReadyH.nil
          have y6 := hk3.2.2.1
          have f6 := hk3.2.2.2
          have yl := hk3.2.1
          go_simp
          try go_wp2_with fail
          have hb4 := hk3.1.setCell (p := ⟨V, 6, none⟩) HVs.out (.slice sa sn sc)
          have hv4 := hv3.set 6 (.slice sa sn sc) (by simp)
          have ho4 := own_set hown V 6 (.slice sa sn sc) (fun g hg => by have := (hown.lt g hg).1; omega)
          refine hK.out _ _ ⟨hb4, by simpa using yl⟩ (fun _ => ?_)
          clear hK K y6 f6 yl
          try simp only [Act.put, List.setIfInBounds_toArray, List.set_cons_zero, List.set_cons_succ]
          refine wpAnyH_done (by kernel_rfl) ?_ _
          have HB5 := hid_intro hb4
          have HV5 := hid_intro hv4
          have HO5 : Hid ((w4.setCell ⟨V, 6, none⟩ (.slice sa sn sc)).ownsRow (V + 1) 9 1 (.slice sa sn sc) (k + 1) (cellsAll tcells (ts.take (k + 1)))) := hid_intro (by rw [HCA.out]; exact ho4)
          clear hb4 hv4 ho4 hown hgrow hne hk1 hk2 hk3 hv1 hv2 hv3 ho1 ho2 hq1 HS1 HVd HOd c0
          go_wp2_with fail
          go_roundw
          case rel => exact ⟨k + 1, (.slice sa sn sc), by omega, by go_num, HB5, HV5, HO5⟩
          case measure => simp [intOf]; omega
        · go_simp
          go_at_call 80
          refine (HC.out _).mono ?_
          rintro e q1 ⟨rfl, hq1⟩
          try go_wp2_with fail
          have hk1 := VWx.below (W0 := W0) (V := V) (tv := tv) HS1.out hq1
          have hv1 := HVd.out.below hq1
          have ho1 := RowG.own_below HOd.out hq1
          refine hK.out _ _ ⟨hk1.1, hk1.2.1⟩ (fun _ => ?_)
          clear hK K
          try simp only [Act.put, List.setIfInBounds_toArray, List.set_cons_zero, List.set_cons_succ]
          refine wpAnyH_ready (rs := [1, 4]) (by kernel_rfl) (by simp) ?_
          refine AllReadyH.cons (o := { dst := some 36, op := Op.load 22 (Operand.tmp 35), type := 22, pos := "l07_window.go:146", after := #[{ on := 0, ground := Ground.data }], guard := none }) rfl (fun K hK => ?_) (AllReadyH.cons (o := { dst := some 39, op := Op.buildSlice 22 1 #[(0, Operand.tmp 38)], type := 22, pos := "l07_window.go:146", after := #[{ on := 3, ground := Ground.data }], guard := none }) rfl (fun K hK => ?_) AllReadyH.nil)
          · have y6 := hk1.2.2.1
            have yl := hk1.2.1
            go_simp
            try go_wp2_with fail
            clear y6 yl
            refine hK.out _ _ ⟨hk1.1, hk1.2.1⟩ (fun _ => ?_)
            clear hK K
            try simp only [Act.put, List.setIfInBounds_toArray, List.set_cons_zero, List.set_cons_succ]
            refine wpAnyH_ready (rs := [4]) (by kernel_rfl) (by simp) ?_
            refine AllReadyH.cons (o := { dst := some 39, op := Op.buildSlice 22 1 #[(0, Operand.tmp 38)], type := 22, pos := "l07_window.go:146", after := #[{ on := 3, ground := Ground.data }], guard := none }) rfl (fun K hK => ?_) AllReadyH.nil
            go_simp
            try go_wp2_with fail
            have hk2 := VWx.below (W0 := W0) (V := V) (tv := tv) hk1 ((Below.refl q1.heap.size q1).alloc (Nat.le_refl _) (Obj.cells #[.string Y] 9))
            have hv2 := hv1.below ((Below.refl q1.heap.size q1).alloc (Nat.le_refl _) (Obj.cells #[.string Y] 9))
            have ho2 := ho1.alloc (Obj.cells #[.string Y] 9)
            refine hK.out _ _ ⟨hk2.1, hk2.2.1⟩ (fun _ => ?_)
            clear hK K
            try simp only [Act.put, List.setIfInBounds_toArray, List.set_cons_zero, List.set_cons_succ]
            refine wpAnyH_ready (rs := [5]) (by kernel_rfl) (by simp) ?_
            refine AllReadyH.cons (o := { dst := some 40, op := Op.call { callee := Callee.builtin Builtin.append, args := #[Operand.tmp 36, Operand.tmp 39], argTypes := #[22, 22] }, type := 22, pos := "l07_window.go:146", after := #[{ on := 1, ground := Ground.data }, { on := 4, ground := Ground.data }, { on := 3, ground := Ground.chain }], guard := none }) rfl (fun K hK => ?_) AllReadyH.nil
            refine step_append_own rfl _ _ 22 rfl (V + 1) 9 i0 (.string ⟨#[]⟩) 1 16 Tryd.underlying22 hi hz0 hz1 hz2 rfl sz3 _ _ _ rfl ho2 ⟨q1.heap.size, 0, none⟩ 1 1 [.string Y] rfl rfl (one_cell _ _ _) (one_one _) sz1 sz2 (by have := hk1.2.1; simp; omega) ?_
            intro v' w4 hown hgrow hne
            obtain ⟨sa, sn, sc, rfl⟩ := own_slice hown
            have hk3 := VWx.grown (W0 := W0) (V := V) (tv := tv) hk2 hgrow (fun g hg => (ho2.lt g hg).1) HVs.out
            have hv3 := BlkW.grown hv2 hgrow (fun e => by have := (ho2.lt _ e.symm).1; omega)
            refine hK.out _ _ ⟨hk3.1, hk3.2.1⟩ (fun _ => ?_)
            clear hK K
            try simp only [Act.put, List.setIfInBounds_toArray, List.set_cons_zero, List.set_cons_succ]
            refine wpAnyH_take (i := 6) (oi := { dst := some 41, op := Op.fieldAddr 32 (Operand.tmp 3) 6, type := 0, pos := "l07_window.go:146", after := #[{ on := 0, ground := Ground.phase }, { on := 1, ground := Ground.phase }, { on := 2, ground := Ground.phase }, { on := 3, ground := Ground.phase }, { on := 4, ground := Ground.phase }, { on := 5, ground := Ground.phase }], guard := none }) (v := ?_) rfl (by kernel_rfl) (by kernel_rfl) (by kernel_rfl) (fun _ _ _ h => h) (Or.inl ⟨by rfl, ?_⟩) (by assumption) ?_
            rotate_left
            · (intro w hSw; (try dsimp only at hSw); go_simp) <;> with_reducible rfl
            try simp only [Act.put, List.setIfInBounds_toArray, List.set_cons_zero, List.set_cons_succ]
            refine wpAnyH_ready (rs := [7]) (by kernel_rfl) (by simp) ?_
            refine AllReadyH.cons (o := { dst := none, op := Op.store 22 (Operand.tmp 41) (Operand.tmp 40), type := 0, pos := "l07_window.go:146", after := #[{ on := 6, ground := Ground.data }, { on := 5, ground := Ground.data }, { on := 5, ground := Ground.chain }, { on := 0, ground := Ground.phase }, { on := 1, ground := Ground.phase }, { on := 2, ground := Ground.phase }, { on := 3, ground := Ground.phase }, { on := 4, ground := Ground.phase }, { on := 5, ground := Ground.phase }], guard := none }) rfl (fun K hK => ?_) AllReadyH.nil
            have y6 := hk3.2.2.1
            have f6 := hk3.2.2.2
            have yl := hk3.2.1
            go_simp
            try go_wp2_with fail
            have hb4 := hk3.1.setCell (p := ⟨V, 6, none⟩) HVs.out (.slice sa sn sc)
            have hv4 := hv3.set 6 (.slice sa sn sc) (by simp)
            have ho4 := own_set hown V 6 (.slice sa sn sc) (fun g hg => by have := (hown.lt g hg).1; omega)
            refine hK.out _ _ ⟨hb4, by simpa using yl⟩ (fun _ => ?_)
            clear hK K y6 f6 yl
            try simp only [Act.put, List.setIfInBounds_toArray, List.set_cons_zero, List.set_cons_succ]
            refine wpAnyH_done (by kernel_rfl) ?_ _
            have HB5 := hid_intro hb4
            have HV5 := hid_intro hv4
            have HO5 : Hid ((w4.setCell ⟨V, 6, none⟩ (.slice sa sn sc)).ownsRow (V + 1) 9 1 (.slice sa sn sc) (k + 1) (cellsAll tcells (ts.take (k + 1)))) := hid_intro (by rw [HCA.out]; exact ho4)
            clear hb4 hv4 ho4 hown hgrow hne hk1 hk2 hk3 hv1 hv2 hv3 ho1 ho2 hq1 HS1 HVd HOd c0
            go_wp2_with fail
            go_roundw
            case rel => exact ⟨k + 1, (.slice sa sn sc), by omega, by go_num, HB5, HV5, HO5⟩
            case measure => simp [intOf]; omega
          · go_simp
            try go_wp2_with fail
            have hk2 := VWx.below (W0 := W0) (V := V) (tv := tv) hk1 ((Below.refl q1.heap.size q1).alloc (Nat.le_refl _) (Obj.cells #[.string Y] 9))
            have hv2 := hv1.below ((Below.refl q1.heap.size q1).alloc (Nat.le_refl _) (Obj.cells #[.string Y] 9))
            have ho2 := ho1.alloc (Obj.cells #[.string Y] 9)
            refine hK.out _ _ ⟨hk2.1, hk2.2.1⟩ (fun _ => ?_)
            clear hK K
            try simp only [Act.put, List.setIfInBounds_toArray, List.set_cons_zero, List.set_cons_succ]
            refine wpAnyH_ready (rs := [1]) (by kernel_rfl) (by simp) ?_
            refine AllReadyH.cons (o := { dst := some 36, op := Op.load 22 (Operand.tmp 35), type := 22, pos := "l07_window.go:146", after := #[{ on := 0, ground := Ground.data }], guard := none }) rfl (fun K hK => ?_) AllReadyH.nil
            have y6 := hk2.2.2.1
            have yl := hk2.2.1
            go_simp
            try go_wp2_with fail
            clear y6 yl
            refine hK.out _ _ ⟨hk2.1, hk2.2.1⟩ (fun _ => ?_)
            clear hK K
            try simp only [Act.put, List.setIfInBounds_toArray, List.set_cons_zero, List.set_cons_succ]
            refine wpAnyH_ready (rs := [5]) (by kernel_rfl) (by simp) ?_
            refine AllReadyH.cons (o := { dst := some 40, op := Op.call { callee := Callee.builtin Builtin.append, args := #[Operand.tmp 36, Operand.tmp 39], argTypes := #[22, 22] }, type := 22, pos := "l07_window.go:146", after := #[{ on := 1, ground := Ground.data }, { on := 4, ground := Ground.data }, { on := 3, ground := Ground.chain }], guard := none }) rfl (fun K hK => ?_) AllReadyH.nil
            refine step_append_own rfl _ _ 22 rfl (V + 1) 9 i0 (.string ⟨#[]⟩) 1 16 Tryd.underlying22 hi hz0 hz1 hz2 rfl sz3 _ _ _ rfl ho2 ⟨q1.heap.size, 0, none⟩ 1 1 [.string Y] rfl rfl (one_cell _ _ _) (one_one _) sz1 sz2 (by have := hk1.2.1; simp; omega) ?_
            intro v' w4 hown hgrow hne
            obtain ⟨sa, sn, sc, rfl⟩ := own_slice hown
            have hk3 := VWx.grown (W0 := W0) (V := V) (tv := tv) hk2 hgrow (fun g hg => (ho2.lt g hg).1) HVs.out
            have hv3 := BlkW.grown hv2 hgrow (fun e => by have := (ho2.lt _ e.symm).1; omega)
            refine hK.out _ _ ⟨hk3.1, hk3.2.1⟩ (fun _ => ?_)
            clear hK K
            try simp only [Act.put, List.setIfInBounds_toArray, List.set_cons_zero, List.set_cons_succ]
            refine wpAnyH_take (i := 6) (oi := { dst := some 41, op := Op.fieldAddr 32 (Operand.tmp 3) 6, type := 0, pos := "l07_window.go:146", after := #[{ on := 0, ground := Ground.phase }, { on := 1, ground := Ground.phase }, { on := 2, ground := Ground.phase }, { on := 3, ground := Ground.phase }, { on := 4, ground := Ground.phase }, { on := 5, ground := Ground.phase }], guard := none }) (v := ?_) rfl (by kernel_rfl) (by kernel_rfl) (by kernel_rfl) (fun _ _ _ h => h) (Or.inl ⟨by rfl, ?_⟩) (by assumption) ?_
            rotate_left
            · (intro w hSw; (try dsimp only at hSw); go_simp) <;> with_reducible rfl
            try simp only [Act.put, List.setIfInBounds_toArray, List.set_cons_zero, List.set_cons_succ]
            refine wpAnyH_ready (rs := [7]) (by kernel_rfl) (by simp) ?_
            refine AllReadyH.cons (o := { dst := none, op := Op.store 22 (Operand.tmp 41) (Operand.tmp 40), type := 0, pos := "l07_window.go:146", after := #[{ on := 6, ground := Ground.data }, { on := 5, ground := Ground.data }, { on := 5, ground := Ground.chain }, { on := 0, ground := Ground.phase }, { on := 1, ground := Ground.phase }, { on := 2, ground := Ground.phase }, { on := 3, ground := Ground.phase }, { on := 4, ground := Ground.phase }, { on := 5, ground := Ground.phase }], guard := none }) rfl (fun K hK => ?_) AllReadyH.nil
            have y6 := hk3.2.2.1
            have f6 := hk3.2.2.2
            have yl := hk3.2.1
            go_simp
            try go_wp2_with fail
            have hb4 := hk3.1.setCell (p := ⟨V, 6, none⟩) HVs.out (.slice sa sn sc)
            have hv4 := hv3.set 6 (.slice sa sn sc) (by simp)
            have ho4 := own_set hown V 6 (.slice sa sn sc) (fun g hg => by have := (hown.lt g hg).1; omega)
            refine hK.out _ _ ⟨hb4, by simpa using yl⟩ (fun _ => ?_)
            clear hK K y6 f6 yl
            try simp only [Act.put, List.setIfInBounds_toArray, List.set_cons_zero, List.set_cons_succ]
            refine wpAnyH_done (by kernel_rfl) ?_ _
            have HB5 := hid_intro hb4
            have HV5 := hid_intro hv4
            have HO5 : Hid ((w4.setCell ⟨V, 6, none⟩ (.slice sa sn sc)).ownsRow (V + 1) 9 1 (.slice sa sn sc) (k + 1) (cellsAll tcells (ts.take (k + 1)))) := hid_intro (by rw [HCA.out]; exact ho4)
            clear hb4 hv4 ho4 hown hgrow hne hk1 hk2 hk3 hv1 hv2 hv3 ho1 ho2 hq1 HS1 HVd HOd c0
            go_wp2_with fail
            go_roundw
            case rel => exact ⟨k + 1, (.slice sa sn sc), by omega, by go_num, HB5, HV5, HO5⟩
            case measure => simp [intOf]; omega
      · have hlt2 : ¬ (k : Int) < (tl : Int) := by omega
        obtain rfl : k = tl := by omega
        have HTK : Hid (ts.take k = ts) := hid_intro (List.take_of_length_le (by have := HTL.out; omega))
        rw [HTK.out] at HO
        obtain ⟨sa, sn, sc, rfl⟩ := own_slice HO.out
        have HX1 := hid_intro (HX0.out.below HB.out)
        have HY1 := hid_intro (HY0.out.below HB.out)
        have HBw := hid_intro (HB0.out.trans (HB.out.mono HB0.out.size))
        obtain ⟨xl, xc⟩ := HX1.out
        have x9 : wr.cell? ⟨w.heap.size, 9, none⟩ = some (.slice (some ⟨hb, ho, none⟩) hl hc) := xc 9 (by simp)
        clear xc
        go_wp2_with fail
        refine (HCH.out _ HBw.out).mono ?_
        rintro e w5 ⟨ha, hcp, rfl, ⟨hm5, hsl5⟩, hb5⟩
        have HM5 := hid_intro hm5
        have HSL5 := hid_intro hsl5
        clear hsl5
        have HY5 := hid_intro (HY1.out.below hb5)
        have HV5 := hid_intro (HV.out.below hb5)
        have HO5 := hid_intro (RowG.own_below HO.out hb5)
        have HB5 := hid_intro (HBw.out.trans (hb5.mono HBw.out.size))
        have HSZ : Hid (∀ g, (Value.slice sa sn sc).ownBlock = some g → g < wr.heap.size) := hid_intro (fun g hg => (HO.out.lt g hg).2)
        have HVl : Hid (V < wr.heap.size) := hid_intro HV.out.1.1
        clear hm5 hb5 x9 xl
        obtain ⟨⟨vl, vk⟩, vf⟩ := HV5.out
        have v0 : w5.cell? ⟨V, 0, none⟩ = some (.string a) := vk 0 (by simp)
        have v1 : w5.cell? ⟨V, 1, none⟩ = some (.string m) := vk 1 (by simp)
        have v2 : w5.cell? ⟨V, 2, none⟩ = some (.int .i64 mo) := vk 2 (by simp)
        have v3 : w5.cell? ⟨V, 3, none⟩ = some (.int .i64 ev) := vk 3 (by simp)
        have v4 : w5.cell? ⟨V, 4, none⟩ = some (.int .i64 su) := vk 4 (by simp)
        have v5 : w5.cell? ⟨V, 5, none⟩ = some (.int .i64 mx) := vk 5 (by simp)
        have v6 : w5.cell? ⟨V, 6, none⟩ = some (.slice sa sn sc) := vk 6 (by simp)
        have v7 : w5.cell? ⟨V, 7, none⟩ = some (.slice none 0 0) := vk 7 (by simp)
        have f7 : w5.frozen? ⟨V, 7, none⟩ = false := vf 7 (by simp)
        obtain ⟨⟨yl, yk⟩, yf⟩ := HY5.out
        have y0 : w5.cell? ⟨w.heap.size + 1, 0, none⟩ = some (.string ⟨#[]⟩) := yk 0 (by simp)
        have q0 : w5.frozen? ⟨w.heap.size + 1, 0, none⟩ = false := yf 0 (by simp)
        have y1 : w5.cell? ⟨w.heap.size + 1, 1, none⟩ = some (.string ⟨#[]⟩) := yk 1 (by simp)
        have q1 : w5.frozen? ⟨w.heap.size + 1, 1, none⟩ = false := yf 1 (by simp)
        have y2 : w5.cell? ⟨w.heap.size + 1, 2, none⟩ = some (.int .i64 0) := yk 2 (by simp)
        have q2 : w5.frozen? ⟨w.heap.size + 1, 2, none⟩ = false := yf 2 (by simp)
        have y3 : w5.cell? ⟨w.heap.size + 1, 3, none⟩ = some (.int .i64 0) := yk 3 (by simp)
        have q3 : w5.frozen? ⟨w.heap.size + 1, 3, none⟩ = false := yf 3 (by simp)
        have y4 : w5.cell? ⟨w.heap.size + 1, 4, none⟩ = some (.int .i64 0) := yk 4 (by simp)
        have q4 : w5.frozen? ⟨w.heap.size + 1, 4, none⟩ = false := yf 4 (by simp)
        have y5 : w5.cell? ⟨w.heap.size + 1, 5, none⟩ = some (.int .i64 0) := yk 5 (by simp)
        have q5 : w5.frozen? ⟨w.heap.size + 1, 5, none⟩ = false := yf 5 (by simp)
        have y6 : w5.cell? ⟨w.heap.size + 1, 6, none⟩ = some (.slice none 0 0) := yk 6 (by simp)
        have q6 : w5.frozen? ⟨w.heap.size + 1, 6, none⟩ = false := yf 6 (by simp)
        have y7 : w5.cell? ⟨w.heap.size + 1, 7, none⟩ = some (.slice none 0 0) := yk 7 (by simp)
        have q7 : w5.frozen? ⟨w.heap.size + 1, 7, none⟩ = false := yf 7 (by simp)
        have hVne : V ≠ w.heap.size + 1 := by have := HVs.out; have := HWS.out; omega
        clear vk vf yk yf HY5 HV5
        have hVl := HVl.out
        have hRl : w.heap.size + 1 < wr.heap.size := by have := HWS.out; have := HB.out.size; omega
        have hwV : w.heap.size ≤ V := by have := HVs.out; have := HWS.out; omega
        have HNE : Hid (∀ G, G < wr.heap.size → hs.length = 0 ∨ ∀ b off, ha = some ⟨b, off, none⟩ → b ≠ G) := hid_intro (fun G hG => by
          rcases HM5.out.own with h0 | ⟨g, e1, e2, _⟩
          · exact .inl h0
          · exact .inr (fun b off q => by rw [e1] at q; simp at q; omega))
        have HNO : Hid (∀ g, (Value.slice sa sn sc).ownBlock = some g → ∀ G, G ≤ V → g ≠ G) := hid_intro (fun g hg G hG => by have := (HO5.out.lt g hg).1; omega)
        have HND : Hid (∀ g, (Value.slice sa sn sc).ownBlock = some g → ∀ b o, ha = some ⟨b, o, none⟩ → hl ≠ 0 → g ≠ b) := hid_intro (fun g hg b o q hn => by
          have h1 := HSZ.out g hg
          rcases HM5.out.own with h0 | ⟨g', e1, e2, _⟩
          · have := HHL.out; omega
          · rw [e1] at q; simp at q; omega)
        have HRV : Hid (w.heap.size + 1 ≤ V) := hid_intro (by have := HVs.out; have := HWS.out; omega)
        have hRV := HRV.out
        have HFW : Hid (∀ W, W.ownsRow (V + 1) 9 1 (.slice sa sn sc) k (cellsAll tcells ts) → MadeG 2 H.cells H.zero wr.heap.size ha hs W → M (.agg #[.string a, .string m, .int .i64 mo, .int .i64 ev, .int .i64 su, .int .i64 mx, .slice sa sn sc, .slice ha hl hcp]) W) := hid_intro (fun W h1 h2 => by
          obtain ⟨_, _, _, h⟩ := HF.out W V (.slice sa sn sc) ha hcp hwV h1 (h2.low (by omega)) HND.out HSL5.out
          exact h)
        have HG1 := hid_intro (HNE.out V hVl)
        have HG2 := hid_intro (HNE.out (w.heap.size + 1) hRl)
        have HG3 : Hid (∀ g, (Value.slice sa sn sc).ownBlock = some g → g ≠ V) := hid_intro (fun g hg => HNO.out g hg V (Nat.le_refl _))
        have HG4 : Hid (∀ g, (Value.slice sa sn sc).ownBlock = some g → g ≠ w.heap.size + 1) := hid_intro (fun g hg => HNO.out g hg _ hRV)
        go_wp2_with fail
        refine bodyPost_ret (v := .agg #[.string a, .string m, .int .i64 mo, .int .i64 ev, .int .i64 su, .int .i64 mx, .slice sa sn sc, .slice ha hl hcp]) (by simp [results, Tryd.results56, go_sem, y0, y1, y2, y3, y4, y5, y6, y7]) rfl ⟨_, rfl, HFW.out _ ?_ ?_, ?_⟩
        · have ho1 := HG3.out
          have ho2 := HG4.out
          exact (own_set (own_set (own_set (own_set (own_set (own_set (own_set (own_set (own_set HO5.out V 7 (.slice ha hl hcp) ho1) (w.heap.size + 1) 0 (.string a) ho2) (w.heap.size + 1) 1 (.string m) ho2) (w.heap.size + 1) 2 (.int .i64 mo) ho2) (w.heap.size + 1) 3 (.int .i64 ev) ho2) (w.heap.size + 1) 4 (.int .i64 su) ho2) (w.heap.size + 1) 5 (.int .i64 mx) ho2) (w.heap.size + 1) 6 (.slice sa sn sc) ho2) (w.heap.size + 1) 7 (.slice ha hl hcp) ho2)
        · have hn1 := HG1.out
          have hn2 := HG2.out
          exact (MadeG.put (MadeG.put (MadeG.put (MadeG.put (MadeG.put (MadeG.put (MadeG.put (MadeG.put (MadeG.put HM5.out V 7 (.slice ha hl hcp) (hn1)) (w.heap.size + 1) 0 (.string a) (hn2)) (w.heap.size + 1) 1 (.string m) (hn2)) (w.heap.size + 1) 2 (.int .i64 mo) (hn2)) (w.heap.size + 1) 3 (.int .i64 ev) (hn2)) (w.heap.size + 1) 4 (.int .i64 su) (hn2)) (w.heap.size + 1) 5 (.int .i64 mx) (hn2)) (w.heap.size + 1) 6 (.slice sa sn sc) (hn2)) (w.heap.size + 1) 7 (.slice ha hl hcp) (hn2))
        · have hb1 : w.heap.size ≤ V := hwV
          have hb2 : w.heap.size ≤ w.heap.size + 1 := Nat.le_succ _
          exact (((((((((HB5.out.setCell (hb1) _).setCell (hb2) _).setCell (hb2) _).setCell (hb2) _).setCell (hb2) _).setCell (hb2) _).setCell (hb2) _).setCell (hb2) _).setCell (hb2) _)
theorem impl_win_s (x : Wd) (ta : Option Addr) (tc : Nat) (ha : Option Addr) (hc : Nat) (w : World) (la : x.a.size ≤ 1048576) (lm : x.m.size ≤ 1048576) (lt : x.ts.length ≤ 1048576) (lts : ∀ t ∈ x.ts, t.size ≤ 1048576) (lh : x.hs.length ≤ 1048576) (l1 : 1 ≤ x.hs.length) (hT : Tgs ta x.ts w) (hH : Hrs ha x.hs w) :
    Calls Tryd.prog 56 #[.agg #[.string x.a, .string x.m, .int .i64 x.mo, .int .i64 x.ev, .int .i64 x.su, .int .i64 x.mx, .slice ta x.ts.length tc, .func (.func 88) #[] #[], .func (.func 89) #[] #[], .slice ha x.hs.length hc, .func (.func 90) #[] #[], .func (.func 91) #[] #[]]] w fun e w' => ∃ v, e = .returned v ∧ MadeWS w.heap.size x v w' ∧ Below w.heap.size w w' := by
  obtain ⟨b, off, rfl, _, _⟩ := hH.at 0 (by omega)
  exact win_in x.a x.m x.mo x.ev x.su x.mx x.ts ta tc x.hs b off hc w la lm lt lts lh hT hH
theorem impl_win (x : Wd) (ta : Option Addr) (tc : Nat) (ha : Option Addr) (hc : Nat) (w : World) (la : x.a.size ≤ 1048576) (lm : x.m.size ≤ 1048576) (lt : x.ts.length ≤ 1048576) (lts : ∀ t ∈ x.ts, t.size ≤ 1048576) (lh : x.hs.length ≤ 1048576) (l1 : 1 ≤ x.hs.length) (hT : Tgs ta x.ts w) (hH : Hrs ha x.hs w) :
    Calls Tryd.prog 56 #[.agg #[.string x.a, .string x.m, .int .i64 x.mo, .int .i64 x.ev, .int .i64 x.su, .int .i64 x.mx, .slice ta x.ts.length tc, .func (.func 88) #[] #[], .func (.func 89) #[] #[], .slice ha x.hs.length hc, .func (.func 90) #[] #[], .func (.func 91) #[] #[]]] w fun e w' => ∃ v, e = .returned v ∧ MadeW w.heap.size x v w' ∧ Below w.heap.size w w' := by
  refine (impl_win_s x ta tc ha hc w la lm lt lts lh l1 hT hH).mono ?_
  rintro e w' ⟨v, rfl, hm, hb⟩
  exact ⟨v, rfl, hm.1, hb⟩
end WinR
end Go.Proofs.YtnlmpejgiakepaaDoor
namespace Go.Proofs.YtnlmpejgiakepaaDoor
open Go.ChangeShapes Go.WideShapes Go.ChangeAt Go.RowKit
set_option linter.unusedVariables false
namespace StR
open EvtR (Pt cell_put cell_far)
open CatR (Blk)
/-- The cells from a place on are written. -/
def stL (W : World) (p : Nat) : Nat → List Value → World
  | _, [] => W
  | o, v :: vs => stL (W.setCell ⟨p, o, none⟩ v) p (o + 1) vs
theorem gtr {w w1 w2 : World} {g : Option Nat} (h1 : w.grownBy w1 g) (h2 : w1.grownBy w2 g) : w.grownBy w2 g :=
  ⟨h2.os.trans h1.os, h2.tape.trans h1.tape, h2.output.trans h1.output, Nat.le_trans h1.size h2.size, fun k hk hne => (h2.block k (by have := h1.size; omega) hne).trans (h1.block k hk hne)⟩
theorem stL_grown (p : Nat) : ∀ (vs : List Value) (o : Nat) (W : World), W.grownBy (stL W p o vs) (some p)
  | [], _, W => ⟨rfl, rfl, rfl, Nat.le_refl _, fun _ _ _ => rfl⟩
  | v :: vs, o, W => gtr (RowG.grown_set W p o v) (stL_grown p vs (o + 1) _)
theorem stL_pt {p n : Nat} : ∀ (vs : List Value) (o : Nat) (W : World), Pt p n W → Pt p n (stL W p o vs)
  | [], _, _, h => h
  | v :: vs, o, W, h => stL_pt vs (o + 1) _ (h.set o v)
theorem stL_old {p : Nat} : ∀ (vs : List Value) (o : Nat) (W : World) (j : Nat), j < o → (stL W p o vs).cell? ⟨p, j, none⟩ = W.cell? ⟨p, j, none⟩
  | [], _, _, _, _ => rfl
  | v :: vs, o, W, j, hj => (stL_old vs (o + 1) _ j (by omega)).trans (cell_far o j (by omega) v)
theorem stL_cells {p n : Nat} : ∀ (vs : List Value) (o : Nat) (W : World), Pt p n W → o + vs.length ≤ n → ∀ i, i < vs.length → (stL W p o vs).cell? ⟨p, o + i, none⟩ = vs[i]?
  | [], _, _, _, _, i, hi => absurd hi (by simp)
  | v :: vs, o, W, hp, hn, i, hi => by
    simp only [List.length_cons] at hn hi
    cases i with
    | zero =>
      rw [Nat.add_zero]
      exact (stL_old vs (o + 1) _ o (by omega)).trans ((cell_put hp o (by omega) v).trans rfl)
    | succ i =>
      have := stL_cells vs (o + 1) (W.setCell ⟨p, o, none⟩ v) (hp.set o v) (by omega) i (by omega)
      rw [show o + 1 + i = o + (i + 1) by omega] at this
      exact this.trans rfl
theorem stL_blk {p n : Nat} {vs : List Value} {W : World} (hp : Pt p n W) (hn : vs.length ≤ n) : Blk p vs (stL W p 0 vs) :=
  ⟨(stL_pt vs 0 W hp).lt, fun i hi => by have := stL_cells vs 0 W hp (by omega) i hi; rw [Nat.zero_add] at this; exact this⟩
theorem pt_far {p q n : Nat} {W W' : World} (h : Pt p n W) (hg : W.grownBy W' (some q)) (hne : p ≠ q) : Pt p n W' := by
  have e := hg.block p h.lt (by simpa using hne)
  exact ⟨by have := hg.size; have := h.lt; omega, fun o ho => by obtain ⟨v, hv⟩ := h.has o ho; exact ⟨v, (World.cell?_of_block (a := ⟨p, o, none⟩) e).trans hv⟩, fun o ho => (World.frozen?_of_block (a := ⟨p, o, none⟩) e).trans (h.free o ho)⟩
theorem blk_far {p q : Nat} {cs : List Value} {W W' : World} (h : Blk p cs W) (hg : W.grownBy W' (some q)) (hne : p ≠ q) : Blk p cs W' := by
  have e := hg.block p h.1 (by simpa using hne)
  exact ⟨by have := hg.size; have := h.1; omega, fun i hi => (World.cell?_of_block (a := ⟨p, i, none⟩) e).trans (h.2 i hi)⟩
/-- A new block of cells may be written. -/
theorem pt_new (w : World) (cs : List Value) (T : TypeId) : Pt w.heap.size cs.length (w.alloc (.cells cs.toArray T)) :=
  ⟨by simp, fun o ho => ⟨cs[o], by simp [go_sem, ho]⟩, fun o ho => by simp [go_sem]⟩
end StR
end Go.Proofs.YtnlmpejgiakepaaDoor
namespace Go.Proofs.YtnlmpejgiakepaaDoor
open Go.ChangeShapes Go.WideShapes Go.ChangeAt Go.RowKit
set_option linter.unusedVariables false
namespace WinR
section
variable {α : Type} (lt : α → α → Bool) (f : α → α → α)
/-- Two at a time. -/
def mrg : List α → List α → List α
  | [], ys => ys
  | x :: xs, [] => x :: xs
  | x :: xs, y :: ys => if lt x y then x :: mrg xs (y :: ys) else if lt y x then y :: mrg (x :: xs) ys else f x y :: mrg xs ys
termination_by a b => a.length + b.length
/-- One put in its place. -/
def ins : List α → α → List α
  | [], y => [y]
  | x :: xs, y => if lt x y then x :: ins xs y else if lt y x then y :: x :: xs else f x y :: xs
/-- Each is smaller than the next. -/
def Rs : List α → Prop
  | [] => True
  | [_] => True
  | x :: y :: l => lt x y = true ∧ Rs (y :: l)
theorem mrg_nil (a : List α) : mrg lt f a [] = a := by cases a <;> simp [mrg]
theorem mrg_head (x : α) (xs ys : List α) (h : ∀ y ∈ ys.head?, lt x y = true) : mrg lt f (x :: xs) ys = x :: mrg lt f xs ys := by
  cases ys with
  | nil => simp [mrg_nil]
  | cons y l =>
    have := h y (by simp)
    rw [mrg, if_pos this]
variable (tr : ∀ x y z, lt x y = true → lt y z = true → lt x z = true) (te : ∀ x y z, lt x y = false → lt y x = false → lt y z = true → lt (f x y) z = true)
include tr te
theorem mrg_ins (a : List α) (y : α) (ys : List α) (h : ∀ z ∈ ys.head?, lt y z = true) : mrg lt f a (y :: ys) = mrg lt f (ins lt f a y) ys := by
  induction a with
  | nil => rw [mrg, ins, mrg_head lt f y [] ys h, mrg]
  | cons x xs ih =>
    rw [mrg, ins]
    by_cases h1 : lt x y = true
    · rw [if_pos h1, if_pos h1, ih, mrg_head lt f x _ ys (fun z hz => tr _ _ _ h1 (h z hz))]
    · rw [if_neg h1, if_neg h1]
      by_cases h2 : lt y x = true
      · rw [if_pos h2, if_pos h2, mrg_head lt f y _ ys h]
      · rw [if_neg h2, if_neg h2, mrg_head lt f (f x y) xs ys (fun z hz => te _ _ _ (by simpa using h1) (by simpa using h2) (h z hz))]
theorem mrg_fold (a b : List α) (h : Rs lt b) : mrg lt f a b = b.foldl (ins lt f) a := by
  induction b generalizing a with
  | nil => rw [mrg_nil]; rfl
  | cons y ys ih =>
    have hy : ∀ z ∈ ys.head?, lt y z = true := by
      intro z hz
      cases ys with
      | nil => simp at hz
      | cons z' l => simp at hz; subst hz; exact h.1
    have hr : Rs lt ys := by
      cases ys with
      | nil => trivial
      | cons z' l => exact h.2
    rw [mrg_ins lt f tr te a y ys hy, ih _ hr]
    rfl
end
end WinR
end Go.Proofs.YtnlmpejgiakepaaDoor
