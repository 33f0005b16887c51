/-
  A window laid anew, with its blocks told. The condition: the lists are of at most 1048576.
-/
import Derived.Test.YtmeemmbpkjfleaaDoorWdX
namespace Go.Proofs.YtmeemmbpkjfleaaDoor
open Go.ChangeShapes Go.WideShapes Go.ChangeAt Go.RowKit
set_option linter.unusedVariables false
namespace WinR
open RowG
open CatR (Blk Blk.new)
/-- A window of one's own: both lists stand at the start of blocks of their own, as long as their room. -/
def TwW (base : Nat) (x : Wd) (v : Value) (w : World) : Prop := ∃ g1 g2, v = .agg (wcells x (some ⟨g1, 0, none⟩) x.ts.length (some ⟨g2, 0, none⟩) x.hs.length) ∧ base ≤ g1 ∧ base ≤ g2 ∧ g1 ≠ g2 ∧ MadeG 1 tcells tz base (some ⟨g1, 0, none⟩) x.ts w ∧ MadeG 2 H.cells H.zero base (some ⟨g2, 0, none⟩) x.hs w
theorem TwW.below {base : Nat} {x : Wd} {v : Value} {w w' : World} (h : TwW base x v w) (hb : Below w.heap.size w w') : TwW base x v w' := by
  obtain ⟨g1, g2, e, l1, l2, hn, m1, m2⟩ := h
  exact ⟨g1, g2, e, l1, l2, hn, m1.below hb, m2.below hb⟩
theorem TwW.made {base : Nat} {x : Wd} {v : Value} {w : World} (h : TwW base x v w) : MadeW base x v w := by
  obtain ⟨g1, g2, e, l1, l2, hn, m1, m2⟩ := h
  exact ⟨_, _, _, _, e, m1, m2, .inr (.inr (fun b o b' o' e1 e2 => by simp at e1 e2; omega))⟩
set_option maxRecDepth 100000 in
set_option maxHeartbeats 8000000 in
theorem toTw_in (a m : ByteArray) (mo ev su mx : Int) (ta : Option Addr) (ts : List ByteArray) (tc : Nat) (ha : Option Addr) (hs : List H) (hc : Nat) (w : World) (ht : ts.length ≤ 1048576) (hh : hs.length ≤ 1048576) (hT : Tgs ta ts w) (hH : Hrs ha hs w) :
    Calls Tryd.prog 9 #[.agg #[.string a, .string m, .int .i64 mo, .int .i64 ev, .int .i64 su, .int .i64 mx, .slice ta ts.length tc, .slice ha hs.length hc]] w fun e w' => ∃ v, e = .returned v ∧ TwW w.heap.size ⟨a, m, mo, ev, su, mx, ts, hs⟩ v w' ∧ Below w.heap.size w w' := by
  have H1 := hid_intro (fun W (hW : Below w.heap.size w W) => toTs_any ta tc ts W ht (hT.below hW))
  have H2 := hid_intro (fun W (hW : Below w.heap.size w W) => toHs_any ha hc hs W hh (hH.below hW))
  have HF : Hid (∀ W g1 g2, w.heap.size ≤ g1 → w.heap.size ≤ g2 → g1 ≠ g2 → MadeG 1 tcells tz g1 (some ⟨g1, 0, none⟩) ts W → MadeG 2 H.cells H.zero g2 (some ⟨g2, 0, none⟩) hs W → TwW w.heap.size ⟨a, m, mo, ev, su, mx, ts, hs⟩ (.agg #[.string a, .string m, .int .i64 mo, .int .i64 ev, .int .i64 su, .int .i64 mx, .slice (some ⟨g1, 0, none⟩) ts.length ts.length, .slice (some ⟨g2, 0, none⟩) hs.length hs.length]) W) := hid_intro (fun W g1 g2 l1 l2 hn m1 m2 =>
    ⟨g1, g2, rfl, l1, l2, hn, m1.low l1, m2.low l2⟩)
  generalize TwW w.heap.size ⟨a, m, mo, ev, su, mx, ts, hs⟩ = M at *
  obtain ⟨tl, htl⟩ : ∃ tl, tl = ts.length := ⟨_, rfl⟩
  obtain ⟨hl, hhl⟩ : ∃ hl, hl = hs.length := ⟨_, rfl⟩
  have HTL := hid_intro htl
  have HHL := hid_intro hhl
  rw [← htl] at ht H1 HF ⊢
  rw [← hhl] at hh H2 HF ⊢
  clear hT hH htl hhl
  have HB0 : Hid (Below w.heap.size w (((w.alloc (.cells #[.string a, .string m, .int .i64 mo, .int .i64 ev, .int .i64 su, .int .i64 mx, .slice ta tl tc, .slice ha hl hc] 25)).alloc (.cells #[.string ⟨#[]⟩, .string ⟨#[]⟩, .int .i64 0, .int .i64 0, .int .i64 0, .int .i64 0, .slice none 0 0, .slice none 0 0] 29)).alloc (.cells #[.string a, .string m, .int .i64 mo, .int .i64 ev, .int .i64 su, .int .i64 mx, .slice none 0 0, .slice none 0 0] 29))) := hid_intro ((((Below.refl _ _).alloc (Nat.le_refl _) _).alloc (by simp) _).alloc (by simp; omega) _)
  have HX0 := hid_intro (((BlkW.new w [.string a, .string m, .int .i64 mo, .int .i64 ev, .int .i64 su, .int .i64 mx, .slice ta tl tc, .slice ha hl hc] 25).below ((Below.refl _ _).alloc (Nat.le_refl _) (Obj.cells #[.string ⟨#[]⟩, .string ⟨#[]⟩, .int .i64 0, .int .i64 0, .int .i64 0, .int .i64 0, .slice none 0 0, .slice none 0 0] 29))).below ((Below.refl _ _).alloc (Nat.le_refl _) (Obj.cells #[.string a, .string m, .int .i64 mo, .int .i64 ev, .int .i64 su, .int .i64 mx, .slice none 0 0, .slice none 0 0] 29)))
  have HY0 := hid_intro ((BlkW.new (w.alloc (.cells #[.string a, .string m, .int .i64 mo, .int .i64 ev, .int .i64 su, .int .i64 mx, .slice ta tl tc, .slice ha hl hc] 25)) [.string ⟨#[]⟩, .string ⟨#[]⟩, .int .i64 0, .int .i64 0, .int .i64 0, .int .i64 0, .slice none 0 0, .slice none 0 0] 29).below ((Below.refl _ _).alloc (Nat.le_refl _) (Obj.cells #[.string a, .string m, .int .i64 mo, .int .i64 ev, .int .i64 su, .int .i64 mx, .slice none 0 0, .slice none 0 0] 29)))
  have HZ0 := hid_intro (BlkW.new ((w.alloc (.cells #[.string a, .string m, .int .i64 mo, .int .i64 ev, .int .i64 su, .int .i64 mx, .slice ta tl tc, .slice ha hl hc] 25)).alloc (.cells #[.string ⟨#[]⟩, .string ⟨#[]⟩, .int .i64 0, .int .i64 0, .int .i64 0, .int .i64 0, .slice none 0 0, .slice none 0 0] 29)) [.string a, .string m, .int .i64 mo, .int .i64 ev, .int .i64 su, .int .i64 mx, .slice none 0 0, .slice none 0 0] 29)
  have e1 : (w.alloc (.cells #[.string a, .string m, .int .i64 mo, .int .i64 ev, .int .i64 su, .int .i64 mx, .slice ta tl tc, .slice ha hl hc] 25)).heap.size = w.heap.size + 1 := by simp
  have e2 : ((w.alloc (.cells #[.string a, .string m, .int .i64 mo, .int .i64 ev, .int .i64 su, .int .i64 mx, .slice ta tl tc, .slice ha hl hc] 25)).alloc (.cells #[.string ⟨#[]⟩, .string ⟨#[]⟩, .int .i64 0, .int .i64 0, .int .i64 0, .int .i64 0, .slice none 0 0, .slice none 0 0] 29)).heap.size = w.heap.size + 1 + 1 := by simp
  rw [e1] at HY0
  rw [e2] at HZ0
  clear e1 e2
  go_enter Tryd.func9, Tryd.ntmps9
  go_wp2_with fail
  refine (H1.out _ HB0.out).mono ?_
  rintro e w1 ⟨rfl, hT1, hP1, hb1⟩
  have HM1 := hid_intro (show MadeG 1 tcells tz _ _ ts w1 from ⟨hT1, .inr ⟨_, rfl, Nat.le_refl _, by rw [Nat.mul_one]; exact HTL.out ▸ hP1⟩⟩)
  obtain ⟨g1, hg1⟩ : ∃ g1, g1 = (((w.alloc (.cells #[.string a, .string m, .int .i64 mo, .int .i64 ev, .int .i64 su, .int .i64 mx, .slice ta tl tc, .slice ha hl hc] 25)).alloc (.cells #[.string ⟨#[]⟩, .string ⟨#[]⟩, .int .i64 0, .int .i64 0, .int .i64 0, .int .i64 0, .slice none 0 0, .slice none 0 0] 29)).alloc (.cells #[.string a, .string m, .int .i64 mo, .int .i64 ev, .int .i64 su, .int .i64 mx, .slice none 0 0, .slice none 0 0] 29)).heap.size := ⟨_, rfl⟩
  have HG1 : Hid (w.heap.size + 3 = g1) := hid_intro (by rw [hg1]; simp)
  have HG1b : Hid (g1 < w1.heap.size) := hid_intro (by rw [hg1]; exact hP1.lt)
  rw [← hg1] at HM1 ⊢
  clear hg1
  have HX1 := hid_intro (HX0.out.below hb1)
  have HY1 := hid_intro ((HY0.out.below hb1).other (w.heap.size + 1 + 1) 6 (.slice (some ⟨g1, 0, none⟩) tl tl) (by omega))
  have HZ1 := hid_intro ((HZ0.out.below hb1).set 6 (.slice (some ⟨g1, 0, none⟩) tl tl) (by simp))
  have HZ1' := hid_intro (HZ0.out.below hb1)
  have HB1 : Hid (Below w.heap.size w (w1.setCell ⟨w.heap.size + 1 + 1, 6, none⟩ (.slice (some ⟨g1, 0, none⟩) tl tl))) := hid_intro ((HB0.out.trans (hb1.mono HB0.out.size)).setCell (by simp; omega) _)
  obtain ⟨⟨xl, xc⟩, _⟩ := HX1.out
  have x7 : w1.cell? ⟨w.heap.size, 7, none⟩ = some (.slice ha hl hc) := xc 7 (by simp)
  obtain ⟨⟨zl, zk⟩, zf⟩ := HZ1'.out
  have z6 : w1.cell? ⟨w.heap.size + 1 + 1, 6, none⟩ = some (.slice none 0 0) := zk 6 (by simp)
  have f6 : w1.frozen? ⟨w.heap.size + 1 + 1, 6, none⟩ = false := zf 6 (by simp)
  clear xc zk zf hT1 hP1 hb1 HZ1' HX0 HY0 HZ0 HX1
  replace HM1 := hid_intro (MadeG.put HM1.out (w.heap.size + 1 + 1) 6 (.slice (some ⟨g1, 0, none⟩) tl tl) (.inr (fun b off e => by simp at e; have := HG1.out; omega)))
  go_wp2_with fail
  refine (H2.out _ HB1.out).mono ?_
  rintro e w2 ⟨rfl, hT2, hP2, hb2⟩
  have HM2 := hid_intro (show MadeG 2 H.cells H.zero _ _ hs w2 from ⟨hT2, .inr ⟨_, rfl, Nat.le_refl _, HHL.out ▸ hP2⟩⟩)
  obtain ⟨g2, hg2⟩ : ∃ g2, g2 = (w1.setCell ⟨w.heap.size + 1 + 1, 6, none⟩ (.slice (some ⟨g1, 0, none⟩) tl tl)).heap.size := ⟨_, rfl⟩
  have HG2 : Hid (g1 < g2) := hid_intro (by rw [hg2]; simpa using HG1b.out)
  rw [← hg2] at HM2 ⊢
  clear hg2
  replace HM1 := hid_intro (HM1.out.below hb2)
  replace HY1 := hid_intro (HY1.out.below hb2)
  replace HZ1 := hid_intro (HZ1.out.below hb2)
  replace HB1 := hid_intro (HB1.out.trans (hb2.mono HB1.out.size))
  clear hT2 hP2 hb2 x7 z6 f6 xl zl
  obtain ⟨⟨zl, zk⟩, zf⟩ := HZ1.out
  have z0 : w2.cell? ⟨w.heap.size + 1 + 1, 0, none⟩ = some (.string a) := zk 0 (by simp)
  have z1 : w2.cell? ⟨w.heap.size + 1 + 1, 1, none⟩ = some (.string m) := zk 1 (by simp)
  have z2 : w2.cell? ⟨w.heap.size + 1 + 1, 2, none⟩ = some (.int .i64 mo) := zk 2 (by simp)
  have z3 : w2.cell? ⟨w.heap.size + 1 + 1, 3, none⟩ = some (.int .i64 ev) := zk 3 (by simp)
  have z4 : w2.cell? ⟨w.heap.size + 1 + 1, 4, none⟩ = some (.int .i64 su) := zk 4 (by simp)
  have z5 : w2.cell? ⟨w.heap.size + 1 + 1, 5, none⟩ = some (.int .i64 mx) := zk 5 (by simp)
  have z6 : w2.cell? ⟨w.heap.size + 1 + 1, 6, none⟩ = some (.slice (some ⟨g1, 0, none⟩) tl tl) := zk 6 (by simp)
  have z7 : w2.cell? ⟨w.heap.size + 1 + 1, 7, none⟩ = some (.slice none 0 0) := zk 7 (by simp)
  have f7 : w2.frozen? ⟨w.heap.size + 1 + 1, 7, none⟩ = false := zf 7 (by simp)
  obtain ⟨⟨yl, yk⟩, yf⟩ := HY1.out
  have y0 : w2.cell? ⟨w.heap.size + 1, 0, none⟩ = some (.string ⟨#[]⟩) := yk 0 (by simp)
  have q0 : w2.frozen? ⟨w.heap.size + 1, 0, none⟩ = false := yf 0 (by simp)
  have y1 : w2.cell? ⟨w.heap.size + 1, 1, none⟩ = some (.string ⟨#[]⟩) := yk 1 (by simp)
  have q1 : w2.frozen? ⟨w.heap.size + 1, 1, none⟩ = false := yf 1 (by simp)
  have y2 : w2.cell? ⟨w.heap.size + 1, 2, none⟩ = some (.int .i64 0) := yk 2 (by simp)
  have q2 : w2.frozen? ⟨w.heap.size + 1, 2, none⟩ = false := yf 2 (by simp)
  have y3 : w2.cell? ⟨w.heap.size + 1, 3, none⟩ = some (.int .i64 0) := yk 3 (by simp)
  have q3 : w2.frozen? ⟨w.heap.size + 1, 3, none⟩ = false := yf 3 (by simp)
  have y4 : w2.cell? ⟨w.heap.size + 1, 4, none⟩ = some (.int .i64 0) := yk 4 (by simp)
  have q4 : w2.frozen? ⟨w.heap.size + 1, 4, none⟩ = false := yf 4 (by simp)
  have y5 : w2.cell? ⟨w.heap.size + 1, 5, none⟩ = some (.int .i64 0) := yk 5 (by simp)
  have q5 : w2.frozen? ⟨w.heap.size + 1, 5, none⟩ = false := yf 5 (by simp)
  have y6 : w2.cell? ⟨w.heap.size + 1, 6, none⟩ = some (.slice none 0 0) := yk 6 (by simp)
  have q6 : w2.frozen? ⟨w.heap.size + 1, 6, none⟩ = false := yf 6 (by simp)
  have y7 : w2.cell? ⟨w.heap.size + 1, 7, none⟩ = some (.slice none 0 0) := yk 7 (by simp)
  have q7 : w2.frozen? ⟨w.heap.size + 1, 7, none⟩ = false := yf 7 (by simp)
  clear zk zf yk yf HY1 HZ1
  have HN1 : Hid (∀ b off, (some ⟨g1, 0, none⟩ : Option Addr) = some ⟨b, off, none⟩ → ∀ g, g ≤ w.heap.size + 1 + 1 → b ≠ g) := hid_intro (fun b off e g hg => by simp at e; have := HG1.out; omega)
  have HN2 : Hid (∀ b off, (some ⟨g2, 0, none⟩ : Option Addr) = some ⟨b, off, none⟩ → ∀ g, g ≤ w.heap.size + 1 + 1 → b ≠ g) := hid_intro (fun b off e g hg => by simp at e; have := HG1.out; have := HG2.out; omega)
  go_wp2_with fail
  refine bodyPost_ret (v := .agg #[.string a, .string m, .int .i64 mo, .int .i64 ev, .int .i64 su, .int .i64 mx, .slice (some ⟨g1, 0, none⟩) tl tl, .slice (some ⟨g2, 0, none⟩) hl hl]) (by simp [results, Tryd.results9, go_sem, y0, y1, y2, y3, y4, y5, y6, y7]) rfl ⟨_, rfl, HF.out _ g1 g2 (by have := HG1.out; omega) (by have := HG1.out; have := HG2.out; omega) (by have := HG2.out; omega) ?_ ?_, ?_⟩
  · exact (MadeG.put (MadeG.put (MadeG.put (MadeG.put (MadeG.put (MadeG.put (MadeG.put (MadeG.put (MadeG.put HM1.out _ _ _ (.inr (fun b off e => HN1.out b off e _ (by omega)))) _ _ _ (.inr (fun b off e => HN1.out b off e _ (by omega)))) _ _ _ (.inr (fun b off e => HN1.out b off e _ (by omega)))) _ _ _ (.inr (fun b off e => HN1.out b off e _ (by omega)))) _ _ _ (.inr (fun b off e => HN1.out b off e _ (by omega)))) _ _ _ (.inr (fun b off e => HN1.out b off e _ (by omega)))) _ _ _ (.inr (fun b off e => HN1.out b off e _ (by omega)))) _ _ _ (.inr (fun b off e => HN1.out b off e _ (by omega)))) _ _ _ (.inr (fun b off e => HN1.out b off e _ (by omega))))
  · exact (MadeG.put (MadeG.put (MadeG.put (MadeG.put (MadeG.put (MadeG.put (MadeG.put (MadeG.put (MadeG.put HM2.out _ _ _ (.inr (fun b off e => HN2.out b off e _ (by omega)))) _ _ _ (.inr (fun b off e => HN2.out b off e _ (by omega)))) _ _ _ (.inr (fun b off e => HN2.out b off e _ (by omega)))) _ _ _ (.inr (fun b off e => HN2.out b off e _ (by omega)))) _ _ _ (.inr (fun b off e => HN2.out b off e _ (by omega)))) _ _ _ (.inr (fun b off e => HN2.out b off e _ (by omega)))) _ _ _ (.inr (fun b off e => HN2.out b off e _ (by omega)))) _ _ _ (.inr (fun b off e => HN2.out b off e _ (by omega)))) _ _ _ (.inr (fun b off e => HN2.out b off e _ (by omega))))
  · exact (((((((((HB1.out.setCell (by simp; omega) _).setCell (by simp) _).setCell (by simp) _).setCell (by simp) _).setCell (by simp) _).setCell (by simp) _).setCell (by simp) _).setCell (by simp) _).setCell (by simp) _)
theorem toTw_any (v : Value) (x : Wd) (w : World) (ht : x.ts.length ≤ 1048576) (hh : x.hs.length ≤ 1048576) (h : IsWd v x w) :
    Calls Tryd.prog 9 #[v] w fun e w' => ∃ v', e = .returned v' ∧ TwW w.heap.size x v' w' ∧ Below w.heap.size w w' := by
  obtain ⟨ta, tc, ha, hc, rfl, hT, hH⟩ := h
  exact toTw_in x.a x.m x.mo x.ev x.su x.mx ta x.ts tc ha x.hs hc w ht hh hT hH
end WinR
end Go.Proofs.YtmeemmbpkjfleaaDoor
