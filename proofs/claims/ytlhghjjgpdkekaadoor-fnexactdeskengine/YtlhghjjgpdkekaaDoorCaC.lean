/-
  The law's own helpers over a catalog: its size, its copy, two held against each other. The condition: all in it is small.
-/
import Derived.Test.YtlhghjjgpdkekaaDoorCaL2
import Derived.Test.YtlhghjjgpdkekaaDoorCrL
namespace Go.Proofs.YtlhghjjgpdkekaaDoor
open Go.ChangeShapes Go.WideShapes Go.ChangeAt Go.RowKit
set_option linter.unusedVariables false
namespace CatR
open EvtR (Pt cell_put cell_far)
structure Ca.Small (c : Ca) : Prop where
  ml : c.ms.length ≤ 1048576
  ms : ∀ i, i < c.ms.length → (c.ms.getD i Me.zero).Small
  cl : c.cs.length ≤ 1048576
  cs : ∀ i, i < c.cs.length → (c.cs.getD i Cr.zero).a.size ≤ 1048576
structure Ca.In (c : Ca) : Prop where
  ml : c.ms.length ≤ maxLen
  ms : ∀ i, i < c.ms.length → (c.ms.getD i Me.zero).In
  cl : c.cs.length ≤ maxLen
  cs : ∀ i, i < c.cs.length → (c.cs.getD i Cr.zero).a.size ≤ maxLen
theorem NewMes.far {base g : Nat} {bs : Nat → Nat} {n k : Nat} {ms : List Me} {w : World} (h : NewMes base g bs n k ms w) {b : Nat} (hb : b < base) (o : Nat) (v : Value) : NewMes base g bs n k ms (w.setCell ⟨b, o, none⟩ v) := by
  have hg := h.lo
  refine ⟨h.lo, h.pt.far (by omega) o v, h.inc, fun i hi => ?_⟩
  have hi2 := (h.inc i hi).1
  obtain ⟨⟨h0, h1, h2, h3, h4, h5⟩, h6, h7⟩ := h.cel i hi
  have e := far_block w b o v g (by omega)
  have f := fun x => World.cell?_of_block (a := ⟨g, x, none⟩) e
  exact ⟨⟨(f _).trans h0, (f _).trans h1, (f _).trans h2, (f _).trans h3, (f _).trans h4, (f _).trans h5⟩, h6.far (by omega) o v, h7.far (by omega) o v⟩
theorem NewMes.mono {base base' g : Nat} {bs : Nat → Nat} {n k : Nat} {ms : List Me} {w : World} (h : NewMes base g bs n k ms w) (hb : base' ≤ base) : NewMes base' g bs n k ms w := ⟨by have := h.lo; omega, h.pt, h.inc, h.cel⟩
theorem Crs.far {b0 off len : Nat} {ts : List Cr} {w : World} (h : Crs (some ⟨b0, off, none⟩) len ts w) {b : Nat} (hb : b ≠ b0) (o : Nat) (v : Value) : Crs (some ⟨b0, off, none⟩) len ts (w.setCell ⟨b, o, none⟩ v) := by
  refine ⟨h.1, ?_⟩
  rcases h.2 with h0 | ⟨b1, off1, e, hlt, hc⟩
  · exact .inl h0
  · obtain ⟨rfl, rfl⟩ : b0 = b1 ∧ off = off1 := by simpa using e
    have e := far_block w b o v b0 hb
    exact .inr ⟨b0, off, rfl, by simpa using hlt, fun j hj => ⟨(World.cell?_of_block (a := ⟨b0, _, none⟩) e).trans (hc j hj).1, (World.cell?_of_block (a := ⟨b0, _, none⟩) e).trans (hc j hj).2⟩⟩
/-- A catalog that a copy has made. -/
def NewCa (base : Nat) (v : Value) (c : Ca) (w : World) : Prop := ∃ g bs h, v = .agg #[.slice (some ⟨g, 0, none⟩) c.ms.length c.ms.length, .slice (some ⟨h, 0, none⟩) c.cs.length c.cs.length] ∧ NewMes base g bs c.ms.length c.ms.length c.ms w ∧ g < h ∧ (∀ i, i < c.ms.length → bs i < h) ∧ Crs (some ⟨h, 0, none⟩) c.cs.length c.cs w ∧ Pt h (c.cs.length * 2) w
theorem NewCa.is {base : Nat} {v : Value} {c : Ca} {w : World} (h : NewCa base v c w) : IsCa v c w := by
  obtain ⟨g, bs, h0, h1, h2, h3, h4, h5, h6⟩ := h
  exact ⟨_, _, _, _, h1, h2.is rfl, h5⟩
theorem NewCa.below {base : Nat} {v : Value} {c : Ca} {w w' : World} (h : NewCa base v c w) (hb : Below w.heap.size w w') : NewCa base v c w' := by
  obtain ⟨g, bs, h0, h1, h2, h3, h4, h5, h6⟩ := h
  exact ⟨g, bs, h0, h1, h2.below hb, h3, h4, h5.below hb, h6.below hb⟩
set_option maxHeartbeats 4000000 in
theorem eqCa_any (v v' : Value) (c : Ca) (w : World) (hS : c.Small) (hI : IsCa v c w) (hJ : IsCa v' c w) :
    Calls Tryd.prog 13 #[v, v'] w fun e w' => e = .returned (.bool true) ∧ Below w.heap.size w w' := by
  obtain ⟨ma, mc, ca, cc, rfl, hM, hR⟩ := hI
  obtain ⟨ma', mc', ca', cc', rfl, hM', hR'⟩ := hJ
  obtain ⟨ms, cs⟩ := c
  obtain ⟨s1, s2, s3, s4⟩ := hS
  simp only at *
  have HM : Hid (∀ W, Below w.heap.size w W → Calls Tryd.prog 36 #[.slice ma ms.length mc, .slice ma' ms.length mc'] W fun e w' => e = .returned (.bool true) ∧ Below W.heap.size W w') := hid_intro (fun W hW => eqMes_any ma ma' ms.length mc mc' ms W s1 s2 (hM.below hW) (hM'.below hW))
  have HR : Hid (∀ W, Below w.heap.size w W → Calls Tryd.prog 37 #[.slice ca cs.length cc, .slice ca' cs.length cc'] W fun e w' => e = .returned (.bool true) ∧ Below W.heap.size W w') := hid_intro (fun W hW => eqCrs_any ca ca' cs.length cc cc' cs W s3 (hR.below hW) (hR'.below hW))
  clear hM hR hM' hR' s1 s2 s3 s4
  generalize ms.length = ml at *
  generalize cs.length = cl at *
  have HB : Hid (Below w.heap.size w ((w.alloc (.cells #[.slice ma ml mc, .slice ca cl cc] 25)).alloc (.cells #[.slice ma' ml mc', .slice ca' cl cc'] 25))) := hid_intro (((Below.refl _ _).alloc (Nat.le_refl _) _).alloc (by simp) _)
  go_enter Tryd.func13, Tryd.ntmps13
  go_wp2_with fail
  refine (HM.out _ HB.out).mono ?_
  rintro e w1 ⟨rfl, hb1⟩
  obtain ⟨hcc, hff⟩ := bcell hb1
  have hlt : w.heap.size + 1 < w1.heap.size := by have := hb1.size; simp at this; omega
  have HB1 := hid_intro (HB.out.trans (hb1.mono HB.out.size))
  have p1 : w1.cell? ⟨w.heap.size, 1, none⟩ = some (.slice ca cl cc) := (hcc w.heap.size 1 (by simp; omega)).trans (by simp [go_sem])
  have p2 : w1.cell? ⟨w.heap.size + 1, 1, none⟩ = some (.slice ca' cl cc') := (hcc (w.heap.size + 1) 1 (by simp)).trans (by simp [go_sem])
  clear hb1 hcc hff
  go_wp2_with fail
  refine (HR.out _ HB1.out).mono ?_
  rintro e w2 ⟨rfl, hb2⟩
  have HB2 := hid_intro (HB1.out.trans (hb2.mono HB1.out.size))
  clear hb2
  go_wp2_with fail
  go_ret
  exact ⟨rfl, HB2.out⟩
end CatR
end Go.Proofs.YtlhghjjgpdkekaaDoor
