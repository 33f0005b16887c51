/-
  The law's own helpers over a catalog: its size, its copy, two held against each other. The condition: all in it is small.
  The order of texts, what a right catalog is, and a map of meters by their names, as read. No condition.
  The program's map of meters by their names: made, and taken from. The condition: at most 6 meters, their names of at most 1048576 bytes; the program's own error stands in its variable.
-/
import Derived.Maps.OwnSet
import Derived.OwnWalk
import Derived.Carry
import Derived.Test.YtcilbmhkhllmjaaGreatDoorB5
namespace Go.Proofs.YtcilbmhkhllmjaaGreatDoor
open Go.ChangeShapes Go.WideShapes Go.ChangeAt Go.RowKit
set_option linter.unusedVariables false
namespace CatR
open EvtR (Pt cell_put cell_far)
structure Ca.Small (c : Ca) : Prop where
  ml : c.ms.length ≤ 1048576
  ms : ∀ i, i < c.ms.length → (c.ms.getD i Me.zero).Small
  cl : c.cs.length ≤ 1048576
  cs : ∀ i, i < c.cs.length → (c.cs.getD i Cr.zero).a.size ≤ 1048576
structure Ca.In (c : Ca) : Prop where
  ml : c.ms.length ≤ maxLen
  ms : ∀ i, i < c.ms.length → (c.ms.getD i Me.zero).In
  cl : c.cs.length ≤ maxLen
  cs : ∀ i, i < c.cs.length → (c.cs.getD i Cr.zero).a.size ≤ maxLen
theorem NewMes.far {base g : Nat} {bs : Nat → Nat} {n k : Nat} {ms : List Me} {w : World} (h : NewMes base g bs n k ms w) {b : Nat} (hb : b < base) (o : Nat) (v : Value) : NewMes base g bs n k ms (w.setCell ⟨b, o, none⟩ v) := by
  have hg := h.lo
  refine ⟨h.lo, h.pt.far (by omega) o v, h.inc, fun i hi => ?_⟩
  have hi2 := (h.inc i hi).1
  obtain ⟨⟨h0, h1, h2, h3, h4, h5⟩, h6, h7⟩ := h.cel i hi
  have e := far_block w b o v g (by omega)
  have f := fun x => World.cell?_of_block (a := ⟨g, x, none⟩) e
  exact ⟨⟨(f _).trans h0, (f _).trans h1, (f _).trans h2, (f _).trans h3, (f _).trans h4, (f _).trans h5⟩, h6.far (by omega) o v, h7.far (by omega) o v⟩
theorem NewMes.mono {base base' g : Nat} {bs : Nat → Nat} {n k : Nat} {ms : List Me} {w : World} (h : NewMes base g bs n k ms w) (hb : base' ≤ base) : NewMes base' g bs n k ms w := ⟨by have := h.lo; omega, h.pt, h.inc, h.cel⟩
theorem Crs.far {b0 off len : Nat} {ts : List Cr} {w : World} (h : Crs (some ⟨b0, off, none⟩) len ts w) {b : Nat} (hb : b ≠ b0) (o : Nat) (v : Value) : Crs (some ⟨b0, off, none⟩) len ts (w.setCell ⟨b, o, none⟩ v) := by
  refine ⟨h.1, ?_⟩
  rcases h.2 with h0 | ⟨b1, off1, e, hlt, hc⟩
  · exact .inl h0
  · obtain ⟨rfl, rfl⟩ : b0 = b1 ∧ off = off1 := by simpa using e
    have e := far_block w b o v b0 hb
    exact .inr ⟨b0, off, rfl, by simpa using hlt, fun j hj => ⟨(World.cell?_of_block (a := ⟨b0, _, none⟩) e).trans (hc j hj).1, (World.cell?_of_block (a := ⟨b0, _, none⟩) e).trans (hc j hj).2⟩⟩
/-- A catalog that a copy has made. -/
def NewCa (base : Nat) (v : Value) (c : Ca) (w : World) : Prop := ∃ g bs h, v = .agg #[.slice (some ⟨g, 0, none⟩) c.ms.length c.ms.length, .slice (some ⟨h, 0, none⟩) c.cs.length c.cs.length] ∧ NewMes base g bs c.ms.length c.ms.length c.ms w ∧ g < h ∧ (∀ i, i < c.ms.length → bs i < h) ∧ Crs (some ⟨h, 0, none⟩) c.cs.length c.cs w ∧ Pt h (c.cs.length * 2) w
theorem NewCa.is {base : Nat} {v : Value} {c : Ca} {w : World} (h : NewCa base v c w) : IsCa v c w := by
  obtain ⟨g, bs, h0, h1, h2, h3, h4, h5, h6⟩ := h
  exact ⟨_, _, _, _, h1, h2.is rfl, h5⟩
theorem NewCa.below {base : Nat} {v : Value} {c : Ca} {w w' : World} (h : NewCa base v c w) (hb : Below w.heap.size w w') : NewCa base v c w' := by
  obtain ⟨g, bs, h0, h1, h2, h3, h4, h5, h6⟩ := h
  exact ⟨g, bs, h0, h1, h2.below hb, h3, h4, h5.below hb, h6.below hb⟩
set_option maxRecDepth 100000 in
set_option maxHeartbeats 4000000 in
theorem toCa_any (v : Value) (c : Ca) (w : World) (hS : c.Small) (hC : IsCa v c w) :
    Calls Tryz.prog 8 #[v] w fun e w' => (∃ v', e = .returned v' ∧ NewCa w.heap.size v' c w') ∧ Below w.heap.size w w' := by
  obtain ⟨ma, mc, ca, cc, rfl, hM, hR⟩ := hC
  obtain ⟨ms, cs⟩ := c
  obtain ⟨s1, s2, s3, s4⟩ := hS
  simp only at *
  have HM : Hid (∀ W, Below w.heap.size w W → Calls Tryz.prog 38 #[.slice ma ms.length mc] W fun e w' => e = .returned (.slice (some ⟨W.heap.size, 0, none⟩) ms.length ms.length) ∧ (∃ bs, NewMes W.heap.size W.heap.size bs ms.length ms.length ms w') ∧ Below W.heap.size W w') := hid_intro (fun W hW => toMes_any ma ms.length mc ms W s1 s2 (hM.below hW))
  have HR : Hid (∀ W, Below w.heap.size w W → Calls Tryz.prog 39 #[.slice ca cs.length cc] W fun e w' => e = .returned (.slice (some ⟨W.heap.size, 0, none⟩) cs.length cs.length) ∧ Crs (some ⟨W.heap.size, 0, none⟩) cs.length cs w' ∧ Pt W.heap.size (cs.length * 2) w' ∧ Below W.heap.size W w') := hid_intro (fun W hW => toCrs_any ca cs.length cc cs W s3 (hR.below hW))
  have HF : Hid (∀ g bs h v w', v = .agg #[.slice (some ⟨g, 0, none⟩) ms.length ms.length, .slice (some ⟨h, 0, none⟩) cs.length cs.length] → NewMes w.heap.size g bs ms.length ms.length ms w' → g < h → (∀ i, i < ms.length → bs i < h) → Crs (some ⟨h, 0, none⟩) cs.length cs w' → Pt h (cs.length * 2) w' → NewCa w.heap.size v ⟨ms, cs⟩ w') := hid_intro (fun g bs h v w' h1 h2 h3 h4 h5 h6 => ⟨g, bs, h, h1, h2, h3, h4, h5, h6⟩)
  clear hM hR s1 s2 s3 s4
  generalize ms.length = ml at *
  generalize cs.length = cl at *
  obtain ⟨W, hW⟩ : ∃ W, W = (((w.alloc (.cells #[.slice ma ml mc, .slice ca cl cc] 25)).alloc (.cells #[.slice none 0 0, .slice none 0 0] 36)).alloc (.cells #[.slice none 0 0, .slice none 0 0] 36)) := ⟨_, rfl⟩
  have HW := hid_intro hW
  have HBB : Hid (Below w.heap.size w W) := hid_intro (by rw [hW]; exact (((Below.refl _ _).alloc (Nat.le_refl _) _).alloc (by simp) _).alloc (by simp; omega) _)
  have hWs : W.heap.size = w.heap.size + 3 := by rw [hW]; simp
  have p0 : W.cell? ⟨w.heap.size, 0, none⟩ = some (.slice ma ml mc) := by rw [hW]; simp [go_sem]
  have p0' : W.frozen? ⟨w.heap.size, 0, none⟩ = false := by rw [hW]; simp [go_sem]
  have p1 : W.cell? ⟨w.heap.size, 1, none⟩ = some (.slice ca cl cc) := by rw [hW]; simp [go_sem]
  have p1' : W.frozen? ⟨w.heap.size, 1, none⟩ = false := by rw [hW]; simp [go_sem]
  have b0 : W.cell? ⟨w.heap.size + 1, 0, none⟩ = some (.slice none 0 0) := by rw [hW]; simp [go_sem]
  have b0' : W.frozen? ⟨w.heap.size + 1, 0, none⟩ = false := by rw [hW]; simp [go_sem]
  have b1 : W.cell? ⟨w.heap.size + 1, 1, none⟩ = some (.slice none 0 0) := by rw [hW]; simp [go_sem]
  have b1' : W.frozen? ⟨w.heap.size + 1, 1, none⟩ = false := by rw [hW]; simp [go_sem]
  have a0 : W.cell? ⟨w.heap.size + 2, 0, none⟩ = some (.slice none 0 0) := by rw [hW]; simp [go_sem]
  have a0' : W.frozen? ⟨w.heap.size + 2, 0, none⟩ = false := by rw [hW]; simp [go_sem]
  have a1 : W.cell? ⟨w.heap.size + 2, 1, none⟩ = some (.slice none 0 0) := by rw [hW]; simp [go_sem]
  have a1' : W.frozen? ⟨w.heap.size + 2, 1, none⟩ = false := by rw [hW]; simp [go_sem]
  clear hW
  go_enter Tryz.func8, Tryz.ntmps8
  go_wp2_with fail
  rw [← HW.out]
  refine (HM.out _ HBB.out).mono ?_
  rintro e w1 ⟨rfl, ⟨bs, hN1⟩, hb1⟩
  rw [hWs] at hN1
  obtain ⟨hcc, hff⟩ := bcell hb1
  rw [hWs] at hcc hff
  have hlt : w.heap.size + 3 ≤ w1.heap.size := by have := hb1.size; omega
  have HB1 := hid_intro (HBB.out.trans (hb1.mono HBB.out.size))
  have HN1 := hid_intro hN1
  replace p0 := (hcc w.heap.size 0 (by omega)).trans p0
  replace p0' := (hff w.heap.size 0 (by omega)).trans p0'
  replace p1 := (hcc w.heap.size 1 (by omega)).trans p1
  replace p1' := (hff w.heap.size 1 (by omega)).trans p1'
  replace b0 := (hcc (w.heap.size + 1) 0 (by omega)).trans b0
  replace b0' := (hff (w.heap.size + 1) 0 (by omega)).trans b0'
  replace b1 := (hcc (w.heap.size + 1) 1 (by omega)).trans b1
  replace b1' := (hff (w.heap.size + 1) 1 (by omega)).trans b1'
  replace a0 := (hcc (w.heap.size + 2) 0 (by omega)).trans a0
  replace a0' := (hff (w.heap.size + 2) 0 (by omega)).trans a0'
  replace a1 := (hcc (w.heap.size + 2) 1 (by omega)).trans a1
  replace a1' := (hff (w.heap.size + 2) 1 (by omega)).trans a1'
  clear hN1 hb1 hcc hff
  obtain ⟨W2, hW2⟩ : ∃ W2, W2 = w1.setCell ⟨w.heap.size + 1 + 1, 0, none⟩ (.slice (some ⟨w.heap.size + 3, 0, none⟩) ml ml) := ⟨_, rfl⟩
  have HW2 := hid_intro hW2
  have HB2 : Hid (Below w.heap.size w W2) := hid_intro (by rw [hW2]; exact HB1.out.setCell (show w.heap.size ≤ w.heap.size + 1 + 1 by omega) _)
  have HN2 : Hid (NewMes (w.heap.size + 3) (w.heap.size + 3) bs ml ml ms W2) := hid_intro (by rw [hW2]; exact HN1.out.far (by omega) _ _)
  have hlt2 : w.heap.size + 3 ≤ W2.heap.size := by rw [hW2]; simpa using hlt
  have p0q : W2.cell? ⟨w.heap.size, 0, none⟩ = some (.slice ma ml mc) := by rw [hW2]; simp [go_sem, p0]
  have p0q' : W2.frozen? ⟨w.heap.size, 0, none⟩ = false := by rw [hW2]; simp [go_sem, p0']
  have p1q : W2.cell? ⟨w.heap.size, 1, none⟩ = some (.slice ca cl cc) := by rw [hW2]; simp [go_sem, p1]
  have p1q' : W2.frozen? ⟨w.heap.size, 1, none⟩ = false := by rw [hW2]; simp [go_sem, p1']
  have b0q : W2.cell? ⟨w.heap.size + 1, 0, none⟩ = some (.slice none 0 0) := by rw [hW2]; simp [go_sem, b0]
  have b0q' : W2.frozen? ⟨w.heap.size + 1, 0, none⟩ = false := by rw [hW2]; simp [go_sem, b0']
  have b1q : W2.cell? ⟨w.heap.size + 1, 1, none⟩ = some (.slice none 0 0) := by rw [hW2]; simp [go_sem, b1]
  have b1q' : W2.frozen? ⟨w.heap.size + 1, 1, none⟩ = false := by rw [hW2]; simp [go_sem, b1']
  have a0q : W2.cell? ⟨w.heap.size + 2, 0, none⟩ = some (.slice (some ⟨w.heap.size + 3, 0, none⟩) ml ml) := by rw [hW2]; simp [go_sem, a0]
  have a0q' : W2.frozen? ⟨w.heap.size + 2, 0, none⟩ = false := by rw [hW2]; simp [go_sem, a0']
  have a1q : W2.cell? ⟨w.heap.size + 2, 1, none⟩ = some (.slice none 0 0) := by rw [hW2]; simp [go_sem, a1]
  have a1q' : W2.frozen? ⟨w.heap.size + 2, 1, none⟩ = false := by rw [hW2]; simp [go_sem, a1']
  go_wp2_with fail
  rw [← HW2.out]
  refine (HR.out _ HB2.out).mono ?_
  rintro e w3 ⟨rfl, hC3, hP3, hb3⟩
  have HN3 := hid_intro (HN2.out.below hb3)
  have HBS := hid_intro HN2.out.blocks
  have HGL := hid_intro HN2.out.pt.lt
  obtain ⟨hcc, hff⟩ := bcell hb3
  have HB3 := hid_intro (HB2.out.trans (hb3.mono HB2.out.size))
  have HC3 := hid_intro hC3
  have HP3 := hid_intro hP3
  replace p0q := (hcc w.heap.size 0 (by omega)).trans p0q
  replace p1q := (hcc w.heap.size 1 (by omega)).trans p1q
  replace b0q := (hcc (w.heap.size + 1) 0 (by omega)).trans b0q
  replace b1q := (hcc (w.heap.size + 1) 1 (by omega)).trans b1q
  replace a0q := (hcc (w.heap.size + 2) 0 (by omega)).trans a0q
  replace a1q := (hcc (w.heap.size + 2) 1 (by omega)).trans a1q
  replace b0q' := (hff (w.heap.size + 1) 0 (by omega)).trans b0q'
  replace b1q' := (hff (w.heap.size + 1) 1 (by omega)).trans b1q'
  replace a0q' := (hff (w.heap.size + 2) 0 (by omega)).trans a0q'
  replace a1q' := (hff (w.heap.size + 2) 1 (by omega)).trans a1q'
  clear hC3 hP3 hb3 hcc hff hW2 p0q' p1q' p0 p0' p1 p1' b0 b0' b1 b1' a0 a0' a1 a1'
  generalize W2.heap.size = h2 at *
  go_wp2_with fail
  refine bodyPost_ret (v := .agg #[.slice (some ⟨w.heap.size + 3, 0, none⟩) ml ml, .slice (some ⟨h2, 0, none⟩) cl cl]) (by simp [results, Tryz.results8, go_sem, b0q, b1q]) rfl ⟨⟨_, rfl, ?_⟩, ?_⟩
  · refine HF.out (w.heap.size + 3) bs h2 _ _ rfl ?_ ?_ HBS.out ?_ ?_
    · exact ((((HN3.out.far (show _ < _ by omega) _ _).far (show _ < _ by omega) _ _).far (show _ < _ by omega) _ _)).mono (by omega)
    · exact HGL.out
    · exact ((HC3.out.far (show _ ≠ _ by omega) _ _).far (show _ ≠ _ by omega) _ _).far (show _ ≠ _ by omega) _ _
    · exact ((HP3.out.far (show _ ≠ _ by omega) _ _).far (show _ ≠ _ by omega) _ _).far (show _ ≠ _ by omega) _ _
  · exact ((HB3.out.setCell (show w.heap.size ≤ w.heap.size + 1 + 1 by omega) _).setCell (show w.heap.size ≤ w.heap.size + 1 by omega) _).setCell (show w.heap.size ≤ w.heap.size + 1 by omega) _
set_option maxHeartbeats 4000000 in
theorem szCa_any (v : Value) (c : Ca) (w : World) (hN : c.In) (hC : IsCa v c w) :
    Calls Tryz.prog 5 #[v, .int .i64 1048576] w fun e w' => SzOut 1048576 c.Small e ∧ Below w.heap.size w w' := by
  obtain ⟨ma, mc, ca, cc, rfl, hM, hR⟩ := hC
  obtain ⟨ms, cs⟩ := c
  obtain ⟨s1, s2, s3, s4⟩ := hN
  simp only at *
  have HM : Hid (∀ W, Below w.heap.size w W → Calls Tryz.prog 30 #[.slice ma ms.length mc, .int .i64 1048576] W fun e w' => SzOut 1048576 (ms.length ≤ 1048576 ∧ ∀ i, i < ms.length → (ms.getD i Me.zero).Small) e ∧ Below W.heap.size W w') := hid_intro (fun W hW => szMes_any ma ms.length mc ms 1048576 W s1 (by omega) (by omega) (hM.below hW) s2)
  have HR : Hid (∀ W L, 0 ≤ L → L ≤ 1048576 → Below w.heap.size w W → Calls Tryz.prog 31 #[.slice ca cs.length cc, .int .i64 L] W fun e w' => SzOut L (cs.length ≤ 1048576 ∧ ∀ i, i < cs.length → (cs.getD i Cr.zero).a.size ≤ 1048576) e ∧ Below W.heap.size W w') := hid_intro (fun W L h0 h1 hW => szCrs_any ca cs.length cc cs L W s3 h0 h1 (hR.below hW) s4)
  have HF : Hid (∀ (h1 : ms.length ≤ 1048576 ∧ ∀ i, i < ms.length → (ms.getD i Me.zero).Small) (h2 : cs.length ≤ 1048576 ∧ ∀ i, i < cs.length → (cs.getD i Cr.zero).a.size ≤ 1048576), Ca.Small ⟨ms, cs⟩) := hid_intro (fun h1 h2 => ⟨h1.1, h1.2, h2.1, h2.2⟩)
  clear hM hR s1 s2 s3 s4
  have HB : Hid (Below w.heap.size w (w.alloc (.cells #[.slice ma ms.length mc, .slice ca cs.length cc] 25))) := hid_intro ((Below.refl _ _).alloc (Nat.le_refl _) _)
  generalize (ms.length ≤ 1048576 ∧ ∀ i, i < ms.length → (ms.getD i Me.zero).Small) = PM at *
  generalize (cs.length ≤ 1048576 ∧ ∀ i, i < cs.length → (cs.getD i Cr.zero).a.size ≤ 1048576) = PC at *
  generalize Ca.Small ⟨ms, cs⟩ = PS at *
  generalize ms.length = ml at *
  generalize cs.length = cl at *
  go_enter Tryz.func5, Tryz.ntmps5
  go_wp2_with fail
  refine (HM.out _ HB.out).mono ?_
  rintro e w1 ⟨⟨L, rfl, hL⟩, hb1⟩
  obtain ⟨hcc, hff⟩ := bcell hb1
  have hlt : w.heap.size < w1.heap.size := by have := hb1.size; simp at this; omega
  have HB1 := hid_intro (HB.out.trans (hb1.mono HB.out.size))
  have p1 : w1.cell? ⟨w.heap.size, 1, none⟩ = some (.slice ca cl cc) := (hcc w.heap.size 1 (by simp)).trans (by simp [go_sem])
  clear hb1 hcc hff
  rcases hL with rfl | ⟨l0, l1, hp⟩
  · go_wp2_with fail
    go_ret
    exact ⟨⟨-1, rfl, .inl rfl⟩, HB1.out⟩
  · have g1 : ¬ L < 0 := by omega
    have HP := hid_intro hp
    have HR2 := hid_intro (HR.out w1 L l0 l1 HB1.out)
    clear hp
    go_wp2_with fail
    refine HR2.out.mono ?_
    rintro e w2 ⟨⟨L2, rfl, hL2⟩, hb2⟩
    have HB2 := hid_intro (HB1.out.trans (hb2.mono HB1.out.size))
    clear hb2
    rcases hL2 with rfl | ⟨k0, k1, hp2⟩
    · go_wp2_with fail
      go_ret
      exact ⟨⟨-1, rfl, .inl rfl⟩, HB2.out⟩
    · have g2 : ¬ L2 < 0 := by omega
      have HP2 := hid_intro hp2
      have HL2 : Hid (L2 ≤ 1048576) := hid_intro (by omega)
      clear hp2 k1
      go_wp2_with fail
      go_ret
      exact ⟨⟨L2, rfl, .inr ⟨k0, HL2.out, HF.out HP.out HP2.out⟩⟩, HB2.out⟩
set_option maxHeartbeats 4000000 in
theorem eqCa_any (v v' : Value) (c : Ca) (w : World) (hS : c.Small) (hI : IsCa v c w) (hJ : IsCa v' c w) :
    Calls Tryz.prog 12 #[v, v'] w fun e w' => e = .returned (.bool true) ∧ Below w.heap.size w w' := by
  obtain ⟨ma, mc, ca, cc, rfl, hM, hR⟩ := hI
  obtain ⟨ma', mc', ca', cc', rfl, hM', hR'⟩ := hJ
  obtain ⟨ms, cs⟩ := c
  obtain ⟨s1, s2, s3, s4⟩ := hS
  simp only at *
  have HM : Hid (∀ W, Below w.heap.size w W → Calls Tryz.prog 49 #[.slice ma ms.length mc, .slice ma' ms.length mc'] W fun e w' => e = .returned (.bool true) ∧ Below W.heap.size W w') := hid_intro (fun W hW => eqMes_any ma ma' ms.length mc mc' ms W s1 s2 (hM.below hW) (hM'.below hW))
  have HR : Hid (∀ W, Below w.heap.size w W → Calls Tryz.prog 50 #[.slice ca cs.length cc, .slice ca' cs.length cc'] W fun e w' => e = .returned (.bool true) ∧ Below W.heap.size W w') := hid_intro (fun W hW => eqCrs_any ca ca' cs.length cc cc' cs W s3 (hR.below hW) (hR'.below hW))
  clear hM hR hM' hR' s1 s2 s3 s4
  generalize ms.length = ml at *
  generalize cs.length = cl at *
  have HB : Hid (Below w.heap.size w ((w.alloc (.cells #[.slice ma ml mc, .slice ca cl cc] 36)).alloc (.cells #[.slice ma' ml mc', .slice ca' cl cc'] 36))) := hid_intro (((Below.refl _ _).alloc (Nat.le_refl _) _).alloc (by simp) _)
  go_enter Tryz.func12, Tryz.ntmps12
  go_wp2_with fail
  refine (HM.out _ HB.out).mono ?_
  rintro e w1 ⟨rfl, hb1⟩
  obtain ⟨hcc, hff⟩ := bcell hb1
  have hlt : w.heap.size + 1 < w1.heap.size := by have := hb1.size; simp at this; omega
  have HB1 := hid_intro (HB.out.trans (hb1.mono HB.out.size))
  have p1 : w1.cell? ⟨w.heap.size, 1, none⟩ = some (.slice ca cl cc) := (hcc w.heap.size 1 (by simp; omega)).trans (by simp [go_sem])
  have p2 : w1.cell? ⟨w.heap.size + 1, 1, none⟩ = some (.slice ca' cl cc') := (hcc (w.heap.size + 1) 1 (by simp)).trans (by simp [go_sem])
  clear hb1 hcc hff
  go_wp2_with fail
  refine (HR.out _ HB1.out).mono ?_
  rintro e w2 ⟨rfl, hb2⟩
  have HB2 := hid_intro (HB1.out.trans (hb2.mono HB1.out.size))
  clear hb2
  go_wp2_with fail
  go_ret
  exact ⟨rfl, HB2.out⟩
end CatR
end Go.Proofs.YtcilbmhkhllmjaaGreatDoor
namespace Go.Proofs.YtcilbmhkhllmjaaGreatDoor
open Go.RowKit
set_option linter.unusedVariables false
namespace CatR
open Op (bytesLess)
theorem bl_irrefl : ∀ x : List UInt8, bytesLess x x = false
  | [] => rfl
  | a :: x => by
    rw [bytesLess, bl_irrefl x]
    simp
theorem bl_trans : ∀ {x y z : List UInt8}, bytesLess x y = true → bytesLess y z = true → bytesLess x z = true
  | _, [], _, h, _ => by simp [bytesLess] at h
  | _, _ :: _, [], _, h => by simp [bytesLess] at h
  | [], _ :: _, _ :: _, _, _ => rfl
  | a :: x, b :: y, c :: z, h1, h2 => by
    rw [bytesLess] at *
    simp only [Bool.or_eq_true, Bool.and_eq_true, decide_eq_true_eq, beq_iff_eq] at *
    rcases h1 with h1 | ⟨rfl, h1⟩
    · rcases h2 with h2 | ⟨rfl, h2⟩
      · exact .inl (UInt8.lt_trans h1 h2)
      · exact .inl h1
    · rcases h2 with h2 | ⟨rfl, h2⟩
      · exact .inl h2
      · exact .inr ⟨rfl, bl_trans h1 h2⟩
theorem bl_total : ∀ {x y : List UInt8}, bytesLess x y = false → bytesLess y x = false → x = y
  | [], [], _, _ => rfl
  | [], _ :: _, h, _ => by simp [bytesLess] at h
  | _ :: _, [], _, h => by simp [bytesLess] at h
  | a :: x, b :: y, h1, h2 => by
    rw [bytesLess] at *
    simp only [Bool.or_eq_false_iff, Bool.and_eq_false_iff, decide_eq_false_iff_not, beq_eq_false_iff_ne] at *
    have e : a = b := by
      have p1 := h1.1
      have p2 := h2.1
      rw [UInt8.lt_iff_toNat_lt] at p1 p2
      exact UInt8.toNat.inj (by omega)
    subst e
    rw [bl_total (h1.2.resolve_left (fun h => h rfl)) (h2.2.resolve_left (fun h => h rfl))]
/-- One text is ahead of another. -/
def lt (a b : ByteArray) : Bool := bytesLess a.toList b.toList
theorem toList_inj {a b : ByteArray} (h : a.toList = b.toList) : a = b := by
  rw [ByteArray.toList_eq, ByteArray.toList_eq] at h
  exact ByteArray.ext (Array.ext' h)
theorem lt_irrefl (a : ByteArray) : lt a a = false := bl_irrefl _
theorem lt_trans {a b c : ByteArray} (h1 : lt a b = true) (h2 : lt b c = true) : lt a c = true := bl_trans h1 h2
theorem lt_total {a b : ByteArray} (h1 : lt a b = false) (h2 : lt b a = false) : a = b := toList_inj (bl_total h1 h2)
theorem lt_asymm {a b : ByteArray} (h : lt a b = true) : lt b a = false := by
  cases h2 : lt b a
  · rfl
  · have := lt_trans h h2
    rw [lt_irrefl] at this
    cases this
theorem lt_empty {b : ByteArray} (h : 1 ≤ b.size) : lt ⟨#[]⟩ b = true := by
  unfold lt
  have h1 : (⟨#[]⟩ : ByteArray).toList = [] := by rw [ByteArray.toList_eq]
  rw [h1]
  cases hb : b.toList with
  | nil =>
    rw [ByteArray.toList_eq] at hb
    have : b.data.toList.length = 0 := by rw [hb]; rfl
    have h2 : b.data.toList.length = b.size := rfl
    omega
  | cons x l => rfl
def mN (ms : List Me) (i : Nat) : ByteArray := (ms.getD i Me.zero).n
def cA (cs : List Cr) (i : Nat) : ByteArray := (cs.getD i Cr.zero).a
def cM (cs : List Cr) (i : Nat) : Int := (cs.getD i Cr.zero).m
/-- So many meters are right and rise by name; so many credits by account. -/
def MOk (ms : List Me) (k : Nat) : Prop := ∀ i, i < k → MRight (ms.getD i Me.zero) ∧ (0 < i → lt (mN ms (i - 1)) (mN ms i) = true)
def COk (cs : List Cr) (k : Nat) : Prop := ∀ i, i < k → (NameR.nameB (cA cs i) = true ∧ 0 ≤ cM cs i ∧ cM cs i ≤ 1000000000000) ∧ (0 < i → lt (cA cs (i - 1)) (cA cs i) = true)
def MsRight (ms : List Me) : Prop := ms.length ≤ 6 ∧ MOk ms ms.length
def CsRight (cs : List Cr) : Prop := cs.length ≤ 6 ∧ COk cs cs.length
theorem MOk.rise {ms : List Me} {k : Nat} (h : MOk ms k) : ∀ j, j < k → ∀ i, i < j → lt (mN ms i) (mN ms j) = true
  | 0, _, i, hi => absurd hi (by omega)
  | j + 1, hj, i, hi => by
    have h1 : lt (mN ms j) (mN ms (j + 1)) = true := (h (j + 1) hj).2 (by omega)
    by_cases e : i = j
    · subst e; exact h1
    · exact lt_trans (MOk.rise h j (by omega) i (by omega)) h1
theorem MOk.apart {ms : List Me} {k : Nat} (h : MOk ms k) {i j : Nat} (hi : i < k) (hj : j < k) (e : mN ms i = mN ms j) : i = j := by
  rcases Nat.lt_trichotomy i j with h1 | h1 | h1
  · have := h.rise j hj i h1
    rw [e, lt_irrefl] at this
    cases this
  · exact h1
  · have := h.rise i hi j h1
    rw [e, lt_irrefl] at this
    cases this
theorem MOk.zero (ms : List Me) : MOk ms 0 := fun i h => absurd h (by omega)
theorem COk.zero (cs : List Cr) : COk cs 0 := fun i h => absurd h (by omega)
theorem MOk.more {ms : List Me} {k : Nat} (h : MOk ms k) (h1 : MRight (ms.getD k Me.zero)) (h2 : 0 < k → lt (mN ms (k - 1)) (mN ms k) = true) : MOk ms (k + 1) := by
  intro i hi
  by_cases e : i = k
  · subst e; exact ⟨h1, h2⟩
  · exact h i (by omega)
theorem COk.more {cs : List Cr} {k : Nat} (h : COk cs k) (h1 : NameR.nameB (cA cs k) = true) (h3 : 0 ≤ cM cs k ∧ cM cs k ≤ 1000000000000) (h2 : 0 < k → lt (cA cs (k - 1)) (cA cs k) = true) : COk cs (k + 1) := by
  intro i hi
  by_cases e : i = k
  · subst e; exact ⟨⟨h1, h3⟩, h2⟩
  · exact h i (by omega)
def MOkDec (ms : List Me) (k : Nat) : Decidable (MOk ms k) :=
  haveI := MRightDec
  inferInstanceAs (Decidable (∀ i, i < k → MRight (ms.getD i Me.zero) ∧ (0 < i → lt (mN ms (i - 1)) (mN ms i) = true)))
def COkDec (cs : List Cr) (k : Nat) : Decidable (COk cs k) := inferInstanceAs (Decidable (∀ i, i < k → (NameR.nameB (cA cs i) = true ∧ 0 ≤ cM cs i ∧ cM cs i ≤ 1000000000000) ∧ (0 < i → lt (cA cs (i - 1)) (cA cs i) = true)))
def MsRightDec (ms : List Me) : Decidable (MsRight ms) :=
  haveI := MOkDec ms ms.length
  inferInstanceAs (Decidable (ms.length ≤ 6 ∧ MOk ms ms.length))
def CsRightDec (cs : List Cr) : Decidable (CsRight cs) :=
  haveI := COkDec cs cs.length
  inferInstanceAs (Decidable (cs.length ≤ 6 ∧ COk cs cs.length))
def msB (ms : List Me) : Bool := @decide (MsRight ms) (MsRightDec ms)
def csB (cs : List Cr) : Bool := @decide (CsRight cs) (CsRightDec cs)
def caB (c : Ca) : Bool := msB c.ms && csB c.cs
theorem msB_no {ms : List Me} (h : ¬ MsRight ms) : msB ms = false := by unfold msB; exact @decide_eq_false _ (MsRightDec ms) h
theorem msB_yes {ms : List Me} (h : MsRight ms) : msB ms = true := by unfold msB; exact @decide_eq_true _ (MsRightDec ms) h
theorem msB_iff {ms : List Me} : msB ms = true ↔ MsRight ms := by unfold msB; exact @decide_eq_true_iff _ (MsRightDec ms)
theorem csB_no {cs : List Cr} (h : ¬ CsRight cs) : csB cs = false := by unfold csB; exact @decide_eq_false _ (CsRightDec cs) h
theorem csB_yes {cs : List Cr} (h : CsRight cs) : csB cs = true := by unfold csB; exact @decide_eq_true _ (CsRightDec cs) h
theorem csB_iff {cs : List Cr} : csB cs = true ↔ CsRight cs := by unfold csB; exact @decide_eq_true_iff _ (CsRightDec cs)
theorem mB_iff {m : Me} : mB m = true ↔ MRight m := by unfold mB; exact @decide_eq_true_iff _ (MRightDec m)
/-- How an element of the map is read: as itself. -/
def RV (v : Value) : Option (DataW Value × List MemPlace) := some (.held v, [])
/-- A name as a key. -/
def kS (n : ByteArray) : Lit := .string n.data.toList
theorem kS_inj {a b : ByteArray} (h : kS a = kS b) : a = b := by
  unfold kS at h
  simp only [Lit.string.injEq] at h
  exact ByteArray.ext (Array.ext' h)
theorem kS_key (n : ByteArray) : WideAt.IsKeyLit (kS n) := by
  unfold kS
  first | trivial | exact rfl | (simp [WideAt.IsKeyLit])
/-- The map of so many meters. -/
def mapD (ms : List Me) (V : Nat → Value) : Nat → DataW Value
  | 0 => .map []
  | k + 1 => (mapD ms V k).put (kS (mN ms k)) (.held (V k))
theorem mapD_is (ms : List Me) (V : Nat → Value) : ∀ k, Maps.IsMap (mapD ms V k)
  | 0 => Maps.isMap_empty
  | k + 1 => (mapD_is ms V k).put _ _
theorem has_mapD (ms : List Me) (V : Nat → Value) (n : ByteArray) : ∀ k, Maps.has (mapD ms V k) (kS n) = true ↔ ∃ i, i < k ∧ mN ms i = n
  | 0 => by
    refine ⟨fun h => ?_, fun ⟨i, hi, _⟩ => absurd hi (by omega)⟩
    rw [mapD, Maps.has_eq] at h
    simp at h
  | k + 1 => by
    rw [mapD]
    by_cases e : n = mN ms k
    · subst e
      rw [Maps.has_put_same (mapD_is ms V k) (kS_key _)]
      exact ⟨fun _ => ⟨k, by omega, rfl⟩, fun _ => rfl⟩
    · rw [Maps.has_put_other (fun h => e (kS_inj h)), has_mapD ms V n k]
      constructor
      · rintro ⟨i, hi, h⟩; exact ⟨i, by omega, h⟩
      · rintro ⟨i, hi, h⟩
        refine ⟨i, ?_, h⟩
        rcases Nat.lt_or_ge i k with h1 | h1
        · exact h1
        · obtain rfl : i = k := by omega
          exact absurd h.symm e
theorem at_mapD (ms : List Me) (V : Nat → Value) (z : DataW Value) : ∀ k, (∀ i j, i < k → j < k → mN ms i = mN ms j → i = j) → ∀ i, i < k → (mapD ms V k).atKey (kS (mN ms i)) z = .held (V i)
  | 0, _, i, hi => absurd hi (by omega)
  | k + 1, hd, i, hi => by
    rw [mapD]
    by_cases e : i = k
    · subst e
      exact Maps.atKey_put_same (mapD_is ms V i) (kS_key _) _ _
    · rw [Maps.atKey_put_other (fun h => e (hd i k hi (by omega) (kS_inj h)))]
      exact at_mapD ms V z k (fun i j hi hj => hd i j (by omega) (by omega)) i (by omega)
theorem at_mapD_some (ms : List Me) (V : Nat → Value) (n : ByteArray) : ∀ k, (∃ i, i < k ∧ mN ms i = n) → ∃ j, j < k ∧ ∀ z, (mapD ms V k).atKey (kS n) z = .held (V j)
  | 0, ⟨i, hi, _⟩ => absurd hi (by omega)
  | k + 1, h => by
    by_cases e : n = mN ms k
    · subst e
      exact ⟨k, by omega, fun z => by rw [mapD]; exact Maps.atKey_put_same (mapD_is ms V k) (kS_key _) _ _⟩
    · obtain ⟨i, hi, he⟩ := h
      obtain ⟨j, hj, h2⟩ := at_mapD_some ms V n k ⟨i, by
        rcases Nat.lt_or_ge i k with h1 | h1
        · exact h1
        · obtain rfl : i = k := by omega
          exact absurd he.symm e, he⟩
      exact ⟨j, by omega, fun z => by rw [mapD, Maps.atKey_put_other (fun h => e (kS_inj h))]; exact h2 z⟩
/-- .. with so many taken out again. -/
def delD (ms : List Me) (D : DataW Value) : Nat → DataW Value
  | 0 => D
  | k + 1 => (delD ms D k).del (kS (mN ms k))
theorem has_delD (ms : List Me) (D : DataW Value) (n : ByteArray) : ∀ k, Maps.has (delD ms D k) (kS n) = true ↔ (Maps.has D (kS n) = true ∧ ∀ i, i < k → mN ms i ≠ n)
  | 0 => ⟨fun h => ⟨h, fun i hi => absurd hi (by omega)⟩, fun h => h.1⟩
  | k + 1 => by
    rw [delD]
    by_cases e : n = mN ms k
    · subst e
      rw [Maps.has_del_same]
      exact ⟨fun h => (by cases h), fun h => absurd rfl (h.2 k (by omega))⟩
    · rw [Maps.has_del_other (fun h => e (kS_inj h)), has_delD ms D n k]
      constructor
      · rintro ⟨h1, h2⟩
        refine ⟨h1, fun i hi h => ?_⟩
        rcases Nat.lt_or_ge i k with h3 | h3
        · exact h2 i h3 h
        · obtain rfl : i = k := by omega
          exact e h.symm
      · rintro ⟨h1, h2⟩; exact ⟨h1, fun i hi => h2 i (by omega)⟩
theorem at_delD (ms : List Me) (D : DataW Value) (n : ByteArray) (z : DataW Value) : ∀ k, (∀ i, i < k → mN ms i ≠ n) → (delD ms D k).atKey (kS n) z = D.atKey (kS n) z
  | 0, _ => rfl
  | k + 1, h => by
    rw [delD, Maps.atKey_del_other (fun e => h k (by omega) (kS_inj e).symm)]
    exact at_delD ms D n z k (fun i hi => h i (by omega))
theorem ms_alike {ms : List Me} {k i : Nat} (hk : k < ms.length) (hi : i < k) (e : mN ms i = mN ms k) : msB ms = false := msB_no (fun h => by
  have := h.2.apart (by omega) hk e
  omega)
theorem ms_falls {ms : List Me} {k : Nat} (hk : k < ms.length) (h0 : 0 < k) (h : lt (mN ms k) (mN ms (k - 1)) = true) : msB ms = false := msB_no (fun hr => by
  have := lt_asymm ((hr.2 k hk).2 h0)
  rw [h] at this
  cases this)
theorem ms_flat {ms : List Me} {k : Nat} (hk : k < ms.length) (h0 : 0 < k) (h : lt (mN ms (k - 1)) (mN ms k) = false) : msB ms = false := msB_no (fun hr => by
  have := (hr.2 k hk).2 h0
  rw [h] at this
  cases this)
theorem ms_wrong {ms : List Me} {k : Nat} (hk : k < ms.length) (h : mB (ms.getD k Me.zero) = false) : msB ms = false := msB_no (fun hr => by
  have := mB_iff.2 (hr.2 k hk).1
  rw [h] at this
  cases this)
theorem ms_end {ms : List Me} (h6 : ms.length ≤ 6) (h : MOk ms ms.length) : msB ms = true := msB_yes ⟨h6, h⟩
theorem ms_many {ms : List Me} (h6 : 6 < ms.length) : msB ms = false := msB_no (fun hr => by have := hr.1; omega)
theorem cs_many {cs : List Cr} (h6 : 6 < cs.length) : csB cs = false := csB_no (fun hr => by have := hr.1; omega)
theorem cs_end {cs : List Cr} (h6 : cs.length ≤ 6) (h : COk cs cs.length) : csB cs = true := csB_yes ⟨h6, h⟩
theorem cs_name {cs : List Cr} {k : Nat} (hk : k < cs.length) (h : NameR.nameB (cA cs k) = false) : csB cs = false := csB_no (fun hr => by
  have := (hr.2 k hk).1.1
  rw [h] at this
  cases this)
theorem cs_micro {cs : List Cr} {k : Nat} (hk : k < cs.length) (h : ¬ (0 ≤ cM cs k ∧ cM cs k ≤ 1000000000000)) : csB cs = false := csB_no (fun hr => h (hr.2 k hk).1.2)
theorem cs_flat {cs : List Cr} {k : Nat} (hk : k < cs.length) (h0 : 0 < k) (h : lt (cA cs (k - 1)) (cA cs k) = false) : csB cs = false := csB_no (fun hr => by
  have := (hr.2 k hk).2 h0
  rw [h] at this
  cases this)
end CatR
end Go.Proofs.YtcilbmhkhllmjaaGreatDoor
namespace Go.Proofs.YtcilbmhkhllmjaaGreatDoor
open Go.ChangeShapes Go.WideShapes Go.ChangeAt Go.RowKit
set_option linter.unusedVariables false
namespace CatR
/-- A row of meters with the values that stand there. -/
def MesV (ao : Option Addr) (len : Nat) (ms : List Me) (V : Nat → Value) (w : World) : Prop := len = 0 ∨ ∃ b off, ao = some ⟨b, off, none⟩ ∧ b < w.heap.size ∧ ∀ j, j < len → ∃ ta tc, V j = .agg #[.string (mN ms j), .int .i64 (ms.getD j Me.zero).g, .bool (ms.getD j Me.zero).wh, .int .i64 (ms.getD j Me.zero).f, .int .i64 (ms.getD j Me.zero).l, .slice ta (ms.getD j Me.zero).ts.length tc] ∧ w.cell? ⟨b, off + j * 6, none⟩ = some (.string (mN ms j)) ∧ w.cell? ⟨b, off + j * 6 + 1, none⟩ = some (.int .i64 (ms.getD j Me.zero).g) ∧ w.cell? ⟨b, off + j * 6 + 2, none⟩ = some (.bool (ms.getD j Me.zero).wh) ∧ w.cell? ⟨b, off + j * 6 + 3, none⟩ = some (.int .i64 (ms.getD j Me.zero).f) ∧ w.cell? ⟨b, off + j * 6 + 4, none⟩ = some (.int .i64 (ms.getD j Me.zero).l) ∧ w.cell? ⟨b, off + j * 6 + 5, none⟩ = some (.slice ta (ms.getD j Me.zero).ts.length tc) ∧ Tis ta (ms.getD j Me.zero).ts.length (ms.getD j Me.zero).ts w
theorem MesV.below {ao : Option Addr} {len : Nat} {ms : List Me} {V : Nat → Value} {w w' : World} (h : MesV ao len ms V w) (hb : Below w.heap.size w w') : MesV ao len ms V w' := by
  rcases h with h | ⟨b, off, rfl, hl, h⟩
  · exact .inl h
  · refine .inr ⟨b, off, rfl, by have := hb.size; omega, fun j hj => ?_⟩
    obtain ⟨ta, tc, hv, h0, h1, h2, h3, h4, h5, h6⟩ := h j hj
    have f := fun k => hb.cell (p := ⟨b, k, none⟩) hl
    exact ⟨ta, tc, hv, (f _).trans h0, (f _).trans h1, (f _).trans h2, (f _).trans h3, (f _).trans h4, (f _).trans h5, h6.below hb⟩
theorem MesV.is {ao : Option Addr} {len : Nat} {ms : List Me} {V : Nat → Value} {w : World} (h : MesV ao len ms V w) (j : Nat) (hj : j < len) : IsMe (V j) (ms.getD j Me.zero) w := by
  rcases h with h | ⟨b, off, rfl, hl, h⟩
  · omega
  · obtain ⟨ta, tc, hv, _, _, _, _, _, _, h6⟩ := h j hj
    exact ⟨ta, tc, hv, h6⟩
theorem mes_v {ao : Option Addr} {len : Nat} {ms : List Me} {w : World} (h : Mes ao len ms w) : ∃ V, MesV ao len ms V w := by
  rcases h.2 with h | ⟨b, off, rfl, hl, h⟩
  · exact ⟨fun _ => undef, .inl h⟩
  · refine ⟨fun j => if hj : j < len then .agg #[.string (mN ms j), .int .i64 (ms.getD j Me.zero).g, .bool (ms.getD j Me.zero).wh, .int .i64 (ms.getD j Me.zero).f, .int .i64 (ms.getD j Me.zero).l, .slice (Classical.choose (h j hj)) (ms.getD j Me.zero).ts.length (Classical.choose (Classical.choose_spec (h j hj)))] else undef, .inr ⟨b, off, rfl, hl, fun j hj => ?_⟩⟩
    obtain ⟨h0, h1, h2, h3, h4, h5, h6⟩ := Classical.choose_spec (Classical.choose_spec (h j hj))
    exact ⟨_, _, by simp only [hj, dif_pos], h0, h1, h2, h3, h4, h5, h6⟩
theorem keyedS : Maps.Keyed Tryz.prog 9 := Maps.string_keyed Tryz.underlying9
set_option maxRecDepth 100000 in
set_option maxHeartbeats 4000000 in
theorem byName_any (ao : Option Addr) (len cap : Nat) (ms : List Me) (V : Nat → Value) (w : World) (hlen : len ≤ 6) (hn : ∀ i, i < len → (mN ms i).size ≤ 1048576) (hI : MesV ao len ms V w) :
    Calls Tryz.prog 119 #[.slice ao len cap] w fun e w' => e = .returned (.map (some w.heap.size)) ∧ w'.ownsMap Tryz.prog 9 RV w.heap.size len (mapD ms V len) ∧ Below w.heap.size w w' := by
  have HI := hid_intro hI
  have HN := hid_intro hn
  clear hI hn
  have HO0 : Hid ((w.alloc (.map #[] 0)).ownsMap Tryz.prog 9 RV w.heap.size 0 (mapD ms V 0)) := hid_intro (World.ownsMap_made w Tryz.prog 9 RV)
  have HB0 : Hid (Below w.heap.size w (w.alloc (.map #[] 0))) := hid_intro ((Below.refl _ _).alloc (Nat.le_refl _) _)
  have hmm := @run_makeMap Tryz.prog
  go_enter Tryz.func119, Tryz.ntmps119
  go_wp2_with fail
  go_loopw [9] (fun z wr => ∃ k : Nat, k ≤ len ∧ z = .int .i64 k ∧ Hid (Below w.heap.size w wr) ∧ Hid (wr.ownsMap Tryz.prog 9 RV w.heap.size k (mapD ms V k))) (fun z _ => len - (intOf z).toNat)
  case atStart => exact ⟨0, by omega, rfl, HB0, HO0⟩
  case round =>
    obtain ⟨k, hk, rfl, HB, HO⟩ := hrel
    by_cases hlt : k < len
    · have hlt2 : (k : Int) < (len : Int) := by omega
      rcases HI.out.below HB.out with h | ⟨b, off, rfl, hbl, h⟩
      · omega
      obtain ⟨ta, tc, hv, c0, c1, c2, c3, c4, c5, _⟩ := h k hlt
      clear h
      have HK := hid_intro (Go.WideMaps.keyOf_string_mk (P := Tryz.prog) (k := 9) Tryz.underlying9 (s := mN ms k) (Nat.le_trans (HN.out k hlt) (by unfold maxLen; omega)))
      have HV : Hid (RV (.agg #[.string (mN ms k), .int .i64 (ms.getD k Me.zero).g, .bool (ms.getD k Me.zero).wh, .int .i64 (ms.getD k Me.zero).f, .int .i64 (ms.getD k Me.zero).l, .slice ta (ms.getD k Me.zero).ts.length tc]) = some (.held (V k), [])) := hid_intro (by rw [hv]; rfl)
      have HD : Hid (mapD ms V (k + 1) = (mapD ms V k).put (kS (mN ms k)) (.held (V k))) := rfl
      have HKE : Hid (kS (mN ms k) = .string (mN ms k).data.toList) := rfl
      have HAl := hid_intro (fun o => HB.out.alloc HB.out.size o)
      have HOl := hid_intro (fun o => HO.out.alloc o)
      generalize (mapD ms V k) = D0 at *
      generalize kS (mN ms k) = K0 at *
      generalize mN ms k = n at *
      generalize V k = X at *
      generalize (ms.getD k Me.zero).ts.length = tl at *
      generalize (ms.getD k Me.zero).g = g at *
      generalize (ms.getD k Me.zero).wh = wh at *
      generalize (ms.getD k Me.zero).f = f at *
      generalize (ms.getD k Me.zero).l = l at *
      clear hv
      go_wp2_with (at_mapUpdate; refine wpList_mapUpdate_own _ rfl _ _ _ 166 rfl 9 117 keyedS Tryz.underlying166 RV w.heap.size k D0 rfl (HOl.out _) (by unfold maxLen; omega) _ _ _ rfl rfl HK.out (.held X) [] HV.out ?_; intro w1 hown1 hgrow1)
      have HO1 : Hid (w1.ownsMap Tryz.prog 9 RV w.heap.size (k + 1) (mapD ms V (k + 1))) := hid_intro (by rw [HD.out, HKE.out]; exact hown1)
      have HB1 : Hid (Below w.heap.size w w1) := hid_intro ((HAl.out _).grown hgrow1 (HAl.out _).size (fun k e => by cases e; exact Nat.le_refl _))
      clear hown1 hgrow1
      go_wp2_with fail
      go_roundw
      case rel => exact ⟨k + 1, by omega, by go_num, HB1, hid_intro HO1.out⟩
      case measure => simp [intOf]; omega
    · obtain rfl : k = len := by omega
      go_wp2_with fail
      go_ret
      exact ⟨rfl, HO.out, HB.out⟩
theorem gtr {w w1 w2 : World} {g : Option Nat} (h1 : w.grownBy w1 g) (h2 : w1.grownBy w2 g) : w.grownBy w2 g :=
  ⟨h2.os.trans h1.os, h2.tape.trans h1.tape, h2.output.trans h1.output, Nat.le_trans h1.size h2.size, fun k hk hne => (h2.block k (by have := h1.size; omega) hne).trans (h1.block k hk hne)⟩
theorem gnew {w wx : World} {g : Option Nat} (h : w.grownBy wx g) (o : Nat) (v : Value) : w.grownBy (wx.setCell ⟨w.heap.size, o, none⟩ v) g := by
  refine ⟨h.os, h.tape, h.output, by have := h.size; simpa using this, fun k hk hne => ?_⟩
  have e : (wx.setCell ⟨w.heap.size, o, none⟩ v).heap[k]? = wx.heap[k]? := by
    simp only [World.setCell]
    rw [Array.getElem?_modify, if_neg (by omega)]
  exact e.trans (h.block k hk hne)
/-- The program's own error stands in its variable. -/
def Laid (w : World) : Prop := 0 < w.heap.size ∧ ∃ a : Addr, w.cell? ⟨0, 0, none⟩ = some (.iface 265 (.pointer (some a)))
theorem Laid.below {w w' : World} (h : Laid w) (hb : Below w.heap.size w w') : Laid w' := by
  obtain ⟨h1, a, h2⟩ := h
  exact ⟨by have := hb.size; omega, a, (hb.cell (p := ⟨_, 0, none⟩) h1).trans h2⟩
theorem zeroM (w : World) : (zeroValue 117).run Tryz.prog w = .ok (.agg #[.string ⟨#[]⟩, .int .i64 0, .bool false, .int .i64 0, .int .i64 0, .slice none 0 0]) w := by kernel_rfl
set_option maxRecDepth 100000 in
set_option maxHeartbeats 4000000 in
theorem take_has (b N : Nat) (D : DataW Value) (n : ByteArray) (x0 : ByteArray) (x1 : Int) (x2 : Bool) (x3 x4 : Int) (x5 : Option Addr) (x6 x7 : Nat) (w : World) (hn : n.size ≤ 1048576) (hO : w.ownsMap Tryz.prog 9 RV b N D) (hh : Maps.has D (kS n) = true) (hx : ∀ z, D.atKey (kS n) z = .held (.agg #[.string x0, .int .i64 x1, .bool x2, .int .i64 x3, .int .i64 x4, .slice x5 x6 x7])) :
    Calls Tryz.prog 120 #[.map (some b), .string n] w fun e w' => e = .returned (.tuple #[.agg #[.string x0, .int .i64 x1, .bool x2, .int .i64 x3, .int .i64 x4, .slice x5 x6 x7], .nilIface]) ∧ w'.ownsMap Tryz.prog 9 RV b N (D.del (kS n)) ∧ w.grownBy w' (some b) := by
  have HK := hid_intro (Go.WideMaps.keyOf_string_mk (P := Tryz.prog) (k := 9) Tryz.underlying9 (s := n) (Nat.le_trans hn (by unfold maxLen; omega)))
  have HH := hid_intro hh
  have HX := hid_intro hx
  have HO := hid_intro hO
  have hlt := hO.lt
  clear hh hx hO
  have e : (.string n.data.toList : Lit) = kS n := rfl
  rw [e] at HK
  generalize kS n = K0 at *
  clear e
  obtain ⟨W, hW⟩ : ∃ W, W = w.alloc (.cells #[.string ⟨#[]⟩, .int .i64 0, .bool false, .int .i64 0, .int .i64 0, .slice none 0 0] 117) := ⟨_, rfl⟩
  obtain ⟨v, ps, hrun, hv⟩ := (HO.out.alloc (.cells #[.string ⟨#[]⟩, .int .i64 0, .bool false, .int .i64 0, .int .i64 0, .slice none 0 0] 117)).look_ok keyedS Tryz.underlying166 (zeroM _) (zd := .held (.agg #[.string ⟨#[]⟩, .int .i64 0, .bool false, .int .i64 0, .int .i64 0, .slice none 0 0])) (zp := []) rfl HK.out
  obtain rfl : v = .agg #[.string x0, .int .i64 x1, .bool x2, .int .i64 x3, .int .i64 x4, .slice x5 x6 x7] := by
    rw [HX.out] at hv
    simp [RV] at hv
    exact hv.1
  rw [HH.out] at hrun
  clear hv hW W
  have HOl := hid_intro (fun (o1 o2 : Obj) => (HO.out.alloc o1).alloc o2)
  have HGl := hid_intro (fun (o1 o2 : Obj) => gtr (World.grownBy_alloc w o1 (some b)) (World.grownBy_alloc (w.alloc o1) o2 (some b)))
  go_enter Tryz.func120, Tryz.ntmps120
  go_wp2_with (at_delete; refine wpList_delete_own _ rfl _ _ 166 9 rfl 117 keyedS Tryz.underlying166 RV b N D rfl (HOl.out _ _) _ _ rfl HK.out ?_; intro w1 hown1 hturn1; have hgr := hturn1.grown; have hsz : w.heap.size + 2 ≤ w1.heap.size := (by have := hgr.size; simp at this; omega); have E1 := fun o => World.cell?_of_block (a := ⟨w.heap.size + 1, o, none⟩) (hgr.block (w.heap.size + 1) (by simp) (by simp; omega)); have E2 := fun o => World.cell?_of_block (a := ⟨w.heap.size, o, none⟩) (hgr.block w.heap.size (by simp; omega) (by simp; omega)); have E3 := fun o => World.frozen?_of_block (a := ⟨w.heap.size, o, none⟩) (hgr.block w.heap.size (by simp; omega) (by simp; omega)); have m0 : w1.cell? ⟨w.heap.size + 1, 0, none⟩ = some (.string x0) := (E1 0).trans (by simp [go_sem]); have m1 : w1.cell? ⟨w.heap.size + 1, 1, none⟩ = some (.int .i64 x1) := (E1 1).trans (by simp [go_sem]); have m2 : w1.cell? ⟨w.heap.size + 1, 2, none⟩ = some (.bool x2) := (E1 2).trans (by simp [go_sem]); have m3 : w1.cell? ⟨w.heap.size + 1, 3, none⟩ = some (.int .i64 x3) := (E1 3).trans (by simp [go_sem]); have m4 : w1.cell? ⟨w.heap.size + 1, 4, none⟩ = some (.int .i64 x4) := (E1 4).trans (by simp [go_sem]); have m5 : w1.cell? ⟨w.heap.size + 1, 5, none⟩ = some (.slice x5 x6 x7) := (E1 5).trans (by simp [go_sem]); have r0 : w1.cell? ⟨w.heap.size, 0, none⟩ = some (.string ⟨#[]⟩) := (E2 0).trans (by simp [go_sem]); have f0 : w1.frozen? ⟨w.heap.size, 0, none⟩ = false := (E3 0).trans (by simp [go_sem]); have r1 : w1.cell? ⟨w.heap.size, 1, none⟩ = some (.int .i64 0) := (E2 1).trans (by simp [go_sem]); have f1 : w1.frozen? ⟨w.heap.size, 1, none⟩ = false := (E3 1).trans (by simp [go_sem]); have r2 : w1.cell? ⟨w.heap.size, 2, none⟩ = some (.bool false) := (E2 2).trans (by simp [go_sem]); have f2 : w1.frozen? ⟨w.heap.size, 2, none⟩ = false := (E3 2).trans (by simp [go_sem]); have r3 : w1.cell? ⟨w.heap.size, 3, none⟩ = some (.int .i64 0) := (E2 3).trans (by simp [go_sem]); have f3 : w1.frozen? ⟨w.heap.size, 3, none⟩ = false := (E3 3).trans (by simp [go_sem]); have r4 : w1.cell? ⟨w.heap.size, 4, none⟩ = some (.int .i64 0) := (E2 4).trans (by simp [go_sem]); have f4 : w1.frozen? ⟨w.heap.size, 4, none⟩ = false := (E3 4).trans (by simp [go_sem]); have r5 : w1.cell? ⟨w.heap.size, 5, none⟩ = some (.slice none 0 0) := (E2 5).trans (by simp [go_sem]); have f5 : w1.frozen? ⟨w.heap.size, 5, none⟩ = false := (E3 5).trans (by simp [go_sem]); have HG1 := hid_intro (gtr (HGl.out _ _) hgr); have HO1 := hid_intro hown1; clear E1 E2 E3 hgr hturn1 hown1)
  refine bodyPost_ret (v := .tuple #[.agg #[.string x0, .int .i64 x1, .bool x2, .int .i64 x3, .int .i64 x4, .slice x5 x6 x7], .nilIface]) (by simp [results, Tryz.results120, go_sem, r0, r1, r2, r3, r4, r5]) rfl ⟨rfl, ?_, ?_⟩
  · exact (((((HO1.out.setCell (a := ⟨w.heap.size, 0, none⟩) (show b ≠ w.heap.size by omega) _).setCell (a := ⟨w.heap.size, 1, none⟩) (show b ≠ w.heap.size by omega) _).setCell (a := ⟨w.heap.size, 2, none⟩) (show b ≠ w.heap.size by omega) _).setCell (a := ⟨w.heap.size, 3, none⟩) (show b ≠ w.heap.size by omega) _).setCell (a := ⟨w.heap.size, 4, none⟩) (show b ≠ w.heap.size by omega) _).setCell (a := ⟨w.heap.size, 5, none⟩) (show b ≠ w.heap.size by omega) _
  · exact gnew (gnew (gnew (gnew (gnew (gnew HG1.out _ _) _ _) _ _) _ _) _ _) _ _
set_option maxRecDepth 100000 in
set_option maxHeartbeats 4000000 in
theorem take_no (b N : Nat) (D : DataW Value) (n : ByteArray) (w : World) (hn : n.size ≤ 1048576) (hO : w.ownsMap Tryz.prog 9 RV b N D) (hh : Maps.has D (kS n) = false) (a0 : Addr) (hl : 0 < w.heap.size) (ha : w.cell? ⟨0, 0, none⟩ = some (.iface 265 (.pointer (some a0)))) :
    Calls Tryz.prog 120 #[.map (some b), .string n] w fun e w' => e = .returned (.tuple #[.agg #[.string ⟨#[]⟩, .int .i64 0, .bool false, .int .i64 0, .int .i64 0, .slice none 0 0], .iface 265 (.pointer (some a0))]) ∧ Below w.heap.size w w' := by
  have HK := hid_intro (Go.WideMaps.keyOf_string_mk (P := Tryz.prog) (k := 9) Tryz.underlying9 (s := n) (Nat.le_trans hn (by unfold maxLen; omega)))
  have HH := hid_intro hh
  have HO := hid_intro hO
  have hlt := hO.lt
  clear hh hO
  have e : (.string n.data.toList : Lit) = kS n := rfl
  rw [e] at HK
  generalize kS n = K0 at *
  clear e
  obtain ⟨v, ps, hrun, hv⟩ := (HO.out.alloc (.cells #[.string ⟨#[]⟩, .int .i64 0, .bool false, .int .i64 0, .int .i64 0, .slice none 0 0] 117)).look_ok keyedS Tryz.underlying166 (zeroM _) (zd := .held (.agg #[.string ⟨#[]⟩, .int .i64 0, .bool false, .int .i64 0, .int .i64 0, .slice none 0 0])) (zp := []) rfl HK.out
  obtain rfl : v = .agg #[.string ⟨#[]⟩, .int .i64 0, .bool false, .int .i64 0, .int .i64 0, .slice none 0 0] := by
    rw [Maps.atKey_of_not_has HH.out] at hv
    simp [RV] at hv
    exact hv.1
  rw [HH.out] at hrun
  clear hv
  go_enter Tryz.func120, Tryz.ntmps120
  go_wp2_with fail
  go_region
  all_goals try go_wp2
  refine bodyPost_ret (v := .tuple #[.agg #[.string ⟨#[]⟩, .int .i64 0, .bool false, .int .i64 0, .int .i64 0, .slice none 0 0], .iface 265 (.pointer (some a0))]) (by simp [results, Tryz.results120, go_sem]) rfl ⟨rfl, ?_⟩
  repeat' first | exact Below.refl _ _ | apply Below.setCell | apply Below.alloc | apply Below.drew
  all_goals first | omega | (simp; done) | (simp; omega)
end CatR
end Go.Proofs.YtcilbmhkhllmjaaGreatDoor
