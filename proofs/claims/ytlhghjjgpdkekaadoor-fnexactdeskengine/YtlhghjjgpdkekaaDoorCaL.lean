/-
  The law's own helpers over a list of meters: their size, copies, two held against each other. The condition: at most 1048576 meters, each of at most 1048576 tiers.
-/
import Derived.Test.YtlhghjjgpdkekaaDoorMeL2
namespace Go.Proofs.YtlhghjjgpdkekaaDoor
open Go.ChangeShapes Go.WideShapes Go.ChangeAt Go.RowKit
set_option linter.unusedVariables false
namespace CatR
open EvtR (Pt cell_put cell_far)
def Me.Small (m : Me) : Prop := m.n.size ≤ 1048576 ∧ m.ts.length ≤ 1048576
def Me.In (m : Me) : Prop := m.n.size ≤ maxLen ∧ m.ts.length ≤ maxLen
/-- What is told of a size: less than none, or what is left, and that all is small. -/
def SzOut (left : Int) (P : Prop) (e : Ending) : Prop := ∃ L : Int, e = .returned (.int .i64 L) ∧ (L = -1 ∨ (0 ≤ L ∧ L ≤ left ∧ P))
theorem small_more {ms : List Me} {k : Nat} (h : ∀ i, i < k → (ms.getD i Me.zero).Small) (hk : (ms.getD k Me.zero).Small) : ∀ i, i < k + 1 → (ms.getD i Me.zero).Small := fun i hi => by
  by_cases e : i = k
  · subst e; exact hk
  · exact h i (by omega)
/-- A meter's cells and its tiers, of a copy. -/
def MeC (w : World) (g o b : Nat) (m : Me) : Prop := (w.cell? ⟨g, o, none⟩ = some (.string m.n) ∧ w.cell? ⟨g, o + 1, none⟩ = some (.int .i64 m.g) ∧ w.cell? ⟨g, o + 2, none⟩ = some (.bool m.wh) ∧ w.cell? ⟨g, o + 3, none⟩ = some (.int .i64 m.f) ∧ w.cell? ⟨g, o + 4, none⟩ = some (.int .i64 m.l) ∧ w.cell? ⟨g, o + 5, none⟩ = some (.slice (some ⟨b, 0, none⟩) m.ts.length m.ts.length)) ∧ Tis (some ⟨b, 0, none⟩) m.ts.length m.ts w ∧ Pt b (m.ts.length * 2) w
theorem MeC.below {w w' : World} {g o b : Nat} {m : Me} (h : MeC w g o b m) (hl : g < w.heap.size) (hb : Below w.heap.size w w') : MeC w' g o b m := by
  obtain ⟨⟨h0, h1, h2, h3, h4, h5⟩, h6, h7⟩ := h
  have f := fun k => hb.cell (p := ⟨g, k, none⟩) hl
  exact ⟨⟨(f _).trans h0, (f _).trans h1, (f _).trans h2, (f _).trans h3, (f _).trans h4, (f _).trans h5⟩, h6.below hb, h7.below hb⟩
theorem MeC.is {w : World} {g o b : Nat} {m : Me} (h : MeC w g o b m) : MeAt w g o m := by
  obtain ⟨⟨h0, h1, h2, h3, h4, h5⟩, h6, h7⟩ := h
  exact ⟨_, _, h0, h1, h2, h3, h4, h5, h6⟩
/-- A list of meters that a copy has made, so far. -/
structure NewMes (base g : Nat) (bs : Nat → Nat) (n k : Nat) (ms : List Me) (w : World) : Prop where
  lo : base ≤ g
  pt : Pt g (n * 6) w
  inc : ∀ i, i < k → g < bs i ∧ ∀ j, j < i → bs j < bs i
  cel : ∀ i, i < k → MeC w g (i * 6) (bs i) (ms.getD i Me.zero)
theorem NewMes.below {base g : Nat} {bs : Nat → Nat} {n k : Nat} {ms : List Me} {w w' : World} (h : NewMes base g bs n k ms w) (hb : Below w.heap.size w w') : NewMes base g bs n k ms w' :=
  ⟨h.lo, h.pt.below hb, h.inc, fun i hi => (h.cel i hi).below h.pt.lt hb⟩
theorem NewMes.is {base g : Nat} {bs : Nat → Nat} {n : Nat} {ms : List Me} {w : World} (h : NewMes base g bs n n ms w) (hz : ms.length = n) : Mes (some ⟨g, 0, none⟩) n ms w :=
  ⟨hz, .inr ⟨g, 0, rfl, h.pt.lt, fun j hj => by rw [Nat.zero_add]; exact (h.cel j hj).is⟩⟩
/-- Six cells written. -/
def setM (wr : World) (g o : Nat) (m : Me) (b : Nat) : World := (((((wr.setCell ⟨g, o, none⟩ (.string m.n)).setCell ⟨g, o + 1, none⟩ (.int .i64 m.g)).setCell ⟨g, o + 2, none⟩ (.bool m.wh)).setCell ⟨g, o + 3, none⟩ (.int .i64 m.f)).setCell ⟨g, o + 4, none⟩ (.int .i64 m.l)).setCell ⟨g, o + 5, none⟩ (.slice (some ⟨b, 0, none⟩) m.ts.length m.ts.length)
theorem setM_pt {wr : World} {g o b m0 : Nat} {m : Me} (h : Pt g m0 wr) : Pt g m0 (setM wr g o m b) := (((((h.set _ _).set _ _).set _ _).set _ _).set _ _).set _ _
theorem setM_far {wr : World} {g o b : Nat} {m : Me} (x : Nat) (hx : x < o ∨ o + 6 ≤ x) : (setM wr g o m b).cell? ⟨g, x, none⟩ = wr.cell? ⟨g, x, none⟩ := by
  unfold setM
  rw [cell_far _ _ (by omega), cell_far _ _ (by omega), cell_far _ _ (by omega), cell_far _ _ (by omega), cell_far _ _ (by omega), cell_far _ _ (by omega)]
theorem setM_tis {wr : World} {g o b c len : Nat} {m : Me} {ts : List Ti} (h : Tis (some ⟨c, 0, none⟩) len ts wr) (hc : g ≠ c) : Tis (some ⟨c, 0, none⟩) len ts (setM wr g o m b) := (((((h.far hc _ _).far hc _ _).far hc _ _).far hc _ _).far hc _ _).far hc _ _
theorem setM_ptf {wr : World} {g o b c m0 : Nat} {m : Me} (h : Pt c m0 wr) (hc : g ≠ c) : Pt c m0 (setM wr g o m b) := (((((h.far hc _ _).far hc _ _).far hc _ _).far hc _ _).far hc _ _).far hc _ _
theorem setM_at {wr : World} {g o b m0 : Nat} {m : Me} (h : Pt g m0 wr) (ho : o + 6 ≤ m0) (hT : Tis (some ⟨b, 0, none⟩) m.ts.length m.ts wr) (hP : Pt b (m.ts.length * 2) wr) (hb : g ≠ b) : MeC (setM wr g o m b) g o b m := by
  refine ⟨⟨?_, ?_, ?_, ?_, ?_, ?_⟩, setM_tis hT hb, setM_ptf hP hb⟩
  · unfold setM
    rw [cell_far _ _ (by omega), cell_far _ _ (by omega), cell_far _ _ (by omega), cell_far _ _ (by omega), cell_far _ _ (by omega), cell_put h _ (by omega)]
  · unfold setM
    rw [cell_far _ _ (by omega), cell_far _ _ (by omega), cell_far _ _ (by omega), cell_far _ _ (by omega), cell_put (h.set _ _) _ (by omega)]
  · unfold setM
    rw [cell_far _ _ (by omega), cell_far _ _ (by omega), cell_far _ _ (by omega), cell_put ((h.set _ _).set _ _) _ (by omega)]
  · unfold setM
    rw [cell_far _ _ (by omega), cell_far _ _ (by omega), cell_put (((h.set _ _).set _ _).set _ _) _ (by omega)]
  · unfold setM
    rw [cell_far _ _ (by omega), cell_put ((((h.set _ _).set _ _).set _ _).set _ _) _ (by omega)]
  · unfold setM
    rw [cell_put (((((h.set _ _).set _ _).set _ _).set _ _).set _ _) _ (by omega)]
theorem MeC.setM {wr : World} {g o b x c : Nat} {m m' : Me} (h : MeC wr g x c m') (hx : x + 6 ≤ o) (hc : g ≠ c) : MeC (setM wr g o m b) g x c m' := by
  obtain ⟨⟨h0, h1, h2, h3, h4, h5⟩, h6, h7⟩ := h
  have f := fun y (hy : y < o) => setM_far (wr := wr) (g := g) (o := o) (b := b) (m := m) y (.inl hy)
  exact ⟨⟨(f _ (by omega)).trans h0, (f _ (by omega)).trans h1, (f _ (by omega)).trans h2, (f _ (by omega)).trans h3, (f _ (by omega)).trans h4, (f _ (by omega)).trans h5⟩, setM_tis h6 hc, setM_ptf h7 hc⟩
theorem NewMes.step {base g : Nat} {bs : Nat → Nat} {n k : Nat} {ms : List Me} {w w1 : World} (h : NewMes base g bs n k ms w) (hbl : Below w.heap.size w w1) (hk : k < n) {b : Nat} (hb : w.heap.size ≤ b) (hlt : ∀ i, i < k → bs i < w.heap.size) (hT : Tis (some ⟨b, 0, none⟩) (ms.getD k Me.zero).ts.length (ms.getD k Me.zero).ts w1) (hP : Pt b ((ms.getD k Me.zero).ts.length * 2) w1) :
    NewMes base g (fun i => if i = k then b else bs i) n (k + 1) ms (setM w1 g (k * 6) (ms.getD k Me.zero) b) := by
  have h1 := h.below hbl
  have hg := h.pt.lt
  refine ⟨h.lo, setM_pt h1.pt, fun i hi => ?_, fun i hi => ?_⟩
  · by_cases e : i = k
    · subst e
      rw [if_pos rfl]
      refine ⟨by omega, fun j hj => ?_⟩
      rw [if_neg (by omega)]
      have := hlt j hj
      omega
    · rw [if_neg e]
      refine ⟨(h.inc i (by omega)).1, fun j hj => ?_⟩
      rw [if_neg (by omega)]
      exact (h.inc i (by omega)).2 j hj
  · by_cases e : i = k
    · subst e
      rw [if_pos rfl]
      exact setM_at h1.pt (by omega) hT hP (by omega)
    · rw [if_neg e]
      exact (h1.cel i (by omega)).setM (by omega) (by have := (h.inc i (by omega)).1; omega)
theorem NewMes.blocks {base g : Nat} {bs : Nat → Nat} {n k : Nat} {ms : List Me} {w : World} (h : NewMes base g bs n k ms w) : ∀ i, i < k → bs i < w.heap.size := fun i hi => (h.cel i hi).2.2.lt
end CatR
end Go.Proofs.YtlhghjjgpdkekaaDoor
