/-
  The law's own copies of a list of events, and lists held against each other. The condition: the list has at most 1048576 events.
-/
import Derived.Test.YtbjildnnlijidaaEvS
import Derived.OwnWalk
import Derived.Deep.RegionWith
namespace Go.Proofs.Ytbjildnnlijidaa
open Go.ChangeShapes Go.WideShapes Go.ChangeAt Go.RowKit
set_option linter.unusedVariables false
namespace EvtR
theorem infoE : (Try.prog.info? 27).map (fun i => (i.zero, i.size, i.bytes)) = some (some (.agg #[.string ⟨#[]⟩, .string ⟨#[]⟩, .string ⟨#[]⟩, .int .i64 0, .int .i64 0, .string ⟨#[]⟩]), 6, 80) := by kernel_rfl
theorem row_full6 {w : World} {base e g n s : Nat} {xs : List Value} (h : w.ownsRow base e s (.slice (some ⟨g, 0, none⟩) n n) n xs) :
    ∃ rest : List Value, w.heap[g]? = some (.cells rest.toArray e (0, 0)) ∧ rest.length = n * s := by
  rcases h.2 with ⟨h1, _⟩ | ⟨g', cap, cur, h1, _, hg, _, _, hs, _⟩
  · simp at h1
  · simp at h1
    obtain ⟨rfl, rfl⟩ := h1
    exact ⟨cur.toList, by simpa using hg, by simpa using hs⟩
/-- How far the copy has come. -/
structure FillE (w wr : World) (n k : Nat) (es : List E) : Prop where
  bel : Below w.heap.size w wr
  row : ∃ cs : List Value, wr.heap[w.heap.size]? = some (.cells cs.toArray 27 (0, 0)) ∧ cs.length = n * 6 ∧ ∀ i, i < k → ∀ j, j < 6 → cs[i * 6 + j]? = (es.getD i E.zero).cells[j]?
theorem FillE.lt {w wr : World} {n k : Nat} {es : List E} (h : FillE w wr n k es) : w.heap.size < wr.heap.size := by
  obtain ⟨cs, hh, _⟩ := h.row
  exact (Array.getElem?_eq_some_iff.1 hh).1
theorem FillE.cell {w wr : World} {n k : Nat} {es : List E} (h : FillE w wr n k es) (i : Nat) (hi : i < n * 6) : ∃ v, wr.cell? ⟨w.heap.size, i, none⟩ = some v := by
  obtain ⟨cs, hh, hl, _⟩ := h.row
  refine ⟨cs[i]'(by omega), ?_⟩
  simp [World.cell?, hh, hl, hi]
theorem FillE.frozen {w wr : World} {n k : Nat} {es : List E} (h : FillE w wr n k es) (i : Nat) : wr.frozen? ⟨w.heap.size, i, none⟩ = false := by
  obtain ⟨cs, hh, hl, _⟩ := h.row
  simp [World.frozen?, hh]
theorem FillE.below {w wr w1 : World} {n k : Nat} {es : List E} (h : FillE w wr n k es) (hb : Below wr.heap.size wr w1) : FillE w w1 n k es where
  bel := h.bel.trans (hb.mono h.bel.size)
  row := by
    obtain ⟨cs, hh, h2⟩ := h.row
    exact ⟨cs, (hb.block _ h.lt).trans hh, h2⟩
theorem row_set {wr : World} {g o : Nat} {cs : List Value} {T : TypeId} {v : Value} (hh : wr.heap[g]? = some (.cells cs.toArray T (0, 0))) : (wr.setCell ⟨g, o, none⟩ v).heap[g]? = some (.cells (cs.set o v).toArray T (0, 0)) := by
  simp [World.setCell, Array.getElem?_modify, hh]
/-- Six cells written. -/
def set6 (wr : World) (g o : Nat) (e : E) : World := (((((wr.setCell ⟨g, o, none⟩ (.string e.i)).setCell ⟨g, o + 1, none⟩ (.string e.a)).setCell ⟨g, o + 2, none⟩ (.string e.m)).setCell ⟨g, o + 3, none⟩ (.int .i64 e.n)).setCell ⟨g, o + 4, none⟩ (.int .i64 e.k)).setCell ⟨g, o + 5, none⟩ (.string e.t)
theorem FillE.set {w wr : World} {n k : Nat} {es : List E} (h : FillE w wr n k es) (hk : k < n) : FillE w (set6 wr w.heap.size (k * 6) (es.getD k E.zero)) n (k + 1) es where
  bel := (((((h.bel.setCell (Nat.le_refl _) _).setCell (Nat.le_refl _) _).setCell (Nat.le_refl _) _).setCell (Nat.le_refl _) _).setCell (Nat.le_refl _) _).setCell (Nat.le_refl _) _
  row := by
    obtain ⟨cs, hh, hl, hc⟩ := h.row
    refine ⟨_, row_set (row_set (row_set (row_set (row_set (row_set hh))))), by simpa using hl, fun i hi j hj => ?_⟩
    by_cases e : i = k
    · subst e
      have b : i * 6 + 5 < cs.length := by omega
      match j, hj with
      | 0, _ => rw [show i * 6 + 0 = i * 6 from rfl, List.getElem?_set_ne (by omega), List.getElem?_set_ne (by omega), List.getElem?_set_ne (by omega), List.getElem?_set_ne (by omega), List.getElem?_set_ne (by omega), List.getElem?_set_self (by omega)]; rfl
      | 1, _ => rw [List.getElem?_set_ne (by omega), List.getElem?_set_ne (by omega), List.getElem?_set_ne (by omega), List.getElem?_set_ne (by omega), List.getElem?_set_self (by simp; omega)]; rfl
      | 2, _ => rw [List.getElem?_set_ne (by omega), List.getElem?_set_ne (by omega), List.getElem?_set_ne (by omega), List.getElem?_set_self (by simp; omega)]; rfl
      | 3, _ => rw [List.getElem?_set_ne (by omega), List.getElem?_set_ne (by omega), List.getElem?_set_self (by simp; omega)]; rfl
      | 4, _ => rw [List.getElem?_set_ne (by omega), List.getElem?_set_self (by simp; omega)]; rfl
      | 5, _ => rw [List.getElem?_set_self (by simp; omega)]; rfl
    · rw [List.getElem?_set_ne (by omega), List.getElem?_set_ne (by omega), List.getElem?_set_ne (by omega), List.getElem?_set_ne (by omega), List.getElem?_set_ne (by omega), List.getElem?_set_ne (by omega)]
      exact hc i (by omega) j hj
theorem FillE.evs {w wr : World} {n : Nat} {es : List E} (h : FillE w wr n n es) (hz : es.length = n) : Evs (some ⟨w.heap.size, 0, none⟩) n es wr := by
  refine ⟨hz, .inr ⟨w.heap.size, 0, rfl, h.lt, fun i hi => ?_⟩⟩
  obtain ⟨cs, hh, hl, hc⟩ := h.row
  have f := fun j (hj : j < 6) => (show wr.cell? ⟨w.heap.size, i * 6 + j, none⟩ = (es.getD i E.zero).cells[j]? by rw [← hc i hi j hj]; simp [World.cell?, hh])
  rw [Nat.zero_add]
  exact ⟨f 0 (by omega), f 1 (by omega), f 2 (by omega), f 3 (by omega), f 4 (by omega), f 5 (by omega)⟩
set_option maxRecDepth 100000 in
set_option maxHeartbeats 4000000 in
theorem toEvs_any (ao : Option Addr) (len cap : Nat) (es : List E) (w : World) (hlen : len ≤ 1048576) (hI : Evs ao len es w) :
    Calls Try.prog 17 #[.slice ao len cap] w fun e w' => e = .returned (.slice (some ⟨w.heap.size, 0, none⟩) len len) ∧ Evs (some ⟨w.heap.size, 0, none⟩) len es w' ∧ Below w.heap.size w w' := by
  obtain ⟨i0, hi, hz0, hz1, hz2⟩ := info_parts infoE
  have HI := hid_intro hI
  clear hI
  go_enter Try.func17, Try.ntmps17
  go_wp2_with (at_make; refine wpList_make_full _ rfl _ _ 34 rfl w.heap.size 27 i0 (.agg #[.string ⟨#[]⟩, .string ⟨#[]⟩, .string ⟨#[]⟩, .int .i64 0, .int .i64 0, .string ⟨#[]⟩]) 6 Try.underlying34 hi hz0 hz1 .i64 .i64 _ _ len rfl rfl rfl rfl ?b2 ?b3 ?b4 ?_)
  case b2 => rw [hz2]; omega
  case b3 => unfold maxLen; omega
  case b4 => exact Nat.le_refl _
  intro wm hown hgrow
  obtain ⟨cs, hcs, hcl⟩ := row_full6 hown
  have HF : Hid (FillE w wm len 0 es) := hid_intro ⟨(Below.refl _ _).grown hgrow (Nat.le_refl _) (fun k e => by cases e), cs, hcs, hcl, fun i h => absurd h (by omega)⟩
  clear hown hgrow hcs hcl hi hz0 hz1 hz2
  go_wp2_with fail
  go_loopw [4] (fun z wr => ∃ k : Nat, k ≤ len ∧ z = .int .i64 k ∧ Hid (FillE w wr len k es)) (fun z _ => len - (intOf z).toNat)
  case atStart => exact ⟨0, by omega, rfl, HF⟩
  case round =>
    obtain ⟨k, hk, rfl, HF⟩ := hrel
    by_cases hlt : k < len
    · have hlt2 : (k : Int) < (len : Int) := by omega
      obtain ⟨b, off, rfl, hbl, ha⟩ := evs_at (HI.out.below HF.out.bel) k hlt
      obtain ⟨c0, c1, c2, c3, c4, c5⟩ := ha
      obtain ⟨X, hX⟩ : ∃ X, X = es.getD k E.zero := ⟨_, rfl⟩
      rw [← hX] at c0 c1 c2 c3 c4 c5
      have HX := hid_intro hX
      obtain ⟨xi, xa, xm, xn, xk, xt⟩ := X
      have HC := hid_intro (fun w => toEvent_any xi xa xm xn xk xt w)
      clear hX
      unfold ev at HC
      go_wp2_with fail
      refine (HC.out _).mono ?_
      rintro e w1 ⟨rfl, hb⟩
      have HF1 := hid_intro (HF.out.below hb)
      have HS := hid_intro (HF1.out.set hlt)
      rw [← HX.out] at HS
      obtain ⟨v0, d0⟩ := HF1.out.cell (k * 6) (by omega)
      obtain ⟨v1, d1⟩ := HF1.out.cell (k * 6 + 1) (by omega)
      obtain ⟨v2, d2⟩ := HF1.out.cell (k * 6 + 2) (by omega)
      obtain ⟨v3, d3⟩ := HF1.out.cell (k * 6 + 3) (by omega)
      obtain ⟨v4, d4⟩ := HF1.out.cell (k * 6 + 4) (by omega)
      obtain ⟨v5, d5⟩ := HF1.out.cell (k * 6 + 5) (by omega)
      have z0 := HF1.out.frozen (k * 6)
      have z1 := HF1.out.frozen (k * 6 + 1)
      have z2 := HF1.out.frozen (k * 6 + 2)
      have z3 := HF1.out.frozen (k * 6 + 3)
      have z4 := HF1.out.frozen (k * 6 + 4)
      have z5 := HF1.out.frozen (k * 6 + 5)
      clear hb c0 c1 c2 c3 c4 c5
      go_wp2_with fail
      go_roundw
      case rel => exact ⟨k + 1, by omega, by go_num, HS⟩
      case measure => simp [intOf]; omega
    · have hlt2 : ¬ (k : Int) < (len : Int) := by omega
      obtain rfl : k = len := by omega
      go_wp2_with fail
      go_ret
      exact ⟨rfl, HF.out.evs HI.out.1, HF.out.bel⟩
theorem eqEvent_any (i a m : ByteArray) (n k : Int) (t : ByteArray) (w : World) : Calls Try.prog 32 #[ev i a m n k t, ev i a m n k t] w fun e w' => e = .returned (.bool true) ∧ Below w.heap.size w w' := by
  unfold ev
  go_enter Try.func32, Try.ntmps32
  go_wp2
  go_ret
  refine ⟨rfl, ?_⟩
  repeat' first | exact Below.refl _ _ | apply Below.setCell | apply Below.alloc
  all_goals first | omega | (simp; done) | (simp; omega)
set_option maxHeartbeats 4000000 in
theorem eqEvs_any (ao bo : Option Addr) (len cap cap' : Nat) (es : List E) (w : World) (hlen : len ≤ 1048576) (hI : Evs ao len es w) (hJ : Evs bo len es w) :
    Calls Try.prog 19 #[.slice ao len cap, .slice bo len cap'] w fun e w' => e = .returned (.bool true) ∧ Below w.heap.size w w' := by
  have HI := hid_intro hI
  have HJ := hid_intro hJ
  clear hI hJ
  go_enter Try.func19, Try.ntmps19
  go_wp2_with fail
  go_loopw [5] (fun z wr => ∃ k : Nat, k ≤ len ∧ z = .int .i64 k ∧ Hid (Below w.heap.size w wr)) (fun z _ => len - (intOf z).toNat)
  case atStart => exact ⟨0, by omega, rfl, hid_intro (Below.refl _ _)⟩
  case round =>
    obtain ⟨k, hk, rfl, HW⟩ := hrel
    by_cases hlt : k < len
    · have hlt2 : (k : Int) < (len : Int) := by omega
      obtain ⟨b, off, rfl, _, ha⟩ := evs_at (HI.out.below HW.out) k hlt
      obtain ⟨b', off', rfl, _, ha'⟩ := evs_at (HJ.out.below HW.out) k hlt
      obtain ⟨c0, c1, c2, c3, c4, c5⟩ := ha
      obtain ⟨e0, e1, e2, e3, e4, e5⟩ := ha'
      generalize es.getD k E.zero = X at *
      obtain ⟨xi, xa, xm, xn, xk, xt⟩ := X
      have HC := hid_intro (fun w => eqEvent_any xi xa xm xn xk xt w)
      unfold ev at HC
      go_wp2_with fail
      go_region_with (go_at_call 32; refine (HC.out _).mono ?_; rintro e w1 ⟨rfl, hb⟩)
      all_goals (
        have HB1 := hid_intro (HW.out.drew.trans (hb.mono HW.out.drew.size))
        clear hb c0 c1 c2 c3 c4 c5 e0 e1 e2 e3 e4 e5
        go_wp2_with fail
        go_roundw
        case rel => exact ⟨k + 1, by omega, by go_num, HB1⟩
        case measure => simp [intOf]; omega)
    · have hlt2 : ¬ (k : Int) < (len : Int) := by omega
      go_wp2_with fail
      go_ret
      exact ⟨rfl, HW.out⟩
end EvtR
end Go.Proofs.Ytbjildnnlijidaa
