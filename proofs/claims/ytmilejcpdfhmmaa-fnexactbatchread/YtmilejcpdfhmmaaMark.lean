/-
  The law's own marks in a list of events: written, and found again. The condition: at most 20 events.
-/
import Derived.Test.YtmilejcpdfhmmaaEvS2
import Derived.Test.YtmilejcpdfhmmaaRdKit
import Derived.Test.YtmilejcpdfhmmaaRowPt
import Derived.Test.YtmilejcpdfhmmaaMarkT
namespace Go.Proofs.Ytmilejcpdfhmmaa
open Go.ChangeShapes Go.WideShapes Go.ChangeAt Go.RowKit
set_option linter.unusedVariables false
namespace EvtR
open MarkR (mk mT mark_any)
/-- A marked event. -/
def mE (k : Nat) : E := ⟨mT k, mT (k + 1), mT (k + 2), ((k + 3 : Nat) : Int), ((k + 4 : Nat) : Int), mT (k + 5)⟩
/-- How far the marks stand. -/
def Marked (k j : Nat) (g : Nat) (w : World) : Prop := ∀ o, o < j → w.cell? ⟨g, o, none⟩ = (mE (k + 6 * (o / 6))).cells[o % 6]?
theorem Marked.below {k j g m : Nat} {w w' : World} (h : Marked k j g w) (hp : Pt g m w) (hb : Below w.heap.size w w') : Marked k j g w' :=
  fun o ho => (hb.cell (p := ⟨g, o, none⟩) hp.lt).trans (h o ho)
theorem Marked.more {k j g m : Nat} {w : World} (h : Marked k j g w) (hp : Pt g m w) (hj : j < m) (v : Value) (hv : (mE (k + 6 * (j / 6))).cells[j % 6]? = some v) : Marked k (j + 1) g (w.setCell ⟨g, j, none⟩ v) := by
  intro o ho
  by_cases e : j = o
  · subst e; rw [cell_put hp j hj v, hv]
  · rw [cell_far j o e v]; exact h o (by omega)
theorem mark_cell (i x : Nat) (hx : x < 6) : (mE (1 + 6 * ((i * 6 + x) / 6))).cells[(i * 6 + x) % 6]? = (mE (1 + 6 * i)).cells[x]? := by
  have e1 : (i * 6 + x) / 6 = i := by omega
  have e2 : (i * 6 + x) % 6 = x := by omega
  rw [e1, e2]
/-- One more cell marked. -/
theorem mark_step {g m i : Nat} {w0 w : World} (hp : Pt g m w) (x : Nat) (hm : Marked 1 (i * 6 + x) g w) (hg : w0.grownBy w (some g)) (hx : x < 6) (hj : i * 6 + x < m) (v : Value) (hv : (mE (1 + 6 * i)).cells[x]? = some v) :
    Pt g m (w.setCell ⟨g, i * 6 + x, none⟩ v) ∧ Marked 1 (i * 6 + (x + 1)) g (w.setCell ⟨g, i * 6 + x, none⟩ v) ∧ w0.grownBy (w.setCell ⟨g, i * 6 + x, none⟩ v) (some g) :=
  ⟨hp.set _ _, hm.more hp hj v ((mark_cell i x hx).trans hv), gtrans hg (rset _ g _ _)⟩
set_option maxRecDepth 100000 in
set_option maxHeartbeats 4000000 in
theorem marks_any (g n cap : Nat) (w : World) (hn : n ≤ 20) (h0 : Pt g (n * 6) w) :
    Calls Try.prog 51 #[.slice (some ⟨g, 0, none⟩) n cap, .int .i64 1] w fun e w' => e = .returned (.int .i64 (1 + 6 * n : Nat)) ∧ Pt g (n * 6) w' ∧ Marked 1 (n * 6) g w' ∧ w.grownBy w' (some g) := by
  have HP := hid_intro h0
  have HT : Hid (∀ (z : Int) (K : Nat), z = K → 1 ≤ K → K < 1000 → ∀ w, Calls Try.prog 72 #[.int .i64 z] w fun e w' => e = .returned (.string (mT K)) ∧ Below w.heap.size w w') := hid_intro (fun z K e h0 h w => by subst e; exact mark_any K h0 h w)
  clear h0
  go_enter Try.func51, Try.ntmps51
  go_wp2_with fail
  go_loopw [5, 1] (fun x z wr => ∃ i : Nat, x = .int .i64 (i : Int) ∧ z = .int .i64 (1 + 6 * (i : Int)) ∧ i ≤ n ∧ Hid (Pt g (n * 6) wr) ∧ Hid (Marked 1 (i * 6) g wr) ∧ Hid (w.grownBy wr (some g))) (fun x _ _ => n - (intOf x).toNat)
  case atStart => exact ⟨0, rfl, rfl, by omega, HP, hid_intro (fun o ho => absurd ho (by omega)), hid_intro ⟨rfl, rfl, rfl, Nat.le_refl _, fun _ _ _ => rfl⟩⟩
  case round =>
    obtain ⟨i, rfl, rfl, hi, HP, HM, HG⟩ := hrel
    by_cases hin : i = n
    · subst hin
      go_wp2_with fail
      go_ret
      exact ⟨by go_num, HP.out, HM.out, HG.out⟩
    · have h1 : (i : Int) < (n : Int) := by omega
      go_wp2_with fail
      refine (HT.out _ (1 + 6 * i) (by push_cast; omega) (by omega) (by omega) _).mono ?_
      rintro e w1 ⟨rfl, hb⟩
      have HP1 := hid_intro (HP.out.below hb)
      have HM1 := hid_intro (HM.out.below HP.out hb)
      have HG1 := hid_intro (gtrans HG.out (rgrown hb _))
      obtain ⟨v0, c0⟩ := HP1.out.has (i * 6) (by omega)
      have f0 := HP1.out.free (i * 6) (by omega)
      have HS := hid_intro (mark_step (i := i) HP1.out 0 HM1.out HG1.out (by omega) (by omega) (.string (mT (1 + 6 * i))) rfl)
      clear hb HP HM HG HP1 HM1 HG1
      go_wp2_with fail
      obtain ⟨HP, HM, HG⟩ := HS.out
      refine (HT.out _ (1 + 6 * i + 1) (by push_cast; omega) (by omega) (by omega) _).mono ?_
      rintro e w2 ⟨rfl, hb⟩
      replace HM := hid_intro (HM.below HP hb)
      replace HP := hid_intro (HP.below hb)
      replace HG := hid_intro (gtrans HG (rgrown hb _))
      clear hb HS c0 f0
      obtain ⟨v1, c1⟩ := HP.out.has (i * 6 + 1) (by omega)
      have f1 := HP.out.free (i * 6 + 1) (by omega)
      have HS := hid_intro (mark_step (i := i) HP.out 1 HM.out HG.out (by omega) (by omega) (.string (mT (1 + 6 * i + 1))) rfl)
      clear HP HM HG
      go_wp2_with fail
      obtain ⟨HP, HM, HG⟩ := HS.out
      refine (HT.out _ (1 + 6 * i + 2) (by push_cast; omega) (by omega) (by omega) _).mono ?_
      rintro e w3 ⟨rfl, hb⟩
      replace HM := hid_intro (HM.below HP hb)
      replace HP := hid_intro (HP.below hb)
      replace HG := hid_intro (gtrans HG (rgrown hb _))
      clear hb HS c1 f1
      obtain ⟨v2, c2⟩ := HP.out.has (i * 6 + 2) (by omega)
      have f2 := HP.out.free (i * 6 + 2) (by omega)
      obtain ⟨v3, c3⟩ := HP.out.has (i * 6 + 3) (by omega)
      have f3 := HP.out.free (i * 6 + 3) (by omega)
      obtain ⟨v4, c4⟩ := HP.out.has (i * 6 + 4) (by omega)
      have f4 := HP.out.free (i * 6 + 4) (by omega)
      have HS := hid_intro (mark_step (i := i) HP.out 2 HM.out HG.out (by omega) (by omega) (.string (mT (1 + 6 * i + 2))) rfl)
      have HS3 := hid_intro (mark_step (i := i) HS.out.1 3 HS.out.2.1 HS.out.2.2 (by omega) (by omega) (.int .i64 (1 + 6 * (i : Int) + 1 + 1 + 1)) (by simp [mE, E.cells]; omega))
      have HS4 := hid_intro (mark_step (i := i) HS3.out.1 4 HS3.out.2.1 HS3.out.2.2 (by omega) (by omega) (.int .i64 (1 + 6 * (i : Int) + 1 + 1 + 1 + 1)) (by simp [mE, E.cells]; omega))
      clear HP HM HG HS HS3
      go_wp2_with fail
      obtain ⟨HP, HM, HG⟩ := HS4.out
      refine (HT.out _ (1 + 6 * i + 5) (by push_cast; omega) (by omega) (by omega) _).mono ?_
      rintro e w4 ⟨rfl, hb⟩
      replace HM := hid_intro (HM.below HP hb)
      replace HP := hid_intro (HP.below hb)
      replace HG := hid_intro (gtrans HG (rgrown hb _))
      clear hb HS4 c2 f2 c3 f3 c4 f4
      obtain ⟨v5, c5⟩ := HP.out.has (i * 6 + 5) (by omega)
      have f5 := HP.out.free (i * 6 + 5) (by omega)
      have HS := hid_intro (mark_step (i := i) HP.out 5 HM.out HG.out (by omega) (by omega) (.string (mT (1 + 6 * i + 5))) rfl)
      clear HP HM HG
      go_wp2_with fail
      go_roundw
      case rel => exact ⟨i + 1, by go_num, by go_num, by omega, hid_intro HS.out.1, hid_intro (by have := HS.out.2.1; rw [show (i + 1) * 6 = i * 6 + (5 + 1) by omega]; exact this), hid_intro HS.out.2.2⟩
      case measure => simp [intOf]; omega
/-- A marked cell. -/
theorem Marked.at {n i g : Nat} {w : World} (h : Marked 1 (n * 6) g w) (hi : i < n) (x : Nat) (hx : x < 6) : w.cell? ⟨g, i * 6 + x, none⟩ = (mE (1 + 6 * i)).cells[x]? :=
  (h (i * 6 + x) (by omega)).trans (mark_cell i x hx)
/-- One event's marks, in a world grown. -/
def BoxM (w : World) (g o : Nat) (t0 t1 t2 : ByteArray) (n k : Int) (t5 : ByteArray) (w' : World) : Prop := Below w.heap.size w w' ∧ g < w'.heap.size ∧ w'.cell? ⟨g, o, none⟩ = some (.string t0) ∧ w'.cell? ⟨g, o + 1, none⟩ = some (.string t1) ∧ w'.cell? ⟨g, o + 2, none⟩ = some (.string t2) ∧ w'.cell? ⟨g, o + 3, none⟩ = some (.int .i64 n) ∧ w'.cell? ⟨g, o + 4, none⟩ = some (.int .i64 k) ∧ w'.cell? ⟨g, o + 5, none⟩ = some (.string t5)
theorem BoxM.below {w w1 w2 : World} {g o : Nat} {t0 t1 t2 : ByteArray} {n k : Int} {t5 : ByteArray} (h : BoxM w g o t0 t1 t2 n k t5 w1) (hb : Below w1.heap.size w1 w2) : BoxM w g o t0 t1 t2 n k t5 w2 := by
  obtain ⟨h0, hl, c0, c1, c2, c3, c4, c5⟩ := h
  have c := fun x => hb.cell (p := ⟨g, x, none⟩) hl
  exact ⟨h0.trans (hb.mono h0.size), by have := hb.size; omega, (c _).trans c0, (c _).trans c1, (c _).trans c2, (c _).trans c3, (c _).trans c4, (c _).trans c5⟩
theorem BoxM.drew {w w1 : World} {g o : Nat} {t0 t1 t2 : ByteArray} {n k : Int} {t5 : ByteArray} (h : BoxM w g o t0 t1 t2 n k t5 w1) : BoxM w g o t0 t1 t2 n k t5 w1.drew := ⟨h.1.drew, h.2⟩
set_option maxRecDepth 100000 in
set_option maxHeartbeats 4000000 in
theorem held_any (g n cap : Nat) (w : World) (hn : n ≤ 20) (h0 : Pt g (n * 6) w) (hm : Marked 1 (n * 6) g w) :
    Calls Try.prog 52 #[.slice (some ⟨g, 0, none⟩) n cap, .int .i64 1] w fun e w' => e = .returned (.int .i64 (1 + 6 * n : Nat)) ∧ Below w.heap.size w w' := by
  have HP := hid_intro h0
  have HM := hid_intro hm
  clear h0 hm
  go_enter Try.func52, Try.ntmps52
  go_wp2_with fail
  go_loopw [5, 1] (fun x z wr => ∃ i : Nat, x = .int .i64 (i : Int) ∧ z = .int .i64 (1 + 6 * (i : Int)) ∧ i ≤ n ∧ Hid (Below w.heap.size w wr)) (fun x _ _ => n - (intOf x).toNat)
  case atStart => exact ⟨0, rfl, rfl, by omega, hid_intro (Below.refl _ _)⟩
  case round =>
    obtain ⟨i, rfl, rfl, hi, HB⟩ := hrel
    by_cases hin : i = n
    · subst hin
      go_wp2_with fail
      go_ret
      exact ⟨by go_num, HB.out⟩
    · have h1 : (i : Int) < (n : Int) := by omega
      have HC : Hid (∀ x, x < 6 → wr.cell? ⟨g, i * 6 + x, none⟩ = (mE (1 + 6 * i)).cells[x]?) := hid_intro (fun x hx => (HB.out.cell (p := ⟨g, i * 6 + x, none⟩) HP.out.lt).trans (HM.out.at (by omega) x hx))
      have q0 : wr.cell? ⟨g, i * 6, none⟩ = some (.string (mT (1 + 6 * i))) := HC.out 0 (by omega)
      have q1 : wr.cell? ⟨g, i * 6 + 1, none⟩ = some (.string (mT (1 + 6 * i + 1))) := HC.out 1 (by omega)
      have q2 : wr.cell? ⟨g, i * 6 + 2, none⟩ = some (.string (mT (1 + 6 * i + 2))) := HC.out 2 (by omega)
      have q3 : wr.cell? ⟨g, i * 6 + 3, none⟩ = some (.int .i64 (1 + 6 * (i : Int) + 1 + 1 + 1)) := (HC.out 3 (by omega)).trans (by simp [mE, E.cells]; omega)
      have q4 : wr.cell? ⟨g, i * 6 + 4, none⟩ = some (.int .i64 (1 + 6 * (i : Int) + 1 + 1 + 1 + 1)) := (HC.out 4 (by omega)).trans (by simp [mE, E.cells]; omega)
      have q5 : wr.cell? ⟨g, i * 6 + 5, none⟩ = some (.string (mT (1 + 6 * i + 5))) := HC.out 5 (by omega)
      have HT0 : Hid (∀ w, Calls Try.prog 72 #[.int .i64 (1 + 6 * (i : Int))] w fun e w' => e = .returned (.string (mT (1 + 6 * i))) ∧ Below w.heap.size w w') := hid_intro (fun w => by have := mark_any (1 + 6 * i) (by omega) (by omega) w; rw [show ((1 + 6 * i : Nat) : Int) = 1 + 6 * (i : Int) by omega] at this; exact this)
      have HT1 : Hid (∀ w, Calls Try.prog 72 #[.int .i64 (1 + 6 * (i : Int) + 1)] w fun e w' => e = .returned (.string (mT (1 + 6 * i + 1))) ∧ Below w.heap.size w w') := hid_intro (fun w => by have := mark_any (1 + 6 * i + 1) (by omega) (by omega) w; rw [show ((1 + 6 * i + 1 : Nat) : Int) = 1 + 6 * (i : Int) + 1 by omega] at this; exact this)
      have HT2 : Hid (∀ w, Calls Try.prog 72 #[.int .i64 (1 + 6 * (i : Int) + 1 + 1)] w fun e w' => e = .returned (.string (mT (1 + 6 * i + 2))) ∧ Below w.heap.size w w') := hid_intro (fun w => by have := mark_any (1 + 6 * i + 2) (by omega) (by omega) w; rw [show ((1 + 6 * i + 2 : Nat) : Int) = 1 + 6 * (i : Int) + 1 + 1 by omega] at this; exact this)
      have HT5 : Hid (∀ w, Calls Try.prog 72 #[.int .i64 (1 + 6 * (i : Int) + 1 + 1 + 1 + 1 + 1)] w fun e w' => e = .returned (.string (mT (1 + 6 * i + 5))) ∧ Below w.heap.size w w') := hid_intro (fun w => by have := mark_any (1 + 6 * i + 5) (by omega) (by omega) w; rw [show ((1 + 6 * i + 5 : Nat) : Int) = 1 + 6 * (i : Int) + 1 + 1 + 1 + 1 + 1 by omega] at this; exact this)
      clear HC
      generalize mT (1 + 6 * i) = T0 at *
      generalize mT (1 + 6 * i + 1) = T1 at *
      generalize mT (1 + 6 * i + 2) = T2 at *
      generalize mT (1 + 6 * i + 5) = T5 at *
      have HS0 : Hid (BoxM w g (i * 6) T0 T1 T2 (1 + 6 * (i : Int) + 1 + 1 + 1) (1 + 6 * (i : Int) + 1 + 1 + 1 + 1) T5 wr) := hid_intro ⟨HB.out, by have := HB.out.size; have := HP.out.lt; omega, q0, q1, q2, q3, q4, q5⟩
      have HS1 := hid_intro HS0.out.drew
      go_wp2_with fail
      go_region_held3 (fun w' => Below w.heap.size w w' ∧ g < w'.heap.size ∧ w'.cell? ⟨g, i * 6, none⟩ = some (.string T0) ∧ w'.cell? ⟨g, i * 6 + 1, none⟩ = some (.string T1) ∧ w'.cell? ⟨g, i * 6 + 2, none⟩ = some (.string T2) ∧ w'.cell? ⟨g, i * 6 + 3, none⟩ = some (.int .i64 (1 + 6 * (i : Int) + 1 + 1 + 1)) ∧ w'.cell? ⟨g, i * 6 + 4, none⟩ = some (.int .i64 (1 + 6 * (i : Int) + 1 + 1 + 1 + 1)) ∧ w'.cell? ⟨g, i * 6 + 5, none⟩ = some (.string T5)) (first | assumption | (exact HS0.out) | (exact HS1.out) | (exact BoxM.below (w := w) (g := g) (o := i * 6) (t0 := T0) (t1 := T1) (t2 := T2) (n := 1 + 6 * (i : Int) + 1 + 1 + 1) (k := 1 + 6 * (i : Int) + 1 + 1 + 1 + 1) (t5 := T5) (by assumption) hb))
        (first | (go_at_call 72; refine (HT0.out _).mono ?_; rintro e w' ⟨rfl, hb⟩))
      rename_i hS
      replace HS0 := hid_intro hS
      replace HS1 := hid_intro (BoxM.drew (w := w) (g := g) (o := i * 6) hS)
      have q0 := HS0.out.2.2.1
      have q1 := HS0.out.2.2.2.1
      have q2 := HS0.out.2.2.2.2.1
      have q3 := HS0.out.2.2.2.2.2.1
      have q4 := HS0.out.2.2.2.2.2.2.1
      have q5 := HS0.out.2.2.2.2.2.2.2
      clear hS
      go_wp2_with fail
      go_region_held3 (fun w' => Below w.heap.size w w' ∧ g < w'.heap.size ∧ w'.cell? ⟨g, i * 6, none⟩ = some (.string T0) ∧ w'.cell? ⟨g, i * 6 + 1, none⟩ = some (.string T1) ∧ w'.cell? ⟨g, i * 6 + 2, none⟩ = some (.string T2) ∧ w'.cell? ⟨g, i * 6 + 3, none⟩ = some (.int .i64 (1 + 6 * (i : Int) + 1 + 1 + 1)) ∧ w'.cell? ⟨g, i * 6 + 4, none⟩ = some (.int .i64 (1 + 6 * (i : Int) + 1 + 1 + 1 + 1)) ∧ w'.cell? ⟨g, i * 6 + 5, none⟩ = some (.string T5)) (first | assumption | (exact HS0.out) | (exact HS1.out) | (exact BoxM.below (w := w) (g := g) (o := i * 6) (t0 := T0) (t1 := T1) (t2 := T2) (n := 1 + 6 * (i : Int) + 1 + 1 + 1) (k := 1 + 6 * (i : Int) + 1 + 1 + 1 + 1) (t5 := T5) (by assumption) hb))
        (first | (go_at_call 72; refine (HT1.out _).mono ?_; rintro e w' ⟨rfl, hb⟩))
      rename_i hS
      replace HS0 := hid_intro hS
      replace HS1 := hid_intro (BoxM.drew (w := w) (g := g) (o := i * 6) hS)
      have q0 := HS0.out.2.2.1
      have q1 := HS0.out.2.2.2.1
      have q2 := HS0.out.2.2.2.2.1
      have q3 := HS0.out.2.2.2.2.2.1
      have q4 := HS0.out.2.2.2.2.2.2.1
      have q5 := HS0.out.2.2.2.2.2.2.2
      clear hS
      go_wp2_with fail
      go_region_held3 (fun w' => Below w.heap.size w w' ∧ g < w'.heap.size ∧ w'.cell? ⟨g, i * 6, none⟩ = some (.string T0) ∧ w'.cell? ⟨g, i * 6 + 1, none⟩ = some (.string T1) ∧ w'.cell? ⟨g, i * 6 + 2, none⟩ = some (.string T2) ∧ w'.cell? ⟨g, i * 6 + 3, none⟩ = some (.int .i64 (1 + 6 * (i : Int) + 1 + 1 + 1)) ∧ w'.cell? ⟨g, i * 6 + 4, none⟩ = some (.int .i64 (1 + 6 * (i : Int) + 1 + 1 + 1 + 1)) ∧ w'.cell? ⟨g, i * 6 + 5, none⟩ = some (.string T5)) (first | assumption | (exact HS0.out) | (exact HS1.out) | (exact BoxM.below (w := w) (g := g) (o := i * 6) (t0 := T0) (t1 := T1) (t2 := T2) (n := 1 + 6 * (i : Int) + 1 + 1 + 1) (k := 1 + 6 * (i : Int) + 1 + 1 + 1 + 1) (t5 := T5) (by assumption) hb))
        (first | (go_at_call 72; refine (HT2.out _).mono ?_; rintro e w' ⟨rfl, hb⟩))
      rename_i hS
      replace HS0 := hid_intro hS
      replace HS1 := hid_intro (BoxM.drew (w := w) (g := g) (o := i * 6) hS)
      have q0 := HS0.out.2.2.1
      have q1 := HS0.out.2.2.2.1
      have q2 := HS0.out.2.2.2.2.1
      have q3 := HS0.out.2.2.2.2.2.1
      have q4 := HS0.out.2.2.2.2.2.2.1
      have q5 := HS0.out.2.2.2.2.2.2.2
      clear hS
      go_wp2_with fail
      go_region_held3 (fun w' => Below w.heap.size w w' ∧ g < w'.heap.size ∧ w'.cell? ⟨g, i * 6, none⟩ = some (.string T0) ∧ w'.cell? ⟨g, i * 6 + 1, none⟩ = some (.string T1) ∧ w'.cell? ⟨g, i * 6 + 2, none⟩ = some (.string T2) ∧ w'.cell? ⟨g, i * 6 + 3, none⟩ = some (.int .i64 (1 + 6 * (i : Int) + 1 + 1 + 1)) ∧ w'.cell? ⟨g, i * 6 + 4, none⟩ = some (.int .i64 (1 + 6 * (i : Int) + 1 + 1 + 1 + 1)) ∧ w'.cell? ⟨g, i * 6 + 5, none⟩ = some (.string T5)) (first | assumption | (exact HS0.out) | (exact HS1.out) | (exact BoxM.below (w := w) (g := g) (o := i * 6) (t0 := T0) (t1 := T1) (t2 := T2) (n := 1 + 6 * (i : Int) + 1 + 1 + 1) (k := 1 + 6 * (i : Int) + 1 + 1 + 1 + 1) (t5 := T5) (by assumption) hb))
        (first | (go_at_call 72; refine (HT5.out _).mono ?_; rintro e w' ⟨rfl, hb⟩))
      rename_i hS
      replace HS0 := hid_intro hS
      replace HS1 := hid_intro (BoxM.drew (w := w) (g := g) (o := i * 6) hS)
      have q0 := HS0.out.2.2.1
      have q1 := HS0.out.2.2.2.1
      have q2 := HS0.out.2.2.2.2.1
      have q3 := HS0.out.2.2.2.2.2.1
      have q4 := HS0.out.2.2.2.2.2.2.1
      have q5 := HS0.out.2.2.2.2.2.2.2
      clear hS
      have HB2 := hid_intro HS0.out.1
      go_wp2_with fail
      go_roundw
      case rel => exact ⟨i + 1, by go_num, by go_num, by omega, HB2⟩
      case measure => simp [intOf]; omega
end EvtR
end Go.Proofs.Ytmilejcpdfhmmaa
