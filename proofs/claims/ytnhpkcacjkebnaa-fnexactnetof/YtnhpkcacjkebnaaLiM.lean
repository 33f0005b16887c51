/-
  The law's own marks in a list of lines: written, and found again. The condition: at most 1048576 lines to write, 40 to find.
-/
import Derived.Test.YtnhpkcacjkebnaaLiS
import Derived.Test.YtnhpkcacjkebnaaMarkT
import Derived.Deep.RegionHeld3
namespace Go.Proofs.Ytnhpkcacjkebnaa
open Go.ChangeShapes Go.WideShapes Go.ChangeAt Go.RowKit
set_option linter.unusedVariables false
namespace LinR
open RowG
open EvtR (Pt)
open MarkR (mk mT mark_any)
/-- A marked line. -/
def mN (k : Nat) : N := ⟨mT k, ((k + 1 : Nat) : Int)⟩
/-- The cells of marked lines. -/
def mC (o : Nat) : Option Value := (mN (1 + 2 * (o / 2))).cells[o % 2]?
theorem mC_at (i x : Nat) (hx : x < 2) : mC (i * 2 + x) = (mN (1 + 2 * i)).cells[x]? := by
  have e1 : (i * 2 + x) / 2 = i := by omega
  have e2 : (i * 2 + x) % 2 = x := by omega
  unfold mC
  rw [e1, e2]
theorem rgrown {w w' : World} (hb : Below w.heap.size w w') (row : Option Nat) : w.grownBy w' row := ⟨hb.os, hb.tape, hb.output, hb.size, fun k hk _ => hb.block k hk⟩
theorem gtrans {w w1 w2 : World} {g : Option Nat} (h1 : w.grownBy w1 g) (h2 : w1.grownBy w2 g) : w.grownBy w2 g :=
  ⟨h2.os.trans h1.os, h2.tape.trans h1.tape, h2.output.trans h1.output, Nat.le_trans h1.size h2.size, fun k hk hne => (h2.block k (by have := h1.size; omega) hne).trans (h1.block k hk hne)⟩
/-- One more cell marked. -/
theorem mark_step {g m i : Nat} {w0 w : World} (hp : Pt g m w) (x : Nat) (hm : Wr mC (i * 2 + x) g w) (hg : w0.grownBy w (some g)) (hx : x < 2) (hj : i * 2 + x < m) (v : Value) (hv : (mN (1 + 2 * i)).cells[x]? = some v) :
    Pt g m (w.setCell ⟨g, i * 2 + x, none⟩ v) ∧ Wr mC (i * 2 + (x + 1)) g (w.setCell ⟨g, i * 2 + x, none⟩ v) ∧ w0.grownBy (w.setCell ⟨g, i * 2 + x, none⟩ v) (some g) :=
  ⟨hp.set _ _, hm.more hp hj v ((mC_at i x hx).trans hv), gtrans hg (grown_set _ g _ _)⟩
set_option maxRecDepth 100000 in
set_option maxHeartbeats 4000000 in
theorem marks_any (g n cap : Nat) (w : World) (hn : n ≤ 1048576) (h0 : Pt g (n * 2) w) :
    Calls Try.prog 12 #[.slice (some ⟨g, 0, none⟩) n cap, .int .i64 1] w fun e w' => e = .returned (.int .i64 (1 + 2 * n : Nat)) ∧ Pt g (n * 2) w' ∧ Wr mC (n * 2) g w' ∧ w.grownBy w' (some g) := by
  have HP := hid_intro h0
  have HT : Hid (∀ (z : Int) (K : Nat), z = K → 1 ≤ K → K < 100000000 → ∀ w, Calls Try.prog 31 #[.int .i64 z] w fun e w' => e = .returned (.string (mT K)) ∧ Below w.heap.size w w') := hid_intro (fun z K e h0 h w => by subst e; exact mark_any K h0 h w)
  clear h0
  go_enter Try.func12, Try.ntmps12
  go_wp2_with fail
  go_loopw [5, 1] (fun x z wr => ∃ i : Nat, x = .int .i64 (i : Int) ∧ z = .int .i64 (1 + 2 * (i : Int)) ∧ i ≤ n ∧ Hid (Pt g (n * 2) wr) ∧ Hid (Wr mC (i * 2) g wr) ∧ Hid (w.grownBy wr (some g))) (fun x _ _ => n - (intOf x).toNat)
  case atStart => exact ⟨0, rfl, rfl, by omega, HP, hid_intro (fun o ho => absurd ho (by omega)), hid_intro ⟨rfl, rfl, rfl, Nat.le_refl _, fun _ _ _ => rfl⟩⟩
  case round =>
    obtain ⟨i, rfl, rfl, hi, HP, HM, HG⟩ := hrel
    by_cases hin : i = n
    · subst hin
      go_wp2_with fail
      go_ret
      exact ⟨by go_num, HP.out, HM.out, HG.out⟩
    · have h1 : (i : Int) < (n : Int) := by omega
      go_wp2_with fail
      refine (HT.out _ (1 + 2 * i) (by push_cast; omega) (by omega) (by omega) _).mono ?_
      rintro e w1 ⟨rfl, hb⟩
      have HP1 := hid_intro (HP.out.below hb)
      have HM1 := hid_intro (HM.out.below HP.out hb)
      have HG1 := hid_intro (gtrans HG.out (rgrown hb _))
      obtain ⟨v0, c0⟩ := HP1.out.has (i * 2) (by omega)
      have f0 := HP1.out.free (i * 2) (by omega)
      obtain ⟨v1, c1⟩ := HP1.out.has (i * 2 + 1) (by omega)
      have f1 := HP1.out.free (i * 2 + 1) (by omega)
      have HS := hid_intro (mark_step (i := i) HP1.out 0 HM1.out HG1.out (by omega) (by omega) (.string (mT (1 + 2 * i))) rfl)
      have HS2 := hid_intro (mark_step (i := i) HS.out.1 1 HS.out.2.1 HS.out.2.2 (by omega) (by omega) (.int .i64 (1 + 2 * (i : Int) + 1)) (by simp [mN, N.cells]))
      clear hb HP HM HG HP1 HM1 HG1 HS
      go_wp2_with fail
      go_roundw
      case rel => exact ⟨i + 1, by go_num, by go_num, by omega, hid_intro HS2.out.1, hid_intro (by have := HS2.out.2.1; rw [show (i + 1) * 2 = i * 2 + (1 + 1) by omega]; exact this), hid_intro HS2.out.2.2⟩
      case measure => simp [intOf]; omega
theorem mC_cell {n i g : Nat} {w : World} (h : Wr mC (n * 2) g w) (hi : i < n) (x : Nat) (hx : x < 2) : w.cell? ⟨g, i * 2 + x, none⟩ = (mN (1 + 2 * i)).cells[x]? :=
  (h (i * 2 + x) (by omega)).trans (mC_at i x hx)
/-- One line's marks, in a world grown. -/
def BoxM (w : World) (g o : Nat) (t0 : ByteArray) (n : Int) (w' : World) : Prop := Below w.heap.size w w' ∧ g < w'.heap.size ∧ w'.cell? ⟨g, o, none⟩ = some (.string t0) ∧ w'.cell? ⟨g, o + 1, none⟩ = some (.int .i64 n)
theorem BoxM.below {w w1 w2 : World} {g o : Nat} {t0 : ByteArray} {n : Int} (h : BoxM w g o t0 n w1) (hb : Below w1.heap.size w1 w2) : BoxM w g o t0 n w2 := by
  obtain ⟨h0, hl, c0, c1⟩ := h
  have c := fun x => hb.cell (p := ⟨g, x, none⟩) hl
  exact ⟨h0.trans (hb.mono h0.size), by have := hb.size; omega, (c _).trans c0, (c _).trans c1⟩
theorem BoxM.drew {w w1 : World} {g o : Nat} {t0 : ByteArray} {n : Int} (h : BoxM w g o t0 n w1) : BoxM w g o t0 n w1.drew := ⟨h.1.drew, h.2⟩
set_option maxRecDepth 100000 in
set_option maxHeartbeats 4000000 in
theorem held_any (g n cap : Nat) (w : World) (hn : n ≤ 1048576) (h0 : Pt g (n * 2) w) (hm : Wr mC (n * 2) g w) :
    Calls Try.prog 13 #[.slice (some ⟨g, 0, none⟩) n cap, .int .i64 1] w fun e w' => e = .returned (.int .i64 (1 + 2 * n : Nat)) ∧ Below w.heap.size w w' := by
  have HP := hid_intro h0
  have HM := hid_intro hm
  clear h0 hm
  go_enter Try.func13, Try.ntmps13
  go_wp2_with fail
  go_loopw [5, 1] (fun x z wr => ∃ i : Nat, x = .int .i64 (i : Int) ∧ z = .int .i64 (1 + 2 * (i : Int)) ∧ i ≤ n ∧ Hid (Below w.heap.size w wr)) (fun x _ _ => n - (intOf x).toNat)
  case atStart => exact ⟨0, rfl, rfl, by omega, hid_intro (Below.refl _ _)⟩
  case round =>
    obtain ⟨i, rfl, rfl, hi, HB⟩ := hrel
    by_cases hin : i = n
    · subst hin
      go_wp2_with fail
      go_ret
      exact ⟨by go_num, HB.out⟩
    · have h1 : (i : Int) < (n : Int) := by omega
      have HC : Hid (∀ x, x < 2 → wr.cell? ⟨g, i * 2 + x, none⟩ = (mN (1 + 2 * i)).cells[x]?) := hid_intro (fun x hx => (HB.out.cell (p := ⟨g, i * 2 + x, none⟩) HP.out.lt).trans (mC_cell HM.out (by omega) x hx))
      have q0 : wr.cell? ⟨g, i * 2, none⟩ = some (.string (mT (1 + 2 * i))) := HC.out 0 (by omega)
      have q1 : wr.cell? ⟨g, i * 2 + 1, none⟩ = some (.int .i64 (1 + 2 * (i : Int) + 1)) := (HC.out 1 (by omega)).trans (by simp [mN, N.cells])
      have HT0 : Hid (∀ w, Calls Try.prog 31 #[.int .i64 (1 + 2 * (i : Int))] w fun e w' => e = .returned (.string (mT (1 + 2 * i))) ∧ Below w.heap.size w w') := hid_intro (fun w => by have := mark_any (1 + 2 * i) (by omega) (by omega) w; rw [show ((1 + 2 * i : Nat) : Int) = 1 + 2 * (i : Int) by omega] at this; exact this)
      clear HC
      generalize mT (1 + 2 * i) = T0 at *
      have HS0 : Hid (BoxM w g (i * 2) T0 (1 + 2 * (i : Int) + 1) wr) := hid_intro ⟨HB.out, by have := HB.out.size; have := HP.out.lt; omega, q0, q1⟩
      have HS1 := hid_intro HS0.out.drew
      go_wp2_with fail
      go_region_held3 (fun w' => Below w.heap.size w w' ∧ g < w'.heap.size ∧ w'.cell? ⟨g, i * 2, none⟩ = some (.string T0) ∧ w'.cell? ⟨g, i * 2 + 1, none⟩ = some (.int .i64 (1 + 2 * (i : Int) + 1))) (first | assumption | (exact HS0.out) | (exact HS1.out) | (exact BoxM.below (w := w) (g := g) (o := i * 2) (t0 := T0) (n := 1 + 2 * (i : Int) + 1) (by assumption) hb))
        (first | (go_at_call 31; refine (HT0.out _).mono ?_; rintro e w' ⟨rfl, hb⟩))
      rename_i hS
      replace HS0 := hid_intro hS
      have q0 := HS0.out.2.2.1
      have q1 := HS0.out.2.2.2
      clear hS HS1
      have HB2 := hid_intro HS0.out.1
      go_wp2_with fail
      go_roundw
      case rel => exact ⟨i + 1, by go_num, by go_num, by omega, HB2⟩
      case measure => simp [intOf]; omega
set_option maxHeartbeats 4000000 in
theorem marks_nil (ao : Option Addr) (cap : Nat) (w : World) : Calls Try.prog 12 #[.slice ao 0 cap, .int .i64 1] w fun e w' => e = .returned (.int .i64 1) ∧ Below w.heap.size w w' := by
  go_enter Try.func12, Try.ntmps12
  go_wp2_with fail
  go_loopw [5, 1] (fun x z wr => x = .int .i64 0 ∧ z = .int .i64 1 ∧ Hid (Below w.heap.size w wr)) (fun x _ _ => 0)
  case atStart => exact ⟨rfl, rfl, hid_intro (Below.refl _ _)⟩
  case round =>
    obtain ⟨rfl, rfl, HB⟩ := hrel
    go_wp2_with fail
    go_ret
    exact ⟨rfl, HB.out⟩
set_option maxHeartbeats 4000000 in
theorem held_nil (ao : Option Addr) (cap : Nat) (w : World) : Calls Try.prog 13 #[.slice ao 0 cap, .int .i64 1] w fun e w' => e = .returned (.int .i64 1) ∧ Below w.heap.size w w' := by
  go_enter Try.func13, Try.ntmps13
  go_wp2_with fail
  go_loopw [5, 1] (fun x z wr => x = .int .i64 0 ∧ z = .int .i64 1 ∧ Hid (Below w.heap.size w wr)) (fun x _ _ => 0)
  case atStart => exact ⟨rfl, rfl, hid_intro (Below.refl _ _)⟩
  case round =>
    obtain ⟨rfl, rfl, HB⟩ := hrel
    go_wp2_with fail
    go_ret
    exact ⟨rfl, HB.out⟩
/-- The marks stand in the list. -/
def Mkd (ao : Option Addr) (n : Nat) (w : World) : Prop := n = 0 ∨ ∃ g, ao = some ⟨g, 0, none⟩ ∧ Pt g (n * 2) w ∧ Wr mC (n * 2) g w
theorem Mkd.below {ao : Option Addr} {n : Nat} {w w' : World} (h : Mkd ao n w) (hb : Below w.heap.size w w') : Mkd ao n w' := by
  rcases h with h | ⟨g, rfl, hp, hm⟩
  · exact .inl h
  · exact .inr ⟨g, rfl, hp.below hb, hm.below hp hb⟩
theorem heldL (ao : Option Addr) (n cap : Nat) (w : World) (hn : n ≤ 1048576) (h : Mkd ao n w) :
    Calls Try.prog 13 #[.slice ao n cap, .int .i64 1] w fun e w' => e = .returned (.int .i64 (1 + 2 * n : Nat)) ∧ Below w.heap.size w w' := by
  rcases h with rfl | ⟨g, rfl, hp, hm⟩
  · exact held_nil ao cap w
  · exact held_any g n cap w hn hp hm
theorem markL (base : Nat) (ao : Option Addr) (l : List N) (cap : Nat) (w : World) (top : Nat) (hn : l.length ≤ 1048576) (h : MadeG 2 N.cells N.zero base ao l w) (ht : l.length = 0 ∨ ∀ g, ao = some ⟨g, 0, none⟩ → g < top) :
    Calls Try.prog 12 #[.slice ao l.length cap, .int .i64 1] w fun e w' => e = .returned (.int .i64 (1 + 2 * l.length : Nat)) ∧ Mkd ao l.length w' ∧ ∃ g, w.grownBy w' g ∧ ∀ x, g = some x → base ≤ x ∧ x < top := by
  rcases Nat.eq_zero_or_pos l.length with h0 | h0
  · rw [h0]
    exact (marks_nil ao cap w).mono fun e w' h => ⟨h.1, .inl rfl, none, rgrown h.2 _, by simp⟩
  · obtain ⟨g, rfl, hg, hp⟩ := h.own.resolve_left (by omega)
    have htp := ht.resolve_left (by omega) g rfl
    exact (marks_any g l.length cap w hn hp).mono fun e w' h => ⟨h.1, .inr ⟨g, rfl, h.2.1, h.2.2.1⟩, some g, h.2.2.2, fun x hx => by cases hx; exact ⟨hg, htp⟩⟩
end LinR
end Go.Proofs.Ytnhpkcacjkebnaa
