/-
  The law's own mark, a text. The condition: its number is 1 to 99999999.
  The law's own marks in a list of lines: written, and found again. The condition: at most 1048576 lines to write, 40 to find.
  What right lines are: both sides say the same. The condition: at most 1048576 lines, whose Meters have at most 1048576 bytes.
  strings.Clone: the same bytes come back; nothing that was there is written. The condition: the text has at most 2^48 bytes.
  Lines that are put together, and what is left of them behind a credit: both sides say the same. The condition: at most 1048576 lines, whose Meters have at most 1048576 bytes.
  What lines come to: both sides say the same. The condition: at most 1048576 lines, whose Meters have at most 1048576 bytes.
  FnExactClamp: for every number and bounds the law's call returns true (the program's Clamp hands back what the model's does), and the input reads as it did. No condition.
-/
import Derived.Lib.ConvBytes
import Derived.Laws.BytesArg
import Derived.Deep.RegionHeld3
import Derived.BigQuiet
import Derived.Deep.QuietTactic
import Derived.Lib.Strings
import Derived.Lib.BufferWrite
import Derived.Lib.UnsafeStr
import Derived.Lib.Hide
import Derived.Laws.MakeOwn
import Derived.OwnWalk
import Derived.Test.YtcilbmhkhllmjaaGreatDoorB7
namespace Go.Proofs.YtcilbmhkhllmjaaGreatDoor
open Go.ChangeShapes Go.WideShapes Go.ChangeAt Go.RowKit
set_option linter.unusedVariables false
namespace MarkR
theorem hid_intro {p : Prop} (h : p) : Hid p := h
theorem conv_m (w : World) (z : Int) : (convert 47 9 (.slice (some ⟨w.heap.size, 0, none⟩) 1 1)).run Tryz.prog (w.alloc (Obj.cells #[.int .u8 z] 5)) = .ok (.string (strOfNums [z])) (w.alloc (Obj.cells #[.int .u8 z] 5)) := by
  refine run_convert_bytes_arg _ 47 5 Tryz.underlying47 Tryz.underlying5 w.heap.size 0 1 1 _ rfl ?_ 9 Tryz.underlying9
  intro i hi
  match i, hi with
  | 0, _ => simp [go_sem]
/-- The digits put ahead of a text. -/
def mk : Nat → Nat → ByteArray → ByteArray
  | 0, _, out => out
  | f + 1, k, out => if k = 0 then out else mk f (k / 10) (strOfNums [48 + ((k % 10 : Nat) : Int)] ++ out)
def mT (k : Nat) : ByteArray := (⟨#[109]⟩ : ByteArray) ++ mk 9 k ⟨#[]⟩
set_option maxRecDepth 100000 in
set_option maxHeartbeats 4000000 in
theorem mark_any (K : Nat) (h0 : 1 ≤ K) (h : K < 100000000) (w : World) : Calls Tryz.prog 54 #[.int .i64 K] w fun e w' => e = .returned (.string (mT K)) ∧ Below w.heap.size w w' := by
  have h1 : ¬ (K : Int) ≤ 0 := by omega
  have HT : Hid (mT K = (⟨#[109]⟩ : ByteArray) ++ mk 9 K ⟨#[]⟩) := rfl
  generalize mT K = R at *
  go_enter Tryz.func54, Tryz.ntmps54
  go_wp2_with fail
  go_loopw [0, 3] (fun x z wr => ∃ (f k : Nat) (out : ByteArray), x = .int .i64 (k : Int) ∧ z = .string out ∧ k < 10 ^ f ∧ f ≤ 9 ∧ Hid (mk 9 K ⟨#[]⟩ = mk f k out) ∧ out.size + f = 9 ∧ Hid (Below w.heap.size w wr)) (fun x _ _ => (intOf x).toNat)
  case atStart => exact ⟨9, K, ⟨#[]⟩, rfl, rfl, by omega, by omega, rfl, rfl, hid_intro (Below.refl _ _)⟩
  case round =>
    obtain ⟨f, k, out, rfl, rfl, hk, hf, HD, hz, HB⟩ := hrel
    by_cases hk0 : k = 0
    · subst hk0
      have HO : Hid (R = (⟨#[109]⟩ : ByteArray) ++ out) := hid_intro (by rw [HT.out, HD.out]; cases f <;> simp [mk])
      have q1 : ¬ 9223372036854775807 < 1 + out.size := by omega
      go_wp2_with fail
      go_ret
      exact ⟨ret_str HO.out.symm, HB.out⟩
    · obtain ⟨g, rfl⟩ : ∃ g, f = g + 1 := ⟨f - 1, by rcases f with _ | f; simp at hk; omega; omega⟩
      have hk2 : k / 10 < 10 ^ g := by rw [Nat.pow_succ] at hk; omega
      have HD2 : Hid (mk 9 K ⟨#[]⟩ = mk g (k / 10) (strOfNums [48 + ((k % 10 : Nat) : Int)] ++ out)) := hid_intro (by rw [HD.out, mk, if_neg hk0])
      have hkb : k < 1000000000 := by
        have : 10 ^ (g + 1) ≤ 10 ^ 9 := Nat.pow_le_pow_right (by omega) hf
        omega
      have k1 : (0 : Int) < (k : Int) := by omega
      have e1 : (k : Int) % 10 = ((k % 10 : Nat) : Int) := by omega
      have e2 : (k : Int) / 10 = ((k / 10 : Nat) : Int) := by omega
      have e3 : (k : Int).tmod 10 = ((k % 10 : Nat) : Int) := by rw [Int.tmod_eq_emod_of_nonneg (by omega)]; omega
      have e4 : (k : Int).tdiv 10 = ((k / 10 : Nat) : Int) := by rw [Int.tdiv_eq_ediv_of_nonneg (by omega)]; omega
      have d10 : k % 10 < 10 := by omega
      have dk : k / 10 < k := by omega
      have hC : (strOfNums [48 + ((k % 10 : Nat) : Int)]).size = 1 := strOfNums_size _
      have hcv := conv_m wr (48 + ((k % 10 : Nat) : Int))
      generalize k % 10 = d at *
      generalize k / 10 = q at *
      generalize strOfNums [48 + (d : Int)] = T at *
      have q1 : ¬ 9223372036854775807 < T.size + out.size := by omega
      have HDk := hid_intro dk
      clear dk hk HD
      go_wp2_with fail
      go_roundw
      case rel => exact ⟨g, q, T ++ out, rfl, rfl, hk2, by omega, HD2, by rw [ByteArray.size_append]; omega, hid_intro (HB.out.alloc HB.out.size _)⟩
      case measure => simp [intOf]; have := HDk.out; omega
end MarkR
end Go.Proofs.YtcilbmhkhllmjaaGreatDoor
namespace Go.Proofs.YtcilbmhkhllmjaaGreatDoor
open Go.ChangeShapes Go.WideShapes Go.ChangeAt Go.RowKit
set_option linter.unusedVariables false
namespace LinR
open RowG
open EvtR (Pt)
open MarkR (mk mT mark_any)
/-- A marked line. -/
def mN (k : Nat) : N := ⟨mT k, ((k + 1 : Nat) : Int)⟩
/-- The cells of marked lines. -/
def mC (o : Nat) : Option Value := (mN (1 + 2 * (o / 2))).cells[o % 2]?
theorem mC_at (i x : Nat) (hx : x < 2) : mC (i * 2 + x) = (mN (1 + 2 * i)).cells[x]? := by
  have e1 : (i * 2 + x) / 2 = i := by omega
  have e2 : (i * 2 + x) % 2 = x := by omega
  unfold mC
  rw [e1, e2]
theorem rgrown {w w' : World} (hb : Below w.heap.size w w') (row : Option Nat) : w.grownBy w' row := ⟨hb.os, hb.tape, hb.output, hb.size, fun k hk _ => hb.block k hk⟩
theorem gtrans {w w1 w2 : World} {g : Option Nat} (h1 : w.grownBy w1 g) (h2 : w1.grownBy w2 g) : w.grownBy w2 g :=
  ⟨h2.os.trans h1.os, h2.tape.trans h1.tape, h2.output.trans h1.output, Nat.le_trans h1.size h2.size, fun k hk hne => (h2.block k (by have := h1.size; omega) hne).trans (h1.block k hk hne)⟩
/-- One more cell marked. -/
theorem mark_step {g m i : Nat} {w0 w : World} (hp : Pt g m w) (x : Nat) (hm : Wr mC (i * 2 + x) g w) (hg : w0.grownBy w (some g)) (hx : x < 2) (hj : i * 2 + x < m) (v : Value) (hv : (mN (1 + 2 * i)).cells[x]? = some v) :
    Pt g m (w.setCell ⟨g, i * 2 + x, none⟩ v) ∧ Wr mC (i * 2 + (x + 1)) g (w.setCell ⟨g, i * 2 + x, none⟩ v) ∧ w0.grownBy (w.setCell ⟨g, i * 2 + x, none⟩ v) (some g) :=
  ⟨hp.set _ _, hm.more hp hj v ((mC_at i x hx).trans hv), gtrans hg (grown_set _ g _ _)⟩
set_option maxRecDepth 100000 in
set_option maxHeartbeats 4000000 in
theorem marks_any (g n cap : Nat) (w : World) (hn : n ≤ 1048576) (h0 : Pt g (n * 2) w) :
    Calls Tryz.prog 57 #[.slice (some ⟨g, 0, none⟩) n cap, .int .i64 1] w fun e w' => e = .returned (.int .i64 (1 + 2 * n : Nat)) ∧ Pt g (n * 2) w' ∧ Wr mC (n * 2) g w' ∧ w.grownBy w' (some g) := by
  have HP := hid_intro h0
  have HT : Hid (∀ (z : Int) (K : Nat), z = K → 1 ≤ K → K < 100000000 → ∀ w, Calls Tryz.prog 54 #[.int .i64 z] w fun e w' => e = .returned (.string (mT K)) ∧ Below w.heap.size w w') := hid_intro (fun z K e h0 h w => by subst e; exact mark_any K h0 h w)
  clear h0
  go_enter Tryz.func57, Tryz.ntmps57
  go_wp2_with fail
  go_loopw [5, 1] (fun x z wr => ∃ i : Nat, x = .int .i64 (i : Int) ∧ z = .int .i64 (1 + 2 * (i : Int)) ∧ i ≤ n ∧ Hid (Pt g (n * 2) wr) ∧ Hid (Wr mC (i * 2) g wr) ∧ Hid (w.grownBy wr (some g))) (fun x _ _ => n - (intOf x).toNat)
  case atStart => exact ⟨0, rfl, rfl, by omega, HP, hid_intro (fun o ho => absurd ho (by omega)), hid_intro ⟨rfl, rfl, rfl, Nat.le_refl _, fun _ _ _ => rfl⟩⟩
  case round =>
    obtain ⟨i, rfl, rfl, hi, HP, HM, HG⟩ := hrel
    by_cases hin : i = n
    · subst hin
      go_wp2_with fail
      go_ret
      exact ⟨by go_num, HP.out, HM.out, HG.out⟩
    · have h1 : (i : Int) < (n : Int) := by omega
      go_wp2_with fail
      refine (HT.out _ (1 + 2 * i) (by push_cast; omega) (by omega) (by omega) _).mono ?_
      rintro e w1 ⟨rfl, hb⟩
      have HP1 := hid_intro (HP.out.below hb)
      have HM1 := hid_intro (HM.out.below HP.out hb)
      have HG1 := hid_intro (gtrans HG.out (rgrown hb _))
      obtain ⟨v0, c0⟩ := HP1.out.has (i * 2) (by omega)
      have f0 := HP1.out.free (i * 2) (by omega)
      obtain ⟨v1, c1⟩ := HP1.out.has (i * 2 + 1) (by omega)
      have f1 := HP1.out.free (i * 2 + 1) (by omega)
      have HS := hid_intro (mark_step (i := i) HP1.out 0 HM1.out HG1.out (by omega) (by omega) (.string (mT (1 + 2 * i))) rfl)
      have HS2 := hid_intro (mark_step (i := i) HS.out.1 1 HS.out.2.1 HS.out.2.2 (by omega) (by omega) (.int .i64 (1 + 2 * (i : Int) + 1)) (by simp [mN, N.cells]))
      clear hb HP HM HG HP1 HM1 HG1 HS
      go_wp2_with fail
      go_roundw
      case rel => exact ⟨i + 1, by go_num, by go_num, by omega, hid_intro HS2.out.1, hid_intro (by have := HS2.out.2.1; rw [show (i + 1) * 2 = i * 2 + (1 + 1) by omega]; exact this), hid_intro HS2.out.2.2⟩
      case measure => simp [intOf]; omega
theorem mC_cell {n i g : Nat} {w : World} (h : Wr mC (n * 2) g w) (hi : i < n) (x : Nat) (hx : x < 2) : w.cell? ⟨g, i * 2 + x, none⟩ = (mN (1 + 2 * i)).cells[x]? :=
  (h (i * 2 + x) (by omega)).trans (mC_at i x hx)
/-- One line's marks, in a world grown. -/
def BoxM (w : World) (g o : Nat) (t0 : ByteArray) (n : Int) (w' : World) : Prop := Below w.heap.size w w' ∧ g < w'.heap.size ∧ w'.cell? ⟨g, o, none⟩ = some (.string t0) ∧ w'.cell? ⟨g, o + 1, none⟩ = some (.int .i64 n)
theorem BoxM.below {w w1 w2 : World} {g o : Nat} {t0 : ByteArray} {n : Int} (h : BoxM w g o t0 n w1) (hb : Below w1.heap.size w1 w2) : BoxM w g o t0 n w2 := by
  obtain ⟨h0, hl, c0, c1⟩ := h
  have c := fun x => hb.cell (p := ⟨g, x, none⟩) hl
  exact ⟨h0.trans (hb.mono h0.size), by have := hb.size; omega, (c _).trans c0, (c _).trans c1⟩
theorem BoxM.drew {w w1 : World} {g o : Nat} {t0 : ByteArray} {n : Int} (h : BoxM w g o t0 n w1) : BoxM w g o t0 n w1.drew := ⟨h.1.drew, h.2⟩
set_option maxRecDepth 100000 in
set_option maxHeartbeats 4000000 in
theorem held_any (g n cap : Nat) (w : World) (hn : n ≤ 1048576) (h0 : Pt g (n * 2) w) (hm : Wr mC (n * 2) g w) :
    Calls Tryz.prog 58 #[.slice (some ⟨g, 0, none⟩) n cap, .int .i64 1] w fun e w' => e = .returned (.int .i64 (1 + 2 * n : Nat)) ∧ Below w.heap.size w w' := by
  have HP := hid_intro h0
  have HM := hid_intro hm
  clear h0 hm
  go_enter Tryz.func58, Tryz.ntmps58
  go_wp2_with fail
  go_loopw [5, 1] (fun x z wr => ∃ i : Nat, x = .int .i64 (i : Int) ∧ z = .int .i64 (1 + 2 * (i : Int)) ∧ i ≤ n ∧ Hid (Below w.heap.size w wr)) (fun x _ _ => n - (intOf x).toNat)
  case atStart => exact ⟨0, rfl, rfl, by omega, hid_intro (Below.refl _ _)⟩
  case round =>
    obtain ⟨i, rfl, rfl, hi, HB⟩ := hrel
    by_cases hin : i = n
    · subst hin
      go_wp2_with fail
      go_ret
      exact ⟨by go_num, HB.out⟩
    · have h1 : (i : Int) < (n : Int) := by omega
      have HC : Hid (∀ x, x < 2 → wr.cell? ⟨g, i * 2 + x, none⟩ = (mN (1 + 2 * i)).cells[x]?) := hid_intro (fun x hx => (HB.out.cell (p := ⟨g, i * 2 + x, none⟩) HP.out.lt).trans (mC_cell HM.out (by omega) x hx))
      have q0 : wr.cell? ⟨g, i * 2, none⟩ = some (.string (mT (1 + 2 * i))) := HC.out 0 (by omega)
      have q1 : wr.cell? ⟨g, i * 2 + 1, none⟩ = some (.int .i64 (1 + 2 * (i : Int) + 1)) := (HC.out 1 (by omega)).trans (by simp [mN, N.cells])
      have HT0 : Hid (∀ w, Calls Tryz.prog 54 #[.int .i64 (1 + 2 * (i : Int))] w fun e w' => e = .returned (.string (mT (1 + 2 * i))) ∧ Below w.heap.size w w') := hid_intro (fun w => by have := mark_any (1 + 2 * i) (by omega) (by omega) w; rw [show ((1 + 2 * i : Nat) : Int) = 1 + 2 * (i : Int) by omega] at this; exact this)
      clear HC
      generalize mT (1 + 2 * i) = T0 at *
      have HS0 : Hid (BoxM w g (i * 2) T0 (1 + 2 * (i : Int) + 1) wr) := hid_intro ⟨HB.out, by have := HB.out.size; have := HP.out.lt; omega, q0, q1⟩
      have HS1 := hid_intro HS0.out.drew
      go_wp2_with fail
      go_region_held3 (fun w' => Below w.heap.size w w' ∧ g < w'.heap.size ∧ w'.cell? ⟨g, i * 2, none⟩ = some (.string T0) ∧ w'.cell? ⟨g, i * 2 + 1, none⟩ = some (.int .i64 (1 + 2 * (i : Int) + 1))) (first | assumption | (exact HS0.out) | (exact HS1.out) | (exact BoxM.below (w := w) (g := g) (o := i * 2) (t0 := T0) (n := 1 + 2 * (i : Int) + 1) (by assumption) hb))
        (first | (go_at_call 54; refine (HT0.out _).mono ?_; rintro e w' ⟨rfl, hb⟩))
      rename_i hS
      replace HS0 := hid_intro hS
      have q0 := HS0.out.2.2.1
      have q1 := HS0.out.2.2.2
      clear hS HS1
      have HB2 := hid_intro HS0.out.1
      go_wp2_with fail
      go_roundw
      case rel => exact ⟨i + 1, by go_num, by go_num, by omega, HB2⟩
      case measure => simp [intOf]; omega
set_option maxHeartbeats 4000000 in
theorem marks_nil (ao : Option Addr) (cap : Nat) (w : World) : Calls Tryz.prog 57 #[.slice ao 0 cap, .int .i64 1] w fun e w' => e = .returned (.int .i64 1) ∧ Below w.heap.size w w' := by
  go_enter Tryz.func57, Tryz.ntmps57
  go_wp2_with fail
  go_loopw [5, 1] (fun x z wr => x = .int .i64 0 ∧ z = .int .i64 1 ∧ Hid (Below w.heap.size w wr)) (fun x _ _ => 0)
  case atStart => exact ⟨rfl, rfl, hid_intro (Below.refl _ _)⟩
  case round =>
    obtain ⟨rfl, rfl, HB⟩ := hrel
    go_wp2_with fail
    go_ret
    exact ⟨rfl, HB.out⟩
set_option maxHeartbeats 4000000 in
theorem held_nil (ao : Option Addr) (cap : Nat) (w : World) : Calls Tryz.prog 58 #[.slice ao 0 cap, .int .i64 1] w fun e w' => e = .returned (.int .i64 1) ∧ Below w.heap.size w w' := by
  go_enter Tryz.func58, Tryz.ntmps58
  go_wp2_with fail
  go_loopw [5, 1] (fun x z wr => x = .int .i64 0 ∧ z = .int .i64 1 ∧ Hid (Below w.heap.size w wr)) (fun x _ _ => 0)
  case atStart => exact ⟨rfl, rfl, hid_intro (Below.refl _ _)⟩
  case round =>
    obtain ⟨rfl, rfl, HB⟩ := hrel
    go_wp2_with fail
    go_ret
    exact ⟨rfl, HB.out⟩
/-- The marks stand in the list. -/
def Mkd (ao : Option Addr) (n : Nat) (w : World) : Prop := n = 0 ∨ ∃ g, ao = some ⟨g, 0, none⟩ ∧ Pt g (n * 2) w ∧ Wr mC (n * 2) g w
theorem Mkd.below {ao : Option Addr} {n : Nat} {w w' : World} (h : Mkd ao n w) (hb : Below w.heap.size w w') : Mkd ao n w' := by
  rcases h with h | ⟨g, rfl, hp, hm⟩
  · exact .inl h
  · exact .inr ⟨g, rfl, hp.below hb, hm.below hp hb⟩
theorem heldL (ao : Option Addr) (n cap : Nat) (w : World) (hn : n ≤ 1048576) (h : Mkd ao n w) :
    Calls Tryz.prog 58 #[.slice ao n cap, .int .i64 1] w fun e w' => e = .returned (.int .i64 (1 + 2 * n : Nat)) ∧ Below w.heap.size w w' := by
  rcases h with rfl | ⟨g, rfl, hp, hm⟩
  · exact held_nil ao cap w
  · exact held_any g n cap w hn hp hm
theorem markL (base : Nat) (ao : Option Addr) (l : List N) (cap : Nat) (w : World) (top : Nat) (hn : l.length ≤ 1048576) (h : MadeG 2 N.cells N.zero base ao l w) (ht : l.length = 0 ∨ ∀ g, ao = some ⟨g, 0, none⟩ → g < top) :
    Calls Tryz.prog 57 #[.slice ao l.length cap, .int .i64 1] w fun e w' => e = .returned (.int .i64 (1 + 2 * l.length : Nat)) ∧ Mkd ao l.length w' ∧ ∃ g, w.grownBy w' g ∧ ∀ x, g = some x → base ≤ x ∧ x < top := by
  rcases Nat.eq_zero_or_pos l.length with h0 | h0
  · rw [h0]
    exact (marks_nil ao cap w).mono fun e w' h => ⟨h.1, .inl rfl, none, rgrown h.2 _, by simp⟩
  · obtain ⟨g, rfl, hg, hp⟩ := h.own.resolve_left (by omega)
    have htp := ht.resolve_left (by omega) g rfl
    exact (marks_any g l.length cap w hn hp).mono fun e w' h => ⟨h.1, .inr ⟨g, rfl, h.2.1, h.2.2.1⟩, some g, h.2.2.2, fun x hx => by cases hx; exact ⟨hg, htp⟩⟩
end LinR
end Go.Proofs.YtcilbmhkhllmjaaGreatDoor
namespace Go.Proofs.YtcilbmhkhllmjaaGreatDoor
open Go.ChangeShapes Go.WideShapes Go.ChangeAt Go.RowKit
set_option linter.unusedVariables false
namespace LinR
open RowG LtR
open NameR (nameB)
/-- May this be a number, may this be a line? -/
def nOk (n : Int) : Bool := decide (-1000000000000000 ≤ n ∧ n ≤ 1000000000000000)
def lOk (x : N) : Bool := nameB x.i && (nOk x.n && decide (x.n ≠ 0))
/-- The Meter ahead, none ahead of the first. -/
def ahd (es : List N) : Nat → ByteArray
  | 0 => ⟨#[]⟩
  | k + 1 => (es.getD k N.zero).i
def SOk (es : List N) (k : Nat) : Prop := ∀ i, i < k → lt (ahd es i) (es.getD i N.zero).i = true ∧ lOk (es.getD i N.zero) = true
def SRight (es : List N) : Prop := es.length ≤ 6 ∧ SOk es es.length
def SOkDec (es : List N) (k : Nat) : Decidable (SOk es k) := inferInstanceAs (Decidable (∀ i, i < k → lt (ahd es i) (es.getD i N.zero).i = true ∧ lOk (es.getD i N.zero) = true))
def SRightDec (es : List N) : Decidable (SRight es) :=
  haveI := SOkDec es es.length
  inferInstanceAs (Decidable (es.length ≤ 6 ∧ SOk es es.length))
/-- Are these right lines? -/
def sB (es : List N) : Bool := @decide (SRight es) (SRightDec es)
theorem sB_no {es : List N} (h : ¬ SRight es) : sB es = false := by unfold sB; exact @decide_eq_false _ (SRightDec es) h
theorem sB_yes {es : List N} (h : SRight es) : sB es = true := by unfold sB; exact @decide_eq_true _ (SRightDec es) h
theorem sB_iff {es : List N} : sB es = true ↔ SRight es := by unfold sB; exact @decide_eq_true_iff _ (SRightDec es)
theorem SOk.zero (es : List N) : SOk es 0 := fun i h => absurd h (by omega)
theorem SOk.more {es : List N} {k : Nat} (h : SOk es k) (h1 : lt (ahd es k) (es.getD k N.zero).i = true) (h2 : lOk (es.getD k N.zero) = true) : SOk es (k + 1) := by
  intro i hi
  by_cases e : i = k
  · subst e; exact ⟨h1, h2⟩
  · exact h i (by omega)
theorem sB_false {es : List N} {k : Nat} (hk : k < es.length) (h : ¬ (lt (ahd es k) (es.getD k N.zero).i = true ∧ lOk (es.getD k N.zero) = true)) : sB es = false := sB_no (fun hr => h (hr.2 k hk))
theorem sB_long {es : List N} (h : 6 < es.length) : sB es = false := sB_no (fun hr => by have := hr.1; omega)
theorem name_pos {s : ByteArray} (h : nameB s = true) : 1 ≤ s.size := by
  unfold nameB at h
  simp at h
  exact h.1
theorem three (b1 b2 b3 : Bool) : (b1 = false) ∨ (b1 = true ∧ b2 = false) ∨ (b1 = true ∧ b2 = true ∧ b3 = false) ∨ (b1 = true ∧ b2 = true ∧ b3 = true) := by
  cases b1 <;> cases b2 <;> cases b3 <;> simp
theorem num_cases (n : Int) : (¬ -1000000000000000 ≤ n ∧ nOk n = false) ∨ (-1000000000000000 ≤ n ∧ ¬ n ≤ 1000000000000000 ∧ nOk n = false) ∨ (-1000000000000000 ≤ n ∧ n ≤ 1000000000000000 ∧ nOk n = true) := by
  unfold nOk
  rcases (show (¬ -1000000000000000 ≤ n) ∨ (-1000000000000000 ≤ n ∧ ¬ n ≤ 1000000000000000) ∨ (-1000000000000000 ≤ n ∧ n ≤ 1000000000000000) by omega) with h | ⟨h, h2⟩ | ⟨h, h2⟩
  · exact .inl ⟨h, decide_eq_false (fun q => h q.1)⟩
  · exact .inr (.inl ⟨h, h2, decide_eq_false (fun q => h2 q.2)⟩)
  · exact .inr (.inr ⟨h, h2, decide_eq_true ⟨h, h2⟩⟩)
theorem inum (n : Int) (w : World) : Calls Tryz.prog 71 #[.int .i64 n] w fun e w' => e = .returned (.bool (nOk n)) ∧ w' = w := by
  rcases num_cases n with ⟨h1, h2⟩ | ⟨h1, h3, h2⟩ | ⟨h1, h3, h2⟩
  all_goals
    rw [h2]
    clear h2
    go_enter Tryz.func71, Tryz.ntmps71
    go_wp2_with (go_at_call 66; go_in)
    go_ret
    exact ⟨rfl, rfl⟩
theorem snum (n : Int) (w : World) : Calls Tryz.prog 72 #[.int .i64 n] w fun e w' => e = .returned (.bool (nOk n)) ∧ w' = w := by
  rcases num_cases n with ⟨h1, h2⟩ | ⟨h1, h3, h2⟩ | ⟨h1, h3, h2⟩
  all_goals
    rw [h2]
    clear h2
    go_enter Tryz.func72, Tryz.ntmps72
    go_wp2_with (go_at_call 69; go_in)
    go_ret
    exact ⟨rfl, rfl⟩
theorem bdrewN {B : Nat} {a w : World} (h : Below B a w) (n : Nat) : Below B a (w.drewN n) := ⟨h.os, h.tape, h.output, h.size, h.block⟩
theorem le_ge1 {x a : ByteArray} (h : Op.bytesLess x.toList a.toList = true) : Op.bytesLess a.toList x.toList = false := lt_asymm h
/-- One text against another, as the walk asks it. -/
theorem le_cases (x a : ByteArray) : (Op.bytesLess x.toList a.toList = true ∧ lt a x = false) ∨ (Op.bytesLess x.toList a.toList = false ∧ x.toList = a.toList ∧ (x.toList == a.toList) = true ∧ lt a x = false) ∨ (Op.bytesLess x.toList a.toList = false ∧ x.toList ≠ a.toList ∧ (x.toList == a.toList) = false ∧ lt a x = true) := by
  cases h : lt x a
  · by_cases e : x = a
    · subst e; exact .inr (.inl ⟨h, rfl, by simp, h⟩)
    · have ne : x.toList ≠ a.toList := fun q => e (toList_inj q)
      refine .inr (.inr ⟨h, ne, by simpa using ne, ?_⟩)
      cases h2 : lt a x
      · exact absurd (lt_total h h2) e
      · rfl
  · exact .inl ⟨h, lt_asymm h⟩
/-- A number is none, or it is one. -/
theorem nil_cases (n : Int) : ((n == 0) = true ∧ decide (n ≠ 0) = false) ∨ ((n == 0) = false ∧ decide (n ≠ 0) = true) := by
  by_cases h : n = 0
  · exact .inl ⟨by simpa using h, by simpa using h⟩
  · exact .inr ⟨by simpa using h, by simpa using h⟩
set_option maxRecDepth 100000 in
set_option maxHeartbeats 4000000 in
theorem impl_lines (ao : Option Addr) (cap : Nat) (es : List N) (w : World) (hlen : es.length ≤ 1048576) (hS : ∀ e ∈ es, e.i.size ≤ 1048576) (hI : Lis ao es w) :
    Calls Tryz.prog 27 #[.slice ao es.length cap] w fun e w' => e = .returned (.bool (sB es)) ∧ Below w.heap.size w w' := by
  by_cases h40 : 6 < es.length
  · have HR := hid_intro (sB_long h40)
    obtain ⟨len, hl⟩ : ∃ len, len = es.length := ⟨_, rfl⟩
    rw [← hl] at hlen h40 ⊢
    have h40' : (6 : Int) < (len : Int) := by omega
    clear hI hS hl
    go_enter Tryz.func27, Tryz.ntmps27
    go_wp2_with fail
    go_ret
    exact ⟨ret_bool HR.out.symm, Below.refl _ _⟩
  · have HT0 := hid_intro (fun k (hk : k < es.length) => sB_false (es := es) hk)
    have HTE := hid_intro (fun h => sB_yes (es := es) ⟨by omega, h⟩)
    have HI := hid_intro hI
    have HS := hid_intro hS
    obtain ⟨len, hl⟩ : ∃ len, len = es.length := ⟨_, rfl⟩
    rw [← hl] at hlen h40 ⊢
    have HL := hid_intro hl
    have h40' : ¬ (6 : Int) < (len : Int) := by omega
    clear hI hS hl
    generalize sB es = R at *
    go_enter Tryz.func27, Tryz.ntmps27
    go_wp2_with fail
    go_loopw [3, 11] (fun x z wr => ∃ k : Nat, k ≤ len ∧ x = .string (ahd es k) ∧ z = .int .i64 k ∧ Hid (SOk es k) ∧ Hid (Below w.heap.size w wr)) (fun x z _ => len - (intOf z).toNat)
    case atStart => exact ⟨0, by omega, rfl, rfl, hid_intro (SOk.zero es), hid_intro (Below.refl _ _)⟩
    case round =>
      obtain ⟨k, hk, rfl, rfl, HK, HB⟩ := hrel
      by_cases hlt : k < len
      · have hlt2 : (k : Int) < (len : Int) := by omega
        obtain ⟨b, off, rfl, hbl, c0, c1⟩ := (HI.out.below HB.out).at k (by have := HL.out; omega)
        have hsz := HS.out _ (getD_mem (z := N.zero) es k (by have := HL.out; omega))
        have HM := hid_intro (fun h1 h2 => HK.out.more (k := k) h1 h2)
        have HF := hid_intro (HT0.out k (by have := HL.out; omega))
        have HA : Hid (ahd es (k + 1) = (es.getD k N.zero).i) := rfl
        generalize ahd es k = a at *
        generalize es.getD k N.zero = X at *
        obtain ⟨xi, xn⟩ := X
        have HA : Hid (ahd es (k + 1) = xi) := HA
        have H1 := hid_intro (fun w => NameR.impl_any xi w hsz)
        have H2 := hid_intro (fun w => inum xn w)
        have HE : Hid (lOk ⟨xi, xn⟩ = (nameB xi && (nOk xn && decide (xn ≠ 0)))) := rfl
        dsimp only at HM HF c0 c1
        generalize lOk ⟨xi, xn⟩ = r at *
        have HAl := hid_intro (fun o => HB.out.alloc HB.out.size o)
        rcases le_cases xi a with ⟨q1, q2⟩ | ⟨q1, q3, q4, q2⟩ | ⟨q1, q3, q4, q2⟩
        · have HR : Hid (R = false) := hid_intro (HF.out (fun h => by rw [q2] at h; exact absurd h.1 (by simp)))
          clear HM HF q2
          go_wp2_with fail
          go_ret
          exact ⟨ret_bool HR.out.symm, HAl.out _⟩
        · have HR : Hid (R = false) := hid_intro (HF.out (fun h => by rw [q2] at h; exact absurd h.1 (by simp)))
          clear HM HF q2
          go_wp2_with fail
          go_ret
          exact ⟨ret_bool HR.out.symm, HAl.out _⟩
        · generalize nameB xi = b1 at *
          generalize nOk xn = b2 at *
          have hz := nil_cases xn
          generalize decide (xn ≠ 0) = b3 at *
          cases b1
          · have HR : Hid (R = false) := hid_intro (HF.out (fun h => by rw [HE.out] at h; exact absurd h.2 (by simp)))
            clear HM HF q2 HE hz
            go_wp2_with (go_at_call 42; refine (H1.out _).mono ?_; rintro e w1 ⟨rfl, rfl⟩)
            go_ret
            exact ⟨ret_bool HR.out.symm, HAl.out _⟩
          rcases hz with ⟨hz, rfl⟩ | ⟨hz, rfl⟩
          · have HR : Hid (R = false) := hid_intro (HF.out (fun h => by rw [HE.out] at h; exact absurd h.2 (by simp)))
            clear HM HF q2 HE
            go_wp2_with (go_at_call 42; refine (H1.out _).mono ?_; rintro e w1 ⟨rfl, rfl⟩)
            go_ret
            exact ⟨ret_bool HR.out.symm, HAl.out _⟩
          cases b2
          · have HR : Hid (R = false) := hid_intro (HF.out (fun h => by rw [HE.out] at h; exact absurd h.2 (by simp)))
            clear HM HF q2 HE
            go_wp2_with (first | (go_at_call 42; refine (H1.out _).mono ?_; rintro e w1 ⟨rfl, rfl⟩) | (go_at_call 71; refine (H2.out _).mono ?_; rintro e w1 ⟨rfl, rfl⟩))
            go_ret
            exact ⟨ret_bool HR.out.symm, HAl.out _⟩
          · replace HM := hid_intro (HM.out q2 (by rw [HE.out]; rfl))
            clear HF q2 HE
            go_wp2_with (first | (go_at_call 42; refine (H1.out _).mono ?_; rintro e w1 ⟨rfl, rfl⟩) | (go_at_call 71; refine (H2.out _).mono ?_; rintro e w1 ⟨rfl, rfl⟩))
            go_roundw
            case rel => exact ⟨k + 1, by omega, by rw [HA.out], by go_num, HM, hid_intro (HAl.out _)⟩
            case measure => simp [intOf]; omega
      · have hlt2 : ¬ (k : Int) < (len : Int) := by omega
        obtain rfl : k = len := by omega
        have HR : Hid (R = true) := hid_intro (HTE.out (by rw [← HL.out]; exact HK.out))
        go_wp2_with fail
        go_ret
        exact ⟨ret_bool HR.out.symm, HB.out⟩
set_option maxRecDepth 100000 in
set_option maxHeartbeats 4000000 in
theorem spec_lines (ao : Option Addr) (cap : Nat) (es : List N) (w : World) (hlen : es.length ≤ 1048576) (hS : ∀ e ∈ es, e.i.size ≤ 1048576) (hI : Lis ao es w) :
    Calls Tryz.prog 28 #[.slice ao es.length cap] w fun e w' => e = .returned (.bool (sB es)) ∧ Below w.heap.size w w' := by
  have HT0 := hid_intro (fun k (hk : k < es.length) => sB_false (es := es) hk)
  have HTE : Hid (SOk es es.length → sB es = decide (es.length ≤ 6)) := hid_intro (fun h => by
    by_cases e : es.length ≤ 6
    · rw [decide_eq_true e]; exact sB_yes ⟨e, h⟩
    · rw [decide_eq_false e]; exact sB_no (fun hr => e hr.1))
  have HI := hid_intro hI
  have HS := hid_intro hS
  obtain ⟨len, hl⟩ : ∃ len, len = es.length := ⟨_, rfl⟩
  rw [← hl] at hlen ⊢
  have HL := hid_intro hl
  clear hI hS hl
  generalize sB es = R at *
  go_enter Tryz.func28, Tryz.ntmps28
  go_wp2_with fail
  go_loopw [3] (fun z wr => ∃ k : Nat, k ≤ len ∧ z = .int .i64 k ∧ Hid (SOk es k) ∧ Hid (Below w.heap.size w wr)) (fun z _ => len - (intOf z).toNat)
  case atStart => exact ⟨0, by omega, rfl, hid_intro (SOk.zero es), hid_intro (Below.refl _ _)⟩
  case round =>
    obtain ⟨k, hk, rfl, HK, HB⟩ := hrel
    by_cases hlt : k < len
    · have hlt2 : (k : Int) < (len : Int) := by omega
      obtain ⟨b, off, rfl, hbl, c0, c1⟩ := (HI.out.below HB.out).at k (by have := HL.out; omega)
      have hsz := HS.out _ (getD_mem (z := N.zero) es k (by have := HL.out; omega))
      have HM := hid_intro (fun h1 h2 => HK.out.more (k := k) h1 h2)
      have HF := hid_intro (HT0.out k (by have := HL.out; omega))
      rcases (show k = 0 ∨ ∃ j, k = j + 1 from by rcases k with _ | j; exact .inl rfl; exact .inr ⟨j, rfl⟩) with rfl | ⟨j, hkj⟩
      · have HA : Hid (ahd es 0 = ⟨#[]⟩) := rfl
        simp only [Nat.zero_mul, Nat.add_zero] at c0 c1
        generalize ahd es 0 = a at *
        generalize es.getD 0 N.zero = X at *
        obtain ⟨xi, xn⟩ := X
        have H1 := hid_intro (fun w => NameR.spec_any xi w hsz)
        have H2 := hid_intro (fun w => snum xn w)
        have HP := hid_intro (name_pos (s := xi))
        have HE : Hid (lOk ⟨xi, xn⟩ = (nameB xi && (nOk xn && decide (xn ≠ 0)))) := rfl
        dsimp only at HM HF c0 c1 hsz
        generalize lOk ⟨xi, xn⟩ = r at *
        generalize nameB xi = b1 at *
        generalize nOk xn = b2 at *
        have hz := nil_cases xn
        generalize decide (xn ≠ 0) = b3 at *
        cases b1
        · clear hz
          have HR : Hid (R = false) := hid_intro (HF.out (fun h => by rw [HE.out] at h; exact absurd h.2 (by simp)))
          clear HM HF HP HE
          go_wp2_with fail
          go_quiet ((first | (go_at_call 35; exact Calls.quiet_of_same (H1.out _)) | (go_at_call 72; exact Calls.quiet_of_same (H2.out _))))
          go_wp2_with fail
          go_ret
          exact ⟨ret_bool HR.out.symm, bdrewN HB.out _⟩
        cases b2
        · clear hz
          have HR : Hid (R = false) := hid_intro (HF.out (fun h => by rw [HE.out] at h; exact absurd h.2 (by simp)))
          clear HM HF HP HE
          go_wp2_with fail
          go_quiet ((first | (go_at_call 35; exact Calls.quiet_of_same (H1.out _)) | (go_at_call 72; exact Calls.quiet_of_same (H2.out _))))
          go_wp2_with fail
          go_ret
          exact ⟨ret_bool HR.out.symm, bdrewN HB.out _⟩
        rcases hz with ⟨hz, rfl⟩ | ⟨hz, rfl⟩
        · skip
          have HR : Hid (R = false) := hid_intro (HF.out (fun h => by rw [HE.out] at h; exact absurd h.2 (by simp)))
          clear HM HF HP HE
          go_wp2_with fail
          go_quiet ((first | (go_at_call 35; exact Calls.quiet_of_same (H1.out _)) | (go_at_call 72; exact Calls.quiet_of_same (H2.out _))))
          go_wp2_with fail
          go_ret
          exact ⟨ret_bool HR.out.symm, bdrewN HB.out _⟩
        · skip
          have HM2 := hid_intro (HM.out (by rw [HA.out]; exact lt_empty (HP.out rfl)) (by rw [HE.out]; rfl))
          clear HM HF HP HE
          go_wp2_with fail
          go_quiet ((first | (go_at_call 35; exact Calls.quiet_of_same (H1.out _)) | (go_at_call 72; exact Calls.quiet_of_same (H2.out _))))
          go_wp2_with fail
          go_roundw
          case rel => exact ⟨0 + 1, by omega, by go_num, HM2, hid_intro (bdrewN HB.out _)⟩
          case measure => simp [intOf]; omega
      · obtain ⟨b', off', hbo, hbl', d0, d1⟩ := (HI.out.below HB.out).at j (by have := HL.out; omega)
        obtain ⟨rfl, rfl⟩ : b = b' ∧ off = off' := by simpa using hbo
        have HA : Hid (ahd es k = (es.getD j N.zero).i) := hid_intro (by rw [hkj]; rfl)
        generalize es.getD j N.zero = Y at *
        obtain ⟨yi, yn⟩ := Y
        have HA : Hid (ahd es k = yi) := HA
        clear d1 hbl' hbo
        generalize ahd es k = a at *
        generalize es.getD k N.zero = X at *
        obtain ⟨xi, xn⟩ := X
        have H1 := hid_intro (fun w => NameR.spec_any xi w hsz)
        have H2 := hid_intro (fun w => snum xn w)
        have HE : Hid (lOk ⟨xi, xn⟩ = (nameB xi && (nOk xn && decide (xn ≠ 0)))) := rfl
        dsimp only at HM HF c0 c1 d0 hsz
        generalize lOk ⟨xi, xn⟩ = r at *
        generalize nameB xi = b1 at *
        generalize nOk xn = b2 at *
        have hz := nil_cases xn
        generalize decide (xn ≠ 0) = b3 at *
        have hj1 : IntKind.i64.wrap ((k : Int) - 1) = (j : Int) := by rw [IntKind.wrap_i64]; omega
        have hj2 : 0 < k := by omega
        have hj3 : (j : Int) < (len : Int) := by omega
        clear hkj
        cases b1
        · clear hz
          have HR : Hid (R = false) := hid_intro (HF.out (fun h => by rw [HE.out] at h; exact absurd h.2 (by simp)))
          clear HM HF HE
          go_wp2_with fail
          go_quiet ((first | (go_at_call 35; exact Calls.quiet_of_same (H1.out _)) | (go_at_call 72; exact Calls.quiet_of_same (H2.out _))))
          go_wp2_with fail
          go_ret
          exact ⟨ret_bool HR.out.symm, bdrewN HB.out _⟩
        rcases le_cases xi yi with ⟨q1, q2⟩ | ⟨q1, q3, q4, q2⟩ | ⟨q1, q3, q4, q2⟩
        · clear hz
          have HR : Hid (R = false) := hid_intro (HF.out (fun h => by rw [HA.out, q2] at h; exact absurd h.1 (by simp)))
          have q5 := le_ge1 q1
          clear HM HF HE q2
          go_wp2_with fail
          go_quiet ((first | (go_at_call 35; exact Calls.quiet_of_same (H1.out _)) | (go_at_call 72; exact Calls.quiet_of_same (H2.out _))))
          go_wp2_with fail
          go_ret
          exact ⟨ret_bool HR.out.symm, bdrewN HB.out _⟩
        · clear hz
          have HR : Hid (R = false) := hid_intro (HF.out (fun h => by rw [HA.out, q2] at h; exact absurd h.1 (by simp)))
          obtain rfl := toList_inj q3
          have q5 : Op.bytesLess xi.toList xi.toList = false := q1
          clear HM HF HE q2 q3 q4
          go_wp2_with fail
          go_quiet ((first | (go_at_call 35; exact Calls.quiet_of_same (H1.out _)) | (go_at_call 72; exact Calls.quiet_of_same (H2.out _))))
          go_wp2_with fail
          go_ret
          exact ⟨ret_bool HR.out.symm, bdrewN HB.out _⟩
        have q5 : Op.bytesLess yi.toList xi.toList = true := q2
        cases b2
        · clear hz
          have HR : Hid (R = false) := hid_intro (HF.out (fun h => by rw [HE.out] at h; exact absurd h.2 (by simp)))
          clear HM HF HE q2
          go_wp2_with fail
          go_quiet ((first | (go_at_call 35; exact Calls.quiet_of_same (H1.out _)) | (go_at_call 72; exact Calls.quiet_of_same (H2.out _))))
          go_wp2_with fail
          go_ret
          exact ⟨ret_bool HR.out.symm, bdrewN HB.out _⟩
        rcases hz with ⟨hz, rfl⟩ | ⟨hz, rfl⟩
        · skip
          have HR : Hid (R = false) := hid_intro (HF.out (fun h => by rw [HE.out] at h; exact absurd h.2 (by simp)))
          clear HM HF HE q2
          go_wp2_with fail
          go_quiet ((first | (go_at_call 35; exact Calls.quiet_of_same (H1.out _)) | (go_at_call 72; exact Calls.quiet_of_same (H2.out _))))
          go_wp2_with fail
          go_ret
          exact ⟨ret_bool HR.out.symm, bdrewN HB.out _⟩
        · skip
          have HM2 := hid_intro (HM.out (by rw [HA.out]; exact q2) (by rw [HE.out]; rfl))
          clear HM HF HE q2
          go_wp2_with fail
          go_quiet ((first | (go_at_call 35; exact Calls.quiet_of_same (H1.out _)) | (go_at_call 72; exact Calls.quiet_of_same (H2.out _))))
          go_wp2_with fail
          go_roundw
          case rel => exact ⟨k + 1, by omega, by go_num, HM2, hid_intro (bdrewN HB.out _)⟩
          case measure => simp [intOf]; omega
    · have hlt2 : ¬ (k : Int) < (len : Int) := by omega
      obtain rfl : k = len := by omega
      have HR : Hid (R = decide (k ≤ 6)) := hid_intro (by have e := HL.out; have h := HTE.out; rw [← e] at h; exact h HK.out)
      by_cases h40 : k ≤ 6
      · have h40' : (k : Int) ≤ 6 := by omega
        rw [decide_eq_true h40] at HR
        go_wp2_with fail
        go_ret
        exact ⟨ret_bool HR.out.symm, HB.out⟩
      · have h40' : ¬ (k : Int) ≤ 6 := by omega
        rw [decide_eq_false h40] at HR
        go_wp2_with fail
        go_ret
        exact ⟨ret_bool HR.out.symm, HB.out⟩
end LinR
end Go.Proofs.YtcilbmhkhllmjaaGreatDoor
namespace Go.Proofs.YtcilbmhkhllmjaaGreatDoor
open Go.ChangeShapes Go.WideShapes Go.ChangeAt Go.RowKit
set_option linter.unusedVariables false
namespace CloneR
theorem hid_intro {p : Prop} (h : p) : Hid p := h
theorem info8 : (Tryz.prog.info? 5).map (fun i => (i.zero, i.size, i.bytes)) = some (some (.int .u8 0), 1, 1) := by kernel_rfl
set_option maxHeartbeats 4000000 in
set_option maxRecDepth 100000 in
theorem lite_any (s : ByteArray) (w : World) (hlim : s.size ≤ 281474976710656) :
    Calls Tryz.prog 138 #[.string s] w fun e w' => e = .returned (.string s) ∧ Below w.heap.size w w' := by
  by_cases h0 : s.size = 0
  · obtain rfl : s = ⟨#[]⟩ := ByteArray.ext (Array.eq_empty_of_size_eq_zero h0)
    go_enter Tryz.func138, Tryz.ntmps138
    go_wp2
    go_ret
    exact ⟨rfl, Below.refl _ _⟩
  · obtain ⟨i0, hi, hz0, hz1, hz2⟩ := info_parts info8
    have hone : (Tryz.prog.info? 5).map (·.size) = some 1 := by rw [hi]; simp [hz1]
    have hcells : Tryz.prog.cellsOf 5 = 1 := by simp [Program.cellsOf, hi, hz1]
    obtain ⟨M, hM⟩ : ∃ M, M = madeCells (Value.int .u8 0).cells (((s.size : Nat) : Int).toNat * i0.size) := ⟨_, rfl⟩
    have hMs : M.size = s.size := by rw [hM, size_madeCells, hz1]; simp
    have hmake : ∀ W : World, (Instr.makeSlice 47 (.int .i64 (s.size : Int)) (.int .i64 (s.size : Int))).run Tryz.prog W = .ok (.slice (some ⟨W.heap.size, 0, none⟩) s.size s.size) (W.alloc (.cells M 5)) := fun W => by
      have h := run_make (P := Tryz.prog) W 47 5 i0 (.int .u8 0) Tryz.underlying47 hi hz0 .i64 .i64 (s.size : Int) (s.size : Int) (by omega) (by omega) (by rw [hz2]; omega) (by omega)
      rw [← hM] at h
      simpa using h
    clear hM
    have hcopy := Lib.run_copy_row_string (P := Tryz.prog) (w.alloc (.cells M 5)) 47 9 3 5 w.heap.size 0 s.size s.size s M 5 Tryz.underlying47 hone (heap_alloc_new w _) (Nat.le_refl _) (by omega)
    obtain ⟨Y, hY⟩ : ∃ Y, Y = (M.toList.take 0 ++ Lib.byteCells s.data.toList ++ M.toList.drop (0 + s.size)).toArray := ⟨_, rfl⟩
    rw [← hY] at hcopy
    have hYl : Y.toList = Lib.byteCells s.data.toList := by
      rw [hY, List.toList_toArray, List.take_zero, List.nil_append, List.drop_of_length_le (by rw [Array.length_toList]; omega), List.append_nil]
    have hYs : Y.size = s.size := by rw [← Array.length_toList, hYl, Lib.byteCells_length, ← Lib.size_eq]
    have hg : ((w.alloc (.cells M 5)).setRow w.heap.size Y).heap[w.heap.size]? = some (.cells Y 5 (0, 0)) := setRow_heap _ _ M _ 5 (0, 0) (heap_alloc_new w _)
    have hne : s.data.toList ≠ [] := fun e => h0 (by rw [Lib.size_eq, e]; rfl)
    have hstr := Lib.run_unsafeString_row (P := Tryz.prog) ((w.alloc (.cells M 5)).setRow w.heap.size Y) 235 3 9 5 Tryz.underlying235 hcells w.heap.size Y.size (by unfold World.shape?; rw [hg]) s.data.toList hne (by rw [← Lib.size_eq]; omega) (by rw [← Lib.size_eq]; omega)
      (fun j x hx => Lib.cells_of_row hg Y.size j _ (by rw [List.take_of_length_le (by rw [Array.length_toList]; exact Nat.le_refl _), hYl]; simp [Lib.byteCells, hx]))
    rw [← Lib.size_eq] at hstr
    clear hY
    go_enter Tryz.func138, Tryz.ntmps138
    go_wp2
    go_ret
    have b1 : Below w.heap.size w (w.alloc (.cells M 5)) := (Below.refl _ w).alloc (Nat.le_refl _) _
    have b2 : Below w.heap.size (w.alloc (.cells M 5)) ((w.alloc (.cells M 5)).setRow w.heap.size Y) := ⟨rfl, rfl, rfl, by simp, fun k hk => setRow_other _ _ _ _ (by omega)⟩
    exact ⟨rfl, Lib.below_freeze (b1.trans b2) (p := ⟨w.heap.size, 0, none⟩) (Nat.le_refl _) _⟩
theorem clone_any (s : ByteArray) (w : World) (hlim : s.size ≤ 281474976710656) :
    Calls Tryz.prog 109 #[.string s] w fun e w' => e = .returned (.string s) ∧ Below w.heap.size w w' := by
  have H := hid_intro (fun w => lite_any s w hlim)
  go_enter Tryz.func109, Tryz.ntmps109
  go_wp2_with (go_at_call 138; refine (H.out _).mono ?_; rintro e w1 ⟨rfl, hb⟩)
  go_ret
  exact ⟨rfl, hb⟩
end CloneR
end Go.Proofs.YtcilbmhkhllmjaaGreatDoor
namespace Go.Proofs.YtcilbmhkhllmjaaGreatDoor
open Go.ChangeShapes Go.WideShapes Go.ChangeAt Go.RowKit
set_option linter.unusedVariables false
namespace LinR
open RowG LtR
/-- append to a list of one's own, as one step of a region that draws. -/
theorem step_append_own {P : Program} {w : World} {ops : Array Oper} {o : Oper} {a : Act} {K : Act → World → Prop} {Q : Exit → Act → World → Prop} {E : Prop} (hgd : o.guard = none) (s x : Operand) (t : TypeId)
    (ho : o.op = .call { callee := .builtin .append, args := #[s, x], argTypes := #[t, t] })
    (base : Nat) (e : TypeId) (i : TypeInfo) (z : Value) (size bytes : Nat) (ht : P.underlying t = some (.slice e)) (hi : P.info? e = some i) (hz : i.zero = some z)
    (hsize : i.size = size) (hby : i.bytes = bytes) (hzs : z.cells.size = size) (hsz : 0 < size)
    (v : Value) (n : Nat) (xs : List Value) (hs : a.eval s = v) (hown : w.ownsRow base e size v n xs)
    (ad : Addr) (m c : Nat) (news : List Value) (hx : a.eval x = .slice (some ad) m c) (hl : news.length = m * size) (hnews : ∀ j u, news[j]? = some u → w.cell? (ad.add j) = some u) (h1 : ∀ u ∈ news, u.oneCell' = true)
    (h63 : n + m ≤ maxLen) (hbytes : (n + m) * bytes ≤ 140737488355328) (hbase : base ≤ w.heap.size)
    (h : ∀ v' w', w'.ownsRow base e size v' (n + m) (xs ++ news) → w.grownBy w' v.ownBlock → (v' = .slice none 0 0 ↔ v = .slice none 0 0 ∧ m = 0) → K (a.put o.dst v') w') : if Region.wanted o (yielded ops a.tmps) = true then Oper.wp P o a w K Q else E := by
  have hw : Region.wanted o (yielded ops a.tmps) = true := by simp [Region.wanted, hgd]
  rw [if_pos hw]
  exact wp_append_own w s x t ho base e i z size bytes ht hi hz hsize hby hzs hsz v n xs hs hown ad m c news hx hl hnews h1 h63 hbytes hbase h
theorem own_drew {w : World} {base e size n : Nat} {v : Value} {xs : List Value} (h : w.ownsRow base e size v n xs) : w.drew.ownsRow base e size v n xs := h
theorem own_low {w : World} {base base' e size n : Nat} {v : Value} {xs : List Value} (h : w.ownsRow base e size v n xs) (hb : base' ≤ base) : w.ownsRow base' e size v n xs := by
  refine ⟨h.1, ?_⟩
  rcases h.2 with hn | ⟨g, cap, cur, rfl, h1, rest⟩
  · exact .inl hn
  · exact .inr ⟨g, cap, cur, rfl, by omega, rest⟩
theorem own_empty (w : World) (base e size : Nat) (hb : base ≤ w.heap.size) : (w.alloc (.cells #[] e)).ownsRow base e size (.slice (some ⟨w.heap.size, 0, none⟩) 0 0) 0 [] :=
  World.ownsRow_made w #[] 0 hb (by unfold maxLen; omega) (by simp)
/-- What is held while a line is put. -/
def BM2 (w : World) (B : Nat) (a0 a1 : Value) (W : World) : Prop := Below w.heap.size w W ∧ B < W.heap.size ∧ W.cell? ⟨B, 0, none⟩ = some a0 ∧ W.cell? ⟨B, 1, none⟩ = some a1
theorem BM2.below {w : World} {B : Nat} {a0 a1 : Value} {W W' : World} (h : BM2 w B a0 a1 W) (hb : Below W.heap.size W W') : BM2 w B a0 a1 W' := by
  obtain ⟨h0, l1, p0, p1⟩ := h
  have f := fun o => hb.cell (p := ⟨B, o, none⟩) l1
  have hs := hb.size
  exact ⟨h0.trans (hb.mono h0.size), by omega, (f 0).trans p0, (f 1).trans p1⟩
theorem BM2.drew {w : World} {B : Nat} {a0 a1 : Value} {W : World} (h : BM2 w B a0 a1 W) : BM2 w B a0 a1 W.drew := ⟨h.1.drew, h.2⟩
theorem BM2.grown {w : World} {B : Nat} {a0 a1 : Value} {W W' : World} {v : Value} {wr : World} {base e size n : Nat} {xs : List Value} (h : BM2 w B a0 a1 W) (hg : W.grownBy W' v.ownBlock) (ho : wr.ownsRow base e size v n xs) (hB : B = wr.heap.size := by rfl) (hbase : w.heap.size ≤ base := by omega) : BM2 w B a0 a1 W' := by
  obtain ⟨h0, l1, p0, p1⟩ := h
  have hne : some B ≠ v.ownBlock := fun e => by have := (ho.lt B e.symm).2; omega
  have e := hg.block B l1 hne
  exact ⟨h0.grown hg h0.size (fun k e => by have := (ho.lt k e).1; omega), by have := hg.size; omega, (World.cell?_of_block (a := ⟨B, 0, none⟩) e).trans p0, (World.cell?_of_block (a := ⟨B, 1, none⟩) e).trans p1⟩
theorem two_cells (W : World) (i : ByteArray) (n : Int) (T : TypeId) : ∀ (j : Nat) u, (N.cells ⟨i, n⟩)[j]? = some u → (W.alloc (.cells #[.string i, .int .i64 n] T)).cell? ((⟨W.heap.size, 0, none⟩ : Addr).add j) = some u := by
  intro j u hx
  have hx2 : j < 2 := by
    have := (List.getElem?_eq_some_iff.1 hx).1
    simpa [N.cells] using this
  match j, hx2, hx with
  | 0, _, hx => simp [N.cells] at hx; subst hx; simp [Addr.add, go_sem]
  | 1, _, hx => simp [N.cells] at hx; subst hx; simp [Addr.add, go_sem]
theorem two_one (x : N) : ∀ u ∈ N.cells x, u.oneCell' = true := by
  intro u hu
  simp only [N.cells, List.mem_cons, List.not_mem_nil, or_false] at hu
  rcases hu with rfl | rfl <;> rfl
theorem filter_more (p : N → Bool) (xs : List N) (k : Nat) (h : k < xs.length) : (xs.take (k + 1)).filter p = (xs.take k).filter p ++ (bif p (xs.getD k N.zero) then [xs.getD k N.zero] else []) := by
  rw [take_more (z := N.zero) xs k h, List.filter_append]
  generalize xs.getD k N.zero = X
  cases hr : p X <;> simp [hr]
/-- What is not 0. -/
def nz (x : N) : Bool := decide (x.n ≠ 0)
theorem nz_cases (i : ByteArray) (n : Int) : ((n == 0) = true ∧ (n != 0) = false ∧ nz ⟨i, n⟩ = false) ∨ ((n == 0) = false ∧ (n != 0) = true ∧ nz ⟨i, n⟩ = true) := by
  unfold nz
  by_cases h : n = 0
  · exact .inl ⟨by simpa using h, by simpa using h, by simpa using h⟩
  · exact .inr ⟨by simpa using h, by simpa using h, by simpa using h⟩
set_option maxRecDepth 100000 in
set_option maxHeartbeats 4000000 in
theorem put_any (ao : Option Addr) (cap : Nat) (es : List N) (w : World) (hlen : es.length ≤ 1048576) (hS : ∀ e ∈ es, e.i.size ≤ 1048576) (hI : Lis ao es w) :
    Calls Tryz.prog 68 #[.slice ao es.length cap] w fun e w' => ∃ v, e = .returned v ∧ w'.ownsRow w.heap.size 58 2 v (es.filter nz).length (cellsAll N.cells (es.filter nz)) ∧ Below w.heap.size w w' := by
  obtain ⟨i0, hi, hz0, hz1, hz2⟩ := info_parts infoN
  have HI := hid_intro hI
  have HS := hid_intro hS
  obtain ⟨len, hl⟩ : ∃ len, len = es.length := ⟨_, rfl⟩
  rw [← hl] at hlen ⊢
  have HL := hid_intro hl
  clear hI hS hl
  go_enter Tryz.func68, Tryz.ntmps68
  go_wp2_with fail
  go_loopw [3, 8] (fun v z wr => ∃ k : Nat, k ≤ len ∧ z = .int .i64 k ∧ Hid (wr.ownsRow w.heap.size 58 2 v ((es.take k).filter nz).length (cellsAll N.cells ((es.take k).filter nz))) ∧ Hid (Below w.heap.size w wr)) (fun v z _ => len - (intOf z).toNat)
  case atStart => exact ⟨0, by omega, rfl, hid_intro (World.ownsRow_nil _ _ _ _), hid_intro (Below.refl _ _)⟩
  case round =>
    obtain ⟨k, hk, rfl, HO, HB⟩ := hrel
    by_cases hlt : k < len
    · have hlt2 : (k : Int) < (len : Int) := by omega
      obtain ⟨b, off, rfl, hbl, c0, c1⟩ := (HI.out.below HB.out).at k (by have := HL.out; omega)
      have hsz := HS.out _ (getD_mem (z := N.zero) es k (by have := HL.out; omega))
      have HF := hid_intro (filter_more nz es k (by have := HL.out; omega))
      have HLF : Hid (((es.take k).filter nz).length ≤ 1048576) := hid_intro (by
        have h1 := List.length_filter_le nz (es.take k)
        have h2 := List.length_take_le k es
        omega)
      obtain ⟨F, hF⟩ : ∃ F, F = (es.take k).filter nz := ⟨_, rfl⟩
      rw [← hF] at HO HF HLF
      clear hF
      generalize es.getD k N.zero = X at *
      obtain ⟨xi, xn⟩ := X
      dsimp only at c0 c1 hsz
      rcases nz_cases xi xn with ⟨q1, q2, q3⟩ | ⟨q1, q2, q3⟩
      · rw [q3] at HF
        go_wp2_with fail
        go_roundw
        case rel => exact ⟨k + 1, by omega, by go_num, hid_intro (by rw [HF.out, cond_false, List.append_nil]; exact HO.out.alloc _), hid_intro (HB.out.alloc HB.out.size _)⟩
        case measure => simp [intOf]; omega
      · rw [q3] at HF
        have HCL := hid_intro (fun w => CloneR.clone_any xi w (by omega))
        have HAl : Hid (BM2 w wr.heap.size (.string xi) (.int .i64 xn) (wr.alloc (.cells #[.string xi, .int .i64 xn] 58))) := hid_intro ⟨HB.out.alloc HB.out.size _, by simp, by simp [go_sem], by simp [go_sem]⟩
        have HAd := hid_intro HAl.out.drew
        have HOA := hid_intro (own_drew (HO.out.alloc (.cells #[.string xi, .int .i64 xn] 58)))
        have sz1 : F.length + 1 ≤ maxLen := by unfold maxLen; have := HLF.out; omega
        have sz2 : (F.length + 1) * 24 ≤ 140737488355328 := by have := HLF.out; omega
        have sz3 : 0 < 2 := by omega
        go_wp2_with fail
        go_region_held3 (fun W => Below w.heap.size w W ∧ wr.heap.size < W.heap.size ∧ W.cell? ⟨wr.heap.size, 0, none⟩ = some (.string xi) ∧ W.cell? ⟨wr.heap.size, 1, none⟩ = some (.int .i64 xn))
          (first | assumption | (exact HAl.out) | (exact HAd.out) | (exact BM2.below (w := w) (B := wr.heap.size) (by assumption) hb1) | (exact BM2.below (w := w) (B := wr.heap.size) (by assumption) ((Below.refl _ _).alloc (Nat.le_refl _) _)) | (exact BM2.grown (w := w) (B := wr.heap.size) (by assumption) hgrow HO.out rfl (Nat.le_refl _)))
          (first | (go_at_call 109; refine (HCL.out _).mono ?_; rintro e w1 ⟨rfl, hb1⟩; have HO1 := hid_intro (own_below HOA.out hb1); have HS1 : Hid (w.heap.size ≤ w1.heap.size) := hid_intro (Nat.le_trans HAd.out.1.size hb1.size)) | (refine step_append_own rfl _ _ 29 rfl w.heap.size 58 i0 (.agg #[.string ⟨#[]⟩, .int .i64 0]) 2 24 Tryz.underlying29 hi hz0 hz1 hz2 rfl sz3 _ _ _ rfl (HO1.out.alloc _) ⟨w1.heap.size, 0, none⟩ 1 1 (N.cells ⟨xi, xn⟩) rfl rfl (two_cells _ _ _ _) (two_one _) sz1 sz2 (Nat.le_trans HS1.out (by simp)) ?_; intro v' w4 hown hgrow hne))
        rename_i hS
        have HB4 := hid_intro hS.1
        have HO4 : Hid (w4.ownsRow w.heap.size 58 2 v' (F ++ [(⟨xi, xn⟩ : N)]).length (cellsAll N.cells (F ++ [(⟨xi, xn⟩ : N)]))) := hid_intro (by rw [cellsAll_app, List.length_append]; exact hown)
        clear hown hgrow hne hS
        go_wp2_with fail
        go_roundw
        case rel => exact ⟨k + 1, by omega, by go_num, hid_intro (by rw [HF.out, cond_true]; exact HO4.out), HB4⟩
        case measure => simp [intOf]; omega
    · have hlt2 : ¬ (k : Int) < (len : Int) := by omega
      obtain rfl : k = len := by omega
      have HE : Hid (es.take k = es) := hid_intro (List.take_of_length_le (by have := HL.out; omega))
      rw [HE.out] at HO
      go_wp2_with fail
      go_ret
      exact ⟨_, rfl, HO.out, HB.out⟩
end LinR
end Go.Proofs.YtcilbmhkhllmjaaGreatDoor
namespace Go.Proofs.YtcilbmhkhllmjaaGreatDoor
open Go.ChangeShapes Go.WideShapes Go.ChangeAt Go.RowKit
set_option linter.unusedVariables false
namespace LinR
open RowG LtR
def sumL (es : List N) : Int := (es.map (fun e => e.n)).sum
def totL (es : List N) : Int := bif sB es then sumL es else 0
theorem sum_take (es : List N) (k : Nat) (h : k < es.length) : sumL (es.take (k + 1)) = sumL (es.take k) + (es.getD k N.zero).n := by
  unfold sumL
  rw [take_more (z := N.zero) es k h, List.map_append, List.sum_append]
  simp
theorem num_in {n : Int} (h : nOk n = true) : -1000000000000000 ≤ n ∧ n ≤ 1000000000000000 := by unfold nOk at h; simpa using h
theorem line_in {es : List N} (h : SRight es) (k : Nat) (hk : k < es.length) : -1000000000000000 ≤ (es.getD k N.zero).n ∧ (es.getD k N.zero).n ≤ 1000000000000000 := by
  have := (h.2 k hk).2
  unfold lOk at this
  simp only [Bool.and_eq_true] at this
  exact num_in this.2.1
theorem sum_in {es : List N} (h : SRight es) : ∀ k, k ≤ es.length → -(1000000000000000 * (k : Int)) ≤ sumL (es.take k) ∧ sumL (es.take k) ≤ 1000000000000000 * (k : Int)
  | 0, _ => by simp [sumL]
  | k + 1, hk => by
    have h1 := sum_in h k (by omega)
    have h2 := line_in h k (by omega)
    rw [sum_take es k (by omega)]
    push_cast
    omega
set_option maxRecDepth 100000 in
set_option maxHeartbeats 4000000 in
theorem impl_total (ao : Option Addr) (cap : Nat) (es : List N) (w : World) (hlen : es.length ≤ 1048576) (hS : ∀ e ∈ es, e.i.size ≤ 1048576) (hI : Lis ao es w) :
    Calls Tryz.prog 25 #[.slice ao es.length cap] w fun e w' => e = .returned (.int .i64 (totL es)) ∧ Below w.heap.size w w' := by
  have H1 := hid_intro (impl_lines ao cap es w hlen hS hI)
  have HT : Hid (totL es = bif sB es then sumL es else 0) := rfl
  have HR := hid_intro (sB_iff (es := es)).1
  have HI := hid_intro hI
  generalize totL es = T at *
  generalize sB es = r at *
  obtain ⟨len, hl⟩ : ∃ len, len = es.length := ⟨_, rfl⟩
  rw [← hl] at hlen H1 ⊢
  have HL := hid_intro hl
  clear hI hS hl
  cases r
  · go_enter Tryz.func25, Tryz.ntmps25
    go_wp2_with fail
    refine (H1.out).mono ?_
    rintro e w1 ⟨rfl, hb1⟩
    have HB := hid_intro hb1
    clear hb1
    go_wp2_with fail
    go_ret
    exact ⟨ret_int HT.out.symm, HB.out⟩
  · have HQ := hid_intro (HR.out rfl)
    have h6 : len ≤ 6 := by have := HQ.out.1; have := HL.out; omega
    go_enter Tryz.func25, Tryz.ntmps25
    go_wp2_with fail
    refine (H1.out).mono ?_
    rintro e w1 ⟨rfl, hb1⟩
    have HB := hid_intro hb1
    clear hb1
    go_wp2_with fail
    go_loopw [3, 11] (fun x z wr => ∃ (k : Nat) (t : Int), k ≤ len ∧ x = .int .i64 t ∧ z = .int .i64 k ∧ Hid (t = sumL (es.take k)) ∧ Hid (Below w.heap.size w wr)) (fun x z _ => len - (intOf z).toNat)
    case atStart => exact ⟨0, 0, by omega, rfl, rfl, hid_intro (by simp [sumL]), HB⟩
    case round =>
      obtain ⟨k, t, hk, rfl, rfl, HS, HB⟩ := hrel
      by_cases hlt : k < len
      · have hlt2 : (k : Int) < (len : Int) := by omega
        obtain ⟨b, off, rfl, hbl, c0, c1⟩ := (HI.out.below HB.out).at k (by have := HL.out; omega)
        have HN := hid_intro (sum_take es k (by have := HL.out; omega))
        have hw : wrap64 (t + (es.getD k N.zero).n) = t + (es.getD k N.zero).n := by
          have a := sum_in HQ.out k (by have := HL.out; omega)
          have b := line_in HQ.out k (by have := HL.out; omega)
          rw [← HS.out] at a
          unfold wrap64; omega
        generalize es.getD k N.zero = X at *
        obtain ⟨xi, xn⟩ := X
        dsimp only at c0 c1 hw HN
        have HAl := hid_intro (fun o => HB.out.alloc HB.out.size o)
        go_wp2_with fail
        go_roundw
        case rel => exact ⟨k + 1, t + xn, by omega, by first | rfl | rw [hw], by go_num, hid_intro (by rw [HN.out, HS.out]), hid_intro (HAl.out _)⟩
        case measure => simp [intOf]; omega
      · have hlt2 : ¬ (k : Int) < (len : Int) := by omega
        obtain rfl : k = len := by omega
        have HE : Hid (es.take k = es) := hid_intro (List.take_of_length_le (by have := HL.out; omega))
        rw [HE.out] at HS
        go_wp2_with fail
        go_ret
        exact ⟨ret_int (by rw [HT.out, HS.out]; rfl), HB.out⟩
set_option maxRecDepth 100000 in
set_option maxHeartbeats 4000000 in
theorem spec_total (ao : Option Addr) (cap : Nat) (es : List N) (w : World) (hlen : es.length ≤ 1048576) (hS : ∀ e ∈ es, e.i.size ≤ 1048576) (hI : Lis ao es w) :
    Calls Tryz.prog 26 #[.slice ao es.length cap] w fun e w' => e = .returned (.int .i64 (totL es)) ∧ Below w.heap.size w w' := by
  by_cases h4 : 400 < es.length
  · have HT : Hid (totL es = 0) := hid_intro (by unfold totL; rw [sB_long (by omega)]; rfl)
    generalize totL es = T at *
    obtain ⟨len, hl⟩ : ∃ len, len = es.length := ⟨_, rfl⟩
    rw [← hl] at hlen h4 ⊢
    have h4' : (400 : Int) < (len : Int) := by omega
    clear hI hS hl
    go_enter Tryz.func26, Tryz.ntmps26
    go_wp2_with fail
    go_ret
    exact ⟨ret_int HT.out.symm, Below.refl _ _⟩
  have H1 := hid_intro (spec_lines ao cap es w hlen hS hI)
  have HT : Hid (totL es = bif sB es then sumL es else 0) := rfl
  have HR := hid_intro (sB_iff (es := es)).1
  have HI := hid_intro hI
  generalize totL es = T at *
  generalize sB es = r at *
  obtain ⟨len, hl⟩ : ∃ len, len = es.length := ⟨_, rfl⟩
  rw [← hl] at hlen H1 h4 ⊢
  have HL := hid_intro hl
  have h4' : ¬ (400 : Int) < (len : Int) := by omega
  clear hI hS hl
  cases r
  · go_enter Tryz.func26, Tryz.ntmps26
    go_wp2_with fail
    refine (H1.out).mono ?_
    rintro e w1 ⟨rfl, hb1⟩
    have HB := hid_intro hb1
    clear hb1
    go_wp2_with fail
    go_ret
    exact ⟨ret_int HT.out.symm, HB.out⟩
  · have HQ := hid_intro (HR.out rfl)
    have h6 : len ≤ 6 := by have := HQ.out.1; have := HL.out; omega
    go_enter Tryz.func26, Tryz.ntmps26
    go_wp2_with fail
    refine (H1.out).mono ?_
    rintro e w1 ⟨rfl, hb1⟩
    have HB := hid_intro hb1
    clear hb1
    go_wp2_with fail
    go_loopw [3, 4] (fun x z wr => ∃ (k : Nat) (t : Int), k ≤ len ∧ x = .int .i64 t ∧ z = .int .i64 k ∧ Hid (t = sumL (es.take k)) ∧ Hid (Below w.heap.size w wr)) (fun x z _ => len - (intOf z).toNat)
    case atStart => exact ⟨0, 0, by omega, rfl, rfl, hid_intro (by simp [sumL]), HB⟩
    case round =>
      obtain ⟨k, t, hk, rfl, rfl, HS, HB⟩ := hrel
      by_cases hlt : k < len
      · have hlt2 : (k : Int) < (len : Int) := by omega
        obtain ⟨b, off, rfl, hbl, c0, c1⟩ := (HI.out.below HB.out).at k (by have := HL.out; omega)
        have HN := hid_intro (sum_take es k (by have := HL.out; omega))
        have hw : wrap64 (t + (es.getD k N.zero).n) = t + (es.getD k N.zero).n := by
          have a := sum_in HQ.out k (by have := HL.out; omega)
          have b := line_in HQ.out k (by have := HL.out; omega)
          rw [← HS.out] at a
          unfold wrap64; omega
        generalize es.getD k N.zero = X at *
        obtain ⟨xi, xn⟩ := X
        dsimp only at c0 c1 hw HN
        have HAl := hid_intro (fun o => HB.out.alloc HB.out.size o)
        go_wp2_with fail
        go_roundw
        case rel => exact ⟨k + 1, t + xn, by omega, by first | rfl | rw [hw], by go_num, hid_intro (by rw [HN.out, HS.out]), by first | exact HB | exact hid_intro (HAl.out _)⟩
        case measure => simp [intOf]; omega
      · have hlt2 : ¬ (k : Int) < (len : Int) := by omega
        obtain rfl : k = len := by omega
        have HE : Hid (es.take k = es) := hid_intro (List.take_of_length_le (by have := HL.out; omega))
        rw [HE.out] at HS
        go_wp2_with fail
        go_ret
        exact ⟨ret_int (by rw [HT.out, HS.out]; rfl), HB.out⟩
end LinR
end Go.Proofs.YtcilbmhkhllmjaaGreatDoor
namespace Go.Proofs.YtcilbmhkhllmjaaGreatDoor
open Go.ChangeShapes Go.WideShapes Go.ChangeAt Go.RowKit
set_option linter.unusedVariables false
namespace ClampR
/-- Either answer. -/
def clamp (n low high : Int) : Int := if n < low then low else if high < n then high else n
theorem impl_any (n low high : Int) (w : World) :
    Calls Tryz.prog 67 #[.int .i64 n, .int .i64 low, .int .i64 high] w fun e w' => e = .returned (.int .i64 (clamp n low high)) ∧ w' = w := by
  unfold clamp
  by_cases h1 : n < low
  · rw [if_pos h1]
    go_enter Tryz.func67, Tryz.ntmps67
    go_wp2
    go_ret
    exact ⟨rfl, rfl⟩
  · rw [if_neg h1]
    by_cases h2 : high < n
    all_goals
      simp only [h2, if_true, if_false]
      go_enter Tryz.func67, Tryz.ntmps67
      go_wp2
      go_ret
      exact ⟨rfl, rfl⟩
end ClampR
end Go.Proofs.YtcilbmhkhllmjaaGreatDoor
