/-
  Lists of lines: what is read of a row of them, the law's own copies, and lists held against each other. The condition: at most 1048576 lines.
  What right lines are: both sides say the same. The condition: at most 1048576 lines, whose Meters have at most 1048576 bytes.
-/
import Derived.Deep.RegionWith
import Derived.Deep.RegionHeld3
import Derived.BigQuiet
import Derived.Deep.QuietTactic
import Derived.Test.YtjfmdcdclifpkaaGreatDoorE12
namespace Go.Proofs.YtjfmdcdclifpkaaGreatDoor
open Go.ChangeShapes Go.WideShapes Go.ChangeAt Go.RowKit
set_option linter.unusedVariables false
namespace LinR
open RowG
open EvtR (Pt)
/-- A line. -/
structure N where
  i : ByteArray
  n : Int
def N.v (e : N) : Value := .agg #[.string e.i, .int .i64 e.n]
def N.zero : N := ⟨⟨#[]⟩, 0⟩
def N.cells (e : N) : List Value := [.string e.i, .int .i64 e.n]
theorem N.len (e : N) : e.cells.length = 2 := rfl
/-- The row holds these lines. -/
def Lis (ao : Option Addr) (es : List N) (w : World) : Prop := Rws 2 N.cells N.zero ao es w
theorem Lis.below {ao : Option Addr} {es : List N} {w w' : World} (h : Lis ao es w) (hb : Below w.heap.size w w') : Lis ao es w' := Rws.below h hb
theorem Lis.at {ao : Option Addr} {es : List N} {w : World} (h : Lis ao es w) (j : Nat) (hj : j < es.length) : ∃ b off, ao = some ⟨b, off, none⟩ ∧ b < w.heap.size ∧ w.cell? ⟨b, off + j * 2, none⟩ = some (.string (es.getD j N.zero).i) ∧ w.cell? ⟨b, off + j * 2 + 1, none⟩ = some (.int .i64 (es.getD j N.zero).n) := by
  obtain ⟨b, off, h1, h2, h3⟩ := Rws.at h j hj
  exact ⟨b, off, h1, h2, h3 0 (by omega), h3 1 (by omega)⟩
/-- How many letters the lines hold. -/
def szL (es : List N) : Int := (es.map (fun e => (e.i.size : Int))).sum
theorem szL_nn (es : List N) : 0 ≤ szL es := by
  unfold szL
  induction es with
  | nil => simp
  | cons e es ih => simp only [List.map_cons, List.sum_cons]; omega
theorem szL_take (es : List N) (k : Nat) (h : k < es.length) : szL (es.take (k + 1)) = szL (es.take k) + ((es.getD k N.zero).i.size : Int) := by
  unfold szL
  rw [take_more (z := N.zero) es k h, List.map_append, List.sum_append]
  simp
theorem szL_le (es : List N) (k : Nat) : szL (es.take k) ≤ szL es := by
  have := szL_nn (es.drop k)
  have e : szL es = szL (es.take k) + szL (es.drop k) := by
    unfold szL
    rw [← List.sum_append, ← List.map_append, List.take_append_drop]
  omega
/-- What is left of the law's size. -/
def szR (es : List N) : Int := if (es.length : Int) + szL es ≤ 1048576 then 1048576 - (es.length : Int) - szL es else -1
theorem sz_any (i : ByteArray) (n left : Int) (h1 : i.size ≤ maxLen) (hl : 0 ≤ left) (hl2 : left ≤ 1048576) (w : World) :
    Calls Tryz.prog 165 #[.agg #[.string i, .int .i64 n], .int .i64 left] w fun e w' => e = .returned (.int .i64 (if (i.size : Int) ≤ left then left - (i.size : Int) else -1)) ∧ Below w.heap.size w w' := by
  unfold maxLen at *
  have HB := hid_intro ((Below.refl w.heap.size w).alloc (Nat.le_refl _) (Obj.cells #[.string i, .int .i64 n] 232))
  rcases (show (left - (i.size : Int) < 0) ∨ (¬ left - (i.size : Int) < 0) by omega) with q1 | q1
  all_goals
    go_enter Tryz.func165, Tryz.ntmps165
    go_wp2_with fail
    go_ret
    refine ⟨ret_int ?_, HB.out⟩
    first | rfl | omega | (rw [if_neg (by omega)]; done) | (rw [if_pos (by omega)]; done)
set_option maxHeartbeats 4000000 in
theorem szs_any (ao : Option Addr) (cap : Nat) (es : List N) (w : World) (hm : es.length ≤ maxLen) (hI : Lis ao es w) (hw : ∀ e ∈ es, e.i.size ≤ maxLen) :
    Calls Tryz.prog 113 #[.slice ao es.length cap, .int .i64 1048576] w fun e w' => e = .returned (.int .i64 (szR es)) ∧ Below w.heap.size w w' := by
  obtain ⟨len, hlen⟩ : ∃ len, len = es.length := ⟨_, rfl⟩
  rw [← hlen] at hm ⊢
  have HZ := hid_intro hlen
  have HI := hid_intro hI
  have HW := hid_intro hw
  have HR : Hid (szR es = if (es.length : Int) + szL es ≤ 1048576 then 1048576 - (es.length : Int) - szL es else -1) := rfl
  generalize szR es = R at *
  unfold maxLen at hm
  clear hI hw hlen
  by_cases hbig : 1048576 < len
  · have hl2 : (1048576 : Int) - (len : Int) < 0 := by omega
    have HN : Hid (R = -1) := hid_intro (by rw [HR.out, if_neg]; have := szL_nn es; have := HZ.out; omega)
    go_enter Tryz.func113, Tryz.ntmps113
    go_wp2_with fail
    go_ret
    exact ⟨ret_int HN.out.symm, Below.refl _ _⟩
  have hl : (len : Int) ≤ 1048576 := by omega
  have hl2 : ¬ (1048576 : Int) - (len : Int) < 0 := by omega
  go_enter Tryz.func113, Tryz.ntmps113
  go_wp2_with fail
  go_loopw [5, 1] (fun x y w' => ∃ (j : Nat) (L : Int), j ≤ len ∧ x = .int .i64 j ∧ y = .int .i64 L ∧ 0 ≤ L ∧ L ≤ 1048576 ∧ Hid (L = 1048576 - (len : Int) - szL (es.take j)) ∧ Hid (Below w.heap.size w w')) (fun x y w' => len - (intOf x).toNat)
  case atStart => exact ⟨0, 1048576 - (len : Int), Nat.zero_le _, rfl, rfl, by omega, by omega, hid_intro (by simp [szL]), hid_intro (Below.refl _ _)⟩
  case round =>
    obtain ⟨j, L, hj, rfl, rfl, l0, l1, HL, HB⟩ := hrel
    by_cases hlt : j < len
    · obtain ⟨b, off, rfl, hbl, c0, c1⟩ := (HI.out.below HB.out).at j (by have := HZ.out; omega)
      have HS := hid_intro (szL_take es j (by have := HZ.out; omega))
      have q1 := HW.out _ (getD_mem (z := N.zero) es j (by have := HZ.out; omega))
      generalize es.getD j N.zero = E1 at *
      obtain ⟨i, n⟩ := E1
      have HS : Hid (szL (es.take (j + 1)) = szL (es.take j) + (i.size : Int)) := HS
      have HC := hid_intro (fun w => sz_any i n L q1 l0 l1 w)
      have hlt2 : (j : Int) < (len : Int) := by omega
      clear q1
      by_cases hs : (i.size : Int) ≤ L
      · rw [if_pos hs] at HC
        have HN : Hid (L - (i.size : Int) = 1048576 - (len : Int) - szL (es.take (j + 1))) := hid_intro (by rw [HS.out, HL.out]; omega)
        have r0 : 0 ≤ L - (i.size : Int) := by omega
        have r1 : L - (i.size : Int) ≤ 1048576 := by omega
        generalize L - (i.size : Int) = L2 at *
        clear hs
        go_wp2_with fail
        refine (HC.out _).mono ?_
        rintro e w1 ⟨rfl, hb⟩
        have HB1 := hid_intro (HB.out.trans (hb.mono HB.out.size))
        clear hb HB c0 c1
        have r2 : ¬ L2 < 0 := by omega
        go_wp2_with fail
        go_roundw
        case rel => exact ⟨j + 1, L2, by omega, by go_num, rfl, r0, r1, HN, HB1⟩
        case measure => simp [intOf]; omega
      · rw [if_neg hs] at HC
        have HN : Hid (R = -1) := hid_intro (by rw [HR.out, if_neg]; have := szL_le es (j + 1); have := HS.out; have := HL.out; have := HZ.out; omega)
        go_wp2_with fail
        refine (HC.out _).mono ?_
        rintro e w1 ⟨rfl, hb⟩
        have HB1 := hid_intro (HB.out.trans (hb.mono HB.out.size))
        clear hb HB c0 c1
        go_wp2_with fail
        go_ret
        exact ⟨ret_int HN.out.symm, HB1.out⟩
    · obtain rfl : j = len := by omega
      have HN : Hid (R = L) := hid_intro (by
        have e := HL.out
        rw [List.take_of_length_le (by have := HZ.out; omega)] at e
        rw [HR.out, if_pos (by have := HZ.out; omega)]; have := HZ.out; omega)
      go_wp2_with fail
      go_ret
      exact ⟨ret_int HN.out.symm, HB.out⟩
theorem infoN : (Tryz.prog.info? 72).map (fun i => (i.zero, i.size, i.bytes)) = some (some (.agg #[.string ⟨#[]⟩, .int .i64 0]), 2, 24) := by kernel_rfl
theorem row_fullL {w : World} {base e g n s : Nat} {xs : List Value} (h : w.ownsRow base e s (.slice (some ⟨g, 0, none⟩) n n) n xs) : Pt g (n * s) w := by
  rcases h.2 with ⟨h1, _⟩ | ⟨g', cap, cur, h1, _, hg, _, _, hs, _⟩
  · simp at h1
  · simp at h1
    obtain ⟨rfl, rfl⟩ := h1
    refine ⟨(Array.getElem?_eq_some_iff.1 hg).1, fun o ho => ⟨cur[o]'(by omega), ?_⟩, fun o ho => ?_⟩
    · have : o < cur.size := by omega
      simp [World.cell?, hg, this]
    · simp [World.frozen?, hg]
theorem toLine_any (i : ByteArray) (n : Int) (w : World) :
    Calls Tryz.prog 175 #[.agg #[.string i, .int .i64 n]] w fun e w' => e = .returned (.agg #[.string i, .int .i64 n]) ∧ Below w.heap.size w w' := by
  go_enter Tryz.func175, Tryz.ntmps175
  go_wp2_with fail
  refine bodyPost_ret (v := .agg #[.string i, .int .i64 n]) (by simp [results, Tryz.results175, go_sem]) rfl ⟨rfl, ?_⟩
  repeat' first | exact Below.refl _ _ | apply Below.setCell | apply Below.alloc
  all_goals first | omega | (simp; done) | (simp; omega)
/-- One more cell of a row that is being laid. -/
theorem fill_step {f : Nat → Option Value} {w wr : World} {m j : Nat} (hb : Below w.heap.size w wr) (hp : Pt w.heap.size m wr) (hw : Wr f j w.heap.size wr) (hj : j < m) (v : Value) (hv : f j = some v) :
    Below w.heap.size w (wr.setCell ⟨w.heap.size, j, none⟩ v) ∧ Pt w.heap.size m (wr.setCell ⟨w.heap.size, j, none⟩ v) ∧ Wr f (j + 1) w.heap.size (wr.setCell ⟨w.heap.size, j, none⟩ v) :=
  ⟨hb.setCell (Nat.le_refl _) _, hp.set _ _, hw.more hp hj v hv⟩
set_option maxRecDepth 100000 in
set_option maxHeartbeats 4000000 in
theorem toLis_any (ao : Option Addr) (cap : Nat) (es : List N) (w : World) (hlen : es.length ≤ 1048576) (hI : Lis ao es w) :
    Calls Tryz.prog 128 #[.slice ao es.length cap] w fun e w' => e = .returned (.slice (some ⟨w.heap.size, 0, none⟩) es.length es.length) ∧ Lis (some ⟨w.heap.size, 0, none⟩) es w' ∧ Pt w.heap.size (es.length * 2) w' ∧ Below w.heap.size w w' := by
  obtain ⟨i0, hi, hz0, hz1, hz2⟩ := info_parts infoN
  have HI := hid_intro hI
  have HWS : Hid (∀ wr, Wr (cellAt 2 N.cells N.zero es) (es.length * 2) w.heap.size wr → w.heap.size < wr.heap.size → Lis (some ⟨w.heap.size, 0, none⟩) es wr) := hid_intro (fun wr h hl => Wr.rws h hl)
  have HZ : Hid (∀ k, k < es.length → True) := hid_intro (fun _ _ => trivial)
  obtain ⟨len, hl⟩ : ∃ len, len = es.length := ⟨_, rfl⟩
  rw [← hl] at hlen HWS ⊢
  have HL := hid_intro hl
  clear hI hl
  go_enter Tryz.func128, Tryz.ntmps128
  go_wp2_with (at_make; refine wpList_make_full _ rfl _ _ 33 rfl w.heap.size 72 i0 (.agg #[.string ⟨#[]⟩, .int .i64 0]) 2 Tryz.underlying33 hi hz0 hz1 .i64 .i64 _ _ len rfl rfl rfl rfl ?b2 ?b3 ?b4 ?_)
  case b2 => rw [hz2]; omega
  case b3 => unfold maxLen; omega
  case b4 => exact Nat.le_refl _
  intro wm hown hgrow
  have HB0 : Hid (Below w.heap.size w wm) := hid_intro ((Below.refl _ _).grown hgrow (Nat.le_refl _) (fun k e => by cases e))
  have HP0 := hid_intro (row_fullL hown)
  clear hown hgrow hi hz0 hz1 hz2
  go_wp2_with fail
  go_loopw [4] (fun z wr => ∃ k : Nat, k ≤ len ∧ z = .int .i64 k ∧ Hid (Below w.heap.size w wr) ∧ Hid (Pt w.heap.size (len * 2) wr) ∧ Hid (Wr (cellAt 2 N.cells N.zero es) (k * 2) w.heap.size wr)) (fun z _ => len - (intOf z).toNat)
  case atStart => exact ⟨0, by omega, rfl, HB0, HP0, hid_intro (fun o ho => absurd ho (by omega))⟩
  case round =>
    obtain ⟨k, hk, rfl, HB, HP, HW⟩ := hrel
    by_cases hlt : k < len
    · have hlt2 : (k : Int) < (len : Int) := by omega
      obtain ⟨b, off, rfl, hbl, c0, c1⟩ := (HI.out.below HB.out).at k (by have := HL.out; omega)
      have HX := hid_intro (cellAt_of (k := 2) (cells := N.cells) (z := N.zero) (xs := es) k)
      generalize es.getD k N.zero = X at *
      obtain ⟨xi, xn⟩ := X
      have HC := hid_intro (fun w => toLine_any xi xn w)
      go_wp2_with fail
      refine (HC.out _).mono ?_
      rintro e w1 ⟨rfl, hb⟩
      replace HW := hid_intro (HW.out.below HP.out hb)
      replace HP := hid_intro (HP.out.below hb)
      replace HB := hid_intro (HB.out.trans (hb.mono HB.out.size))
      have HS0 := hid_intro (fill_step HB.out HP.out HW.out (by omega) (.string xi) (HX.out 0 (by omega)))
      have HS1 := hid_intro (fill_step HS0.out.1 HS0.out.2.1 HS0.out.2.2 (by omega) (.int .i64 xn) (HX.out 1 (by omega)))
      obtain ⟨v0, d0⟩ := HP.out.has (k * 2) (by omega)
      obtain ⟨v1, d1⟩ := HP.out.has (k * 2 + 1) (by omega)
      have z0 := HP.out.free (k * 2) (by omega)
      have z1 := HP.out.free (k * 2 + 1) (by omega)
      clear hb c0 c1 HX HS0
      go_wp2_with fail
      go_roundw
      case rel => exact ⟨k + 1, by omega, by go_num, hid_intro HS1.out.1, hid_intro HS1.out.2.1, hid_intro (by rw [show (k + 1) * 2 = k * 2 + 1 + 1 by omega]; exact HS1.out.2.2)⟩
      case measure => simp [intOf]; omega
    · have hlt2 : ¬ (k : Int) < (len : Int) := by omega
      obtain rfl : k = len := by omega
      go_wp2_with fail
      go_ret
      exact ⟨rfl, HWS.out _ HW.out HP.out.lt, HP.out, HB.out⟩
theorem eqLine_any (i : ByteArray) (n : Int) (w : World) : Calls Tryz.prog 33 #[.agg #[.string i, .int .i64 n], .agg #[.string i, .int .i64 n]] w fun e w' => e = .returned (.bool true) ∧ Below w.heap.size w w' := by
  go_enter Tryz.func33, Tryz.ntmps33
  go_wp2
  go_ret
  refine ⟨rfl, ?_⟩
  repeat' first | exact Below.refl _ _ | apply Below.setCell | apply Below.alloc
  all_goals first | omega | (simp; done) | (simp; omega)
set_option maxHeartbeats 4000000 in
theorem eqLis_any (ao bo : Option Addr) (cap cap' : Nat) (es : List N) (w : World) (hlen : es.length ≤ 1048576) (hI : Lis ao es w) (hJ : Lis bo es w) :
    Calls Tryz.prog 9 #[.slice ao es.length cap, .slice bo es.length cap'] w fun e w' => e = .returned (.bool true) ∧ Below w.heap.size w w' := by
  have HI := hid_intro hI
  have HJ := hid_intro hJ
  obtain ⟨len, hl⟩ : ∃ len, len = es.length := ⟨_, rfl⟩
  rw [← hl] at hlen ⊢
  have HL := hid_intro hl
  clear hI hJ hl
  go_enter Tryz.func9, Tryz.ntmps9
  go_wp2_with fail
  go_loopw [5] (fun z wr => ∃ k : Nat, k ≤ len ∧ z = .int .i64 k ∧ Hid (Below w.heap.size w wr)) (fun z _ => len - (intOf z).toNat)
  case atStart => exact ⟨0, by omega, rfl, hid_intro (Below.refl _ _)⟩
  case round =>
    obtain ⟨k, hk, rfl, HW⟩ := hrel
    by_cases hlt : k < len
    · have hlt2 : (k : Int) < (len : Int) := by omega
      obtain ⟨b, off, rfl, _, c0, c1⟩ := (HI.out.below HW.out).at k (by have := HL.out; omega)
      obtain ⟨b', off', rfl, _, e0, e1⟩ := (HJ.out.below HW.out).at k (by have := HL.out; omega)
      generalize es.getD k N.zero = X at *
      obtain ⟨xi, xn⟩ := X
      have HC := hid_intro (fun w => eqLine_any xi xn w)
      go_wp2_with fail
      go_region_with (go_at_call 33; refine (HC.out _).mono ?_; rintro e w1 ⟨rfl, hb⟩)
      all_goals (
        have HB1 := hid_intro (HW.out.drew.trans (hb.mono HW.out.drew.size))
        clear hb c0 c1 e0 e1
        go_wp2_with fail
        go_roundw
        case rel => exact ⟨k + 1, by omega, by go_num, HB1⟩
        case measure => simp [intOf]; omega)
    · have hlt2 : ¬ (k : Int) < (len : Int) := by omega
      go_wp2_with fail
      go_ret
      exact ⟨rfl, HW.out⟩
end LinR
end Go.Proofs.YtjfmdcdclifpkaaGreatDoor
namespace Go.Proofs.YtjfmdcdclifpkaaGreatDoor
open Go.ChangeShapes Go.WideShapes Go.ChangeAt Go.RowKit
set_option linter.unusedVariables false
namespace LinR
open RowG LtR
open NameR (nameB)
/-- May this be a number, may this be a line? -/
def nOk (n : Int) : Bool := decide (-1000000000000000 ≤ n ∧ n ≤ 1000000000000000)
def lOk (x : N) : Bool := nameB x.i && (nOk x.n && decide (x.n ≠ 0))
/-- The Meter ahead, none ahead of the first. -/
def ahd (es : List N) : Nat → ByteArray
  | 0 => ⟨#[]⟩
  | k + 1 => (es.getD k N.zero).i
def SOk (es : List N) (k : Nat) : Prop := ∀ i, i < k → lt (ahd es i) (es.getD i N.zero).i = true ∧ lOk (es.getD i N.zero) = true
def SRight (es : List N) : Prop := es.length ≤ 6 ∧ SOk es es.length
def SOkDec (es : List N) (k : Nat) : Decidable (SOk es k) := inferInstanceAs (Decidable (∀ i, i < k → lt (ahd es i) (es.getD i N.zero).i = true ∧ lOk (es.getD i N.zero) = true))
def SRightDec (es : List N) : Decidable (SRight es) :=
  haveI := SOkDec es es.length
  inferInstanceAs (Decidable (es.length ≤ 6 ∧ SOk es es.length))
/-- Are these right lines? -/
def sB (es : List N) : Bool := @decide (SRight es) (SRightDec es)
theorem sB_no {es : List N} (h : ¬ SRight es) : sB es = false := by unfold sB; exact @decide_eq_false _ (SRightDec es) h
theorem sB_yes {es : List N} (h : SRight es) : sB es = true := by unfold sB; exact @decide_eq_true _ (SRightDec es) h
theorem sB_iff {es : List N} : sB es = true ↔ SRight es := by unfold sB; exact @decide_eq_true_iff _ (SRightDec es)
theorem SOk.zero (es : List N) : SOk es 0 := fun i h => absurd h (by omega)
theorem SOk.more {es : List N} {k : Nat} (h : SOk es k) (h1 : lt (ahd es k) (es.getD k N.zero).i = true) (h2 : lOk (es.getD k N.zero) = true) : SOk es (k + 1) := by
  intro i hi
  by_cases e : i = k
  · subst e; exact ⟨h1, h2⟩
  · exact h i (by omega)
theorem sB_false {es : List N} {k : Nat} (hk : k < es.length) (h : ¬ (lt (ahd es k) (es.getD k N.zero).i = true ∧ lOk (es.getD k N.zero) = true)) : sB es = false := sB_no (fun hr => h (hr.2 k hk))
theorem sB_long {es : List N} (h : 6 < es.length) : sB es = false := sB_no (fun hr => by have := hr.1; omega)
theorem name_pos {s : ByteArray} (h : nameB s = true) : 1 ≤ s.size := by
  unfold nameB at h
  simp at h
  exact h.1
theorem three (b1 b2 b3 : Bool) : (b1 = false) ∨ (b1 = true ∧ b2 = false) ∨ (b1 = true ∧ b2 = true ∧ b3 = false) ∨ (b1 = true ∧ b2 = true ∧ b3 = true) := by
  cases b1 <;> cases b2 <;> cases b3 <;> simp
theorem num_cases (n : Int) : (¬ -1000000000000000 ≤ n ∧ nOk n = false) ∨ (-1000000000000000 ≤ n ∧ ¬ n ≤ 1000000000000000 ∧ nOk n = false) ∨ (-1000000000000000 ≤ n ∧ n ≤ 1000000000000000 ∧ nOk n = true) := by
  unfold nOk
  rcases (show (¬ -1000000000000000 ≤ n) ∨ (-1000000000000000 ≤ n ∧ ¬ n ≤ 1000000000000000) ∨ (-1000000000000000 ≤ n ∧ n ≤ 1000000000000000) by omega) with h | ⟨h, h2⟩ | ⟨h, h2⟩
  · exact .inl ⟨h, decide_eq_false (fun q => h q.1)⟩
  · exact .inr (.inl ⟨h, h2, decide_eq_false (fun q => h2 q.2)⟩)
  · exact .inr (.inr ⟨h, h2, decide_eq_true ⟨h, h2⟩⟩)
theorem inum (n : Int) (w : World) : Calls Tryz.prog 193 #[.int .i64 n] w fun e w' => e = .returned (.bool (nOk n)) ∧ w' = w := by
  rcases num_cases n with ⟨h1, h2⟩ | ⟨h1, h3, h2⟩ | ⟨h1, h3, h2⟩
  all_goals
    rw [h2]
    clear h2
    go_enter Tryz.func193, Tryz.ntmps193
    go_wp2_with (go_at_call 50; go_in)
    go_ret
    exact ⟨rfl, rfl⟩
theorem snum (n : Int) (w : World) : Calls Tryz.prog 122 #[.int .i64 n] w fun e w' => e = .returned (.bool (nOk n)) ∧ w' = w := by
  rcases num_cases n with ⟨h1, h2⟩ | ⟨h1, h3, h2⟩ | ⟨h1, h3, h2⟩
  all_goals
    rw [h2]
    clear h2
    go_enter Tryz.func122, Tryz.ntmps122
    go_wp2_with (go_at_call 99; go_in)
    go_ret
    exact ⟨rfl, rfl⟩
theorem bdrewN {B : Nat} {a w : World} (h : Below B a w) (n : Nat) : Below B a (w.drewN n) := ⟨h.os, h.tape, h.output, h.size, h.block⟩
theorem le_ge1 {x a : ByteArray} (h : Op.bytesLess x.toList a.toList = true) : Op.bytesLess a.toList x.toList = false := lt_asymm h
/-- One text against another, as the walk asks it. -/
theorem le_cases (x a : ByteArray) : (Op.bytesLess x.toList a.toList = true ∧ lt a x = false) ∨ (Op.bytesLess x.toList a.toList = false ∧ x.toList = a.toList ∧ (x.toList == a.toList) = true ∧ lt a x = false) ∨ (Op.bytesLess x.toList a.toList = false ∧ x.toList ≠ a.toList ∧ (x.toList == a.toList) = false ∧ lt a x = true) := by
  cases h : lt x a
  · by_cases e : x = a
    · subst e; exact .inr (.inl ⟨h, rfl, by simp, h⟩)
    · have ne : x.toList ≠ a.toList := fun q => e (toList_inj q)
      refine .inr (.inr ⟨h, ne, by simpa using ne, ?_⟩)
      cases h2 : lt a x
      · exact absurd (lt_total h h2) e
      · rfl
  · exact .inl ⟨h, lt_asymm h⟩
/-- A number is none, or it is one. -/
theorem nil_cases (n : Int) : ((n == 0) = true ∧ decide (n ≠ 0) = false) ∨ ((n == 0) = false ∧ decide (n ≠ 0) = true) := by
  by_cases h : n = 0
  · exact .inl ⟨by simpa using h, by simpa using h⟩
  · exact .inr ⟨by simpa using h, by simpa using h⟩
set_option maxRecDepth 100000 in
set_option maxHeartbeats 4000000 in
theorem impl_lines (ao : Option Addr) (cap : Nat) (es : List N) (w : World) (hlen : es.length ≤ 1048576) (hS : ∀ e ∈ es, e.i.size ≤ 1048576) (hI : Lis ao es w) :
    Calls Tryz.prog 192 #[.slice ao es.length cap] w fun e w' => e = .returned (.bool (sB es)) ∧ Below w.heap.size w w' := by
  by_cases h40 : 6 < es.length
  · have HR := hid_intro (sB_long h40)
    obtain ⟨len, hl⟩ : ∃ len, len = es.length := ⟨_, rfl⟩
    rw [← hl] at hlen h40 ⊢
    have h40' : (6 : Int) < (len : Int) := by omega
    clear hI hS hl
    go_enter Tryz.func192, Tryz.ntmps192
    go_wp2_with fail
    go_ret
    exact ⟨ret_bool HR.out.symm, Below.refl _ _⟩
  · have HT0 := hid_intro (fun k (hk : k < es.length) => sB_false (es := es) hk)
    have HTE := hid_intro (fun h => sB_yes (es := es) ⟨by omega, h⟩)
    have HI := hid_intro hI
    have HS := hid_intro hS
    obtain ⟨len, hl⟩ : ∃ len, len = es.length := ⟨_, rfl⟩
    rw [← hl] at hlen h40 ⊢
    have HL := hid_intro hl
    have h40' : ¬ (6 : Int) < (len : Int) := by omega
    clear hI hS hl
    generalize sB es = R at *
    go_enter Tryz.func192, Tryz.ntmps192
    go_wp2_with fail
    go_loopw [3, 11] (fun x z wr => ∃ k : Nat, k ≤ len ∧ x = .string (ahd es k) ∧ z = .int .i64 k ∧ Hid (SOk es k) ∧ Hid (Below w.heap.size w wr)) (fun x z _ => len - (intOf z).toNat)
    case atStart => exact ⟨0, by omega, rfl, rfl, hid_intro (SOk.zero es), hid_intro (Below.refl _ _)⟩
    case round =>
      obtain ⟨k, hk, rfl, rfl, HK, HB⟩ := hrel
      by_cases hlt : k < len
      · have hlt2 : (k : Int) < (len : Int) := by omega
        obtain ⟨b, off, rfl, hbl, c0, c1⟩ := (HI.out.below HB.out).at k (by have := HL.out; omega)
        have hsz := HS.out _ (getD_mem (z := N.zero) es k (by have := HL.out; omega))
        have HM := hid_intro (fun h1 h2 => HK.out.more (k := k) h1 h2)
        have HF := hid_intro (HT0.out k (by have := HL.out; omega))
        have HA : Hid (ahd es (k + 1) = (es.getD k N.zero).i) := rfl
        generalize ahd es k = a at *
        generalize es.getD k N.zero = X at *
        obtain ⟨xi, xn⟩ := X
        have HA : Hid (ahd es (k + 1) = xi) := HA
        have H1 := hid_intro (fun w => NameR.impl_any xi w hsz)
        have H2 := hid_intro (fun w => inum xn w)
        have HE : Hid (lOk ⟨xi, xn⟩ = (nameB xi && (nOk xn && decide (xn ≠ 0)))) := rfl
        dsimp only at HM HF c0 c1
        generalize lOk ⟨xi, xn⟩ = r at *
        have HAl := hid_intro (fun o => HB.out.alloc HB.out.size o)
        rcases le_cases xi a with ⟨q1, q2⟩ | ⟨q1, q3, q4, q2⟩ | ⟨q1, q3, q4, q2⟩
        · have HR : Hid (R = false) := hid_intro (HF.out (fun h => by rw [q2] at h; exact absurd h.1 (by simp)))
          clear HM HF q2
          go_wp2_with fail
          go_ret
          exact ⟨ret_bool HR.out.symm, HAl.out _⟩
        · have HR : Hid (R = false) := hid_intro (HF.out (fun h => by rw [q2] at h; exact absurd h.1 (by simp)))
          clear HM HF q2
          go_wp2_with fail
          go_ret
          exact ⟨ret_bool HR.out.symm, HAl.out _⟩
        · generalize nameB xi = b1 at *
          generalize nOk xn = b2 at *
          have hz := nil_cases xn
          generalize decide (xn ≠ 0) = b3 at *
          cases b1
          · have HR : Hid (R = false) := hid_intro (HF.out (fun h => by rw [HE.out] at h; exact absurd h.2 (by simp)))
            clear HM HF q2 HE hz
            go_wp2_with (go_at_call 180; refine (H1.out _).mono ?_; rintro e w1 ⟨rfl, rfl⟩)
            go_ret
            exact ⟨ret_bool HR.out.symm, HAl.out _⟩
          rcases hz with ⟨hz, rfl⟩ | ⟨hz, rfl⟩
          · have HR : Hid (R = false) := hid_intro (HF.out (fun h => by rw [HE.out] at h; exact absurd h.2 (by simp)))
            clear HM HF q2 HE
            go_wp2_with (go_at_call 180; refine (H1.out _).mono ?_; rintro e w1 ⟨rfl, rfl⟩)
            go_ret
            exact ⟨ret_bool HR.out.symm, HAl.out _⟩
          cases b2
          · have HR : Hid (R = false) := hid_intro (HF.out (fun h => by rw [HE.out] at h; exact absurd h.2 (by simp)))
            clear HM HF q2 HE
            go_wp2_with (first | (go_at_call 180; refine (H1.out _).mono ?_; rintro e w1 ⟨rfl, rfl⟩) | (go_at_call 193; refine (H2.out _).mono ?_; rintro e w1 ⟨rfl, rfl⟩))
            go_ret
            exact ⟨ret_bool HR.out.symm, HAl.out _⟩
          · replace HM := hid_intro (HM.out q2 (by rw [HE.out]; rfl))
            clear HF q2 HE
            go_wp2_with (first | (go_at_call 180; refine (H1.out _).mono ?_; rintro e w1 ⟨rfl, rfl⟩) | (go_at_call 193; refine (H2.out _).mono ?_; rintro e w1 ⟨rfl, rfl⟩))
            go_roundw
            case rel => exact ⟨k + 1, by omega, by rw [HA.out], by go_num, HM, hid_intro (HAl.out _)⟩
            case measure => simp [intOf]; omega
      · have hlt2 : ¬ (k : Int) < (len : Int) := by omega
        obtain rfl : k = len := by omega
        have HR : Hid (R = true) := hid_intro (HTE.out (by rw [← HL.out]; exact HK.out))
        go_wp2_with fail
        go_ret
        exact ⟨ret_bool HR.out.symm, HB.out⟩
set_option maxRecDepth 100000 in
set_option maxHeartbeats 4000000 in
theorem spec_lines (ao : Option Addr) (cap : Nat) (es : List N) (w : World) (hlen : es.length ≤ 1048576) (hS : ∀ e ∈ es, e.i.size ≤ 1048576) (hI : Lis ao es w) :
    Calls Tryz.prog 167 #[.slice ao es.length cap] w fun e w' => e = .returned (.bool (sB es)) ∧ Below w.heap.size w w' := by
  have HT0 := hid_intro (fun k (hk : k < es.length) => sB_false (es := es) hk)
  have HTE : Hid (SOk es es.length → sB es = decide (es.length ≤ 6)) := hid_intro (fun h => by
    by_cases e : es.length ≤ 6
    · rw [decide_eq_true e]; exact sB_yes ⟨e, h⟩
    · rw [decide_eq_false e]; exact sB_no (fun hr => e hr.1))
  have HI := hid_intro hI
  have HS := hid_intro hS
  obtain ⟨len, hl⟩ : ∃ len, len = es.length := ⟨_, rfl⟩
  rw [← hl] at hlen ⊢
  have HL := hid_intro hl
  clear hI hS hl
  generalize sB es = R at *
  go_enter Tryz.func167, Tryz.ntmps167
  go_wp2_with fail
  go_loopw [3] (fun z wr => ∃ k : Nat, k ≤ len ∧ z = .int .i64 k ∧ Hid (SOk es k) ∧ Hid (Below w.heap.size w wr)) (fun z _ => len - (intOf z).toNat)
  case atStart => exact ⟨0, by omega, rfl, hid_intro (SOk.zero es), hid_intro (Below.refl _ _)⟩
  case round =>
    obtain ⟨k, hk, rfl, HK, HB⟩ := hrel
    by_cases hlt : k < len
    · have hlt2 : (k : Int) < (len : Int) := by omega
      obtain ⟨b, off, rfl, hbl, c0, c1⟩ := (HI.out.below HB.out).at k (by have := HL.out; omega)
      have hsz := HS.out _ (getD_mem (z := N.zero) es k (by have := HL.out; omega))
      have HM := hid_intro (fun h1 h2 => HK.out.more (k := k) h1 h2)
      have HF := hid_intro (HT0.out k (by have := HL.out; omega))
      rcases (show k = 0 ∨ ∃ j, k = j + 1 from by rcases k with _ | j; exact .inl rfl; exact .inr ⟨j, rfl⟩) with rfl | ⟨j, hkj⟩
      · have HA : Hid (ahd es 0 = ⟨#[]⟩) := rfl
        simp only [Nat.zero_mul, Nat.add_zero] at c0 c1
        generalize ahd es 0 = a at *
        generalize es.getD 0 N.zero = X at *
        obtain ⟨xi, xn⟩ := X
        have H1 := hid_intro (fun w => NameR.spec_any xi w hsz)
        have H2 := hid_intro (fun w => snum xn w)
        have HP := hid_intro (name_pos (s := xi))
        have HE : Hid (lOk ⟨xi, xn⟩ = (nameB xi && (nOk xn && decide (xn ≠ 0)))) := rfl
        dsimp only at HM HF c0 c1 hsz
        generalize lOk ⟨xi, xn⟩ = r at *
        generalize nameB xi = b1 at *
        generalize nOk xn = b2 at *
        have hz := nil_cases xn
        generalize decide (xn ≠ 0) = b3 at *
        cases b1
        · clear hz
          have HR : Hid (R = false) := hid_intro (HF.out (fun h => by rw [HE.out] at h; exact absurd h.2 (by simp)))
          clear HM HF HP HE
          go_wp2_with fail
          go_quiet ((first | (go_at_call 115; exact Calls.quiet_of_same (H1.out _)) | (go_at_call 122; exact Calls.quiet_of_same (H2.out _))))
          go_wp2_with fail
          go_ret
          exact ⟨ret_bool HR.out.symm, bdrewN HB.out _⟩
        cases b2
        · clear hz
          have HR : Hid (R = false) := hid_intro (HF.out (fun h => by rw [HE.out] at h; exact absurd h.2 (by simp)))
          clear HM HF HP HE
          go_wp2_with fail
          go_quiet ((first | (go_at_call 115; exact Calls.quiet_of_same (H1.out _)) | (go_at_call 122; exact Calls.quiet_of_same (H2.out _))))
          go_wp2_with fail
          go_ret
          exact ⟨ret_bool HR.out.symm, bdrewN HB.out _⟩
        rcases hz with ⟨hz, rfl⟩ | ⟨hz, rfl⟩
        · skip
          have HR : Hid (R = false) := hid_intro (HF.out (fun h => by rw [HE.out] at h; exact absurd h.2 (by simp)))
          clear HM HF HP HE
          go_wp2_with fail
          go_quiet ((first | (go_at_call 115; exact Calls.quiet_of_same (H1.out _)) | (go_at_call 122; exact Calls.quiet_of_same (H2.out _))))
          go_wp2_with fail
          go_ret
          exact ⟨ret_bool HR.out.symm, bdrewN HB.out _⟩
        · skip
          have HM2 := hid_intro (HM.out (by rw [HA.out]; exact lt_empty (HP.out rfl)) (by rw [HE.out]; rfl))
          clear HM HF HP HE
          go_wp2_with fail
          go_quiet ((first | (go_at_call 115; exact Calls.quiet_of_same (H1.out _)) | (go_at_call 122; exact Calls.quiet_of_same (H2.out _))))
          go_wp2_with fail
          go_roundw
          case rel => exact ⟨0 + 1, by omega, by go_num, HM2, hid_intro (bdrewN HB.out _)⟩
          case measure => simp [intOf]; omega
      · obtain ⟨b', off', hbo, hbl', d0, d1⟩ := (HI.out.below HB.out).at j (by have := HL.out; omega)
        obtain ⟨rfl, rfl⟩ : b = b' ∧ off = off' := by simpa using hbo
        have HA : Hid (ahd es k = (es.getD j N.zero).i) := hid_intro (by rw [hkj]; rfl)
        generalize es.getD j N.zero = Y at *
        obtain ⟨yi, yn⟩ := Y
        have HA : Hid (ahd es k = yi) := HA
        clear d1 hbl' hbo
        generalize ahd es k = a at *
        generalize es.getD k N.zero = X at *
        obtain ⟨xi, xn⟩ := X
        have H1 := hid_intro (fun w => NameR.spec_any xi w hsz)
        have H2 := hid_intro (fun w => snum xn w)
        have HE : Hid (lOk ⟨xi, xn⟩ = (nameB xi && (nOk xn && decide (xn ≠ 0)))) := rfl
        dsimp only at HM HF c0 c1 d0 hsz
        generalize lOk ⟨xi, xn⟩ = r at *
        generalize nameB xi = b1 at *
        generalize nOk xn = b2 at *
        have hz := nil_cases xn
        generalize decide (xn ≠ 0) = b3 at *
        have hj1 : IntKind.i64.wrap ((k : Int) - 1) = (j : Int) := by rw [IntKind.wrap_i64]; omega
        have hj2 : 0 < k := by omega
        have hj3 : (j : Int) < (len : Int) := by omega
        clear hkj
        cases b1
        · clear hz
          have HR : Hid (R = false) := hid_intro (HF.out (fun h => by rw [HE.out] at h; exact absurd h.2 (by simp)))
          clear HM HF HE
          go_wp2_with fail
          go_quiet ((first | (go_at_call 115; exact Calls.quiet_of_same (H1.out _)) | (go_at_call 122; exact Calls.quiet_of_same (H2.out _))))
          go_wp2_with fail
          go_ret
          exact ⟨ret_bool HR.out.symm, bdrewN HB.out _⟩
        rcases le_cases xi yi with ⟨q1, q2⟩ | ⟨q1, q3, q4, q2⟩ | ⟨q1, q3, q4, q2⟩
        · clear hz
          have HR : Hid (R = false) := hid_intro (HF.out (fun h => by rw [HA.out, q2] at h; exact absurd h.1 (by simp)))
          have q5 := le_ge1 q1
          clear HM HF HE q2
          go_wp2_with fail
          go_quiet ((first | (go_at_call 115; exact Calls.quiet_of_same (H1.out _)) | (go_at_call 122; exact Calls.quiet_of_same (H2.out _))))
          go_wp2_with fail
          go_ret
          exact ⟨ret_bool HR.out.symm, bdrewN HB.out _⟩
        · clear hz
          have HR : Hid (R = false) := hid_intro (HF.out (fun h => by rw [HA.out, q2] at h; exact absurd h.1 (by simp)))
          obtain rfl := toList_inj q3
          have q5 : Op.bytesLess xi.toList xi.toList = false := q1
          clear HM HF HE q2 q3 q4
          go_wp2_with fail
          go_quiet ((first | (go_at_call 115; exact Calls.quiet_of_same (H1.out _)) | (go_at_call 122; exact Calls.quiet_of_same (H2.out _))))
          go_wp2_with fail
          go_ret
          exact ⟨ret_bool HR.out.symm, bdrewN HB.out _⟩
        have q5 : Op.bytesLess yi.toList xi.toList = true := q2
        cases b2
        · clear hz
          have HR : Hid (R = false) := hid_intro (HF.out (fun h => by rw [HE.out] at h; exact absurd h.2 (by simp)))
          clear HM HF HE q2
          go_wp2_with fail
          go_quiet ((first | (go_at_call 115; exact Calls.quiet_of_same (H1.out _)) | (go_at_call 122; exact Calls.quiet_of_same (H2.out _))))
          go_wp2_with fail
          go_ret
          exact ⟨ret_bool HR.out.symm, bdrewN HB.out _⟩
        rcases hz with ⟨hz, rfl⟩ | ⟨hz, rfl⟩
        · skip
          have HR : Hid (R = false) := hid_intro (HF.out (fun h => by rw [HE.out] at h; exact absurd h.2 (by simp)))
          clear HM HF HE q2
          go_wp2_with fail
          go_quiet ((first | (go_at_call 115; exact Calls.quiet_of_same (H1.out _)) | (go_at_call 122; exact Calls.quiet_of_same (H2.out _))))
          go_wp2_with fail
          go_ret
          exact ⟨ret_bool HR.out.symm, bdrewN HB.out _⟩
        · skip
          have HM2 := hid_intro (HM.out (by rw [HA.out]; exact q2) (by rw [HE.out]; rfl))
          clear HM HF HE q2
          go_wp2_with fail
          go_quiet ((first | (go_at_call 115; exact Calls.quiet_of_same (H1.out _)) | (go_at_call 122; exact Calls.quiet_of_same (H2.out _))))
          go_wp2_with fail
          go_roundw
          case rel => exact ⟨k + 1, by omega, by go_num, HM2, hid_intro (bdrewN HB.out _)⟩
          case measure => simp [intOf]; omega
    · have hlt2 : ¬ (k : Int) < (len : Int) := by omega
      obtain rfl : k = len := by omega
      have HR : Hid (R = decide (k ≤ 6)) := hid_intro (by have e := HL.out; have h := HTE.out; rw [← e] at h; exact h HK.out)
      by_cases h40 : k ≤ 6
      · have h40' : (k : Int) ≤ 6 := by omega
        rw [decide_eq_true h40] at HR
        go_wp2_with fail
        go_ret
        exact ⟨ret_bool HR.out.symm, HB.out⟩
      · have h40' : ¬ (k : Int) ≤ 6 := by omega
        rw [decide_eq_false h40] at HR
        go_wp2_with fail
        go_ret
        exact ⟨ret_bool HR.out.symm, HB.out⟩
end LinR
end Go.Proofs.YtjfmdcdclifpkaaGreatDoor
