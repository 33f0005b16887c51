/-
  The bytes of a window, on both sides. The conditions: texts of at most 1048576 bytes, lists of at most 1048576; the program's table stands in its variable.
-/
import Derived.Test.YtnfppcndadfpcabDoorWdN
import Derived.Test.YtnfppcndadfpcabDoorWdSr
import Derived.Test.YtnfppcndadfpcabDoorTxB
namespace Go.Proofs.YtnfppcndadfpcabDoor
open Go.ChangeShapes Go.WideShapes Go.ChangeAt Go.RowKit
set_option linter.unusedVariables false
namespace WinR
open RowG (take_more)
open NumR (numB numB_size)
open JoinR (joinB jl)
open CatR (Blk Blk.new)
open DateR (Laid)
def hP (x : H) : List ByteArray := [numB x.h, numB x.s]
def wH (x : Wd) : List ByteArray := [txB x.a, txB x.m, numB x.mo, numB x.ev, numB x.su, numB x.mx]
def qA (x : Wd) (k : Nat) : List ByteArray := (wH x ++ [numB x.ts.length]) ++ (x.ts.take k).map txB
def qB (x : Wd) (k : Nat) : List ByteArray := (qA x x.ts.length ++ [numB x.hs.length]) ++ (x.hs.take k).flatMap hP
def wP (x : Wd) : List ByteArray := qB x x.hs.length
/-- A window's bytes. -/
def wBy (x : Wd) : ByteArray := bif wB x then joinB (wP x) else ⟨#[]⟩
/-- What is known of a right window, in numbers. -/
theorem right_bd {x : Wd} (h : wB x = true) : (x.a.size ≤ 20 ∧ x.m.size ≤ 20) ∧ (0 ≤ x.mo ∧ x.mo ≤ 2760) ∧ (1 ≤ x.ev ∧ x.ev ≤ 1000) ∧ (0 ≤ x.su ∧ x.su ≤ 1000000000000) ∧ (0 ≤ x.mx ∧ x.mx ≤ x.su) ∧ (x.ts.length ≤ 12 ∧ ∀ t ∈ x.ts, t.size ≤ 20) ∧ (1 ≤ x.hs.length ∧ x.hs.length ≤ 12) ∧ ∀ y ∈ x.hs, (0 ≤ y.h ∧ y.h ≤ 2016666) ∧ 0 ≤ y.s ∧ y.s ≤ 1000000000000 := by
  unfold wB namedB countedB tagsB timedB hoursB at h
  simp only [Bool.and_eq_true, decide_eq_true_eq] at h
  obtain ⟨⟨n1, n2, n3⟩, ⟨c1, c2, c3⟩, ⟨t1, _, t3⟩, d1, _, d3, _⟩ := h
  have nl : ∀ s : ByteArray, NameR.nameB s = true → s.size ≤ 20 := fun s hs => by
    rcases Nat.lt_or_ge 20 s.size with q | q
    · rw [NameR.name_size (.inr q)] at hs; cases hs
    · exact q
  refine ⟨⟨nl _ n1, nl _ n2⟩, n3, c1, c2, c3, ⟨t1, fun t ht => ?_⟩, d1, fun y hy => ?_⟩
  · have := List.all_eq_true.1 t3 t ht
    unfold tagOk EvtR.tagB at this
    simp only [Bool.and_eq_true, decide_eq_true_eq] at this
    have := this.2.1
    omega
  · have := List.all_eq_true.1 d3 y hy
    unfold hOk hourIn at this
    simp only [Bool.and_eq_true, decide_eq_true_eq] at this
    exact ⟨⟨this.1.1, this.1.2.1⟩, this.2.1, by omega⟩
theorem wH_le {x : Wd} (h : wB x = true) : ∀ y ∈ wH x, y.size ≤ 40 := by
  obtain ⟨⟨b1, b2⟩, b3, b4, b5, b6, b7, b8, b9⟩ := right_bd h
  intro y hy
  simp only [wH, List.mem_cons, List.not_mem_nil, or_false] at hy
  rcases hy with rfl | rfl | rfl | rfl | rfl | rfl
  · exact txt_le b1
  · exact txt_le b2
  · exact num_le b3.1 (by omega)
  · exact num_le (by omega) (by omega)
  · exact num_le b5.1 b5.2
  · exact num_le b6.1 (by omega)
theorem qA_le {x : Wd} (h : wB x = true) (k : Nat) : (∀ y ∈ qA x k, y.size ≤ 40) ∧ (qA x k).length ≤ 19 := by
  obtain ⟨⟨b1, b2⟩, b3, b4, b5, b6, b7, b8, b9⟩ := right_bd h
  constructor
  · intro y hy
    unfold qA at hy
    simp only [List.mem_append, List.mem_cons, List.not_mem_nil, or_false, List.mem_map] at hy
    rcases hy with (hy | rfl) | ⟨u, hu, rfl⟩
    · exact wH_le h y hy
    · exact num_le (by omega) (by omega)
    · exact txt_le (b7.2 u (List.mem_of_mem_take hu))
  · unfold qA wH
    simp only [List.length_append, List.length_cons, List.length_nil, List.length_map, List.length_take]
    omega
theorem hP_len (l : List H) : (l.flatMap hP).length = 2 * l.length := by
  induction l with
  | nil => rfl
  | cons y l ih => simp only [List.flatMap_cons, List.length_append, ih, hP, List.length_cons, List.length_nil]; omega
theorem qB_le {x : Wd} (h : wB x = true) (k : Nat) : (∀ y ∈ qB x k, y.size ≤ 40) ∧ (qB x k).length ≤ 44 := by
  obtain ⟨⟨b1, b2⟩, b3, b4, b5, b6, b7, b8, b9⟩ := right_bd h
  have hA := qA_le h x.ts.length
  constructor
  · intro y hy
    unfold qB at hy
    simp only [List.mem_append, List.mem_cons, List.not_mem_nil, or_false, List.mem_flatMap] at hy
    rcases hy with (hy | rfl) | ⟨u, hu, hy⟩
    · exact hA.1 y hy
    · exact num_le (by omega) (by omega)
    · have := b9 u (List.mem_of_mem_take hu)
      simp only [hP, List.mem_cons, List.not_mem_nil, or_false] at hy
      rcases hy with rfl | rfl
      · exact num_le this.1.1 (by omega)
      · exact num_le this.2.1 this.2.2
  · have := hA.2
    unfold qB
    simp only [List.length_append, List.length_cons, List.length_nil, hP_len, List.length_take]
    omega
theorem qA_size {x : Wd} (h : wB x = true) (k : Nat) : (joinB (qA x k)).size ≤ 2000 := by
  have h1 := qA_le h k
  have := join_size_le 40 _ h1.1
  omega
theorem qB_size {x : Wd} (h : wB x = true) (k : Nat) : (joinB (qB x k)).size ≤ 2000 := by
  have h1 := qB_le h k
  have := join_size_le 40 _ h1.1
  omega
theorem qA_more (x : Wd) (k : Nat) (h : k < x.ts.length) : qA x (k + 1) = qA x k ++ [txB (x.ts.getD k tz)] := by
  unfold qA; rw [take_map x.ts txB tz k h, ← List.append_assoc]
theorem qB_more (x : Wd) (k : Nat) (h : k < x.hs.length) : qB x (k + 1) = qB x k ++ [numB (x.hs.getD k H.zero).h, numB (x.hs.getD k H.zero).s] := by
  unfold qB; rw [take_flat x.hs hP H.zero k h, ← List.append_assoc]; rfl
/-- The window's block, as the regions read it. -/
def WBx (w : World) (a m : ByteArray) (mo ev su mx : Int) (ta : Option Addr) (tl tc : Nat) (ha : Option Addr) (hl hc : Nat) (W : World) : Prop := Below w.heap.size w W ∧ w.heap.size < W.heap.size ∧ W.cell? ⟨w.heap.size, 0, none⟩ = some (.string a) ∧ W.cell? ⟨w.heap.size, 1, none⟩ = some (.string m) ∧ W.cell? ⟨w.heap.size, 2, none⟩ = some (.int .i64 mo) ∧ W.cell? ⟨w.heap.size, 3, none⟩ = some (.int .i64 ev) ∧ W.cell? ⟨w.heap.size, 4, none⟩ = some (.int .i64 su) ∧ W.cell? ⟨w.heap.size, 5, none⟩ = some (.int .i64 mx) ∧ W.cell? ⟨w.heap.size, 6, none⟩ = some (.slice ta tl tc) ∧ W.cell? ⟨w.heap.size, 7, none⟩ = some (.slice ha hl hc)
theorem WBx.below {w : World} {a m : ByteArray} {mo ev su mx : Int} {ta : Option Addr} {tl tc : Nat} {ha : Option Addr} {hl hc : Nat} {W W' : World} (h : WBx w a m mo ev su mx ta tl tc ha hl hc W) (hb : Below W.heap.size W W') : WBx w a m mo ev su mx ta tl tc ha hl hc W' := by
  obtain ⟨h0, h1, c0, c1, c2, c3, c4, c5, c6, c7⟩ := h
  have c := fun o => hb.cell (p := ⟨w.heap.size, o, none⟩) h1
  have := hb.size
  exact ⟨h0.trans (hb.mono h0.size), by omega, (c 0).trans c0, (c 1).trans c1, (c 2).trans c2, (c 3).trans c3, (c 4).trans c4, (c 5).trans c5, (c 6).trans c6, (c 7).trans c7⟩
theorem WBx.blk {w : World} {a m : ByteArray} {mo ev su mx : Int} {ta : Option Addr} {tl tc : Nat} {ha : Option Addr} {hl hc : Nat} {W : World} (h : WBx w a m mo ev su mx ta tl tc ha hl hc W) : Blk w.heap.size [.string a, .string m, .int .i64 mo, .int .i64 ev, .int .i64 su, .int .i64 mx, .slice ta tl tc, .slice ha hl hc] W := by
  obtain ⟨h0, h1, c0, c1, c2, c3, c4, c5, c6, c7⟩ := h
  exact ⟨h1, fun i hi => by
    match i, hi with
    | 0, _ => exact c0
    | 1, _ => exact c1
    | 2, _ => exact c2
    | 3, _ => exact c3
    | 4, _ => exact c4
    | 5, _ => exact c5
    | 6, _ => exact c6
    | 7, _ => exact c7⟩
theorem WBx.of {w : World} {a m : ByteArray} {mo ev su mx : Int} {ta : Option Addr} {tl tc : Nat} {ha : Option Addr} {hl hc : Nat} {W : World} (hb : Below w.heap.size w W) (h : Blk w.heap.size [.string a, .string m, .int .i64 mo, .int .i64 ev, .int .i64 su, .int .i64 mx, .slice ta tl tc, .slice ha hl hc] W) : WBx w a m mo ev su mx ta tl tc ha hl hc W :=
  ⟨hb, h.1, h.2 0 (by simp), h.2 1 (by simp), h.2 2 (by simp), h.2 3 (by simp), h.2 4 (by simp), h.2 5 (by simp), h.2 6 (by simp), h.2 7 (by simp)⟩
set_option maxRecDepth 100000 in
set_option maxHeartbeats 8000000 in
theorem impl_wb_in (a m : ByteArray) (mo ev su mx : Int) (ts : List ByteArray) (hs : List H) (ta : Option Addr) (tc : Nat) (ha : Option Addr) (hc : Nat) (T1 T2 T3 T4 T5 T6 T7 T8 : ByteArray) (QA QB : Nat → List ByteArray) (w : World) (l1 : ts.length ≤ 12) (l2 : hs.length ≤ 12) (hT : Tgs ta ts w) (hH : Hrs ha hs w)
    (hr : ∀ W, Below w.heap.size w W → Calls Tryd.prog 24 #[.agg #[.string a, .string m, .int .i64 mo, .int .i64 ev, .int .i64 su, .int .i64 mx, .slice ta ts.length tc, .slice ha hs.length hc]] W fun e w' => e = .returned (.bool true) ∧ Below W.heap.size W w')
    (p1 : ∀ W, Calls Tryd.prog 29 #[.string a] W fun e w' => e = .returned (.string T1) ∧ Below W.heap.size W w') (p2 : ∀ W, Calls Tryd.prog 29 #[.string m] W fun e w' => e = .returned (.string T2) ∧ Below W.heap.size W w') (p3 : ∀ W, Calls Tryd.prog 30 #[.int .i64 mo] W fun e w' => e = .returned (.string T3) ∧ Below W.heap.size W w') (p4 : ∀ W, Calls Tryd.prog 30 #[.int .i64 ev] W fun e w' => e = .returned (.string T4) ∧ Below W.heap.size W w') (p5 : ∀ W, Calls Tryd.prog 30 #[.int .i64 su] W fun e w' => e = .returned (.string T5) ∧ Below W.heap.size W w') (p6 : ∀ W, Calls Tryd.prog 30 #[.int .i64 mx] W fun e w' => e = .returned (.string T6) ∧ Below W.heap.size W w') (p7 : ∀ W, Calls Tryd.prog 30 #[.int .i64 (ts.length : Int)] W fun e w' => e = .returned (.string T7) ∧ Below W.heap.size W w') (p8 : ∀ W, Calls Tryd.prog 30 #[.int .i64 (hs.length : Int)] W fun e w' => e = .returned (.string T8) ∧ Below W.heap.size W w')
    (s7 : ∀ t ∈ ts, t.size ≤ 20) (s9 : ∀ y ∈ hs, (0 ≤ y.h ∧ y.h ≤ 2016666) ∧ 0 ≤ y.s ∧ y.s ≤ 1000000000000)
    (hA0 : QA 0 = [T1, T2, T3, T4, T5, T6] ++ [T7]) (hAM : ∀ k, k < ts.length → QA (k + 1) = QA k ++ [numB (ts.getD k tz).size ++ ts.getD k tz])
    (hB0 : QB 0 = QA ts.length ++ [T8]) (hBM : ∀ k, k < hs.length → QB (k + 1) = QB k ++ [numB (hs.getD k H.zero).h, numB (hs.getD k H.zero).s]) (hBS : (joinB (QB hs.length)).size ≤ 2000) :
    Calls Tryd.prog 12 #[.agg #[.string a, .string m, .int .i64 mo, .int .i64 ev, .int .i64 su, .int .i64 mx, .slice ta ts.length tc, .slice ha hs.length hc]] w fun e w' => e = .returned (.string (joinB (QB hs.length))) ∧ Below w.heap.size w w' := by
  obtain ⟨i0, hi, hz0, hz1, hz2⟩ := info_parts infoS
  have HR := hid_intro hr
  have HT := hid_intro hT
  have HH := hid_intro hH
  have P1 := hid_intro p1
  have P2 := hid_intro p2
  have P3 := hid_intro p3
  have P4 := hid_intro p4
  have P5 := hid_intro p5
  have P6 := hid_intro p6
  have P7 := hid_intro p7
  have P8 := hid_intro p8
  have S7 := hid_intro s7
  have S9 := hid_intro s9
  have HA0 := hid_intro hA0
  have HAM := hid_intro hAM
  have HB0' := hid_intro hB0
  have HBM := hid_intro hBM
  have HBS := hid_intro hBS
  obtain ⟨R, hR⟩ : ∃ R, R = joinB (QB hs.length) := ⟨_, rfl⟩
  have HRR := hid_intro hR
  obtain ⟨tl, htl⟩ : ∃ tl, tl = ts.length := ⟨_, rfl⟩
  obtain ⟨hl, hhl⟩ : ∃ hl, hl = hs.length := ⟨_, rfl⟩
  have HTL := hid_intro htl
  have HHL := hid_intro hhl
  rw [← htl] at l1 HR P7 HAM HB0' ⊢
  rw [← hhl] at l2 HR P8 HBM HBS HRR ⊢
  rw [← HRR.out]
  clear hr hT hH p1 p2 p3 p4 p5 p6 p7 p8 s7 s9 hA0 hAM hB0 hBM hBS hR htl hhl
  have HB0 : Hid (Below w.heap.size w (w.alloc (.cells #[.string a, .string m, .int .i64 mo, .int .i64 ev, .int .i64 su, .int .i64 mx, .slice ta tl tc, .slice ha hl hc] 30))) := hid_intro ((Below.refl _ _).alloc (Nat.le_refl _) _)
  have HX0 := hid_intro (Blk.new w [.string a, .string m, .int .i64 mo, .int .i64 ev, .int .i64 su, .int .i64 mx, .slice ta tl tc, .slice ha hl hc] 30)
  go_enter Tryd.func12, Tryd.ntmps12
  go_wp2_with fail
  refine (HR.out _ HB0.out).mono ?_
  rintro e w1 ⟨rfl, hb1⟩
  have HS0 : Hid (WBx w a m mo ev su mx ta tl tc ha hl hc w1.drew) := hid_intro (WBx.below (WBx.of (HB0.out.trans (hb1.mono HB0.out.size)) (HX0.out.below hb1)) (Below.refl _ _).drew)
  clear hb1 HB0 HX0
  go_wp2_with fail
  refine wp_region_held_drew (S := (fun W => Below w.heap.size w W ∧ w.heap.size < W.heap.size ∧ W.cell? ⟨w.heap.size, 0, none⟩ = some (.string a) ∧ W.cell? ⟨w.heap.size, 1, none⟩ = some (.string m) ∧ W.cell? ⟨w.heap.size, 2, none⟩ = some (.int .i64 mo) ∧ W.cell? ⟨w.heap.size, 3, none⟩ = some (.int .i64 ev) ∧ W.cell? ⟨w.heap.size, 4, none⟩ = some (.int .i64 su) ∧ W.cell? ⟨w.heap.size, 5, none⟩ = some (.int .i64 mx) ∧ W.cell? ⟨w.heap.size, 6, none⟩ = some (.slice ta tl tc) ∧ W.cell? ⟨w.heap.size, 7, none⟩ = some (.slice ha hl hc))) (by kernel_rfl) HS0.out (fun hHeld => ?_)
  refine wpAnyH_take (i := 0) (oi := { dst := some 11, op := Op.fieldAddr 30 (Operand.tmp 1) 0, type := 0, pos := "l07_window.go:294", after := #[], guard := none }) (v := ?_) rfl (by kernel_rfl) (by kernel_rfl) (by kernel_rfl) (fun _ _ _ h => h) (Or.inl ⟨by rfl, ?_⟩) (by assumption) ?_
  rotate_left
  · (intro w hSw; (try dsimp only at hSw); go_simp) <;> with_reducible rfl
  try simp only [Act.put, List.setIfInBounds_toArray, List.set_cons_zero, List.set_cons_succ]
  refine wpAnyH_take (i := 1) (oi := { dst := some 12, op := Op.load 9 (Operand.tmp 11), type := 9, pos := "l07_window.go:294", after := #[{ on := 0, ground := Ground.data }], guard := none }) (v := ?_) rfl (by kernel_rfl) (by kernel_rfl) (by kernel_rfl) (fun _ _ _ h => h) (Or.inl ⟨by rfl, ?_⟩) (by assumption) ?_
  rotate_left
  · (intro w hSw; (try dsimp only at hSw); go_simp) <;> with_reducible rfl
  try simp only [Act.put, List.setIfInBounds_toArray, List.set_cons_zero, List.set_cons_succ]
  refine wpAnyH_take (i := 3) (oi := { dst := some 14, op := Op.fieldAddr 30 (Operand.tmp 1) 1, type := 0, pos := "l07_window.go:294", after := #[], guard := none }) (v := ?_) rfl (by kernel_rfl) (by kernel_rfl) (by kernel_rfl) (fun _ _ _ h => h) (Or.inl ⟨by rfl, ?_⟩) (by assumption) ?_
  rotate_left
  · (intro w hSw; (try dsimp only at hSw); go_simp) <;> with_reducible rfl
  try simp only [Act.put, List.setIfInBounds_toArray, List.set_cons_zero, List.set_cons_succ]
  refine wpAnyH_take (i := 4) (oi := { dst := some 15, op := Op.load 9 (Operand.tmp 14), type := 9, pos := "l07_window.go:294", after := #[{ on := 3, ground := Ground.data }], guard := none }) (v := ?_) rfl (by kernel_rfl) (by kernel_rfl) (by kernel_rfl) (fun _ _ _ h => h) (Or.inl ⟨by rfl, ?_⟩) (by assumption) ?_
  rotate_left
  · (intro w hSw; (try dsimp only at hSw); go_simp) <;> with_reducible rfl
  try simp only [Act.put, List.setIfInBounds_toArray, List.set_cons_zero, List.set_cons_succ]
  refine wpAnyH_take (i := 6) (oi := { dst := some 17, op := Op.fieldAddr 30 (Operand.tmp 1) 2, type := 0, pos := "l07_window.go:294", after := #[], guard := none }) (v := ?_) rfl (by kernel_rfl) (by kernel_rfl) (by kernel_rfl) (fun _ _ _ h => h) (Or.inl ⟨by rfl, ?_⟩) (by assumption) ?_
  rotate_left
  · (intro w hSw; (try dsimp only at hSw); go_simp) <;> with_reducible rfl
  try simp only [Act.put, List.setIfInBounds_toArray, List.set_cons_zero, List.set_cons_succ]
  refine wpAnyH_take (i := 7) (oi := { dst := some 18, op := Op.load 2 (Operand.tmp 17), type := 2, pos := "l07_window.go:294", after := #[{ on := 6, ground := Ground.data }], guard := none }) (v := ?_) rfl (by kernel_rfl) (by kernel_rfl) (by kernel_rfl) (fun _ _ _ h => h) (Or.inl ⟨by rfl, ?_⟩) (by assumption) ?_
  rotate_left
  · (intro w hSw; (try dsimp only at hSw); go_simp) <;> with_reducible rfl
  try simp only [Act.put, List.setIfInBounds_toArray, List.set_cons_zero, List.set_cons_succ]
  refine wpAnyH_take (i := 9) (oi := { dst := some 20, op := Op.fieldAddr 30 (Operand.tmp 1) 3, type := 0, pos := "l07_window.go:294", after := #[], guard := none }) (v := ?_) rfl (by kernel_rfl) (by kernel_rfl) (by kernel_rfl) (fun _ _ _ h => h) (Or.inl ⟨by rfl, ?_⟩) (by assumption) ?_
  rotate_left
  · (intro w hSw; (try dsimp only at hSw); go_simp) <;> with_reducible rfl
  try simp only [Act.put, List.setIfInBounds_toArray, List.set_cons_zero, List.set_cons_succ]
  refine wpAnyH_take (i := 10) (oi := { dst := some 21, op := Op.load 2 (Operand.tmp 20), type := 2, pos := "l07_window.go:294", after := #[{ on := 9, ground := Ground.data }], guard := none }) (v := ?_) rfl (by kernel_rfl) (by kernel_rfl) (by kernel_rfl) (fun _ _ _ h => h) (Or.inl ⟨by rfl, ?_⟩) (by assumption) ?_
  rotate_left
  · (intro w hSw; (try dsimp only at hSw); go_simp) <;> with_reducible rfl
  try simp only [Act.put, List.setIfInBounds_toArray, List.set_cons_zero, List.set_cons_succ]
  refine wpAnyH_take (i := 12) (oi := { dst := some 23, op := Op.fieldAddr 30 (Operand.tmp 1) 4, type := 0, pos := "l07_window.go:294", after := #[], guard := none }) (v := ?_) rfl (by kernel_rfl) (by kernel_rfl) (by kernel_rfl) (fun _ _ _ h => h) (Or.inl ⟨by rfl, ?_⟩) (by assumption) ?_
  rotate_left
  · (intro w hSw; (try dsimp only at hSw); go_simp) <;> with_reducible rfl
  try simp only [Act.put, List.setIfInBounds_toArray, List.set_cons_zero, List.set_cons_succ]
  refine wpAnyH_take (i := 13) (oi := { dst := some 24, op := Op.load 2 (Operand.tmp 23), type := 2, pos := "l07_window.go:294", after := #[{ on := 12, ground := Ground.data }], guard := none }) (v := ?_) rfl (by kernel_rfl) (by kernel_rfl) (by kernel_rfl) (fun _ _ _ h => h) (Or.inl ⟨by rfl, ?_⟩) (by assumption) ?_
  rotate_left
  · (intro w hSw; (try dsimp only at hSw); go_simp) <;> with_reducible rfl
  try simp only [Act.put, List.setIfInBounds_toArray, List.set_cons_zero, List.set_cons_succ]
  refine wpAnyH_take (i := 15) (oi := { dst := some 26, op := Op.fieldAddr 30 (Operand.tmp 1) 5, type := 0, pos := "l07_window.go:294", after := #[], guard := none }) (v := ?_) rfl (by kernel_rfl) (by kernel_rfl) (by kernel_rfl) (fun _ _ _ h => h) (Or.inl ⟨by rfl, ?_⟩) (by assumption) ?_
  rotate_left
  · (intro w hSw; (try dsimp only at hSw); go_simp) <;> with_reducible rfl
  try simp only [Act.put, List.setIfInBounds_toArray, List.set_cons_zero, List.set_cons_succ]
  refine wpAnyH_take (i := 16) (oi := { dst := some 27, op := Op.load 2 (Operand.tmp 26), type := 2, pos := "l07_window.go:294", after := #[{ on := 15, ground := Ground.data }], guard := none }) (v := ?_) rfl (by kernel_rfl) (by kernel_rfl) (by kernel_rfl) (fun _ _ _ h => h) (Or.inl ⟨by rfl, ?_⟩) (by assumption) ?_
  rotate_left
  · (intro w hSw; (try dsimp only at hSw); go_simp) <;> with_reducible rfl
  try simp only [Act.put, List.setIfInBounds_toArray, List.set_cons_zero, List.set_cons_succ]
  refine wpAnyH_ready (rs := [2]) (by kernel_rfl) (by simp) ?_
  refine AllReadyH.cons (o := { dst := some 13, op := Op.call { callee := Callee.value (Operand.func 29), args := #[Operand.tmp 12], argTypes := #[9] }, type := 9, pos := "l07_window.go:294", after := #[{ on := 1, ground := Ground.data }], guard := none }) rfl (fun K hK => ?_) AllReadyH.nil
  go_simp
  go_at_call 29
  refine (P1.out _).mono ?_
  rintro e q1 ⟨rfl, hq1⟩
  try go_wp2_with fail
  have hk1 := WBx.below (w := w) (a := a) (m := m) (mo := mo) (ev := ev) (su := su) (mx := mx) (ta := ta) (tl := tl) (tc := tc) (ha := ha) (hl := hl) (hc := hc) HS0.out hq1
  refine hK.out _ _ hk1 (fun _ => ?_)
  clear hK K
  try simp only [Act.put, List.setIfInBounds_toArray, List.set_cons_zero, List.set_cons_succ]
  refine wpAnyH_ready (rs := [5]) (by kernel_rfl) (by simp) ?_
  refine AllReadyH.cons (o := { dst := some 16, op := Op.call { callee := Callee.value (Operand.func 29), args := #[Operand.tmp 15], argTypes := #[9] }, type := 9, pos := "l07_window.go:294", after := #[{ on := 4, ground := Ground.data }, { on := 2, ground := Ground.chain }], guard := none }) rfl (fun K hK => ?_) AllReadyH.nil
  go_simp
  go_at_call 29
  refine (P2.out _).mono ?_
  rintro e q2 ⟨rfl, hq2⟩
  try go_wp2_with fail
  have hk2 := WBx.below (w := w) (a := a) (m := m) (mo := mo) (ev := ev) (su := su) (mx := mx) (ta := ta) (tl := tl) (tc := tc) (ha := ha) (hl := hl) (hc := hc) hk1 hq2
  refine hK.out _ _ hk2 (fun _ => ?_)
  clear hK K
  try simp only [Act.put, List.setIfInBounds_toArray, List.set_cons_zero, List.set_cons_succ]
  refine wpAnyH_ready (rs := [8]) (by kernel_rfl) (by simp) ?_
  refine AllReadyH.cons (o := { dst := some 19, op := Op.call { callee := Callee.value (Operand.func 30), args := #[Operand.tmp 18], argTypes := #[2] }, type := 9, pos := "l07_window.go:294", after := #[{ on := 7, ground := Ground.data }, { on := 5, ground := Ground.chain }], guard := none }) rfl (fun K hK => ?_) AllReadyH.nil
  go_simp
  go_at_call 30
  refine (P3.out _).mono ?_
  rintro e q3 ⟨rfl, hq3⟩
  try go_wp2_with fail
  have hk3 := WBx.below (w := w) (a := a) (m := m) (mo := mo) (ev := ev) (su := su) (mx := mx) (ta := ta) (tl := tl) (tc := tc) (ha := ha) (hl := hl) (hc := hc) hk2 hq3
  refine hK.out _ _ hk3 (fun _ => ?_)
  clear hK K
  try simp only [Act.put, List.setIfInBounds_toArray, List.set_cons_zero, List.set_cons_succ]
  refine wpAnyH_ready (rs := [11]) (by kernel_rfl) (by simp) ?_
  refine AllReadyH.cons (o := { dst := some 22, op := Op.call { callee := Callee.value (Operand.func 30), args := #[Operand.tmp 21], argTypes := #[2] }, type := 9, pos := "l07_window.go:294", after := #[{ on := 10, ground := Ground.data }, { on := 8, ground := Ground.chain }], guard := none }) rfl (fun K hK => ?_) AllReadyH.nil
  go_simp
  go_at_call 30
  refine (P4.out _).mono ?_
  rintro e q4 ⟨rfl, hq4⟩
  try go_wp2_with fail
  have hk4 := WBx.below (w := w) (a := a) (m := m) (mo := mo) (ev := ev) (su := su) (mx := mx) (ta := ta) (tl := tl) (tc := tc) (ha := ha) (hl := hl) (hc := hc) hk3 hq4
  refine hK.out _ _ hk4 (fun _ => ?_)
  clear hK K
  try simp only [Act.put, List.setIfInBounds_toArray, List.set_cons_zero, List.set_cons_succ]
  refine wpAnyH_ready (rs := [14]) (by kernel_rfl) (by simp) ?_
  refine AllReadyH.cons (o := { dst := some 25, op := Op.call { callee := Callee.value (Operand.func 30), args := #[Operand.tmp 24], argTypes := #[2] }, type := 9, pos := "l07_window.go:294", after := #[{ on := 13, ground := Ground.data }, { on := 11, ground := Ground.chain }], guard := none }) rfl (fun K hK => ?_) AllReadyH.nil
  go_simp
  go_at_call 30
  refine (P5.out _).mono ?_
  rintro e q5 ⟨rfl, hq5⟩
  try go_wp2_with fail
  have hk5 := WBx.below (w := w) (a := a) (m := m) (mo := mo) (ev := ev) (su := su) (mx := mx) (ta := ta) (tl := tl) (tc := tc) (ha := ha) (hl := hl) (hc := hc) hk4 hq5
  refine hK.out _ _ hk5 (fun _ => ?_)
  clear hK K
  try simp only [Act.put, List.setIfInBounds_toArray, List.set_cons_zero, List.set_cons_succ]
  refine wpAnyH_ready (rs := [17]) (by kernel_rfl) (by simp) ?_
  refine AllReadyH.cons (o := { dst := some 28, op := Op.call { callee := Callee.value (Operand.func 30), args := #[Operand.tmp 27], argTypes := #[2] }, type := 9, pos := "l07_window.go:294", after := #[{ on := 16, ground := Ground.data }, { on := 14, ground := Ground.chain }], guard := none }) rfl (fun K hK => ?_) AllReadyH.nil
  go_simp
  go_at_call 30
  refine (P6.out _).mono ?_
  rintro e q6 ⟨rfl, hq6⟩
  try go_wp2_with fail
  have hk6 := WBx.below (w := w) (a := a) (m := m) (mo := mo) (ev := ev) (su := su) (mx := mx) (ta := ta) (tl := tl) (tc := tc) (ha := ha) (hl := hl) (hc := hc) hk5 hq6
  refine hK.out _ _ hk6 (fun _ => ?_)
  clear hK K
  try simp only [Act.put, List.setIfInBounds_toArray, List.set_cons_zero, List.set_cons_succ]
  refine wpAnyH_ready (rs := [18]) (by kernel_rfl) (by simp) ?_
  refine AllReadyH.cons (o := { dst := some 29, op := Op.buildSlice 22 6 #[(0, Operand.tmp 13), (1, Operand.tmp 16), (2, Operand.tmp 19), (3, Operand.tmp 22), (4, Operand.tmp 25), (5, Operand.tmp 28)], type := 22, pos := "l07_window.go:294", after := #[{ on := 2, ground := Ground.data }, { on := 5, ground := Ground.data }, { on := 8, ground := Ground.data }, { on := 11, ground := Ground.data }, { on := 14, ground := Ground.data }, { on := 17, ground := Ground.data }], guard := none }) rfl (fun K hK => ?_) AllReadyH.nil
  go_simp
  try go_wp2_with fail
  have hk7 := WBx.below (w := w) (a := a) (m := m) (mo := mo) (ev := ev) (su := su) (mx := mx) (ta := ta) (tl := tl) (tc := tc) (ha := ha) (hl := hl) (hc := hc) hk6 ((Below.refl q6.heap.size q6).alloc (Nat.le_refl _) (Obj.cells #[Value.string T1, Value.string T2, Value.string T3, Value.string T4, Value.string T5, Value.string T6] 9))
  refine hK.out _ _ hk7 (fun _ => ?_)
  clear hK K
  try simp only [Act.put, List.setIfInBounds_toArray, List.set_cons_zero, List.set_cons_succ]
  refine wpAnyH_take (i := 19) (oi := { dst := some 3, op := Op.assign (Operand.tmp 29), type := 22, pos := "l07_window.go:294", after := #[{ on := 18, ground := Ground.data }, { on := 17, ground := Ground.chain }, { on := 0, ground := Ground.phase }, { on := 1, ground := Ground.phase }, { on := 2, ground := Ground.phase }, { on := 3, ground := Ground.phase }, { on := 4, ground := Ground.phase }, { on := 5, ground := Ground.phase }, { on := 6, ground := Ground.phase }, { on := 7, ground := Ground.phase }, { on := 8, ground := Ground.phase }, { on := 9, ground := Ground.phase }, { on := 10, ground := Ground.phase }, { on := 11, ground := Ground.phase }, { on := 12, ground := Ground.phase }, { on := 13, ground := Ground.phase }, { on := 14, ground := Ground.phase }, { on := 15, ground := Ground.phase }, { on := 16, ground := Ground.phase }, { on := 17, ground := Ground.phase }, { on := 18, ground := Ground.phase }], guard := none }) (v := ?_) rfl (by kernel_rfl) (by kernel_rfl) (by kernel_rfl) (fun _ _ _ h => h) (Or.inl ⟨by rfl, ?_⟩) (by assumption) ?_
  rotate_left
  · (intro w hSw; (try dsimp only at hSw); go_simp) <;> with_reducible rfl
  try simp only [Act.put, List.setIfInBounds_toArray, List.set_cons_zero, List.set_cons_succ]
  refine wpAnyH_done (by kernel_rfl) ?_ _
  have HO0 : Hid ((q6.alloc (Obj.cells #[Value.string T1, Value.string T2, Value.string T3, Value.string T4, Value.string T5, Value.string T6] 9)).ownsRow (w.heap.size + 1) 9 1 (.slice (some ⟨q6.heap.size, 0, none⟩) 6 6) 6 ([T1, T2, T3, T4, T5, T6].map Value.string)) := hid_intro (by
    have := hk6.2.1
    exact ⟨by simp, .inr ⟨q6.heap.size, 6, #[.string T1, .string T2, .string T3, .string T4, .string T5, .string T6], rfl, by omega, heap_alloc_new q6 _, by omega, by unfold maxLen; omega, by simp, by simp⟩⟩)
  have HB7 := hid_intro hk7.1
  have HX7 := hid_intro (WBx.blk hk7)
  clear hk1 hk2 hk3 hk4 hk5 hk6 hk7 hq1 hq2 hq3 hq4 hq5 hq6 HS0
  obtain ⟨W7, hW7⟩ : ∃ W7, W7 = q6.alloc (Obj.cells #[Value.string T1, Value.string T2, Value.string T3, Value.string T4, Value.string T5, Value.string T6] 9) := ⟨_, rfl⟩
  rw [← hW7] at HO0 HB7 HX7 ⊢
  clear hW7
  obtain ⟨xl, xc⟩ := HX7.out
  have x6 : W7.cell? ⟨w.heap.size, 6, none⟩ = some (.slice ta tl tc) := xc 6 (by simp)
  clear xc
  go_wp2_with fail
  refine (P7.out _).mono ?_
  rintro e w2 ⟨rfl, hb2⟩
  have HO2 := hid_intro (own_below HO0.out hb2)
  have HB2 := hid_intro (HB7.out.trans (hb2.mono HB7.out.size))
  have HX2 := hid_intro (HX7.out.below hb2)
  clear hb2 x6 xl HB7 HX7 HO0
  go_wp2_with (at_builtin; refine wpList_append_own _ rfl _ _ 22 rfl (w.heap.size + 1) 9 i0 (.string ⟨#[]⟩) 1 16 Tryd.underlying22 hi hz0 hz1 hz2 rfl (by decide) _ _ _ rfl (HO2.out.alloc _) ⟨w2.heap.size, 0, none⟩ 1 1 [.string T7] rfl rfl (one_cell _ _ _) (one_one _) ?d3 ?d4 ?d5 ?_)
  case d3 => unfold maxLen; omega
  case d4 => omega
  case d5 => have h1 := HX2.out.1; simp; omega
  intro v3 w3 hown hgrow hne
  have HO3 : Hid (w3.ownsRow (w.heap.size + 1) 9 1 v3 (7 + 0) ((QA 0).map Value.string)) := hid_intro (by rw [HA0.out, List.map_append]; exact hown)
  have HV3 : Hid (v3 ≠ .slice none 0 0) := hid_intro (by first | exact hne | exact fun h => absurd (hne.1 h).1 (by simp))
  have HB3 : Hid (Below w.heap.size w w3) := hid_intro ((HB2.out.alloc HB2.out.size _).grown hgrow (HB2.out.alloc HB2.out.size _).size (fun k e => by have := (HO2.out.lt k e).1; omega))
  have HX3 : Hid (Blk w.heap.size [.string a, .string m, .int .i64 mo, .int .i64 ev, .int .i64 su, .int .i64 mx, .slice ta tl tc, .slice ha hl hc] w3) := hid_intro (blk_grown (HX2.out.alloc _) hgrow (fun e => by have := HO2.out.lt _ e.symm; omega))
  clear hown hgrow hne HB2 HX2 HO2
  obtain ⟨xl, xc⟩ := HX3.out
  have x6 : w3.cell? ⟨w.heap.size, 6, none⟩ = some (.slice ta tl tc) := xc 6 (by simp)
  clear xc
  go_wp2_with fail
  go_loopw [3, 40] (fun v z wr => ∃ (j : Nat), j ≤ tl ∧ z = .int .i64 j ∧ Hid (wr.ownsRow (w.heap.size + 1) 9 1 v (7 + j) ((QA j).map Value.string)) ∧ Hid (v ≠ .slice none 0 0) ∧ Hid (Below w.heap.size w wr) ∧ Hid (Blk w.heap.size [.string a, .string m, .int .i64 mo, .int .i64 ev, .int .i64 su, .int .i64 mx, .slice ta tl tc, .slice ha hl hc] wr)) (fun v z _ => tl - (intOf z).toNat)
  case atStart => exact ⟨0, by omega, rfl, HO3, HV3, HB3, HX3⟩
  case round =>
    clear HO3 HB3 HX3 HV3 xl x6
    obtain ⟨j, hj, rfl, HO, HV, HB, HX⟩ := hrel
    by_cases hlt : j < tl
    · have hlt2 : (j : Int) < (tl : Int) := by omega
      have hjl : j < ts.length := by have := HTL.out; omega
      obtain ⟨b, off, rfl, hbl, c0⟩ := (HT.out.below HB.out).at j hjl
      have hsz := S7.out _ (RowG.getD_mem (z := tz) ts j hjl)
      have HC1 := hid_intro (HAM.out j hlt)
      have HPT := hid_intro (fun w => PutTextL.impl_text (ts.getD j tz) w (by omega))
      generalize numB ((ts.getD j tz).size : Int) ++ ts.getD j tz = G at *
      generalize ts.getD j tz = Y at *
      go_wp2_with fail
      refine (HPT.out _).mono ?_
      rintro e w4 ⟨rfl, hb4⟩
      have HO4 := hid_intro (own_below HO.out hb4)
      have HW4 := hid_intro (HB.out.trans (hb4.mono HB.out.size))
      have HA4 := hid_intro (HX.out.below hb4)
      clear hb4 c0
      go_wp2_with (at_builtin; refine wpList_append_own _ rfl _ _ 22 rfl (w.heap.size + 1) 9 i0 (.string ⟨#[]⟩) 1 16 Tryd.underlying22 hi hz0 hz1 hz2 rfl (by decide) _ _ _ rfl (HO4.out.alloc _) ⟨w4.heap.size, 0, none⟩ 1 1 [.string G] rfl rfl (one_cell _ _ _) (one_one _) ?f3 ?f4 ?f5 ?_)
      case f3 => unfold maxLen; omega
      case f4 => omega
      case f5 => have h1 := HA4.out.1; simp; omega
      intro v' w5 hown hgrow hne
      have HO5 : Hid (w5.ownsRow (w.heap.size + 1) 9 1 v' (7 + (j + 1)) ((QA (j + 1)).map Value.string)) := hid_intro (by rw [HC1.out, List.map_append, ← Nat.add_assoc]; exact hown)
      have HV5 : Hid (v' ≠ .slice none 0 0) := hid_intro (by first | exact hne | exact fun h => HV.out (hne.1 h).1)
      have HB5 : Hid (Below w.heap.size w w5) := hid_intro ((HW4.out.alloc HW4.out.size _).grown hgrow (HW4.out.alloc HW4.out.size _).size (fun k e => by have := (HO.out.lt k e).1; omega))
      have HA5 := hid_intro (blk_grown (HA4.out.alloc _) hgrow (fun e => by have := HO.out.lt _ e.symm; omega))
      clear hown hgrow hne
      go_wp2_with fail
      go_roundw
      case rel => exact ⟨j + 1, by omega, by go_num, HO5, HV5, HB5, HA5⟩
      case measure => simp [intOf]; omega
    · obtain rfl : j = tl := by omega
      obtain ⟨xl, xc⟩ := HX.out
      have x7 : wr.cell? ⟨w.heap.size, 7, none⟩ = some (.slice ha hl hc) := xc 7 (by simp)
      clear xc
      go_wp2_with fail
      refine (P8.out _).mono ?_
      rintro e w4 ⟨rfl, hb4⟩
      have HO4 := hid_intro (own_below HO.out hb4)
      have HW4 := hid_intro (HB.out.trans (hb4.mono HB.out.size))
      have HA4 := hid_intro (HX.out.below hb4)
      clear hb4 x7 xl
      go_wp2_with (at_builtin; refine wpList_append_own _ rfl _ _ 22 rfl (w.heap.size + 1) 9 i0 (.string ⟨#[]⟩) 1 16 Tryd.underlying22 hi hz0 hz1 hz2 rfl (by decide) _ _ _ rfl (HO4.out.alloc _) ⟨w4.heap.size, 0, none⟩ 1 1 [.string T8] rfl rfl (one_cell _ _ _) (one_one _) ?g3 ?g4 ?g5 ?_)
      case g3 => unfold maxLen; omega
      case g4 => omega
      case g5 => have h1 := HA4.out.1; simp; omega
      intro v' w5 hown hgrow hne
      have HO5 : Hid (w5.ownsRow (w.heap.size + 1) 9 1 v' (8 + j + 2 * 0) ((QB 0).map Value.string)) := hid_intro (by rw [HB0'.out, List.map_append, show 8 + j + 2 * 0 = 7 + j + 1 by omega]; exact hown)
      have HV5 : Hid (v' ≠ .slice none 0 0) := hid_intro (by first | exact hne | exact fun h => HV.out (hne.1 h).1)
      have HB5 : Hid (Below w.heap.size w w5) := hid_intro ((HW4.out.alloc HW4.out.size _).grown hgrow (HW4.out.alloc HW4.out.size _).size (fun k e => by have := (HO.out.lt k e).1; omega))
      have HA5 := hid_intro (blk_grown (HA4.out.alloc _) hgrow (fun e => by have := HO.out.lt _ e.symm; omega))
      obtain ⟨xl, xc⟩ := HA5.out
      have x7 : w5.cell? ⟨w.heap.size, 7, none⟩ = some (.slice ha hl hc) := xc 7 (by simp)
      clear hown hgrow hne xc
      go_wp2_with fail
      go_loopw [3, 60] (fun v z wx => ∃ (i : Nat), i ≤ hl ∧ z = .int .i64 i ∧ Hid (wx.ownsRow (w.heap.size + 1) 9 1 v (8 + j + 2 * i) ((QB i).map Value.string)) ∧ Hid (v ≠ .slice none 0 0) ∧ Hid (Below w.heap.size w wx)) (fun v z _ => hl - (intOf z).toNat)
      case atStart => exact ⟨0, by omega, rfl, HO5, HV5, HB5⟩
      case round =>
        clear HO5 HV5 HB5 HA5 xl x7 HO4 HW4 HA4 HO HV HB HX
        obtain ⟨i, hi2, rfl, HO, HV, HB⟩ := hrel
        by_cases hlt3 : i < hl
        · have hlt2 : (i : Int) < (hl : Int) := by omega
          have hil : i < hs.length := by have := HHL.out; omega
          obtain ⟨b, off, rfl, hbl, c0, c1⟩ := (HH.out.below HB.out).at i hil
          have u1 := S9.out _ (RowG.getD_mem (z := H.zero) hs i hil)
          have HC1 := hid_intro (HBM.out i hlt3)
          generalize hs.getD i H.zero = Y at *
          obtain ⟨U, P⟩ := Y
          dsimp only at c0 c1 u1 HC1
          obtain ⟨⟨u2, u3⟩, u4, u5⟩ := u1
          have Q1 := hid_intro (fun w => NumR.impl_put U w (by omega))
          have Q2 := hid_intro (fun w => NumR.impl_put P w (by omega))
          generalize numB U = X1 at *
          generalize numB P = X2 at *
          clear u2 u3 u4 u5
          have HAl : Hid (BM2 w wr.heap.size (.int .i64 U) (.int .i64 P) (wr.alloc (.cells #[.int .i64 U, .int .i64 P] 57))) := hid_intro ⟨HB.out.alloc HB.out.size _, by simp, by simp [go_sem], by simp [go_sem]⟩
          have HAd := hid_intro HAl.out.drew
          have HOA := hid_intro (own_drew (HO.out.alloc (.cells #[.int .i64 U, .int .i64 P] 57)))
          have sz1 : 8 + j + 2 * i + 2 ≤ maxLen := by unfold maxLen; omega
          have sz2 : (8 + j + 2 * i + 2) * 16 ≤ 140737488355328 := by omega
          have sz3 : 0 < 1 := by omega
          go_wp2_with fail
          go_region_held3 (fun W => Below w.heap.size w W ∧ wr.heap.size < W.heap.size ∧ W.cell? ⟨wr.heap.size, 0, none⟩ = some (.int .i64 U) ∧ W.cell? ⟨wr.heap.size, 1, none⟩ = some (.int .i64 P))
            (first | assumption | (exact HAl.out) | (exact HAd.out) | (exact BM2.below (w := w) (B := wr.heap.size) (by assumption) hb1) | (exact BM2.below (w := w) (B := wr.heap.size) (by assumption) hb2) | (exact BM2.below (w := w) (B := wr.heap.size) (by assumption) ((Below.refl _ _).alloc (Nat.le_refl _) _)) | (exact BM2.grown (w := w) (B := wr.heap.size) (by assumption) hgrow HO.out rfl (Nat.le_succ _)))
            (first | (go_at_call_of 30 (Value.int .i64 U); refine (Q1.out _).mono ?_; rintro e w1 ⟨rfl, hb1⟩; have HO1 := hid_intro (own_below HOA.out hb1)) | (go_at_call_of 30 (Value.int .i64 P); refine (Q2.out _).mono ?_; rintro e w2 ⟨rfl, hb2⟩; have HO2 := hid_intro (own_below HO1.out hb2)) | (refine step_append_own rfl _ _ 22 rfl (w.heap.size + 1) 9 i0 (.string ⟨#[]⟩) 1 16 Tryd.underlying22 hi hz0 hz1 hz2 rfl sz3 _ _ _ rfl (HO2.out.alloc _) ⟨w2.heap.size, 0, none⟩ 2 2 [.string X1, .string X2] rfl rfl (two_cells _ _ _ _) (two_one _ _) sz1 sz2 (own_base (HO2.out.alloc _) HV.out) ?_; intro v' w4 hown hgrow hne))
          rename_i hS
          have HS4 := hid_intro hS.1
          have HO4 : Hid (w4.ownsRow (w.heap.size + 1) 9 1 v' (8 + j + 2 * (i + 1)) ((QB (i + 1)).map Value.string)) := hid_intro (by
            rw [HC1.out, List.map_append, show 8 + j + 2 * (i + 1) = 8 + j + 2 * i + 2 by omega]
            exact hown)
          have HV4 : Hid (v' ≠ .slice none 0 0) := hid_intro (by first | exact hne | exact fun h => HV.out (hne.1 h).1)
          clear hown hgrow hne hS
          go_wp2_with fail
          go_roundw
          case rel => exact ⟨i + 1, by omega, by go_num, HO4, HV4, HS4⟩
          case measure => simp [intOf]; omega
        · obtain rfl : i = hl := by omega
          obtain ⟨q, cap', rfl, hg, hn, hcap, hcell⟩ := own_texts HO.out HV.out
          have hj2 := JoinR.join_len (QB i) q cap' _ (by omega) (by omega) hg hcell (by rw [jl_size]; have := HBS.out; omega)
          rw [hn] at hj2
          have HJ2 := hid_intro hj2
          clear hj2 hcell
          go_wp2_with fail
          refine HJ2.out.mono ?_
          rintro e w6 ⟨rfl, hb⟩
          have HB6 := hid_intro (HB.out.trans (hb.mono HB.out.size))
          clear hb
          go_wp2_with fail
          go_ret
          exact ⟨ret_str HRR.out.symm, HB6.out⟩
end WinR
end Go.Proofs.YtnfppcndadfpcabDoor
