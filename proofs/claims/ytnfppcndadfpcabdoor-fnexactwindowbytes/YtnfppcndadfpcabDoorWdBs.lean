/-
  The bytes of a window, the model's side, and both sides. The conditions: texts of at most 1048576 bytes, lists of at most 1048576; the program's table stands in its variable.
-/
import Derived.Test.YtnfppcndadfpcabDoorWdB
namespace Go.Proofs.YtnfppcndadfpcabDoor
open Go.ChangeShapes Go.WideShapes Go.ChangeAt Go.RowKit
set_option linter.unusedVariables false
namespace WinR
open RowG (take_more)
open NumR (numB numB_size)
open JoinR (joinB jl)
open CatR (Blk Blk.new)
open DateR (Laid)
/-- What a round of the hours reads. -/
def WHx (w wr : World) (ha : Option Addr) (hl hc b o : Nat) (U P : Int) (W : World) : Prop := Below wr.heap.size wr W ∧ w.heap.size < wr.heap.size ∧ b < wr.heap.size ∧ W.cell? ⟨w.heap.size, 7, none⟩ = some (.slice ha hl hc) ∧ W.cell? ⟨b, o, none⟩ = some (.int .i64 U) ∧ W.cell? ⟨b, o + 1, none⟩ = some (.int .i64 P)
theorem WHx.below {w wr : World} {ha : Option Addr} {hl hc b o : Nat} {U P : Int} {W W' : World} (h : WHx w wr ha hl hc b o U P W) (hb : Below W.heap.size W W') : WHx w wr ha hl hc b o U P W' := by
  obtain ⟨h0, h1, h2, c0, c1, c2⟩ := h
  have s := h0.size
  exact ⟨h0.trans (hb.mono h0.size), h1, h2, (hb.cell (p := ⟨w.heap.size, 7, none⟩) (Nat.lt_of_lt_of_le h1 s)).trans c0, (hb.cell (p := ⟨b, o, none⟩) (Nat.lt_of_lt_of_le h2 s)).trans c1, (hb.cell (p := ⟨b, o + 1, none⟩) (Nat.lt_of_lt_of_le h2 s)).trans c2⟩
set_option maxRecDepth 100000 in
set_option maxHeartbeats 16000000 in
theorem spec_wb_in (a m : ByteArray) (mo ev su mx : Int) (ts : List ByteArray) (hs : List H) (ta : Option Addr) (tc : Nat) (ha : Option Addr) (hc : Nat) (T1 T2 T3 T4 T5 T6 T7 T8 : ByteArray) (QA QB : Nat → List ByteArray) (w : World) (l1 : ts.length ≤ 12) (l2 : hs.length ≤ 12) (hT : Tgs ta ts w) (hH : Hrs ha hs w)
    (p1 : ∀ W, Calls Tryd.prog 54 #[.string a] W fun e w' => e = .returned (.string T1) ∧ Below W.heap.size W w') (p2 : ∀ W, Calls Tryd.prog 54 #[.string m] W fun e w' => e = .returned (.string T2) ∧ Below W.heap.size W w') (p3 : ∀ W, Calls Tryd.prog 55 #[.int .i64 mo] W fun e w' => e = .returned (.string T3) ∧ Below W.heap.size W w') (p4 : ∀ W, Calls Tryd.prog 55 #[.int .i64 ev] W fun e w' => e = .returned (.string T4) ∧ Below W.heap.size W w') (p5 : ∀ W, Calls Tryd.prog 55 #[.int .i64 su] W fun e w' => e = .returned (.string T5) ∧ Below W.heap.size W w') (p6 : ∀ W, Calls Tryd.prog 55 #[.int .i64 mx] W fun e w' => e = .returned (.string T6) ∧ Below W.heap.size W w') (p7 : ∀ W, Calls Tryd.prog 55 #[.int .i64 (ts.length : Int)] W fun e w' => e = .returned (.string T7) ∧ Below W.heap.size W w') (p8 : ∀ W, Calls Tryd.prog 55 #[.int .i64 (hs.length : Int)] W fun e w' => e = .returned (.string T8) ∧ Below W.heap.size W w')
    (z1 : T1.size ≤ 40) (z2 : T2.size ≤ 40) (z3 : T3.size ≤ 40) (z4 : T4.size ≤ 40) (z5 : T5.size ≤ 40) (z6 : T6.size ≤ 40) (z7 : T7.size ≤ 40) (z8 : T8.size ≤ 40)
    (s7 : ∀ t ∈ ts, t.size ≤ 20) (s9 : ∀ y ∈ hs, (0 ≤ y.h ∧ y.h ≤ 2016666) ∧ 0 ≤ y.s ∧ y.s ≤ 1000000000000)
    (hA0 : QA 0 = [T1, T2, T3, T4, T5, T6] ++ [T7]) (hAM : ∀ k, k < ts.length → QA (k + 1) = QA k ++ [numB (ts.getD k tz).size ++ ts.getD k tz]) (hAS : ∀ k, (joinB (QA k)).size ≤ 2000)
    (hB0 : QB 0 = QA ts.length ++ [T8]) (hBM : ∀ k, k < hs.length → QB (k + 1) = QB k ++ [numB (hs.getD k H.zero).h, numB (hs.getD k H.zero).s]) (hBS : ∀ k, (joinB (QB k)).size ≤ 2000) :
    Calls Tryd.prog 28 #[.agg #[.string a, .string m, .int .i64 mo, .int .i64 ev, .int .i64 su, .int .i64 mx, .slice ta ts.length tc, .slice ha hs.length hc]] w fun e w' => e = .returned (.string (joinB (QB hs.length))) ∧ Below w.heap.size w w' := by
  have HT := hid_intro hT
  have HH := hid_intro hH
  have P1 := hid_intro p1
  have P2 := hid_intro p2
  have P3 := hid_intro p3
  have P4 := hid_intro p4
  have P5 := hid_intro p5
  have P6 := hid_intro p6
  have P7 := hid_intro p7
  have P8 := hid_intro p8
  have S7 := hid_intro s7
  have S9 := hid_intro s9
  have HJ0 : Hid (joinB (QA 0) = T1 ++ T2 ++ T3 ++ T4 ++ T5 ++ T6 ++ T7) := hid_intro (by rw [hA0]; apply ByteArray.ext; simp [joinB])
  have HJM : Hid (∀ k, k < ts.length → joinB (QA (k + 1)) = joinB (QA k) ++ (numB (ts.getD k tz).size ++ ts.getD k tz)) := hid_intro (fun k hk => by rw [hAM k hk, joinB_app, joinB_one])
  have HK0 : Hid (joinB (QB 0) = joinB (QA ts.length) ++ T8) := hid_intro (by rw [hB0, joinB_app, joinB_one])
  have HKM : Hid (∀ k, k < hs.length → joinB (QB (k + 1)) = joinB (QB k) ++ numB (hs.getD k H.zero).h ++ numB (hs.getD k H.zero).s) := hid_intro (fun k hk => by rw [hBM k hk, joinB_app, joinB_two]; apply ByteArray.ext; simp [Array.append_assoc])
  have HAS := hid_intro hAS
  have HBS := hid_intro hBS
  obtain ⟨JA, hJA⟩ : ∃ JA : Nat → ByteArray, ∀ k, JA k = joinB (QA k) := ⟨_, fun _ => rfl⟩
  obtain ⟨JB, hJB⟩ : ∃ JB : Nat → ByteArray, ∀ k, JB k = joinB (QB k) := ⟨_, fun _ => rfl⟩
  have HJ0 : Hid (JA 0 = T1 ++ T2 ++ T3 ++ T4 ++ T5 ++ T6 ++ T7) := hid_intro (by rw [hJA]; exact HJ0.out)
  have HJM : Hid (∀ k, k < ts.length → JA (k + 1) = JA k ++ (numB (ts.getD k tz).size ++ ts.getD k tz)) := hid_intro (fun k hk => by rw [hJA, hJA]; exact HJM.out k hk)
  have HK0 : Hid (JB 0 = JA ts.length ++ T8) := hid_intro (by rw [hJA, hJB]; exact HK0.out)
  have HKM : Hid (∀ k, k < hs.length → JB (k + 1) = JB k ++ numB (hs.getD k H.zero).h ++ numB (hs.getD k H.zero).s) := hid_intro (fun k hk => by rw [hJB, hJB]; exact HKM.out k hk)
  have HAS : Hid (∀ k, (JA k).size ≤ 2000) := hid_intro (fun k => by rw [hJA]; exact hAS k)
  have HBS : Hid (∀ k, (JB k).size ≤ 2000) := hid_intro (fun k => by rw [hJB]; exact hBS k)
  rw [← hJB]
  have v1 : ¬ 9223372036854775807 < T1.size + T2.size := by omega
  have v2 : ¬ 9223372036854775807 < T1.size + T2.size + T3.size := by omega
  have v3 : ¬ 9223372036854775807 < T1.size + T2.size + T3.size + T4.size := by omega
  have v4 : ¬ 9223372036854775807 < T1.size + T2.size + T3.size + T4.size + T5.size := by omega
  have v5 : ¬ 9223372036854775807 < T1.size + T2.size + T3.size + T4.size + T5.size + T6.size := by omega
  have v6 : ¬ 9223372036854775807 < T1.size + T2.size + T3.size + T4.size + T5.size + T6.size + T7.size := by omega
  obtain ⟨tl, htl⟩ : ∃ tl, tl = ts.length := ⟨_, rfl⟩
  obtain ⟨hl, hhl⟩ : ∃ hl, hl = hs.length := ⟨_, rfl⟩
  have HTL := hid_intro htl
  have HHL := hid_intro hhl
  rw [← htl] at l1 P7 HJM HK0 ⊢
  rw [← hhl] at l2 P8 HKM ⊢
  clear hT hH p1 p2 p3 p4 p5 p6 p7 p8 s7 s9 hA0 hAM hAS hB0 hBM hBS hJA hJB htl hhl
  have HS0 : Hid (WBx w a m mo ev su mx ta tl tc ha hl hc ((w.alloc (.cells #[.string a, .string m, .int .i64 mo, .int .i64 ev, .int .i64 su, .int .i64 mx, .slice ta tl tc, .slice ha hl hc] 30)).drew)) := hid_intro (WBx.below (WBx.of ((Below.refl _ _).alloc (Nat.le_refl _) _) (Blk.new w [.string a, .string m, .int .i64 mo, .int .i64 ev, .int .i64 su, .int .i64 mx, .slice ta tl tc, .slice ha hl hc] 30)) (Below.refl _ _).drew)
  go_enter Tryd.func28, Tryd.ntmps28
  go_wp2_with fail
  refine wp_region_held_drew (S := (fun W => Below w.heap.size w W ∧ w.heap.size < W.heap.size ∧ W.cell? ⟨w.heap.size, 0, none⟩ = some (.string a) ∧ W.cell? ⟨w.heap.size, 1, none⟩ = some (.string m) ∧ W.cell? ⟨w.heap.size, 2, none⟩ = some (.int .i64 mo) ∧ W.cell? ⟨w.heap.size, 3, none⟩ = some (.int .i64 ev) ∧ W.cell? ⟨w.heap.size, 4, none⟩ = some (.int .i64 su) ∧ W.cell? ⟨w.heap.size, 5, none⟩ = some (.int .i64 mx) ∧ W.cell? ⟨w.heap.size, 6, none⟩ = some (.slice ta tl tc) ∧ W.cell? ⟨w.heap.size, 7, none⟩ = some (.slice ha hl hc))) (by kernel_rfl) HS0.out (fun hHeld => ?_)
  refine wpAnyH_take (i := 0) (oi := { dst := some 6, op := Op.fieldAddr 30 (Operand.tmp 1) 0, type := 0, pos := "l07_window.go:140", after := #[], guard := none }) (v := ?_) rfl (by kernel_rfl) (by kernel_rfl) (by kernel_rfl) (fun _ _ _ h => h) (Or.inl ⟨by rfl, ?_⟩) (by assumption) ?_
  rotate_left
  · (intro w hSw; (try dsimp only at hSw); go_simp) <;> with_reducible rfl
  try simp only [Act.put, List.setIfInBounds_toArray, List.set_cons_zero, List.set_cons_succ]
  refine wpAnyH_take (i := 1) (oi := { dst := some 7, op := Op.load 9 (Operand.tmp 6), type := 9, pos := "l07_window.go:140", after := #[{ on := 0, ground := Ground.data }], guard := none }) (v := ?_) rfl (by kernel_rfl) (by kernel_rfl) (by kernel_rfl) (fun _ _ _ h => h) (Or.inl ⟨by rfl, ?_⟩) (by assumption) ?_
  rotate_left
  · (intro w hSw; (try dsimp only at hSw); go_simp) <;> with_reducible rfl
  try simp only [Act.put, List.setIfInBounds_toArray, List.set_cons_zero, List.set_cons_succ]
  refine wpAnyH_take (i := 3) (oi := { dst := some 9, op := Op.fieldAddr 30 (Operand.tmp 1) 1, type := 0, pos := "l07_window.go:140", after := #[], guard := none }) (v := ?_) rfl (by kernel_rfl) (by kernel_rfl) (by kernel_rfl) (fun _ _ _ h => h) (Or.inl ⟨by rfl, ?_⟩) (by assumption) ?_
  rotate_left
  · (intro w hSw; (try dsimp only at hSw); go_simp) <;> with_reducible rfl
  try simp only [Act.put, List.setIfInBounds_toArray, List.set_cons_zero, List.set_cons_succ]
  refine wpAnyH_take (i := 4) (oi := { dst := some 10, op := Op.load 9 (Operand.tmp 9), type := 9, pos := "l07_window.go:140", after := #[{ on := 3, ground := Ground.data }], guard := none }) (v := ?_) rfl (by kernel_rfl) (by kernel_rfl) (by kernel_rfl) (fun _ _ _ h => h) (Or.inl ⟨by rfl, ?_⟩) (by assumption) ?_
  rotate_left
  · (intro w hSw; (try dsimp only at hSw); go_simp) <;> with_reducible rfl
  try simp only [Act.put, List.setIfInBounds_toArray, List.set_cons_zero, List.set_cons_succ]
  refine wpAnyH_take (i := 7) (oi := { dst := some 13, op := Op.fieldAddr 30 (Operand.tmp 1) 2, type := 0, pos := "l07_window.go:140", after := #[], guard := none }) (v := ?_) rfl (by kernel_rfl) (by kernel_rfl) (by kernel_rfl) (fun _ _ _ h => h) (Or.inl ⟨by rfl, ?_⟩) (by assumption) ?_
  rotate_left
  · (intro w hSw; (try dsimp only at hSw); go_simp) <;> with_reducible rfl
  try simp only [Act.put, List.setIfInBounds_toArray, List.set_cons_zero, List.set_cons_succ]
  refine wpAnyH_take (i := 8) (oi := { dst := some 14, op := Op.load 2 (Operand.tmp 13), type := 2, pos := "l07_window.go:140", after := #[{ on := 7, ground := Ground.data }], guard := none }) (v := ?_) rfl (by kernel_rfl) (by kernel_rfl) (by kernel_rfl) (fun _ _ _ h => h) (Or.inl ⟨by rfl, ?_⟩) (by assumption) ?_
  rotate_left
  · (intro w hSw; (try dsimp only at hSw); go_simp) <;> with_reducible rfl
  try simp only [Act.put, List.setIfInBounds_toArray, List.set_cons_zero, List.set_cons_succ]
  refine wpAnyH_take (i := 11) (oi := { dst := some 17, op := Op.fieldAddr 30 (Operand.tmp 1) 3, type := 0, pos := "l07_window.go:140", after := #[], guard := none }) (v := ?_) rfl (by kernel_rfl) (by kernel_rfl) (by kernel_rfl) (fun _ _ _ h => h) (Or.inl ⟨by rfl, ?_⟩) (by assumption) ?_
  rotate_left
  · (intro w hSw; (try dsimp only at hSw); go_simp) <;> with_reducible rfl
  try simp only [Act.put, List.setIfInBounds_toArray, List.set_cons_zero, List.set_cons_succ]
  refine wpAnyH_take (i := 12) (oi := { dst := some 18, op := Op.load 2 (Operand.tmp 17), type := 2, pos := "l07_window.go:140", after := #[{ on := 11, ground := Ground.data }], guard := none }) (v := ?_) rfl (by kernel_rfl) (by kernel_rfl) (by kernel_rfl) (fun _ _ _ h => h) (Or.inl ⟨by rfl, ?_⟩) (by assumption) ?_
  rotate_left
  · (intro w hSw; (try dsimp only at hSw); go_simp) <;> with_reducible rfl
  try simp only [Act.put, List.setIfInBounds_toArray, List.set_cons_zero, List.set_cons_succ]
  refine wpAnyH_take (i := 15) (oi := { dst := some 21, op := Op.fieldAddr 30 (Operand.tmp 1) 4, type := 0, pos := "l07_window.go:140", after := #[], guard := none }) (v := ?_) rfl (by kernel_rfl) (by kernel_rfl) (by kernel_rfl) (fun _ _ _ h => h) (Or.inl ⟨by rfl, ?_⟩) (by assumption) ?_
  rotate_left
  · (intro w hSw; (try dsimp only at hSw); go_simp) <;> with_reducible rfl
  try simp only [Act.put, List.setIfInBounds_toArray, List.set_cons_zero, List.set_cons_succ]
  refine wpAnyH_take (i := 16) (oi := { dst := some 22, op := Op.load 2 (Operand.tmp 21), type := 2, pos := "l07_window.go:140", after := #[{ on := 15, ground := Ground.data }], guard := none }) (v := ?_) rfl (by kernel_rfl) (by kernel_rfl) (by kernel_rfl) (fun _ _ _ h => h) (Or.inl ⟨by rfl, ?_⟩) (by assumption) ?_
  rotate_left
  · (intro w hSw; (try dsimp only at hSw); go_simp) <;> with_reducible rfl
  try simp only [Act.put, List.setIfInBounds_toArray, List.set_cons_zero, List.set_cons_succ]
  refine wpAnyH_take (i := 19) (oi := { dst := some 25, op := Op.fieldAddr 30 (Operand.tmp 1) 5, type := 0, pos := "l07_window.go:140", after := #[], guard := none }) (v := ?_) rfl (by kernel_rfl) (by kernel_rfl) (by kernel_rfl) (fun _ _ _ h => h) (Or.inl ⟨by rfl, ?_⟩) (by assumption) ?_
  rotate_left
  · (intro w hSw; (try dsimp only at hSw); go_simp) <;> with_reducible rfl
  try simp only [Act.put, List.setIfInBounds_toArray, List.set_cons_zero, List.set_cons_succ]
  refine wpAnyH_take (i := 20) (oi := { dst := some 26, op := Op.load 2 (Operand.tmp 25), type := 2, pos := "l07_window.go:140", after := #[{ on := 19, ground := Ground.data }], guard := none }) (v := ?_) rfl (by kernel_rfl) (by kernel_rfl) (by kernel_rfl) (fun _ _ _ h => h) (Or.inl ⟨by rfl, ?_⟩) (by assumption) ?_
  rotate_left
  · (intro w hSw; (try dsimp only at hSw); go_simp) <;> with_reducible rfl
  try simp only [Act.put, List.setIfInBounds_toArray, List.set_cons_zero, List.set_cons_succ]
  refine wpAnyH_take (i := 23) (oi := { dst := some 29, op := Op.fieldAddr 30 (Operand.tmp 1) 6, type := 0, pos := "l07_window.go:140", after := #[], guard := none }) (v := ?_) rfl (by kernel_rfl) (by kernel_rfl) (by kernel_rfl) (fun _ _ _ h => h) (Or.inl ⟨by rfl, ?_⟩) (by assumption) ?_
  rotate_left
  · (intro w hSw; (try dsimp only at hSw); go_simp) <;> with_reducible rfl
  try simp only [Act.put, List.setIfInBounds_toArray, List.set_cons_zero, List.set_cons_succ]
  refine wpAnyH_take (i := 24) (oi := { dst := some 30, op := Op.load 22 (Operand.tmp 29), type := 22, pos := "l07_window.go:140", after := #[{ on := 23, ground := Ground.data }], guard := none }) (v := ?_) rfl (by kernel_rfl) (by kernel_rfl) (by kernel_rfl) (fun _ _ _ h => h) (Or.inl ⟨by rfl, ?_⟩) (by assumption) ?_
  rotate_left
  · (intro w hSw; (try dsimp only at hSw); go_simp) <;> with_reducible rfl
  try simp only [Act.put, List.setIfInBounds_toArray, List.set_cons_zero, List.set_cons_succ]
  refine wpAnyH_take (i := 25) (oi := { dst := some 31, op := Op.call { callee := Callee.builtin Builtin.len, args := #[Operand.tmp 30], argTypes := #[22] }, type := 3, pos := "l07_window.go:140", after := #[{ on := 24, ground := Ground.data }], guard := none }) (v := ?_) rfl (by kernel_rfl) (by kernel_rfl) (by kernel_rfl) (fun _ _ _ h => h) (Or.inl ⟨by rfl, ?_⟩) (by assumption) ?_
  rotate_left
  · (intro w hSw; (try dsimp only at hSw); go_simp) <;> with_reducible rfl
  try simp only [Act.put, List.setIfInBounds_toArray, List.set_cons_zero, List.set_cons_succ]
  refine wpAnyH_ready (rs := [2]) (by kernel_rfl) (by simp) ?_
  refine AllReadyH.cons (o := { dst := some 8, op := Op.call { callee := Callee.value (Operand.func 54), args := #[Operand.tmp 7], argTypes := #[9] }, type := 9, pos := "l07_window.go:140", after := #[{ on := 1, ground := Ground.data }], guard := none }) rfl (fun K hK => ?_) AllReadyH.nil
  go_simp
  go_at_call 54
  refine (P1.out _).mono ?_
  rintro e q1 ⟨rfl, hq1⟩
  try go_wp2_with fail
  have hk1 := WBx.below (w := w) (a := a) (m := m) (mo := mo) (ev := ev) (su := su) (mx := mx) (ta := ta) (tl := tl) (tc := tc) (ha := ha) (hl := hl) (hc := hc) HS0.out hq1
  refine hK.out _ _ hk1 (fun _ => ?_)
  clear hK K
  try simp only [Act.put, List.setIfInBounds_toArray, List.set_cons_zero, List.set_cons_succ]
  refine wpAnyH_ready (rs := [5]) (by kernel_rfl) (by simp) ?_
  refine AllReadyH.cons (o := { dst := some 11, op := Op.call { callee := Callee.value (Operand.func 54), args := #[Operand.tmp 10], argTypes := #[9] }, type := 9, pos := "l07_window.go:140", after := #[{ on := 4, ground := Ground.data }, { on := 2, ground := Ground.chain }], guard := none }) rfl (fun K hK => ?_) AllReadyH.nil
  go_simp
  go_at_call 54
  refine (P2.out _).mono ?_
  rintro e q2 ⟨rfl, hq2⟩
  try go_wp2_with fail
  have hk2 := WBx.below (w := w) (a := a) (m := m) (mo := mo) (ev := ev) (su := su) (mx := mx) (ta := ta) (tl := tl) (tc := tc) (ha := ha) (hl := hl) (hc := hc) hk1 hq2
  refine hK.out _ _ hk2 (fun _ => ?_)
  clear hK K
  try simp only [Act.put, List.setIfInBounds_toArray, List.set_cons_zero, List.set_cons_succ]
  refine wpAnyH_take (i := 6) (oi := { dst := some 12, op := Op.binOp BinOp.add 9 (Operand.tmp 8) (Operand.tmp 11) 9, type := 9, pos := "l07_window.go:140", after := #[{ on := 2, ground := Ground.data }, { on := 5, ground := Ground.data }], guard := none }) (v := ?_) rfl (by kernel_rfl) (by kernel_rfl) (by kernel_rfl) (fun _ _ _ h => h) (Or.inl ⟨by rfl, ?_⟩) (by assumption) ?_
  rotate_left
  · (intro w hSw; (try dsimp only at hSw); go_simp) <;> with_reducible rfl
  try simp only [Act.put, List.setIfInBounds_toArray, List.set_cons_zero, List.set_cons_succ]
  refine wpAnyH_ready (rs := [9]) (by kernel_rfl) (by simp) ?_
  refine AllReadyH.cons (o := { dst := some 15, op := Op.call { callee := Callee.value (Operand.func 55), args := #[Operand.tmp 14], argTypes := #[2] }, type := 9, pos := "l07_window.go:140", after := #[{ on := 8, ground := Ground.data }, { on := 5, ground := Ground.chain }], guard := none }) rfl (fun K hK => ?_) AllReadyH.nil
  go_simp
  go_at_call 55
  refine (P3.out _).mono ?_
  rintro e q3 ⟨rfl, hq3⟩
  try go_wp2_with fail
  have hk3 := WBx.below (w := w) (a := a) (m := m) (mo := mo) (ev := ev) (su := su) (mx := mx) (ta := ta) (tl := tl) (tc := tc) (ha := ha) (hl := hl) (hc := hc) hk2 hq3
  refine hK.out _ _ hk3 (fun _ => ?_)
  clear hK K
  try simp only [Act.put, List.setIfInBounds_toArray, List.set_cons_zero, List.set_cons_succ]
  refine wpAnyH_take (i := 10) (oi := { dst := some 16, op := Op.binOp BinOp.add 9 (Operand.tmp 12) (Operand.tmp 15) 9, type := 9, pos := "l07_window.go:140", after := #[{ on := 6, ground := Ground.data }, { on := 9, ground := Ground.data }], guard := none }) (v := ?_) rfl (by kernel_rfl) (by kernel_rfl) (by kernel_rfl) (fun _ _ _ h => h) (Or.inl ⟨by rfl, ?_⟩) (by assumption) ?_
  rotate_left
  · (intro w hSw; (try dsimp only at hSw); go_simp) <;> with_reducible rfl
  try simp only [Act.put, List.setIfInBounds_toArray, List.set_cons_zero, List.set_cons_succ]
  refine wpAnyH_ready (rs := [13]) (by kernel_rfl) (by simp) ?_
  refine AllReadyH.cons (o := { dst := some 19, op := Op.call { callee := Callee.value (Operand.func 55), args := #[Operand.tmp 18], argTypes := #[2] }, type := 9, pos := "l07_window.go:140", after := #[{ on := 12, ground := Ground.data }, { on := 9, ground := Ground.chain }], guard := none }) rfl (fun K hK => ?_) AllReadyH.nil
  go_simp
  go_at_call 55
  refine (P4.out _).mono ?_
  rintro e q4 ⟨rfl, hq4⟩
  try go_wp2_with fail
  have hk4 := WBx.below (w := w) (a := a) (m := m) (mo := mo) (ev := ev) (su := su) (mx := mx) (ta := ta) (tl := tl) (tc := tc) (ha := ha) (hl := hl) (hc := hc) hk3 hq4
  refine hK.out _ _ hk4 (fun _ => ?_)
  clear hK K
  try simp only [Act.put, List.setIfInBounds_toArray, List.set_cons_zero, List.set_cons_succ]
  refine wpAnyH_take (i := 14) (oi := { dst := some 20, op := Op.binOp BinOp.add 9 (Operand.tmp 16) (Operand.tmp 19) 9, type := 9, pos := "l07_window.go:140", after := #[{ on := 10, ground := Ground.data }, { on := 13, ground := Ground.data }], guard := none }) (v := ?_) rfl (by kernel_rfl) (by kernel_rfl) (by kernel_rfl) (fun _ _ _ h => h) (Or.inl ⟨by rfl, ?_⟩) (by assumption) ?_
  rotate_left
  · (intro w hSw; (try dsimp only at hSw); go_simp) <;> with_reducible rfl
  try simp only [Act.put, List.setIfInBounds_toArray, List.set_cons_zero, List.set_cons_succ]
  refine wpAnyH_ready (rs := [17]) (by kernel_rfl) (by simp) ?_
  refine AllReadyH.cons (o := { dst := some 23, op := Op.call { callee := Callee.value (Operand.func 55), args := #[Operand.tmp 22], argTypes := #[2] }, type := 9, pos := "l07_window.go:140", after := #[{ on := 16, ground := Ground.data }, { on := 13, ground := Ground.chain }], guard := none }) rfl (fun K hK => ?_) AllReadyH.nil
  go_simp
  go_at_call 55
  refine (P5.out _).mono ?_
  rintro e q5 ⟨rfl, hq5⟩
  try go_wp2_with fail
  have hk5 := WBx.below (w := w) (a := a) (m := m) (mo := mo) (ev := ev) (su := su) (mx := mx) (ta := ta) (tl := tl) (tc := tc) (ha := ha) (hl := hl) (hc := hc) hk4 hq5
  refine hK.out _ _ hk5 (fun _ => ?_)
  clear hK K
  try simp only [Act.put, List.setIfInBounds_toArray, List.set_cons_zero, List.set_cons_succ]
  refine wpAnyH_take (i := 18) (oi := { dst := some 24, op := Op.binOp BinOp.add 9 (Operand.tmp 20) (Operand.tmp 23) 9, type := 9, pos := "l07_window.go:140", after := #[{ on := 14, ground := Ground.data }, { on := 17, ground := Ground.data }], guard := none }) (v := ?_) rfl (by kernel_rfl) (by kernel_rfl) (by kernel_rfl) (fun _ _ _ h => h) (Or.inl ⟨by rfl, ?_⟩) (by assumption) ?_
  rotate_left
  · (intro w hSw; (try dsimp only at hSw); go_simp) <;> with_reducible rfl
  try simp only [Act.put, List.setIfInBounds_toArray, List.set_cons_zero, List.set_cons_succ]
  refine wpAnyH_ready (rs := [21]) (by kernel_rfl) (by simp) ?_
  refine AllReadyH.cons (o := { dst := some 27, op := Op.call { callee := Callee.value (Operand.func 55), args := #[Operand.tmp 26], argTypes := #[2] }, type := 9, pos := "l07_window.go:140", after := #[{ on := 20, ground := Ground.data }, { on := 17, ground := Ground.chain }], guard := none }) rfl (fun K hK => ?_) AllReadyH.nil
  go_simp
  go_at_call 55
  refine (P6.out _).mono ?_
  rintro e q6 ⟨rfl, hq6⟩
  try go_wp2_with fail
  have hk6 := WBx.below (w := w) (a := a) (m := m) (mo := mo) (ev := ev) (su := su) (mx := mx) (ta := ta) (tl := tl) (tc := tc) (ha := ha) (hl := hl) (hc := hc) hk5 hq6
  refine hK.out _ _ hk6 (fun _ => ?_)
  clear hK K
  try simp only [Act.put, List.setIfInBounds_toArray, List.set_cons_zero, List.set_cons_succ]
  refine wpAnyH_take (i := 22) (oi := { dst := some 28, op := Op.binOp BinOp.add 9 (Operand.tmp 24) (Operand.tmp 27) 9, type := 9, pos := "l07_window.go:140", after := #[{ on := 18, ground := Ground.data }, { on := 21, ground := Ground.data }], guard := none }) (v := ?_) rfl (by kernel_rfl) (by kernel_rfl) (by kernel_rfl) (fun _ _ _ h => h) (Or.inl ⟨by rfl, ?_⟩) (by assumption) ?_
  rotate_left
  · (intro w hSw; (try dsimp only at hSw); go_simp) <;> with_reducible rfl
  try simp only [Act.put, List.setIfInBounds_toArray, List.set_cons_zero, List.set_cons_succ]
  refine wpAnyH_ready (rs := [26]) (by kernel_rfl) (by simp) ?_
  refine AllReadyH.cons (o := { dst := some 32, op := Op.call { callee := Callee.value (Operand.func 55), args := #[Operand.tmp 31], argTypes := #[2] }, type := 9, pos := "l07_window.go:140", after := #[{ on := 25, ground := Ground.data }, { on := 21, ground := Ground.chain }], guard := none }) rfl (fun K hK => ?_) AllReadyH.nil
  go_simp
  go_at_call 55
  refine (P7.out _).mono ?_
  rintro e q7 ⟨rfl, hq7⟩
  try go_wp2_with fail
  have hk7 := WBx.below (w := w) (a := a) (m := m) (mo := mo) (ev := ev) (su := su) (mx := mx) (ta := ta) (tl := tl) (tc := tc) (ha := ha) (hl := hl) (hc := hc) hk6 hq7
  refine hK.out _ _ hk7 (fun _ => ?_)
  clear hK K
  try simp only [Act.put, List.setIfInBounds_toArray, List.set_cons_zero, List.set_cons_succ]
  refine wpAnyH_take (i := 27) (oi := { dst := some 33, op := Op.binOp BinOp.add 9 (Operand.tmp 28) (Operand.tmp 32) 9, type := 9, pos := "l07_window.go:140", after := #[{ on := 22, ground := Ground.data }, { on := 26, ground := Ground.data }], guard := none }) (v := ?_) rfl (by kernel_rfl) (by kernel_rfl) (by kernel_rfl) (fun _ _ _ h => h) (Or.inl ⟨by rfl, ?_⟩) (by assumption) ?_
  rotate_left
  · (intro w hSw; (try dsimp only at hSw); go_simp) <;> with_reducible rfl
  try simp only [Act.put, List.setIfInBounds_toArray, List.set_cons_zero, List.set_cons_succ]
  refine wpAnyH_take (i := 28) (oi := { dst := some 3, op := Op.assign (Operand.tmp 33), type := 9, pos := "l07_window.go:140", after := #[{ on := 27, ground := Ground.data }, { on := 26, ground := Ground.chain }, { on := 0, ground := Ground.phase }, { on := 1, ground := Ground.phase }, { on := 2, ground := Ground.phase }, { on := 3, ground := Ground.phase }, { on := 4, ground := Ground.phase }, { on := 5, ground := Ground.phase }, { on := 6, ground := Ground.phase }, { on := 7, ground := Ground.phase }, { on := 8, ground := Ground.phase }, { on := 9, ground := Ground.phase }, { on := 10, ground := Ground.phase }, { on := 11, ground := Ground.phase }, { on := 12, ground := Ground.phase }, { on := 13, ground := Ground.phase }, { on := 14, ground := Ground.phase }, { on := 15, ground := Ground.phase }, { on := 16, ground := Ground.phase }, { on := 17, ground := Ground.phase }, { on := 18, ground := Ground.phase }, { on := 19, ground := Ground.phase }, { on := 20, ground := Ground.phase }, { on := 21, ground := Ground.phase }, { on := 22, ground := Ground.phase }, { on := 23, ground := Ground.phase }, { on := 24, ground := Ground.phase }, { on := 25, ground := Ground.phase }, { on := 26, ground := Ground.phase }, { on := 27, ground := Ground.phase }], guard := none }) (v := ?_) rfl (by kernel_rfl) (by kernel_rfl) (by kernel_rfl) (fun _ _ _ h => h) (Or.inl ⟨by rfl, ?_⟩) (by assumption) ?_
  rotate_left
  · (intro w hSw; (try dsimp only at hSw); go_simp) <;> with_reducible rfl
  try simp only [Act.put, List.setIfInBounds_toArray, List.set_cons_zero, List.set_cons_succ]
  refine wpAnyH_done (by kernel_rfl) ?_ _
  have HB1 := hid_intro hk7.1
  have HX1 := hid_intro (WBx.blk hk7)
  clear hk1 hk2 hk3 hk4 hk5 hk6 hk7 hq1 hq2 hq3 hq4 hq5 hq6 hq7 HS0 v1 v2 v3 v4 v5 v6
  rw [← HJ0.out]
  go_wp2_with fail
  go_loopw [3, 4] (fun y z wr => ∃ k : Nat, k ≤ tl ∧ y = .string (JA k) ∧ z = .int .i64 k ∧ Hid (Below w.heap.size w wr) ∧ Hid (Blk w.heap.size [.string a, .string m, .int .i64 mo, .int .i64 ev, .int .i64 su, .int .i64 mx, .slice ta tl tc, .slice ha hl hc] wr)) (fun y z _ => tl - (intOf z).toNat)
  case atStart => exact ⟨0, by omega, rfl, rfl, HB1, HX1⟩
  case round =>
    clear HB1 HX1
    obtain ⟨k, hk, rfl, rfl, HB, HX⟩ := hrel
    have hxl := HX.out.1
    have x6 : wr.cell? ⟨w.heap.size, 6, none⟩ = some (.slice ta tl tc) := HX.out.2 6 (by simp)
    by_cases hlt : k < tl
    · have hlt2 : (k : Int) < (tl : Int) := by omega
      have hkl : k < ts.length := by have := HTL.out; omega
      obtain ⟨b, off, rfl, hbl, c0⟩ := (HT.out.below HB.out).at k hkl
      have hsz := S7.out _ (RowG.getD_mem (z := tz) ts k hkl)
      have HC := hid_intro (HJM.out k hlt)
      have HPT := hid_intro (fun w => PutTextL.spec_text (ts.getD k tz) w (by omega))
      have hG : (numB ((ts.getD k tz).size : Int) ++ ts.getD k tz).size ≤ 40 := txt_le hsz
      generalize numB ((ts.getD k tz).size : Int) ++ ts.getD k tz = G at *
      generalize ts.getD k tz = Y at *
      have hJ := HAS.out k
      generalize JA k = J at *
      have v1 : ¬ 9223372036854775807 < J.size + G.size := by omega
      go_wp2_with fail
      refine (HPT.out _).mono ?_
      rintro e w4 ⟨rfl, hb4⟩
      have HW4 := hid_intro (HB.out.trans (hb4.mono HB.out.size))
      have HX4 := hid_intro (HX.out.below hb4)
      clear hb4 c0 x6 hxl
      go_wp2_with fail
      go_roundw
      case rel => exact ⟨k + 1, by omega, by rw [HC.out], by go_num, HW4, HX4⟩
      case measure => simp [intOf]; omega
    · have hlt2 : ¬ (k : Int) < (tl : Int) := by omega
      obtain rfl : k = tl := by omega
      have x7 : wr.cell? ⟨w.heap.size, 7, none⟩ = some (.slice ha hl hc) := HX.out.2 7 (by simp)
      have hJ := HAS.out k
      generalize JA k = J at *
      have v1 : ¬ 9223372036854775807 < J.size + T8.size := by omega
      go_wp2_with fail
      refine (P8.out _).mono ?_
      rintro e w4 ⟨rfl, hb4⟩
      have HW4 := hid_intro (HB.out.trans (hb4.mono HB.out.size))
      have HX4 := hid_intro (HX.out.below hb4)
      clear hb4 x6 x7 hxl
      go_wp2_with fail
      rw [← HK0.out]
      go_loopw [3, 5] (fun y z wx => ∃ i : Nat, i ≤ hl ∧ y = .string (JB i) ∧ z = .int .i64 i ∧ Hid (Below w.heap.size w wx) ∧ Hid (Blk w.heap.size [.string a, .string m, .int .i64 mo, .int .i64 ev, .int .i64 su, .int .i64 mx, .slice ta k tc, .slice ha hl hc] wx)) (fun y z _ => hl - (intOf z).toNat)
      case atStart => exact ⟨0, by omega, rfl, rfl, HW4, HX4⟩
      case round =>
        clear HW4 HX4 HB HX hJ v1
        obtain ⟨i, hi, rfl, rfl, HB, HX⟩ := hrel
        have hxl := HX.out.1
        have x7 : wr.cell? ⟨w.heap.size, 7, none⟩ = some (.slice ha hl hc) := HX.out.2 7 (by simp)
        by_cases hlt3 : i < hl
        · have hlt2 : (i : Int) < (hl : Int) := by omega
          have hil : i < hs.length := by have := HHL.out; omega
          obtain ⟨b, off, rfl, hbl, c0, c1⟩ := (HH.out.below HB.out).at i hil
          have u1 := S9.out _ (RowG.getD_mem (z := H.zero) hs i hil)
          have HC := hid_intro (HKM.out i hlt3)
          generalize hs.getD i H.zero = Y at *
          obtain ⟨U, P⟩ := Y
          dsimp only at c0 c1 u1 HC
          obtain ⟨⟨u2, u3⟩, u4, u5⟩ := u1
          have Q1 := hid_intro (fun w => NumR.spec_put U w (by omega))
          have Q2 := hid_intro (fun w => NumR.spec_put P w (by omega))
          have hX1 : (numB U).size ≤ 40 := num_le u2 (by omega)
          have hX2 : (numB P).size ≤ 40 := num_le u4 u5
          generalize numB U = X1 at *
          generalize numB P = X2 at *
          have hJ := HBS.out i
          generalize JB i = J at *
          have v1 : ¬ 9223372036854775807 < J.size + X1.size := by omega
          have v2 : ¬ 9223372036854775807 < J.size + X1.size + X2.size := by omega
          have HS1 : Hid (WHx w wr (some ⟨b, off, none⟩) hl hc b (off + i * 2) U P wr.drew) := hid_intro (WHx.below ⟨Below.refl _ _, hxl, hbl, x7, c0, c1⟩ (Below.refl _ _).drew)
          clear u2 u3 u4 u5
          go_wp2_with fail
          refine wp_region_held_drew (S := (fun W => Below wr.heap.size wr W ∧ w.heap.size < wr.heap.size ∧ b < wr.heap.size ∧ W.cell? ⟨w.heap.size, 7, none⟩ = some (.slice (some ⟨b, off, none⟩) hl hc) ∧ W.cell? ⟨b, off + i * 2, none⟩ = some (.int .i64 U) ∧ W.cell? ⟨b, off + i * 2 + 1, none⟩ = some (.int .i64 P))) (by kernel_rfl) HS1.out (fun hHeld => ?_)
          refine wpAnyH_take (i := 0) (oi := { dst := some 62, op := Op.move (Operand.tmp 3), type := 9, pos := "l07_window.go:146", after := #[], guard := none }) (v := ?_) rfl (by kernel_rfl) (by kernel_rfl) (by kernel_rfl) (fun _ _ _ h => h) (Or.inl ⟨by rfl, ?_⟩) (by assumption) ?_
          rotate_left
          · (intro w hSw; (try dsimp only at hSw); go_simp) <;> with_reducible rfl
          try simp only [Act.put, List.setIfInBounds_toArray, List.set_cons_zero, List.set_cons_succ]
          refine wpAnyH_take (i := 1) (oi := { dst := some 63, op := Op.fieldAddr 30 (Operand.tmp 1) 7, type := 0, pos := "l07_window.go:146", after := #[], guard := none }) (v := ?_) rfl (by kernel_rfl) (by kernel_rfl) (by kernel_rfl) (fun _ _ _ h => h) (Or.inl ⟨by rfl, ?_⟩) (by assumption) ?_
          rotate_left
          · (intro w hSw; (try dsimp only at hSw); go_simp) <;> with_reducible rfl
          try simp only [Act.put, List.setIfInBounds_toArray, List.set_cons_zero, List.set_cons_succ]
          refine wpAnyH_take (i := 2) (oi := { dst := some 64, op := Op.load 28 (Operand.tmp 63), type := 28, pos := "l07_window.go:146", after := #[{ on := 1, ground := Ground.data }], guard := none }) (v := ?_) rfl (by kernel_rfl) (by kernel_rfl) (by kernel_rfl) (fun _ _ _ h => h) (Or.inl ⟨by rfl, ?_⟩) (by assumption) ?_
          rotate_left
          · (intro w hSw; (try dsimp only at hSw); go_simp) <;> with_reducible rfl
          try simp only [Act.put, List.setIfInBounds_toArray, List.set_cons_zero, List.set_cons_succ]
          refine wpAnyH_take (i := 3) (oi := { dst := some 65, op := Op.move (Operand.tmp 5), type := 3, pos := "l07_window.go:146", after := #[], guard := none }) (v := ?_) rfl (by kernel_rfl) (by kernel_rfl) (by kernel_rfl) (fun _ _ _ h => h) (Or.inl ⟨by rfl, ?_⟩) (by assumption) ?_
          rotate_left
          · (intro w hSw; (try dsimp only at hSw); go_simp) <;> with_reducible rfl
          try simp only [Act.put, List.setIfInBounds_toArray, List.set_cons_zero, List.set_cons_succ]
          refine wpAnyH_take (i := 4) (oi := { dst := some 66, op := Op.indexAddr 28 (Operand.tmp 64) (Operand.tmp 65), type := 0, pos := "l07_window.go:146", after := #[{ on := 2, ground := Ground.data }, { on := 3, ground := Ground.data }], guard := none }) (v := ?_) rfl (by kernel_rfl) (by kernel_rfl) (by kernel_rfl) (fun _ _ _ h => h) (Or.inl ⟨by rfl, ?_⟩) (by assumption) ?_
          rotate_left
          · (intro w hSw; (try dsimp only at hSw); go_simp) <;> with_reducible rfl
          try simp only [Act.put, List.setIfInBounds_toArray, List.set_cons_zero, List.set_cons_succ]
          refine wpAnyH_take (i := 5) (oi := { dst := some 67, op := Op.fieldAddr 57 (Operand.tmp 66) 0, type := 0, pos := "l07_window.go:146", after := #[{ on := 4, ground := Ground.data }], guard := none }) (v := ?_) rfl (by kernel_rfl) (by kernel_rfl) (by kernel_rfl) (fun _ _ _ h => h) (Or.inl ⟨by rfl, ?_⟩) (by assumption) ?_
          rotate_left
          · (intro w hSw; (try dsimp only at hSw); go_simp) <;> with_reducible rfl
          try simp only [Act.put, List.setIfInBounds_toArray, List.set_cons_zero, List.set_cons_succ]
          refine wpAnyH_take (i := 6) (oi := { dst := some 68, op := Op.load 2 (Operand.tmp 67), type := 2, pos := "l07_window.go:146", after := #[{ on := 5, ground := Ground.data }], guard := none }) (v := ?_) rfl (by kernel_rfl) (by kernel_rfl) (by kernel_rfl) (fun _ _ _ h => h) (Or.inl ⟨by rfl, ?_⟩) (by assumption) ?_
          rotate_left
          · (intro w hSw; (try dsimp only at hSw); go_simp) <;> with_reducible rfl
          try simp only [Act.put, List.setIfInBounds_toArray, List.set_cons_zero, List.set_cons_succ]
          refine wpAnyH_take (i := 9) (oi := { dst := some 71, op := Op.fieldAddr 30 (Operand.tmp 1) 7, type := 0, pos := "l07_window.go:146", after := #[], guard := none }) (v := ?_) rfl (by kernel_rfl) (by kernel_rfl) (by kernel_rfl) (fun _ _ _ h => h) (Or.inl ⟨by rfl, ?_⟩) (by assumption) ?_
          rotate_left
          · (intro w hSw; (try dsimp only at hSw); go_simp) <;> with_reducible rfl
          try simp only [Act.put, List.setIfInBounds_toArray, List.set_cons_zero, List.set_cons_succ]
          refine wpAnyH_take (i := 10) (oi := { dst := some 72, op := Op.load 28 (Operand.tmp 71), type := 28, pos := "l07_window.go:146", after := #[{ on := 9, ground := Ground.data }], guard := none }) (v := ?_) rfl (by kernel_rfl) (by kernel_rfl) (by kernel_rfl) (fun _ _ _ h => h) (Or.inl ⟨by rfl, ?_⟩) (by assumption) ?_
          rotate_left
          · (intro w hSw; (try dsimp only at hSw); go_simp) <;> with_reducible rfl
          try simp only [Act.put, List.setIfInBounds_toArray, List.set_cons_zero, List.set_cons_succ]
          refine wpAnyH_take (i := 11) (oi := { dst := some 73, op := Op.move (Operand.tmp 5), type := 3, pos := "l07_window.go:146", after := #[], guard := none }) (v := ?_) rfl (by kernel_rfl) (by kernel_rfl) (by kernel_rfl) (fun _ _ _ h => h) (Or.inl ⟨by rfl, ?_⟩) (by assumption) ?_
          rotate_left
          · (intro w hSw; (try dsimp only at hSw); go_simp) <;> with_reducible rfl
          try simp only [Act.put, List.setIfInBounds_toArray, List.set_cons_zero, List.set_cons_succ]
          refine wpAnyH_take (i := 12) (oi := { dst := some 74, op := Op.indexAddr 28 (Operand.tmp 72) (Operand.tmp 73), type := 0, pos := "l07_window.go:146", after := #[{ on := 10, ground := Ground.data }, { on := 11, ground := Ground.data }], guard := none }) (v := ?_) rfl (by kernel_rfl) (by kernel_rfl) (by kernel_rfl) (fun _ _ _ h => h) (Or.inl ⟨by rfl, ?_⟩) (by assumption) ?_
          rotate_left
          · (intro w hSw; (try dsimp only at hSw); go_simp) <;> with_reducible rfl
          try simp only [Act.put, List.setIfInBounds_toArray, List.set_cons_zero, List.set_cons_succ]
          refine wpAnyH_take (i := 13) (oi := { dst := some 75, op := Op.fieldAddr 57 (Operand.tmp 74) 1, type := 0, pos := "l07_window.go:146", after := #[{ on := 12, ground := Ground.data }], guard := none }) (v := ?_) rfl (by kernel_rfl) (by kernel_rfl) (by kernel_rfl) (fun _ _ _ h => h) (Or.inl ⟨by rfl, ?_⟩) (by assumption) ?_
          rotate_left
          · (intro w hSw; (try dsimp only at hSw); go_simp) <;> with_reducible rfl
          try simp only [Act.put, List.setIfInBounds_toArray, List.set_cons_zero, List.set_cons_succ]
          refine wpAnyH_take (i := 14) (oi := { dst := some 76, op := Op.load 2 (Operand.tmp 75), type := 2, pos := "l07_window.go:146", after := #[{ on := 13, ground := Ground.data }], guard := none }) (v := ?_) rfl (by kernel_rfl) (by kernel_rfl) (by kernel_rfl) (fun _ _ _ h => h) (Or.inl ⟨by rfl, ?_⟩) (by assumption) ?_
          rotate_left
          · (intro w hSw; (try dsimp only at hSw); go_simp) <;> with_reducible rfl
          try simp only [Act.put, List.setIfInBounds_toArray, List.set_cons_zero, List.set_cons_succ]
          refine wpAnyH_ready (rs := [7]) (by kernel_rfl) (by simp) ?_
          refine AllReadyH.cons (o := { dst := some 69, op := Op.call { callee := Callee.value (Operand.func 55), args := #[Operand.tmp 68], argTypes := #[2] }, type := 9, pos := "l07_window.go:146", after := #[{ on := 6, ground := Ground.data }], guard := none }) rfl (fun K hK => ?_) AllReadyH.nil
          go_simp
          go_at_call 55
          refine (Q1.out _).mono ?_
          rintro e q1 ⟨rfl, hq1⟩
          try go_wp2_with fail
          have hk1 := WHx.below (w := w) (wr := wr) (ha := some ⟨b, off, none⟩) (hl := hl) (hc := hc) (b := b) (o := off + i * 2) (U := U) (P := P) HS1.out hq1
          refine hK.out _ _ hk1 (fun _ => ?_)
          clear hK K
          try simp only [Act.put, List.setIfInBounds_toArray, List.set_cons_zero, List.set_cons_succ]
          refine wpAnyH_take (i := 8) (oi := { dst := some 70, op := Op.binOp BinOp.add 9 (Operand.tmp 62) (Operand.tmp 69) 9, type := 9, pos := "l07_window.go:146", after := #[{ on := 0, ground := Ground.data }, { on := 7, ground := Ground.data }], guard := none }) (v := ?_) rfl (by kernel_rfl) (by kernel_rfl) (by kernel_rfl) (fun _ _ _ h => h) (Or.inl ⟨by rfl, ?_⟩) (by assumption) ?_
          rotate_left
          · (intro w hSw; (try dsimp only at hSw); go_simp) <;> with_reducible rfl
          try simp only [Act.put, List.setIfInBounds_toArray, List.set_cons_zero, List.set_cons_succ]
          refine wpAnyH_ready (rs := [15]) (by kernel_rfl) (by simp) ?_
          refine AllReadyH.cons (o := { dst := some 77, op := Op.call { callee := Callee.value (Operand.func 55), args := #[Operand.tmp 76], argTypes := #[2] }, type := 9, pos := "l07_window.go:146", after := #[{ on := 14, ground := Ground.data }, { on := 7, ground := Ground.chain }], guard := none }) rfl (fun K hK => ?_) AllReadyH.nil
          go_simp
          go_at_call 55
          refine (Q2.out _).mono ?_
          rintro e q2 ⟨rfl, hq2⟩
          try go_wp2_with fail
          have hk2 := WHx.below (w := w) (wr := wr) (ha := some ⟨b, off, none⟩) (hl := hl) (hc := hc) (b := b) (o := off + i * 2) (U := U) (P := P) hk1 hq2
          refine hK.out _ _ hk2 (fun _ => ?_)
          clear hK K
          try simp only [Act.put, List.setIfInBounds_toArray, List.set_cons_zero, List.set_cons_succ]
          refine wpAnyH_take (i := 16) (oi := { dst := some 78, op := Op.binOp BinOp.add 9 (Operand.tmp 70) (Operand.tmp 77) 9, type := 9, pos := "l07_window.go:146", after := #[{ on := 8, ground := Ground.data }, { on := 15, ground := Ground.data }], guard := none }) (v := ?_) rfl (by kernel_rfl) (by kernel_rfl) (by kernel_rfl) (fun _ _ _ h => h) (Or.inl ⟨by rfl, ?_⟩) (by assumption) ?_
          rotate_left
          · (intro w hSw; (try dsimp only at hSw); go_simp) <;> with_reducible rfl
          try simp only [Act.put, List.setIfInBounds_toArray, List.set_cons_zero, List.set_cons_succ]
          refine wpAnyH_take (i := 17) (oi := { dst := some 3, op := Op.assign (Operand.tmp 78), type := 9, pos := "l07_window.go:146", after := #[{ on := 16, ground := Ground.data }, { on := 15, ground := Ground.chain }, { on := 0, ground := Ground.phase }, { on := 1, ground := Ground.phase }, { on := 2, ground := Ground.phase }, { on := 3, ground := Ground.phase }, { on := 4, ground := Ground.phase }, { on := 5, ground := Ground.phase }, { on := 6, ground := Ground.phase }, { on := 7, ground := Ground.phase }, { on := 8, ground := Ground.phase }, { on := 9, ground := Ground.phase }, { on := 10, ground := Ground.phase }, { on := 11, ground := Ground.phase }, { on := 12, ground := Ground.phase }, { on := 13, ground := Ground.phase }, { on := 14, ground := Ground.phase }, { on := 15, ground := Ground.phase }, { on := 16, ground := Ground.phase }], guard := none }) (v := ?_) rfl (by kernel_rfl) (by kernel_rfl) (by kernel_rfl) (fun _ _ _ h => h) (Or.inl ⟨by rfl, ?_⟩) (by assumption) ?_
          rotate_left
          · (intro w hSw; (try dsimp only at hSw); go_simp) <;> with_reducible rfl
          try simp only [Act.put, List.setIfInBounds_toArray, List.set_cons_zero, List.set_cons_succ]
          refine wpAnyH_done (by kernel_rfl) ?_ _
          have HB5 := hid_intro (HB.out.trans (hk2.1.mono HB.out.size))
          have HX5 := hid_intro (HX.out.below hk2.1)
          clear hk1 hk2 hq1 hq2 HS1 c0 c1 x7
          go_wp2_with fail
          go_roundw
          case rel => exact ⟨i + 1, by omega, by rw [HC.out], by go_num, HB5, HX5⟩
          case measure => simp [intOf]; omega
        · have hlt2 : ¬ (i : Int) < (hl : Int) := by omega
          obtain rfl : i = hl := by omega
          go_wp2_with fail
          go_ret
          exact ⟨rfl, HB.out⟩
theorem spec_wb_all (a m : ByteArray) (mo ev su mx : Int) (ta : Option Addr) (tl tc : Nat) (ha : Option Addr) (hl hc : Nat) (R : ByteArray) (r : Bool) (w : World)
    (h1 : ∀ W, Below w.heap.size w W → Calls Tryd.prog 20 #[.agg #[.string a, .string m, .int .i64 mo, .int .i64 ev, .int .i64 su, .int .i64 mx, .slice ta tl tc, .slice ha hl hc]] W fun e w' => e = .returned (.bool r) ∧ Below W.heap.size W w')
    (h2 : r = true → ∀ W, Below w.heap.size w W → Calls Tryd.prog 28 #[.agg #[.string a, .string m, .int .i64 mo, .int .i64 ev, .int .i64 su, .int .i64 mx, .slice ta tl tc, .slice ha hl hc]] W fun e w' => e = .returned (.string R) ∧ Below W.heap.size W w') :
    Calls Tryd.prog 11 #[.agg #[.string a, .string m, .int .i64 mo, .int .i64 ev, .int .i64 su, .int .i64 mx, .slice ta tl tc, .slice ha hl hc]] w fun e w' => e = .returned (.string (bif r then R else ⟨#[]⟩)) ∧ Below w.heap.size w w' := by
  have H1 := hid_intro h1
  have H2 := hid_intro h2
  clear h1 h2
  have HB0 : Hid (Below w.heap.size w (w.alloc (.cells #[.string a, .string m, .int .i64 mo, .int .i64 ev, .int .i64 su, .int .i64 mx, .slice ta tl tc, .slice ha hl hc] 30))) := hid_intro ((Below.refl _ _).alloc (Nat.le_refl _) _)
  have HX0 := hid_intro (Blk.new w [.string a, .string m, .int .i64 mo, .int .i64 ev, .int .i64 su, .int .i64 mx, .slice ta tl tc, .slice ha hl hc] 30)
  cases r
  · go_enter Tryd.func11, Tryd.ntmps11
    go_wp2_with fail
    refine (H1.out _ HB0.out).mono ?_
    rintro e w1 ⟨rfl, hb1⟩
    have HB1 := hid_intro (HB0.out.trans (hb1.mono HB0.out.size))
    clear hb1
    go_wp2_with fail
    go_ret
    exact ⟨rfl, HB1.out⟩
  · have H3 := hid_intro (H2.out rfl)
    go_enter Tryd.func11, Tryd.ntmps11
    go_wp2_with fail
    refine (H1.out _ HB0.out).mono ?_
    rintro e w1 ⟨rfl, hb1⟩
    have HB1 := hid_intro (HB0.out.trans (hb1.mono HB0.out.size))
    have HX1 := hid_intro (HX0.out.below hb1)
    clear hb1
    obtain ⟨xl, xc⟩ := HX1.out
    have x0 : w1.cell? ⟨w.heap.size, 0, none⟩ = some (.string a) := xc 0 (by simp)
    have x1 : w1.cell? ⟨w.heap.size, 1, none⟩ = some (.string m) := xc 1 (by simp)
    have x2 : w1.cell? ⟨w.heap.size, 2, none⟩ = some (.int .i64 mo) := xc 2 (by simp)
    have x3 : w1.cell? ⟨w.heap.size, 3, none⟩ = some (.int .i64 ev) := xc 3 (by simp)
    have x4 : w1.cell? ⟨w.heap.size, 4, none⟩ = some (.int .i64 su) := xc 4 (by simp)
    have x5 : w1.cell? ⟨w.heap.size, 5, none⟩ = some (.int .i64 mx) := xc 5 (by simp)
    have x6 : w1.cell? ⟨w.heap.size, 6, none⟩ = some (.slice ta tl tc) := xc 6 (by simp)
    have x7 : w1.cell? ⟨w.heap.size, 7, none⟩ = some (.slice ha hl hc) := xc 7 (by simp)
    clear xc
    go_wp2_with fail
    refine (H3.out _ HB1.out).mono ?_
    rintro e w2 ⟨rfl, hb2⟩
    have HB2 := hid_intro (HB1.out.trans (hb2.mono HB1.out.size))
    clear hb2
    go_wp2_with fail
    go_ret
    exact ⟨rfl, HB2.out⟩
theorem impl_wb_no (a m : ByteArray) (mo ev su mx : Int) (ta : Option Addr) (tl tc : Nat) (ha : Option Addr) (hl hc : Nat) (w : World)
    (h1 : ∀ W, Below w.heap.size w W → Calls Tryd.prog 24 #[.agg #[.string a, .string m, .int .i64 mo, .int .i64 ev, .int .i64 su, .int .i64 mx, .slice ta tl tc, .slice ha hl hc]] W fun e w' => e = .returned (.bool false) ∧ Below W.heap.size W w') :
    Calls Tryd.prog 12 #[.agg #[.string a, .string m, .int .i64 mo, .int .i64 ev, .int .i64 su, .int .i64 mx, .slice ta tl tc, .slice ha hl hc]] w fun e w' => e = .returned (.string ⟨#[]⟩) ∧ Below w.heap.size w w' := by
  have H1 := hid_intro h1
  clear h1
  have HB0 : Hid (Below w.heap.size w (w.alloc (.cells #[.string a, .string m, .int .i64 mo, .int .i64 ev, .int .i64 su, .int .i64 mx, .slice ta tl tc, .slice ha hl hc] 30))) := hid_intro ((Below.refl _ _).alloc (Nat.le_refl _) _)
  go_enter Tryd.func12, Tryd.ntmps12
  go_wp2_with fail
  refine (H1.out _ HB0.out).mono ?_
  rintro e w1 ⟨rfl, hb1⟩
  have HB1 := hid_intro (HB0.out.trans (hb1.mono HB0.out.size))
  clear hb1
  go_wp2_with fail
  go_ret
  exact ⟨rfl, HB1.out⟩
theorem qA_zero (x : Wd) : qA x 0 = [numB x.a.size ++ x.a, numB x.m.size ++ x.m, numB x.mo, numB x.ev, numB x.su, numB x.mx] ++ [numB x.ts.length] := by unfold qA; simp [wH, txB]
theorem qB_zero (x : Wd) : qB x 0 = qA x x.ts.length ++ [numB x.hs.length] := by unfold qB; simp
theorem impl_bytes (x : Wd) (ta : Option Addr) (tc : Nat) (ha : Option Addr) (hc : Nat) (w : World) (h1 : x.a.size ≤ 1048576) (h2 : x.m.size ≤ 1048576) (h3 : x.ts.length ≤ 1048576) (h4 : ∀ t ∈ x.ts, t.size ≤ 1048576) (h5 : x.hs.length ≤ 1048576) (hL : Laid w) (hT : Tgs ta x.ts w) (hH : Hrs ha x.hs w) :
    Calls Tryd.prog 12 #[.agg (wcells x ta tc ha hc)] w fun e w' => e = .returned (.string (wBy x)) ∧ Below w.heap.size w w' := by
  have hr := fun W (hW : Below w.heap.size w W) => impl_window_right x ta tc ha hc W h1 h2 h3 h4 h5 (hL.below hW) (hT.below hW) (hH.below hW)
  unfold wBy
  cases hb : wB x
  · rw [hb] at hr
    exact impl_wb_no x.a x.m x.mo x.ev x.su x.mx ta x.ts.length tc ha x.hs.length hc w hr
  · rw [hb] at hr
    obtain ⟨⟨b1, b2⟩, b3, b4, b5, b6, ⟨b7, b7'⟩, ⟨b8, b8'⟩, b9⟩ := right_bd hb
    exact impl_wb_in x.a x.m x.mo x.ev x.su x.mx x.ts x.hs ta tc ha hc _ _ _ _ _ _ _ _ (qA x) (qB x) w b7 b8' hT hH hr (fun w => PutTextL.impl_text x.a w (by omega)) (fun w => PutTextL.impl_text x.m w (by omega)) (fun w => NumR.impl_put x.mo w (by omega)) (fun w => NumR.impl_put x.ev w (by omega)) (fun w => NumR.impl_put x.su w (by omega)) (fun w => NumR.impl_put x.mx w (by omega)) (fun w => NumR.impl_put (x.ts.length : Int) w (by omega)) (fun w => NumR.impl_put (x.hs.length : Int) w (by omega)) b7' b9 (qA_zero x) (qA_more x) (qB_zero x) (qB_more x) (qB_size hb _)
theorem spec_bytes (x : Wd) (ta : Option Addr) (tc : Nat) (ha : Option Addr) (hc : Nat) (w : World) (h1 : x.a.size ≤ 1048576) (h2 : x.m.size ≤ 1048576) (h3 : x.ts.length ≤ 1048576) (h4 : ∀ t ∈ x.ts, t.size ≤ 1048576) (h5 : x.hs.length ≤ 1048576) (hT : Tgs ta x.ts w) (hH : Hrs ha x.hs w) :
    Calls Tryd.prog 11 #[.agg (wcells x ta tc ha hc)] w fun e w' => e = .returned (.string (wBy x)) ∧ Below w.heap.size w w' :=
  spec_wb_all x.a x.m x.mo x.ev x.su x.mx ta x.ts.length tc ha x.hs.length hc _ _ w (fun W hW => spec_window_right x ta tc ha hc W h1 h2 h3 h4 (hT.below hW) (hH.below hW)) (fun hb W hW => by
    obtain ⟨⟨b1, b2⟩, b3, b4, b5, b6, ⟨b7, b7'⟩, ⟨b8, b8'⟩, b9⟩ := right_bd hb
    exact spec_wb_in x.a x.m x.mo x.ev x.su x.mx x.ts x.hs ta tc ha hc _ _ _ _ _ _ _ _ (qA x) (qB x) W b7 b8' (hT.below hW) (hH.below hW) (fun w => PutTextL.spec_text x.a w (by omega)) (fun w => PutTextL.spec_text x.m w (by omega)) (fun w => NumR.spec_put x.mo w (by omega)) (fun w => NumR.spec_put x.ev w (by omega)) (fun w => NumR.spec_put x.su w (by omega)) (fun w => NumR.spec_put x.mx w (by omega)) (fun w => NumR.spec_put (x.ts.length : Int) w (by omega)) (fun w => NumR.spec_put (x.hs.length : Int) w (by omega)) (txt_le b1) (txt_le b2) (num_le b3.1 (by omega)) (num_le (by omega) (by omega)) (num_le b5.1 b5.2) (num_le b6.1 (by omega)) (num_le (by omega) (by omega)) (num_le (by omega) (by omega)) b7' b9 (qA_zero x) (qA_more x) (qA_size hb) (qB_zero x) (qB_more x) (qB_size hb))
end WinR
end Go.Proofs.YtnfppcndadfpcabDoor
