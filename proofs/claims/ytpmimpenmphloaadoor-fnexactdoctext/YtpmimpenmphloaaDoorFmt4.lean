/-
  A year's four digits, and one digit, as the library writes them. The condition: the library's table stands in its variable.
-/
import Derived.Test.YtpmimpenmphloaaDoorFmt
import Derived.Laws.BytesArg
namespace Go.Proofs.YtpmimpenmphloaaDoor
open Go.ChangeShapes Go.WideShapes Go.ChangeAt Go.RowKit
set_option linter.unusedVariables false
namespace DecR
/-- The text of these digits. -/
def digT (ds : List Nat) : ByteArray := strOfNums (ds.map fun d => ((48 + d : Nat) : Int))
theorem cell_wrote (w : World) (B a b c d : Nat) (v1 v2 v3 v4 : Value) (c1 : w.cell? ⟨B, 1, none⟩ = some v1) (c2 : w.cell? ⟨B, 2, none⟩ = some v2) (c3 : w.cell? ⟨B, 3, none⟩ = some v3) (c4 : w.cell? ⟨B, 4, none⟩ = some v4) :
    (wrote w B a b c d).cell? ⟨B, 1, none⟩ = some (.int .u8 ((48 + a : Nat) : Int)) ∧ (wrote w B a b c d).cell? ⟨B, 2, none⟩ = some (.int .u8 ((48 + b : Nat) : Int)) ∧ (wrote w B a b c d).cell? ⟨B, 3, none⟩ = some (.int .u8 ((48 + c : Nat) : Int)) ∧ (wrote w B a b c d).cell? ⟨B, 4, none⟩ = some (.int .u8 ((48 + d : Nat) : Int)) := by
  unfold wrote
  refine ⟨?_, ?_, ?_, ?_⟩ <;> simp [go_sem, c1, c2, c3, c4]
theorem bel_wrote {w0 w : World} {k : Nat} (h : Below k w0 w) (B a b c d : Nat) (hB : k ≤ B) : Below k w0 (wrote w B a b c d) :=
  ((((((h.setCell hB _).setCell hB _).setCell hB _).setCell hB _).drew).drew)
theorem conv_wrote (w : World) (B a b c d cap : Nat) (v1 v2 v3 v4 : Value) (c1 : w.cell? ⟨B, 1, none⟩ = some v1) (c2 : w.cell? ⟨B, 2, none⟩ = some v2) (c3 : w.cell? ⟨B, 3, none⟩ = some v3) (c4 : w.cell? ⟨B, 4, none⟩ = some v4) :
    (convert 54 9 (.slice (some ⟨B, 1, none⟩) 4 cap)).run Tryd.prog (wrote w B a b c d) = .ok (.string (digT [a, b, c, d])) (wrote w B a b c d) := by
  obtain ⟨d1, d2, d3, d4⟩ := cell_wrote w B a b c d v1 v2 v3 v4 c1 c2 c3 c4
  refine run_convert_bytes_arg _ 54 5 Tryd.underlying54 Tryd.underlying5 B 1 4 cap _ rfl ?_ 9 Tryd.underlying9
  intro i hi
  match i, hi with
  | 0, _ => exact d1
  | 1, _ => exact d2
  | 2, _ => exact d3
  | 3, _ => exact d4
set_option maxRecDepth 100000 in
set_option maxHeartbeats 8000000 in
theorem ifmt4 (n : Nat) (h : 1970 ≤ n) (h2 : n ≤ 2200) (w : World) (hP : Pows w) : Calls Tryd.prog 34 #[.int .i64 n, .int .i64 10] w fun e w' => e = .returned (.string (digT [n / 100 / 10, n / 100 % 10, n % 100 / 10, n % 100 % 10])) ∧ Below w.heap.size w w' := by
  have h3 : (1970 : Int) ≤ (n : Int) := by omega
  have h4 : (n : Int) ≤ 2200 := by omega
  have HN := hid_intro (fun w hP => nd_any n h h2 w hP)
  have HF := hid_intro (fun B c v1 v2 v3 v4 w c1 c2 c3 c4 f1 f2 f3 f4 => fb_any n B c v1 v2 v3 v4 h h2 w c1 c2 c3 c4 f1 f2 f3 f4)
  have HC := hid_intro (fun (w : World) (B : Nat) => conv_wrote w B (n / 100 / 10) (n / 100 % 10) (n % 100 / 10) (n % 100 % 10))
  have HBW := hid_intro (fun (w0 w : World) (k B : Nat) (h : Below k w0 w) (hB : k ≤ B) => bel_wrote h B (n / 100 / 10) (n / 100 % 10) (n % 100 / 10) (n % 100 % 10) hB)
  have HP := hid_intro hP
  generalize n / 100 / 10 = a at *
  generalize n / 100 % 10 = b at *
  generalize n % 100 / 10 = c at *
  generalize n % 100 % 10 = d at *
  clear h h2 hP
  go_enter Tryd.func34, Tryd.ntmps34
  go_wp2_with fail
  obtain ⟨W, hW⟩ : ∃ W, W = w.alloc (Obj.cells #[.int .u8 0, .int .u8 0, .int .u8 0, .int .u8 0, .int .u8 0, .int .u8 0, .int .u8 0, .int .u8 0, .int .u8 0, .int .u8 0, .int .u8 0, .int .u8 0, .int .u8 0, .int .u8 0, .int .u8 0, .int .u8 0, .int .u8 0, .int .u8 0, .int .u8 0, .int .u8 0, .int .u8 0, .int .u8 0, .int .u8 0, .int .u8 0] 57) := ⟨_, rfl⟩
  rw [← hW]
  have c1 : W.cell? ⟨w.heap.size, 1, none⟩ = some (.int .u8 0) := by rw [hW]; simp [go_sem]
  have c2 : W.cell? ⟨w.heap.size, 2, none⟩ = some (.int .u8 0) := by rw [hW]; simp [go_sem]
  have c3 : W.cell? ⟨w.heap.size, 3, none⟩ = some (.int .u8 0) := by rw [hW]; simp [go_sem]
  have c4 : W.cell? ⟨w.heap.size, 4, none⟩ = some (.int .u8 0) := by rw [hW]; simp [go_sem]
  have f1 : W.frozen? ⟨w.heap.size, 1, none⟩ = false := by rw [hW]; simp [go_sem]
  have f2 : W.frozen? ⟨w.heap.size, 2, none⟩ = false := by rw [hW]; simp [go_sem]
  have f3 : W.frozen? ⟨w.heap.size, 3, none⟩ = false := by rw [hW]; simp [go_sem]
  have f4 : W.frozen? ⟨w.heap.size, 4, none⟩ = false := by rw [hW]; simp [go_sem]
  have HB := hid_intro (show Below w.heap.size w W by rw [hW]; exact (Below.refl _ _).alloc (Nat.le_refl _) _)
  clear hW
  refine (HN.out _ (HP.out.below HB.out)).mono ?_
  rintro e w1 ⟨rfl, rfl⟩
  go_wp2_with fail
  refine (HF.out _ _ _ _ _ _ _ c1 c2 c3 c4 f1 f2 f3 f4).mono ?_
  rintro e w2 ⟨rfl, hw2⟩
  have hconv := HC.out w1 w.heap.size 23 _ _ _ _ c1 c2 c3 c4
  have HB2 := hid_intro (HBW.out w w1 w.heap.size w.heap.size HB.out (Nat.le_refl _))
  rw [← hw2] at hconv HB2
  clear hw2 HC HBW HF HN c1 c2 c3 c4 f1 f2 f3 f4
  go_wp2_with fail
  go_ret
  exact ⟨rfl, HB2.out⟩
theorem fmt4 (n : Nat) (h : 1970 ≤ n) (h2 : n ≤ 2200) (w : World) (hP : Pows w) : Calls Tryd.prog 15 #[.int .i64 n, .int .i64 10] w fun e w' => e = .returned (.string (digT [n / 100 / 10, n / 100 % 10, n % 100 / 10, n % 100 % 10])) ∧ Below w.heap.size w w' := by
  have HI := hid_intro (ifmt4 n h h2 w hP)
  generalize digT [n / 100 / 10, n / 100 % 10, n % 100 / 10, n % 100 % 10] = T at *
  clear h h2 hP
  go_enter Tryd.func15, Tryd.ntmps15
  go_wp2_with (go_at_call 34; refine HI.out.mono ?_; rintro e w1 ⟨rfl, hb⟩)
  go_ret
  exact ⟨rfl, hb⟩
theorem fmt1 (n : Nat) (h : n < 10) (w : World) : Calls Tryd.prog 15 #[.int .i64 n, .int .i64 10] w fun e w' => e = .returned (.string (digT [n])) ∧ w' = w := by
  match n, h with
  | 0, _ | 1, _ | 2, _ | 3, _ | 4, _ | 5, _ | 6, _ | 7, _ | 8, _ | 9, _ =>
    go_enter Tryd.func15, Tryd.ntmps15
    go_wp2
    go_ret
    exact ⟨rfl, rfl⟩
end DecR
end Go.Proofs.YtpmimpenmphloaaDoor
