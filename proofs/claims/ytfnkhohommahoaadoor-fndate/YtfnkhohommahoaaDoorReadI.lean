/-
  A date's text read, the program's side. The conditions: the text has ten bytes; the tables and the library's errors stand in their variables.
-/
import Derived.Test.YtfnkhohommahoaaDoorRead
namespace Go.Proofs.YtfnkhohommahoaaDoor
open Go.ChangeShapes Go.WideShapes Go.ChangeAt Go.RowKit
set_option linter.unusedVariables false
namespace DateR
open DateM DecR
/-- A call that keeps what lies below a world keeps what lies below an older one. -/
theorem call_step {P : Program} {f : Nat} {args : Array Value} {v : Value} {w W : World} (hw : Below w.heap.size w W) (hc : Calls P f args W fun e w' => e = .returned v ∧ Below W.heap.size W w') :
    Calls P f args W fun e w' => e = .returned v ∧ Below w.heap.size w w' ∧ Hid (Below W.heap.size W w') := by
  refine hc.mono ?_
  rintro e w' ⟨h1, h2⟩
  exact ⟨h1, hw.trans (h2.mono hw.size), h2⟩
/-- A new block of a date that nothing has written yet. -/
def ZB (B : Nat) (w : World) : Prop := B < w.heap.size ∧ w.cell? ⟨B, 0, none⟩ = some (.int .i64 0) ∧ w.cell? ⟨B, 1, none⟩ = some (.int .i64 0) ∧ w.cell? ⟨B, 2, none⟩ = some (.int .i64 0) ∧ w.frozen? ⟨B, 0, none⟩ = false ∧ w.frozen? ⟨B, 1, none⟩ = false ∧ w.frozen? ⟨B, 2, none⟩ = false
theorem ZB.new (W : World) (T : TypeId) : ZB W.heap.size (W.alloc (.cells #[.int .i64 0, .int .i64 0, .int .i64 0] T)) :=
  ⟨by simp, by simp [go_sem], by simp [go_sem], by simp [go_sem], by simp [go_sem], by simp [go_sem], by simp [go_sem]⟩
theorem ZB.drew {B : Nat} {w : World} (h : ZB B w) : ZB B w.drew := h
theorem ZB.step {B : Nat} {w w' : World} (h : ZB B w) (hb : Hid (Below w.heap.size w w')) : ZB B w' := by
  obtain ⟨hl, c0, c1, c2, f0, f1, f2⟩ := h
  have hb := hb.out
  have f := fun o => hb.cell (p := ⟨B, o, none⟩) hl
  have g := fun o => hb.frozen (p := ⟨B, o, none⟩) hl
  exact ⟨by have := hb.size; omega, (f 0).trans c0, (f 1).trans c1, (f 2).trans c2, (g 0).trans f0, (g 1).trans f1, (g 2).trans f2⟩
theorem and_then3 {a b c P : Prop} (h : a ∧ b ∧ c) (k : a → b → c → P) : P := k h.1 h.2.1 h.2.2
theorem dcells_alloc {w w9 : World} {a b c : Value} {T : TypeId} (h : Hid (Below (w.alloc (.cells #[a, b, c] T)).heap.size (w.alloc (.cells #[a, b, c] T)) w9)) :
    w9.cell? ⟨w.heap.size, 0, none⟩ = some a ∧ w9.cell? ⟨w.heap.size, 1, none⟩ = some b ∧ w9.cell? ⟨w.heap.size, 2, none⟩ = some c := by
  have f := fun o => h.out.cell (p := ⟨w.heap.size, o, none⟩) (by simp)
  exact ⟨(f 0).trans (by simp [go_sem]), (f 1).trans (by simp [go_sem]), (f 2).trans (by simp [go_sem])⟩
theorem dcells_set {B : Nat} {w w9 : World} {a b c : Value} (hz : ZB B w) (h : Hid (Below (((w.setCell ⟨B, 0, none⟩ a).setCell ⟨B, 1, none⟩ b).setCell ⟨B, 2, none⟩ c).heap.size (((w.setCell ⟨B, 0, none⟩ a).setCell ⟨B, 1, none⟩ b).setCell ⟨B, 2, none⟩ c) w9)) :
    w9.cell? ⟨B, 0, none⟩ = some a ∧ w9.cell? ⟨B, 1, none⟩ = some b ∧ w9.cell? ⟨B, 2, none⟩ = some c := by
  obtain ⟨hl, c0, c1, c2, _, _, _⟩ := hz
  have f := fun o => h.out.cell (p := ⟨B, o, none⟩) (by simpa using hl)
  exact ⟨(f 0).trans (by simp [go_sem, c0]), (f 1).trans (by simp [go_sem, c1]), (f 2).trans (by simp [go_sem, c2])⟩
set_option maxRecDepth 100000 in
set_option maxHeartbeats 8000000 in
theorem impl_read0 (s : ByteArray) (hs : s.size = 10) (a b c : Int) (T : ByteArray) (q : Bool) (hq : (T.toList == s.toList) = q) (w W : World) (hW : W = w.alloc (.cells #[.int .i64 0, .int .i64 0, .int .i64 0, .int .i64 0] 33))
    (ha : ∀ w', Below W.heap.size W w' → Calls Tryd.prog 54 #[.string (s.extract 0 4)] w' fun e w'' => e = .returned (.int .i64 a) ∧ Below w'.heap.size w' w'')
    (hb : ∀ w', Below W.heap.size W w' → Calls Tryd.prog 54 #[.string (s.extract 5 7)] w' fun e w'' => e = .returned (.int .i64 b) ∧ Below w'.heap.size w' w'')
    (hc : ∀ w', Below W.heap.size W w' → Calls Tryd.prog 54 #[.string (s.extract 8 10)] w' fun e w'' => e = .returned (.int .i64 c) ∧ Below w'.heap.size w' w'')
    (hT : ∀ w', Below W.heap.size W w' → Calls Tryd.prog 8 #[date a b c] w' fun e w'' => e = .returned (.string T) ∧ Below w'.heap.size w' w'') :
    Calls Tryd.prog 15 #[.string s] w fun e w' => e = .returned (bif q then dout a b c 0 else dout 0 0 0 3) ∧ Below w.heap.size w w' := by
  have HA := hid_intro ha
  have HB := hid_intro hb
  have HC := hid_intro hc
  have HT := hid_intro hT
  have HR : Hid (Below w.heap.size w W) := hid_intro (by rw [hW]; exact (Below.refl _ _).alloc (Nat.le_refl _) _)
  have HSZ : Hid (W.heap.size = w.heap.size + 1) := hid_intro (by rw [hW]; simp)
  have HO : Hid (∀ k, k < 4 → W.cell? ⟨w.heap.size, k, none⟩ = some (.int .i64 0) ∧ W.frozen? ⟨w.heap.size, k, none⟩ = false) := hid_intro (by
    intro k hk
    rw [hW]
    match k, hk with
    | 0, _ => exact ⟨by simp [go_sem], by simp [go_sem]⟩
    | 1, _ => exact ⟨by simp [go_sem], by simp [go_sem]⟩
    | 2, _ => exact ⟨by simp [go_sem], by simp [go_sem]⟩
    | 3, _ => exact ⟨by simp [go_sem], by simp [go_sem]⟩)
  have HW := hid_intro hW
  have HE := hid_intro (Below.refl W.heap.size W)
  clear ha hb hc hT hW
  unfold date dout at *
  go_enter Tryd.func15, Tryd.ntmps15
  go_wp2_with fail
  rw [← HW.out]
  go_region_with (first | (go_at_call_of 54 (Value.string (s.extract 0 4)); refine (call_step (w := W) (by first | assumption | exact HE.out | exact HE.out.drew | exact Below.alloc HE.out (Nat.le_refl _) _ | exact Below.alloc HE.out.drew (by simp) _ | exact (Below.alloc HE.out (Nat.le_refl _) _).drew | exact Below.alloc (by assumption) (Below.size (by assumption)) _) (HA.out _ (by first | assumption | exact HE.out | exact HE.out.drew | exact Below.alloc HE.out (Nat.le_refl _) _ | exact Below.alloc HE.out.drew (by simp) _ | exact (Below.alloc HE.out (Nat.le_refl _) _).drew | exact Below.alloc (by assumption) (Below.size (by assumption)) _))).mono ?_; rintro e wa ⟨rfl, hA, hb⟩; (try have HZ := hid_intro (ZB.step (B := W.heap.size) (by first | exact HZ.out | exact ZB.new _ _ | exact (ZB.new _ _).drew) hb); try (obtain ⟨_, _, _, _, _, _, _⟩ := HZ.out))) | (go_at_call_of 54 (Value.string (s.extract 5 7)); refine (call_step (w := W) (by first | assumption | exact HE.out | exact HE.out.drew | exact Below.alloc HE.out (Nat.le_refl _) _ | exact Below.alloc HE.out.drew (by simp) _ | exact (Below.alloc HE.out (Nat.le_refl _) _).drew | exact Below.alloc (by assumption) (Below.size (by assumption)) _) (HB.out _ (by first | assumption | exact HE.out | exact HE.out.drew | exact Below.alloc HE.out (Nat.le_refl _) _ | exact Below.alloc HE.out.drew (by simp) _ | exact (Below.alloc HE.out (Nat.le_refl _) _).drew | exact Below.alloc (by assumption) (Below.size (by assumption)) _))).mono ?_; rintro e wb ⟨rfl, hB, hb⟩; (try have HZ := hid_intro (ZB.step (B := W.heap.size) (by first | exact HZ.out | exact ZB.new _ _ | exact (ZB.new _ _).drew) hb); try (obtain ⟨_, _, _, _, _, _, _⟩ := HZ.out)); (try have HZ := hid_intro (ZB.step (B := wa.heap.size) (by first | exact HZ.out | exact ZB.new _ _ | exact (ZB.new _ _).drew) hb); try (obtain ⟨_, _, _, _, _, _, _⟩ := HZ.out))) | (go_at_call_of 54 (Value.string (s.extract 8 10)); refine (call_step (w := W) (by first | assumption | exact HE.out | exact HE.out.drew | exact Below.alloc HE.out (Nat.le_refl _) _ | exact Below.alloc HE.out.drew (by simp) _ | exact (Below.alloc HE.out (Nat.le_refl _) _).drew | exact Below.alloc (by assumption) (Below.size (by assumption)) _) (HC.out _ (by first | assumption | exact HE.out | exact HE.out.drew | exact Below.alloc HE.out (Nat.le_refl _) _ | exact Below.alloc HE.out.drew (by simp) _ | exact (Below.alloc HE.out (Nat.le_refl _) _).drew | exact Below.alloc (by assumption) (Below.size (by assumption)) _))).mono ?_; rintro e wc ⟨rfl, hC, hb⟩; (try have HZ := hid_intro (ZB.step (B := W.heap.size) (by first | exact HZ.out | exact ZB.new _ _ | exact (ZB.new _ _).drew) hb); try (obtain ⟨_, _, _, _, _, _, _⟩ := HZ.out)); (try have HZ := hid_intro (ZB.step (B := wa.heap.size) (by first | exact HZ.out | exact ZB.new _ _ | exact (ZB.new _ _).drew) hb); try (obtain ⟨_, _, _, _, _, _, _⟩ := HZ.out)); (try have HZ := hid_intro (ZB.step (B := wb.heap.size) (by first | exact HZ.out | exact ZB.new _ _ | exact (ZB.new _ _).drew) hb); try (obtain ⟨_, _, _, _, _, _, _⟩ := HZ.out))))
  all_goals go_wp2_with fail
  all_goals (
    refine (call_step (w := W) (by first | exact hC.alloc hC.size _ | exact ((hC.setCell hB.size _).setCell hB.size _).setCell hB.size _ | exact ((hC.setCell hA.size _).setCell hA.size _).setCell hA.size _ | exact ((hC.setCell (Nat.le_refl _) _).setCell (Nat.le_refl _) _).setCell (Nat.le_refl _) _) (HT.out _ (by first | exact hC.alloc hC.size _ | exact ((hC.setCell hB.size _).setCell hB.size _).setCell hB.size _ | exact ((hC.setCell hA.size _).setCell hA.size _).setCell hA.size _ | exact ((hC.setCell (Nat.le_refl _) _).setCell (Nat.le_refl _) _).setCell (Nat.le_refl _) _))).mono ?_
    rintro e w9 ⟨rfl, h9, hb9⟩
    first | refine and_then3 (dcells_alloc hb9) ?_ | refine and_then3 (dcells_set HZ.out hb9) ?_
    intro g0 g1 g2
    have hlt : w.heap.size < W.heap.size := by rw [HSZ.out]; omega
    have o0 := (h9.cell (p := ⟨w.heap.size, 0, none⟩) hlt).trans (HO.out 0 (by omega)).1
    have o1 := (h9.cell (p := ⟨w.heap.size, 1, none⟩) hlt).trans (HO.out 1 (by omega)).1
    have o2 := (h9.cell (p := ⟨w.heap.size, 2, none⟩) hlt).trans (HO.out 2 (by omega)).1
    have o3 := (h9.cell (p := ⟨w.heap.size, 3, none⟩) hlt).trans (HO.out 3 (by omega)).1
    have f0 := (h9.frozen (p := ⟨w.heap.size, 0, none⟩) hlt).trans (HO.out 0 (by omega)).2
    have f1 := (h9.frozen (p := ⟨w.heap.size, 1, none⟩) hlt).trans (HO.out 1 (by omega)).2
    have f2 := (h9.frozen (p := ⟨w.heap.size, 2, none⟩) hlt).trans (HO.out 2 (by omega)).2
    have f3 := (h9.frozen (p := ⟨w.heap.size, 3, none⟩) hlt).trans (HO.out 3 (by omega)).2
    have HF : Hid (Below w.heap.size w w9) := hid_intro (HR.out.trans (h9.mono HR.out.size))
    clear h9 hb9 hlt hA hB hC
    cases q
    · go_wp2_with fail
      refine bodyPost_ret (v := .agg #[.int .i64 0, .int .i64 0, .int .i64 0, .int .i64 3]) (by simp [results, Tryd.results15, go_sem, o0, o1, o2, o3]) rfl ⟨rfl, ?_⟩
      repeat' first | exact HF.out | apply Below.setCell
      all_goals simp
    · go_wp2_with fail
      refine bodyPost_ret (v := .agg #[.int .i64 a, .int .i64 b, .int .i64 c, .int .i64 0]) (by simp [results, Tryd.results15, go_sem, o0, o1, o2, o3]) rfl ⟨rfl, ?_⟩
      repeat' first | exact HF.out | apply Below.setCell
      all_goals simp)
end DateR
end Go.Proofs.YtfnkhohommahoaaDoor
