/-
  A date's text read: both sides hand back the same; a right date's text gives that date. The conditions: the text has at most 1048576 bytes; the tables and the library's errors stand in their variables.
-/
import Derived.Test.YtfnkhohommahoaaDoorReadI
namespace Go.Proofs.YtfnkhohommahoaaDoor
open Go.ChangeShapes Go.WideShapes Go.ChangeAt Go.RowKit
set_option linter.unusedVariables false
namespace DateR
open DateM DecR
/-- The library's two errors stand in their variables. -/
def Errs (w : World) : Prop := (2 < w.heap.size ∧ HoldsErr w 2) ∧ (3 < w.heap.size ∧ HoldsErr w 3)
theorem holds_below {w w' : World} {g : Nat} (hg : g < w.heap.size) (h : HoldsErr w g) (hb : Below w.heap.size w w') : HoldsErr w' g := by
  obtain ⟨ev, h1, h2⟩ := h
  exact ⟨ev, (hb.cell (p := ⟨g, 0, none⟩) hg).trans h1, h2⟩
theorem Errs.below {w w' : World} (h : Errs w) (hb : Below w.heap.size w w') : Errs w' := by
  have := hb.size
  exact ⟨⟨by have := h.1.1; omega, holds_below h.1.1 h.1.2 hb⟩, ⟨by have := h.2.1; omega, holds_below h.2.1 h.2.2 hb⟩⟩
/-- All that a date's reading leans on. -/
def All (w : World) : Prop := Laid w ∧ Pows w ∧ Errs w
theorem All.below {w w' : World} (h : All w) (hb : Below w.heap.size w w') : All w' := ⟨h.1.below hb, h.2.1.below hb, h.2.2.below hb⟩
theorem same_text (T s : ByteArray) : (T.toList == s.toList) = true ↔ T = s := by
  rw [beq_iff_eq, ByteArray.toList_eq, ByteArray.toList_eq]
  exact ⟨fun h => bytes_inj h, fun h => by rw [h]⟩
theorem other_text (T s : ByteArray) (h : T ≠ s) : (T.toList == s.toList) = false := by
  cases hb : (T.toList == s.toList)
  · rfl
  · exact absurd ((same_text T s).1 hb) h
theorem impl_read (s : ByteArray) (hs : s.size = 10) (T : ByteArray) (q : Bool) (hq : (T.toList == s.toList) = q) (w : World) (hA : All w)
    (hT : ∀ w, Laid w → Pows w → Calls Tryd.prog 8 #[date (partV (s.extract 0 4)) (partV (s.extract 5 7)) (partV (s.extract 8 10))] w fun e w' => e = .returned (.string T) ∧ Below w.heap.size w w') :
    Calls Tryd.prog 15 #[.string s] w fun e w' => e = .returned (bif q then dout (partV (s.extract 0 4)) (partV (s.extract 5 7)) (partV (s.extract 8 10)) 0 else dout 0 0 0 3) ∧ Below w.heap.size w w' := by
  have z1 : (s.extract 0 4).size = 4 := by rw [ByteArray.size_extract]; omega
  have z2 : (s.extract 5 7).size = 2 := by rw [ByteArray.size_extract]; omega
  have z3 : (s.extract 8 10).size = 2 := by rw [ByteArray.size_extract]; omega
  have hW := hA.below ((Below.refl w.heap.size w).alloc (Nat.le_refl _) (.cells #[.int .i64 0, .int .i64 0, .int .i64 0, .int .i64 0] 33))
  refine impl_read0 s hs _ _ _ T q hq w _ rfl (fun w' hb => ?_) (fun w' hb => ?_) (fun w' hb => ?_) (fun w' hb => ?_)
  · have h := (hW.below hb).2.2
    exact part_any _ (by omega) (by omega) w' h.1.2 h.2.2
  · have h := (hW.below hb).2.2
    exact part_any _ (by omega) (by omega) w' h.1.2 h.2.2
  · have h := (hW.below hb).2.2
    exact part_any _ (by omega) (by omega) w' h.1.2 h.2.2
  · have h := hW.below hb
    exact hT w' h.1 h.2.1
theorem read_both (s : ByteArray) (hm : s.size ≤ 1048576) : ∃ y m d c : Int, (∀ w, All w → Calls Tryd.prog 15 #[.string s] w fun e w' => e = .returned (dout y m d c) ∧ Below w.heap.size w w') ∧ (∀ w, Calls Tryd.prog 16 #[.string s] w fun e w' => e = .returned (dout y m d c) ∧ Below w.heap.size w w') ∧ (∀ Y M D : Nat, rightB Y M D = true → s = dateT Y M D → y = Y ∧ m = M ∧ d = D ∧ c = 0) := by
  have hten : ∀ Y M D : Nat, s = dateT Y M D → s.size = 10 := by
    intro Y M D h
    rw [h]
    unfold dateT
    simp only [ByteArray.size_append, digT_size]
    rfl
  by_cases hs : s.size = 10
  · have z1 : (s.extract 0 4).size = 4 := by rw [ByteArray.size_extract]; omega
    have z2 : (s.extract 5 7).size = 2 := by rw [ByteArray.size_extract]; omega
    have z3 : (s.extract 8 10).size = 2 := by rw [ByteArray.size_extract]; omega
    obtain ⟨T, t1, t2, ti, _⟩ := text_both (partV (s.extract 0 4)) (partV (s.extract 5 7)) (partV (s.extract 8 10))
    obtain ⟨U, u1, u2, _, us⟩ := text_both (digV (s.extract 0 4)) (digV (s.extract 5 7)) (digV (s.extract 8 10))
    by_cases hex : ∃ Y M D : Nat, rightB Y M D = true ∧ s = dateT Y M D
    · obtain ⟨Y, M, D, hr, he⟩ := hex
      obtain ⟨p1, p2, p3⟩ := parts_of s Y M D hr he (partV (s.extract 0 4)) (partV (s.extract 5 7)) (partV (s.extract 8 10)) (fun ds h => partV_dig _ ds h (by omega) (by omega)) (fun ds h => partV_dig _ ds h (by omega) (by omega)) (fun ds h => partV_dig _ ds h (by omega) (by omega))
      obtain ⟨q1, q2, q3⟩ := parts_of s Y M D hr he (digV (s.extract 0 4)) (digV (s.extract 5 7)) (digV (s.extract 8 10)) (fun ds h => digV_dig _ ds h) (fun ds h => digV_dig _ ds h) (fun ds h => digV_dig _ ds h)
      have hT : T = s := by
        rw [p1, p2, p3] at t1
        obtain ⟨y', m', d', e1, e2, e3, h⟩ := t1 hr
        obtain rfl : Y = y' := by omega
        obtain rfl : M = m' := by omega
        obtain rfl : D = d' := by omega
        rw [h, he]
      have hU : U = s := by
        rw [q1, q2, q3] at u1
        obtain ⟨y', m', d', e1, e2, e3, h⟩ := u1 hr
        obtain rfl : Y = y' := by omega
        obtain rfl : M = m' := by omega
        obtain rfl : D = d' := by omega
        rw [h, he]
      have hi := fun w hA => impl_read s hs T true ((same_text T s).2 hT) w hA ti
      have hsp := fun w => spec_read s hs U true ((same_text U s).2 hU) w us
      rw [p1, p2, p3] at hi
      rw [q1, q2, q3] at hsp
      refine ⟨Y, M, D, 0, hi, hsp, fun Y' M' D' hr' he' => ?_⟩
      obtain ⟨x1, x2, x3⟩ := parts_of s Y' M' D' hr' he' (digV (s.extract 0 4)) (digV (s.extract 5 7)) (digV (s.extract 8 10)) (fun ds h => digV_dig _ ds h) (fun ds h => digV_dig _ ds h) (fun ds h => digV_dig _ ds h)
      exact ⟨by omega, by omega, by omega, rfl⟩
    · have hn : ∀ y m d : Nat, rightB y m d = true → s ≠ dateT y m d := fun y m d hr he => hex ⟨y, m, d, hr, he⟩
      have hT := text_of s hs _ _ _ T t1 t2 hn
      have hU := text_of s hs _ _ _ U u1 u2 hn
      exact ⟨0, 0, 0, 3, fun w hA => impl_read s hs T false (other_text T s hT) w hA ti, fun w => spec_read s hs U false (other_text U s hU) w us, fun Y M D hr he => absurd he (hn Y M D hr)⟩
  · have hi := fun w (_ : All w) => impl_read_no s hs hm w
    have hsp := fun w => spec_read_no s hs hm w
    by_cases h : 8000 < s.size
    · rw [if_pos h] at hi hsp
      exact ⟨0, 0, 0, 2, hi, hsp, fun Y M D _ he => absurd (hten Y M D he) hs⟩
    · rw [if_neg h] at hi hsp
      exact ⟨0, 0, 0, 3, hi, hsp, fun Y M D _ he => absurd (hten Y M D he) hs⟩
end DateR
end Go.Proofs.YtfnkhohommahoaaDoor
