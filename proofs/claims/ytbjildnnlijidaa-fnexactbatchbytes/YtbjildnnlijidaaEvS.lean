/-
  Lists of events: what is read of a row of them. No condition but the length.
-/
import Derived.Test.YtbjildnnlijidaaEvtBytes
import Derived.Test.YtbjildnnlijidaaEvtLaw
namespace Go.Proofs.Ytbjildnnlijidaa
open Go.ChangeShapes Go.WideShapes Go.ChangeAt Go.RowKit
set_option linter.unusedVariables false
namespace EvtR
/-- An event. -/
structure E where
  i : ByteArray
  a : ByteArray
  m : ByteArray
  n : Int
  k : Int
  t : ByteArray
def E.v (e : E) : Value := ev e.i e.a e.m e.n e.k e.t
def E.zero : E := ⟨⟨#[]⟩, ⟨#[]⟩, ⟨#[]⟩, 0, 0, ⟨#[]⟩⟩
def E.cells (e : E) : List Value := [.string e.i, .string e.a, .string e.m, .int .i64 e.n, .int .i64 e.k, .string e.t]
/-- The cells of an event stand at a place. -/
def EvAt (w : World) (b o : Nat) (e : E) : Prop := w.cell? ⟨b, o, none⟩ = some (.string e.i) ∧ w.cell? ⟨b, o + 1, none⟩ = some (.string e.a) ∧ w.cell? ⟨b, o + 2, none⟩ = some (.string e.m) ∧ w.cell? ⟨b, o + 3, none⟩ = some (.int .i64 e.n) ∧ w.cell? ⟨b, o + 4, none⟩ = some (.int .i64 e.k) ∧ w.cell? ⟨b, o + 5, none⟩ = some (.string e.t)
/-- The row holds these events. -/
def Evs (ao : Option Addr) (len : Nat) (es : List E) (w : World) : Prop := es.length = len ∧ (len = 0 ∨ ∃ b off, ao = some ⟨b, off, none⟩ ∧ b < w.heap.size ∧ ∀ j, j < len → EvAt w b (off + j * 6) (es.getD j E.zero))
theorem EvAt.below {w w' : World} {b o : Nat} {e : E} (h : EvAt w b o e) (hl : b < w.heap.size) (hb : Below w.heap.size w w') : EvAt w' b o e := by
  have f := fun k => hb.cell (p := ⟨b, o + k, none⟩) hl
  exact ⟨(hb.cell (p := ⟨b, o, none⟩) hl).trans h.1, (f 1).trans h.2.1, (f 2).trans h.2.2.1, (f 3).trans h.2.2.2.1, (f 4).trans h.2.2.2.2.1, (f 5).trans h.2.2.2.2.2⟩
theorem Evs.below {ao : Option Addr} {len : Nat} {es : List E} {w w' : World} (h : Evs ao len es w) (hb : Below w.heap.size w w') : Evs ao len es w' := by
  refine ⟨h.1, ?_⟩
  rcases h.2 with h0 | ⟨b, off, rfl, hlt, hc⟩
  · exact .inl h0
  · exact .inr ⟨b, off, rfl, by have := hb.size; omega, fun j hj => (hc j hj).below hlt hb⟩
/-- How many letters the events hold, up to one. -/
def szL (es : List E) : Int := (es.map (fun e => szE e.i e.a e.m e.t)).sum
theorem sz_nn (e : E) : 0 ≤ szE e.i e.a e.m e.t := by unfold szE; omega
theorem szL_nn (es : List E) : 0 ≤ szL es := by
  unfold szL
  induction es with
  | nil => simp
  | cons e es ih => have := sz_nn e; simp only [List.map_cons, List.sum_cons]; omega
theorem szL_take (es : List E) (k : Nat) (h : k < es.length) : szL (es.take (k + 1)) = szL (es.take k) + szE (es.getD k E.zero).i (es.getD k E.zero).a (es.getD k E.zero).m (es.getD k E.zero).t := by
  unfold szL
  rw [List.take_add_one, List.getElem?_eq_getElem h, List.map_append, List.sum_append]
  simp [List.getD, h]
theorem szL_le (es : List E) (k : Nat) : szL (es.take k) ≤ szL es := by
  have := szL_nn (es.drop k)
  have e : szL es = szL (es.take k) + szL (es.drop k) := by
    unfold szL
    rw [← List.sum_append, ← List.map_append, List.take_append_drop]
  omega
theorem evs_at {ao : Option Addr} {len : Nat} {es : List E} {w : World} (h : Evs ao len es w) (k : Nat) (hk : k < len) : ∃ b off, ao = some ⟨b, off, none⟩ ∧ b < w.heap.size ∧ EvAt w b (off + k * 6) (es.getD k E.zero) := by
  rcases h.2 with h0 | ⟨b, off, rfl, hlt, hc⟩
  · omega
  · exact ⟨b, off, rfl, hlt, hc k hk⟩
theorem getD_mem (es : List E) (k : Nat) (h : k < es.length) : es.getD k E.zero ∈ es := by
  have : es.getD k E.zero = es[k] := by simp [List.getD, h]
  rw [this]; exact List.getElem_mem h
set_option maxHeartbeats 4000000 in
theorem szs_any (ao : Option Addr) (len cap : Nat) (es : List E) (w : World) (hlen : len ≤ 1048576) (hI : Evs ao len es w) (hw : ∀ e ∈ es, e.i.size ≤ maxLen ∧ e.a.size ≤ maxLen ∧ e.m.size ≤ maxLen ∧ e.t.size ≤ maxLen) :
    Calls Try.prog 15 #[.slice ao len cap, .int .i64 1048576] w fun e w' => e = .returned (.int .i64 (if (len : Int) + szL es ≤ 1048576 then 1048576 - (len : Int) - szL es else -1)) ∧ Below w.heap.size w w' := by
  have HI := hid_intro hI
  have HZ := hid_intro hI.1
  have HW := hid_intro hw
  clear hI hw
  have hl : (len : Int) ≤ 1048576 := by omega
  have hl2 : ¬ (1048576 : Int) - (len : Int) < 0 := by omega
  obtain ⟨R, hR⟩ : ∃ R, R = (if (len : Int) + szL es ≤ 1048576 then 1048576 - (len : Int) - szL es else -1) := ⟨_, rfl⟩
  rw [← hR]
  have HR := hid_intro hR
  clear hR
  go_enter Try.func15, Try.ntmps15
  go_wp2_with fail
  go_loopw [5, 1] (fun x y w' => ∃ (j : Nat) (L : Int), j ≤ len ∧ x = .int .i64 j ∧ y = .int .i64 L ∧ 0 ≤ L ∧ L ≤ 1048576 ∧ Hid (L = 1048576 - (len : Int) - szL (es.take j)) ∧ Hid (Below w.heap.size w w')) (fun x y w' => len - (intOf x).toNat)
  case atStart => exact ⟨0, 1048576 - (len : Int), Nat.zero_le _, rfl, rfl, by omega, by omega, hid_intro (by simp [szL]), hid_intro (Below.refl _ _)⟩
  case round =>
    obtain ⟨j, L, hj, rfl, rfl, l0, l1, HL, HB⟩ := hrel
    by_cases hlt : j < len
    · obtain ⟨b, off, rfl, hbl, ha⟩ := evs_at (HI.out.below HB.out) j hlt
      obtain ⟨c0, c1, c2, c3, c4, c5⟩ := ha
      have HS := hid_intro (szL_take es j (by have := HZ.out; omega))
      obtain ⟨q1, q2, q3, q4⟩ := HW.out _ (getD_mem es j (by have := HZ.out; omega))
      generalize es.getD j E.zero = E1 at *
      obtain ⟨i, a, m, n, k, t⟩ := E1
      have HS : Hid (szL (es.take (j + 1)) = szL (es.take j) + szE i a m t) := HS
      have HC := hid_intro (fun w => sz_any i a m n k t L q1 q2 q3 q4 l0 l1 w)
      have hlt2 : (j : Int) < (len : Int) := by omega
      clear q1 q2 q3 q4
      by_cases hs : szE i a m t ≤ L
      · rw [if_pos hs] at HC
        have z0 : 0 ≤ szE i a m t := by unfold szE; omega
        have HN : Hid (L - szE i a m t = 1048576 - (len : Int) - szL (es.take (j + 1))) := hid_intro (by rw [HS.out, HL.out]; omega)
        have r0 : 0 ≤ L - szE i a m t := by omega
        have r1 : L - szE i a m t ≤ 1048576 := by omega
        generalize L - szE i a m t = L2 at *
        clear hs z0
        unfold ev at HC
        go_wp2_with fail
        refine (HC.out _).mono ?_
        rintro e w1 ⟨rfl, hb⟩
        have HB1 := hid_intro (HB.out.trans (hb.mono HB.out.size))
        clear hb HB c0 c1 c2 c3 c4 c5
        have r2 : ¬ L2 < 0 := by omega
        go_wp2_with fail
        go_roundw
        case rel => exact ⟨j + 1, L2, by omega, by go_num, rfl, r0, r1, HN, HB1⟩
        case measure => simp [intOf]; omega
      · rw [if_neg hs] at HC
        have HN : Hid (R = -1) := hid_intro (by rw [HR.out, if_neg]; have := szL_le es (j + 1); have := HS.out; have := HL.out; omega)
        unfold ev at HC
        go_wp2_with fail
        refine (HC.out _).mono ?_
        rintro e w1 ⟨rfl, hb⟩
        have HB1 := hid_intro (HB.out.trans (hb.mono HB.out.size))
        clear hb HB c0 c1 c2 c3 c4 c5
        go_wp2_with fail
        go_ret
        exact ⟨ret_int HN.out.symm, HB1.out⟩
    · obtain rfl : j = len := by omega
      have HN : Hid (R = L) := hid_intro (by
        have e := HL.out
        rw [List.take_of_length_le (by have := HZ.out; omega)] at e
        rw [HR.out, if_pos (by omega)]; omega)
      go_wp2_with fail
      go_ret
      exact ⟨ret_int HN.out.symm, HB.out⟩
end EvtR
end Go.Proofs.Ytbjildnnlijidaa
