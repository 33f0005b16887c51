/-
  FnExactStoreCrash: for every store and number the law's call returns true (what the program's StoreCrash leaves is what the model's leaves), and the store reads as it did. No condition.
-/
import Derived.Test.YteiopimnjeidaaaStC
import Derived.Deep.Fields
import Derived.OpenVars
import Derived.Carry
import Derived.ChangeMaps5
import Derived.Lib.SmallJoins
namespace Go.Proofs.Yteiopimnjeidaaa
open Go.ChangeShapes Go.WideShapes Go.ChangeAt Go.RowKit Go.Deep
set_option linter.unusedVariables false
namespace StoR
section
variable {H : Type} {enc : TypeId × Value → H} {P : Program} {w : World} {base : Nat} {spare : Nat → Bool} {held : Bool}
theorem list2 {α : Type} {cs : List α} (h : cs.length = 2) : ∃ c0 c1, cs = [c0, c1] := by
  match cs, h with
  | [c0, c1], _ => exact ⟨c0, c1, rfl⟩
theorem store_cells {t : TypeId} {f0 f1 : Field} {fuel : Nat} {cs : List Value} {x : DataW H × List MemPlace} (hs : P.underlying t = some (.struct #[f0, f1])) (hone : oneCellFields P #[f0, f1] = true) (hC : P.cellsOf t = 2)
    (u0 : P.underlying f0.type = some .string) (u1 : P.underlying f1.type = some (.int .i64))
    (h : DataW.trod enc P w base spare held fuel t cs = some x) :
    ∃ (l : ByteArray) (n : Int), cs = [.string l, .int .i64 n] ∧ l.size ≤ maxLen ∧ (Lit.int .i64 n).wf = true := by
  obtain ⟨xs, n, _, _, hl, hlen, hf⟩ := DataW.trod_struct hs h
  obtain ⟨c0, c1, rfl⟩ := list2 (hl.trans hC)
  obtain ⟨y0, y1, rfl⟩ := list2 (show xs.length = 2 from hlen)
  obtain ⟨o0, k0⟩ := hone_of hone 0 f0 rfl
  obtain ⟨o1, k1⟩ := hone_of hone 1 f1 rfl
  have h0 := hf 0 f0 rfl
  have h1 := hf 1 f1 rfl
  simp [o0, k0] at h0
  simp [o1, k1] at h1
  obtain ⟨i, e0, _, s0⟩ := DataW.trod_string u0 h0
  obtain ⟨p, e1, _, s1⟩ := DataW.trod_int u1 h1
  simp only [List.cons.injEq, and_true] at e0 e1
  subst e0 e1
  exact ⟨i, p, rfl, s0, s1⟩
end
theorem sz_store (l : ByteArray) (n : Int) (w : World) (hl : l.size ≤ maxLen) :
    Calls Try.prog 4 #[st l n, .int .i64 1048576] w fun e w' => e = .returned (.int .i64 (if l.size ≤ 1048576 then 1048576 - l.size else -1)) ∧ Below w.heap.size w w' := by
  unfold maxLen at *
  unfold st
  have HB := hid_intro ((Below.refl w.heap.size w).alloc (Nat.le_refl _) (Obj.cells #[.string l, .int .i64 n] 23))
  rcases (show ((1048576 : Int) - (l.size : Int) < 0) ∨ ¬ ((1048576 : Int) - (l.size : Int) < 0) by omega) with q1 | q1
  all_goals
    go_enter Try.func4, Try.ntmps4
    go_wp2_with fail
    go_ret
    refine ⟨ret_int ?_, HB.out⟩
    first | rfl | omega | (rw [if_neg (by omega)]; done) | (rw [if_pos (by omega)]; omega)
theorem to_store (l : ByteArray) (n : Int) (w : World) :
    Calls Try.prog 6 #[st l n] w fun e w' => e = .returned (st l n) ∧ Below w.heap.size w w' := by
  unfold st
  go_enter Try.func6, Try.ntmps6
  go_wp2_with fail
  refine bodyPost_ret (v := st l n) (by simp [st, results, Try.results6, go_sem]) rfl ⟨rfl, ?_⟩
  repeat' first | exact Below.refl _ _ | apply Below.setCell | apply Below.alloc
  all_goals first | omega | (simp; done) | (simp; omega)
theorem eq_store (l : ByteArray) (n : Int) (w : World) :
    Calls Try.prog 8 #[st l n, st l n] w fun e w' => e = .returned (.bool true) ∧ Below w.heap.size w w' := by
  unfold st
  go_enter Try.func8, Try.ntmps8
  go_wp2_with fail
  go_ret
  refine ⟨rfl, ?_⟩
  repeat' first | exact Below.refl _ _ | apply Below.setCell | apply Below.alloc
  all_goals first | omega | (simp; done) | (simp; omega)
theorem inner (l : ByteArray) (n k : Int) (l' : ByteArray) (n' : Int) (sz : Int) (hz : 0 ≤ sz) (w : World)
    (hl : ∀ w, Calls Try.prog 4 #[st l n, .int .i64 1048576] w fun e w' => e = .returned (.int .i64 sz) ∧ Below w.heap.size w w')
    (ht : ∀ w, Calls Try.prog 6 #[st l n] w fun e w' => e = .returned (st l n) ∧ Below w.heap.size w w')
    (hs : ∀ w, Calls Try.prog 5 #[st l n, .int .i64 k] w fun e w' => e = .returned (st l' n') ∧ Below w.heap.size w w')
    (hi : ∀ w, Calls Try.prog 7 #[st l n, .int .i64 k] w fun e w' => e = .returned (st l' n') ∧ Below w.heap.size w w')
    (he : ∀ w, Calls Try.prog 8 #[st l' n', st l' n'] w fun e w' => e = .returned (.bool true) ∧ Below w.heap.size w w') :
    Calls Try.prog 3 #[st l n, .int .i64 k] w fun e w' => e = .returned (.bool true) ∧ Below w.heap.size w w' := by
  have HT := hid_intro ht
  have HS := hid_intro hs
  have HI := hid_intro hi
  have HZ := hid_intro hl
  have HE := hid_intro he
  have hz' : ¬ sz < 0 := by omega
  clear ht hs hi hl he
  unfold st at *
  go_enter Try.func3, Try.ntmps3
  go_wp2_with fail
  refine (HZ.out _).mono ?_
  rintro e w1 ⟨rfl, hb1⟩
  obtain ⟨hc, hf⟩ := bcell hb1
  have HB1 := hid_intro (bel_alloc hb1)
  have hlt1 : w.heap.size < w1.heap.size := by have := hb1.size; simp at this; omega
  clear hb1
  go_wp2_with fail
  refine (HT.out _).mono ?_
  rintro e w2 ⟨rfl, hb2⟩
  obtain ⟨hc2, hf2⟩ := bcell hb2
  have HB2 := hid_intro (HB1.out.trans (hb2.mono HB1.out.size))
  have hlt2 : w.heap.size < w2.heap.size := by have := hb2.size; omega
  clear hb2
  go_wp2_with fail
  refine (HS.out _).mono ?_
  rintro e w3 ⟨rfl, hb3⟩
  obtain ⟨hc3, hf3⟩ := bcell hb3
  have HB3 := hid_intro (HB2.out.trans (hb3.mono HB2.out.size))
  have hlt3 : w.heap.size < w3.heap.size := by have := hb3.size; omega
  clear hb3
  go_wp2_with fail
  refine (HT.out _).mono ?_
  rintro e w4 ⟨rfl, hb4⟩
  have g0 := hb4.cell (p := ⟨w3.heap.size, 0, none⟩) (by simp)
  have g1 := hb4.cell (p := ⟨w3.heap.size, 1, none⟩) (by simp)
  have hlt4 : w3.heap.size < w4.heap.size := by have := hb4.size; simp at this; omega
  have HB4 := hid_intro (HB3.out.trans ((bel_alloc hb4).mono HB3.out.size))
  simp [go_sem] at g0 g1
  clear hb4 hc hf hc2 hf2 hc3 hf3
  go_wp2_with fail
  refine (HI.out _).mono ?_
  rintro e w5 ⟨rfl, hb5⟩
  obtain ⟨hc5, hf5⟩ := bcell hb5
  have HB5 := hid_intro (HB4.out.trans (hb5.mono HB4.out.size))
  have k0 := (hc5 w3.heap.size 0 hlt4).trans g0
  have k1 := (hc5 w3.heap.size 1 hlt4).trans g1
  have hlt5 : w3.heap.size < w5.heap.size := by have := hb5.size; omega
  clear hb5 hc5 hf5 g0 g1
  go_wp2_with fail
  refine (HE.out _).mono ?_
  rintro e w6 ⟨rfl, hb6⟩
  have HB6 := hid_intro (HB5.out.trans ((bel_alloc hb6).mono HB5.out.size))
  clear hb6
  go_wp2
  go_ret
  exact ⟨rfl, HB6.out⟩
theorem long (l : ByteArray) (n k : Int) (w : World)
    (hl : ∀ w, Calls Try.prog 4 #[st l n, .int .i64 1048576] w fun e w' => e = .returned (.int .i64 (-1)) ∧ Below w.heap.size w w') :
    Calls Try.prog 3 #[st l n, .int .i64 k] w fun e w' => e = .returned (.bool true) ∧ Below w.heap.size w w' := by
  have HZ := hid_intro hl
  clear hl
  unfold st at *
  go_enter Try.func3, Try.ntmps3
  go_wp2_with fail
  refine (HZ.out _).mono ?_
  rintro e w1 ⟨rfl, hb1⟩
  have HB1 := hid_intro (bel_alloc hb1)
  clear hb1
  go_wp2_with fail
  go_ret
  exact ⟨rfl, HB1.out⟩
theorem walk (l : ByteArray) (n : Int) (h1 : l.size ≤ maxLen) (h2 : (Lit.int .i64 n).wf = true) (k : Int) (h3 : (Lit.int .i64 k).wf = true) (w : World) :
    Calls Try.prog 3 #[.agg #[.string l, .int .i64 n], .int .i64 k] w fun e w' => e = .returned (.bool true) ∧ Below w.heap.size w w' := by
  have hl := fun w => sz_store l n w h1
  by_cases h : l.size ≤ 1048576
  · rw [if_pos h] at hl
    obtain ⟨l', n', hs, hi⟩ := crash_both l n k h
    exact inner l n k l' n' _ (by omega) w hl (fun w => to_store l n w) hs hi (fun w => eq_store l' n' w)
  · rw [if_neg h] at hl
    exact long l n k w hl
theorem own : ownKnob Try.prog.godebug = none := by kernel_rfl
theorem laidOut : laidOutB Try.prog = true := by kernel_rfl
set_option maxRecDepth 100000 in
theorem lifted (os : Os) (started : os.Started) (H : Type) (enc : TypeId × Value → H) :
    ReturnsInHanded {} Try.checked os 3 .any (Rows.fnExactStoreCrashSpec.pre6 enc Try.prog Try.f3 Rows.fnExactStoreCrashRow.domain false) (Rows.fnExactStoreCrashSpec.post enc Try.prog Try.f3 false true false false) := by
  refine returnsInHanded_of_change (C := Try.checked) own started (by kernel_rfl) Try.func3
    (ChangeSpec.witness6 (enc := enc) (C := Try.checked) false ⟨#[], #[.agg #[.string ByteArray.empty, .int .i64 0], .int .i64 0], []⟩ 8 (by kernel_rfl) (by kernel_rfl) (by kernel_rfl) (by kernel_rfl)) ?_
  intro W base args ds gs before hval0 hW hcnd _
  have hval : ∀ (j : Nat) t v, Try.f3.params[j]? = some t → args[j]? = some v → Value.okWide Try.prog W .any base t v := hval0
  obtain ⟨p, q, hA0, hV, hb0, hfz, hnd⟩ := id hW
  have hA : DataW.TrodAll enc Try.prog W 0 (fun _ => true) true Try.f3.params.toList args.toList ds p := hA0
  rw [Try.params3] at hA hval
  obtain ⟨v0, v1, d0, d1, p0, p1, rfl, rfl, rfl, h0, h1⟩ := trodAll_two hA
  obtain ⟨rfl, rfl⟩ := trodVars_none hV
  obtain rfl := hb0
  have hW' := hW
  simp only [List.append_nil] at hW'
  have k0 := h0
  have lt0 : ∀ x ∈ p0, x.block < W.heap.size := fun x hx => hW'.lt x (by simp [hx])
  obtain ⟨cs0, rfl, _⟩ := okWide_struct Try.underlying23 (hval 0 23 v0 rfl rfl)
  obtain ⟨fuel0, hf0⟩ := h0
  obtain ⟨l0, n0, hcs0, wl0, wn0⟩ := StoR.store_cells Try.underlying23 (by kernel_rfl) (by kernel_rfl) Try.underlying9 Try.underlying2 hf0
  obtain rfl : cs0 = #[.string l0, .int .i64 n0] := by
    obtain ⟨l⟩ := cs0
    simp [Value.cells] at hcs0
    rw [hcs0]
  have k1 := h1
  have lt1 : ∀ x ∈ p1, x.block < W.heap.size := fun x hx => hW'.lt x (by simp [hx])
  obtain ⟨a1, rfl, rfl, rfl, w1⟩ := open_int Try.underlying2 (hval 1 2 v1 rfl rfl) h1
  refine (walk l0 n0 wl0 wn0 a1 w1 W ).mono fun e W' ⟨he, bel⟩ => ?_
  subst he
  exact ⟨_, rfl, _, _, _, _, _, _, hW', trodAll_mk1 (shut_bool Try.underlying4 true), trodAll_mk2 (Below.trod laidOut (by kernel_rfl) (of_decide_eq_true (by kernel_rfl)) k0 bel lt0) (Below.trod laidOut (by kernel_rfl) (of_decide_eq_true (by kernel_rfl)) k1 bel lt1), rfl, bel.frame _, fun h => by cases h⟩
theorem over : Rows.FnExactStoreCrashSaid :=
  OpenClaim.holds_of_wide 3 Try.f3 rfl rfl rfl rfl rfl rfl rfl ⟨rfl, rfl, rfl, rfl, rfl⟩ rfl rfl rfl rfl rfl (by kernel_rfl) Try.func3 (by kernel_rfl)
    (of_decide_eq_true (by kernel_rfl)) (by unfold Func.isWrapper; rw [if_neg (of_decide_eq_false (by kernel_rfl))]; exact ⟨rfl, rfl⟩)
    (fun os started H enc _ => lifted os started H enc)

end StoR
/-- THE STATEMENT -/
theorem fnExactStoreCrash_holds : Rows.FnExactStoreCrashSaid := StoR.over
#print axioms fnExactStoreCrash_holds
end Go.Proofs.Yteiopimnjeidaaa
