/-
  FnExactPercent: for all numbers the law's call returns true (the program's Percent hands back what the model's does, every field), and all read as they did. The condition is the card's: the program's own error starts as its text lays it.
-/
import Derived.Test.YtaihfidbpkbnkaaDoorPercent
import Derived.Test.YtaihfidbpkbnkaaDoorEq
import Derived.Test.YtaihfidbpkbnkaaDoorSent
import Derived.Test.YtaihfidbpkbnkaaDoorCards
import Derived.Carry
import Derived.SevenTiedAt
namespace Go.Proofs.YtaihfidbpkbnkaaDoor
open Go.ChangeShapes Go.WideShapes Go.ChangeAt Go.RowKit
set_option linter.unusedVariables false
namespace PercentL
open FixR
theorem both (a b : Int) : ∃ n code : Int, (∀ w, Laid w → Calls Tryd.prog 25 #[.int .i64 a, .int .i64 b] w fun e w' => e = .returned (out n code) ∧ Below w.heap.size w w') ∧ (∀ w, Calls Tryd.prog 26 #[.int .i64 a, .int .i64 b] w fun e w' => e = .returned (out n code) ∧ Below w.heap.size w w') := pc_both a b
theorem walk (a0 a1 : Int) (w0 : (Lit.int .i64 a0).wf = true) (w1 : (Lit.int .i64 a1).wf = true) (w : World) (hL : Laid w) :
    Calls Tryd.prog 7 #[.int .i64 a0, .int .i64 a1] w fun e w' => e = .returned (.bool true) ∧ Below w.heap.size w w' := by
  obtain ⟨n, c, hi, hs⟩ := both a0 a1
  have HI := hid_intro hi
  have HS := hid_intro hs
  have HL := hid_intro hL
  clear hi hs hL w0 w1
  go_enter Tryd.func7, Tryd.ntmps7
  go_wp2_with fail
  refine (HS.out _).mono ?_
  rintro e u1 ⟨rfl, hb1⟩
  have HB1 := hid_intro hb1
  unfold out
  clear hb1
  go_wp2_with fail
  refine (HI.out _ (HL.out.below (HB1.out.alloc HB1.out.size _))).mono ?_
  rintro e u2 ⟨rfl, hb2⟩
  have HB2 := hid_intro ((HB1.out.alloc HB1.out.size _).trans (hb2.mono (HB1.out.alloc HB1.out.size _).size))
  have g0 := hb2.cell (p := ⟨u1.heap.size, 0, none⟩) (by simp)
  have g1 := hb2.cell (p := ⟨u1.heap.size, 1, none⟩) (by simp)
  have g2 := hb2.cell (p := ⟨u1.heap.size, 2, none⟩) (by simp)
  have hlt : u1.heap.size < u2.heap.size := by have := hb2.size; simp at this; omega
  simp [go_sem] at g0 g1 g2
  unfold out
  clear hb2
  go_wp2_with fail
  refine (eq_any n c _).mono ?_
  rintro e u3 ⟨rfl, hb3⟩
  have HB3 := hid_intro hb3
  clear hb3
  go_wp2
  go_ret
  refine ⟨rfl, ?_⟩
  exact HB2.out.trans ((bel_alloc HB3.out).mono HB2.out.size)
set_option maxRecDepth 100000 in
theorem lifted (os : Os) (started : os.Started) (H : Type) (enc : TypeId × Value → H) :
    ReturnsInHanded {} Tryd.checked os 7 .any (fun w args => (Rows.fnExactPercentSpec.pre enc Tryd.prog Tryd.f7 [] false w args ∧ laidMetH Tryd.prog Snt.laid w) ∧ sizedMet enc Tryd.prog Tryd.f7 (OpenSpec.ofChange Rows.fnExactPercentSpec) false w args)
      (Rows.fnExactPercentSpec.post enc Tryd.prog Tryd.f7 false true false false) := by
  refine returnsInHanded_of_change_and (C := Tryd.checked) (X := fun w _ => laidMetH Tryd.prog Snt.laid w) (fun _ _ _ hh h => h.of_heap hh) Snt.own started (by kernel_rfl) Tryd.func7
    (ChangeSpec.witness_shaped (enc := enc) (C := Tryd.checked) (os := os) (X := fun w _ => laidMetH Tryd.prog Snt.laid w) false (World.doorLaid Tryd.prog 400 os) #[.int .i64 0, .int .i64 0] 8 rfl (World.shaped_of_RefB (by kernel_rfl) (by kernel_rfl)) (by kernel_rfl) (by kernel_rfl) (by kernel_rfl) (Snt.door_met os _)) ?_
  intro W base args ds gs before hval0 hW _ _ hL _
  have hval : ∀ (j : Nat) t v, Tryd.f7.params[j]? = some t → args[j]? = some v → Value.okWide Tryd.prog W .any base t v := hval0
  have hW' := hW
  obtain ⟨p, q, hA0, hV0, rfl, hfz, hnd⟩ := hW
  have hA : DataW.TrodAll enc Tryd.prog W 0 (fun _ => true) true Tryd.f7.params.toList args.toList ds p := hA0
  have hV : DataW.TrodVars enc Tryd.prog W (fun _ => true) ["loop.example/g00562/impl.errRunsOver"] gs q := hV0
  rw [Tryd.params7] at hA hval
  obtain ⟨v0, v1, d0, d1, p0, p1, rfl, rfl, rfl, h0, h1⟩ := trodAll_two hA
  obtain ⟨a0, rfl, rfl, rfl, w0⟩ := open_int Tryd.underlying2 (hval 0 2 v0 rfl rfl) h0
  obtain ⟨a1, rfl, rfl, rfl, w1⟩ := open_int Tryd.underlying2 (hval 1 2 v1 rfl rfl) h1
  obtain ⟨av, hv⟩ := Snt.of_laid hL
  have hl := Snt.laid_of hv
  obtain ⟨rfl, rfl⟩ := hV.unique (vars_read1 enc Snt.gv Snt.gt Tryd.underlying83 hv trivial _)
  refine (walk a0 a1 w0 w1 W hl).mono fun e W' ⟨he, bel⟩ => ?_
  subst he
  exact ⟨_, rfl, _, _, _, [], [], [.cell 1 0], hW', trodAll_mk1 (shut_bool Tryd.underlying4 true), trodAll_mk2 (shut_int Tryd.underlying2 w0) (shut_int Tryd.underlying2 w1), vars_read1 enc Snt.gv Snt.gt Tryd.underlying83 (Snt.var_below hl hv bel) trivial _, bel.frame _, fun h => by cases h⟩
theorem row_holds : Rows.FnExactPercentSaid :=
  OpenClaim.holds_of_wide 7 Tryd.f7 rfl rfl rfl rfl rfl rfl rfl ⟨rfl, rfl, rfl, rfl, rfl⟩ rfl rfl rfl rfl rfl (by kernel_rfl) Tryd.func7 (by kernel_rfl)
    (of_decide_eq_true (by kernel_rfl)) (by unfold Func.isWrapper; rw [if_neg (of_decide_eq_false (by kernel_rfl))]; exact ⟨rfl, rfl⟩)
    (fun os started H enc _ => lifted os started H enc)
theorem card_holds : Rows.FnExactPercentCardSaid :=
  Claim7.holds_tied_plain_at .later [] [.sentinel] true Rows.fnExactPercentCard.stood.harness true
    row_holds (fun _ h => by cases h) (by kernel_rfl) (fun _ h => by cases h) fnExactPercent_row_tie rfl ⟨rfl, rfl⟩ (by kernel_rfl) rfl
    (fun f fn hf hfn => by
      obtain rfl : f = 7 := Option.some.inj ((show Tryd.prog.funcNamed "loop.example/g00562/laws.FnExactPercent" = some 7 by kernel_rfl).symm.trans hf) |>.symm
      obtain rfl : fn = Tryd.f7 := (Option.some.inj (Tryd.func7.symm.trans hfn)).symm
      exact ⟨by kernel_rfl, fun j t ht => by
        rw [Tryd.params7] at ht
        have hm : t ∈ [2, 2] := by simpa using Array.mem_of_getElem? ht
        have hall : ([2, 2].all fun u => !Tryd.prog.wantsStandIn u) = true := by kernel_rfl
        exact (show Tryd.prog.wantsStandIn t = false by simpa using List.all_eq_true.1 hall t hm)⟩)
    (by kernel_rfl)
end PercentL
/-- THE STATEMENT: THE CARD -/
theorem fnExactPercent_holds : Rows.FnExactPercentCardSaid := PercentL.card_holds
#print axioms fnExactPercent_holds
end Go.Proofs.YtaihfidbpkbnkaaDoor
