/-
  FnExactDateOf: for every number the law's call returns true (the program's DateOf hands back what the model's does, every field), and the number reads as it did. The condition is the card's: the program's table starts as its text lays it.
-/
import Derived.Test.YtaihfidbpkbnkabDoorDateBoth
import Derived.Test.YtaihfidbpkbnkabDoorTabl
import Derived.Test.YtaihfidbpkbnkabDoorCards
import Derived.Carry
import Derived.OpenVars
import Derived.Lib.SmallJoins
import Derived.SevenTiedAt
namespace Go.Proofs.YtaihfidbpkbnkabDoor
open Go.ChangeShapes Go.WideShapes Go.ChangeAt Go.RowKit
set_option linter.unusedVariables false
namespace DateOfL
open DateR
theorem eq_any (y m d : Int) (w : World) : Calls Tryd.prog 14 #[date y m d, date y m d] w fun e w' => e = .returned (.bool true) ∧ Below w.heap.size w w' := by
  unfold date
  go_enter Tryd.func14, Tryd.ntmps14
  go_wp2
  go_ret
  refine ⟨rfl, ?_⟩
  repeat' first | exact Below.refl _ _ | apply Below.alloc
  all_goals first | omega | (simp; done) | (simp; omega)
theorem walk (day : Int) (w : World) (hL : Laid w) :
    Calls Tryd.prog 5 #[.int .i64 day] w fun e w' => e = .returned (.bool true) ∧ Below w.heap.size w w' := by
  obtain ⟨y, m, d, _, hi, hs⟩ := dateof_both day
  have HI := hid_intro hi
  have HS := hid_intro hs
  have HL := hid_intro hL
  have HE := hid_intro (fun w => eq_any y m d w)
  clear hi hs hL
  unfold date at *
  go_enter Tryd.func5, Tryd.ntmps5
  go_wp2_with fail
  refine (HS.out _).mono ?_
  rintro e u1 ⟨rfl, hb1⟩
  have HB1 := hid_intro hb1
  clear hb1
  go_wp2_with fail
  refine (HI.out _ (HL.out.below (HB1.out.alloc HB1.out.size _))).mono ?_
  rintro e u2 ⟨rfl, hb2⟩
  have HB2 := hid_intro ((HB1.out.alloc HB1.out.size _).trans (hb2.mono (HB1.out.alloc HB1.out.size _).size))
  have g0 := hb2.cell (p := ⟨u1.heap.size, 0, none⟩) (by simp)
  have g1 := hb2.cell (p := ⟨u1.heap.size, 1, none⟩) (by simp)
  have g2 := hb2.cell (p := ⟨u1.heap.size, 2, none⟩) (by simp)
  have hlt : u1.heap.size < u2.heap.size := by have := hb2.size; simp at this; omega
  simp [go_sem] at g0 g1 g2
  clear hb2
  go_wp2_with fail
  refine (HE.out _).mono ?_
  rintro e u3 ⟨rfl, hb3⟩
  have HB3 := hid_intro hb3
  clear hb3
  go_wp2
  go_ret
  refine ⟨rfl, ?_⟩
  exact HB2.out.trans ((bel_alloc HB3.out).mono HB2.out.size)
set_option maxRecDepth 100000 in
theorem lifted (os : Os) (started : os.Started) (H : Type) (enc : TypeId × Value → H) :
    ReturnsInHanded {} Tryd.checked os 5 .any (fun w args => (Rows.fnExactDateOfSpec.pre enc Tryd.prog Tryd.f5 [] false w args ∧ laidMetH Tryd.prog Lay.laid w) ∧ sizedMet enc Tryd.prog Tryd.f5 (OpenSpec.ofChange Rows.fnExactDateOfSpec) false w args)
      (Rows.fnExactDateOfSpec.post enc Tryd.prog Tryd.f5 false true false false) := by
  refine returnsInHanded_of_change_and (C := Tryd.checked) (X := fun w _ => laidMetH Tryd.prog Lay.laid w) (fun _ _ _ hh h => h.of_heap hh) Lay.own started (by kernel_rfl) Tryd.func5
    (ChangeSpec.witness_shaped (enc := enc) (C := Tryd.checked) (os := os) (X := fun w _ => laidMetH Tryd.prog Lay.laid w) false (World.doorLaid Tryd.prog 400 os) #[.int .i64 0] 8 rfl (World.shaped_of_RefB (by kernel_rfl) (by kernel_rfl)) (by kernel_rfl) (by kernel_rfl) (by kernel_rfl) (Lay.door_met os _)) ?_
  intro W base args ds gs before hval0 hW _ _ hL _
  have hval : ∀ (j : Nat) t v, Tryd.f5.params[j]? = some t → args[j]? = some v → Value.okWide Tryd.prog W .any base t v := hval0
  have hW' := hW
  obtain ⟨p, q, hA0, hV0, rfl, hfz, hnd⟩ := hW
  have hA : DataW.TrodAll enc Tryd.prog W 0 (fun _ => true) true Tryd.f5.params.toList args.toList ds p := hA0
  have hV : DataW.TrodVars enc Tryd.prog W (fun _ => true) ["loop.example/g00562/impl.monthLengths"] gs q := hV0
  rw [Tryd.params5] at hA hval
  obtain ⟨v0, d0, rfl, rfl, h0⟩ := trodAll_one hA
  have k0 := h0
  have lt0 : ∀ x ∈ p, x.block < W.heap.size := fun x hx => hW'.lt x (by simp [hx])
  obtain ⟨a0, rfl, rfl, rfl, w0⟩ := open_int Tryd.underlying2 (hval 0 2 v0 rfl rfl) h0
  have hl := Lay.of_laid hL
  obtain ⟨_, _, _, _, gd, _, rfl, _, _, _, _, _⟩ := trodVars_one hV
  refine (walk a0 W hl).mono fun e W' ⟨he, bel⟩ => ?_
  subst he
  exact ⟨_, rfl, _, _, _, _, _, _, hW', trodAll_mk1 (shut_bool Tryd.underlying4 true), trodAll_mk1 (Below.trod Lay.laidOut (by kernel_rfl) (of_decide_eq_true (by kernel_rfl)) k0 bel lt0), bel.trodVars Lay.laidOut (by kernel_rfl) hV, bel.frame _, fun h => by cases h⟩
theorem row_holds : Rows.FnExactDateOfSaid :=
  OpenClaim.holds_of_wide 5 Tryd.f5 rfl rfl rfl rfl rfl rfl rfl ⟨rfl, rfl, rfl, rfl, rfl⟩ rfl rfl rfl rfl rfl (by kernel_rfl) Tryd.func5 (by kernel_rfl)
    (of_decide_eq_true (by kernel_rfl)) (by unfold Func.isWrapper; rw [if_neg (of_decide_eq_false (by kernel_rfl))]; exact ⟨rfl, rfl⟩)
    (fun os started H enc _ => lifted os started H enc)
theorem card_holds : Rows.FnExactDateOfCardSaid :=
  Claim7.holds_tied_plain_at .later [] [.data] true Rows.fnExactDateOfCard.stood.harness false
    row_holds (fun _ h => by cases h) (by kernel_rfl) (fun _ h => by cases h) fnExactDateOf_row_tie rfl ⟨rfl, rfl⟩ (by kernel_rfl) rfl
    (fun f fn hf hfn => by
      obtain rfl : f = 5 := Option.some.inj ((show Tryd.prog.funcNamed "loop.example/g00562/laws.FnExactDateOf" = some 5 by kernel_rfl).symm.trans hf) |>.symm
      obtain rfl : fn = Tryd.f5 := (Option.some.inj (Tryd.func5.symm.trans hfn)).symm
      exact ⟨by kernel_rfl, fun j t ht => by
        rw [Tryd.params5] at ht
        have hm : t ∈ [2] := by simpa using Array.mem_of_getElem? ht
        have hall : ([2].all fun u => !Tryd.prog.wantsStandIn u) = true := by kernel_rfl
        exact (show Tryd.prog.wantsStandIn t = false by simpa using List.all_eq_true.1 hall t hm)⟩)
    (by kernel_rfl)
end DateOfL
/-- THE STATEMENT: THE CARD -/
theorem fnExactDateOf_holds : Rows.FnExactDateOfCardSaid := DateOfL.card_holds
#print axioms fnExactDateOf_holds
end Go.Proofs.YtaihfidbpkbnkabDoor
