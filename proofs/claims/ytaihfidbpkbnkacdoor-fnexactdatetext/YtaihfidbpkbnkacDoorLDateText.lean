/-
  FnExactDateText: for every date the law's call returns true (the program's DateText hands back what the model's does), and the date reads as it did. The condition is the card's: the program's table and the library's start as their text lays them.
-/
import Derived.Test.YtaihfidbpkbnkacDoorDateText
import Derived.Test.YtaihfidbpkbnkacDoorToDate
import Derived.Test.YtaihfidbpkbnkacDoorTablT
import Derived.Test.YtaihfidbpkbnkacDoorCards
import Derived.Carry
import Derived.OpenVars
import Derived.Lib.SmallJoins
import Derived.SevenTiedAt
namespace Go.Proofs.YtaihfidbpkbnkacDoor
open Go.ChangeShapes Go.WideShapes Go.ChangeAt Go.RowKit
set_option linter.unusedVariables false
namespace DateTextL
open DateR (date toDate_any hid_intro)
open LayT (Laid)
theorem inner (y m d : Int) (v : ByteArray) (w : World) (hL : Laid w)
    (ht : ∀ w, Calls Tryd.prog 6 #[date y m d] w fun e w' => e = .returned (date y m d) ∧ Below w.heap.size w w')
    (hs : ∀ w, Calls Tryd.prog 5 #[date y m d] w fun e w' => e = .returned (.string v) ∧ Below w.heap.size w w')
    (hi : ∀ w, Laid w → Calls Tryd.prog 7 #[date y m d] w fun e w' => e = .returned (.string v) ∧ Below w.heap.size w w') :
    Calls Tryd.prog 3 #[date y m d] w fun e w' => e = .returned (.bool true) ∧ Below w.heap.size w w' := by
  have HT := hid_intro ht
  have HS := hid_intro hs
  have HI := hid_intro hi
  have HL := hid_intro hL
  have hB0 := (Below.refl w.heap.size w).alloc (Nat.le_refl _) (Obj.cells #[.int .i64 y, .int .i64 m, .int .i64 d] 23)
  have HB0 := hid_intro hB0
  clear hL ht hs hi hB0
  unfold date at *
  go_enter Tryd.func3, Tryd.ntmps3
  go_wp2_with fail
  refine (HT.out _).mono ?_
  rintro e w1 ⟨rfl, hb1⟩
  have HB1 := hid_intro hb1
  clear hb1
  go_wp2_with fail
  refine (HS.out _).mono ?_
  rintro e w2 ⟨rfl, hb2⟩
  have hb := HB1.out.trans (hb2.mono HB1.out.size)
  have HB := hid_intro hb
  have g0 := hb.cell (p := ⟨w.heap.size, 0, none⟩) (by simp)
  have g1 := hb.cell (p := ⟨w.heap.size, 1, none⟩) (by simp)
  have g2 := hb.cell (p := ⟨w.heap.size, 2, none⟩) (by simp)
  simp [go_sem] at g0 g1 g2
  clear hb hb2 HB1
  go_wp2_with fail
  refine (HT.out _).mono ?_
  rintro e w3 ⟨rfl, hb3⟩
  have HB3 := hid_intro (HB.out.trans (hb3.mono HB.out.size))
  clear hb3 HB
  go_wp2_with fail
  refine (HI.out _ (HL.out.below (HB0.out.trans (HB3.out.mono (by simp))))).mono ?_
  rintro e w4 ⟨rfl, hb4⟩
  have HB4 := hid_intro (HB0.out.trans ((HB3.out.trans (hb4.mono HB3.out.size)).mono (by simp)))
  clear hb4 HB3
  go_wp2
  go_ret
  exact ⟨rfl, HB4.out⟩
theorem walk (y m d : Int) (w : World) (hL : Laid w) : Calls Tryd.prog 3 #[date y m d] w fun e w' => e = .returned (.bool true) ∧ Below w.heap.size w w' := by
  obtain ⟨T, _, _, hi, hs⟩ := DateR.text_both y m d
  exact inner y m d T w hL (toDate_any y m d) hs (fun w hL => hi w hL.1 hL.2)
set_option maxRecDepth 100000 in
theorem lifted (os : Os) (started : os.Started) (H : Type) (enc : TypeId × Value → H) :
    ReturnsInHanded {} Tryd.checked os 3 .any (fun w args => (Rows.fnExactDateTextSpec.pre enc Tryd.prog Tryd.f3 [] false w args ∧ laidMetH Tryd.prog LayT.laid w) ∧ sizedMet enc Tryd.prog Tryd.f3 (OpenSpec.ofChange Rows.fnExactDateTextSpec) false w args)
      (Rows.fnExactDateTextSpec.post enc Tryd.prog Tryd.f3 false true false false) := by
  refine returnsInHanded_of_change_and (C := Tryd.checked) (X := fun w _ => laidMetH Tryd.prog LayT.laid w) (fun _ _ _ hh h => h.of_heap hh) LayT.own started (by kernel_rfl) Tryd.func3
    (ChangeSpec.witness_shaped (enc := enc) (C := Tryd.checked) (os := os) (X := fun w _ => laidMetH Tryd.prog LayT.laid w) false (World.doorLaid Tryd.prog 400 os) #[.agg #[.int .i64 0, .int .i64 0, .int .i64 0]] 8 rfl (World.shaped_of_RefB (by kernel_rfl) (by kernel_rfl)) (by kernel_rfl) (by kernel_rfl) (by kernel_rfl) (LayT.door_met os _)) ?_
  intro W base args ds gs before hval0 hW _ _ hL _
  have hval : ∀ (j : Nat) t v, Tryd.f3.params[j]? = some t → args[j]? = some v → Value.okWide Tryd.prog W .any base t v := hval0
  have hW' := hW
  obtain ⟨p, q, hA0, hV0, rfl, hfz, hnd⟩ := hW
  have hA : DataW.TrodAll enc Tryd.prog W 0 (fun _ => true) true Tryd.f3.params.toList args.toList ds p := hA0
  have hV : DataW.TrodVars enc Tryd.prog W (fun _ => true) ["loop.example/g00562/impl.monthLengths"] gs q := hV0
  rw [Tryd.params3] at hA hval
  obtain ⟨v0, d0, rfl, rfl, h0⟩ := trodAll_one hA
  have k0 := h0
  have lt0 : ∀ x ∈ p, x.block < W.heap.size := fun x hx => hW'.lt x (by simp [hx])
  obtain ⟨c00, c01, c02, y00, y01, y02, m0, rfl, rfl, rfl, e00, e01, e02⟩ := Joins.open_agg3 Tryd.underlying23 (by kernel_rfl) (by kernel_rfl) (hval 0 23 v0 rfl rfl) h0
  obtain ⟨a00, f00, rfl, _⟩ := DataW.trod_int Tryd.underlying2 e00
  simp at f00; subst f00
  obtain ⟨a01, f01, rfl, _⟩ := DataW.trod_int Tryd.underlying2 e01
  simp at f01; subst f01
  obtain ⟨a02, f02, rfl, _⟩ := DataW.trod_int Tryd.underlying2 e02
  simp at f02; subst f02
  have hl := LayT.of_laid hL
  obtain ⟨_, _, _, _, gd, _, rfl, _, _, _, _, _⟩ := trodVars_one hV
  refine (walk a00 a01 a02 W  hl).mono fun e W' ⟨he, bel⟩ => ?_
  subst he
  exact ⟨_, rfl, _, _, _, _, _, _, hW', trodAll_mk1 (shut_bool Tryd.underlying4 true), trodAll_mk1 (Below.trod LayT.laidOut (by kernel_rfl) (of_decide_eq_true (by kernel_rfl)) k0 bel lt0), bel.trodVars LayT.laidOut (by kernel_rfl) hV, bel.frame _, fun h => by cases h⟩
theorem row_holds : Rows.FnExactDateTextSaid :=
  OpenClaim.holds_of_wide 3 Tryd.f3 rfl rfl rfl rfl rfl rfl rfl ⟨rfl, rfl, rfl, rfl, rfl⟩ rfl rfl rfl rfl rfl (by kernel_rfl) Tryd.func3 (by kernel_rfl)
    (of_decide_eq_true (by kernel_rfl)) (by unfold Func.isWrapper; rw [if_neg (of_decide_eq_false (by kernel_rfl))]; exact ⟨rfl, rfl⟩)
    (fun os started H enc _ => lifted os started H enc)
theorem card_holds : Rows.FnExactDateTextCardSaid :=
  Claim7.holds_tied_plain_at .later [] [.data, .data, .data, .data] true Rows.fnExactDateTextCard.stood.harness true
    row_holds (fun _ h => by cases h) (by kernel_rfl) (fun _ h => by cases h) fnExactDateText_row_tie rfl ⟨rfl, rfl⟩ (by kernel_rfl) rfl
    (fun f fn hf hfn => by
      obtain rfl : f = 3 := Option.some.inj ((show Tryd.prog.funcNamed "loop.example/g00562/laws.FnExactDateText" = some 3 by kernel_rfl).symm.trans hf) |>.symm
      obtain rfl : fn = Tryd.f3 := (Option.some.inj (Tryd.func3.symm.trans hfn)).symm
      exact ⟨by kernel_rfl, fun j t ht => by
        rw [Tryd.params3] at ht
        have hm : t ∈ [23] := by simpa using Array.mem_of_getElem? ht
        have hall : ([23].all fun u => !Tryd.prog.wantsStandIn u) = true := by kernel_rfl
        exact (show Tryd.prog.wantsStandIn t = false by simpa using List.all_eq_true.1 hall t hm)⟩)
    (by kernel_rfl)
end DateTextL
/-- THE STATEMENT: THE CARD -/
theorem fnExactDateText_holds : Rows.FnExactDateTextCardSaid := DateTextL.card_holds
#print axioms fnExactDateText_holds
end Go.Proofs.YtaihfidbpkbnkacDoor
