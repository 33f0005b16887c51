/-
  FnExactDrawn: for every list of lines and every number the law's call returns true (the program's Drawn hands back what the model's does, writes into no list and keeps nothing of one; its list is its own, behind another call too), and the list reads as it did. No condition.
-/
import Derived.Test.YtnhjodlcdfkpnaaLiZ
import Derived.Test.YtnhjodlcdfkpnaaLiE
import Derived.Test.YtnhjodlcdfkpnaaLiM
namespace Go.Proofs.Ytnhjodlcdfkpnaa
open Go.ChangeShapes Go.WideShapes Go.ChangeAt Go.RowKit
open Go.ChangeMaps (open_string shut_string)
set_option linter.unusedVariables false
namespace DrawnL
open LinR RowG
open EvtR (Pt)
theorem ens_grown {ao : Option Addr} {es : List N} {w0 w w' : World} {row : Option Nat} (h0 : Lis ao es w0) (h : Lis ao es w) (hg : w.grownBy w' row) (hb : ∀ x, row = some x → w0.heap.size ≤ x) : Lis ao es w' := by
  refine Rws.grown h hg ?_
  rcases h0 with h1 | ⟨b, off, rfl, hl, _⟩
  · exact .inl h1
  · refine .inr (fun b' off' e hr => ?_)
    have := hb b' hr.symm
    simp only [Option.some.injEq, Addr.mk.injEq] at e
    omega
theorem made_top {base : Nat} {ao : Option Addr} {l : List N} {w : World} (h : MadeG 2 N.cells N.zero base ao l w) : l.length = 0 ∨ ∀ g, ao = some ⟨g, 0, none⟩ → g < w.heap.size :=
  h.own.imp id (fun ⟨g, h1, h2, h3⟩ g' e => by rw [h1] at e; cases e; exact h3.lt)
set_option maxRecDepth 100000 in
set_option maxHeartbeats 4000000 in
theorem law_in (a : Option Addr) (cap : Nat) (es : List N) (b : Int) (D : List N) (R : Int) (w : World) (hR : ¬ R < 0) (hlen : es.length ≤ 1048576) (hD : D.length ≤ 6) (hI : Lis a es w)
    (hZ : Calls Try.prog 6 #[.slice a es.length cap, .int .i64 1048576] w fun e w' => e = .returned (.int .i64 R) ∧ Below w.heap.size w w')
    (hS : ∀ ao cap w, Lis ao es w → Calls Try.prog 13 #[.slice ao es.length cap, .int .i64 b] w fun e w' => Res w D e w')
    (hM : ∀ ao cap w, Lis ao es w → Calls Try.prog 14 #[.slice ao es.length cap, .int .i64 b] w fun e w' => Res w D e w') :
    Calls Try.prog 5 #[.slice a es.length cap, .int .i64 b] w fun e w' => e = .returned (.bool true) ∧ Below w.heap.size w w' := by
  have HZ := hid_intro hZ
  have HT := hid_intro (fun ao cap w hI => toLis_any ao cap es w hlen hI)
  have HS := hid_intro hS
  have HM := hid_intro hM
  have HE := hid_intro (fun ao bo cap cap' w hI hJ => eqLis_any ao bo cap cap' es w hlen hI hJ)
  have HQ := hid_intro (fun ao bo cap cap' w (hI : Lis ao D w) (hJ : Lis bo D w) => eqLis_any ao bo cap cap' D w (by omega) hI hJ)
  have HMX := hid_intro (fun (g : Nat) (cap : Nat) w (h : Pt g (es.length * 2) w) => marks_any g es.length cap w hlen h)
  have HI := hid_intro hI
  clear hI hZ hS hM
  generalize es.length = len at *
  have hk0 : ¬ ((1 + 2 * len : Nat) : Int) < 0 := by omega
  go_enter Try.func5, Try.ntmps5
  go_wp2_with fail
  refine HZ.out.mono ?_
  rintro e w1 ⟨rfl, hb1⟩
  have HB1 := hid_intro hb1
  clear hb1
  go_wp2_with fail
  refine (HT.out _ _ _ (HI.out.below HB1.out)).mono ?_
  rintro e w2 ⟨rfl, hE2, hp2, hb2⟩
  have HE2 := hid_intro hE2
  have HB2 := hid_intro (HB1.out.trans (hb2.mono HB1.out.size))
  clear hE2 hp2 hb2
  go_wp2_with fail
  refine (HS.out _ _ _ HE2.out).mono ?_
  rintro e w3 ⟨ao, cap3, rfl, hm3, hb3⟩
  have HW3 : Hid (Lis ao D w3) := hid_intro hm3.rws
  have HB3 := hid_intro (HB2.out.trans (hb3.mono HB2.out.size))
  clear hm3 hb3
  go_wp2_with fail
  refine (HT.out _ _ _ (HI.out.below HB3.out)).mono ?_
  rintro e w4 ⟨rfl, hE4, hp4, hb4⟩
  have HX4 := hid_intro hE4
  have HP4 := hid_intro hp4
  have HW4 := hid_intro (HW3.out.below hb4)
  have HB4 := hid_intro (HB3.out.trans (hb4.mono HB3.out.size))
  clear hE4 hb4 hp4
  go_wp2_with fail
  refine (HM.out _ _ _ HX4.out).mono ?_
  rintro e w5 ⟨bo, cap5, rfl, hm5, hb5⟩
  have HM5 := hid_intro hm5
  have HX5 := hid_intro (HX4.out.below hb5)
  have HP5 := hid_intro (HP4.out.below hb5)
  have HW5 := hid_intro (HW4.out.below hb5)
  have HB5 := hid_intro (HB4.out.trans (hb5.mono HB4.out.size))
  clear hm5 hb5
  go_wp2_with fail
  refine (HQ.out _ _ _ _ _ HM5.out.rws HW5.out).mono ?_
  rintro e w6 ⟨rfl, hb6⟩
  have HM6 := hid_intro (HM5.out.below hb6)
  have HX6 := hid_intro (HX5.out.below hb6)
  have HP6 := hid_intro (HP5.out.below hb6)
  have HW6 := hid_intro (HW5.out.below hb6)
  have HB6 := hid_intro (HB5.out.trans (hb6.mono HB5.out.size))
  clear hb6
  go_wp2_with fail
  refine (HT.out _ _ _ (HI.out.below HB6.out)).mono ?_
  rintro e w7 ⟨rfl, hE7, hp7, hb7⟩
  have HY7 := hid_intro hE7
  have HM7 := hid_intro (HM6.out.below hb7)
  have HX7 := hid_intro (HX6.out.below hb7)
  have HP7 := hid_intro (HP6.out.below hb7)
  have HW7 := hid_intro (HW6.out.below hb7)
  have HB7 := hid_intro (HB6.out.trans (hb7.mono HB6.out.size))
  clear hE7 hp7 hb7
  go_wp2_with fail
  refine (HE.out _ _ _ _ _ HX7.out HY7.out).mono ?_
  rintro e w8 ⟨rfl, hb8⟩
  have HM8 := hid_intro (HM7.out.below hb8)
  have HP8 := hid_intro (HP7.out.below hb8)
  have HW8 := hid_intro (HW7.out.below hb8)
  have HB8 := hid_intro (HB7.out.trans (hb8.mono HB7.out.size))
  have HTP := hid_intro (made_top HM8.out)
  clear hb8
  go_wp2_with fail
  refine (HMX.out _ _ _ HP8.out).mono ?_
  rintro e w9 ⟨rfl, hp9, hw9, hg9⟩
  have HW9 := hid_intro (ens_grown HW3.out HW8.out hg9 (fun x hx => by cases hx; exact Nat.le_refl _))
  have HM9 : Hid (MadeG 2 N.cells N.zero w4.heap.size bo D w9) := hid_intro ⟨Rws.grown HM8.out.rws hg9 (HM8.out.own.imp id (fun ⟨g, h1, h2, h3⟩ b' off' e hr => by
      rw [h1] at e
      simp only [Option.some.injEq, Addr.mk.injEq] at e
      have hp := HP4.out.lt
      cases hr
      omega)), HM8.out.own.imp id (fun ⟨g, h1, h2, h3⟩ => ⟨g, h1, h2, by
        have hne : some g ≠ some w3.heap.size := fun e => by
          have hp := HP4.out.lt
          cases e
          omega
        have e := hg9.block g h3.lt hne
        exact ⟨by have := hg9.size; have := h3.lt; omega, fun o ho => by obtain ⟨v, hv⟩ := h3.has o ho; exact ⟨v, (World.cell?_of_block (a := ⟨g, o, none⟩) e).trans hv⟩, fun o ho => (World.frozen?_of_block (a := ⟨g, o, none⟩) e).trans (h3.free o ho)⟩⟩)⟩
  have HB9 := hid_intro (HB8.out.grown hg9 HB8.out.size (fun k e => by cases e; exact HB3.out.size))
  have HTP9 : Hid (D.length = 0 ∨ ∀ g, bo = some ⟨g, 0, none⟩ → g < w8.heap.size) := HTP
  clear hp9 hw9 hg9
  go_wp2_with fail
  refine (HQ.out _ _ _ _ _ HM9.out.rws HW9.out).mono ?_
  rintro e w10 ⟨rfl, hb10⟩
  have HM10 := hid_intro (HM9.out.below hb10)
  have HW10 := hid_intro (HW9.out.below hb10)
  have HB10 := hid_intro (HB9.out.trans (hb10.mono HB9.out.size))
  clear hb10
  go_wp2_with fail
  refine (markL _ _ D _ _ _ (by omega) HM10.out HTP9.out).mono ?_
  rintro e w11 ⟨rfl, hk11, g, hg11, hgt⟩
  have HK11 := hid_intro hk11
  have HW11 := hid_intro (ens_grown HW3.out HW10.out hg11 (fun x hx => by have := (hgt x hx).1; have := HP4.out.lt; omega))
  have HB11 := hid_intro (HB10.out.grown hg11 HB10.out.size (fun k e => by have := (hgt k e).1; have := HP4.out.lt; have := HB3.out.size; omega))
  clear hk11 hg11 hgt
  have HHL := hid_intro (fun w (h : Mkd bo D.length w) => heldL bo D.length cap5 w (by omega) h)
  generalize hK : 1 + 2 * D.length = K at *
  have hK0 : ¬ (K : Int) < 0 := by omega
  go_wp2_with fail
  refine (HHL.out _ HK11.out).mono ?_
  rintro e w12 ⟨rfl, hb12⟩
  have HK12 := hid_intro (HK11.out.below hb12)
  have HW12 := hid_intro (HW11.out.below hb12)
  have HB12 := hid_intro (HB11.out.trans (hb12.mono HB11.out.size))
  clear hb12
  go_wp2_with fail
  refine (HT.out _ _ _ (HI.out.below HB12.out)).mono ?_
  rintro e w13 ⟨rfl, hE13, hp13, hb13⟩
  have HX13 := hid_intro hE13
  have HK13 := hid_intro (HK12.out.below hb13)
  have HW13 := hid_intro (HW12.out.below hb13)
  have HB13 := hid_intro (HB12.out.trans (hb13.mono HB12.out.size))
  clear hE13 hp13 hb13
  go_wp2_with fail
  refine (HM.out _ _ _ HX13.out).mono ?_
  rintro e w14 ⟨co, cap14, rfl, hm14, hb14⟩
  have HM14 := hid_intro hm14
  have HK14 := hid_intro (HK13.out.below hb14)
  have HW14 := hid_intro (HW13.out.below hb14)
  have HB14 := hid_intro (HB13.out.trans (hb14.mono HB13.out.size))
  clear hm14 hb14
  go_wp2_with fail
  refine (HQ.out _ _ _ _ _ HM14.out.rws HW14.out).mono ?_
  rintro e w15 ⟨rfl, hb15⟩
  have HK15 := hid_intro (HK14.out.below hb15)
  have HB15 := hid_intro (HB14.out.trans (hb15.mono HB14.out.size))
  clear hb15
  go_wp2_with fail
  refine (HHL.out _ HK15.out).mono ?_
  rintro e w16 ⟨rfl, hb16⟩
  have HB16 := hid_intro (HB15.out.trans (hb16.mono HB15.out.size))
  clear hb16
  go_wp2_with fail
  go_ret
  exact ⟨rfl, HB16.out⟩
set_option maxRecDepth 100000 in
set_option maxHeartbeats 4000000 in
theorem walk (a : Option Addr) (cap : Nat) (es : List N) (b : Int) (wb : (Lit.int .i64 b).wf = true) (w : World) (h : IsLis w a es) :
    Calls Try.prog 5 #[.slice a es.length cap, .int .i64 b] w fun e w' => e = .returned (.bool true) ∧ Below w.heap.size w w' := by
  obtain ⟨hm, hI, hw⟩ := h
  have hZ := szs_any a cap es w hm hI hw
  by_cases hs : szR es < 0
  · have HZ := hid_intro hZ
    generalize szR es = R at *
    generalize es.length = len at *
    clear hI hw hm hZ
    go_enter Try.func5, Try.ntmps5
    go_wp2_with fail
    refine HZ.out.mono ?_
    rintro e w1 ⟨rfl, hb⟩
    have HB := hid_intro hb
    clear hb
    go_wp2_with fail
    go_ret
    exact ⟨rfl, HB.out⟩
  · obtain ⟨hlen, hi, _, _⟩ := sz_small hs
    exact law_in a cap es b (drawB b es) (szR es) w hs hlen draw_len hI hZ (fun ao cap w hI => spec_drawn ao cap es b w hlen hi hI) (fun ao cap w hI => impl_drawn ao cap es b w hlen hi hI)
theorem own : ownKnob Try.prog.godebug = none := by kernel_rfl
theorem laidOut : laidOutB Try.prog = true := by kernel_rfl
set_option maxRecDepth 100000 in
theorem lifted (os : Os) (started : os.Started) (H : Type) (enc : TypeId × Value → H) :
    ReturnsInHanded {} Try.checked os 5 .any (Rows.fnExactDrawnSpec.pre6 enc Try.prog Try.f5 Rows.fnExactDrawnRow.domain false) (Rows.fnExactDrawnSpec.post enc Try.prog Try.f5 false true false false) := by
  refine returnsInHanded_of_change (C := Try.checked) own started (by kernel_rfl) Try.func5
    (ChangeSpec.witness6 (enc := enc) (C := Try.checked) false ⟨#[], #[.slice none 0 0, .int .i64 0], []⟩ 8 (by kernel_rfl) (by kernel_rfl) (by kernel_rfl) (by kernel_rfl)) ?_
  intro W base args ds gs before hval0 hW hcnd _
  have hval : ∀ (j : Nat) t v, Try.f5.params[j]? = some t → args[j]? = some v → Value.okWide Try.prog W .any base t v := hval0
  obtain ⟨p, q, hA0, hV, hb0, hfz, hnd⟩ := id hW
  have hA : DataW.TrodAll enc Try.prog W 0 (fun _ => true) true Try.f5.params.toList args.toList ds p := hA0
  rw [Try.params5] at hA hval
  obtain ⟨v0, v1, d0, d1, p0, p1, rfl, rfl, rfl, h0, h1⟩ := trodAll_two hA
  obtain ⟨rfl, rfl⟩ := trodVars_none hV
  obtain rfl := hb0
  have hW' := hW
  simp only [List.append_nil] at hW'
  have k0 := h0
  have lt0 : ∀ x ∈ p0, x.block < W.heap.size := fun x hx => hW'.lt x (by simp [hx])
  obtain ⟨a0, len0, cap0, rfl⟩ := okWide_slice Try.underlying22 (hval 0 22 v0 rfl rfl)
  obtain ⟨z0, hz0, w0⟩ : ∃ es, es.length = len0 ∧ LinR.IsLis W a0 es := by
    obtain ⟨fuel, hf⟩ := h0
    exact LinR.lis_open Try.underlying22 Try.underlying35 (by kernel_rfl) (by kernel_rfl) Try.underlying9 Try.underlying2 (by simpa [Value.cells] using hf)
  subst hz0
  have k1 := h1
  have lt1 : ∀ x ∈ p1, x.block < W.heap.size := fun x hx => hW'.lt x (by simp [hx])
  obtain ⟨a1, rfl, rfl, rfl, w1⟩ := open_int Try.underlying2 (hval 1 2 v1 rfl rfl) h1
  refine (walk a0 cap0 z0 a1 w1 W w0).mono fun e W' ⟨he, bel⟩ => ?_
  subst he
  exact ⟨_, rfl, _, _, _, _, _, _, hW', trodAll_mk1 (shut_bool Try.underlying4 true), trodAll_mk2 (Below.trod laidOut (by kernel_rfl) (of_decide_eq_true (by kernel_rfl)) k0 bel lt0) (Below.trod laidOut (by kernel_rfl) (of_decide_eq_true (by kernel_rfl)) k1 bel lt1), rfl, bel.frame _, fun h => by cases h⟩
theorem over : Rows.FnExactDrawnSaid :=
  OpenClaim.holds_of_wide 5 Try.f5 rfl rfl rfl rfl rfl rfl rfl ⟨rfl, rfl, rfl, rfl, rfl⟩ rfl rfl rfl rfl rfl (by kernel_rfl) Try.func5 (by kernel_rfl)
    (of_decide_eq_true (by kernel_rfl)) (by unfold Func.isWrapper; rw [if_neg (of_decide_eq_false (by kernel_rfl))]; exact ⟨rfl, rfl⟩)
    (fun os started H enc _ => lifted os started H enc)

end DrawnL
/-- THE STATEMENT -/
theorem fnExactDrawn_holds : Rows.FnExactDrawnSaid := DrawnL.over
#print axioms fnExactDrawn_holds
end Go.Proofs.Ytnhjodlcdfkpnaa
