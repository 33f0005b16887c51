/-
  FnExactNetOf: for every list of documents, every text and every number the law's call returns true (the program's NetOf hands back what the model's does, writes into no list and keeps nothing of one; its list is its own, behind another call too), and the arguments read as they did. No condition.
-/
import Derived.Test.YtnhpkcacjkebnaaLgV
import Derived.Test.YtnhpkcacjkebnaaLgW
namespace Go.Proofs.Ytnhpkcacjkebnaa
open Go.ChangeShapes Go.WideShapes Go.ChangeAt Go.RowKit
open Go.ChangeMaps (open_string shut_string)
set_option linter.unusedVariables false
namespace NetOfL
open LedR LinR RowG NetR
open EvtR (Pt)
set_option maxRecDepth 100000 in
set_option maxHeartbeats 8000000 in
theorem law_in (p : Option Addr) (cap : Nat) (ds : List DocR.D) (a : ByteArray) (m : Int) (D : List N) (R : Int) (KD : Nat) (w : World) (hsz : ¬ (1048576 : Int) < (a.size : Int)) (hR : ¬ R < 0) (hD : D.length ≤ 180) (hI : Dcs p ds w)
    (hZ : Calls Try.prog 14 #[.slice p ds.length cap, .int .i64 1048576] w fun e w' => e = .returned (.int .i64 R) ∧ Below w.heap.size w w')
    (hT : ∀ ao cap w, Dcs ao ds w → Calls Try.prog 16 #[.slice ao ds.length cap] w fun e w' => e = .returned (.slice (some ⟨w.heap.size, 0, none⟩) ds.length ds.length) ∧ Dcs (some ⟨w.heap.size, 0, none⟩) ds w' ∧ Below w.heap.size w w' ∧ Pt w.heap.size (ds.length * 4) w' ∧ DW w.heap.size ds.length ds w')
    (hE : ∀ ao bo cap cap' w, Dcs ao ds w → Dcs bo ds w → Calls Try.prog 18 #[.slice ao ds.length cap, .slice bo ds.length cap'] w fun e w' => e = .returned (.bool true) ∧ Below w.heap.size w w')
    (hMK : ∀ g top cap w, g < top → Pt g (ds.length * 4) w → DX g top ds.length ds w → Calls Try.prog 21 #[.slice (some ⟨g, 0, none⟩) ds.length cap, .int .i64 1] w fun e w' => e = .returned (.int .i64 (KD : Nat)) ∧ Ot g top w w')
    (hS : ∀ ao cap w, Dcs ao ds w → Calls Try.prog 19 #[.slice ao ds.length cap, .string a, .int .i64 m] w fun e w' => ResL w D e w')
    (hM : ∀ ao cap w, Dcs ao ds w → Calls Try.prog 20 #[.slice ao ds.length cap, .string a, .int .i64 m] w fun e w' => ResL w D e w') :
    Calls Try.prog 5 #[.slice p ds.length cap, .string a, .int .i64 m] w fun e w' => e = .returned (.bool true) ∧ Below w.heap.size w w' := by
  have HI := hid_intro hI
  have HZ := hid_intro hZ
  have HT := hid_intro hT
  have HE := hid_intro hE
  have HMK := hid_intro hMK
  have HS := hid_intro hS
  have HM := hid_intro hM
  have HQ := hid_intro (fun ao bo cap cap' w (hI : Lis ao D w) (hJ : Lis bo D w) => eqLis_any ao bo cap cap' D w (by omega) hI hJ)
  have hk0 : ¬ ((KD : Nat) : Int) < 0 := by omega
  clear hI hZ hT hE hS hM hMK
  generalize ds.length = len at *
  go_enter Try.func5, Try.ntmps5
  have HB := hid_intro (Below.refl w.heap.size w)
  go_wp2_with fail
  refine (HZ.out).mono ?_
  rintro e w1 ⟨rfl, hb1⟩
  replace HB := hid_intro (HB.out.trans (hb1.mono HB.out.size))
  clear hb1
  go_wp2_with fail
  refine (HT.out _ _ _ (HI.out.below HB.out)).mono ?_
  rintro e w2 ⟨rfl, hE, hb2, hp, hd⟩
  replace HB := hid_intro (HB.out.trans (hb2.mono HB.out.size))
  have E2 := hid_intro hE
  clear hE hp hd
  clear hb2
  go_wp2_with fail
  refine (HS.out _ _ _ E2.out).mono ?_
  rintro e w3 ⟨ao, cap3, rfl, hm, hb3⟩
  replace HB := hid_intro (HB.out.trans (hb3.mono HB.out.size))
  have HW : Hid (Lis ao D w3) := hid_intro hm.rws
  have HW0 := HW
  clear hm E2
  have HSZ0 := HB.out.size
  clear hb3
  go_wp2_with fail
  refine (HT.out _ _ _ (HI.out.below HB.out)).mono ?_
  rintro e w4 ⟨rfl, hE, hb4, hp, hd⟩
  replace HW := hid_intro (HW.out.below hb4)
  replace HB := hid_intro (HB.out.trans (hb4.mono HB.out.size))
  have X0 := hid_intro hE
  have P0 := hid_intro hp
  have D0 : Hid (DX w3.heap.size w4.heap.size len ds w4) := hid_intro hd.dx
  clear hE hp hd
  have HSZ1 : w3.heap.size < w4.heap.size := P0.out.lt
  clear hb4
  go_wp2_with fail
  refine (HM.out _ _ _ X0.out).mono ?_
  rintro e w5 ⟨bo, cap5, rfl, hm, hb5⟩
  replace HW := hid_intro (HW.out.below hb5)
  replace X0 := hid_intro (X0.out.below hb5)
  replace D0 := hid_intro (D0.out.below P0.out.lt hb5)
  replace P0 := hid_intro (P0.out.below hb5)
  replace HB := hid_intro (HB.out.trans (hb5.mono HB.out.size))
  have HG := hid_intro hm
  clear hm
  clear hb5
  go_wp2_with fail
  refine (HQ.out _ _ _ _ _ HG.out.rws HW.out).mono ?_
  rintro e w6 ⟨rfl, hb6⟩
  replace HW := hid_intro (HW.out.below hb6)
  replace X0 := hid_intro (X0.out.below hb6)
  replace D0 := hid_intro (D0.out.below P0.out.lt hb6)
  replace P0 := hid_intro (P0.out.below hb6)
  replace HG := hid_intro (HG.out.below hb6)
  replace HB := hid_intro (HB.out.trans (hb6.mono HB.out.size))
  clear hb6
  go_wp2_with fail
  refine (HT.out _ _ _ (HI.out.below HB.out)).mono ?_
  rintro e w7 ⟨rfl, hE, hb7, hp, hd⟩
  replace HW := hid_intro (HW.out.below hb7)
  replace X0 := hid_intro (X0.out.below hb7)
  replace D0 := hid_intro (D0.out.below P0.out.lt hb7)
  replace P0 := hid_intro (P0.out.below hb7)
  replace HG := hid_intro (HG.out.below hb7)
  replace HB := hid_intro (HB.out.trans (hb7.mono HB.out.size))
  have Y0 := hid_intro hE
  clear hE hp hd
  clear hb7
  go_wp2_with fail
  refine (HE.out _ _ _ _ _ X0.out Y0.out).mono ?_
  rintro e w8 ⟨rfl, hb8⟩
  replace HW := hid_intro (HW.out.below hb8)
  replace X0 := hid_intro (X0.out.below hb8)
  replace D0 := hid_intro (D0.out.below P0.out.lt hb8)
  replace P0 := hid_intro (P0.out.below hb8)
  replace HG := hid_intro (HG.out.below hb8)
  replace Y0 := hid_intro (Y0.out.below hb8)
  replace HB := hid_intro (HB.out.trans (hb8.mono HB.out.size))
  clear hb8
  clear Y0 X0
  go_wp2_with fail
  refine (HMK.out _ _ _ _ HSZ1 P0.out D0.out).mono ?_
  rintro e w9 ⟨rfl, ho9⟩
  replace HW := hid_intro (ho9.lis HW0.out HW.out (Nat.le_refl _) (by have := P0.out.lt; omega))
  replace HG := hid_intro (ho9.made HG.out (Nat.le_refl _))
  replace HB := hid_intro (ho9.out HB.out HSZ0 (Nat.le_refl _))
  clear ho9 P0 D0
  go_wp2_with fail
  refine (HQ.out _ _ _ _ _ HG.out.rws HW.out).mono ?_
  rintro e w10 ⟨rfl, hb10⟩
  replace HW := hid_intro (HW.out.below hb10)
  replace HG := hid_intro (HG.out.below hb10)
  replace HB := hid_intro (HB.out.trans (hb10.mono HB.out.size))
  clear hb10
  have HTP := hid_intro (made_top HG.out)
  go_wp2_with fail
  refine (markL _ _ D _ _ _ (by omega) HG.out HTP.out).mono ?_
  rintro e w11 ⟨rfl, hk, g, hg, hgt⟩
  have HK := hid_intro hk
  replace HW := hid_intro (lis_far HW0.out HW.out hg (fun x hx => by have := (hgt x hx).1; omega))
  replace HB := hid_intro (HB.out.grown hg HB.out.size (fun k e => by have := (hgt k e).1; omega))
  clear hk hg hgt HTP HG
  have HHL := hid_intro (fun w (h : Mkd bo D.length w) => heldL bo D.length cap5 w (by omega) h)
  generalize hK : 1 + 2 * D.length = KK at *
  have hK0 : ¬ (KK : Int) < 0 := by omega
  go_wp2_with fail
  refine (HHL.out _ HK.out).mono ?_
  rintro e w12 ⟨rfl, hb12⟩
  replace HW := hid_intro (HW.out.below hb12)
  replace HK := hid_intro (HK.out.below hb12)
  replace HB := hid_intro (HB.out.trans (hb12.mono HB.out.size))
  clear hb12
  go_wp2_with fail
  refine (HT.out _ _ _ (HI.out.below HB.out)).mono ?_
  rintro e w13 ⟨rfl, hE, hb13, hp, hd⟩
  replace HW := hid_intro (HW.out.below hb13)
  replace HK := hid_intro (HK.out.below hb13)
  replace HB := hid_intro (HB.out.trans (hb13.mono HB.out.size))
  have X1 := hid_intro hE
  clear hE hp hd
  clear hb13
  go_wp2_with fail
  refine (HM.out _ _ _ X1.out).mono ?_
  rintro e w14 ⟨co, cap14, rfl, hm, hb14⟩
  replace HW := hid_intro (HW.out.below hb14)
  replace HK := hid_intro (HK.out.below hb14)
  replace X1 := hid_intro (X1.out.below hb14)
  replace HB := hid_intro (HB.out.trans (hb14.mono HB.out.size))
  have HG := hid_intro hm
  clear hm
  clear hb14
  clear X1
  go_wp2_with fail
  refine (HQ.out _ _ _ _ _ HG.out.rws HW.out).mono ?_
  rintro e w15 ⟨rfl, hb15⟩
  replace HW := hid_intro (HW.out.below hb15)
  replace HK := hid_intro (HK.out.below hb15)
  replace HG := hid_intro (HG.out.below hb15)
  replace HB := hid_intro (HB.out.trans (hb15.mono HB.out.size))
  clear hb15
  go_wp2_with fail
  refine (HHL.out _ HK.out).mono ?_
  rintro e w16 ⟨rfl, hb16⟩
  replace HW := hid_intro (HW.out.below hb16)
  replace HK := hid_intro (HK.out.below hb16)
  replace HG := hid_intro (HG.out.below hb16)
  replace HB := hid_intro (HB.out.trans (hb16.mono HB.out.size))
  clear hb16
  go_wp2_with fail
  go_ret
  exact ⟨rfl, HB.out⟩
set_option maxRecDepth 100000 in
set_option maxHeartbeats 4000000 in
theorem walk (p : Option Addr) (cap : Nat) (ds : List DocR.D) (a : ByteArray) (ha : a.size ≤ maxLen) (m : Int) (hm : (Lit.int .i64 m).wf = true) (w : World) (h : IsDcs w p ds) :
    Calls Try.prog 5 #[.slice p ds.length cap, .string a, .int .i64 m] w fun e w' => e = .returned (.bool true) ∧ Below w.heap.size w w' := by
  have hZ := szDs p cap ds w h
  obtain ⟨hml, hI, hin⟩ := h
  unfold maxLen at ha
  by_cases hq : 1048576 < a.size
  · have hq2 : (1048576 : Int) < (a.size : Int) := by omega
    generalize ds.length = len at *
    clear hI hin hml hZ
    go_enter Try.func5, Try.ntmps5
    go_wp2_with fail
    go_ret
    exact ⟨rfl, Below.refl _ _⟩
  have hq2 : ¬ (1048576 : Int) < (a.size : Int) := by omega
  by_cases hs : szDR ds < 0
  · have HZ := hid_intro hZ
    generalize szDR ds = R at *
    generalize ds.length = len at *
    clear hI hin hml hZ
    go_enter Try.func5, Try.ntmps5
    go_wp2_with fail
    refine HZ.out.mono ?_
    rintro e w1 ⟨rfl, hb⟩
    have HB := hid_intro hb
    clear hb
    go_wp2_with fail
    go_ret
    exact ⟨rfl, HB.out⟩
  · obtain ⟨hlen, hSm⟩ := szDR_small hs
    exact law_in p cap ds a m (netB ds a m) (szDR ds) (1 + tot ds) w hq2 hs netB_len hI hZ (fun ao cap w hI => toDsM ao cap ds w hlen hSm hI) (fun ao bo cap cap' w hI hJ => eqDs ao bo cap cap' ds w hlen hSm hI hJ) (fun g top cap w h1 h2 h3 => markDs g top cap ds w hlen hSm (tot_small hs) h1 h2 h3) (fun ao cap w hI => spec_net ao cap ds a m w hlen hSm (by omega) hI) (fun ao cap w hI => impl_net ao cap ds a m w hlen hSm (fun d hd => (hin d hd).2) ⟨by omega, hm⟩ hI)
theorem own : ownKnob Try.prog.godebug = none := by kernel_rfl
theorem laidOut : laidOutB Try.prog = true := by kernel_rfl
set_option maxRecDepth 100000 in
theorem lifted (os : Os) (started : os.Started) (H : Type) (enc : TypeId × Value → H) :
    ReturnsInHanded {} Try.checked os 5 .any (Rows.fnExactNetOfSpec.pre6 enc Try.prog Try.f5 Rows.fnExactNetOfRow.domain false) (Rows.fnExactNetOfSpec.post enc Try.prog Try.f5 false true false false) := by
  refine returnsInHanded_of_change (C := Try.checked) own started (by kernel_rfl) Try.func5
    (ChangeSpec.witness6 (enc := enc) (C := Try.checked) false ⟨#[], #[.slice none 0 0, .string ByteArray.empty, .int .i64 0], []⟩ 8 (by kernel_rfl) (by kernel_rfl) (by kernel_rfl) (by kernel_rfl)) ?_
  intro W base args ds gs before hval0 hW hcnd _
  have hval : ∀ (j : Nat) t v, Try.f5.params[j]? = some t → args[j]? = some v → Value.okWide Try.prog W .any base t v := hval0
  obtain ⟨p, q, hA0, hV, hb0, hfz, hnd⟩ := id hW
  have hA : DataW.TrodAll enc Try.prog W 0 (fun _ => true) true Try.f5.params.toList args.toList ds p := hA0
  rw [Try.params5] at hA hval
  obtain ⟨v0, v1, v2, d0, d1, d2, p0, p1, p2, rfl, rfl, rfl, h0, h1, h2⟩ := trodAll_three hA
  obtain ⟨rfl, rfl⟩ := trodVars_none hV
  obtain rfl := hb0
  have hW' := hW
  simp only [List.append_nil] at hW'
  have k0 := h0
  have lt0 : ∀ x ∈ p0, x.block < W.heap.size := fun x hx => hW'.lt x (by simp [hx])
  obtain ⟨a0, len0, cap0, rfl⟩ := okWide_slice Try.underlying30 (hval 0 30 v0 rfl rfl)
  obtain ⟨z0, hz0, w0⟩ : ∃ ds, ds.length = len0 ∧ LedR.IsDcs W a0 ds := by
    obtain ⟨fuel, hf⟩ := h0
    exact LedR.docs_open Try.underlying30 Try.underlying55 (by kernel_rfl) (by kernel_rfl) Try.underlying9 Try.underlying2 Try.underlying2 Try.underlying22 Try.underlying43 (by kernel_rfl) (by kernel_rfl) Try.underlying9 Try.underlying2 (by simpa [Value.cells] using hf)
  subst hz0
  have k1 := h1
  have lt1 : ∀ x ∈ p1, x.block < W.heap.size := fun x hx => hW'.lt x (by simp [hx])
  obtain ⟨a1, rfl, rfl, rfl, w1⟩ := open_string Try.underlying9 (hval 1 9 v1 rfl rfl) h1
  have k2 := h2
  have lt2 : ∀ x ∈ p2, x.block < W.heap.size := fun x hx => hW'.lt x (by simp [hx])
  obtain ⟨a2, rfl, rfl, rfl, w2⟩ := open_int Try.underlying2 (hval 2 2 v2 rfl rfl) h2
  refine (walk a0 cap0 z0 a1 w1 a2 w2 W w0).mono fun e W' ⟨he, bel⟩ => ?_
  subst he
  exact ⟨_, rfl, _, _, _, _, _, _, hW', trodAll_mk1 (shut_bool Try.underlying4 true), trodAll_mk3 (Below.trod laidOut (by kernel_rfl) (of_decide_eq_true (by kernel_rfl)) k0 bel lt0) (Below.trod laidOut (by kernel_rfl) (of_decide_eq_true (by kernel_rfl)) k1 bel lt1) (Below.trod laidOut (by kernel_rfl) (of_decide_eq_true (by kernel_rfl)) k2 bel lt2), rfl, bel.frame _, fun h => by cases h⟩
theorem over : Rows.FnExactNetOfSaid :=
  OpenClaim.holds_of_wide 5 Try.f5 rfl rfl rfl rfl rfl rfl rfl ⟨rfl, rfl, rfl, rfl, rfl⟩ rfl rfl rfl rfl rfl (by kernel_rfl) Try.func5 (by kernel_rfl)
    (of_decide_eq_true (by kernel_rfl)) (by unfold Func.isWrapper; rw [if_neg (of_decide_eq_false (by kernel_rfl))]; exact ⟨rfl, rfl⟩)
    (fun os started H enc _ => lifted os started H enc)

end NetOfL
/-- THE STATEMENT -/
theorem fnExactNetOf_holds : Rows.FnExactNetOfSaid := NetOfL.over
#print axioms fnExactNetOf_holds
end Go.Proofs.Ytnhpkcacjkebnaa
