/-
  FnExactLess: for every two lists of lines the law's call returns true (the program's Less hands back what the model's does, writes into no list and keeps nothing of one; its list is its own, behind another call too), and both lists read as they did. No condition.
-/
import Derived.Test.YtnhpkcacjkebnaaNtW
import Derived.Test.YtnhpkcacjkebnaaLiK
namespace Go.Proofs.Ytnhpkcacjkebnaa
open Go.ChangeShapes Go.WideShapes Go.ChangeAt Go.RowKit
open Go.ChangeMaps (open_string shut_string)
set_option linter.unusedVariables false
namespace LessL
open LinR RowG NetR
open EvtR (Pt)
set_option maxRecDepth 100000 in
set_option maxHeartbeats 8000000 in
theorem law_in (a b : Option Addr) (capa capb : Nat) (A B D : List N) (R1 R2 : Int) (w : World) (hR1 : ¬ R1 < 0) (hR2 : ¬ R2 < 0) (hla : A.length ≤ 1048576) (hlb : B.length ≤ 1048576) (hD : D.length ≤ 12) (hA : Lis a A w) (hB : Lis b B w)
    (hZ1 : Calls Try.prog 7 #[.slice a A.length capa, .int .i64 1048576] w fun e w' => e = .returned (.int .i64 R1) ∧ Below w.heap.size w w')
    (hZ2 : ∀ W, Below w.heap.size w W → Calls Try.prog 7 #[.slice b B.length capb, .int .i64 R1] W fun e w' => e = .returned (.int .i64 R2) ∧ Below W.heap.size W w')
    (hS : ∀ ab aoff bo cap cap' w, Lis (some ⟨ab, aoff, none⟩) A w → Lis bo B w → Calls Try.prog 8 #[.slice (some ⟨ab, aoff, none⟩) A.length cap, .slice bo B.length cap'] w fun e w' => ResL w D e w')
    (hM : ∀ ao bo cap cap' w, Lis ao A w → Lis bo B w → Calls Try.prog 10 #[.slice ao A.length cap, .slice bo B.length cap'] w fun e w' => ResL w D e w') :
    Calls Try.prog 3 #[.slice a A.length capa, .slice b B.length capb] w fun e w' => e = .returned (.bool true) ∧ Below w.heap.size w w' := by
  have HZ1 := hid_intro hZ1
  have HZ2 := hid_intro hZ2
  have HTA := hid_intro (fun ao cap w hI => toLis_any ao cap A w hla hI)
  have HTB := hid_intro (fun ao cap w hI => toLis_any ao cap B w hlb hI)
  have HS := hid_intro hS
  have HM := hid_intro hM
  have HEA := hid_intro (fun ao bo cap cap' w hI hJ => eqLis_any ao bo cap cap' A w hla hI hJ)
  have HEB := hid_intro (fun ao bo cap cap' w hI hJ => eqLis_any ao bo cap cap' B w hlb hI hJ)
  have HQ := hid_intro (fun ao bo cap cap' w (hI : Lis ao D w) (hJ : Lis bo D w) => eqLis_any ao bo cap cap' D w (by omega) hI hJ)
  have HMA := hid_intro (fun (g : Nat) (cap : Nat) w (h : Pt g (A.length * 2) w) => marksK 1 (by omega) (by omega) g A.length cap w hla h)
  have HMB := hid_intro (fun (g : Nat) (cap : Nat) w (h : Pt g (B.length * 2) w) => marksK (1 + 2 * A.length) (by omega) (by omega) g B.length cap w hlb h)
  have HIA := hid_intro hA
  have HIB := hid_intro hB
  have hk0 : ¬ ((1 + 2 * A.length + 2 * B.length : Nat) : Int) < 0 := by omega
  clear hA hB hZ1 hZ2 hS hM
  generalize A.length = la at *
  generalize B.length = lb at *
  generalize 1 + 2 * la + 2 * lb = kb at *
  generalize 1 + 2 * la = ka at *
  go_enter Try.func3, Try.ntmps3
  have HB := hid_intro (Below.refl w.heap.size w)
  go_wp2_with fail
  refine (HZ1.out).mono ?_
  rintro e w1 ⟨rfl, hb1⟩
  replace HB := hid_intro (HB.out.trans (hb1.mono HB.out.size))
  clear hb1
  go_wp2_with fail
  refine (HZ2.out _ HB.out).mono ?_
  rintro e w2 ⟨rfl, hb2⟩
  replace HB := hid_intro (HB.out.trans (hb2.mono HB.out.size))
  clear hb2
  go_wp2_with fail
  refine (HTA.out _ _ _ (HIA.out.below HB.out)).mono ?_
  rintro e w3 ⟨rfl, hE, hp, hb3⟩
  replace HB := hid_intro (HB.out.trans (hb3.mono HB.out.size))
  have E3 := hid_intro hE
  clear hE hp
  clear hb3
  go_wp2_with fail
  refine (HTB.out _ _ _ (HIB.out.below HB.out)).mono ?_
  rintro e w4 ⟨rfl, hE, hp, hb4⟩
  replace E3 := hid_intro (E3.out.below hb4)
  replace HB := hid_intro (HB.out.trans (hb4.mono HB.out.size))
  have E4 := hid_intro hE
  clear hE hp
  clear hb4
  go_wp2_with fail
  refine (HS.out _ _ _ _ _ _ E3.out E4.out).mono ?_
  rintro e w5 ⟨ao, cap5, rfl, hm, hb5⟩
  replace E3 := hid_intro (E3.out.below hb5)
  replace E4 := hid_intro (E4.out.below hb5)
  replace HB := hid_intro (HB.out.trans (hb5.mono HB.out.size))
  have HW : Hid (Lis ao D w5) := hid_intro hm.rws
  have HW0 := HW
  clear hm
  have HSZ0 := HB.out.size
  clear hb5
  clear E3 E4
  go_wp2_with fail
  refine (HTA.out _ _ _ (HIA.out.below HB.out)).mono ?_
  rintro e w6 ⟨rfl, hE, hp, hb6⟩
  replace HW := hid_intro (HW.out.below hb6)
  replace HB := hid_intro (HB.out.trans (hb6.mono HB.out.size))
  have X0 := hid_intro hE
  have P0 := hid_intro hp
  clear hE hp
  have HSZ1 : w5.heap.size < w6.heap.size := P0.out.lt
  clear hb6
  go_wp2_with fail
  refine (HTB.out _ _ _ (HIB.out.below HB.out)).mono ?_
  rintro e w7 ⟨rfl, hE, hp, hb7⟩
  replace HW := hid_intro (HW.out.below hb7)
  replace X0 := hid_intro (X0.out.below hb7)
  replace P0 := hid_intro (P0.out.below hb7)
  replace HB := hid_intro (HB.out.trans (hb7.mono HB.out.size))
  have X1 := hid_intro hE
  have P1 := hid_intro hp
  clear hE hp
  have HSZ2 : w6.heap.size < w7.heap.size := P1.out.lt
  clear hb7
  go_wp2_with fail
  refine (HM.out _ _ _ _ _ X0.out X1.out).mono ?_
  rintro e w8 ⟨bo, cap8, rfl, hm, hb8⟩
  replace HW := hid_intro (HW.out.below hb8)
  replace X0 := hid_intro (X0.out.below hb8)
  replace P0 := hid_intro (P0.out.below hb8)
  replace X1 := hid_intro (X1.out.below hb8)
  replace P1 := hid_intro (P1.out.below hb8)
  replace HB := hid_intro (HB.out.trans (hb8.mono HB.out.size))
  have HG := hid_intro hm
  clear hm
  clear hb8
  go_wp2_with fail
  refine (HQ.out _ _ _ _ _ HG.out.rws HW.out).mono ?_
  rintro e w9 ⟨rfl, hb9⟩
  replace HW := hid_intro (HW.out.below hb9)
  replace X0 := hid_intro (X0.out.below hb9)
  replace P0 := hid_intro (P0.out.below hb9)
  replace X1 := hid_intro (X1.out.below hb9)
  replace P1 := hid_intro (P1.out.below hb9)
  replace HG := hid_intro (HG.out.below hb9)
  replace HB := hid_intro (HB.out.trans (hb9.mono HB.out.size))
  clear hb9
  go_wp2_with fail
  refine (HTA.out _ _ _ (HIA.out.below HB.out)).mono ?_
  rintro e w10 ⟨rfl, hE, hp, hb10⟩
  replace HW := hid_intro (HW.out.below hb10)
  replace X0 := hid_intro (X0.out.below hb10)
  replace P0 := hid_intro (P0.out.below hb10)
  replace X1 := hid_intro (X1.out.below hb10)
  replace P1 := hid_intro (P1.out.below hb10)
  replace HG := hid_intro (HG.out.below hb10)
  replace HB := hid_intro (HB.out.trans (hb10.mono HB.out.size))
  have Y0 := hid_intro hE
  clear hE hp
  clear hb10
  go_wp2_with fail
  refine (HEA.out _ _ _ _ _ X0.out Y0.out).mono ?_
  rintro e w11 ⟨rfl, hb11⟩
  replace HW := hid_intro (HW.out.below hb11)
  replace X0 := hid_intro (X0.out.below hb11)
  replace P0 := hid_intro (P0.out.below hb11)
  replace X1 := hid_intro (X1.out.below hb11)
  replace P1 := hid_intro (P1.out.below hb11)
  replace HG := hid_intro (HG.out.below hb11)
  replace Y0 := hid_intro (Y0.out.below hb11)
  replace HB := hid_intro (HB.out.trans (hb11.mono HB.out.size))
  clear hb11
  clear Y0 X0
  go_wp2_with fail
  refine (HTB.out _ _ _ (HIB.out.below HB.out)).mono ?_
  rintro e w12 ⟨rfl, hE, hp, hb12⟩
  replace HW := hid_intro (HW.out.below hb12)
  replace P0 := hid_intro (P0.out.below hb12)
  replace X1 := hid_intro (X1.out.below hb12)
  replace P1 := hid_intro (P1.out.below hb12)
  replace HG := hid_intro (HG.out.below hb12)
  replace HB := hid_intro (HB.out.trans (hb12.mono HB.out.size))
  have Y1 := hid_intro hE
  clear hE hp
  clear hb12
  go_wp2_with fail
  refine (HEB.out _ _ _ _ _ X1.out Y1.out).mono ?_
  rintro e w13 ⟨rfl, hb13⟩
  replace HW := hid_intro (HW.out.below hb13)
  replace P0 := hid_intro (P0.out.below hb13)
  replace X1 := hid_intro (X1.out.below hb13)
  replace P1 := hid_intro (P1.out.below hb13)
  replace HG := hid_intro (HG.out.below hb13)
  replace Y1 := hid_intro (Y1.out.below hb13)
  replace HB := hid_intro (HB.out.trans (hb13.mono HB.out.size))
  clear hb13
  clear Y1 X1
  have h56 : Hid (w5.heap.size < w6.heap.size ∧ w6.heap.size < w7.heap.size ∧ w.heap.size ≤ w5.heap.size) := hid_intro ⟨HSZ1, HSZ2, HSZ0⟩
  go_wp2_with fail
  refine (HMA.out _ _ _ P0.out).mono ?_
  rintro e w14 ⟨rfl, hg⟩
  replace HW := hid_intro (lis_far HW0.out HW.out hg (fun x hx => by cases hx; exact Nat.le_refl _))
  replace HG := hid_intro (made_far HG.out hg (by have := h56.out; omega))
  replace P1 := hid_intro (pt_far P1.out hg (by have := h56.out; omega))
  replace HB := hid_intro (HB.out.grown hg HB.out.size (fun k e => by cases e; exact h56.out.2.2))
  clear hg P0
  go_wp2_with fail
  refine (HMB.out _ _ _ P1.out).mono ?_
  rintro e w15 ⟨rfl, hg⟩
  replace HW := hid_intro (lis_far HW0.out HW.out hg (fun x hx => by cases hx; have := h56.out; omega))
  replace HG := hid_intro (made_far HG.out hg (by have := h56.out; omega))
  replace HB := hid_intro (HB.out.grown hg HB.out.size (fun k e => by cases e; have := h56.out; omega))
  clear hg P1
  go_wp2_with fail
  refine (HQ.out _ _ _ _ _ HG.out.rws HW.out).mono ?_
  rintro e w16 ⟨rfl, hb16⟩
  replace HW := hid_intro (HW.out.below hb16)
  replace HG := hid_intro (HG.out.below hb16)
  replace HB := hid_intro (HB.out.trans (hb16.mono HB.out.size))
  clear hb16
  have HTP := hid_intro (made_top HG.out)
  go_wp2_with fail
  refine (markL _ _ D _ _ _ (by omega) HG.out HTP.out).mono ?_
  rintro e w17 ⟨rfl, hk, g, hg, hgt⟩
  have HK := hid_intro hk
  replace HW := hid_intro (lis_far HW0.out HW.out hg (fun x hx => by have := (hgt x hx).1; have := h56.out; omega))
  replace HB := hid_intro (HB.out.grown hg HB.out.size (fun k e => by have := (hgt k e).1; have := h56.out; omega))
  clear hk hg hgt HTP HG
  have HHL := hid_intro (fun w (h : Mkd bo D.length w) => heldL bo D.length cap8 w (by omega) h)
  generalize hK : 1 + 2 * D.length = KK at *
  have hK0 : ¬ (KK : Int) < 0 := by omega
  go_wp2_with fail
  refine (HHL.out _ HK.out).mono ?_
  rintro e w18 ⟨rfl, hb18⟩
  replace HW := hid_intro (HW.out.below hb18)
  replace HK := hid_intro (HK.out.below hb18)
  replace HB := hid_intro (HB.out.trans (hb18.mono HB.out.size))
  clear hb18
  go_wp2_with fail
  refine (HTA.out _ _ _ (HIA.out.below HB.out)).mono ?_
  rintro e w19 ⟨rfl, hE, hp, hb19⟩
  replace HW := hid_intro (HW.out.below hb19)
  replace HK := hid_intro (HK.out.below hb19)
  replace HB := hid_intro (HB.out.trans (hb19.mono HB.out.size))
  have X0 := hid_intro hE
  clear hE hp
  clear hb19
  go_wp2_with fail
  refine (HTB.out _ _ _ (HIB.out.below HB.out)).mono ?_
  rintro e w20 ⟨rfl, hE, hp, hb20⟩
  replace HW := hid_intro (HW.out.below hb20)
  replace HK := hid_intro (HK.out.below hb20)
  replace X0 := hid_intro (X0.out.below hb20)
  replace HB := hid_intro (HB.out.trans (hb20.mono HB.out.size))
  have X1 := hid_intro hE
  clear hE hp
  clear hb20
  go_wp2_with fail
  refine (HM.out _ _ _ _ _ X0.out X1.out).mono ?_
  rintro e w21 ⟨co, cap21, rfl, hm, hb21⟩
  replace HW := hid_intro (HW.out.below hb21)
  replace HK := hid_intro (HK.out.below hb21)
  replace X0 := hid_intro (X0.out.below hb21)
  replace X1 := hid_intro (X1.out.below hb21)
  replace HB := hid_intro (HB.out.trans (hb21.mono HB.out.size))
  have HG := hid_intro hm
  clear hm
  clear hb21
  clear X0 X1
  go_wp2_with fail
  refine (HQ.out _ _ _ _ _ HG.out.rws HW.out).mono ?_
  rintro e w22 ⟨rfl, hb22⟩
  replace HW := hid_intro (HW.out.below hb22)
  replace HK := hid_intro (HK.out.below hb22)
  replace HG := hid_intro (HG.out.below hb22)
  replace HB := hid_intro (HB.out.trans (hb22.mono HB.out.size))
  clear hb22
  go_wp2_with fail
  refine (HHL.out _ HK.out).mono ?_
  rintro e w23 ⟨rfl, hb23⟩
  replace HW := hid_intro (HW.out.below hb23)
  replace HK := hid_intro (HK.out.below hb23)
  replace HG := hid_intro (HG.out.below hb23)
  replace HB := hid_intro (HB.out.trans (hb23.mono HB.out.size))
  clear hb23
  go_wp2_with fail
  go_ret
  exact ⟨rfl, HB.out⟩
set_option maxRecDepth 100000 in
set_option maxHeartbeats 4000000 in
theorem walk (a : Option Addr) (capa : Nat) (A : List N) (b : Option Addr) (capb : Nat) (B : List N) (w : World) (ha : IsLis w a A) (hb : IsLis w b B) :
    Calls Try.prog 3 #[.slice a A.length capa, .slice b B.length capb] w fun e w' => e = .returned (.bool true) ∧ Below w.heap.size w w' := by
  obtain ⟨hma, hA, hwa⟩ := ha
  obtain ⟨hmb, hB, hwb⟩ := hb
  have hZ := szs_any a capa A w hma hA hwa
  by_cases hs : szR A < 0
  · have HZ := hid_intro hZ
    generalize szR A = R at *
    generalize A.length = len at *
    generalize B.length = len2 at *
    clear hA hwa hma hB hwb hmb hZ
    go_enter Try.func3, Try.ntmps3
    go_wp2_with fail
    refine HZ.out.mono ?_
    rintro e w1 ⟨rfl, hb⟩
    have HB := hid_intro hb
    clear hb
    go_wp2_with fail
    go_ret
    exact ⟨rfl, HB.out⟩
  obtain ⟨hla, hia, r0, r1⟩ := sz_small hs
  have hZ2 := fun W (hW : Below w.heap.size w W) => szs_left (szR A) r0 r1 b capb B W hmb (hB.below hW) hwb
  by_cases hs2 : szF (szR A) B < 0
  · have HZ := hid_intro hZ
    have HZ2 := hid_intro hZ2
    generalize szF (szR A) B = R2 at *
    generalize szR A = R at *
    generalize A.length = len at *
    generalize B.length = len2 at *
    clear hA hwa hma hB hwb hmb hZ hZ2
    go_enter Try.func3, Try.ntmps3
    go_wp2_with fail
    refine HZ.out.mono ?_
    rintro e w1 ⟨rfl, hb⟩
    have HB := hid_intro hb
    clear hb
    go_wp2_with fail
    refine (HZ2.out _ HB.out).mono ?_
    rintro e w2 ⟨rfl, hb⟩
    have HB2 := hid_intro (HB.out.trans (hb.mono HB.out.size))
    clear hb
    go_wp2_with fail
    go_ret
    exact ⟨rfl, HB2.out⟩
  · obtain ⟨hlb, hib, _, _⟩ := szF_small r1 hs2
    exact law_in a b capa capb A B (lessB A B) (szR A) (szF (szR A) B) w hs hs2 hla hlb less_len hA hB hZ hZ2 (fun ab aoff bo cap cap' w h1 h2 => spec_less ab aoff cap bo cap' A B w hla hlb hia hib h1 h2) (fun ao bo cap cap' w h1 h2 => impl_less ao bo cap cap' A B w hla hlb hia hib h1 h2)
theorem own : ownKnob Try.prog.godebug = none := by kernel_rfl
theorem laidOut : laidOutB Try.prog = true := by kernel_rfl
set_option maxRecDepth 100000 in
theorem lifted (os : Os) (started : os.Started) (H : Type) (enc : TypeId × Value → H) :
    ReturnsInHanded {} Try.checked os 3 .any (Rows.fnExactLessSpec.pre6 enc Try.prog Try.f3 Rows.fnExactLessRow.domain false) (Rows.fnExactLessSpec.post enc Try.prog Try.f3 false true false false) := by
  refine returnsInHanded_of_change (C := Try.checked) own started (by kernel_rfl) Try.func3
    (ChangeSpec.witness6 (enc := enc) (C := Try.checked) false ⟨#[], #[.slice none 0 0, .slice none 0 0], []⟩ 8 (by kernel_rfl) (by kernel_rfl) (by kernel_rfl) (by kernel_rfl)) ?_
  intro W base args ds gs before hval0 hW hcnd _
  have hval : ∀ (j : Nat) t v, Try.f3.params[j]? = some t → args[j]? = some v → Value.okWide Try.prog W .any base t v := hval0
  obtain ⟨p, q, hA0, hV, hb0, hfz, hnd⟩ := id hW
  have hA : DataW.TrodAll enc Try.prog W 0 (fun _ => true) true Try.f3.params.toList args.toList ds p := hA0
  rw [Try.params3] at hA hval
  obtain ⟨v0, v1, d0, d1, p0, p1, rfl, rfl, rfl, h0, h1⟩ := trodAll_two hA
  obtain ⟨rfl, rfl⟩ := trodVars_none hV
  obtain rfl := hb0
  have hW' := hW
  simp only [List.append_nil] at hW'
  have k0 := h0
  have lt0 : ∀ x ∈ p0, x.block < W.heap.size := fun x hx => hW'.lt x (by simp [hx])
  obtain ⟨a0, len0, cap0, rfl⟩ := okWide_slice Try.underlying22 (hval 0 22 v0 rfl rfl)
  obtain ⟨z0, hz0, w0⟩ : ∃ es, es.length = len0 ∧ LinR.IsLis W a0 es := by
    obtain ⟨fuel, hf⟩ := h0
    exact LinR.lis_open Try.underlying22 Try.underlying43 (by kernel_rfl) (by kernel_rfl) Try.underlying9 Try.underlying2 (by simpa [Value.cells] using hf)
  subst hz0
  have k1 := h1
  have lt1 : ∀ x ∈ p1, x.block < W.heap.size := fun x hx => hW'.lt x (by simp [hx])
  obtain ⟨a1, len1, cap1, rfl⟩ := okWide_slice Try.underlying22 (hval 1 22 v1 rfl rfl)
  obtain ⟨z1, hz1, w1⟩ : ∃ es, es.length = len1 ∧ LinR.IsLis W a1 es := by
    obtain ⟨fuel, hf⟩ := h1
    exact LinR.lis_open Try.underlying22 Try.underlying43 (by kernel_rfl) (by kernel_rfl) Try.underlying9 Try.underlying2 (by simpa [Value.cells] using hf)
  subst hz1
  refine (walk a0 cap0 z0 a1 cap1 z1 W w0 w1).mono fun e W' ⟨he, bel⟩ => ?_
  subst he
  exact ⟨_, rfl, _, _, _, _, _, _, hW', trodAll_mk1 (shut_bool Try.underlying4 true), trodAll_mk2 (Below.trod laidOut (by kernel_rfl) (of_decide_eq_true (by kernel_rfl)) k0 bel lt0) (Below.trod laidOut (by kernel_rfl) (of_decide_eq_true (by kernel_rfl)) k1 bel lt1), rfl, bel.frame _, fun h => by cases h⟩
theorem over : Rows.FnExactLessSaid :=
  OpenClaim.holds_of_wide 3 Try.f3 rfl rfl rfl rfl rfl rfl rfl ⟨rfl, rfl, rfl, rfl, rfl⟩ rfl rfl rfl rfl rfl (by kernel_rfl) Try.func3 (by kernel_rfl)
    (of_decide_eq_true (by kernel_rfl)) (by unfold Func.isWrapper; rw [if_neg (of_decide_eq_false (by kernel_rfl))]; exact ⟨rfl, rfl⟩)
    (fun os started H enc _ => lifted os started H enc)

end LessL
/-- THE STATEMENT -/
theorem fnExactLess_holds : Rows.FnExactLessSaid := LessL.over
#print axioms fnExactLess_holds
end Go.Proofs.Ytnhpkcacjkebnaa
