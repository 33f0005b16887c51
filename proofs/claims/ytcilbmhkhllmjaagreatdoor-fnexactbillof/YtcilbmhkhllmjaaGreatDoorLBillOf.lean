/-
  FnExactBillOf: for every catalog, every text and every list of windows the law's call returns true (the program's BillOf hands back what the model's does, writes into no argument and keeps nothing of one; its answer is its own, behind another call too), and the arguments read as they did. The condition, told by the card: the program's own variables hold what its text lays.
-/
import Derived.Test.YtcilbmhkhllmjaaGreatDoorCards
import Derived.Test.YtcilbmhkhllmjaaGreatDoorB22
namespace Go.Proofs.YtcilbmhkhllmjaaGreatDoor
open Go.ChangeShapes Go.WideShapes Go.ChangeAt Go.RowKit
open Go.ChangeMaps (open_string shut_string)
set_option linter.unusedVariables false
namespace BillL
open CatR EngR ChG
open WinR (Wd Wns IsWns szWs toWs eqWs)
open LinR (N drawL dl_len Lis)
open BilR (billB impl_bill spec_bill)
open BilA
open EvtR (Pt)
/-- A list of windows of one's own. -/
def NWd (ws : List Wd) (b t : Nat) (v : Value) (w : World) : Prop := v = .slice (some ⟨b, 0, none⟩) ws.length ws.length ∧ b < t ∧ b < w.heap.size ∧ Pt b (ws.length * 8) w ∧ WinR.WX b t ws.length ws w
def NCa (c : Ca) (b t : Nat) (v : Value) (w : World) : Prop := NewCa b v c w ∧ ∀ (hh : Nat) (x : Value), v = .agg #[x, .slice (some ⟨hh, 0, none⟩) c.cs.length c.cs.length] → hh < t
theorem walk (c : Ca) (v : Value) (a : ByteArray) (ha : a.size ≤ maxLen) (ao : Option Addr) (cap : Nat) (ws : List Wd) (w : World) (hI : IsCa v c w) (hin : c.In) (hJ : IsWns w ao ws) (hL : LayB.Ok w) :
    Calls Tryz.prog 3 #[v, .string a, .slice ao ws.length cap] w fun e w' => e = .returned (.bool true) ∧ Below w.heap.size w w' := by
  have hI' := hI
  obtain ⟨ma, mc, ca, cc, rfl, _⟩ := hI'
  exact law_in c.Small (ws.length ≤ 1048576 ∧ ∀ i, i < ws.length → (ws.getD i Wd.zero).Small) (fun v w => IsCa v c w) (fun u w => ∃ ao cap, u = .slice ao ws.length cap ∧ Wns ao ws w) (NCa c) (NWd ws) LayB.Ok (BR (billB c a ws)) (BW (billB c a ws)) ma c.ms.length mc ca c.cs.length cc a ao ws.length cap w hI ⟨ao, cap, rfl, hJ.2.1⟩ hL
    (fun v w w' h hb => h.below hb) (fun u w w' h hb => by obtain ⟨x, y, e, h⟩ := h; exact ⟨x, y, e, h.below hb⟩) (fun w w' h hb => h.below hb)
    (fun b t v w w' h hk => ⟨newca_kq h.1 hk, h.2⟩) (fun b t v w w' h hk => by
      obtain ⟨e, h1, h2, h3, h4⟩ := h
      exact ⟨e, h1, Nat.lt_of_lt_of_le h2 hk.size, hk.pt h3 (Nat.le_refl _), wx_kq h4 h2 hk (Nat.le_refl _)⟩)
    (fun v W W' h hb => by obtain ⟨u, e, h⟩ := h; exact ⟨u, e, h.below hb⟩) (fun b v W h => by obtain ⟨u, e, h⟩ := h; exact ⟨u, e, h.reads⟩) (fun b v W W' h hk => by obtain ⟨u, e, h⟩ := h; exact ⟨u, e, h.kq hk⟩)
    (fun b v W h => by
      obtain ⟨u, rfl, h⟩ := h
      obtain ⟨x, n, y, rfl⟩ := h.shape
      exact ⟨x, n, y, _, rfl⟩)
    (fun w h => szCa_any _ c w hin h)
    (fun z h0 h1 w h => by
      obtain ⟨x, y, e, h⟩ := h
      simp only [Value.slice.injEq, true_and] at e
      obtain ⟨rfl, rfl⟩ := e
      exact szWs _ _ ws z w hJ.1 h0 h1 h hJ.2.2)
    (fun hs v w h => (toCa_any v c w hs h).mono fun e w' h2 => by
      obtain ⟨⟨v', he, hN⟩, hb⟩ := h2
      have hN2 := hN
      obtain ⟨g, bs, h, rfl, _, _, _, _, hp⟩ := hN
      refine ⟨⟨some ⟨g, 0, none⟩, some ⟨h, 0, none⟩, _, _, he, hN2.is, hN2, fun hh x e => ?_⟩, hb⟩
      simp only [Value.agg.injEq, Array.mk.injEq, List.cons.injEq, Value.slice.injEq, Option.some.injEq, Addr.mk.injEq, and_true] at e
      have := hp.lt
      omega)
    (fun hs u w h => by
      obtain ⟨x, y, rfl, h⟩ := h
      refine (toWs x y ws w hs.1 hs.2 h).mono ?_
      rintro e w' ⟨rfl, hw, hp, hb⟩
      exact ⟨⟨some ⟨w.heap.size, 0, none⟩, ws.length, rfl, ⟨_, _, rfl, hw.wns hp.lt⟩, rfl, hp.lt, hp.lt, hp, hw.wx⟩, hb⟩)
    (fun hq hs hw v u w hl h hu => by
      obtain ⟨x, y, rfl, hu⟩ := hu
      exact (spec_bill v c a x y ws w hw.1 (by omega) hs hw.2 h hu).mono fun e w' h => blo_bw h)
    (fun hq hs hw v u w hl h hu => by
      obtain ⟨x, y, rfl, hu⟩ := hu
      exact (impl_bill v c a x y ws w hw.1 (by omega) hs hw.2 h hl.1 hl.2.1 hl.2.2 hu).mono fun e w' h => blo_bw h)
    (fun hw v v' W h h' => eqB (bill_len hw.1) h h') (fun hs v v' w h h' => eqCa_any v v' c w hs h h')
    (fun hw u u' w h h' => by
      obtain ⟨x, y, rfl, h⟩ := h
      obtain ⟨x', y', rfl, h'⟩ := h'
      exact eqWs x x' y y' ws w hw.1 hw.2 h h')
    (fun hs base top v w h => (markCa base v c w top hs h.1 h.2).mono fun e w' q => by
      obtain ⟨K, rfl, k1, k2, ho⟩ := q
      exact ⟨⟨K, rfl, k1, by omega⟩, ⟨ho.os, ho.tape, ho.output, ho.size, fun k q1 q2 => ho.block k q1 (by omega)⟩⟩)
    (fun hw base top K k1 k2 v w h => by
      obtain ⟨rfl, h1, h2, h3, h4⟩ := h
      refine (zWns base top ws.length K ws.length ws w hw.1 (fun j hj => ⟨(hw.2 j hj).2.2.1, (hw.2 j hj).2.2.2.2⟩) k1 (by omega) h1 h3 h4).mono ?_
      rintro e w' ⟨⟨K2, rfl, _⟩, hc, _⟩
      exact ⟨⟨K2, rfl⟩, hc⟩)
    (fun hw base v Wt W h hk => markB (bill_len hw.1) h hk)
set_option maxRecDepth 100000 in
theorem lifted (os : Os) (started : os.Started) (H : Type) (enc : TypeId × Value → H) :
    ReturnsInHanded {} Tryz.checked os 3 .any (fun w args => (Rows.fnExactBillOfSpec.pre enc Tryz.prog Tryz.f3 [] false w args ∧ laidMetH Tryz.prog LayB.laid w) ∧ sizedMet enc Tryz.prog Tryz.f3 (OpenSpec.ofChange Rows.fnExactBillOfSpec) false w args)
      (Rows.fnExactBillOfSpec.post enc Tryz.prog Tryz.f3 false true false false) := by
  refine returnsInHanded_of_change_and (C := Tryz.checked) (X := fun w _ => laidMetH Tryz.prog LayB.laid w) (fun _ _ _ hh h => h.of_heap hh) LayB.own started (by kernel_rfl) Tryz.func3
    (ChangeSpec.witness_shaped (enc := enc) (C := Tryz.checked) (os := os) (X := fun w _ => laidMetH Tryz.prog LayB.laid w) false (World.doorLaid Tryz.prog 400 os) #[.agg #[.slice none 0 0, .slice none 0 0], .string ByteArray.empty, .slice none 0 0] 8 rfl (World.shaped_of_RefB (by kernel_rfl) (by kernel_rfl)) (by kernel_rfl) (by kernel_rfl) (by kernel_rfl) (LayB.door_met os _)) ?_
  intro W base args ds gs before hval0 hW _ _ hL _
  have hval : ∀ (j : Nat) t v, Tryz.f3.params[j]? = some t → args[j]? = some v → Value.okWide Tryz.prog W .any base t v := hval0
  have hW' := hW
  obtain ⟨p, q, hA0, hV0, rfl, hfz, hnd⟩ := hW
  have hA : DataW.TrodAll enc Tryz.prog W 0 (fun _ => true) true Tryz.f3.params.toList args.toList ds p := hA0
  have hV : DataW.TrodVars enc Tryz.prog W (fun _ => true) ["loop.example/g00562/impl.errNoMeter", "loop.example/g00562/impl.monthLengths", "loop.example/g00562/impl.errRunsOver"] gs q := hV0
  rw [Tryz.params3] at hA hval
  obtain ⟨v0, v1, v2, d0, d1, d2, p0, p1, p2, rfl, rfl, rfl, h0, h1, h2⟩ := trodAll_three hA
  have k0 := h0
  have lt0 : ∀ x ∈ p0, x.block < W.heap.size := fun x hx => hW'.lt x (by simp [hx])
  obtain ⟨cs0, rfl, _⟩ := okWide_struct Tryz.underlying25 (hval 0 25 v0 rfl rfl)
  obtain ⟨fuel0, hf0⟩ := h0
  obtain ⟨ma0, ml0, mc0, ca0, cl0, cc0, hcs0, ⟨n0, y0, t0⟩, ⟨n0', y0', t0'⟩⟩ := CatR.ca_cells Tryz.underlying25 (by kernel_rfl) (by kernel_rfl) Tryz.underlying22 Tryz.underlying23 hf0
  obtain ⟨wl0, ms0, hml0, wi0, hM0⟩ := CatR.mes_open (tt := 0) Tryz.underlying22 Tryz.underlying109 (by kernel_rfl) (by kernel_rfl) Tryz.underlying9 Tryz.underlying2 Tryz.underlying4 Tryz.underlying2 Tryz.underlying2 Tryz.underlying107 Tryz.underlying211 (by kernel_rfl) (by kernel_rfl) Tryz.underlying2 Tryz.underlying2 t0
  obtain ⟨wl0', rs0, hcl0, wi0', hR0⟩ := CatR.crs_open Tryz.underlying23 Tryz.underlying112 (by kernel_rfl) (by kernel_rfl) Tryz.underlying9 Tryz.underlying2 t0'
  subst hml0 hcl0
  obtain rfl : cs0 = #[.slice ma0 ms0.length mc0, .slice ca0 rs0.length cc0] := by
    obtain ⟨l⟩ := cs0
    simp [Value.cells] at hcs0
    rw [hcs0]
  have k1 := h1
  have lt1 : ∀ x ∈ p1, x.block < W.heap.size := fun x hx => hW'.lt x (by simp [hx])
  obtain ⟨a1, rfl, rfl, rfl, w1⟩ := open_string Tryz.underlying9 (hval 1 9 v1 rfl rfl) h1
  have k2 := h2
  have lt2 : ∀ x ∈ p2, x.block < W.heap.size := fun x hx => hW'.lt x (by simp [hx])
  obtain ⟨a2, len2, cap2, rfl⟩ := okWide_slice Tryz.underlying26 (hval 2 26 v2 rfl rfl)
  obtain ⟨z2, hz2, w2⟩ : ∃ ws, ws.length = len2 ∧ WinR.IsWns W a2 ws := by
    obtain ⟨fuel, hf⟩ := h2
    exact WinR.wns_open Tryz.underlying26 Tryz.underlying67 (by kernel_rfl) (by kernel_rfl) Tryz.underlying9 Tryz.underlying9 Tryz.underlying2 Tryz.underlying2 Tryz.underlying2 Tryz.underlying2 Tryz.underlying64 Tryz.underlying65 Tryz.underlying9 (by kernel_rfl) Tryz.underlying165 (by kernel_rfl) (by kernel_rfl) Tryz.underlying2 Tryz.underlying2 (by simpa [Value.cells] using hf)
  subst hz2
  have hl := LayB.of_laid hL
  obtain ⟨_, _, _, rfl⟩ := LayB.trodVars_three hV
  refine (walk ⟨ms0, rs0⟩ _ a1 w1 a2 cap2 z2 W ⟨ma0, mc0, ca0, cc0, rfl, hM0, hR0⟩ ⟨wl0, wi0, wl0', wi0'⟩ w2 hl).mono fun e W' ⟨he, bel⟩ => ?_
  subst he
  exact ⟨_, rfl, _, _, _, _, _, _, hW', trodAll_mk1 (shut_bool Tryz.underlying4 true), trodAll_mk3 (Below.trod LayB.laidOut (by kernel_rfl) (of_decide_eq_true (by kernel_rfl)) k0 bel lt0) (Below.trod LayB.laidOut (by kernel_rfl) (of_decide_eq_true (by kernel_rfl)) k1 bel lt1) (Below.trod LayB.laidOut (by kernel_rfl) (of_decide_eq_true (by kernel_rfl)) k2 bel lt2), bel.trodVars LayB.laidOut (by kernel_rfl) hV, bel.frame _, fun h => by cases h⟩
theorem row_holds : Rows.FnExactBillOfSaid :=
  OpenClaim.holds_of_wide 3 Tryz.f3 rfl rfl rfl rfl rfl rfl rfl ⟨rfl, rfl, rfl, rfl, rfl⟩ rfl rfl rfl rfl rfl (by kernel_rfl) Tryz.func3 (by kernel_rfl)
    (of_decide_eq_true (by kernel_rfl)) (by unfold Func.isWrapper; rw [if_neg (of_decide_eq_false (by kernel_rfl))]; exact ⟨rfl, rfl⟩)
    (fun os started H enc _ => lifted os started H enc)
theorem card_holds : Rows.FnExactBillOfCardSaid :=
  Claim7.holds_tied_plain_at .later [] [.sentinel, .data, .sentinel] true Rows.fnExactBillOfCard.stood.harness true
    row_holds (fun _ h => by cases h) (by kernel_rfl) (fun _ h => by cases h) fnExactBillOf_row_tie rfl ⟨rfl, rfl⟩ (by kernel_rfl) rfl
    (fun f fn hf hfn => by
      obtain rfl : f = 3 := Option.some.inj ((show Tryz.prog.funcNamed "loop.example/g00562/laws.FnExactBillOf" = some 3 by kernel_rfl).symm.trans hf) |>.symm
      obtain rfl : fn = Tryz.f3 := (Option.some.inj (Tryz.func3.symm.trans hfn)).symm
      exact ⟨by kernel_rfl, fun j t ht => by
        rw [Tryz.params3] at ht
        have hm : t ∈ [25, 9, 26] := by simpa using Array.mem_of_getElem? ht
        have hall : ([25, 9, 26].all fun u => !Tryz.prog.wantsStandIn u) = true := by kernel_rfl
        exact (show Tryz.prog.wantsStandIn t = false by simpa using List.all_eq_true.1 hall t hm)⟩)
    (by kernel_rfl)

end BillL
/-- THE STATEMENT -/
theorem fnExactBillOf_card : Rows.FnExactBillOfCardSaid := BillL.card_holds
#print axioms fnExactBillOf_card
end Go.Proofs.YtcilbmhkhllmjaaGreatDoor
