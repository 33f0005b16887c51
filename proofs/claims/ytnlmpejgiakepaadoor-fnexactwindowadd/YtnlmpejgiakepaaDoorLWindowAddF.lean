/-
  FnExactWindowAdd: the law's walk for every window and event, its row and its card. The condition is the card's: the program's table starts as its text lays it.
-/
import Derived.Test.YtnlmpejgiakepaaDoorA9
namespace Go.Proofs.YtnlmpejgiakepaaDoor
open Go.ChangeShapes Go.WideShapes Go.ChangeAt Go.RowKit
set_option linter.unusedVariables false
namespace WindowAddL
open WinR
open RowG (MadeG Rws)
open EvtR (Pt ev evB)
open CatR (Blk Blk.new)
open DateR (Laid)
/-- What is left of a size behind an event. -/
def eszR (i a m t : ByteArray) (left : Int) : Int := if (i.size : Int) + a.size + m.size + t.size ≤ left then left - ((i.size : Int) + a.size + m.size + t.size) else -1
theorem szE_any (i a m t : ByteArray) (n k left : Int) (w : World) (l0 : 0 ≤ left) (l1 : left ≤ 1048576) (hi : i.size ≤ maxLen) (ha : a.size ≤ maxLen) (hm : m.size ≤ maxLen) (ht : t.size ≤ maxLen) :
  Calls Tryd.prog 6 #[.agg #[.string i, .string a, .string m, .int .i64 n, .int .i64 k, .string t], .int .i64 left] w fun e w' => e = .returned (.int .i64 (eszR i a m t left)) ∧ Below w.heap.size w w' := by
 unfold maxLen at *
 have HB := hid_intro ((Below.refl w.heap.size w).alloc (Nat.le_refl _) (Obj.cells #[.string i, .string a, .string m, .int .i64 n, .int .i64 k, .string t] 27))
 have HE : Hid (eszR i a m t left = if (i.size : Int) + a.size + m.size + t.size ≤ left then left - ((i.size : Int) + a.size + m.size + t.size) else -1) := rfl
 generalize eszR i a m t left = R at *
 by_cases q1 : left - (i.size : Int) < 0
 ·have HR : Hid (R = -1) := hid_intro (by rw [HE.out, if_neg (by omega)])
  go_enter Tryd.func6, Tryd.ntmps6
  go_wp2_with fail
  go_ret
  exact ⟨ret_int HR.out.symm, HB.out⟩
 by_cases q2 : left - (i.size : Int) - (a.size : Int) < 0
 ·have HR : Hid (R = -1) := hid_intro (by rw [HE.out, if_neg (by omega)])
  go_enter Tryd.func6, Tryd.ntmps6
  go_wp2_with fail
  go_ret
  exact ⟨ret_int HR.out.symm, HB.out⟩
 by_cases q3 : left - (i.size : Int) - (a.size : Int) - (m.size : Int) < 0
 ·have HR : Hid (R = -1) := hid_intro (by rw [HE.out, if_neg (by omega)])
  go_enter Tryd.func6, Tryd.ntmps6
  go_wp2_with fail
  go_ret
  exact ⟨ret_int HR.out.symm, HB.out⟩
 by_cases q4 : left - (i.size : Int) - (a.size : Int) - (m.size : Int) - (t.size : Int) < 0
 ·have HR : Hid (R = -1) := hid_intro (by rw [HE.out, if_neg (by omega)])
  go_enter Tryd.func6, Tryd.ntmps6
  go_wp2_with fail
  go_ret
  exact ⟨ret_int HR.out.symm, HB.out⟩
 ·have HR : Hid (R = left - (i.size : Int) - (a.size : Int) - (m.size : Int) - (t.size : Int)) := hid_intro (by rw [HE.out, if_pos (by omega)]; omega)
  go_enter Tryd.func6, Tryd.ntmps6
  go_wp2_with fail
  go_ret
  exact ⟨ret_int HR.out.symm, HB.out⟩
theorem walk (x : Wd) (ta1 : Option Addr) (tc1 : Nat) (ha1 : Option Addr) (hc1 : Nat) (i a m : ByteArray) (n k : Int) (t : ByteArray) (wi : i.size ≤ maxLen) (wa : a.size ≤ maxLen) (wm : m.size ≤ maxLen) (wn : (Lit.int .i64 n).wf = true) (wk : (Lit.int .i64 k).wf = true) (wt : t.size ≤ maxLen) (w : World) (hin1 : x.In) (hT1 : Tgs ta1 x.ts w) (hH1 : Hrs ha1 x.hs w) (hL : Laid w) :
  Calls Tryd.prog 3 #[.agg (wcells x ta1 tc1 ha1 hc1), .agg #[.string i, .string a, .string m, .int .i64 n, .int .i64 k, .string t]] w fun e w' => e = .returned (.bool true) ∧ Below w.heap.size w w' := by
 have hz1 := fun W (hW : Below w.heap.size w W) => szW_any x ta1 tc1 ha1 hc1 1048576 W (by omega) (by omega) hin1 (hT1.below hW)
 by_cases hs1 : wszR x 1048576 < 0
 ·exact big1 x.a x.m x.mo x.ev x.su x.mx ta1 x.ts.length tc1 ha1 x.hs.length hc1 i a m n k t _ w hs1 hz1
 obtain ⟨sx, l0, l1⟩ := wsz_small (by omega) hs1
 have hz2 := fun W (hW : Below w.heap.size w W) => szE_any i a m t n k (wszR x 1048576) W l0 l1 wi wa wm wt
 by_cases hs2 : eszR i a m t (wszR x 1048576) < 0
 ·exact big2 x.a x.m x.mo x.ev x.su x.mx ta1 x.ts.length tc1 ha1 x.hs.length hc1 i a m n k t _ _ w hs1 hs2 hz1 hz2
 have hsum : (i.size ≤ 1048576 ∧ a.size ≤ 1048576 ∧ m.size ≤ 1048576 ∧ t.size ≤ 1048576) ∧ x.ts.length + a.size ≤ 1048576 ∧ x.hs.length + a.size ≤ 1048576 := by
  have t1 := tsz_nn x.ts
  unfold eszR at hs2
  unfold wszR at hs1 hs2
  by_cases q2 : (x.a.size : Int) + x.m.size + x.ts.length + tsz x.ts + x.hs.length ≤ 1048576
  ·rw [if_pos q2] at hs1 hs2
   split at hs2 <;> omega
  ·rw [if_neg q2] at hs1
   omega
 obtain ⟨⟨li, la, lm, lt'⟩, ht, hh⟩ := hsum
 have hp : evB i a m n k t = true → x.ts.length + 1 ≤ 1048576 ∧ x.hs.length + 1 ≤ 1048576 := by
  intro h
  unfold EvtR.evB at h
  simp only [Bool.and_eq_true] at h
  have h1 := h.2.1
  have : 1 ≤ a.size := by
   unfold NameR.nameB at h1
   simp at h1
   exact h1.1
  omega
 obtain ⟨z, cd, lt, lh, hi, hs⟩ := add_both x i a m t n k sx li la lm lt' hp
 obtain ⟨x1, x2, x3, x4, x5⟩ := sx
 refine law_in (TB x) (NX z cd) (JO z) (fun p q W => MkdW p q z.ts.length z.hs.length 1 W) x.a x.m x.mo x.ev x.su x.mx ta1 x.ts.length tc1 ha1 x.hs.length hc1 i a m n k t z.a z.m z.mo z.ev z.su z.mx z.ts.length z.hs.length cd _ _ ((1 + x.ts.length + 2 * x.hs.length : Nat) : Int) ((1 + z.ts.length + 2 * z.hs.length : Nat) : Int) w hs1 hs2 (by omega) (by omega) hL
  (fun b t g h W W' q hb => q.below hb) (fun b t v W W' q hb => q.below hb) (fun b t v W W' k q hg hk => q.grown hg hk) (fun b t v b' t' W W' q ho hk => q.out ho hk) (fun b t p q W W' r hb => r.below hb) (fun b t p q W W' k r hg hk => r.grown hg hk) (fun b t p q b' t' W W' r ho hl => r.out ho hl) (fun p q W W' r hb => r.below hb) hz1 hz2 ?_ ?_ ?_ ?_ ?_ ?_ ?_ ?_ ?_
 ·intro W hW
  refine (toTw_any _ x W x3 x5 ⟨ta1, tc1, ha1, hc1, rfl, hT1.below hW, hH1.below hW⟩).mono ?_
  rintro e w' ⟨v, rfl, hv, hb⟩
  obtain ⟨g, h, rfl, ht⟩ := tb_of hb.size hv
  exact ⟨g, h, rfl, ht, hb⟩
 ·intro W
  exact EvtR.toEvent_any i a m n k t W
 ·intro b t' g h W q1
  refine (hs b _ W q1.tw).mono ?_
  rintro e w' ⟨v, rfl, hv, hb⟩
  have hn := nx_new hv
  obtain ⟨ta, tc, ha, hc, rfl, _⟩ := hv
  exact ⟨ta, tc, ha, hc, rfl, hn, hb⟩
 ·intro b t' g h W hLW q1
  refine (hi b _ W hLW q1.tw).mono ?_
  rintro e w' ⟨v, rfl, hv, hb⟩
  have hn := nx_new (made_new hv)
  obtain ⟨ta, tc, ha, hc, rfl, m1, m2, m3⟩ := hv
  exact ⟨ta, tc, ha, hc, rfl, hn, ⟨Nat.le_refl _, m1.own.imp id (fun ⟨g, e1, e2, e3⟩ => ⟨g, e1, e2, e3.lt, by rw [Nat.mul_one] at e3; exact e3⟩), m2.own.imp id (fun ⟨g, e1, e2, e3⟩ => ⟨g, e1, e2, e3.lt, e3⟩), m3⟩, hb⟩
 ·intro b t g h b' t' g' h' W q1 q2
  exact eqW_any _ _ x W x3 x5 q1.tw.made.is q2.tw.made.is
 ·intro b t b' t' v v' W q1 q2
  exact eqO_any v v' z cd W lt lh q1.is q2.is
 ·intro b t g h W q
  obtain ⟨h1, h2, h3, h4, h5, h6, h7, h8⟩ := q
  refine (markW_in x.a x.m x.mo x.ev x.su x.mx (some ⟨g, 0, none⟩) x.ts.length x.ts.length (some ⟨h, 0, none⟩) x.hs.length x.hs.length 1 b t W x3 x5 (by omega) h4 (h7.imp id (fun ⟨u, r⟩ => ⟨g, rfl, h1, u, r⟩)) (h8.imp id (fun ⟨u, r⟩ => ⟨h, rfl, h2, u, r⟩)) (.inr (.inr (fun b o b' o' e1 e2 => by cases e1; cases e2; exact h3)))).mono ?_
  rintro e w' ⟨rfl, _, ho⟩
  exact ⟨rfl, ho⟩
 ·intro b t p c q d W r
  exact markO_in (fun W => MkdW p q z.ts.length z.hs.length 1 W) z.a z.m z.mo z.ev z.su z.mx cd _ p z.ts.length c q z.hs.length d b t W (fun V hV => by
   have r' := r.below hV
   exact markW_in z.a z.m z.mo z.ev z.su z.mx p z.ts.length c q z.hs.length d 1 b t V lt lh (by omega) r'.1 r'.2.1 r'.2.2.1 r'.2.2.2)
 ·intro p c q d W r
  exact heldO_in z.a z.m z.mo z.ev z.su z.mx cd _ (by omega) p z.ts.length c q z.hs.length d W (fun V hV => heldW_in z.a z.m z.mo z.ev z.su z.mx p z.ts.length c q z.hs.length d 1 V lt lh (by omega) (r.below hV))
set_option maxRecDepth 100000 in
theorem lifted (os : Os) (started : os.Started) (H : Type) (enc : TypeId × Value → H) :
  ReturnsInHanded {} Tryd.checked os 3 .any (fun w args => (Rows.fnExactWindowAddSpec.pre enc Tryd.prog Tryd.f3 [] false w args ∧ laidMetH Tryd.prog Lay.laid w) ∧ sizedMet enc Tryd.prog Tryd.f3 (OpenSpec.ofChange Rows.fnExactWindowAddSpec) false w args)
   (Rows.fnExactWindowAddSpec.post enc Tryd.prog Tryd.f3 false true false false) := by
 refine returnsInHanded_of_change_and (C := Tryd.checked) (X := fun w _ => laidMetH Tryd.prog Lay.laid w) (fun _ _ _ hh h => h.of_heap hh) Lay.own started (by kernel_rfl) Tryd.func3
  (ChangeSpec.witness_shaped (enc := enc) (C := Tryd.checked) (os := os) (X := fun w _ => laidMetH Tryd.prog Lay.laid w) false (World.doorLaid Tryd.prog 400 os) #[.agg #[.string ByteArray.empty, .string ByteArray.empty, .int .i64 0, .int .i64 0, .int .i64 0, .int .i64 0, .slice none 0 0, .slice none 0 0], .agg #[.string ByteArray.empty, .string ByteArray.empty, .string ByteArray.empty, .int .i64 0, .int .i64 0, .string ByteArray.empty]] 8 rfl (World.shaped_of_RefB (by kernel_rfl) (by kernel_rfl)) (by kernel_rfl) (by kernel_rfl) (by kernel_rfl) (Lay.door_met os _)) ?_
 intro W base args ds gs before hval0 hW _ _ hL _
 have hval : ∀ (j : Nat) t v, Tryd.f3.params[j]? = some t → args[j]? = some v → Value.okWide Tryd.prog W .any base t v := hval0
 have hW' := hW
 obtain ⟨p, q, hA0, hV0, rfl, hfz, hnd⟩ := hW
 have hA : DataW.TrodAll enc Tryd.prog W 0 (fun _ => true) true Tryd.f3.params.toList args.toList ds p := hA0
 have hV : DataW.TrodVars enc Tryd.prog W (fun _ => true) ["loop.example/g00562/impl.monthLengths"] gs q := hV0
 rw [Tryd.params3] at hA hval
 obtain ⟨v0, v1, d0, d1, p0, p1, rfl, rfl, rfl, h0, h1⟩ := trodAll_two hA
 have k0 := h0
 have lt0 : ∀ x ∈ p0, x.block < W.heap.size := fun x hx => hW'.lt x (by simp [hx])
 obtain ⟨cs0, rfl, _⟩ := okWide_struct Tryd.underlying25 (hval 0 25 v0 rfl rfl)
 obtain ⟨fuel0, hf0⟩ := h0
 obtain ⟨x0, ta0, tc0, ha0, hc0, hcs0, hin0, hT0, hH0⟩ := WinR.win_open Tryd.underlying25 (by kernel_rfl) (by kernel_rfl) Tryd.underlying9 Tryd.underlying9 Tryd.underlying2 Tryd.underlying2 Tryd.underlying2 Tryd.underlying2 Tryd.underlying22 Tryd.underlying23 Tryd.underlying9 (by kernel_rfl) Tryd.underlying83 (by kernel_rfl) (by kernel_rfl) Tryd.underlying2 Tryd.underlying2 hf0
 obtain rfl : cs0 = WinR.wcells x0 ta0 tc0 ha0 hc0 := by
  obtain ⟨l⟩ := cs0
  exact Array.ext' (by simpa [Value.cells] using hcs0)
 have k1 := h1
 have lt1 : ∀ x ∈ p1, x.block < W.heap.size := fun x hx => hW'.lt x (by simp [hx])
 obtain ⟨cs1, rfl, _⟩ := okWide_struct Tryd.underlying27 (hval 1 27 v1 rfl rfl)
 obtain ⟨fuel1, hf1⟩ := h1
 obtain ⟨i1, a1, m1, n1, k1', t1, hcs1, wi1, wa1, wm1, wn1, wk1, wt1⟩ := EvtR.event_cells Tryd.underlying27 (by kernel_rfl) (by kernel_rfl) Tryd.underlying9 Tryd.underlying9 Tryd.underlying9 Tryd.underlying2 Tryd.underlying2 Tryd.underlying9 hf1
 obtain rfl : cs1 = #[.string i1, .string a1, .string m1, .int .i64 n1, .int .i64 k1', .string t1] := by
  obtain ⟨l⟩ := cs1
  simp [Value.cells] at hcs1
  rw [hcs1]
 have hl := Lay.of_laid hL
 obtain ⟨_, _, _, _, gd, _, rfl, _, _, _, _, _⟩ := trodVars_one hV
 refine (walk x0 ta0 tc0 ha0 hc0 i1 a1 m1 n1 k1' t1 wi1 wa1 wm1 wn1 wk1 wt1 W hin0 hT0 hH0 hl).mono fun e W' ⟨he, bel⟩ => ?_
 subst he
 exact ⟨_, rfl, _, _, _, _, _, _, hW', trodAll_mk1 (shut_bool Tryd.underlying4 true), trodAll_mk2 (Below.trod Lay.laidOut (by kernel_rfl) (of_decide_eq_true (by kernel_rfl)) k0 bel lt0) (Below.trod Lay.laidOut (by kernel_rfl) (of_decide_eq_true (by kernel_rfl)) k1 bel lt1), bel.trodVars Lay.laidOut (by kernel_rfl) hV, bel.frame _, fun h => by cases h⟩
theorem row_holds : Rows.FnExactWindowAddSaid :=
 OpenClaim.holds_of_wide 3 Tryd.f3 rfl rfl rfl rfl rfl rfl rfl ⟨rfl, rfl, rfl, rfl, rfl⟩ rfl rfl rfl rfl rfl (by kernel_rfl) Tryd.func3 (by kernel_rfl)
  (of_decide_eq_true (by kernel_rfl)) (by unfold Func.isWrapper; rw [if_neg (of_decide_eq_false (by kernel_rfl))]; exact ⟨rfl, rfl⟩)
  (fun os started H enc _ => lifted os started H enc)
theorem card_holds : Rows.FnExactWindowAddCardSaid :=
 Claim7.holds_tied_plain_at .later [] [.data] true Rows.fnExactWindowAddCard.stood.harness false
  row_holds (fun _ h => by cases h) (by kernel_rfl) (fun _ h => by cases h) fnExactWindowAdd_row_tie rfl ⟨rfl, rfl⟩ (by kernel_rfl) rfl
  (fun f fn hf hfn => by
   obtain rfl : f = 3 := Option.some.inj ((show Tryd.prog.funcNamed "loop.example/g00562/laws.FnExactWindowAdd" = some 3 by kernel_rfl).symm.trans hf) |>.symm
   obtain rfl : fn = Tryd.f3 := (Option.some.inj (Tryd.func3.symm.trans hfn)).symm
   exact ⟨by kernel_rfl, fun j t ht => by
    rw [Tryd.params3] at ht
    have hm : t ∈ [25, 27] := by simpa using Array.mem_of_getElem? ht
    have hall : ([25, 27].all fun u => !Tryd.prog.wantsStandIn u) = true := by kernel_rfl
    exact (show Tryd.prog.wantsStandIn t = false by simpa using List.all_eq_true.1 hall t hm)⟩)
  (by kernel_rfl)
end WindowAddL
/-- THE STATEMENT: THE CARD -/
theorem fnExactWindowAdd_holds : Rows.FnExactWindowAddCardSaid := WindowAddL.card_holds
#print axioms fnExactWindowAdd_holds
end Go.Proofs.YtnlmpejgiakepaaDoor
