/-
  FnExactBatchRead: for every text the law's call returns true (the program's BatchRead hands back what the model's does; its list is its own, behind another call too). No condition.
-/
import Derived.Test.YtmilejcpdfhmmaaBatOut
namespace Go.Proofs.Ytmilejcpdfhmmaa
open Go.ChangeShapes Go.WideShapes Go.ChangeAt Go.RowKit
open Go.ChangeMaps (open_string shut_string)
set_option linter.unusedVariables false
namespace BatchReadL
open EvtR
/-- The marks stand in the list. -/
def Mkd (ao : Option Addr) (n : Nat) (w : World) : Prop := n = 0 ∨ ∃ g, ao = some ⟨g, 0, none⟩ ∧ Pt g (n * 6) w ∧ Marked 1 (n * 6) g w
theorem Mkd.below {ao : Option Addr} {n : Nat} {w w' : World} (h : Mkd ao n w) (hb : Below w.heap.size w w') : Mkd ao n w' := by
  rcases h with h | ⟨g, rfl, hp, hm⟩
  · exact .inl h
  · exact .inr ⟨g, rfl, hp.below hb, hm.below hp hb⟩
set_option maxHeartbeats 4000000 in
theorem heldBat (ao : Option Addr) (n cap : Nat) (c : Int) (w : World) (hn : n ≤ 20) (h : Mkd ao n w) :
    Calls Try.prog 20 #[.agg #[.slice ao n cap, .int .i64 c], .int .i64 1] w fun e w' => e = .returned (.int .i64 (1 + 6 * n : Nat)) ∧ Below w.heap.size w w' := by
  have HC : Hid (∀ W, Below w.heap.size w W → Calls Try.prog 52 #[.slice ao n cap, .int .i64 1] W fun e w' => e = .returned (.int .i64 (1 + 6 * n : Nat)) ∧ Below W.heap.size W w') := hid_intro (fun W hW => by
    rcases h.below hW with rfl | ⟨g, rfl, hp, hm⟩
    · exact held_nil ao cap W
    · exact held_any g n cap W hn hp hm)
  clear h
  generalize hK : 1 + 6 * n = K at *
  have hK0 : ¬ (K : Int) < 0 := by omega
  go_enter Try.func20, Try.ntmps20
  go_wp2_with fail
  refine (HC.out _ ((Below.refl _ _).alloc (Nat.le_refl _) _)).mono ?_
  rintro e w1 ⟨rfl, hb⟩
  have HB := hid_intro (bel_alloc hb)
  clear hb
  go_wp2_with fail
  go_ret
  exact ⟨rfl, HB.out⟩
set_option maxHeartbeats 4000000 in
theorem markBat (base : Nat) (ao : Option Addr) (l : List E) (cap : Nat) (c : Int) (w : World) (top : Nat) (hn : l.length ≤ 20) (h : Made base ao l w) (ht : l = [] ∨ ∀ g, ao = some ⟨g, 0, none⟩ → g < top) :
    Calls Try.prog 19 #[.agg #[.slice ao l.length cap, .int .i64 c], .int .i64 1] w fun e w' => e = .returned (.int .i64 (1 + 6 * l.length : Nat)) ∧ Mkd ao l.length w' ∧ ∃ g, w.grownBy w' g ∧ ∀ x, g = some x → base ≤ x ∧ x < top := by
  have HC : Hid (∀ W, Below w.heap.size w W → Calls Try.prog 51 #[.slice ao l.length cap, .int .i64 1] W fun e w' => e = .returned (.int .i64 (1 + 6 * l.length : Nat)) ∧ Mkd ao l.length w' ∧ ∃ g, w.grownBy w' g ∧ ∀ x, g = some x → base ≤ x ∧ x < top) := hid_intro (fun W hW => by
    by_cases h00 : l = []
    · subst h00
      exact (marks_nil ao cap W).mono fun e w' h => ⟨h.1, .inl rfl, none, rgrown (hW.trans (h.2.mono hW.size)) _, by simp⟩
    · obtain ⟨g, rfl, hg, hp⟩ := h.own.resolve_left h00
      have htp := ht.resolve_left h00 g rfl
      exact (marks_any g l.length cap W hn (hp.below hW)).mono fun e w' h => ⟨h.1, .inr ⟨g, rfl, h.2.1, h.2.2.1⟩, some g, gtrans (rgrown hW _) h.2.2.2, fun x hx => by cases hx; exact ⟨hg, htp⟩⟩)
  clear h ht
  generalize l.length = n at *
  generalize hK : 1 + 6 * n = K at *
  go_enter Try.func19, Try.ntmps19
  go_wp2_with fail
  refine (HC.out _ ((Below.refl _ _).alloc (Nat.le_refl _) _)).mono ?_
  rintro e w1 ⟨rfl, hb⟩
  have HB := hid_intro hb
  clear hb
  go_wp2_with fail
  go_ret
  exact ⟨rfl, HB.out⟩
theorem evs_grown {ao : Option Addr} {len : Nat} {es : List E} {w0 w w' : World} {g : Option Nat} {base : Nat} (h0 : Evs ao len es w0) (hz : w0.heap.size ≤ base) (h : Evs ao len es w) (hg : w.grownBy w' g) (hb : ∀ x, g = some x → base ≤ x) : Evs ao len es w' := by
  refine ⟨h.1, ?_⟩
  rcases h.2 with h1 | ⟨b, off, rfl, hl, hc⟩
  · exact .inl h1
  · rcases h0.2 with h1 | ⟨b', off', he, hl', _⟩
    · exact .inl h1
    · obtain ⟨rfl, rfl⟩ : b = b' ∧ off = off' := by simpa using he
      have hne : some b ≠ g := fun e => by have := hb b e.symm; omega
      have hk : ∀ o, w'.cell? ⟨b, o, none⟩ = w.cell? ⟨b, o, none⟩ := fun o => by
        have := hg.block b hl hne
        simp only [World.cell?, this]
      refine .inr ⟨b, off, rfl, by have := hg.size; omega, fun j hj => ?_⟩
      obtain ⟨c0, c1, c2, c3, c4, c5⟩ := hc j hj
      exact ⟨(hk _).trans c0, (hk _).trans c1, (hk _).trans c2, (hk _).trans c3, (hk _).trans c4, (hk _).trans c5⟩
/-- A list with its code, in a box. -/
def Box2 (b : Nat) (v : Value) (c : Int) (w : World) : Prop := b < w.heap.size ∧ w.cell? ⟨b, 0, none⟩ = some v ∧ w.cell? ⟨b, 1, none⟩ = some (.int .i64 c)
theorem Box2.new (w : World) (v : Value) (c : Int) (T : TypeId) : Box2 w.heap.size v c (w.alloc (.cells #[v, .int .i64 c] T)) := ⟨by simp, by simp [go_sem], by simp [go_sem]⟩
theorem Box2.below {b : Nat} {v : Value} {c : Int} {w w' : World} (h : Box2 b v c w) (hb : Below w.heap.size w w') : Box2 b v c w' :=
  ⟨by have := hb.size; have := h.1; omega, (hb.cell (p := ⟨b, 0, none⟩) h.1).trans h.2.1, (hb.cell (p := ⟨b, 1, none⟩) h.1).trans h.2.2⟩
theorem Box2.grown {b : Nat} {v : Value} {c : Int} {w w' : World} {g : Option Nat} (h : Box2 b v c w) (hg : w.grownBy w' g) (hne : some b ≠ g) : Box2 b v c w' := by
  have hk : ∀ o, w'.cell? ⟨b, o, none⟩ = w.cell? ⟨b, o, none⟩ := fun o => by
    have := hg.block b h.1 hne
    simp only [World.cell?, this]
  exact ⟨by have := hg.size; have := h.1; omega, (hk _).trans h.2.1, (hk _).trans h.2.2⟩
theorem al (w : World) (o : Obj) : Below w.heap.size w (w.alloc o) := (Below.refl _ _).alloc (Nat.le_refl _) _
set_option maxHeartbeats 4000000 in
theorem law_in (s : ByteArray) (w : World) (l : List E) (c : Int) (hs : s.size ≤ 1048576) (hl : l.length ≤ 20)
    (h1 : ∀ w, Calls Try.prog 13 #[.string s] w fun e w' => Res w l c e w') (h2 : ∀ w, Calls Try.prog 9 #[.string s] w fun e w' => Res w l c e w') :
    Calls Try.prog 4 #[.string s] w fun e w' => e = .returned (.bool true) ∧ Below w.heap.size w w' := by
  have H1 := hid_intro h1
  have H2 := hid_intro h2
  have h' : ¬ (1048576 : Int) < (s.size : Int) := by omega
  clear h1 h2
  go_enter Try.func4, Try.ntmps4
  go_wp2_with fail
  refine (H1.out _).mono ?_
  rintro e w1 ⟨ao, cap, rfl, hm1, hb1⟩
  have HM1 := hid_intro hm1
  have HB1 := hid_intro hb1
  clear hm1 hb1
  go_wp2_with fail
  refine (H2.out _).mono ?_
  rintro e w2 ⟨bo, cap2, rfl, hm2, hb2⟩
  have HM2 := hid_intro hm2
  have HE2 := hid_intro ((HM1.out.evs.below (al _ _)).below hb2)
  have HB2 := hid_intro (HB1.out.trans ((bel_alloc hb2).mono HB1.out.size))
  have x1 := (Box2.new w1 (.slice ao l.length cap) c 28).below hb2
  have HX1 := hid_intro (x1.below (al _ (.cells #[.slice bo l.length cap2, .int .i64 c] 28)))
  have HZ2 : Hid (w1.heap.size + 1 ≤ w2.heap.size) := hid_intro (by have := hb2.size; simpa using this)
  obtain ⟨y0, y1, y2⟩ := x1
  clear hm2 hb2
  go_wp2_with fail
  refine (eqBat bo ao l.length cap2 cap c l _ (by omega) (HM2.out.evs.below (al _ _)) (HE2.out.below (al _ _))).mono ?_
  rintro e w3 ⟨rfl, hb3⟩
  clear y0 y1 y2
  have HM3 : Hid (Made (w1.heap.size + 1) bo l w3) := hid_intro ⟨(HM2.out.evs.below (al _ _)).below hb3, HM2.out.own.imp id (fun ⟨g, h1, h2, h3⟩ => ⟨g, h1, by simpa using h2, (h3.below (al _ _)).below hb3⟩)⟩
  have HT3 : Hid (l = [] ∨ ∀ g, bo = some ⟨g, 0, none⟩ → g < w2.heap.size) := hid_intro (HM2.out.own.imp id (fun ⟨g, h1, h2, h3⟩ g' e => by rw [h1] at e; cases e; exact h3.lt))
  have HE3 := hid_intro ((HE2.out.below (al _ _)).below hb3)
  have HB3 := hid_intro (HB2.out.trans ((bel_alloc hb3).mono HB2.out.size))
  have HX3 := hid_intro (HX1.out.below hb3)
  have HY3 := hid_intro ((Box2.new w2 (.slice bo l.length cap2) c 28).below hb3)
  obtain ⟨x0, x1, x2⟩ := HX3.out
  obtain ⟨y0, y1, y2⟩ := HY3.out
  clear hb3
  go_wp2_with fail
  refine (markBat (w1.heap.size + 1) bo l cap2 c w3 w2.heap.size hl HM3.out HT3.out).mono ?_
  rintro e w4 ⟨rfl, hk4, g, hg4, hgt⟩
  clear x0 x1 x2 y0 y1 y2
  have HK4 := hid_intro hk4
  have HE4 := hid_intro (evs_grown HM1.out.evs (Nat.le_succ _) HE3.out hg4 (fun x hx => (hgt x hx).1))
  have HB4 := hid_intro (HB3.out.grown hg4 HB3.out.size (fun k e => by have := (hgt k e).1; have := HB1.out.size; omega))
  have HX4 := hid_intro (HX3.out.grown hg4 (fun e => by have := (hgt _ e.symm).1; omega))
  have HY4 := hid_intro (HY3.out.grown hg4 (fun e => by have := (hgt _ e.symm).2; omega))
  obtain ⟨x0, x1, x2⟩ := HX4.out
  obtain ⟨y0, y1, y2⟩ := HY4.out
  clear hk4 hg4 hgt
  generalize hK : 1 + 6 * l.length = K at *
  have hK0 : ¬ (K : Int) < 0 := by omega
  go_wp2_with fail
  refine (heldBat bo l.length cap2 c w4 hl HK4.out).mono ?_
  rintro e w5 ⟨rfl, hb5⟩
  rw [hK]
  clear x0 x1 x2 y0 y1 y2
  have HK5 := hid_intro (HK4.out.below hb5)
  have HE5 := hid_intro (HE4.out.below hb5)
  have HB5 := hid_intro (HB4.out.trans (hb5.mono HB4.out.size))
  have HX5 := hid_intro (HX4.out.below hb5)
  have HY5 := hid_intro (HY4.out.below hb5)
  clear hb5
  go_wp2_with fail
  refine (H2.out _).mono ?_
  rintro e w6 ⟨co, cap3, rfl, hm6, hb6⟩
  have HM6 := hid_intro hm6
  have HK6 := hid_intro ((HK5.out.below hb6).below (al _ (.cells #[.slice co l.length cap3, .int .i64 c] 28)))
  have HE6 := hid_intro (HE5.out.below hb6)
  have HB6 := hid_intro (HB5.out.trans (hb6.mono HB5.out.size))
  have HX6 := hid_intro (HX5.out.below hb6)
  have HY6 := hid_intro ((HY5.out.below hb6).below (al _ (.cells #[.slice co l.length cap3, .int .i64 c] 28)))
  obtain ⟨x0, x1, x2⟩ := HX6.out
  clear hm6 hb6
  go_wp2_with fail
  refine (eqBat co ao l.length cap3 cap c l _ (by omega) (HM6.out.evs.below (al _ _)) (HE6.out.below (al _ _))).mono ?_
  rintro e w7 ⟨rfl, hb7⟩
  clear x0 x1 x2
  have HK7 := hid_intro (HK6.out.below hb7)
  have HB7 := hid_intro (HB6.out.trans ((bel_alloc hb7).mono HB6.out.size))
  obtain ⟨y0, y1, y2⟩ := HY6.out.below hb7
  clear hb7
  go_wp2_with fail
  refine (heldBat bo l.length cap2 c w7 hl HK7.out).mono ?_
  rintro e w8 ⟨rfl, hb8⟩
  rw [hK]
  have HB8 := hid_intro (HB7.out.trans (hb8.mono HB7.out.size))
  clear hb8
  go_wp2_with fail
  go_ret
  exact ⟨rfl, HB8.out⟩
theorem walk (a0 : ByteArray) (w0 : a0.size ≤ maxLen) (w : World) :
    Calls Try.prog 4 #[.string a0] w fun e w' => e = .returned (.bool true) ∧ Below w.heap.size w w' := by
  unfold maxLen at w0
  by_cases h : 1048576 < a0.size
  · have h' : (1048576 : Int) < (a0.size : Int) := by omega
    go_enter Try.func4, Try.ntmps4
    go_wp2
    go_ret
    exact ⟨rfl, Below.refl _ _⟩
  · obtain ⟨l, c, hl, h1, h2⟩ := both a0 (by omega)
    exact law_in a0 w l c (by omega) hl h1 h2
theorem own : ownKnob Try.prog.godebug = none := by kernel_rfl
set_option maxRecDepth 100000 in
theorem lifted (os : Os) (started : os.Started) (H : Type) (enc : TypeId × Value → H) :
    ReturnsInHanded {} Try.checked os 4 .any (Rows.fnExactBatchReadSpec.pre6 enc Try.prog Try.f4 Rows.fnExactBatchReadRow.domain false) (Rows.fnExactBatchReadSpec.post enc Try.prog Try.f4 false true false false) := by
  refine returnsInHanded_of_change (C := Try.checked) own started (by kernel_rfl) Try.func4
    (ChangeSpec.witness6 (enc := enc) (C := Try.checked) false ⟨#[], #[.string ByteArray.empty], []⟩ 8 (by kernel_rfl) (by kernel_rfl) (by kernel_rfl) (by kernel_rfl)) ?_
  intro W base args ds gs before hval0 hW hcnd _
  have hval : ∀ (j : Nat) t v, Try.f4.params[j]? = some t → args[j]? = some v → Value.okWide Try.prog W .any base t v := hval0
  have hW' := hW
  obtain ⟨p, q, hA0, hV, rfl, hfz, hnd⟩ := hW
  have hA : DataW.TrodAll enc Try.prog W 0 (fun _ => true) true Try.f4.params.toList args.toList ds p := hA0
  rw [Try.params4] at hA hval
  obtain ⟨v0, vs0, d0, ds0, p0, q0, hargs, rfl, rfl, h0, r0⟩ := trodAll_cons hA
  obtain ⟨rfl, rfl, rfl⟩ := trodAll_nil r0
  obtain rfl : args = #[v0] := by cases args; simp_all
  obtain ⟨rfl, rfl⟩ := trodVars_none hV
  obtain ⟨a0, rfl, rfl, rfl, w0⟩ := open_string Try.underlying9 (hval 0 9 v0 rfl rfl) h0
  clear hA0 hval0
  simp only [List.append_nil] at hW'
  refine (walk a0 w0 W).mono fun e W' ⟨he, bel⟩ => ?_
  subst he
  exact ⟨_, rfl, _, _, _, [], [], [], hW', (trodAll_cons_mk (shut_bool Try.underlying4 _) trodAll_mk0), (trodAll_cons_mk (shut_string Try.underlying9 w0) trodAll_mk0), rfl, bel.frame _, fun h => by cases h⟩

theorem over : Rows.fnExactBatchReadRow.holds Try.pinned (OpenSpec.ofChange Rows.fnExactBatchReadSpec) :=
  OpenClaim.holds_of_wide 4 Try.f4 rfl rfl rfl rfl rfl rfl rfl ⟨rfl, rfl, rfl, rfl, rfl⟩ rfl rfl rfl rfl rfl (by kernel_rfl) Try.func4 (by kernel_rfl)
    (of_decide_eq_true (by kernel_rfl)) (by unfold Func.isWrapper; first | (rw [if_pos (by decide +kernel)]; kernel_rfl) | (rw [if_neg (by decide +kernel)]; exact ⟨rfl, rfl⟩))
    (fun os started H enc _ => lifted os started H enc)


end BatchReadL
/-- THE STATEMENT -/
theorem fnExactBatchRead_holds : Rows.FnExactBatchReadSaid := BatchReadL.over
#print axioms fnExactBatchRead_holds
end Go.Proofs.Ytmilejcpdfhmmaa
