/-
  The meter of a name, the program's MeterOf. The conditions: all in the catalog is small, the name too; the program's own error stands in its variable.
-/
import Derived.Test.YtnpnegcmohgnfaaDoorMoC
import Derived.Test.YtnpnegcmohgnfaaDoorCaR
import Derived.Test.YtnpnegcmohgnfaaDoorBlk
import Derived.Test.YtnpnegcmohgnfaaDoorCrOf
namespace Go.Proofs.YtnpnegcmohgnfaaDoor
open Go.ChangeShapes Go.WideShapes Go.ChangeAt Go.RowKit
set_option linter.unusedVariables false
namespace CatR
open EvtR (Pt)
/-- The meter of that name, the zero one where there is none. -/
def mFd (t : ByteArray) : List Me → Me
  | [] => Me.zero
  | m :: ms => bif m.n.toList == t.toList then m else mFd t ms
def mO (c : Ca) (t : ByteArray) : Me := bif caB c then mFd t c.ms else Me.zero
theorem mFd_hit (t : ByteArray) : ∀ (ms : List Me) (k : Nat), k < ms.length → (∀ i, i < k → mN ms i ≠ t) → mN ms k = t → mFd t ms = ms.getD k Me.zero
  | [], k, hk, _, _ => by simp at hk
  | m :: ms, 0, _, _, h => by
    have h : m.n = t := h
    rw [mFd, h]
    simp
  | m :: ms, k + 1, hk, hn, h => by
    have h0 : m.n ≠ t := hn 0 (by omega)
    have hb : (m.n.toList == t.toList) = false := beq_no h0
    rw [mFd, hb, cond_false]
    have := mFd_hit t ms k (by simpa using hk) (fun i hi => hn (i + 1) (by omega)) h
    rw [this]
    rfl
theorem mFd_none (t : ByteArray) : ∀ (ms : List Me), (∀ i, i < ms.length → mN ms i ≠ t) → mFd t ms = Me.zero
  | [], _ => rfl
  | m :: ms, hn => by
    have h0 : m.n ≠ t := hn 0 (by simp)
    rw [mFd, beq_no h0, cond_false]
    exact mFd_none t ms (fun i hi => hn (i + 1) (by simpa using hi))
theorem ms_rise {ms : List Me} (h : MsRight ms) : ∀ i, i < ms.length → ∀ j, j < i → lt (mN ms j) (mN ms i) = true
  | 0, _ => fun j hj => absurd hj (by omega)
  | i + 1, hi => fun j hj => by
    have h1 := (h.2 (i + 1) hi).2 (by omega)
    rw [Nat.add_sub_cancel] at h1
    by_cases q : j = i
    · subst q; exact h1
    · exact lt_trans (ms_rise h i (by omega) j (by omega)) h1
theorem ms_apart {ms : List Me} (h : MsRight ms) : ∀ i j, i < ms.length → j < ms.length → mN ms i = mN ms j → i = j := by
  intro i j hi hj e
  rcases (show i < j ∨ i = j ∨ j < i by omega) with q | q | q
  · have := ms_rise h j hj i q
    rw [e, lt_irrefl] at this
    cases this
  · exact q
  · have := ms_rise h i hi j q
    rw [e, lt_irrefl] at this
    cases this
/-- A name is there once, or not. -/
theorem name_cases (ms : List Me) (h : MsRight ms) (t : ByteArray) : (∃ k, k < ms.length ∧ mN ms k = t ∧ mFd t ms = ms.getD k Me.zero) ∨ ((∀ i, i < ms.length → mN ms i ≠ t) ∧ mFd t ms = Me.zero) := by
  by_cases q : ∃ k, k < ms.length ∧ mN ms k = t
  · obtain ⟨k, hk, he⟩ := q
    refine .inl ⟨k, hk, he, mFd_hit t ms k hk (fun i hi e => ?_) he⟩
    have := ms_apart h i k (by omega) hk (by rw [e, he])
    omega
  · have q2 : ∀ i, i < ms.length → mN ms i ≠ t := fun i hi e => q ⟨i, hi, e⟩
    exact .inr ⟨q2, mFd_none t ms q2⟩
theorem pt_grown {g m : Nat} {w w' : World} {row : Option Nat} (h : Pt g m w) (hg : w.grownBy w' row) (hne : some g ≠ row) : Pt g m w' := by
  have e := hg.block g h.lt hne
  exact ⟨by have := hg.size; have := h.lt; omega, fun o ho => by obtain ⟨v, hv⟩ := h.has o ho; exact ⟨v, (World.cell?_of_block (a := ⟨g, o, none⟩) e).trans hv⟩, fun o ho => (World.frozen?_of_block (a := ⟨g, o, none⟩) e).trans (h.free o ho)⟩
theorem res_zero {w w' : World} (hb : Below w.heap.size w w') : ResM w Me.zero (.returned (.agg #[.string ⟨#[]⟩, .int .i64 0, .bool false, .int .i64 0, .int .i64 0, .slice none 0 0])) w' := ⟨none, 0, rfl, Tis.nil _ _, .inl rfl, hb⟩
set_option maxRecDepth 100000 in
set_option maxHeartbeats 8000000 in
theorem impl_mo (v : Value) (c : Ca) (t : ByteArray) (w : World) (ht : t.size ≤ 1048576) (hS : c.Small) (hC : IsCa v c w) (hL : Laid w) :
    Calls Tryd.prog 17 #[v, .string t] w fun e w' => ResM w (mO c t) e w' := by
  have H1 := hid_intro (fun W (hW : Below w.heap.size w W) => impl_ca v c W hS (hC.below hW) (hL.below hW))
  obtain ⟨ma, mc, ca, cc, rfl, hM, hR⟩ := hC
  obtain ⟨V, hV⟩ := mes_v hM
  have HB0 : Hid (Below w.heap.size w ((w.alloc (.cells #[.slice ma c.ms.length mc, .slice ca c.cs.length cc] 31)).alloc (.cells #[.string ⟨#[]⟩, .int .i64 0, .bool false, .int .i64 0, .int .i64 0, .slice none 0 0] 40))) := hid_intro (((Below.refl _ _).alloc (Nat.le_refl _) _).alloc (by simp) _)
  have HC0 : Hid (Blk w.heap.size [.slice ma c.ms.length mc, .slice ca c.cs.length cc] ((w.alloc (.cells #[.slice ma c.ms.length mc, .slice ca c.cs.length cc] 31)).alloc (.cells #[.string ⟨#[]⟩, .int .i64 0, .bool false, .int .i64 0, .int .i64 0, .slice none 0 0] 40))) := hid_intro ((Blk.new w _ _).alloc _)
  have HQ0 : Hid (Pt (w.heap.size + 1) 6 ((w.alloc (.cells #[.slice ma c.ms.length mc, .slice ca c.cs.length cc] 31)).alloc (.cells #[.string ⟨#[]⟩, .int .i64 0, .bool false, .int .i64 0, .int .i64 0, .slice none 0 0] 40))) := hid_intro (by have := pt_new (w.alloc (.cells #[.slice ma c.ms.length mc, .slice ca c.cs.length cc] 31)) [.string ⟨#[]⟩, .int .i64 0, .bool false, .int .i64 0, .int .i64 0, .slice none 0 0] 40; simpa using this)
  have HMO : Hid (mO c t = bif caB c then mFd t c.ms else Me.zero) := rfl
  have HIF : Hid (caB c = true ↔ MsRight c.ms ∧ CsRight c.cs) := hid_intro caB_iff
  generalize caB c = r at *
  generalize mO c t = RES at *
  cases r
  · rw [cond_false] at HMO
    obtain rfl := HMO.out
    generalize c.ms.length = ml at *
    generalize c.cs.length = cl at *
    clear hM hR hV hS HIF
    go_enter Tryd.func17, Tryd.ntmps17
    go_wp2_with fail
    refine (H1.out _ HB0.out).mono ?_
    rintro e w1 ⟨rfl, hb1⟩
    have HB1 := hid_intro (HB0.out.trans (hb1.mono HB0.out.size))
    have HQ2 := hid_intro (HQ0.out.below hb1)
    clear hb1
    have q := HQ2.out.lt
    obtain ⟨y0, e0⟩ := HQ2.out.has 0 (by omega)
    obtain ⟨y1, e1⟩ := HQ2.out.has 1 (by omega)
    obtain ⟨y2, e2⟩ := HQ2.out.has 2 (by omega)
    obtain ⟨y3, e3⟩ := HQ2.out.has 3 (by omega)
    obtain ⟨y4, e4⟩ := HQ2.out.has 4 (by omega)
    obtain ⟨y5, e5⟩ := HQ2.out.has 5 (by omega)
    have z0 := HQ2.out.free 0 (by omega)
    have z1 := HQ2.out.free 1 (by omega)
    have z2 := HQ2.out.free 2 (by omega)
    have z3 := HQ2.out.free 3 (by omega)
    have z4 := HQ2.out.free 4 (by omega)
    have z5 := HQ2.out.free 5 (by omega)
    go_wp2_with fail
    refine bodyPost_ret (v := .agg #[.string ⟨#[]⟩, .int .i64 0, .bool false, .int .i64 0, .int .i64 0, .slice none 0 0]) (by simp [results, Tryd.results17, go_sem, e0, e1, e2, e3, e4, e5]) rfl (res_zero ?_)
    exact (((((HB1.out.setCell (by simp) _).setCell (by simp) _).setCell (by simp) _).setCell (by simp) _).setCell (by simp) _).setCell (by simp) _
  · rw [cond_true] at HMO
    obtain ⟨hms, _⟩ := HIF.out.1 rfl
    have HBN := hid_intro (fun W (hW : Below w.heap.size w W) => byName_any ma c.ms.length mc c.ms V W hms.1 (fun i hi => (hS.ms i hi).1) (hV.below hW))
    generalize hml : c.ms.length = ml at *
    generalize c.cs.length = cl at *
    go_enter Tryd.func17, Tryd.ntmps17
    go_wp2_with fail
    refine (H1.out _ HB0.out).mono ?_
    rintro e w1 ⟨rfl, hb1⟩
    have HB1 := hid_intro (HB0.out.trans (hb1.mono HB0.out.size))
    have HC1 := hid_intro (HC0.out.below hb1)
    have HQ1 := hid_intro (HQ0.out.below hb1)
    clear hb1
    have x0 : w1.cell? ⟨w.heap.size, 0, none⟩ = some (.slice ma ml mc) := HC1.out.2 0 (by simp)
    have xl := HC1.out.1
    go_wp2_with fail
    refine (HBN.out _ HB1.out).mono ?_
    rintro e w2 ⟨rfl, hown2, hb2⟩
    have HB2 := hid_intro (HB1.out.trans (hb2.mono HB1.out.size))
    have HQ2 := hid_intro (HQ1.out.below hb2)
    have HO2 := hid_intro hown2
    clear hb2 hown2 x0 xl
    obtain ⟨hl2, a0, hl3⟩ := hL.below HB2.out
    rcases name_cases c.ms hms t with ⟨k, hk, hkt, hkf⟩ | ⟨hno, hkf⟩
    · obtain ⟨ta, tc, hvk, hTk⟩ := hV.is k (by omega)
      have hmr := (hms.2 k hk).1
      have ht1 := hmr.2.2.2.2.1
      have ht5 := hmr.2.2.2.2.2.1
      have hap := ms_apart hms
      rw [hml] at hap
      have HT := hid_intro (take_has w1.heap.size ml (mapD c.ms V ml) t _ _ _ _ _ _ _ _ w2 ht HO2.out ((has_mapD c.ms V t ml).2 ⟨k, by omega, hkt⟩) (fun z => by rw [← hkt, at_mapD c.ms V z ml hap k (by omega), hvk]))
      rw [hkf] at HMO
      have HCP : Hid (∀ W, Below w.heap.size w W → Calls Tryd.prog 44 #[.agg #[.string (c.ms.getD k Me.zero).n, .int .i64 (c.ms.getD k Me.zero).g, .bool (c.ms.getD k Me.zero).wh, .int .i64 (c.ms.getD k Me.zero).f, .int .i64 (c.ms.getD k Me.zero).l, .slice ta (c.ms.getD k Me.zero).ts.length tc]] W fun e w' => ResM W (c.ms.getD k Me.zero) e w') := hid_intro (fun W hW => by
        rcases hTk.2 with h0 | ⟨b, off, rfl, _⟩
        · omega
        · exact copy_me b off tc _ W ht1 ht5 (hS.ms k hk).1 (hTk.below hW))
      have HIS := hid_intro (fun w => IsR.is_nil a0 w)
      generalize c.ms.getD k Me.zero = X at *
      obtain ⟨n, g, wh, f, l, ts⟩ := X
      obtain rfl := HMO.out
      simp only at HT HCP
      clear hvk hTk hmr ht1 ht5 hap hkf HMO HBN hV hM hR hS hms HIF
      go_wp2_with fail
      refine HT.out.mono ?_
      rintro e w3 ⟨rfl, hown3, hg3⟩
      have HB3 := hid_intro (HB2.out.grown hg3 HB2.out.size (fun q e => by cases e; exact HB1.out.size))
      have g0 : w3.cell? ⟨0, 0, none⟩ = some (.iface 121 (.pointer (some a0))) := (World.cell?_of_block (a := ⟨0, 0, none⟩) (hg3.block _ hl2 (fun e => by simp at e; have := hL.1; have := HB1.out.size; omega))).trans hl3
      have gl : 0 < w3.heap.size := by have := hg3.size; omega
      have HQ3 : Hid (Pt (w.heap.size + 1) 6 w3) := hid_intro (pt_grown HQ2.out hg3 (fun e => by simp at e; have := HQ1.out.lt; omega))
      clear hown3 hg3
      go_wp2_with (go_at_call 43; refine (HIS.out _).mono ?_; rintro e w' ⟨rfl, rfl⟩)
      have HBa := hid_intro (HB3.out.alloc HB3.out.size (.cells #[.string n, .int .i64 g, .bool wh, .int .i64 f, .int .i64 l, .slice ta ts.length tc] 40))
      refine (HCP.out _ HBa.out).mono ?_
      rintro e w4 ⟨ta', tc', rfl, hT4, hO4, hb4⟩
      simp only at hT4 hO4
      have HB4 := hid_intro (HBa.out.trans (hb4.mono HBa.out.size))
      have HQ4 := hid_intro ((HQ3.out.below ((Below.refl _ _).alloc (Nat.le_refl _) (.cells #[.string n, .int .i64 g, .bool wh, .int .i64 f, .int .i64 l, .slice ta ts.length tc] 40))).below hb4)
      have HT4 := hid_intro hT4
      have HO4 : Hid (ts.length = 0 ∨ ∃ g, ta' = some ⟨g, 0, none⟩ ∧ w3.heap.size ≤ g ∧ Pt g (ts.length * 2) w4) := hid_intro (hO4.imp id (fun ⟨g, h1, h2, h3⟩ => ⟨g, h1, by simp at h2; omega, h3⟩))
      have hq3 := HQ3.out.lt
      have hw3 := HB3.out.size
      clear hT4 hO4 hb4 g0
      have q := HQ4.out.lt
      obtain ⟨y0, e0⟩ := HQ4.out.has 0 (by omega)
      obtain ⟨y1, e1⟩ := HQ4.out.has 1 (by omega)
      obtain ⟨y2, e2⟩ := HQ4.out.has 2 (by omega)
      obtain ⟨y3, e3⟩ := HQ4.out.has 3 (by omega)
      obtain ⟨y4, e4⟩ := HQ4.out.has 4 (by omega)
      obtain ⟨y5, e5⟩ := HQ4.out.has 5 (by omega)
      have z0 := HQ4.out.free 0 (by omega)
      have z1 := HQ4.out.free 1 (by omega)
      have z2 := HQ4.out.free 2 (by omega)
      have z3 := HQ4.out.free 3 (by omega)
      have z4 := HQ4.out.free 4 (by omega)
      have z5 := HQ4.out.free 5 (by omega)
      go_wp2_with fail
      refine bodyPost_ret (v := .agg #[.string n, .int .i64 g, .bool wh, .int .i64 f, .int .i64 l, .slice ta' ts.length tc']) (by simp [results, Tryd.results17, go_sem, e0, e1, e2, e3, e4, e5]) rfl ⟨ta', tc', rfl, ?_, ?_, ?_⟩
      · rcases Nat.eq_zero_or_pos ts.length with h0 | h0
        · exact ⟨rfl, .inl h0⟩
        · obtain ⟨g', e1, e2, e3⟩ := HO4.out.resolve_left (by omega)
          subst e1
          exact (((((HT4.out.far (by omega) _ _).far (by omega) _ _).far (by omega) _ _).far (by omega) _ _).far (by omega) _ _).far (by omega) _ _
      · refine HO4.out.imp id (fun ⟨g', e1, e2, e3⟩ => ⟨g', e1, by omega, ?_⟩)
        exact (((((e3.far (by omega) _ _).far (by omega) _ _).far (by omega) _ _).far (by omega) _ _).far (by omega) _ _).far (by omega) _ _
      · exact (((((HB4.out.setCell (by simp) _).setCell (by simp) _).setCell (by simp) _).setCell (by simp) _).setCell (by simp) _).setCell (by simp) _
    · have hnh : Maps.has (mapD c.ms V ml) (kS t) = false := by
        cases hh : Maps.has (mapD c.ms V ml) (kS t)
        · rfl
        · obtain ⟨q, hq, hqe⟩ := (has_mapD c.ms V t ml).1 hh
          exact absurd hqe (hno q (by omega))
      have HT := hid_intro (take_no w1.heap.size ml (mapD c.ms V ml) t w2 ht HO2.out hnh a0 hl2 hl3)
      rw [hkf] at HMO
      obtain rfl := HMO.out
      have HIS := hid_intro (fun w => IsR.is_same a0 w)
      clear hnh hno hkf HMO HBN hV hM hR hS hms HIF
      go_wp2_with fail
      refine HT.out.mono ?_
      rintro e w3 ⟨rfl, hb3⟩
      have HB3 := hid_intro (HB2.out.trans (hb3.mono HB2.out.size))
      have g0 : w3.cell? ⟨0, 0, none⟩ = some (.iface 121 (.pointer (some a0))) := (hb3.cell (p := ⟨0, 0, none⟩) hl2).trans hl3
      have gl : 0 < w3.heap.size := by have := hb3.size; omega
      have HQ3 := hid_intro (HQ2.out.below hb3)
      have HQ4 := hid_intro (HQ3.out.below ((Below.refl _ _).alloc (Nat.le_refl _) (.cells #[.string ⟨#[]⟩, .int .i64 0, .bool false, .int .i64 0, .int .i64 0, .slice none 0 0] 40)))
      have HB4 := hid_intro (HB3.out.alloc HB3.out.size (.cells #[.string ⟨#[]⟩, .int .i64 0, .bool false, .int .i64 0, .int .i64 0, .slice none 0 0] 40))
      clear hb3
      go_wp2_with fail
      refine (HIS.out _).mono ?_
      rintro e w5 ⟨rfl, hw5⟩
      have HQ5 : Hid (Pt (w.heap.size + 1) 6 w5) := hid_intro (by rw [hw5]; exact HQ4.out)
      have HB5 : Hid (Below w.heap.size w w5) := hid_intro (by rw [hw5]; exact HB4.out)
      clear hw5 HB4 HQ4 g0 gl
      have q := HQ5.out.lt
      obtain ⟨y0, e0⟩ := HQ5.out.has 0 (by omega)
      obtain ⟨y1, e1⟩ := HQ5.out.has 1 (by omega)
      obtain ⟨y2, e2⟩ := HQ5.out.has 2 (by omega)
      obtain ⟨y3, e3⟩ := HQ5.out.has 3 (by omega)
      obtain ⟨y4, e4⟩ := HQ5.out.has 4 (by omega)
      obtain ⟨y5, e5⟩ := HQ5.out.has 5 (by omega)
      have z0 := HQ5.out.free 0 (by omega)
      have z1 := HQ5.out.free 1 (by omega)
      have z2 := HQ5.out.free 2 (by omega)
      have z3 := HQ5.out.free 3 (by omega)
      have z4 := HQ5.out.free 4 (by omega)
      have z5 := HQ5.out.free 5 (by omega)
      go_wp2_with fail
      refine bodyPost_ret (v := .agg #[.string ⟨#[]⟩, .int .i64 0, .bool false, .int .i64 0, .int .i64 0, .slice none 0 0]) (by simp [results, Tryd.results17, go_sem, e0, e1, e2, e3, e4, e5]) rfl (res_zero ?_)
      exact (((((HB5.out.setCell (by simp) _).setCell (by simp) _).setCell (by simp) _).setCell (by simp) _).setCell (by simp) _).setCell (by simp) _
end CatR
end Go.Proofs.YtnpnegcmohgnfaaDoor
