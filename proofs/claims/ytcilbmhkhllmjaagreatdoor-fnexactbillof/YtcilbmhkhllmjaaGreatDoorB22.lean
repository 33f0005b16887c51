/-
  The meter of a name, the program's MeterOf. The conditions: all in the catalog is small, the name too; the program's own error stands in its variable.
  What an account is billed, in numbers: its windows in the order of their meters, each rated. No condition.
-/
import Derived.Test.YtcilbmhkhllmjaaGreatDoorB21
namespace Go.Proofs.YtcilbmhkhllmjaaGreatDoor
open Go.ChangeShapes Go.WideShapes Go.ChangeAt Go.RowKit
set_option linter.unusedVariables false
namespace CatR
open EvtR (Pt)
/-- The meter of that name, the zero one where there is none. -/
def mFd (t : ByteArray) : List Me → Me
  | [] => Me.zero
  | m :: ms => bif m.n.toList == t.toList then m else mFd t ms
def mO (c : Ca) (t : ByteArray) : Me := bif caB c then mFd t c.ms else Me.zero
theorem mFd_hit (t : ByteArray) : ∀ (ms : List Me) (k : Nat), k < ms.length → (∀ i, i < k → mN ms i ≠ t) → mN ms k = t → mFd t ms = ms.getD k Me.zero
  | [], k, hk, _, _ => by simp at hk
  | m :: ms, 0, _, _, h => by
    have h : m.n = t := h
    rw [mFd, h]
    simp
  | m :: ms, k + 1, hk, hn, h => by
    have h0 : m.n ≠ t := hn 0 (by omega)
    have hb : (m.n.toList == t.toList) = false := beq_no h0
    rw [mFd, hb, cond_false]
    have := mFd_hit t ms k (by simpa using hk) (fun i hi => hn (i + 1) (by omega)) h
    rw [this]
    rfl
theorem mFd_none (t : ByteArray) : ∀ (ms : List Me), (∀ i, i < ms.length → mN ms i ≠ t) → mFd t ms = Me.zero
  | [], _ => rfl
  | m :: ms, hn => by
    have h0 : m.n ≠ t := hn 0 (by simp)
    rw [mFd, beq_no h0, cond_false]
    exact mFd_none t ms (fun i hi => hn (i + 1) (by simpa using hi))
theorem ms_rise {ms : List Me} (h : MsRight ms) : ∀ i, i < ms.length → ∀ j, j < i → lt (mN ms j) (mN ms i) = true
  | 0, _ => fun j hj => absurd hj (by omega)
  | i + 1, hi => fun j hj => by
    have h1 := (h.2 (i + 1) hi).2 (by omega)
    rw [Nat.add_sub_cancel] at h1
    by_cases q : j = i
    · subst q; exact h1
    · exact lt_trans (ms_rise h i (by omega) j (by omega)) h1
theorem ms_apart {ms : List Me} (h : MsRight ms) : ∀ i j, i < ms.length → j < ms.length → mN ms i = mN ms j → i = j := by
  intro i j hi hj e
  rcases (show i < j ∨ i = j ∨ j < i by omega) with q | q | q
  · have := ms_rise h j hj i q
    rw [e, lt_irrefl] at this
    cases this
  · exact q
  · have := ms_rise h i hi j q
    rw [e, lt_irrefl] at this
    cases this
/-- A name is there once, or not. -/
theorem name_cases (ms : List Me) (h : MsRight ms) (t : ByteArray) : (∃ k, k < ms.length ∧ mN ms k = t ∧ mFd t ms = ms.getD k Me.zero) ∨ ((∀ i, i < ms.length → mN ms i ≠ t) ∧ mFd t ms = Me.zero) := by
  by_cases q : ∃ k, k < ms.length ∧ mN ms k = t
  · obtain ⟨k, hk, he⟩ := q
    refine .inl ⟨k, hk, he, mFd_hit t ms k hk (fun i hi e => ?_) he⟩
    have := ms_apart h i k (by omega) hk (by rw [e, he])
    omega
  · have q2 : ∀ i, i < ms.length → mN ms i ≠ t := fun i hi e => q ⟨i, hi, e⟩
    exact .inr ⟨q2, mFd_none t ms q2⟩
theorem pt_grown {g m : Nat} {w w' : World} {row : Option Nat} (h : Pt g m w) (hg : w.grownBy w' row) (hne : some g ≠ row) : Pt g m w' := by
  have e := hg.block g h.lt hne
  exact ⟨by have := hg.size; have := h.lt; omega, fun o ho => by obtain ⟨v, hv⟩ := h.has o ho; exact ⟨v, (World.cell?_of_block (a := ⟨g, o, none⟩) e).trans hv⟩, fun o ho => (World.frozen?_of_block (a := ⟨g, o, none⟩) e).trans (h.free o ho)⟩
theorem res_zero {w w' : World} (hb : Below w.heap.size w w') : ResM w Me.zero (.returned (.agg #[.string ⟨#[]⟩, .int .i64 0, .bool false, .int .i64 0, .int .i64 0, .slice none 0 0])) w' := ⟨none, 0, rfl, Tis.nil _ _, .inl rfl, hb⟩
set_option maxRecDepth 100000 in
set_option maxHeartbeats 8000000 in
theorem impl_mo (v : Value) (c : Ca) (t : ByteArray) (w : World) (ht : t.size ≤ 1048576) (hS : c.Small) (hC : IsCa v c w) (hL : Laid w) :
    Calls Tryz.prog 93 #[v, .string t] w fun e w' => ResM w (mO c t) e w' := by
  have H1 := hid_intro (fun W (hW : Below w.heap.size w W) => impl_ca v c W hS (hC.below hW) (hL.below hW))
  obtain ⟨ma, mc, ca, cc, rfl, hM, hR⟩ := hC
  obtain ⟨V, hV⟩ := mes_v hM
  have HB0 : Hid (Below w.heap.size w ((w.alloc (.cells #[.slice ma c.ms.length mc, .slice ca c.cs.length cc] 36)).alloc (.cells #[.string ⟨#[]⟩, .int .i64 0, .bool false, .int .i64 0, .int .i64 0, .slice none 0 0] 117))) := hid_intro (((Below.refl _ _).alloc (Nat.le_refl _) _).alloc (by simp) _)
  have HC0 : Hid (Blk w.heap.size [.slice ma c.ms.length mc, .slice ca c.cs.length cc] ((w.alloc (.cells #[.slice ma c.ms.length mc, .slice ca c.cs.length cc] 36)).alloc (.cells #[.string ⟨#[]⟩, .int .i64 0, .bool false, .int .i64 0, .int .i64 0, .slice none 0 0] 117))) := hid_intro ((Blk.new w _ _).alloc _)
  have HQ0 : Hid (Pt (w.heap.size + 1) 6 ((w.alloc (.cells #[.slice ma c.ms.length mc, .slice ca c.cs.length cc] 36)).alloc (.cells #[.string ⟨#[]⟩, .int .i64 0, .bool false, .int .i64 0, .int .i64 0, .slice none 0 0] 117))) := hid_intro (by have := pt_new (w.alloc (.cells #[.slice ma c.ms.length mc, .slice ca c.cs.length cc] 36)) [.string ⟨#[]⟩, .int .i64 0, .bool false, .int .i64 0, .int .i64 0, .slice none 0 0] 117; simpa using this)
  have HMO : Hid (mO c t = bif caB c then mFd t c.ms else Me.zero) := rfl
  have HIF : Hid (caB c = true ↔ MsRight c.ms ∧ CsRight c.cs) := hid_intro caB_iff
  generalize caB c = r at *
  generalize mO c t = RES at *
  cases r
  · rw [cond_false] at HMO
    obtain rfl := HMO.out
    generalize c.ms.length = ml at *
    generalize c.cs.length = cl at *
    clear hM hR hV hS HIF
    go_enter Tryz.func93, Tryz.ntmps93
    go_wp2_with fail
    refine (H1.out _ HB0.out).mono ?_
    rintro e w1 ⟨rfl, hb1⟩
    have HB1 := hid_intro (HB0.out.trans (hb1.mono HB0.out.size))
    have HQ2 := hid_intro (HQ0.out.below hb1)
    clear hb1
    have q := HQ2.out.lt
    obtain ⟨y0, e0⟩ := HQ2.out.has 0 (by omega)
    obtain ⟨y1, e1⟩ := HQ2.out.has 1 (by omega)
    obtain ⟨y2, e2⟩ := HQ2.out.has 2 (by omega)
    obtain ⟨y3, e3⟩ := HQ2.out.has 3 (by omega)
    obtain ⟨y4, e4⟩ := HQ2.out.has 4 (by omega)
    obtain ⟨y5, e5⟩ := HQ2.out.has 5 (by omega)
    have z0 := HQ2.out.free 0 (by omega)
    have z1 := HQ2.out.free 1 (by omega)
    have z2 := HQ2.out.free 2 (by omega)
    have z3 := HQ2.out.free 3 (by omega)
    have z4 := HQ2.out.free 4 (by omega)
    have z5 := HQ2.out.free 5 (by omega)
    go_wp2_with fail
    refine bodyPost_ret (v := .agg #[.string ⟨#[]⟩, .int .i64 0, .bool false, .int .i64 0, .int .i64 0, .slice none 0 0]) (by simp [results, Tryz.results93, go_sem, e0, e1, e2, e3, e4, e5]) rfl (res_zero ?_)
    exact (((((HB1.out.setCell (by simp) _).setCell (by simp) _).setCell (by simp) _).setCell (by simp) _).setCell (by simp) _).setCell (by simp) _
  · rw [cond_true] at HMO
    obtain ⟨hms, _⟩ := HIF.out.1 rfl
    have HBN := hid_intro (fun W (hW : Below w.heap.size w W) => byName_any ma c.ms.length mc c.ms V W hms.1 (fun i hi => (hS.ms i hi).1) (hV.below hW))
    generalize hml : c.ms.length = ml at *
    generalize c.cs.length = cl at *
    go_enter Tryz.func93, Tryz.ntmps93
    go_wp2_with fail
    refine (H1.out _ HB0.out).mono ?_
    rintro e w1 ⟨rfl, hb1⟩
    have HB1 := hid_intro (HB0.out.trans (hb1.mono HB0.out.size))
    have HC1 := hid_intro (HC0.out.below hb1)
    have HQ1 := hid_intro (HQ0.out.below hb1)
    clear hb1
    have x0 : w1.cell? ⟨w.heap.size, 0, none⟩ = some (.slice ma ml mc) := HC1.out.2 0 (by simp)
    have xl := HC1.out.1
    go_wp2_with fail
    refine (HBN.out _ HB1.out).mono ?_
    rintro e w2 ⟨rfl, hown2, hb2⟩
    have HB2 := hid_intro (HB1.out.trans (hb2.mono HB1.out.size))
    have HQ2 := hid_intro (HQ1.out.below hb2)
    have HO2 := hid_intro hown2
    clear hb2 hown2 x0 xl
    obtain ⟨hl2, a0, hl3⟩ := hL.below HB2.out
    rcases name_cases c.ms hms t with ⟨k, hk, hkt, hkf⟩ | ⟨hno, hkf⟩
    · obtain ⟨ta, tc, hvk, hTk⟩ := hV.is k (by omega)
      have hmr := (hms.2 k hk).1
      have ht1 := hmr.2.2.2.2.1
      have ht5 := hmr.2.2.2.2.2.1
      have hap := ms_apart hms
      rw [hml] at hap
      have HT := hid_intro (take_has w1.heap.size ml (mapD c.ms V ml) t _ _ _ _ _ _ _ _ w2 ht HO2.out ((has_mapD c.ms V t ml).2 ⟨k, by omega, hkt⟩) (fun z => by rw [← hkt, at_mapD c.ms V z ml hap k (by omega), hvk]))
      rw [hkf] at HMO
      have HCP : Hid (∀ W, Below w.heap.size w W → Calls Tryz.prog 125 #[.agg #[.string (c.ms.getD k Me.zero).n, .int .i64 (c.ms.getD k Me.zero).g, .bool (c.ms.getD k Me.zero).wh, .int .i64 (c.ms.getD k Me.zero).f, .int .i64 (c.ms.getD k Me.zero).l, .slice ta (c.ms.getD k Me.zero).ts.length tc]] W fun e w' => ResM W (c.ms.getD k Me.zero) e w') := hid_intro (fun W hW => by
        rcases hTk.2 with h0 | ⟨b, off, rfl, _⟩
        · omega
        · exact copy_me b off tc _ W ht1 ht5 (hS.ms k hk).1 (hTk.below hW))
      have HIS := hid_intro (fun w => IsR.is_nil a0 w)
      generalize c.ms.getD k Me.zero = X at *
      obtain ⟨n, g, wh, f, l, ts⟩ := X
      obtain rfl := HMO.out
      simp only at HT HCP
      clear hvk hTk hmr ht1 ht5 hap hkf HMO HBN hV hM hR hS hms HIF
      go_wp2_with fail
      refine HT.out.mono ?_
      rintro e w3 ⟨rfl, hown3, hg3⟩
      have HB3 := hid_intro (HB2.out.grown hg3 HB2.out.size (fun q e => by cases e; exact HB1.out.size))
      have g0 : w3.cell? ⟨0, 0, none⟩ = some (.iface 265 (.pointer (some a0))) := (World.cell?_of_block (a := ⟨0, 0, none⟩) (hg3.block _ hl2 (fun e => by simp at e; have := hL.1; have := HB1.out.size; omega))).trans hl3
      have gl : 0 < w3.heap.size := by have := hg3.size; omega
      have HQ3 : Hid (Pt (w.heap.size + 1) 6 w3) := hid_intro (pt_grown HQ2.out hg3 (fun e => by simp at e; have := HQ1.out.lt; omega))
      clear hown3 hg3
      go_wp2_with (go_at_call 121; refine (HIS.out _).mono ?_; rintro e w' ⟨rfl, rfl⟩)
      have HBa := hid_intro (HB3.out.alloc HB3.out.size (.cells #[.string n, .int .i64 g, .bool wh, .int .i64 f, .int .i64 l, .slice ta ts.length tc] 117))
      refine (HCP.out _ HBa.out).mono ?_
      rintro e w4 ⟨ta', tc', rfl, hT4, hO4, hb4⟩
      simp only at hT4 hO4
      have HB4 := hid_intro (HBa.out.trans (hb4.mono HBa.out.size))
      have HQ4 := hid_intro ((HQ3.out.below ((Below.refl _ _).alloc (Nat.le_refl _) (.cells #[.string n, .int .i64 g, .bool wh, .int .i64 f, .int .i64 l, .slice ta ts.length tc] 117))).below hb4)
      have HT4 := hid_intro hT4
      have HO4 : Hid (ts.length = 0 ∨ ∃ g, ta' = some ⟨g, 0, none⟩ ∧ w3.heap.size ≤ g ∧ Pt g (ts.length * 2) w4) := hid_intro (hO4.imp id (fun ⟨g, h1, h2, h3⟩ => ⟨g, h1, by simp at h2; omega, h3⟩))
      have hq3 := HQ3.out.lt
      have hw3 := HB3.out.size
      clear hT4 hO4 hb4 g0
      have q := HQ4.out.lt
      obtain ⟨y0, e0⟩ := HQ4.out.has 0 (by omega)
      obtain ⟨y1, e1⟩ := HQ4.out.has 1 (by omega)
      obtain ⟨y2, e2⟩ := HQ4.out.has 2 (by omega)
      obtain ⟨y3, e3⟩ := HQ4.out.has 3 (by omega)
      obtain ⟨y4, e4⟩ := HQ4.out.has 4 (by omega)
      obtain ⟨y5, e5⟩ := HQ4.out.has 5 (by omega)
      have z0 := HQ4.out.free 0 (by omega)
      have z1 := HQ4.out.free 1 (by omega)
      have z2 := HQ4.out.free 2 (by omega)
      have z3 := HQ4.out.free 3 (by omega)
      have z4 := HQ4.out.free 4 (by omega)
      have z5 := HQ4.out.free 5 (by omega)
      go_wp2_with fail
      refine bodyPost_ret (v := .agg #[.string n, .int .i64 g, .bool wh, .int .i64 f, .int .i64 l, .slice ta' ts.length tc']) (by simp [results, Tryz.results93, go_sem, e0, e1, e2, e3, e4, e5]) rfl ⟨ta', tc', rfl, ?_, ?_, ?_⟩
      · rcases Nat.eq_zero_or_pos ts.length with h0 | h0
        · exact ⟨rfl, .inl h0⟩
        · obtain ⟨g', e1, e2, e3⟩ := HO4.out.resolve_left (by omega)
          subst e1
          exact (((((HT4.out.far (by omega) _ _).far (by omega) _ _).far (by omega) _ _).far (by omega) _ _).far (by omega) _ _).far (by omega) _ _
      · refine HO4.out.imp id (fun ⟨g', e1, e2, e3⟩ => ⟨g', e1, by omega, ?_⟩)
        exact (((((e3.far (by omega) _ _).far (by omega) _ _).far (by omega) _ _).far (by omega) _ _).far (by omega) _ _).far (by omega) _ _
      · exact (((((HB4.out.setCell (by simp) _).setCell (by simp) _).setCell (by simp) _).setCell (by simp) _).setCell (by simp) _).setCell (by simp) _
    · have hnh : Maps.has (mapD c.ms V ml) (kS t) = false := by
        cases hh : Maps.has (mapD c.ms V ml) (kS t)
        · rfl
        · obtain ⟨q, hq, hqe⟩ := (has_mapD c.ms V t ml).1 hh
          exact absurd hqe (hno q (by omega))
      have HT := hid_intro (take_no w1.heap.size ml (mapD c.ms V ml) t w2 ht HO2.out hnh a0 hl2 hl3)
      rw [hkf] at HMO
      obtain rfl := HMO.out
      have HIS := hid_intro (fun w => IsR.is_same a0 w)
      clear hnh hno hkf HMO HBN hV hM hR hS hms HIF
      go_wp2_with fail
      refine HT.out.mono ?_
      rintro e w3 ⟨rfl, hb3⟩
      have HB3 := hid_intro (HB2.out.trans (hb3.mono HB2.out.size))
      have g0 : w3.cell? ⟨0, 0, none⟩ = some (.iface 265 (.pointer (some a0))) := (hb3.cell (p := ⟨0, 0, none⟩) hl2).trans hl3
      have gl : 0 < w3.heap.size := by have := hb3.size; omega
      have HQ3 := hid_intro (HQ2.out.below hb3)
      have HQ4 := hid_intro (HQ3.out.below ((Below.refl _ _).alloc (Nat.le_refl _) (.cells #[.string ⟨#[]⟩, .int .i64 0, .bool false, .int .i64 0, .int .i64 0, .slice none 0 0] 117)))
      have HB4 := hid_intro (HB3.out.alloc HB3.out.size (.cells #[.string ⟨#[]⟩, .int .i64 0, .bool false, .int .i64 0, .int .i64 0, .slice none 0 0] 117))
      clear hb3
      go_wp2_with fail
      refine (HIS.out _).mono ?_
      rintro e w5 ⟨rfl, hw5⟩
      have HQ5 : Hid (Pt (w.heap.size + 1) 6 w5) := hid_intro (by rw [hw5]; exact HQ4.out)
      have HB5 : Hid (Below w.heap.size w w5) := hid_intro (by rw [hw5]; exact HB4.out)
      clear hw5 HB4 HQ4 g0 gl
      have q := HQ5.out.lt
      obtain ⟨y0, e0⟩ := HQ5.out.has 0 (by omega)
      obtain ⟨y1, e1⟩ := HQ5.out.has 1 (by omega)
      obtain ⟨y2, e2⟩ := HQ5.out.has 2 (by omega)
      obtain ⟨y3, e3⟩ := HQ5.out.has 3 (by omega)
      obtain ⟨y4, e4⟩ := HQ5.out.has 4 (by omega)
      obtain ⟨y5, e5⟩ := HQ5.out.has 5 (by omega)
      have z0 := HQ5.out.free 0 (by omega)
      have z1 := HQ5.out.free 1 (by omega)
      have z2 := HQ5.out.free 2 (by omega)
      have z3 := HQ5.out.free 3 (by omega)
      have z4 := HQ5.out.free 4 (by omega)
      have z5 := HQ5.out.free 5 (by omega)
      go_wp2_with fail
      refine bodyPost_ret (v := .agg #[.string ⟨#[]⟩, .int .i64 0, .bool false, .int .i64 0, .int .i64 0, .slice none 0 0]) (by simp [results, Tryz.results93, go_sem, e0, e1, e2, e3, e4, e5]) rfl (res_zero ?_)
      exact (((((HB5.out.setCell (by simp) _).setCell (by simp) _).setCell (by simp) _).setCell (by simp) _).setCell (by simp) _).setCell (by simp) _
end CatR
end Go.Proofs.YtcilbmhkhllmjaaGreatDoor
namespace Go.Proofs.YtcilbmhkhllmjaaGreatDoor
open Go.ChangeShapes Go.WideShapes Go.ChangeAt Go.RowKit
set_option linter.unusedVariables false
namespace BilR
open LtR WinR LinR
open RowG (getD_mem)
open CatR (Me Ca Cr mFd mN MsRight CsRight MRight rO rt rt_bd caB crF cA cM name_cases)
theorem pk_in {B : Int} : ∀ (hs : List H) (p : Int), (∀ x ∈ hs, 0 ≤ x.s ∧ x.s ≤ B) → 0 ≤ p → p ≤ B → 0 ≤ hs.foldl (fun p x => grt p x.s) p ∧ hs.foldl (fun p x => grt p x.s) p ≤ B
  | [], p, _, h1, h2 => ⟨h1, h2⟩
  | x :: hs, p, h, h1, h2 => by
    have hx := h x (List.mem_cons_self ..)
    rw [List.foldl_cons]
    refine pk_in hs _ (fun y hy => h y (List.mem_cons_of_mem _ hy)) ?_ ?_ <;> (unfold grt; split <;> omega)
theorem wB_name {x : Wd} (h : wB x = true) : NameR.nameB x.m = true := by
  unfold wB namedB at h
  simp only [Bool.and_eq_true] at h
  exact h.1.2.1
theorem valV_in {x : Wd} (h : wB x = true) (g : Int) : 0 ≤ valV x g ∧ valV x g ≤ 1000000000000 := by
  unfold wB at h
  simp only [Bool.and_eq_true] at h
  obtain ⟨_, hc, ht, hh⟩ := h
  obtain ⟨_, hs, hm⟩ := counted_su hc
  unfold tagsB at ht
  simp only [Bool.and_eq_true, decide_eq_true_eq] at ht
  have ht := ht.1
  unfold timedB hoursB at hh
  simp only [Bool.and_eq_true] at hh
  have hk : 0 ≤ pk x.hs ∧ pk x.hs ≤ x.su := pk_in x.hs 0 (fun y hy => by
    have := List.all_eq_true.1 hh.2.2.1 y hy
    unfold hOk at this
    simp only [Bool.and_eq_true, decide_eq_true_eq] at this
    exact this.2) (by omega) hs.1
  unfold valV
  split
  · exact hs
  · split
    · omega
    · split
      · omega
      · split <;> omega
/-- A meter of that name there is. -/
def hasM (ms : List Me) (t : ByteArray) : Bool := ms.any (fun m => m.n.toList == t.toList)
theorem hasM_iff {ms : List Me} {t : ByteArray} : hasM ms t = true ↔ ∃ k, k < ms.length ∧ mN ms k = t := by
  unfold hasM
  rw [List.any_eq_true]
  constructor
  · rintro ⟨m, hm, h⟩
    obtain ⟨k, hk, rfl⟩ := List.getElem_of_mem hm
    refine ⟨k, hk, ?_⟩
    unfold mN
    rw [show ms.getD k CatR.Me.zero = ms[k] by simp [List.getD, hk]]
    exact toList_inj (by simpa using h)
  · rintro ⟨k, hk, h⟩
    refine ⟨ms.getD k CatR.Me.zero, getD_mem (z := CatR.Me.zero) ms k hk, ?_⟩
    unfold mN at h
    rw [h]; simp
theorem has_found {ms : List Me} {t : ByteArray} (hR : MsRight ms) (h : hasM ms t = true) : MRight (mFd t ms) ∧ (mFd t ms).n = t := by
  rcases name_cases ms hR t with ⟨k, hk, h1, h2⟩ | ⟨h1, _⟩
  · rw [h2]
    exact ⟨(hR.2 k hk).1, h1⟩
  · obtain ⟨k, hk, h2⟩ := hasM_iff.1 h
    exact absurd h2 (h1 k hk)
theorem has_none {ms : List Me} {t : ByteArray} (hR : MsRight ms) (h : hasM ms t = false) : mFd t ms = CatR.Me.zero := by
  rcases name_cases ms hR t with ⟨k, hk, h1, h2⟩ | ⟨_, h2⟩
  · rw [hasM_iff.2 ⟨k, hk, h1⟩] at h; cases h
  · exact h2
def useV (ms : List Me) (x : Wd) : Int := valV x (mFd x.m ms).g
def rC (ms : List Me) (x : Wd) : Int := (rO (mFd x.m ms) (useV ms x)).2
def rN (ms : List Me) (x : Wd) : N := ⟨(mFd x.m ms).n, (rO (mFd x.m ms) (useV ms x)).1⟩
/-- The first code of the rates. -/
def ratC (ms : List Me) : List Wd → Int
  | [] => 0
  | x :: l => if rC ms x = 0 then ratC ms l else rC ms x
theorem ratC_hit {ms : List Me} : ∀ {l : List Wd} {k : Nat}, k < l.length → (∀ i, i < k → rC ms (l.getD i Wd.zero) = 0) → rC ms (l.getD k Wd.zero) ≠ 0 → ratC ms l = rC ms (l.getD k Wd.zero)
  | [], _, h, _, _ => absurd h (by simp)
  | x :: l, 0, _, _, h => by
    have h' : rC ms x ≠ 0 := h
    unfold ratC
    rw [if_neg h']; rfl
  | x :: l, k + 1, hk, h0, h => by
    have hx : rC ms x = 0 := h0 0 (by omega)
    unfold ratC
    rw [if_pos hx]
    exact ratC_hit (k := k) (by simpa using hk) (fun i hi => h0 (i + 1) (by omega)) h
theorem ratC_none {ms : List Me} : ∀ {l : List Wd}, (∀ i, i < l.length → rC ms (l.getD i Wd.zero) = 0) → ratC ms l = 0
  | [], _ => rfl
  | x :: l, h => by
    have hx : rC ms x = 0 := h 0 (by simp)
    unfold ratC
    rw [if_pos hx]
    exact ratC_none (fun i hi => h (i + 1) (by simpa using hi))
theorem rO_cases {m : Me} {u : Int} (h : MRight m) (hu : 0 ≤ u ∧ u ≤ 1000000000000) : ((rO m u).2 = 0 ∧ 0 ≤ (rO m u).1 ∧ (rO m u).1 ≤ 1000000000000000) ∨ rO m u = (0, 12) := by
  have h1 := (rt_bd h hu).1
  unfold rO
  split
  · rename_i q
    exact .inl ⟨rfl, h1, q⟩
  · exact .inr rfl
/-- Are these all unlike? -/
def nodB : List ByteArray → Bool
  | [] => true
  | x :: l => !(l.any (fun y => y.toList == x.toList)) && nodB l
theorem nodB_iff : ∀ {l : List ByteArray}, nodB l = true ↔ l.Nodup
  | [] => by simp [nodB]
  | x :: l => by
    unfold nodB
    rw [Bool.and_eq_true, nodB_iff (l := l), List.nodup_cons]
    refine and_congr_left (fun _ => ?_)
    rw [Bool.not_eq_true', List.any_eq_false]
    constructor
    · intro h hx
      exact h x hx (by simp)
    · intro h y hy e
      exact h (by rw [← toList_inj (by simpa using e : y.toList = x.toList)]; exact hy)
def ownW (a : ByteArray) (x : Wd) : Bool := x.a.toList == a.toList
/-- What right windows of an account come to. -/
def billR (c : Ca) (a : ByteArray) (ws : List Wd) : List N × Int :=
  let own := ws.filter (ownW a)
  if own.all (fun x => hasM c.ms x.m) = false then ([], 6)
  else if nodB (own.map Wd.m) = false then ([], 10)
  else if ratC c.ms (srt Wd.m own) ≠ 0 then ([], ratC c.ms (srt Wd.m own))
  else (drawL (crF a c.cs) (((srt Wd.m own).map (rN c.ms)).filter nz), 0)
def billB (c : Ca) (a : ByteArray) (ws : List Wd) : List N × Int :=
  if 8000 < a.size ∨ 400 < ws.length then ([], 2)
  else if (caB c && NameR.nameB a && wsB ws) = true then billR c a ws else ([], 1)
theorem sub_len : ∀ {a b : List ByteArray}, a.Nodup → (∀ x ∈ a, x ∈ b) → a.length ≤ b.length
  | [], b, _, _ => Nat.zero_le _
  | x :: a, b, h, hs => by
    obtain ⟨h1, h2⟩ := List.nodup_cons.1 h
    obtain ⟨s, t, rfl⟩ := List.append_of_mem (hs x (List.mem_cons_self ..))
    have := sub_len (a := a) (b := s ++ t) h2 (fun y hy => by
      have hy' := hs y (List.mem_cons_of_mem _ hy)
      simp only [List.mem_append, List.mem_cons] at hy' ⊢
      rcases hy' with q | q | q
      · exact .inl q
      · subst q; exact absurd hy h1
      · exact .inr q)
    simp only [List.length_append, List.length_cons] at this ⊢
    omega
theorem sok_of {es : List N} (hp : es.Pairwise (fun x y => lt x.i y.i = true)) (ho : ∀ e ∈ es, lOk e = true) : SOk es es.length := by
  intro i hi
  have hm := getD_mem (z := N.zero) es i hi
  refine ⟨?_, ho _ hm⟩
  cases i with
  | zero =>
    have h1 := ho _ hm
    unfold lOk at h1
    simp only [Bool.and_eq_true] at h1
    exact lt_empty (CatR.name_le h1.1).1
  | succ i =>
    have h1 := List.pairwise_iff_getElem.1 hp i (i + 1) (by omega) hi (by omega)
    show lt (es.getD i N.zero).i (es.getD (i + 1) N.zero).i = true
    rw [show es.getD (i + 1) N.zero = es[i + 1] by simp [List.getD, hi], show es.getD i N.zero = es[i]'(by omega) by simp [List.getD, show i < es.length by omega]]
    exact h1
theorem cr_in {cs : List Cr} (h : CsRight cs) (t : ByteArray) : 0 ≤ crF t cs ∧ crF t cs ≤ 1000000000000 := by
  by_cases q : ∃ k, k < cs.length ∧ cA cs k = t ∧ ∀ i, i < k → cA cs i ≠ t
  · obtain ⟨k, hk, he, hi⟩ := q
    rw [CatR.crF_hit t cs k hk hi he]
    exact (h.2 k hk).1.2
  · have hn : ∀ n, n ≤ cs.length → ∀ i, i < n → cA cs i ≠ t := by
      intro n
      induction n with
      | zero => exact fun _ i hi => absurd hi (by omega)
      | succ n ih =>
        intro hn i hi e
        have ih' := ih (by omega)
        by_cases e2 : i = n
        · subst e2; exact q ⟨i, hn, e, ih'⟩
        · exact ih' i (by omega) e
    rw [CatR.crF_none t cs (hn cs.length (Nat.le_refl _))]
    omega
/-- The lines of windows that stand by their meters are right, once those of 0 are out. -/
theorem lines_right {ms : List Me} {S : List Wd} (hR : MsRight ms) (hS : Ris Wd.m S) (hh : ∀ x ∈ S, hasM ms x.m = true) (hw : ∀ x ∈ S, wB x = true) (h0 : ∀ x ∈ S, rC ms x = 0) : SRight ((S.map (rN ms)).filter nz) := by
  have hn : ∀ x ∈ S, (rN ms x).i = x.m := fun x hx => (has_found hR (hh x hx)).2
  have hp : ((S.map (rN ms)).filter nz).Pairwise (fun x y => lt x.i y.i = true) := by
    refine List.Pairwise.filter _ ?_
    rw [List.pairwise_map]
    exact hS.imp_of_mem (fun {x y} hx hy h => by rw [hn x hx, hn y hy]; exact h)
  refine ⟨?_, sok_of hp (fun e he => ?_)⟩
  · have h1 := List.length_filter_le nz (S.map (rN ms))
    rw [List.length_map] at h1
    have h2 := sub_len (ris_nodup hS) (b := ms.map (fun m => m.n)) (fun t ht => by
      obtain ⟨x, hx, rfl⟩ := List.mem_map.1 ht
      obtain ⟨k, hk, e⟩ := hasM_iff.1 (hh x hx)
      rw [← e]
      exact List.mem_map.2 ⟨ms.getD k CatR.Me.zero, getD_mem (z := CatR.Me.zero) ms k hk, rfl⟩)
    simp only [List.length_map] at h2
    have := hR.1
    omega
  · obtain ⟨h1, h2⟩ := List.mem_filter.1 he
    obtain ⟨x, hx, rfl⟩ := List.mem_map.1 h1
    obtain ⟨f1, f2⟩ := has_found hR (hh x hx)
    have hz : rC ms x = 0 := h0 x hx
    have hb : 0 ≤ (rN ms x).n ∧ (rN ms x).n ≤ 1000000000000000 := by
      rcases rO_cases f1 (valV_in (hw x hx) (mFd x.m ms).g) with ⟨_, q⟩ | q
      · exact q
      · unfold rC useV at hz
        rw [q] at hz; cases hz
    unfold nz at h2
    simp only [decide_eq_true_eq] at h2
    unfold lOk nOk
    rw [hn x hx, wB_name (hw x hx), decide_eq_true (by omega), decide_eq_true h2]; rfl
end BilR
end Go.Proofs.YtcilbmhkhllmjaaGreatDoor
