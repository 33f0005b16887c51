/-
  Two windows joined: both sides by one function of two windows. The conditions: the lists are short enough, and the lists that are given are laid as slices are.
-/
import Derived.Test.YtmeemmbpkjfleaaDoorJnS
import Derived.Test.YtmeemmbpkjfleaaDoorJnV
import Derived.Test.YtmeemmbpkjfleaaDoorJnU
import Derived.Test.YtmeemmbpkjfleaaDoorJnWh
import Derived.Test.YtmeemmbpkjfleaaDoorWdN
import Derived.Test.YtmeemmbpkjfleaaDoorWdSr
import Derived.Test.YtmeemmbpkjfleaaDoorWdZ
import Derived.Test.YtmeemmbpkjfleaaDoorWdG
namespace Go.Proofs.YtmeemmbpkjfleaaDoor
open Go.ChangeShapes Go.WideShapes Go.ChangeAt Go.RowKit
set_option linter.unusedVariables false
namespace WinR
open RowG (MadeG Rws)
open LtR (lt)
open DateR (Laid)
open CatR (Blk Blk.new)
section
variable {α : Type} (r : α → α → Bool) (f : α → α → α)
theorem mrg_le (a b : List α) : (mrg r f a b).length ≤ a.length + b.length := by
  fun_induction mrg r f a b <;> simp_all <;> omega
theorem mrg_all (p : α → Prop) (hf : ∀ x y, p x → p y → p (f x y)) (a b : List α) (ha : ∀ z ∈ a, p z) (hb : ∀ z ∈ b, p z) : ∀ z ∈ mrg r f a b, p z := by
  fun_induction mrg r f a b <;> simp_all
theorem rs_of (z : α) : ∀ xs : List α, RiseTo r z xs xs.length → Rs r xs
  | [], _ => trivial
  | [_], _ => trivial
  | x :: y :: l, h => ⟨by simpa using h 1 (by simp) (by omega), rs_of z (y :: l) (fun i hi h0 => by
      obtain ⟨k, rfl⟩ : ∃ k, i = k + 1 := ⟨i - 1, by omega⟩
      have := h (k + 1 + 1) (by simpa using hi) (by omega)
      simpa using this)⟩
end
theorem lt_te (x y z : ByteArray) (h1 : lt x y = false) (h2 : lt y x = false) (h3 : lt y z = true) : lt (fstT x y) z = true := by
  have := LtR.lt_total h1 h2
  subst this
  exact h3
theorem hlt_tr (x y z : H) (h1 : hlt x y = true) (h2 : hlt y z = true) : hlt x z = true := by
  unfold hlt at *
  simp only [decide_eq_true_eq] at *
  omega
theorem hlt_te (x y z : H) (h1 : hlt x y = false) (h2 : hlt y x = false) (h3 : hlt y z = true) : hlt (addH x y) z = true := by
  unfold hlt addH at *
  simp only [decide_eq_true_eq, decide_eq_false_iff_not] at *
  omega
/-- The window that joining two makes. -/
def jw (x y : Wd) : Wd := ⟨x.a, x.m, x.mo, x.ev + y.ev, x.su + y.su, max x.mx y.mx, mrg lt fstT x.ts y.ts, mrg hlt addH x.hs y.hs⟩
def sameW (x y : Wd) : Prop := x.a = y.a ∧ x.m = y.m ∧ x.mo = y.mo
structure Fit (x : Wd) : Prop where
  ev : 0 ≤ x.ev ∧ x.ev ≤ 1000
  su : 0 ≤ x.su ∧ x.su ≤ 1000000000000
  tt : x.ts.length ≤ 12
  rt : Rs LtR.lt x.ts
  l1 : 1 ≤ x.hs.length
  lh : x.hs.length ≤ 12
  rh : Rs hlt x.hs
  hs : ∀ z ∈ x.hs, 0 ≤ z.s ∧ z.s ≤ 1000000000000
theorem fit {x : Wd} (h : wB x = true) : Fit x := by
  unfold wB at h
  simp only [Bool.and_eq_true] at h
  obtain ⟨_, hc, ht, hh⟩ := h
  obtain ⟨h1, h2, _⟩ := counted_su hc
  unfold tagsB at ht
  unfold timedB hoursB at hh
  simp only [Bool.and_eq_true, decide_eq_true_eq] at ht hh
  refine ⟨by omega, h2, ht.1, rs_of _ tz _ (rise_iff.1 ht.2.1), hh.1.1, hh.1.2, rs_of _ H.zero _ (rise_iff.1 hh.2.1), fun z hz => ?_⟩
  have := List.all_eq_true.1 hh.2.2.1 z hz
  unfold hOk at this
  simp only [Bool.and_eq_true, decide_eq_true_eq] at this
  omega
theorem lt2_is {x y : Wd} (h : Rs lt y.ts) : lt2 x.ts y.ts y.ts.length = (jw x y).ts := by
  unfold lt2 jw
  rw [List.take_length]
  exact (mrg_fold lt fstT (fun a b c h1 h2 => LtR.lt_trans h1 h2) lt_te _ _ h).symm
theorem lh2_is {x y : Wd} (h : Rs hlt y.hs) : lh2 x.hs y.hs y.hs.length = (jw x y).hs := by
  unfold lh2 jw
  rw [List.take_length]
  exact (mrg_fold hlt addH hlt_tr hlt_te _ _ h).symm
/-- Both together are small. -/
structure Two (x y : Wd) : Prop where
  sx : x.Small
  sy : y.Small
  tt : x.ts.length + y.ts.length ≤ 1048576
  lh : x.hs.length + y.hs.length ≤ 1048576
theorem Two.jlt {x y : Wd} (h : Two x y) : (jw x y).ts.length ≤ 1048576 := by
  have := mrg_le lt fstT x.ts y.ts
  have := h.tt
  show (mrg lt fstT x.ts y.ts).length ≤ _
  omega
theorem Two.jlh {x y : Wd} (h : Two x y) : (jw x y).hs.length ≤ 1048576 := by
  have := mrg_le hlt addH x.hs y.hs
  have := h.lh
  show (mrg hlt addH x.hs y.hs).length ≤ _
  omega
theorem Two.jts {x y : Wd} (h : Two x y) : ∀ t ∈ (jw x y).ts, t.size ≤ 1048576 :=
  mrg_all lt fstT (fun t => t.size ≤ 1048576) (fun x y h1 _ => h1) x.ts y.ts h.sx.2.2.2.1 h.sy.2.2.2.1
/-- The program's WindowJoin. -/
theorem impl_join (x y : Wd) (ta1 : Option Addr) (tc1 : Nat) (ha1 : Option Addr) (hc1 : Nat) (ta2 : Option Addr) (tc2 : Nat) (ha2 : Option Addr) (hc2 : Nat) (w : World) (h2 : Two x y) (hL : Laid w)
    (sT1 : SlOk ta1 x.ts.length tc1) (sH1 : SlOk ha1 x.hs.length hc1) (sT2 : SlOk ta2 y.ts.length tc2) (sH2 : SlOk ha2 y.hs.length hc2) (hT1 : Tgs ta1 x.ts w) (hH1 : Hrs ha1 x.hs w) (hT2 : Tgs ta2 y.ts w) (hH2 : Hrs ha2 y.hs w) :
    Calls Tryd.prog 10 #[.agg (wcells x ta1 tc1 ha1 hc1), .agg (wcells y ta2 tc2 ha2 hc2)] w fun e w' => JPost (wB x) (wB y) (wB (jw x y)) (sameW x y) (jw x y) w.heap.size e w' ∧ Below w.heap.size w w' := by
  refine join_in x.a x.m x.mo x.ev x.su x.mx ta1 x.ts.length tc1 ha1 x.hs.length hc1 y.a y.m y.mo y.ev y.su y.mx ta2 y.ts.length tc2 ha2 y.hs.length hc2 (jw x y).ts (jw x y).hs (x.ev + y.ev) (x.su + y.su) (max x.mx y.mx) (wB x) (wB y) (wB (jw x y)) (jw x y) w hL
    (fun W hW => impl_right x.a x.m x.mo x.ev x.su x.mx x.ts x.hs ta1 tc1 ha1 hc1 W h2.sx.1 h2.sx.2.1 h2.sx.2.2.1 h2.sx.2.2.2.1 h2.sx.2.2.2.2 (hL.below hW) (hT1.below hW) (hH1.below hW))
    (fun W hW => impl_right y.a y.m y.mo y.ev y.su y.mx y.ts y.hs ta2 tc2 ha2 hc2 W h2.sy.1 h2.sy.2.1 h2.sy.2.2.1 h2.sy.2.2.2.1 h2.sy.2.2.2.2 (hL.below hW) (hT2.below hW) (hH2.below hW)) ?_
    (fun ao cc ho hcc W hW hT hH => impl_right x.a x.m x.mo _ _ _ (jw x y).ts (jw x y).hs ao cc ho hcc W h2.sx.1 h2.sx.2.1 h2.jlt h2.jts h2.jlh hW hT hH)
    (fun h ao cc ho hcc W hT hH => impl_win (jw x y) ao cc ho hcc W h2.sx.1 h2.sx.2.1 h2.jlt h2.jts h2.jlh (fit h).l1 hT hH)
  intro hx hy W hW
  have fx := fit hx
  have fy := fit hy
  exact with_in x.a x.m x.mo x.ev x.su x.mx ta1 x.ts.length tc1 ha1 x.hs.length hc1 y.a y.m y.mo y.ev y.su y.mx ta2 y.ts.length tc2 ha2 y.hs.length hc2 x.ts y.ts x.hs y.hs W rfl rfl rfl rfl
    (by have := fx.ev; omega) (by have := fy.ev; omega) (by have := fx.su; omega) (by have := fy.su; omega)
    (fun V hV => with_tags x.ts y.ts ta1 ta2 tc1 tc2 V (by have := fx.tt; have := fy.tt; omega) sT1 sT2 ((hT1.below hW).below hV) ((hT2.below hW).below hV))
    (fun V hV => with_hours x.hs y.hs ha1 ha2 hc1 hc2 V (by have := fx.lh; have := fy.lh; omega) (fun z hz => by have := fx.hs z hz; omega) (fun z hz => by have := fy.hs z hz; omega) sH1 sH2 ((hH1.below hW).below hV) ((hH2.below hW).below hV))
/-- The model's join of two windows that are right. -/
theorem spec_l07join (x y : Wd) (tb tf tc1 hb hf hc1 : Nat) (ta2 : Option Addr) (tc2 : Nat) (ha2 : Option Addr) (hc2 : Nat) (w : World) (h2 : Two x y) (hx : wB x = true) (hy : wB y = true) (hT1 : Tgs (some ⟨tb, tf, none⟩) x.ts w) (hH1 : Hrs (some ⟨hb, hf, none⟩) x.hs w) (hT2 : Tgs ta2 y.ts w) (hH2 : Hrs ha2 y.hs w) :
    Calls Tryd.prog 32 #[.agg (wcells x (some ⟨tb, tf, none⟩) tc1 (some ⟨hb, hf, none⟩) hc1), .agg (wcells y ta2 tc2 ha2 hc2)] w fun e w' => SPost w.heap.size (sameW x y) (wB (jw x y)) x.a x.m x.mo (x.ev + y.ev) (x.su + y.su) (max x.mx y.mx) (jw x y).ts (jw x y).hs e w' ∧ Below w.heap.size w w' := by
  have fx := fit hx
  have fy := fit hy
  have e1 : IntKind.i64.wrap (x.ev + y.ev) = x.ev + y.ev := IntWalk.i64_in _ ⟨by have := fx.ev; have := fy.ev; omega, by have := fx.ev; have := fy.ev; omega⟩
  have e2 : IntKind.i64.wrap (x.su + y.su) = x.su + y.su := IntWalk.i64_in _ ⟨by have := fx.su; have := fy.su; omega, by have := fx.su; have := fy.su; omega⟩
  have f1 : wrap64 (x.ev + y.ev) = x.ev + y.ev := by first | exact wrap64_in (by have := fx.ev; have := fy.ev; omega) (by have := fx.ev; have := fy.ev; omega) | (unfold wrap64; have := fx.ev; have := fy.ev; omega)
  have f2 : wrap64 (x.su + y.su) = x.su + y.su := by first | exact wrap64_in (by have := fx.su; have := fy.su; omega) (by have := fx.su; have := fy.su; omega) | (unfold wrap64; have := fx.su; have := fy.su; omega)
  have eT := lt2_is (x := x) fy.rt
  have eH := lh2_is (x := x) fy.rh
  have h := sjoin_in (x.ev + y.ev) (x.su + y.su) (max x.mx y.mx) x.a x.m x.mo x.ev x.su x.mx tb tf x.ts.length tc1 hb hf x.hs.length hc1 y.a y.m y.mo y.ev y.su y.mx ta2 y.ts.length tc2 ha2 y.hs.length hc2 x.ts y.ts x.hs y.hs w rfl rfl rfl rfl
    (by have := fx.tt; omega) (by have := fx.lh; omega) f1 e1 f2 e2 rfl hT1 hH1 hT2 hH2 (by have := fx.tt; have := fy.tt; omega) (by have := fx.lh; have := fy.lh; omega) fx.hs fy.hs fy.lh fx.l1 (wB (jw x y))
    (fun _ ta tc ha hc W hT hH => by
      rw [eT] at hT ⊢
      rw [eH] at hH ⊢
      exact spec_window_right (jw x y) ta tc ha hc W h2.sx.1 h2.sx.2.1 h2.jlt h2.jts hT hH)
  rw [eT, eH] at h
  exact h
end WinR
end Go.Proofs.YtmeemmbpkjfleaaDoor
