/-
  SeenTake on both sides: one list and one code. The conditions: at most 1048576 entries; texts of at most 1048576 bytes.
-/
import Derived.Test.YtbhabplchcigfaaEnV
namespace Go.Proofs.Ytbhabplchcigfaa
open Go.ChangeShapes Go.WideShapes Go.ChangeAt Go.RowKit
set_option linter.unusedVariables false
namespace SeenR
open RowG WordR LtR
open EvtR (ev evB evT Pt)
open CatR (Blk)
theorem two (b1 b2 : Bool) : (b1 = false) ∨ (b1 = true ∧ b2 = false) ∨ (b1 = true ∧ b2 = true) := by cases b1 <;> cases b2 <;> simp
set_option maxHeartbeats 4000000 in
theorem spec_take_all (b off cap : Nat) (es : List N) (i a m : ByteArray) (n k : Int) (t : ByteArray) (x : N) (r1 r2 : Bool) (w : World) (hlen : es.length ≤ 1048576) (hI : Ens (some ⟨b, off, none⟩) es w)
    (hbig : 400 < es.length → r1 = false)
    (h1 : ∀ W, Below w.heap.size w W → Calls Try.prog 15 #[.slice (some ⟨b, off, none⟩) es.length cap] W fun e w' => e = .returned (.bool r1) ∧ Below W.heap.size W w')
    (h2 : ∀ W, Calls Try.prog 32 #[ev i a m n k t] W fun e w' => e = .returned (.bool r2) ∧ Below W.heap.size W w')
    (h3 : r1 = true → r2 = true → ∀ W, Below w.heap.size w W → Calls Try.prog 33 #[.slice (some ⟨b, off, none⟩) es.length cap, ev i a m n k t] W fun e w' => ResO W (takeL es x) (codeOf es x) e w') :
    Calls Try.prog 9 #[.slice (some ⟨b, off, none⟩) es.length cap, ev i a m n k t] w fun e w' => ResO w (bif r1 && r2 then takeL es x else []) (if 400 < es.length then 2 else (bif r1 && r2 then codeOf es x else 1)) e w' := by
  have HB0 : Hid (BoxV w i a m n k t ((w.alloc (.cells #[.string i, .string a, .string m, .int .i64 n, .int .i64 k, .string t] 25)).alloc (.cells #[.slice none 0 0, .int .i64 0] 29))) := hid_intro (BoxV.start w i a m n k t _ _)
  by_cases hb : 400 < es.length
  · rw [if_pos hb, hbig hb, Bool.false_and, cond_false]
    have hb' : (400 : Int) < (es.length : Int) := by omega
    generalize es.length = len at *
    clear h1 h2 h3 hI hbig
    unfold ev at *
    go_enter Try.func9, Try.ntmps9
    go_wp2_with fail
    refine bodyPost_ret (v := .agg #[.slice none 0 0, .int .i64 2]) (by simp [results, Try.results9, go_sem]) rfl ⟨none, 0, rfl, made_nil _ _ _, ?_, .inl rfl⟩
    repeat' first | exact Below.refl _ _ | apply Below.setCell | apply Below.alloc
    all_goals first | omega | (simp; done) | (simp; omega)
  · rw [if_neg hb]
    have hb' : ¬ (400 : Int) < (es.length : Int) := by omega
    have H1 := hid_intro h1
    have H2 := hid_intro h2
    have H3 := hid_intro h3
    generalize takeL es x = TL at *
    generalize codeOf es x = CO at *
    generalize es.length = len at *
    clear h1 h2 h3 hI hbig
    unfold ev at *
    rcases two r1 r2 with rfl | ⟨rfl, rfl⟩ | ⟨rfl, rfl⟩
    · rw [Bool.false_and, cond_false, cond_false]
      go_enter Try.func9, Try.ntmps9
      go_wp2_with fail
      refine (H1.out _ HB0.out.1).mono ?_
      rintro e w1 ⟨rfl, hb1⟩
      have HV2 := hid_intro (HB0.out.below hb1)
      clear hb1
      have hp2 := HV2.out.2.2.2.2.2.2.2.2
      have hlt2' := hp2.lt
      obtain ⟨u0, y0⟩ := hp2.has 0 (by omega)
      obtain ⟨u1, y1⟩ := hp2.has 1 (by omega)
      have f0 := hp2.free 0 (by omega)
      have f1 := hp2.free 1 (by omega)
      go_wp2_with fail
      refine bodyPost_ret (v := .agg #[.slice none 0 0, .int .i64 1]) (by simp [results, Try.results9, go_sem, y0, y1]) rfl ⟨none, 0, rfl, made_nil _ _ _, ?_, .inl rfl⟩
      repeat' first | exact HV2.out.1 | apply Below.setCell
      all_goals (simp)
    all_goals
      go_enter Try.func9, Try.ntmps9
      go_wp2_with fail
      refine (H1.out _ HB0.out.1).mono ?_
      rintro e w1 ⟨rfl, hb1⟩
      have HV1 := hid_intro (HB0.out.below hb1)
      clear hb1
      obtain ⟨_, hl1, c0, c1, c2, c3, c4, c5, _⟩ := HV1.out
      go_wp2_with fail
      refine (H2.out _).mono ?_
      rintro e w2 ⟨rfl, hb2⟩
      have HV2 := hid_intro (HV1.out.below hb2)
      clear hb2 c0 c1 c2 c3 c4 c5
      obtain ⟨_, hl2, c0, c1, c2, c3, c4, c5, _⟩ := HV2.out
      have hp2 := HV2.out.2.2.2.2.2.2.2.2
      have hlt2' := hp2.lt
      obtain ⟨u0, y0⟩ := hp2.has 0 (by omega)
      obtain ⟨u1, y1⟩ := hp2.has 1 (by omega)
      have f0 := hp2.free 0 (by omega)
      have f1 := hp2.free 1 (by omega)
      clear hp2
    · go_wp2_with fail
      refine bodyPost_ret (v := .agg #[.slice none 0 0, .int .i64 1]) (by simp [results, Try.results9, go_sem, y0, y1]) rfl ⟨none, 0, rfl, made_nil _ _ _, ?_, .inl rfl⟩
      repeat' first | exact HV2.out.1 | apply Below.setCell
      all_goals (simp)
    · go_wp2_with fail
      refine (H3.out (by trivial) (by trivial) _ HV2.out.1).mono ?_
      rintro e w3 ⟨ao, cap', rfl, hm3, hb3, ho3⟩
      have HV3 := hid_intro (HV2.out.below hb3)
      have HM3 := hid_intro hm3
      have HR3 := hid_intro ho3
      have HO3 : Hid (∀ g, ao = some ⟨g, 0, none⟩ → TL.length ≠ 0 → g ≠ w.heap.size + 1) := hid_intro (fun g hg hn => by
        obtain ⟨g', e1, e2, _⟩ := hm3.own.resolve_left hn
        rw [e1] at hg
        simp only [Option.some.injEq, Addr.mk.injEq, and_true] at hg
        omega)
      clear hb3 hm3 ho3 y0 y1 f0 f1
      have hp3 := HV3.out.2.2.2.2.2.2.2.2
      have hlt3' := hp3.lt
      obtain ⟨u0, y0⟩ := hp3.has 0 (by omega)
      obtain ⟨u1, y1⟩ := hp3.has 1 (by omega)
      have f0 := hp3.free 0 (by omega)
      have f1 := hp3.free 1 (by omega)
      clear hp3
      go_wp2_with fail
      refine bodyPost_ret (v := .agg #[.slice ao TL.length cap', .int .i64 CO]) (by simp [results, Try.results9, go_sem, y0, y1]) rfl ⟨ao, cap', rfl, ?_, ?_, ?_⟩
      · have h0 := HM3.out.low (base' := w.heap.size) HV2.out.1.size
        rcases Nat.eq_zero_or_pos TL.length with hz | hz
        · exact ⟨.inl hz, .inl hz⟩
        · exact made_put (made_put h0 _ _ _ (fun g hg => HO3.out g hg (by omega))) _ _ _ (fun g hg => HO3.out g hg (by omega))
      · repeat' first | exact HV3.out.1 | apply Below.setCell
        all_goals (simp)
      · rcases HR3.out with hz | ho
        · exact .inl hz
        · exact .inr (own_set (own_set (own_lo ho HV2.out.1.size) _ _ _ (fun g hg => by have := (ho.lt g hg).1; have := HV2.out.2.1; omega)) _ _ _ (fun g hg => by have := (ho.lt g hg).1; have := HV2.out.2.1; omega))
/-- The list and the code that SeenTake hands back. -/
def tkL (es : List N) (i a m : ByteArray) (n k : Int) (t : ByteArray) : List N := bif sB es && evB i a m n k t then takeL es (enOf i a m n k t) else []
def tkC (es : List N) (i a m : ByteArray) (n k : Int) (t : ByteArray) : Int := if 400 < es.length then 2 else (bif sB es && evB i a m n k t then codeOf es (enOf i a m n k t) else 1)
theorem code_zero {es : List N} {x : N} (h : codeOf es x = 0) : thereB es x.i = false ∧ es.length < 40 := by
  unfold codeOf at h
  cases ht : thereB es x.i
  · rw [ht, cond_false] at h
    refine ⟨rfl, ?_⟩
    by_cases q : es.length < 40
    · exact q
    · rw [if_neg q] at h; omega
  · rw [ht, cond_true] at h
    split at h <;> omega
theorem takeL_len {es : List N} {x : N} (hs : SRight es) : (takeL es x).length ≤ 40 := by
  unfold takeL
  split
  · next h => rw [insAt_len es _ x (pos_le _ _)]; have := (code_zero h).2; omega
  · simp
theorem tkL_len {es : List N} {i a m : ByteArray} {n k : Int} {t : ByteArray} : (tkL es i a m n k t).length ≤ 40 := by
  unfold tkL
  cases h : sB es && evB i a m n k t
  · simp
  · rw [cond_true]
    exact takeL_len (sB_iff.1 (by simp at h; exact h.1))
theorem impl_take (ao : Option Addr) (cap : Nat) (es : List N) (i a m : ByteArray) (n k : Int) (t : ByteArray) (w : World) (hlen : es.length ≤ 1048576) (hS : ∀ e ∈ es, e.i.size ≤ 1048576) (hi : i.size ≤ 1048576) (ha : a.size ≤ 1048576) (hm : m.size ≤ 1048576) (ht : t.size ≤ 1048576) (hI : Ens ao es w) :
    Calls Try.prog 5 #[.slice ao es.length cap, ev i a m n k t] w fun e w' => ResT w (tkL es i a m n k t) (tkC es i a m n k t) e w' := by
  unfold tkL tkC
  have h1 := fun W (hW : Below w.heap.size w W) => impl_seen ao cap es W hlen hS (hI.below hW)
  have h2 := fun W => EvtR.impl_event i a m n k t hi ha hm ht W
  by_cases hb : 400 < es.length
  · rw [if_pos hb, sB_long (by omega), Bool.false_and, cond_false]
    exact impl_take_big ao cap es.length (.int .i64 0) i a m n k t w hb hlen
  · rw [if_neg hb]
    cases hr : sB es && evB i a m n k t
    · rw [cond_false, cond_false]
      exact impl_take_form ao cap es.length i a m n k t w _ _ hr (by omega) h1 h2
    · rw [cond_true, cond_true]
      rw [Bool.and_eq_true] at hr
      rw [hr.1] at h1
      rw [hr.2] at h2
      have hs := sB_iff.1 hr.1
      refine impl_take_right ao cap es i a m n k t n _ (sight es i) _ w hs.1 hS hI h1 h2 (fun W => entry_any i a m n k t W hr.2 hi ha hm ht) (fun W hW => impl_sight ao cap es i W hlen (hI.below hW)) (fun W => code_any es (enOf i a m n k t) W hs.1) (fun hc => ?_)
      obtain ⟨c1, c2⟩ := code_zero hc
      refine ⟨?_, by omega⟩
      unfold sight
      have c3 : (decide (pos es i < es.length) && ((es.getD (pos es i) N.zero).i.toList == i.toList)) = false := c1
      rw [c3]
      rfl
theorem spec_take (b off cap : Nat) (es : List N) (i a m : ByteArray) (n k : Int) (t : ByteArray) (w : World) (hlen : es.length ≤ 1048576) (hS : ∀ e ∈ es, e.i.size ≤ 1048576) (hi : i.size ≤ 1048576) (ha : a.size ≤ 1048576) (hm : m.size ≤ 1048576) (ht : t.size ≤ 1048576) (hcap : es.length ≤ cap) (hcm : cap ≤ maxLen) (hI : Ens (some ⟨b, off, none⟩) es w) :
    Calls Try.prog 9 #[.slice (some ⟨b, off, none⟩) es.length cap, ev i a m n k t] w fun e w' => ResO w (tkL es i a m n k t) (tkC es i a m n k t) e w' := by
  unfold tkL tkC
  refine spec_take_all b off cap es i a m n k t (enOf i a m n k t) (sB es) (evB i a m n k t) w hlen hI (fun h => sB_long (by omega)) (fun W hW => spec_seen _ cap es W hlen hS (hI.below hW)) (fun W => EvtR.spec_event i a m n k t hi ha hm ht W) (fun r1 r2 W hW => ?_)
  exact spec_take_right b off cap es i a m n k t (evT i a m n k t) (CrcR.crcV 0 (evT i a m n k t)) W (sB_iff.1 r1).1 hcap hcm (hI.below hW) (fun W => EvtR.spec_l04Bytes r2 W) (fun W => CrcR.spec_crc _ W (evT_size r2))
end SeenR
end Go.Proofs.Ytbhabplchcigfaa
