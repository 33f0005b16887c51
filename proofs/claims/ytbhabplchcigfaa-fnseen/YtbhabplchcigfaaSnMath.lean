/-
  Right entries: what is dropped lies ahead, what was taken once is taken no more, one of its id that is of another minute is a clash. No condition.
-/
import Derived.Test.YtbhabplchcigfaaEnW
import Derived.Test.YtbhabplchcigfaaEnD
namespace Go.Proofs.Ytbhabplchcigfaa
open Go.ChangeShapes Go.WideShapes Go.ChangeAt Go.RowKit
set_option linter.unusedVariables false
set_option linter.unusedSimpArgs false
set_option linter.unnecessarySimpa false
namespace SeenR
open RowG
open LtR
open EvtR (evB evT)
theorem getD_in {es : List N} {j : Nat} (hj : j < es.length) : es.getD j N.zero = es[j] := by simp [List.getD, hj]
/-- Right entries, said of all pairs. -/
theorem right_iff {es : List N} : SRight es ↔ es.length ≤ 40 ∧ (∀ e ∈ es, eOk e = true) ∧ es.Pairwise (fun a b => lt a.i b.i = true) := by
  constructor
  · intro h
    refine ⟨h.1, fun e he => ?_, ?_⟩
    · obtain ⟨j, hj, rfl⟩ := List.getElem_of_mem he
      have := (h.2 j hj).2
      rwa [getD_in hj] at this
    · rw [List.pairwise_iff_getElem]
      intro i j hi hj hij
      have := rise h j hj i hij
      rwa [getD_in hi, getD_in hj] at this
  · rintro ⟨h1, h2, h3⟩
    rw [List.pairwise_iff_getElem] at h3
    refine ⟨h1, fun i hi => ⟨?_, ?_⟩⟩
    · cases i with
      | zero =>
        have := h2 _ (List.getElem_mem hi)
        rw [getD_in hi]
        refine lt_empty (id_pos ?_)
        unfold eOk at this
        rw [Bool.and_eq_true] at this
        exact this.1
      | succ i =>
        have := h3 i (i + 1) (by omega) hi (by omega)
        show lt (es.getD i N.zero).i (es.getD (i + 1) N.zero).i = true
        rwa [getD_in (show i < es.length by omega), getD_in hi]
    · rw [getD_in hi]
      exact h2 _ (List.getElem_mem hi)
theorem filter_right {es : List N} (p : N → Bool) (h : SRight es) : SRight (es.filter p) := by
  rw [right_iff] at *
  obtain ⟨h1, h2, h3⟩ := h
  exact ⟨by have := List.length_filter_le p es; omega, fun e he => h2 e (List.mem_filter.1 he).1, h3.filter p⟩
theorem filter_has {es : List N} (p : N → Bool) (h : SRight es) {k : Nat} (hk : k < es.length) : hasB (es.filter p) (es.getD k N.zero).i = p (es.getD k N.zero) := by
  rw [Bool.eq_iff_iff]
  unfold hasB
  rw [List.any_eq_true]
  constructor
  · rintro ⟨e, he, q⟩
    obtain ⟨h1, h2⟩ := List.mem_filter.1 he
    obtain ⟨j, hj, rfl⟩ := List.getElem_of_mem h1
    have e1 := pos_at h hj (id := (es.getD k N.zero).i) (by rw [getD_in hj]; exact toList_inj (by simpa using q))
    have e2 := pos_at h hk (id := (es.getD k N.zero).i) rfl
    have e3 : j = k := by omega
    subst e3
    rw [getD_in hj]; exact h2
  · intro q
    refine ⟨_, List.mem_filter.2 ⟨?_, q⟩, by simp⟩
    rw [getD_in hk]
    exact List.getElem_mem hk
/-- What is dropped lies ahead. -/
theorem drop_law {es : List N} {b : Int} (hs : sB es = true) : sB (dropL es b) = true ∧ ∀ k, k < es.length → hasB (dropL es b) (es.getD k N.zero).i = decide (b ≤ (es.getD k N.zero).n) := by
  have h := sB_iff.1 hs
  unfold dropL
  rw [hs, cond_true]
  exact ⟨sB_yes (filter_right _ h), fun k hk => filter_has _ h hk⟩
theorem pos_ahead (es : List N) (id : ByteArray) : ∀ i, i < pos es id → lt (es.getD i N.zero).i id = true := by
  unfold pos
  induction es with
  | nil => intro i hi; simp at hi
  | cons e es ih =>
    intro i hi
    cases he : lt e.i id
    · simp [he] at hi
    · simp only [List.takeWhile_cons, he, if_true, List.length_cons] at hi
      cases i with
      | zero => simpa using he
      | succ i => simpa using ih i (by omega)
theorem pos_stop (es : List N) (id : ByteArray) : pos es id < es.length → lt (es.getD (pos es id) N.zero).i id = false := by
  unfold pos
  induction es with
  | nil => intro hi; simp at hi
  | cons e es ih =>
    intro hi
    cases he : lt e.i id
    · simpa [he] using he
    · simp only [List.takeWhile_cons, he, if_true, List.length_cons] at hi ⊢
      simpa using ih (by omega)
theorem ins_right {es : List N} {x : N} (h : SRight es) (hx : eOk x = true) (h0 : codeOf es x = 0) : SRight (insAt es (pos es x.i) x) := by
  obtain ⟨ht, hl⟩ := code_zero h0
  have hp := pos_le es x.i
  have hb : ∀ j, j < es.length → pos es x.i ≤ j → lt x.i (es.getD j N.zero).i = true := by
    intro j hj hq
    have hP : pos es x.i < es.length := by omega
    have s1 := pos_stop es x.i hP
    have s2 : lt x.i (es.getD (pos es x.i) N.zero).i = true := by
      cases hc : lt x.i (es.getD (pos es x.i) N.zero).i
      · have e := lt_total s1 hc
        unfold thereB at ht
        rw [e] at ht
        simp at ht
        omega
      · rfl
    rcases (show pos es x.i = j ∨ pos es x.i < j by omega) with e | e
    · rwa [← e]
    · exact lt_trans s2 (rise h j hj _ e)
  have hr := right_iff.1 h
  rw [right_iff]
  refine ⟨by rw [insAt_len es _ x hp]; omega, ?_, ?_⟩
  · intro e he
    unfold insAt at he
    rw [List.mem_append, List.mem_cons] at he
    rcases he with q | rfl | q
    · exact hr.2.1 e (List.mem_of_mem_take q)
    · exact hx
    · exact hr.2.1 e (List.mem_of_mem_drop q)
  · unfold insAt
    rw [List.pairwise_append]
    have hA : ∀ a ∈ es.take (pos es x.i), lt a.i x.i = true := by
      intro a ha
      obtain ⟨j, hj, rfl⟩ := List.getElem_of_mem ha
      rw [List.length_take] at hj
      have := pos_ahead es x.i j (by omega)
      rw [getD_in (show j < es.length by omega)] at this
      simpa using this
    have hB : ∀ a ∈ es.drop (pos es x.i), lt x.i a.i = true := by
      intro a ha
      obtain ⟨j, hj, rfl⟩ := List.getElem_of_mem ha
      rw [List.length_drop] at hj
      have := hb (pos es x.i + j) (by omega) (by omega)
      rw [getD_in (show pos es x.i + j < es.length by omega)] at this
      simpa using this
    refine ⟨hr.2.2.sublist (List.take_sublist _ _), List.pairwise_cons.2 ⟨hB, hr.2.2.sublist (List.drop_sublist _ _)⟩, ?_⟩
    intro a ha b hb'
    rw [List.mem_cons] at hb'
    rcases hb' with rfl | q
    · exact hA a ha
    · exact lt_trans (hA a ha) (hB b q)
theorem ins_get (es : List N) (x : N) (k : Nat) (hk : k ≤ es.length) : (insAt es k x).getD k N.zero = x := by
  unfold insAt
  simp [List.getD, List.getElem?_append_right, hk]
/-- What was taken is there: its own place bears it. -/
theorem ins_code {es : List N} {x y : N} (h : SRight es) (hx : eOk x = true) (h0 : codeOf es x = 0) (hy : y.i = x.i) : codeOf (insAt es (pos es x.i) x) y = if x.n = y.n ∧ x.s = y.s then 7 else 11 := by
  have hr := ins_right h hx h0
  have hp := pos_le es x.i
  have hg := ins_get es x (pos es x.i) hp
  have hlt : pos es x.i < (insAt es (pos es x.i) x).length := by rw [insAt_len es _ x hp]; omega
  have e := pos_at hr hlt (id := y.i) (by rw [hg, hy])
  have ht : thereB (insAt es (pos es x.i) x) y.i = true := by
    unfold thereB
    rw [e, hg, hy]
    simp [hlt]
  unfold codeOf
  rw [ht, cond_true, e, hg]
theorem en_ok {i a m : ByteArray} {n k : Int} {t : ByteArray} (h : evB i a m n k t = true) : eOk (enOf i a m n k t) = true := by
  unfold evB at h
  simp only [Bool.and_eq_true, decide_eq_true_eq] at h
  unfold eOk enOf
  have := CrcR.xor_bd
  simp only [Bool.and_eq_true, decide_eq_true_eq]
  exact ⟨h.1, h.2.2.2.1, CrcR.xor_bd _ _⟩
/-- What was taken once is taken no more; one of its id that is of another minute is a clash. -/
theorem take_law {es : List N} {i a m : ByteArray} {n k : Int} {t : ByteArray} (h : tkC es i a m n k t = 0) :
    evB i a m n k t = true ∧ sB (tkL es i a m n k t) = true ∧ hasB (tkL es i a m n k t) i = true ∧ tkC (tkL es i a m n k t) i a m n k t = 7 ∧ ∀ n', n' ≠ n → 0 ≤ n' → n' ≤ n → tkC (tkL es i a m n k t) i a m n' k t = 11 := by
  have h' := h
  unfold tkC at h
  split at h
  · omega
  cases hb : sB es && evB i a m n k t
  · rw [hb, cond_false] at h; omega
  rw [hb, cond_true] at h
  rw [Bool.and_eq_true] at hb
  have hr := sB_iff.1 hb.1
  have hx := en_ok hb.2
  have hL : tkL es i a m n k t = insAt es (pos es i) (enOf i a m n k t) := by
    unfold tkL takeL
    rw [hb.1, hb.2, if_pos h]
    rfl
  have hi := ins_right hr hx h
  have hi' : SRight (tkL es i a m n k t) := by rw [hL]; exact hi
  have hS := sB_yes hi'
  have hlen := hi'.1
  have hc := fun y (e : y.i = i) => ins_code hr hx h (y := y) e
  have hp := pos_le es i
  refine ⟨hb.2, hS, ?_, ?_, ?_⟩
  · rw [has_iff, hL]
    refine ⟨pos es i, by rw [insAt_len es _ _ hp]; omega, ?_⟩
    rw [ins_get es _ _ hp]; rfl
  · unfold tkC
    rw [if_neg (by omega), hS, hb.2, hL]
    exact (hc _ rfl).trans (if_pos ⟨rfl, rfl⟩)
  · intro n' hne h1 h2
    have he : evB i a m n' k t = true := by
      have q := hb.2
      unfold evB at q ⊢
      simp only [Bool.and_eq_true, decide_eq_true_eq] at q ⊢
      exact ⟨q.1, q.2.1, q.2.2.1, ⟨h1, by have := q.2.2.2.1.2; omega⟩, q.2.2.2.2⟩
    unfold tkC
    rw [if_neg (by omega), hS, he, hL]
    exact (hc _ rfl).trans (if_neg (fun q => hne q.1.symm))
end SeenR
end Go.Proofs.Ytbhabplchcigfaa
