/-
  The model's and the program's Less: both hand back the same lines. The conditions: what right lines are.
-/
import Derived.Test.YtnhpkcacjkebnaaNtU
import Derived.Test.YtnhpkcacjkebnaaNtQ
import Derived.Test.YtnhpkcacjkebnaaLiZ
namespace Go.Proofs.Ytnhpkcacjkebnaa
open Go.ChangeShapes Go.WideShapes Go.ChangeAt Go.RowKit
set_option linter.unusedVariables false
namespace NetR
open LinR RowG LtR
/-- What is left of lines, none if one runs beyond. -/
def clL (L : List N) : List N := bif ovB L then L.filter nz else []
theorem all_take {L : List N} {k : Nat} (h : k < L.length) : (L.take (k + 1)).all (fun y => nOk y.n) = ((L.take k).all (fun y => nOk y.n) && nOk (L.getD k N.zero).n) := by
  rw [take_more (z := N.zero) L k h, List.all_append]
  simp
set_option maxRecDepth 100000 in
set_option maxHeartbeats 4000000 in
theorem sclean (ao : Option Addr) (cap : Nat) (L : List N) (w : World) (hlen : L.length ≤ 1048575) (hI : Lis ao L w) :
    Calls Try.prog 35 #[.slice ao L.length cap] w fun e w' => ∃ v, e = .returned (.tuple #[v, .bool (ovB L)]) ∧ OwnN w' w.heap.size v (clL L) ∧ Below w.heap.size w w' := by
  obtain ⟨i0, hi, hz0, hz1, hz2⟩ := info_parts infoN
  have HI := hid_intro hI
  obtain ⟨len, hl⟩ : ∃ len, len = L.length := ⟨_, rfl⟩
  rw [← hl] at hlen ⊢
  have HL := hid_intro hl
  have HSN := hid_intro (fun n w => snum n w)
  have HE := hid_intro (own_empty w w.heap.size 45 2 (Nat.le_refl _))
  clear hI hl
  go_enter Try.func35, Try.ntmps35
  go_wp2_with fail
  go_loopw [4, 5] (fun v z wr => ∃ k : Nat, k ≤ len ∧ z = .int .i64 k ∧ Hid (OwnN wr w.heap.size v ((L.take k).filter nz)) ∧ Hid ((L.take k).all (fun y => nOk y.n) = true) ∧ Hid (Below w.heap.size w wr)) (fun v z _ => len - (intOf z).toNat)
  case atStart => exact ⟨0, by omega, rfl, hid_intro ⟨HE.out, fun e => by cases e⟩, hid_intro rfl, hid_intro (al _ _)⟩
  case round =>
    obtain ⟨k, hk, rfl, HO, HA, HB⟩ := hrel
    by_cases hlt : k < len
    · have hlt2 : (k : Int) < (len : Int) := by omega
      have hkl : k < L.length := by have := HL.out; omega
      obtain ⟨b, off, rfl, hbl, c0, c1⟩ := (HI.out.below HB.out).at k hkl
      have HF := hid_intro (filter_more nz L k hkl)
      have HA2 := hid_intro (all_take hkl)
      have HLF : Hid (((L.take k).filter nz).length ≤ 1048575) := hid_intro (by
        have h1 := List.length_filter_le nz (L.take k)
        have h2 := (List.take_sublist k L).length_le
        have := HL.out
        omega)
      have HMEM := hid_intro (getD_mem (z := N.zero) L k hkl)
      obtain ⟨F, hF⟩ : ∃ F, F = (L.take k).filter nz := ⟨_, rfl⟩
      rw [← hF] at HO HF HLF
      clear hF
      generalize L.getD k N.zero = X at *
      obtain ⟨xi, xn⟩ := X
      dsimp only at c0 c1 HA2
      have HC := hid_intro (fun w => snum xn w)
      have HOV : Hid (nOk xn = false → ovB L = false) := hid_intro (fun h => ov_false HMEM.out h)
      generalize nOk xn = r at *
      cases r
      · have HE2 := hid_intro (HOV.out rfl)
        have HBz := hid_intro (HB.out.alloc HB.out.size (.cells #[] 45))
        have HOz := hid_intro (own_empty wr w.heap.size 45 2 HB.out.size)
        have HPz : Hid (∀ W, W.ownsRow w.heap.size 45 2 (.slice (some ⟨wr.heap.size, 0, none⟩) 0 0) 0 [] → OwnN W w.heap.size (.slice (some ⟨wr.heap.size, 0, none⟩) 0 0) (clL L)) := hid_intro (fun W h => by
          unfold clL
          rw [HE2.out, cond_false]
          exact ⟨h, fun e => by cases e⟩)
        go_wp2_with (go_at_call 48; refine (HC.out _).mono ?_; rintro e w2 ⟨rfl, rfl⟩)
        go_ret2
        exact ⟨_, by rw [HE2.out]; rfl, HPz.out _ HOz.out, HBz.out⟩
      · have HA3 : Hid ((L.take (k + 1)).all (fun y => nOk y.n) = true) := hid_intro (by rw [HA2.out, HA.out]; rfl)
        rcases nz_cases xi xn with ⟨q1, q2, q3⟩ | ⟨q1, q2, q3⟩
        · rw [q3, cond_false, List.append_nil] at HF
          go_wp2_with (go_at_call 48; refine (HC.out _).mono ?_; rintro e w2 ⟨rfl, rfl⟩)
          go_roundw
          case rel => exact ⟨k + 1, by omega, by go_num, hid_intro (by rw [HF.out]; exact HO.out), HA3, HB⟩
          case measure => simp [intOf]; omega
        · rw [q3, cond_true] at HF
          go_wp2_with (first | (go_at_call 48; refine (HC.out _).mono ?_; rintro e w2 ⟨rfl, rfl⟩) | (at_builtin; refine wpList_append_own _ rfl _ _ 24 rfl w.heap.size 45 i0 (.agg #[.string ⟨#[]⟩, .int .i64 0]) 2 24 Try.underlying24 hi hz0 hz1 hz2 rfl (by decide) _ _ _ rfl (HO.out.1.alloc _) ⟨_, 0, none⟩ 1 1 (N.cells ⟨xi, xn⟩) rfl rfl (two_cells _ _ _ _) (two_one _) ?d3 ?d4 ?d5 ?_))
          case d3 => unfold maxLen; have := HLF.out; omega
          case d4 => have := HLF.out; omega
          case d5 => have h1 := HB.out.size; simp; omega
          intro v' w4 hown hgrow hne
          have HO4 : Hid (OwnN w4 w.heap.size v' (F ++ [(⟨xi, xn⟩ : N)])) := hid_intro (own_nonnil (by rw [cellsAll_app, List.length_append]; exact hown) (by simp))
          have HOB := hid_intro (fun c hc => (HO.out.1.lt c hc).1)
          have HB4 : Hid (Below w.heap.size w w4) := hid_intro ((HB.out.alloc HB.out.size _).grown hgrow (HB.out.alloc HB.out.size _).size (fun c e => HOB.out c e))
          clear hown hgrow hne
          go_wp2_with fail
          go_roundw
          case rel => exact ⟨k + 1, by omega, by go_num, hid_intro (by rw [HF.out]; exact HO4.out), HA3, HB4⟩
          case measure => simp [intOf]; omega
    · have hlt2 : ¬ (k : Int) < (len : Int) := by omega
      obtain rfl : k = len := by omega
      have HT : Hid (L.take k = L) := hid_intro (List.take_of_length_le (by have := HL.out; omega))
      rw [HT.out] at HO HA
      have HE2 : Hid (ovB L = true) := HA
      have HP : Hid (∀ W v, OwnN W w.heap.size v (L.filter nz) → OwnN W w.heap.size v (clL L)) := hid_intro (fun W v h => by unfold clL; rw [HE2.out, cond_true]; exact h)
      go_wp2_with fail
      go_ret2
      exact ⟨_, by rw [HE2.out]; rfl, HP.out _ _ HO.out, HB.out⟩
/-- What right lines are, by hand. -/
theorem right_rise {es : List N} (h : SRight es) : Rise es := by
  unfold Rise
  rw [List.pairwise_iff_getElem]
  have key : ∀ j, j < es.length → ∀ i, i < j → lt (es.getD i N.zero).i (es.getD j N.zero).i = true := by
    intro j
    induction j with
    | zero => intro _ i hi; omega
    | succ j ih =>
      intro hj i hi
      have h1 : lt (es.getD j N.zero).i (es.getD (j + 1) N.zero).i = true := (h.2 (j + 1) hj).1
      by_cases e : i = j
      · subst e; exact h1
      · exact lt_trans (ih (by omega) i (by omega)) h1
  intro i j hi hj hij
  have := key j hj i hij
  simpa [List.getD, hi, hj] using this
theorem right_bd {es : List N} (h : SRight es) : ∀ e ∈ es, -1000000000000000 ≤ e.n ∧ e.n ≤ 1000000000000000 := by
  intro e he
  obtain ⟨i, hi, rfl⟩ := List.getElem_of_mem he
  have h1 := (h.2 i hi).2
  unfold lOk nOk at h1
  simp only [Bool.and_eq_true, decide_eq_true_eq] at h1
  have e2 : es.getD i N.zero = es[i] := by simp [List.getD, hi]
  rw [e2] at h1
  exact h1.2.1
/-- Both answers. -/
def lessL (a b : List N) : List N := clL (all a b (-1))
def lessB (a b : List N) : List N := bif sB a && sB b then lessL a b else []
theorem less_len {a b : List N} : (lessB a b).length ≤ 12 := by
  unfold lessB
  cases ha : sB a
  · simp
  · cases hb : sB b
    · simp
    · have h1 := (sB_iff.1 ha).1
      have h2 := (sB_iff.1 hb).1
      have h3 := all_len a b (-1)
      simp only [Bool.and_self, cond_true, lessL, clL]
      cases ovB (all a b (-1))
      · simp
      · have h4 := List.length_filter_le nz (all a b (-1))
        simp only [cond_true]
        omega
theorem res_ownN {w w' : World} {l : List N} {v : Value} (h : OwnN w' w.heap.size v l) (hb : Below w.heap.size w w') : ∃ ao cap, v = .slice ao l.length cap ∧ MadeG 2 N.cells N.zero w.heap.size ao l w' ∧ Below w.heap.size w w' := by
  obtain ⟨ao, cap, e, hm⟩ := own_made (z := N.zero) N.len h.1
  exact ⟨ao, cap, e, hm, hb⟩
/-- What is handed back. -/
def ResL (w : World) (l : List N) (e : Ending) (w' : World) : Prop := ∃ ao cap, e = .returned (.slice ao l.length cap) ∧ MadeG 2 N.cells N.zero w.heap.size ao l w' ∧ Below w.heap.size w w'
theorem resL_own {w w' : World} {l : List N} {v : Value} (h : w'.ownsRow w.heap.size 45 2 v l.length (cellsAll N.cells l)) (hb : Below w.heap.size w w') : ResL w l (.returned v) w' := by
  obtain ⟨ao, cap, rfl, hm⟩ := own_made (z := N.zero) N.len h
  exact ⟨ao, cap, rfl, hm, hb⟩
theorem resL_nil {w w' : World} (hb : Below w.heap.size w w') (ao : Option Addr) (cap : Nat) : ResL w [] (.returned (.slice ao 0 cap)) w' := ⟨ao, cap, rfl, made_nil _ _ _, hb⟩
set_option maxRecDepth 100000 in
set_option maxHeartbeats 4000000 in
theorem sless0 (ab aoff cap0 : Nat) (a : List N) (bo : Option Addr) (capb : Nat) (b : List N) (w : World) (ha : SRight a) (hb : SRight b) (hA : Lis (some ⟨ab, aoff, none⟩) a w) (hI : Lis bo b w) :
    Calls Try.prog 26 #[.slice (some ⟨ab, aoff, none⟩) a.length cap0, .slice bo b.length capb] w fun e w' => ResL w (lessL a b) e w' := by
  have H1 := hid_intro (sadd ab aoff cap0 a bo capb b (-1) 1000000000000000 w (.inr rfl) (by have := hb.1; omega) (right_bd hb) (right_rise ha) (by have := ha.1; omega) (by omega) (right_bd ha) hA hI)
  have HLn : Hid ((all a b (-1)).length ≤ 12) := hid_intro (by have := all_len a b (-1); have := ha.1; have := hb.1; omega)
  have HT : Hid (lessL a b = clL (all a b (-1))) := rfl
  generalize lessL a b = T at *
  generalize all a b (-1) = L at *
  generalize a.length = al0 at *
  generalize b.length = bl0 at *
  clear hA hI ha hb
  go_enter Try.func26, Try.ntmps26
  go_wp2_with fail
  refine H1.out.mono ?_
  rintro e w1 ⟨v, rfl, hv, hb1⟩
  have HB1 := hid_intro hb1
  obtain ⟨g, cap, rfl, h1, h2, h3, h4, h5⟩ := hv.open
  have H2 := hid_intro (sclean (some ⟨g, 0, none⟩) cap L w1 (by have := HLn.out; omega) h5)
  clear hv h5 hb1
  generalize L.length = ll at *
  go_wp2_with fail
  refine H2.out.mono ?_
  rintro e w2 ⟨v2, rfl, hv2, hb2⟩
  have HB2 := hid_intro (HB1.out.trans (hb2.mono HB1.out.size))
  have HV2 := hid_intro (own_low hv2.1 HB1.out.size)
  clear hv2 hb2
  rw [← HT.out] at HV2
  generalize ovB L = rr at *
  go_wp2_with fail
  go_ret
  exact resL_own HV2.out HB2.out
end NetR
end Go.Proofs.Ytnhpkcacjkebnaa
