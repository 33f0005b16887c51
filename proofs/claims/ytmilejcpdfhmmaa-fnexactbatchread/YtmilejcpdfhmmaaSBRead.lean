/-
  The model's reading of a batch. The condition: the text has at most 8000 bytes.
-/
import Derived.Test.YtmilejcpdfhmmaaSEvt
namespace Go.Proofs.Ytmilejcpdfhmmaa
open Go.ChangeShapes Go.WideShapes Go.ChangeAt Go.RowKit
set_option linter.unusedVariables false
namespace EvtR
open GetR NumsR
/-- So many events read, up to the first fault; the events, and the place or the fault. -/
def evsS (s : ByteArray) : Option Nat → Nat → List E × Option Nat
  | o, 0 => ([], o)
  | none, k + 1 => ([], none)
  | some p, k + 1 => (rE s (some p) :: (evsS s (pE s (some p)) k).1, (evsS s (pE s (some p)) k).2)
def SofarS (s : ByteArray) (o0 : Option Nat) (C : Nat) (k : Nat) (acc : List E) (o : Option Nat) : Prop := evsS s o0 C = (acc ++ (evsS s o k).1, (evsS s o k).2)
theorem cells_len (l : List E) : (cellsOf l).length = l.length * 6 := by
  unfold cellsOf
  induction l with
  | nil => rfl
  | cons e l ih => simp only [List.flatMap_cons, List.length_append, ih, E.cells, List.length_cons, List.length_nil]; omega
theorem cells_at' (l : List E) : ∀ i, i < l.length → ∀ j, j < 6 → (cellsOf l)[i * 6 + j]? = (l.getD i E.zero).cells[j]? := by
  induction l with
  | nil => intro i hi; simp at hi
  | cons e l ih =>
    intro i hi j hj
    have e1 : cellsOf (e :: l) = e.cells ++ cellsOf l := rfl
    have e2 : e.cells.length = 6 := rfl
    rw [e1]
    cases i with
    | zero =>
      rw [List.getElem?_append_left (by omega)]
      simp
    | succ i =>
      rw [List.getElem?_append_right (by omega), e2, show (i + 1) * 6 + j - 6 = i * 6 + j by omega, ih i (by simpa using hi) j hj]
      simp [List.getD]
theorem own_evs {w : World} {base n : Nat} {v : Value} {l : List E} (hl : l.length = n) (h : w.ownsRow base 31 6 v n (cellsOf l)) (hne : v ≠ .slice none 0 0) :
    ∃ g cap, v = .slice (some ⟨g, 0, none⟩) n cap ∧ Evs (some ⟨g, 0, none⟩) n l w := by
  rcases h.2 with ⟨h0, _⟩ | ⟨g, cap, cur, hv, _⟩
  · exact absurd h0 hne
  · refine ⟨g, cap, hv, hl, .inr ⟨g, 0, rfl, (h.lt g (by rw [hv]; rfl)).2, fun i hi => ?_⟩⟩
    have c : ∀ j (u : Value), j < 6 → (l.getD i E.zero).cells[j]? = some u → w.cell? ⟨g, 0 + i * 6 + j, none⟩ = some u := by
      intro j u hj hu
      have := h.cells (g := g) (by rw [hv]; rfl) (i * 6 + j) u (by rw [cells_at' l i (by omega) j hj]; exact hu)
      rw [← this]
      congr 1
      unfold Addr.add
      split
      · first | (simp; done) | (simp; omega)
      · simp
    exact ⟨c 0 _ (by omega) rfl, c 1 _ (by omega) rfl, c 2 _ (by omega) rfl, c 3 _ (by omega) rfl, c 4 _ (by omega) rfl, c 5 _ (by omega) rfl⟩
theorem rE_small (s : ByteArray) (o : Option Nat) : (rE s o).Small := by
  have b := fun o => rT_size s o
  refine ⟨?_, ?_, ?_, ?_⟩
  · exact Nat.le_trans (b _) (by omega)
  · exact Nat.le_trans (b _) (by omega)
  · exact Nat.le_trans (b _) (by omega)
  · exact Nat.le_trans (b _) (by omega)
theorem many_any (g : Nat) (s : ByteArray) (w : World) (hs : s.size ≤ 8000) (h : SAfter g s (some 0) w) :
    Calls Try.prog 38 #[.pointer (some ⟨g, 0, none⟩), .int .i64 20] w fun e w' => (if 0 ≤ rN s (some 0) ∧ rN s (some 0) ≤ 20 then e = .returned (.int .i64 (rN s (some 0))) ∧ SAfter g s (pN s (some 0)) w' else e = .returned (.int .i64 0) ∧ SAfter g s none w') ∧ w.grownBy w' (some g) := by
  have H1 : Hid (∀ w, SAfter g s (some 0) w → Calls Try.prog 67 #[.pointer (some ⟨g, 0, none⟩)] w fun e w' => e = .returned (.int .i64 (rN s (some 0))) ∧ SAfter g s (pN s (some 0)) w' ∧ w.grownBy w' (some g)) := hid_intro (fun w h => srnum g s _ w hs h)
  have HI := hid_intro (fun w => is_any (rN s (some 0)) 0 20 w)
  have HA := hid_intro h
  have HP : Hid (∀ q, pN s (some 0) = some q → q ≤ 8000) := hid_intro (by
    intro q hq
    unfold pN at hq
    simp only [Option.bind_some, Option.map_eq_some_iff] at hq
    obtain ⟨⟨n, r⟩, h1, rfl⟩ := hq
    have := (numAt_back h1).2.2.1
    simp only
    omega)
  generalize rN s (some 0) = c at *
  generalize pN s (some 0) = o at *
  clear h
  by_cases hc : 0 ≤ c ∧ c ≤ 20
  · simp only [if_pos hc]
    rw [decide_eq_true hc] at HI
    go_enter Try.func38, Try.ntmps38
    go_wp2_with fail
    refine (H1.out _ HA.out).mono ?_
    rintro e w1 ⟨rfl, hA, hg⟩
    have HA1 := hid_intro hA
    have HG1 := hid_intro hg
    clear hA hg
    go_wp2_with (go_at_call 49; refine (HI.out _).mono ?_; rintro e w' ⟨rfl, rfl⟩)
    go_ret
    exact ⟨⟨rfl, HA1.out⟩, HG1.out⟩
  · simp only [if_neg hc]
    rw [decide_eq_false hc] at HI
    go_enter Try.func38, Try.ntmps38
    go_wp2_with fail
    refine (H1.out _ HA.out).mono ?_
    rintro e w1 ⟨rfl, hA, hg⟩
    have HG1 := hid_intro hg
    clear hg
    obtain ⟨p, b, hp, hR⟩ : ∃ p b, p ≤ 8000 ∧ SRB g s p b w1 := by
      cases o with
      | none => obtain ⟨p, hp, h⟩ := hA; exact ⟨p, _, hp, h⟩
      | some p => exact ⟨p, _, hA.1, hA.2⟩
    have HR := hid_intro hR
    obtain ⟨hl, c0, c1, c2, f0, f1, f2⟩ := hR
    clear hA
    go_wp2_with (go_at_call 49; refine (HI.out _).mono ?_; rintro e w' ⟨rfl, rfl⟩)
    go_ret
    exact ⟨⟨rfl, p, hp, HR.out.setBad⟩, gtrans HG1.out (rset _ g 2 _)⟩
/-- What the model's reading comes to. -/
def batS (s : ByteArray) : Option (List E) := if 0 ≤ rN s (some 0) ∧ rN s (some 0) ≤ 20 then
    (if (evsS s (pN s (some 0)) (rN s (some 0)).toNat).2 ≠ none ∧ s.size ≠ 0 ∧ batT (evsS s (pN s (some 0)) (rN s (some 0)).toNat).1 = s then some (evsS s (pN s (some 0)) (rN s (some 0)).toNat).1 else none)
  else none
theorem sofarS_more {s : ByteArray} {o0 : Option Nat} {p C k : Nat} {acc : List E} (h : SofarS s o0 C (k + 1) acc (some p)) : SofarS s o0 C k (acc ++ [rE s (some p)]) (pE s (some p)) := by
  unfold SofarS at *
  rw [h, evsS]
  simp
theorem sofarS_none {s : ByteArray} {o0 : Option Nat} {C k : Nat} {acc : List E} (h : SofarS s o0 C k acc none) : evsS s o0 C = (acc, none) := by
  unfold SofarS at h
  rw [h]
  cases k <;> simp [evsS]
theorem sofarS_end {s : ByteArray} {o0 o : Option Nat} {C : Nat} {acc : List E} (h : SofarS s o0 C 0 acc o) : evsS s o0 C = (acc, o) := by
  unfold SofarS at h
  rw [h, evsS]
  simp
/-- The model's own flag. -/
theorem SAfter.open {g : Nat} {s : ByteArray} {o : Option Nat} {w : World} (h : SAfter g s o w) : ∃ p, SRB g s p (decide (o = none)) w := by
  cases o with
  | none => obtain ⟨p, hp, h⟩ := h; exact ⟨p, by simpa using h⟩
  | some p => exact ⟨p, by simpa using h.2⟩
set_option maxRecDepth 100000 in
set_option maxHeartbeats 8000000 in
theorem spec_bread0 (s : ByteArray) (w : World) (hs : s.size ≤ 8000) (C : Nat) (o0 : Option Nat) (r : Option (List E)) (hC : C ≤ 20) (hr : r = if (evsS s o0 C).2 ≠ none ∧ s.size ≠ 0 ∧ batT (evsS s o0 C).1 = s then some (evsS s o0 C).1 else none)
    (hM : ∀ W, SAfter (w.heap.size + 1) s (some 0) W → Calls Try.prog 38 #[.pointer (some ⟨w.heap.size + 1, 0, none⟩), .int .i64 20] W fun e w' => (e = .returned (.int .i64 C) ∧ SAfter (w.heap.size + 1) s o0 w') ∧ W.grownBy w' (some (w.heap.size + 1))) :
    Calls Try.prog 13 #[.string s] w fun e w' => BOut w r e w' := by
  obtain ⟨i0, hi, hz0, hz1, hz2⟩ := info_parts infoE6
  have h' : ¬ (8000 : Int) < (s.size : Int) := by omega
  obtain ⟨W, hW⟩ : ∃ W, W = ((w.alloc (.cells #[.slice none 0 0, .int .i64 0] 28)).alloc (.cells #[.string s, .int .i64 0, .bool false] 69)).alloc (.cells #[] 31) := ⟨_, rfl⟩
  have HW := hid_intro hW
  have HA : Hid (SAfter (w.heap.size + 1) s (some 0) W) := hid_intro (by rw [hW]; exact ⟨by omega, by first | (simp; done) | (simp; omega), by simp [go_sem], by simp [go_sem], by simp [go_sem], by simp [go_sem], by simp [go_sem], by simp [go_sem]⟩)
  have HZ : Hid (Z2 w.heap.size W) := hid_intro (by rw [hW]; exact ⟨by first | (simp; done) | (simp; omega), by simp [go_sem], by simp [go_sem], by simp [go_sem], by simp [go_sem]⟩)
  have HB : Hid (Below w.heap.size w W) := hid_intro (by rw [hW]; exact (((Below.refl _ _).alloc (Nat.le_refl _) _).alloc (by simp) _).alloc (by first | (simp; done) | (simp; omega)) _)
  have HL : Hid (w.heap.size + 2 ≤ W.heap.size) := hid_intro (by rw [hW]; simp)
  have HO : Hid (W.ownsRow (w.heap.size + 2) 31 6 (.slice (some ⟨w.heap.size + 1 + 1, 0, none⟩) 0 0) 0 (cellsOf [])) := hid_intro (by
    rw [hW]
    have := World.ownsRow_made (base := w.heap.size + 2) (e := 31) (size := 6) ((w.alloc (.cells #[.slice none 0 0, .int .i64 0] 28)).alloc (.cells #[.string s, .int .i64 0, .bool false] 69)) #[] 0 (by simp) (by unfold maxLen; omega) rfl
    simpa [cellsOf] using this)
  have HR := hid_intro hr
  have HM := hid_intro hM
  have gB : ∀ w1 w2 : World, Hid (Below w.heap.size w w1) → w1.grownBy w2 (some (w.heap.size + 1)) → Below w.heap.size w w2 := fun w1 w2 h hg => h.out.grown hg h.out.size (fun k e => by cases e; omega)
  have GB := hid_intro gB
  clear gB hW hr hM
  go_enter Try.func13, Try.ntmps13
  go_wp2_with fail
  rw [← HW.out]
  refine (HM.out _ HA.out).mono ?_
  rintro e w1 ⟨⟨rfl, hA⟩, hg⟩
  replace HA := hid_intro hA
  replace HZ := hid_intro (HZ.out.grown hg (by simp))
  replace HB := hid_intro (GB.out _ _ HB hg)
  replace HO := hid_intro (own_kept HO.out hg (by omega))
  replace HL : Hid (w.heap.size + 2 ≤ w1.heap.size) := hid_intro (by have := hg.size; have := HL.out; omega)
  clear hA hg
  go_wp2_with fail
  go_loopw [4, 5] (fun v z wr => ∃ (k : Nat) (acc : List E) (o : Option Nat), k ≤ C ∧ acc.length + k ≤ 20 ∧ z = .int .i64 k ∧ Hid (SofarS s o0 C k acc o) ∧ Hid (∀ e ∈ acc, e.Small) ∧ Hid (SAfter (w.heap.size + 1) s o wr) ∧ Hid (Z2 w.heap.size wr) ∧ Hid (Below w.heap.size w wr) ∧ Hid (w.heap.size + 2 ≤ wr.heap.size) ∧ Hid (v ≠ .slice none 0 0) ∧ Hid (wr.ownsRow (w.heap.size + 2) 31 6 v acc.length (cellsOf acc))) (fun v z _ => (intOf z).toNat)
  case atStart => exact ⟨C, [], o0, by omega, by simpa using hC, rfl, hid_intro (by simp [SofarS]), hid_intro (by simp), HA, HZ, HB, HL, hid_intro (by simp), HO⟩
  case round =>
    obtain ⟨k, acc, o, hk, hk2, rfl, HF, HSm, HA, HZ, HB, HL, HV, HO⟩ := hrel
    obtain ⟨p, hp⟩ := HA.out.open
    obtain ⟨hl, c0, c1, c2, f0, f1, f2⟩ := hp
    obtain ⟨zl, z0, z1, y0, y1⟩ := HZ.out
    by_cases hk0 : 0 < k
    · have hk3 : (0 : Int) < (k : Int) := by omega
      cases o with
      | none =>
        have HRN : Hid (r = none) := hid_intro (by rw [HR.out, sofarS_none HF.out]; simp)
        simp only [decide_true] at c2
        go_wp2_with fail
        refine bodyPost_ret (v := .agg #[.slice none 0 0, .int .i64 3]) (by simp [results, Try.results13, go_sem, z0, z1]) rfl ⟨?_, (HB.out.setCell (Nat.le_refl _) _).setCell (Nat.le_refl _) _⟩
        rw [HRN.out]
        all_goals rfl
      | some q =>
        obtain ⟨k', rfl⟩ : ∃ k', k = k' + 1 := ⟨k - 1, by omega⟩
        have HE := hid_intro (sevent (w.heap.size + 1) s (some q) _ hs HA.out)
        have HF1 := hid_intro (sofarS_more HF.out)
        have HSx := hid_intro (rE_small s (some q))
        generalize rE s (some q) = X at *
        generalize pE s (some q) = o' at *
        simp only [reduceCtorEq, decide_false] at c2
        unfold E.v ev at HE
        go_wp2_with fail
        refine HE.out.mono ?_
        rintro e w2 ⟨rfl, hA, hg⟩
        have HZ2 := hid_intro (HZ.out.grown hg (by simp))
        have HB2 := hid_intro (GB.out _ _ HB hg)
        have HO2 := hid_intro (own_kept HO.out hg (by omega))
        have HL2 : Hid (w.heap.size + 2 ≤ w2.heap.size) := hid_intro (by have := hg.size; have := HL.out; omega)
        have HA2 := hid_intro hA
        obtain ⟨N, hN⟩ : ∃ N, N = acc.length := ⟨_, rfl⟩
        have HN := hid_intro hN
        rw [← hN] at HO2 hk2
        clear hA hg hN c0 c1 c2 f0 f1 f2 hl zl z0 z1 y0 y1
        go_wp2_with (at_builtin; refine wpList_append_own _ rfl _ _ 23 rfl (w.heap.size + 2) 31 i0 (.agg #[.string ⟨#[]⟩, .string ⟨#[]⟩, .string ⟨#[]⟩, .int .i64 0, .int .i64 0, .string ⟨#[]⟩]) 6 80 Try.underlying23 hi hz0 hz1 hz2 rfl (by decide) _ _ _ rfl (HO2.out.alloc _) ⟨w2.heap.size, 0, none⟩ 1 1 X.cells rfl rfl ?d1 ?d2 ?d3 ?d4 ?d5 ?_)
        case d1 =>
          intro x u hx
          have hx2 : x < 6 := by
            have := (List.getElem?_eq_some_iff.1 hx).1
            simpa [E.cells] using this
          match x, hx2, hx with
          | 0, _, hx => simp [E.cells] at hx; subst hx; simp [Addr.add, go_sem]
          | 1, _, hx => simp [E.cells] at hx; subst hx; simp [Addr.add, go_sem]
          | 2, _, hx => simp [E.cells] at hx; subst hx; simp [Addr.add, go_sem]
          | 3, _, hx => simp [E.cells] at hx; subst hx; simp [Addr.add, go_sem]
          | 4, _, hx => simp [E.cells] at hx; subst hx; simp [Addr.add, go_sem]
          | 5, _, hx => simp [E.cells] at hx; subst hx; simp [Addr.add, go_sem]
        case d2 =>
          intro u hu
          simp only [E.cells, List.mem_cons, List.not_mem_nil, or_false] at hu
          rcases hu with rfl | rfl | rfl | rfl | rfl | rfl <;> rfl
        case d3 => unfold maxLen; omega
        case d4 => omega
        case d5 => have h1 := HL2.out; simp; omega
        intro v' w4 hown hgrow hne
        have HO4 : Hid (w4.ownsRow (w.heap.size + 2) 31 6 v' (acc ++ [X]).length (cellsOf (acc ++ [X]))) := hid_intro (by rw [cellsOf_app, List.length_append, ← HN.out]; exact hown)
        have HV4 : Hid (v' ≠ .slice none 0 0) := hid_intro (fun h => by first | exact hne h | exact absurd (hne.1 h).2 (by omega))
        have hrow : ∀ b, u4.ownBlock = some b → w.heap.size + 2 ≤ b := fun b hb => (HO.out.lt b hb).1
        have HA4 : Hid (SAfter (w.heap.size + 1) s o' w4) := hid_intro ((HA2.out.grown (World.grownBy_alloc _ _ none) (by simp)).grown hgrow (fun e => by have := hrow _ e.symm; omega))
        have HZ4 : Hid (Z2 w.heap.size w4) := hid_intro ((HZ2.out.grown (World.grownBy_alloc _ _ none) (by simp)).grown hgrow (fun e => by have := hrow _ e.symm; omega))
        have HB4 : Hid (Below w.heap.size w w4) := hid_intro ((HB2.out.alloc HB2.out.size _).grown hgrow (HB2.out.alloc HB2.out.size _).size (fun b e => by have := hrow _ e; omega))
        have HL4 : Hid (w.heap.size + 2 ≤ w4.heap.size) := hid_intro (by have h1 := hgrow.size; have h2 := HL2.out; simp at h1; omega)
        have HS4 : Hid (∀ e ∈ acc ++ [X], e.Small) := hid_intro (fun e he => by
          rcases List.mem_append.1 he with h | h
          · exact HSm.out e h
          · obtain rfl : e = X := by simpa using h
            exact HSx.out)
        clear hown hgrow hne hrow
        go_wp2_with fail
        go_roundw
        case rel => exact ⟨k', acc ++ [X], o', by omega, by rw [List.length_append, ← HN.out]; simp; omega, by go_num, HF1, HS4, HA4, HZ4, HB4, HL4, HV4, HO4⟩
        case measure => simp [intOf]
    · have hk3 : ¬ (0 : Int) < (k : Int) := by omega
      obtain rfl : k = 0 := by omega
      cases o with
      | none =>
        have HRN : Hid (r = none) := hid_intro (by rw [HR.out, sofarS_none HF.out]; simp)
        simp only [decide_true] at c2
        go_wp2_with fail
        refine bodyPost_ret (v := .agg #[.slice none 0 0, .int .i64 3]) (by simp [results, Try.results13, go_sem, z0, z1]) rfl ⟨?_, (HB.out.setCell (Nat.le_refl _) _).setCell (Nat.le_refl _) _⟩
        rw [HRN.out]
        all_goals rfl
      | some q =>
        simp only [reduceCtorEq, decide_false] at c2
        have HRN : Hid (r = if s.size ≠ 0 ∧ batT acc = s then some acc else none) := hid_intro (by rw [HR.out, sofarS_end HF.out]; simp)
        obtain ⟨g', cap, hv, hE⟩ := own_evs rfl HO.out HV.out
        have HC := hid_intro (spec_batch (some ⟨g', 0, none⟩) acc.length cap acc _ (by omega) HSm.out hE)
        have HO3 := hid_intro HO.out
        subst hv
        by_cases h0 : s.size = 0
        · have he := empty_of s h0
          rw [if_neg (by omega)] at HRN
          go_wp2_with fail
          refine bodyPost_ret (v := .agg #[.slice none 0 0, .int .i64 3]) (by simp [results, Try.results13, go_sem, z0, z1]) rfl ⟨?_, (HB.out.setCell (Nat.le_refl _) _).setCell (Nat.le_refl _) _⟩
          rw [HRN.out]
          all_goals rfl
        · obtain ⟨he, he2⟩ := full_of s h0
          obtain ⟨T, hT⟩ : ∃ T, T = batT acc := ⟨_, rfl⟩
          rw [← hT] at HC HRN
          clear hT
          by_cases hTs : T = s
          · have hq : (T.toList == s.toList) = true := by rw [hTs]; simp
            rw [if_pos ⟨h0, hTs⟩] at HRN
            go_wp2_with fail
            refine HC.out.mono ?_
            rintro e w2 ⟨rfl, hb⟩
            have HZ2 := hid_intro (HZ.out.grown (rgrown hb none) (by simp))
            have HB2 := hid_intro (HB.out.trans (hb.mono HB.out.size))
            have HO2 := hid_intro (own_below HO3.out hb)
            obtain ⟨zl, z0, z1, y0, y1⟩ := HZ2.out
            clear hb
            go_wp2_with fail
            refine bodyPost_ret (v := .agg #[_, .int .i64 0]) (by simp [results, Try.results13, go_sem, z0, z1]; rfl) rfl ⟨?_, (HB2.out.setCell (Nat.le_refl _) _).setCell (Nat.le_refl _) _⟩
            rw [HRN.out]
            refine ⟨_, rfl, ?_⟩
            exact own_mono (own_kept (own_kept HO2.out (rset _ w.heap.size 0 _) (by omega)) (rset _ w.heap.size 1 _) (by omega)) (by omega)
          · have hq : (T.toList == s.toList) = false := by
              rw [ByteArray.toList_eq, ByteArray.toList_eq]
              simp only [beq_eq_false_iff_ne, ne_eq]
              exact fun h => hTs (bytes_inj h)
            rw [if_neg (fun h => hTs h.2)] at HRN
            go_wp2_with fail
            refine HC.out.mono ?_
            rintro e w2 ⟨rfl, hb⟩
            have HZ2 := hid_intro (HZ.out.grown (rgrown hb none) (by simp))
            have HB2 := hid_intro (HB.out.trans (hb.mono HB.out.size))
            obtain ⟨zl, z0, z1, y0, y1⟩ := HZ2.out
            clear hb
            go_wp2_with fail
            refine bodyPost_ret (v := .agg #[.slice none 0 0, .int .i64 3]) (by simp [results, Try.results13, go_sem, z0, z1]) rfl ⟨?_, (HB2.out.setCell (Nat.le_refl _) _).setCell (Nat.le_refl _) _⟩
            rw [HRN.out]
            all_goals rfl
theorem spec_bread (s : ByteArray) (w : World) (hs : s.size ≤ 8000) :
    Calls Try.prog 13 #[.string s] w fun e w' => BOut w (batS s) e w' := by
  by_cases hc : 0 ≤ rN s (some 0) ∧ rN s (some 0) ≤ 20
  · refine spec_bread0 s w hs (rN s (some 0)).toNat (pN s (some 0)) _ (by omega) (by unfold batS; rw [if_pos hc]) (fun W h => ?_)
    refine (many_any _ s W hs h).mono ?_
    intro e w' h2
    simp only [if_pos hc] at h2
    rw [show (((rN s (some 0)).toNat : Nat) : Int) = rN s (some 0) by omega]
    exact h2
  · refine spec_bread0 s w hs 0 none _ (by omega) (by unfold batS; rw [if_neg hc]; simp [evsS]) (fun W h => ?_)
    refine (many_any _ s W hs h).mono ?_
    intro e w' h2
    simp only [if_neg hc] at h2
    exact h2
end EvtR
end Go.Proofs.Ytmilejcpdfhmmaa
