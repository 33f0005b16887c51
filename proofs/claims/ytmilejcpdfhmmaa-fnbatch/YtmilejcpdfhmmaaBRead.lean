/-
  The program's reading of a batch. The condition: the text has at most 8000 bytes.
-/
import Derived.Test.YtmilejcpdfhmmaaCnt
import Derived.Test.YtmilejcpdfhmmaaBatI
namespace Go.Proofs.Ytmilejcpdfhmmaa
open Go.ChangeShapes Go.WideShapes Go.ChangeAt Go.RowKit
set_option linter.unusedVariables false
namespace EvtR
open GetR NumsR
/-- So many events read, each right; the events and the place or fault behind them; none, if one is not right. -/
def evsR (s : ByteArray) : Option Nat → Nat → Option (List E × Option Nat)
  | o, 0 => some ([], o)
  | o, k + 1 => bif (rE s o).ok then (evsR s (pE s o) k).map (fun x => (rE s o :: x.1, x.2)) else none
/-- What stands behind some rounds. -/
def SofarR (s : ByteArray) (o0 : Option Nat) (C : Nat) (j : Nat) (acc : List E) (o : Option Nat) : Prop := acc.length = j ∧ evsR s o0 C = (evsR s o (C - j)).map (fun x => (acc ++ x.1, x.2))
theorem sofarR_zero (s : ByteArray) (o0 : Option Nat) (C : Nat) : SofarR s o0 C 0 [] o0 := by
  refine ⟨rfl, ?_⟩
  simp
theorem sofarR_more {s : ByteArray} {o0 o : Option Nat} {C j : Nat} {acc : List E} (h : SofarR s o0 C j acc o) (hj : j < C) (hk : (rE s o).ok = true) : SofarR s o0 C (j + 1) (acc ++ [rE s o]) (pE s o) := by
  refine ⟨by simp [h.1], ?_⟩
  rw [h.2, show C - j = (C - (j + 1)) + 1 by omega, evsR, hk]
  cases evsR s (pE s o) (C - (j + 1)) with
  | none => rfl
  | some x => simp
theorem sofarR_no {s : ByteArray} {o0 o : Option Nat} {C j : Nat} {acc : List E} (h : SofarR s o0 C j acc o) (hj : j < C) (hk : (rE s o).ok = false) : evsR s o0 C = none := by
  rw [h.2, show C - j = (C - (j + 1)) + 1 by omega, evsR, hk]
  rfl
theorem sofarR_end {s : ByteArray} {o0 o : Option Nat} {C : Nat} {acc : List E} (h : SofarR s o0 C C acc o) : evsR s o0 C = some (acc, o) := by
  rw [h.2, Nat.sub_self, evsR]
  simp
theorem infoE6 : (Try.prog.info? 31).map (fun i => (i.zero, i.size, i.bytes)) = some (some (.agg #[.string ⟨#[]⟩, .string ⟨#[]⟩, .string ⟨#[]⟩, .int .i64 0, .int .i64 0, .string ⟨#[]⟩]), 6, 80) := by kernel_rfl
theorem After.grown {g : Nat} {s : ByteArray} {o : Option Nat} {w w' : World} {row : Option Nat} (h : After g s o w) (hg : w.grownBy w' row) (hne : some g ≠ row) : After g s o w' := by
  have key : ∀ p f, RdB g s p f w → RdB g s p f w' := by
    intro p f hr
    obtain ⟨hl, c0, c1, c2, f0, f1, f2⟩ := hr
    have e := hg.block g hl hne
    have c := fun j => World.cell?_of_block (a := ⟨g, j, none⟩) e
    have z := fun j => World.frozen?_of_block (a := ⟨g, j, none⟩) e
    exact ⟨by have := hg.size; omega, (c 0).trans c0, (c 1).trans c1, (c 2).trans c2, (z 0).trans f0, (z 1).trans f1, (z 2).trans f2⟩
  cases o with
  | none => obtain ⟨p, c, h⟩ := h; exact ⟨p, c, key _ _ h⟩
  | some p => exact ⟨h.1, key _ _ h.2⟩
/-- The block that is handed back, still empty. -/
def Z2 (B : Nat) (w : World) : Prop := B < w.heap.size ∧ w.cell? ⟨B, 0, none⟩ = some (.slice none 0 0) ∧ w.cell? ⟨B, 1, none⟩ = some (.int .i64 0) ∧ w.frozen? ⟨B, 0, none⟩ = false ∧ w.frozen? ⟨B, 1, none⟩ = false
theorem Z2.grown {B : Nat} {w w' : World} {row : Option Nat} (h : Z2 B w) (hg : w.grownBy w' row) (hne : some B ≠ row) : Z2 B w' := by
  obtain ⟨hl, c0, c1, f0, f1⟩ := h
  have e := hg.block B hl hne
  have c := fun j => World.cell?_of_block (a := ⟨B, j, none⟩) e
  have z := fun j => World.frozen?_of_block (a := ⟨B, j, none⟩) e
  exact ⟨by have := hg.size; omega, (c 0).trans c0, (c 1).trans c1, (z 0).trans f0, (z 1).trans f1⟩
/-- The cells of events. -/
def cellsOf (l : List E) : List Value := l.flatMap E.cells
theorem cellsOf_app (l : List E) (e : E) : cellsOf (l ++ [e]) = cellsOf l ++ e.cells := by simp [cellsOf]
/-- What a text's reading comes to. -/
def batR (s : ByteArray) : Option (List E) := if 0 ≤ rN s (some 0) ∧ rN s (some 0) ≤ 20 then
    match evsR s (pN s (some 0)) (rN s (some 0)).toNat with
    | some (l, o) => if o = some s.size then some l else none
    | none => none
  else none
theorem batR_count (s : ByteArray) : batR s = match evsR s (pC s (some 0) 20) (rC s (some 0) 20) with | some (l, o) => if o = some s.size then some l else none | none => none := by
  unfold batR rC pC
  by_cases k : 0 ≤ rN s (some 0) ∧ rN s (some 0) ≤ 20
  · have k' : 0 ≤ rN s (some 0) ∧ rN s (some 0) ≤ ((20 : Nat) : Int) := k
    rw [if_pos k, if_pos k', if_pos k']
  · have k' : ¬ (0 ≤ rN s (some 0) ∧ rN s (some 0) ≤ ((20 : Nat) : Int)) := k
    rw [if_neg k, if_neg k', if_neg k', evsR]
    simp
/-- What is handed back. -/
def BOut (w : World) (r : Option (List E)) (e : Ending) (w' : World) : Prop := (match r with
  | some l => ∃ v, e = .returned (.agg #[v, .int .i64 0]) ∧ w'.ownsRow w.heap.size 31 6 v l.length (cellsOf l)
  | none => e = .returned (.agg #[.slice none 0 0, .int .i64 3])) ∧ Below w.heap.size w w'
theorem own_kept {w w' : World} {base e size n g : Nat} {v : Value} {xs : List Value} (h : w.ownsRow base e size v n xs) (hg : w.grownBy w' (some g)) (hb : g < base) : w'.ownsRow base e size v n xs := by
  refine h.kept hg ?_
  rcases hob : v.ownBlock with _ | b
  · exact .inl rfl
  · refine .inr (fun e => ?_)
    have := (h.lt b hob).1
    simp only [Option.some.injEq] at e
    omega
theorem own_mono {w : World} {base base' e size n : Nat} {v : Value} {xs : List Value} (h : w.ownsRow base e size v n xs) (hb : base' ≤ base) : w.ownsRow base' e size v n xs := by
  refine ⟨h.1, ?_⟩
  rcases h.2 with hn | ⟨g, cap, cur, rfl, h1, rest⟩
  · exact .inl hn
  · exact .inr ⟨g, cap, cur, rfl, by omega, rest⟩
set_option maxRecDepth 100000 in
set_option maxHeartbeats 8000000 in
theorem impl_bread (s : ByteArray) (w : World) (hs : s.size ≤ 8000) :
    Calls Try.prog 9 #[.string s] w fun e w' => BOut w (batR s) e w' := by
  obtain ⟨i0, hi, hz0, hz1, hz2⟩ := info_parts infoE6
  have h' : ¬ (8000 : Int) < (s.size : Int) := by omega
  obtain ⟨W, hW⟩ : ∃ W, W = (w.alloc (.cells #[.slice none 0 0, .int .i64 0] 28)).alloc (.cells #[.string s, .int .i64 0, .nilIface] 63) := ⟨_, rfl⟩
  have HW := hid_intro hW
  have HA : Hid (After (w.heap.size + 1) s (some 0) W) := hid_intro (by rw [hW]; exact ⟨by omega, by simp, by simp [go_sem], by simp [go_sem], by simp [go_sem], by simp [go_sem], by simp [go_sem], by simp [go_sem]⟩)
  have HZ : Hid (Z2 w.heap.size W) := hid_intro (by rw [hW]; exact ⟨by simp; omega, by simp [go_sem], by simp [go_sem], by simp [go_sem], by simp [go_sem]⟩)
  have HB : Hid (Below w.heap.size w W) := hid_intro (by rw [hW]; exact ((Below.refl _ _).alloc (Nat.le_refl _) _).alloc (by simp) _)
  have HSZ : Hid (W.heap.size = w.heap.size + 2) := hid_intro (by rw [hW]; simp)
  have HR : Hid (batR s = match evsR s (pC s (some 0) 20) (rC s (some 0) 20) with | some (l, o) => if o = some s.size then some l else none | none => none) := hid_intro (batR_count s)
  have H1 : Hid (∀ w1, After (w.heap.size + 1) s (some 0) w1 → Calls Try.prog 32 #[.pointer (some ⟨w.heap.size + 1, 0, none⟩), .int .i64 20] w1 fun e w' => e = .returned (.int .i64 (rC s (some 0) 20)) ∧ After (w.heap.size + 1) s (pC s (some 0) 20) w' ∧ w1.grownBy w' (some (w.heap.size + 1))) := hid_intro (fun w1 h => rcount _ s (some 0) 20 w1 hs h)
  have k2 := rC_le s (some 0) 20
  generalize rC s (some 0) 20 = C at *
  generalize pC s (some 0) 20 = o0 at *
  generalize batR s = r at *
  clear hW
  have gB : ∀ w1 w2 : World, Hid (Below w.heap.size w w1) → w1.grownBy w2 (some (w.heap.size + 1)) → Below w.heap.size w w2 := fun w1 w2 h hg => h.out.grown hg h.out.size (fun k e => by cases e; omega)
  have GB := hid_intro gB
  clear gB
  go_enter Try.func9, Try.ntmps9
  go_wp2_with fail
  rw [← HW.out]
  refine (H1.out _ HA.out).mono ?_
  rintro e w1 ⟨rfl, hA, hg⟩
  replace HA := hid_intro hA
  replace HZ := hid_intro (HZ.out.grown hg (by simp))
  replace HB := hid_intro (GB.out _ _ HB hg)
  have HL : Hid (w.heap.size + 2 ≤ w1.heap.size) := hid_intro (by have := hg.size; have := HSZ.out; omega)
  clear hA hg H1
  go_wp2_with fail
  focus
    go_loopw [4, 15] (fun v z wr => ∃ (j : Nat) (acc : List E) (o : Option Nat), j ≤ C ∧ z = .int .i64 j ∧ Hid (SofarR s o0 C j acc o) ∧ Hid (After (w.heap.size + 1) s o wr) ∧ Hid (Z2 w.heap.size wr) ∧ Hid (Below w.heap.size w wr) ∧ Hid (w.heap.size + 2 ≤ wr.heap.size) ∧ Hid (wr.ownsRow (w.heap.size + 2) 31 6 v j (cellsOf acc))) (fun v z _ => C - (intOf z).toNat)
    case atStart => exact ⟨0, [], o0, by omega, rfl, hid_intro (sofarR_zero s o0 C), HA, HZ, HB, HL, hid_intro (World.ownsRow_nil _ _ _ _)⟩
    case round =>
      obtain ⟨j, acc, o, hj, rfl, HF, HA, HZ, HB, HL, HO⟩ := hrel
      by_cases hlt : j < C
      · have hlt2 : (j : Int) < (C : Int) := by omega
        have HE := hid_intro (revent (w.heap.size + 1) s o _ hs HA.out)
        have HF1 := hid_intro (sofarR_more HF.out hlt)
        have HF0 := hid_intro (sofarR_no HF.out hlt)
        generalize rE s o = X at *
        generalize pE s o = o' at *
        have HX1 : Hid (X.ok = evB X.i X.a X.m X.n X.k X.t) := rfl
        cases hq : X.ok
        · rw [hq] at HE
          have HRN : Hid (r = none) := hid_intro (by rw [HR.out, HF0.out hq])
          unfold E.zero E.v ev at HE
          simp only [cond_false] at HE
          go_wp2_with fail
          refine HE.out.mono ?_
          rintro e w2 ⟨rfl, hA, hg⟩
          replace HZ := hid_intro (HZ.out.grown hg (by simp))
          replace HB := hid_intro (GB.out _ _ HB hg)
          obtain ⟨zl, z0, z1, y0, y1⟩ := HZ.out
          clear hA hg
          go_wp2_with fail
          refine bodyPost_ret (v := .agg #[.slice none 0 0, .int .i64 3]) (by simp [results, Try.results9, go_sem, z0, z1, zl]) rfl ⟨?_, ?_⟩
          · rw [HRN.out]
            all_goals rfl
          · repeat' first | exact HB.out | apply Below.setCell | apply Below.alloc
            all_goals first | exact Nat.le_refl _ | (simpa using HB.out.size)
        · rw [hq] at HE
          have hx := (right_ev (show evB X.i X.a X.m X.n X.k X.t = true from hq)).1
          obtain ⟨n1, n2⟩ := full_of X.i (by omega)
          replace HF1 := hid_intro (HF1.out hq)
          unfold E.v ev at HE
          simp only [cond_true] at HE
          go_wp2_with fail
          refine HE.out.mono ?_
          rintro e w2 ⟨rfl, hA, hg⟩
          have HZ2 := hid_intro (HZ.out.grown hg (by simp))
          have HB2 := hid_intro (GB.out _ _ HB hg)
          have HO2 := hid_intro (own_kept HO.out hg (by omega))
          have HL2 : Hid (w.heap.size + 2 ≤ w2.heap.size) := hid_intro (by have := hg.size; have := HL.out; omega)
          have HA2 := hid_intro hA
          clear hA hg hx
          go_wp2_with (at_builtin; refine wpList_append_own _ rfl _ _ 23 rfl (w.heap.size + 2) 31 i0 (.agg #[.string ⟨#[]⟩, .string ⟨#[]⟩, .string ⟨#[]⟩, .int .i64 0, .int .i64 0, .string ⟨#[]⟩]) 6 80 Try.underlying23 hi hz0 hz1 hz2 rfl (by decide) _ _ _ rfl ((HO2.out.alloc _).alloc _) ⟨w2.heap.size + 1, 0, none⟩ 1 1 X.cells rfl rfl ?d1 ?d2 ?d3 ?d4 ?d5 ?_)
          case d1 =>
            intro x u hx
            have hx2 : x < 6 := by
              have := (List.getElem?_eq_some_iff.1 hx).1
              simpa [E.cells] using this
            match x, hx2, hx with
            | 0, _, hx => simp [E.cells] at hx; subst hx; simp [Addr.add, go_sem]
            | 1, _, hx => simp [E.cells] at hx; subst hx; simp [Addr.add, go_sem]
            | 2, _, hx => simp [E.cells] at hx; subst hx; simp [Addr.add, go_sem]
            | 3, _, hx => simp [E.cells] at hx; subst hx; simp [Addr.add, go_sem]
            | 4, _, hx => simp [E.cells] at hx; subst hx; simp [Addr.add, go_sem]
            | 5, _, hx => simp [E.cells] at hx; subst hx; simp [Addr.add, go_sem]
          case d2 =>
            intro u hu
            simp only [E.cells, List.mem_cons, List.not_mem_nil, or_false] at hu
            rcases hu with rfl | rfl | rfl | rfl | rfl | rfl <;> rfl
          case d3 => unfold maxLen; omega
          case d4 => omega
          case d5 => have h1 := HL2.out; simp; omega
          intro v' w4 hown hgrow hne
          have HO4 : Hid (w4.ownsRow (w.heap.size + 2) 31 6 v' (j + 1) (cellsOf (acc ++ [X]))) := hid_intro (by rw [cellsOf_app]; exact hown)
          have hrow : ∀ b, u4.ownBlock = some b → w.heap.size + 2 ≤ b := fun b hb => (HO.out.lt b hb).1
          have HA4 : Hid (After (w.heap.size + 1) s o' w4) := hid_intro (((HA2.out.alloc _).alloc _).grown hgrow (fun e => by have := hrow _ e.symm; omega))
          have HZ4 : Hid (Z2 w.heap.size w4) := hid_intro (((HZ2.out.grown (World.grownBy_alloc _ _ none) (by simp)).grown (World.grownBy_alloc _ _ none) (by simp)).grown hgrow (fun e => by have := hrow _ e.symm; omega))
          have HB4 : Hid (Below w.heap.size w w4) := hid_intro (((HB2.out.alloc HB2.out.size _).alloc (HB2.out.alloc HB2.out.size _).size _).grown hgrow ((HB2.out.alloc HB2.out.size _).alloc (HB2.out.alloc HB2.out.size _).size _).size (fun b e => by have := hrow _ e; omega))
          have HL4 : Hid (w.heap.size + 2 ≤ w4.heap.size) := hid_intro (by have h1 := hgrow.size; have h2 := HL2.out; simp at h1; omega)
          clear hown hgrow hne hrow
          go_wp2_with fail
          go_roundw
          case rel => exact ⟨j + 1, acc ++ [X], o', by omega, by go_num, HF1, HA4, HZ4, HB4, HL4, HO4⟩
          case measure => simp [intOf]; omega
      · obtain rfl : j = C := by omega
        have HE := hid_intro (ended_any (w.heap.size + 1) s o _ hs HA.out)
        have HRN : Hid (r = if o = some s.size then some acc else none) := hid_intro (by rw [HR.out, sofarR_end HF.out])
        by_cases he : o = some s.size
        · rw [decide_eq_true he] at HE
          rw [if_pos he] at HRN
          go_wp2_with fail
          refine HE.out.mono ?_
          rintro e w2 ⟨rfl, hb⟩
          have HZ2 := hid_intro (HZ.out.grown (rgrown hb none) (by simp))
          have HB2 := hid_intro (HB.out.trans (hb.mono HB.out.size))
          have HO2 := hid_intro (own_below HO.out hb)
          obtain ⟨zl, z0, z1, y0, y1⟩ := HZ2.out
          clear hb
          have HO3 := hid_intro (own_mono HO2.out (show w.heap.size ≤ w.heap.size + 2 by omega))
          have hl := HF.out.1
          rcases HO.out.2 with ⟨hv, _⟩ | ⟨g', cap, cur, hv, _⟩
          all_goals (
            subst hv
            go_wp2_with fail
            refine bodyPost_ret (v := .agg #[_, .int .i64 0]) (by simp [results, Try.results9, go_sem, z0, z1]; rfl) rfl ⟨?_, (HB2.out.setCell (Nat.le_refl _) _).setCell (Nat.le_refl _) _⟩
            rw [HRN.out]
            refine ⟨_, rfl, ?_⟩
            rw [hl]
            exact own_mono (own_kept (own_kept HO2.out (rset _ w.heap.size 0 _) (by omega)) (rset _ w.heap.size 1 _) (by omega)) (by omega))
        · rw [decide_eq_false he] at HE
          rw [if_neg he] at HRN
          go_wp2_with fail
          refine HE.out.mono ?_
          rintro e w2 ⟨rfl, hb⟩
          have HZ2 := hid_intro (HZ.out.grown (rgrown hb none) (by simp))
          have HB2 := hid_intro (HB.out.trans (hb.mono HB.out.size))
          obtain ⟨zl, z0, z1, y0, y1⟩ := HZ2.out
          clear hb
          go_wp2_with fail
          refine bodyPost_ret (v := .agg #[.slice none 0 0, .int .i64 3]) (by simp [results, Try.results9, go_sem, z0, z1]) rfl ⟨?_, (HB2.out.setCell (Nat.le_refl _) _).setCell (Nat.le_refl _) _⟩
          rw [HRN.out]
          all_goals rfl
end EvtR
end Go.Proofs.Ytmilejcpdfhmmaa
