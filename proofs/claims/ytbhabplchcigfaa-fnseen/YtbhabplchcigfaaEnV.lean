/-
  SeenTake, the model's. The conditions: at most 1048576 entries; texts of at most 1048576 bytes.
-/
import Derived.Test.YtbhabplchcigfaaEnU
import Derived.Deep.CutRange
namespace Go.Proofs.Ytbhabplchcigfaa
open Go.ChangeShapes Go.WideShapes Go.ChangeAt Go.RowKit
set_option linter.unusedVariables false
namespace SeenR
open RowG WordR LtR
open EvtR (ev evB evT Pt)
open CatR (Blk)
/-- An event in its box, and the block that is handed back. -/
def BoxV (w : World) (i a m : ByteArray) (n k : Int) (t : ByteArray) (W : World) : Prop := Below w.heap.size w W ∧ w.heap.size + 1 < W.heap.size ∧ W.cell? ⟨w.heap.size, 0, none⟩ = some (.string i) ∧ W.cell? ⟨w.heap.size, 1, none⟩ = some (.string a) ∧ W.cell? ⟨w.heap.size, 2, none⟩ = some (.string m) ∧ W.cell? ⟨w.heap.size, 3, none⟩ = some (.int .i64 n) ∧ W.cell? ⟨w.heap.size, 4, none⟩ = some (.int .i64 k) ∧ W.cell? ⟨w.heap.size, 5, none⟩ = some (.string t) ∧ Pt (w.heap.size + 1) 2 W
theorem BoxV.below {w : World} {i a m : ByteArray} {n k : Int} {t : ByteArray} {W W' : World} (h : BoxV w i a m n k t W) (hb : Below W.heap.size W W') : BoxV w i a m n k t W' := by
  obtain ⟨h0, l, p0, p1, p2, p3, p4, p5, r⟩ := h
  have f := fun o => hb.cell (p := ⟨w.heap.size, o, none⟩) (by show w.heap.size < W.heap.size; omega)
  exact ⟨h0.trans (hb.mono h0.size), by have := hb.size; omega, (f 0).trans p0, (f 1).trans p1, (f 2).trans p2, (f 3).trans p3, (f 4).trans p4, (f 5).trans p5, r.below hb⟩
theorem BoxV.start (w : World) (i a m : ByteArray) (n k : Int) (t : ByteArray) (T T' : TypeId) : BoxV w i a m n k t ((w.alloc (.cells #[.string i, .string a, .string m, .int .i64 n, .int .i64 k, .string t] T)).alloc (.cells #[.slice none 0 0, .int .i64 0] T')) := by
  refine ⟨((Below.refl _ _).alloc (Nat.le_refl _) _).alloc (by simp) _, by simp, by simp [go_sem], by simp [go_sem], by simp [go_sem], by simp [go_sem], by simp [go_sem], by simp [go_sem], ?_⟩
  have := out_pt (w.alloc (.cells #[.string i, .string a, .string m, .int .i64 n, .int .i64 k, .string t] T)) T'
  simpa using this
theorem BoxV.drew {w : World} {i a m : ByteArray} {n k : Int} {t : ByteArray} {W : World} (h : BoxV w i a m n k t W) : BoxV w i a m n k t W.drew := h.below (Below.refl _ _).drew
theorem BoxV.far {w : World} {i a m : ByteArray} {n k : Int} {t : ByteArray} {W : World} (h : BoxV w i a m n k t W) (g o : Nat) (u : Value) (hg : w.heap.size + 1 < g) : BoxV w i a m n k t (W.setCell ⟨g, o, none⟩ u) := by
  obtain ⟨h0, l, p0, p1, p2, p3, p4, p5, r⟩ := h
  have e := (grown_set W g o u).block w.heap.size (by omega) (fun e => by simp at e; omega)
  have e2 := (grown_set W g o u).block (w.heap.size + 1) (by omega) (fun e => by simp at e; omega)
  have f := fun o => World.cell?_of_block (a := ⟨w.heap.size, o, none⟩) e
  exact ⟨h0.setCell (by show w.heap.size ≤ g; omega) _, by simpa using l, (f 0).trans p0, (f 1).trans p1, (f 2).trans p2, (f 3).trans p3, (f 4).trans p4, (f 5).trans p5, pt_block r (by simp) e2⟩
theorem BoxV.grown {w : World} {i a m : ByteArray} {n k : Int} {t : ByteArray} {W W' : World} {row : Option Nat} (h : BoxV w i a m n k t W) (n5 : Nat) (hg : W.grownBy W' row) (hr : ∀ b, row = some b → n5 ≤ b) (h5 : w.heap.size + 1 < n5) : BoxV w i a m n k t W' := by
  obtain ⟨h0, l, p0, p1, p2, p3, p4, p5, r⟩ := h
  have e := hg.block w.heap.size (by omega) (fun e => by have := hr _ e.symm; omega)
  have e2 := hg.block (w.heap.size + 1) (by omega) (fun e => by have := hr _ e.symm; omega)
  have f := fun o => World.cell?_of_block (a := ⟨w.heap.size, o, none⟩) e
  exact ⟨h0.grown hg h0.size (fun k hk => by have := hr k hk; omega), by have := hg.size; omega, (f 0).trans p0, (f 1).trans p1, (f 2).trans p2, (f 3).trans p3, (f 4).trans p4, (f 5).trans p5, pt_block r hg.size e2⟩
theorem blk_grown {B : Nat} {cs : List Value} {W W' : World} {row : Option Nat} (h : Blk B cs W) (hg : W.grownBy W' row) (hne : some B ≠ row) : Blk B cs W' :=
  ⟨by have := hg.size; have := h.1; omega, fun j hj => (World.cell?_of_block (a := ⟨B, j, none⟩) (hg.block B h.1 hne)).trans (h.2 j hj)⟩
theorem ens_cells {b off : Nat} {es : List N} {w : World} (h : Ens (some ⟨b, off, none⟩) es w) : ∀ j u, (cellsAll N.cells es)[j]? = some u → w.cell? ⟨b, off + j, none⟩ = some u := by
  intro j u hj
  have hlt := (List.getElem?_eq_some_iff.1 hj).1
  rw [cellsAll_len N.len] at hlt
  have e : j = (j / 3) * 3 + j % 3 := by omega
  have hi : j / 3 < es.length := by omega
  rw [e, cellsAll_get (z := N.zero) N.len es (j / 3) (j % 3) hi (by omega)] at hj
  rcases h with h0 | ⟨b', off', he, _, hc⟩
  · omega
  · simp only [Option.some.injEq, Addr.mk.injEq, and_true] at he
    obtain ⟨rfl, rfl⟩ := he
    have := hc (j / 3) hi (j % 3) (by omega)
    rw [show off + j = off + (j / 3) * 3 + j % 3 by omega, this, hj]
theorem take_cells {b off : Nat} {es : List N} {w : World} (h : Ens (some ⟨b, off, none⟩) es w) (k : Nat) : ∀ j u, (cellsAll N.cells (es.take k))[j]? = some u → w.cell? ((⟨b, off, none⟩ : Addr).add j) = some u := by
  intro j u hj
  rw [cells_take, List.getElem?_take] at hj
  rw [Addr.add_lit]
  split at hj
  · exact ens_cells h j u hj
  · cases hj
theorem drop_cells {b off : Nat} {es : List N} {w : World} (h : Ens (some ⟨b, off, none⟩) es w) (k : Nat) : ∀ j u, (cellsAll N.cells (es.drop k))[j]? = some u → w.cell? ((⟨b, off + k * 3, none⟩ : Addr).add j) = some u := by
  intro j u hj
  rw [cells_drop, List.getElem?_drop] at hj
  rw [Addr.add_lit, Nat.add_assoc]
  exact ens_cells h _ u hj
theorem blk_put3 (W : World) (g : Nat) (u0 u1 u2 : Value) (hl : g < W.heap.size) (h0 : (W.cell? ⟨g, 0, none⟩).isSome = true) (h1 : (W.cell? ⟨g, 1, none⟩).isSome = true) (h2 : (W.cell? ⟨g, 2, none⟩).isSome = true) :
    Blk g [u0, u1, u2] (((W.setCell ⟨g, 0, none⟩ u0).setCell ⟨g, 1, none⟩ u1).setCell ⟨g, 2, none⟩ u2) := by
  obtain ⟨v0, e0⟩ := Option.isSome_iff_exists.1 h0
  obtain ⟨v1, e1⟩ := Option.isSome_iff_exists.1 h1
  obtain ⟨v2, e2⟩ := Option.isSome_iff_exists.1 h2
  refine ⟨by simpa using hl, fun j hj => ?_⟩
  match j, hj with
  | 0, _ => simp [go_sem, e0]
  | 1, _ => simp [go_sem, e1]
  | 2, _ => simp [go_sem, e2]
/-- What the model hands back: a list that it may still grow. -/
def ResO (w : World) (l : List N) (c : Int) (e : Ending) (w' : World) : Prop := ∃ ao cap, e = .returned (.agg #[.slice ao l.length cap, .int .i64 c]) ∧ MadeG 3 N.cells N.zero w.heap.size ao l w' ∧ Below w.heap.size w w' ∧ (l.length = 0 ∨ w'.ownsRow w.heap.size 40 3 (.slice ao l.length cap) l.length (cellsAll N.cells l))
theorem ResO.t {w : World} {l : List N} {c : Int} {e : Ending} {w' : World} (h : ResO w l c e w') : ResT w l c e w' := by
  obtain ⟨ao, cap, h1, h2, h3, _⟩ := h
  exact ⟨ao, cap, h1, h2, h3⟩
theorem own_lo {w : World} {base base' e size n : Nat} {v : Value} {xs : List Value} (h : w.ownsRow base e size v n xs) (hb : base' ≤ base) : w.ownsRow base' e size v n xs := by
  refine ⟨h.1, ?_⟩
  rcases h.2 with hn | ⟨g, cap, cur, rfl, h1, rest⟩
  · exact .inl hn
  · exact .inr ⟨g, cap, cur, rfl, by omega, rest⟩
set_option maxRecDepth 100000 in
set_option maxHeartbeats 4000000 in
theorem spec_take_right (b off cap : Nat) (es : List N) (i a m : ByteArray) (n k : Int) (t T : ByteArray) (C : Int) (w : World) (hl : es.length ≤ 40) (hcap : es.length ≤ cap) (hcm : cap ≤ maxLen) (hI : Ens (some ⟨b, off, none⟩) es w)
    (h1 : ∀ W, Calls Try.prog 55 #[ev i a m n k t] W fun e w' => e = .returned (.string T) ∧ Below W.heap.size W w')
    (h2 : ∀ W, Calls Try.prog 54 #[.string T] W fun e w' => e = .returned (.int .i64 C) ∧ w' = W) :
    Calls Try.prog 33 #[.slice (some ⟨b, off, none⟩) es.length cap, ev i a m n k t] w fun e w' => ResO w (takeL es ⟨i, n, C⟩) (codeOf es ⟨i, n, C⟩) e w' := by
  obtain ⟨i0, hi, hz0, hz1, hz2⟩ := info_parts infoN
  have H1 := hid_intro h1
  have H2 := hid_intro h2
  have HI := hid_intro hI
  have HT0 := hid_intro (BoxV.drew (BoxV.start w i a m n k t 25 29))
  have HTK : Hid (takeL es ⟨i, n, C⟩ = if codeOf es ⟨i, n, C⟩ = 0 then insAt es (pos es i) ⟨i, n, C⟩ else []) := rfl
  have HCO : Hid (codeOf es ⟨i, n, C⟩ = bif thereB es i then (if (es.getD (pos es i) N.zero).n = n ∧ (es.getD (pos es i) N.zero).s = C then 7 else 11) else (if es.length < 40 then 0 else 9)) := rfl
  generalize takeL es ⟨i, n, C⟩ = TL at *
  generalize codeOf es ⟨i, n, C⟩ = CO at *
  obtain ⟨len, hlen⟩ : ∃ len, len = es.length := ⟨_, rfl⟩
  rw [← hlen] at hl hcap ⊢
  have HL := hid_intro hlen
  clear h1 h2 hI hlen
  unfold ev at *
  go_enter Try.func33, Try.ntmps33
  go_wp2_with fail
  go_cut [5] from 8 to 15 (fun v wx => ∃ XB, v = .pointer (some ⟨XB, 0, none⟩) ∧ Hid (BoxV w i a m n k t wx) ∧ Hid (Blk XB [.string i, .int .i64 n, .int .i64 C] wx) ∧ w.heap.size + 1 < XB)
  case first =>
    go_region_held3 (fun W => Below w.heap.size w W ∧ w.heap.size + 1 < W.heap.size ∧ W.cell? ⟨w.heap.size, 0, none⟩ = some (.string i) ∧ W.cell? ⟨w.heap.size, 1, none⟩ = some (.string a) ∧ W.cell? ⟨w.heap.size, 2, none⟩ = some (.string m) ∧ W.cell? ⟨w.heap.size, 3, none⟩ = some (.int .i64 n) ∧ W.cell? ⟨w.heap.size, 4, none⟩ = some (.int .i64 k) ∧ W.cell? ⟨w.heap.size, 5, none⟩ = some (.string t) ∧ Pt (w.heap.size + 1) 2 W) (first | assumption | (exact HT0.out) | (exact BoxV.below (w := w) (i := i) (a := a) (m := m) (n := n) (k := k) (t := t) (by assumption) hb) | (exact BoxV.below (w := w) (i := i) (a := a) (m := m) (n := n) (k := k) (t := t) (by assumption) (al _ _)) | (exact BoxV.below (w := w) (i := i) (a := a) (m := m) (n := n) (k := k) (t := t) HV.out (al _ _)) | (exact BoxV.below (w := w) (i := i) (a := a) (m := m) (n := n) (k := k) (t := t) HT0.out (al _ _)) | (exact BoxV.far (w := w) (i := i) (a := a) (m := m) (n := n) (k := k) (t := t) (BoxV.far (w := w) (i := i) (a := a) (m := m) (n := n) (k := k) (t := t) (BoxV.far (w := w) (i := i) (a := a) (m := m) (n := n) (k := k) (t := t) (by assumption) _ _ _ (by first | omega | simp)) _ _ _ (by first | omega | simp)) _ _ _ (by first | omega | simp)))
      (first | (go_at_call 55; refine (H1.out _).mono ?_; rintro e w' ⟨rfl, hb⟩; obtain ⟨hcc, hff⟩ := bcell hb; have hzz := hb.size; have HV : Hid (BoxV w i a m n k t w') := hid_intro (BoxV.below (w := w) (i := i) (a := a) (m := m) (n := n) (k := k) (t := t) (by first | assumption | exact HT0.out) hb)) | (go_at_call 54; refine (H2.out _).mono ?_; rintro e w' ⟨rfl, rfl⟩; have hb := Below.refl w'.heap.size w'))
    all_goals (
      rename_i hS
      have hlt := HV.out.2.1
      have hsb := hb.size
      go_wp2_with fail
      go_meet
      case rel =>
        refine ⟨_, rfl, hid_intro hS, hid_intro ?_, ?_⟩
        · first
            | exact Blk.new _ [.string i, .int .i64 n, .int .i64 C] _
            | exact blk_put3 _ _ _ _ _ (by simp at hzz ⊢; omega) (by rw [hcc _ _ (by simp)]; simp [go_sem]) (by rw [hcc _ _ (by simp)]; simp [go_sem]) (by rw [hcc _ _ (by simp)]; simp [go_sem])
        · first | omega | (simp; omega) | simp)
  case rest =>
    obtain ⟨XB, rfl, HV, HX, hXB⟩ := hcut
    have HPE := hid_intro (fun q => pos_eq (es := es) (id := i) (k := q))
    clear HT0 H1 H2
    go_wp2_with fail
    go_loopw [6] (fun z wr => ∃ q : Nat, q ≤ len ∧ z = .int .i64 q ∧ Hid (Ahead es i q) ∧ Hid (BoxV w i a m n k t wr) ∧ Hid (Blk XB [.string i, .int .i64 n, .int .i64 C] wr)) (fun z _ => len - (intOf z).toNat)
    case atStart => exact ⟨0, by omega, rfl, hid_intro (Ahead.zero es i), HV, HX⟩
    case round =>
      obtain ⟨q, hq, rfl, HK, HV, HX⟩ := hrel
      have c0 := HV.out.2.2.1
      have hwl := HV.out.2.1
      by_cases hlt : q < len
      · have hlt2 : (q : Int) < (len : Int) := by omega
        obtain ⟨b', off', he, hbl, d0, d1, d2⟩ := (HI.out.below HV.out.1).at q (by have := HL.out; omega)
        obtain ⟨rfl, rfl⟩ : b = b' ∧ off = off' := by simpa using he
        clear he
        cases hqq : lt (es.getD q N.zero).i i
        · have HP : Hid (pos es i = q) := hid_intro (HPE.out q HK.out (by have := HL.out; omega) (fun _ => hqq))
          unfold lt at hqq
          have HY1 : Hid (thereB es i = ((es.getD q N.zero).i.toList == i.toList)) := hid_intro (by unfold thereB; rw [HP.out, decide_eq_true (by have := HL.out; omega), Bool.true_and])
          rw [HP.out] at HCO
          generalize es.getD q N.zero = Y at *
          obtain ⟨yi, yn, ys⟩ := Y
          dsimp only at hqq d0 d1 d2 HY1 HCO
          by_cases he : yi.toList = i.toList
          · obtain rfl := toList_inj he
            have HTH : Hid (thereB es yi = true) := hid_intro (by rw [HY1.out]; simp)
            rw [HTH.out, cond_true] at HCO
            go_wp2_with fail
            go_quiet (fail)
            go_wp2_with fail
            obtain ⟨W1, hW2⟩ : ∃ Wn, Wn = wr.drewN nq := ⟨_, rfl⟩
            rw [← hW2]
            have HV1 : Hid (BoxV w yi a m n k t W1) := hid_intro (by rw [hW2]; exact HV.out.below (bdrewN (Below.refl _ _) _))
            have HX1 : Hid (Blk XB [.string yi, .int .i64 n, .int .i64 C] W1) := hid_intro (by rw [hW2]; exact HX.out.below (bdrewN (Below.refl _ _) _))
            have g0 : W1.cell? ⟨b, off + q * 3, none⟩ = some (.string yi) := by rw [hW2]; exact d0
            have g1 : W1.cell? ⟨b, off + q * 3 + 1, none⟩ = some (.int .i64 yn) := by rw [hW2]; exact d1
            have g2 : W1.cell? ⟨b, off + q * 3 + 2, none⟩ = some (.int .i64 ys) := by rw [hW2]; exact d2
            have gl : b < W1.heap.size := by rw [hW2]; exact hbl
            clear hW2
            have e1 : W1.cell? ⟨w.heap.size, 0, none⟩ = some (.string yi) := HV1.out.2.2.1
            have hw1 := HV1.out.2.1
            clear d0 d1 d2 hwl HV HX
            go_quiet (fail)
            obtain ⟨W2, hW2⟩ : ∃ Wn, Wn = W1.drewN nq := ⟨_, rfl⟩
            rw [← hW2]
            have HV2 : Hid (BoxV w yi a m n k t W2) := hid_intro (by rw [hW2]; exact HV1.out.below (bdrewN (Below.refl _ _) _))
            have HX2 : Hid (Blk XB [.string yi, .int .i64 n, .int .i64 C] W2) := hid_intro (by rw [hW2]; exact HX1.out.below (bdrewN (Below.refl _ _) _))
            have h0 : W2.cell? ⟨b, off + q * 3, none⟩ = some (.string yi) := by rw [hW2]; exact g0
            have h1 : W2.cell? ⟨b, off + q * 3 + 1, none⟩ = some (.int .i64 yn) := by rw [hW2]; exact g1
            have h2 : W2.cell? ⟨b, off + q * 3 + 2, none⟩ = some (.int .i64 ys) := by rw [hW2]; exact g2
            have hl : b < W2.heap.size := by rw [hW2]; exact gl
            clear hW2
            have e2 : W2.cell? ⟨w.heap.size, 0, none⟩ = some (.string yi) := HV2.out.2.2.1
            have hw2 := HV2.out.2.1
            clear g0 g1 g2 gl e1 hw1 HV1 HX1
            obtain ⟨hxl, hxc⟩ := HX2.out
            have x0 : W2.cell? ⟨XB, 0, none⟩ = some (.string yi) := hxc 0 (by simp)
            have x1 : W2.cell? ⟨XB, 1, none⟩ = some (.int .i64 n) := hxc 1 (by simp)
            have x2 : W2.cell? ⟨XB, 2, none⟩ = some (.int .i64 C) := hxc 2 (by simp)
            clear hxc
            go_wp2_with fail
            by_cases hnn : yn = n ∧ ys = C
            · obtain ⟨rfl, rfl⟩ := hnn
              have HCC : Hid (CO = 7) := hid_intro (by rw [HCO.out, if_pos ⟨rfl, rfl⟩])
              have HTL : Hid (TL = []) := hid_intro (by rw [HTK.out, if_neg (by rw [HCC.out]; omega)])
              go_quiet (fail)
              obtain ⟨W3, hW2⟩ : ∃ Wn, Wn = W2.drewN nq := ⟨_, rfl⟩
              rw [← hW2]
              have HV3 : Hid (BoxV w yi a m yn k t W3) := hid_intro (by rw [hW2]; exact HV2.out.below (bdrewN (Below.refl _ _) _))
              have HX3 : Hid (Blk XB [.string yi, .int .i64 yn, .int .i64 ys] W3) := hid_intro (by rw [hW2]; exact HX2.out.below (bdrewN (Below.refl _ _) _))
              clear hW2
              have hp2 := HV3.out.2.2.2.2.2.2.2.2
              have hlt2' := hp2.lt
              obtain ⟨u0, y0⟩ := hp2.has 0 (by omega)
              obtain ⟨u1, y1⟩ := hp2.has 1 (by omega)
              have f0 := hp2.free 0 (by omega)
              have f1 := hp2.free 1 (by omega)
              go_wp2_with fail
              refine bodyPost_ret (v := .agg #[.slice none 0 0, .int .i64 7]) (by simp [results, Try.results33, go_sem, y0, y1]) rfl ⟨none, 0, by rw [HTL.out, HCC.out]; rfl, by rw [HTL.out]; exact made_nil _ _ _, ?_, .inl (by rw [HTL.out]; rfl)⟩
              repeat' first | exact HV3.out.1 | apply Below.setCell
              all_goals (simp)
            · have HCC : Hid (CO = 11) := hid_intro (by rw [HCO.out, if_neg hnn])
              have HTL : Hid (TL = []) := hid_intro (by rw [HTK.out, if_neg (by rw [HCC.out]; omega)])
              by_cases hn1 : yn = n
              · subst hn1
                have hn2 : ¬ ys = C := fun e => hnn ⟨rfl, e⟩
                have hn3 : (ys == C) = false := by simpa using hn2
                clear hnn
                go_quiet (fail)
                obtain ⟨W3, hW2⟩ : ∃ Wn, Wn = W2.drewN nq := ⟨_, rfl⟩
                rw [← hW2]
                have HV3 : Hid (BoxV w yi a m yn k t W3) := hid_intro (by rw [hW2]; exact HV2.out.below (bdrewN (Below.refl _ _) _))
                have HX3 : Hid (Blk XB [.string yi, .int .i64 yn, .int .i64 C] W3) := hid_intro (by rw [hW2]; exact HX2.out.below (bdrewN (Below.refl _ _) _))
                clear hW2
                have hp2 := HV3.out.2.2.2.2.2.2.2.2
                have hlt2' := hp2.lt
                obtain ⟨u0, y0⟩ := hp2.has 0 (by omega)
                obtain ⟨u1, y1⟩ := hp2.has 1 (by omega)
                have f0 := hp2.free 0 (by omega)
                have f1 := hp2.free 1 (by omega)
                go_wp2_with fail
                refine bodyPost_ret (v := .agg #[.slice none 0 0, .int .i64 11]) (by simp [results, Try.results33, go_sem, y0, y1]) rfl ⟨none, 0, by rw [HTL.out, HCC.out]; rfl, by rw [HTL.out]; exact made_nil _ _ _, ?_, .inl (by rw [HTL.out]; rfl)⟩
                repeat' first | exact HV3.out.1 | apply Below.setCell
                all_goals (simp)
              · have hn3 : (yn == n) = false := by simpa using hn1
                clear hnn
                go_quiet (fail)
                obtain ⟨W3, hW2⟩ : ∃ Wn, Wn = W2.drewN nq := ⟨_, rfl⟩
                rw [← hW2]
                have HV3 : Hid (BoxV w yi a m n k t W3) := hid_intro (by rw [hW2]; exact HV2.out.below (bdrewN (Below.refl _ _) _))
                have HX3 : Hid (Blk XB [.string yi, .int .i64 n, .int .i64 C] W3) := hid_intro (by rw [hW2]; exact HX2.out.below (bdrewN (Below.refl _ _) _))
                clear hW2
                have hp2 := HV3.out.2.2.2.2.2.2.2.2
                have hlt2' := hp2.lt
                obtain ⟨u0, y0⟩ := hp2.has 0 (by omega)
                obtain ⟨u1, y1⟩ := hp2.has 1 (by omega)
                have f0 := hp2.free 0 (by omega)
                have f1 := hp2.free 1 (by omega)
                go_wp2_with fail
                refine bodyPost_ret (v := .agg #[.slice none 0 0, .int .i64 11]) (by simp [results, Try.results33, go_sem, y0, y1]) rfl ⟨none, 0, by rw [HTL.out, HCC.out]; rfl, by rw [HTL.out]; exact made_nil _ _ _, ?_, .inl (by rw [HTL.out]; rfl)⟩
                repeat' first | exact HV3.out.1 | apply Below.setCell
                all_goals (simp)
          · have he2 : (yi.toList == i.toList) = false := by simpa using he
            go_wp2_with fail
            go_quiet (fail)
            go_wp2_with fail
            obtain ⟨W1, hW2⟩ : ∃ Wn, Wn = wr.drewN nq := ⟨_, rfl⟩
            rw [← hW2]
            have HV1 : Hid (BoxV w i a m n k t W1) := hid_intro (by rw [hW2]; exact HV.out.below (bdrewN (Below.refl _ _) _))
            have HX1 : Hid (Blk XB [.string i, .int .i64 n, .int .i64 C] W1) := hid_intro (by rw [hW2]; exact HX.out.below (bdrewN (Below.refl _ _) _))
            have g0 : W1.cell? ⟨b, off + q * 3, none⟩ = some (.string yi) := by rw [hW2]; exact d0
            have g1 : W1.cell? ⟨b, off + q * 3 + 1, none⟩ = some (.int .i64 yn) := by rw [hW2]; exact d1
            have g2 : W1.cell? ⟨b, off + q * 3 + 2, none⟩ = some (.int .i64 ys) := by rw [hW2]; exact d2
            have gl : b < W1.heap.size := by rw [hW2]; exact hbl
            clear hW2
            have e1 : W1.cell? ⟨w.heap.size, 0, none⟩ = some (.string i) := HV1.out.2.2.1
            have hw1 := HV1.out.2.1
            clear d0 d1 d2 hwl HV HX
            go_quiet (fail)
            obtain ⟨W2, hW2⟩ : ∃ Wn, Wn = W1.drewN nq := ⟨_, rfl⟩
            rw [← hW2]
            have HV2 : Hid (BoxV w i a m n k t W2) := hid_intro (by rw [hW2]; exact HV1.out.below (bdrewN (Below.refl _ _) _))
            have HX2 : Hid (Blk XB [.string i, .int .i64 n, .int .i64 C] W2) := hid_intro (by rw [hW2]; exact HX1.out.below (bdrewN (Below.refl _ _) _))
            clear hW2
            clear g0 g1 g2 gl e1 hw1 HV1 HX1
            have HTH : Hid (thereB es i = false) := hid_intro (by exact HY1.out.trans he2)
            by_cases h40 : len < 40
            · have h40' : ¬ (40 : Int) ≤ (len : Int) := by omega
              have HCC : Hid (CO = 0) := hid_intro (by rw [HCO.out, HTH.out, cond_false, if_pos (by have := HL.out; omega)])
              have HTL : Hid (TL = insAt es q ⟨i, n, C⟩) := hid_intro (by rw [HTK.out, if_pos HCC.out, HP.out])
              have HE0 := hid_intro (own_empty W2 W2.heap.size 40 3 (Nat.le_refl _))
              have hqc : (q : Int) ≤ (cap : Int) := by omega
              have HI2 := hid_intro (HI.out.below (HV2.out.1.trans ((al W2 (.cells #[] 40)).mono HV2.out.1.size)))
              have HXe := hid_intro (HX2.out.below (al W2 (.cells #[] 40)))
              have HVe := hid_intro (HV2.out.below (al W2 (.cells #[] 40)))
              go_wp2_with (at_builtin; refine wpList_append_own _ rfl _ _ 23 rfl W2.heap.size 40 i0 (.agg #[.string ⟨#[]⟩, .int .i64 0, .int .i64 0]) 3 32 Try.underlying23 hi hz0 hz1 hz2 rfl (by decide) _ _ _ rfl HE0.out ⟨b, off, none⟩ q cap (cellsAll N.cells (es.take q)) rfl ?l1 ?d1 ?d2 ?d3 ?d4 (by simp) ?_)
              case l1 => rw [cellsAll_len N.len, List.length_take]; have := HL.out; omega
              case d1 => exact fun j u hj => by have := take_cells HI2.out q j u hj; rw [Addr.add_lit] at this; first | exact this | (rw [Addr.add_lit]; exact this)
              case d2 => exact all_one _
              case d3 => unfold maxLen; omega
              case d4 => omega
              intro v1 w6 hown hgrow hne
              have hb6 : ∀ c, (Value.slice (some ⟨W2.heap.size, 0, none⟩) 0 0).ownBlock = some c → W2.heap.size ≤ c := fun c hc => by simp [Value.ownBlock] at hc; omega
              have HO6 : Hid (w6.ownsRow W2.heap.size 40 3 v1 q (cellsAll N.cells (es.take q))) := hid_intro (by first | exact hown | simpa using hown)
              have HV6 := hid_intro (HVe.out.grown W2.heap.size hgrow hb6 (by have := HV2.out.2.1; omega))
              have HX6 := hid_intro (blk_grown HXe.out hgrow (fun e => by have := hb6 _ e.symm; have := HX2.out.1; omega))
              have HZ6 : Hid (W2.heap.size ≤ w6.heap.size) := hid_intro (by have := hgrow.size; simp at this; omega)
              clear hown hgrow hne HE0 HXe HVe HI2 hb6
              obtain ⟨hxl, hxc⟩ := HX6.out
              have x0 : w6.cell? ⟨XB, 0, none⟩ = some (.string i) := hxc 0 (by simp)
              have x1 : w6.cell? ⟨XB, 1, none⟩ = some (.int .i64 n) := hxc 1 (by simp)
              have x2 : w6.cell? ⟨XB, 2, none⟩ = some (.int .i64 C) := hxc 2 (by simp)
              clear hxc
              have HVf := hid_intro (HV6.out.below (al w6 (.cells #[.string i, .int .i64 n, .int .i64 C] 40)))
              go_wp2_with (at_builtin; refine wpList_append_own _ rfl _ _ 23 rfl W2.heap.size 40 i0 (.agg #[.string ⟨#[]⟩, .int .i64 0, .int .i64 0]) 3 32 Try.underlying23 hi hz0 hz1 hz2 rfl (by decide) _ _ _ rfl (HO6.out.alloc _) ⟨w6.heap.size, 0, none⟩ 1 1 (N.cells ⟨i, n, C⟩) rfl rfl ?d1 ?d2 ?d3 ?d4 (by have := HZ6.out; simp; omega) ?_)
              case d1 => exact three_cells ⟨i, n, C⟩ w6
              case d2 => exact one_one _
              case d3 => unfold maxLen; omega
              case d4 => omega
              intro v2 w7 hown hgrow hne
              have hb7 : ∀ c, v1.ownBlock = some c → W2.heap.size ≤ c := fun c hc => (HO6.out.lt c hc).1
              have HO7 : Hid (w7.ownsRow W2.heap.size 40 3 v2 (q + 1) (cellsAll N.cells (es.take q) ++ N.cells ⟨i, n, C⟩)) := hid_intro hown
              have HV7 := hid_intro (HVf.out.grown W2.heap.size hgrow hb7 (by have := HV2.out.2.1; omega))
              have HZ7 : Hid (W2.heap.size ≤ w7.heap.size) := hid_intro (by have h1 := hgrow.size; have h2 := HZ6.out; simp at h1; omega)
              have HI7 := hid_intro (HI.out.below HV7.out.1)
              clear hown hgrow hne hb7 x0 x1 x2 hxl HVf HV6 HX6
              by_cases hcq : cap = q
              · exact absurd hcq (by omega)
              · have hql : (q : Int) ≤ (len : Int) := by omega
                go_wp2_with (at_builtin; refine wpList_append_own _ rfl _ _ 23 rfl W2.heap.size 40 i0 (.agg #[.string ⟨#[]⟩, .int .i64 0, .int .i64 0]) 3 32 Try.underlying23 hi hz0 hz1 hz2 rfl (by decide) _ _ _ rfl HO7.out ⟨b, off + q * 3, none⟩ (len - q) (cap - q) (cellsAll N.cells (es.drop q)) rfl ?l1 ?d1 ?d2 ?d3 ?d4 HZ7.out ?_)
                case l1 => rw [cellsAll_len N.len, List.length_drop]; have := HL.out; omega
                case d1 => exact drop_cells HI7.out q
                case d2 => exact all_one _
                case d3 => unfold maxLen; omega
                case d4 => omega
                intro v3 w8 hown hgrow hne
                have hb8 : ∀ c, v2.ownBlock = some c → W2.heap.size ≤ c := fun c hc => (HO7.out.lt c hc).1
                have HV8 := hid_intro (HV7.out.grown W2.heap.size hgrow hb8 (by have := HV2.out.2.1; omega))
                have HO8 : Hid (w8.ownsRow W2.heap.size 40 3 v3 (insAt es q ⟨i, n, C⟩).length (cellsAll N.cells (insAt es q ⟨i, n, C⟩))) := hid_intro (by
                  rw [insAt_cells, ← cells_take, ← cells_drop, insAt_len es q _ (by have := HL.out; omega), ← HL.out, show len + 1 = q + 1 + (len - q) by omega]
                  first | exact hown | (rw [← List.append_assoc]; exact hown))
                clear hown hgrow hne hb8
                obtain ⟨ao', cap', rfl, hm8⟩ := own_made (z := N.zero) N.len HO8.out
                have hp2 := HV8.out.2.2.2.2.2.2.2.2
                have hlt2' := hp2.lt
                obtain ⟨u0, y0⟩ := hp2.has 0 (by omega)
                obtain ⟨u1, y1⟩ := hp2.has 1 (by omega)
                have f0 := hp2.free 0 (by omega)
                have f1 := hp2.free 1 (by omega)
                have HMF := hid_intro (made_put (made_put (hm8.low (base' := w.heap.size) HV2.out.1.size) (w.heap.size + 1) 0 (.slice ao' (insAt es q ⟨i, n, C⟩).length cap') (fun g hg => by have := (HO8.out.lt g (by rw [hg]; rfl)).1; have := HV2.out.2.1; omega)) (w.heap.size + 1) 1 (.int .i64 0) (fun g hg => by have := (HO8.out.lt g (by rw [hg]; rfl)).1; have := HV2.out.2.1; omega))
                have HOF := hid_intro (own_set (own_set (own_lo HO8.out HV2.out.1.size) (w.heap.size + 1) 0 (.slice ao' (insAt es q ⟨i, n, C⟩).length cap') (fun g hg => by have := (HO8.out.lt g hg).1; have := HV2.out.2.1; omega)) (w.heap.size + 1) 1 (.int .i64 0) (fun g hg => by have := (HO8.out.lt g hg).1; have := HV2.out.2.1; omega))
                clear hm8 hp2
                go_wp2_with fail
                refine bodyPost_ret (v := .agg #[.slice ao' (insAt es q ⟨i, n, C⟩).length cap', .int .i64 0]) (by simp [results, Try.results33, go_sem, y0, y1]) rfl ⟨ao', cap', by rw [HTL.out, HCC.out], by rw [HTL.out]; exact HMF.out, ?_, .inr (by rw [HTL.out]; exact HOF.out)⟩
                repeat' first | exact HV8.out.1 | apply Below.setCell
                all_goals (simp)
            · have h40' : (40 : Int) ≤ (len : Int) := by omega
              have HCC : Hid (CO = 9) := hid_intro (by rw [HCO.out, HTH.out, cond_false, if_neg (by have := HL.out; omega)])
              have HTL : Hid (TL = []) := hid_intro (by rw [HTK.out, if_neg (by rw [HCC.out]; omega)])
              have hp2 := HV2.out.2.2.2.2.2.2.2.2
              have hlt2' := hp2.lt
              obtain ⟨u0, y0⟩ := hp2.has 0 (by omega)
              obtain ⟨u1, y1⟩ := hp2.has 1 (by omega)
              have f0 := hp2.free 0 (by omega)
              have f1 := hp2.free 1 (by omega)
              go_wp2_with fail
              refine bodyPost_ret (v := .agg #[.slice none 0 0, .int .i64 9]) (by simp [results, Try.results33, go_sem, y0, y1]) rfl ⟨none, 0, by rw [HTL.out, HCC.out]; rfl, by rw [HTL.out]; exact made_nil _ _ _, ?_, .inl (by rw [HTL.out]; rfl)⟩
              repeat' first | exact HV2.out.1 | apply Below.setCell
              all_goals (simp)
        · have HK2 := hid_intro (HK.out.more hqq)
          unfold lt at hqq
          generalize es.getD q N.zero = Y at *
          obtain ⟨yi, yn, ys⟩ := Y
          dsimp only at hqq d0 d1 d2
          go_wp2_with fail
          go_quiet (fail)
          go_wp2_with fail
          go_roundw
          case rel => exact ⟨q + 1, by omega, by go_num, HK2, hid_intro (HV.out.below (bdrewN (Below.refl _ _) _)), hid_intro (HX.out.below (bdrewN (Below.refl _ _) _))⟩
          case measure => simp [intOf]; omega
      · have hlt2 : ¬ (q : Int) < (len : Int) := by omega
        have HP : Hid (pos es i = q) := hid_intro (HPE.out q HK.out (by have := HL.out; omega) (fun h => absurd h (by have := HL.out; omega)))
        go_wp2_with fail
        go_quiet (fail)
        go_wp2_with fail
        obtain ⟨W1, hW2⟩ : ∃ Wn, Wn = wr.drewN nq := ⟨_, rfl⟩
        rw [← hW2]
        have HV1 : Hid (BoxV w i a m n k t W1) := hid_intro (by rw [hW2]; exact HV.out.below (bdrewN (Below.refl _ _) _))
        have HX1 : Hid (Blk XB [.string i, .int .i64 n, .int .i64 C] W1) := hid_intro (by rw [hW2]; exact HX.out.below (bdrewN (Below.refl _ _) _))
        clear hW2
        have e1 : W1.cell? ⟨w.heap.size, 0, none⟩ = some (.string i) := HV1.out.2.2.1
        have hw1 := HV1.out.2.1
        go_quiet (fail)
        obtain ⟨W2, hW2⟩ : ∃ Wn, Wn = W1.drewN nq := ⟨_, rfl⟩
        rw [← hW2]
        have HV2 : Hid (BoxV w i a m n k t W2) := hid_intro (by rw [hW2]; exact HV1.out.below (bdrewN (Below.refl _ _) _))
        have HX2 : Hid (Blk XB [.string i, .int .i64 n, .int .i64 C] W2) := hid_intro (by rw [hW2]; exact HX1.out.below (bdrewN (Below.refl _ _) _))
        clear hW2
        clear e1 hw1 hwl c0 HV HX HV1 HX1
        have HTH : Hid (thereB es i = false) := hid_intro (by unfold thereB; rw [HP.out]; rw [decide_eq_false (by have := HL.out; omega)]; rfl)
        by_cases h40 : len < 40
        · have h40' : ¬ (40 : Int) ≤ (len : Int) := by omega
          have HCC : Hid (CO = 0) := hid_intro (by rw [HCO.out, HTH.out, cond_false, if_pos (by have := HL.out; omega)])
          have HTL : Hid (TL = insAt es q ⟨i, n, C⟩) := hid_intro (by rw [HTK.out, if_pos HCC.out, HP.out])
          have HE0 := hid_intro (own_empty W2 W2.heap.size 40 3 (Nat.le_refl _))
          have hqc : (q : Int) ≤ (cap : Int) := by omega
          have HI2 := hid_intro (HI.out.below (HV2.out.1.trans ((al W2 (.cells #[] 40)).mono HV2.out.1.size)))
          have HXe := hid_intro (HX2.out.below (al W2 (.cells #[] 40)))
          have HVe := hid_intro (HV2.out.below (al W2 (.cells #[] 40)))
          go_wp2_with (at_builtin; refine wpList_append_own _ rfl _ _ 23 rfl W2.heap.size 40 i0 (.agg #[.string ⟨#[]⟩, .int .i64 0, .int .i64 0]) 3 32 Try.underlying23 hi hz0 hz1 hz2 rfl (by decide) _ _ _ rfl HE0.out ⟨b, off, none⟩ q cap (cellsAll N.cells (es.take q)) rfl ?l1 ?d1 ?d2 ?d3 ?d4 (by simp) ?_)
          case l1 => rw [cellsAll_len N.len, List.length_take]; have := HL.out; omega
          case d1 => exact fun j u hj => by have := take_cells HI2.out q j u hj; rw [Addr.add_lit] at this; first | exact this | (rw [Addr.add_lit]; exact this)
          case d2 => exact all_one _
          case d3 => unfold maxLen; omega
          case d4 => omega
          intro v1 w6 hown hgrow hne
          have hb6 : ∀ c, (Value.slice (some ⟨W2.heap.size, 0, none⟩) 0 0).ownBlock = some c → W2.heap.size ≤ c := fun c hc => by simp [Value.ownBlock] at hc; omega
          have HO6 : Hid (w6.ownsRow W2.heap.size 40 3 v1 q (cellsAll N.cells (es.take q))) := hid_intro (by first | exact hown | simpa using hown)
          have HV6 := hid_intro (HVe.out.grown W2.heap.size hgrow hb6 (by have := HV2.out.2.1; omega))
          have HX6 := hid_intro (blk_grown HXe.out hgrow (fun e => by have := hb6 _ e.symm; have := HX2.out.1; omega))
          have HZ6 : Hid (W2.heap.size ≤ w6.heap.size) := hid_intro (by have := hgrow.size; simp at this; omega)
          clear hown hgrow hne HE0 HXe HVe HI2 hb6
          obtain ⟨hxl, hxc⟩ := HX6.out
          have x0 : w6.cell? ⟨XB, 0, none⟩ = some (.string i) := hxc 0 (by simp)
          have x1 : w6.cell? ⟨XB, 1, none⟩ = some (.int .i64 n) := hxc 1 (by simp)
          have x2 : w6.cell? ⟨XB, 2, none⟩ = some (.int .i64 C) := hxc 2 (by simp)
          clear hxc
          have HVf := hid_intro (HV6.out.below (al w6 (.cells #[.string i, .int .i64 n, .int .i64 C] 40)))
          go_wp2_with (at_builtin; refine wpList_append_own _ rfl _ _ 23 rfl W2.heap.size 40 i0 (.agg #[.string ⟨#[]⟩, .int .i64 0, .int .i64 0]) 3 32 Try.underlying23 hi hz0 hz1 hz2 rfl (by decide) _ _ _ rfl (HO6.out.alloc _) ⟨w6.heap.size, 0, none⟩ 1 1 (N.cells ⟨i, n, C⟩) rfl rfl ?d1 ?d2 ?d3 ?d4 (by have := HZ6.out; simp; omega) ?_)
          case d1 => exact three_cells ⟨i, n, C⟩ w6
          case d2 => exact one_one _
          case d3 => unfold maxLen; omega
          case d4 => omega
          intro v2 w7 hown hgrow hne
          have hb7 : ∀ c, v1.ownBlock = some c → W2.heap.size ≤ c := fun c hc => (HO6.out.lt c hc).1
          have HO7 : Hid (w7.ownsRow W2.heap.size 40 3 v2 (q + 1) (cellsAll N.cells (es.take q) ++ N.cells ⟨i, n, C⟩)) := hid_intro hown
          have HV7 := hid_intro (HVf.out.grown W2.heap.size hgrow hb7 (by have := HV2.out.2.1; omega))
          have HZ7 : Hid (W2.heap.size ≤ w7.heap.size) := hid_intro (by have h1 := hgrow.size; have h2 := HZ6.out; simp at h1; omega)
          have HI7 := hid_intro (HI.out.below HV7.out.1)
          clear hown hgrow hne hb7 x0 x1 x2 hxl HVf HV6 HX6
          by_cases hcq : cap = q
          · have hql : (q : Int) ≤ (len : Int) := by omega
            obtain rfl : q = len := by omega
            have hcq2 := hcq.symm
            subst hcq2
            go_wp2_with (at_builtin; refine wpList_append_own _ rfl _ _ 23 rfl W2.heap.size 40 i0 (.agg #[.string ⟨#[]⟩, .int .i64 0, .int .i64 0]) 3 32 Try.underlying23 hi hz0 hz1 hz2 rfl (by decide) _ _ _ rfl HO7.out ⟨b, off, none⟩ 0 0 [] rfl rfl (fun _ _ h => by simp at h) (fun _ h => by simp at h) (by unfold maxLen; omega) (by omega) HZ7.out ?_)
            intro v3 w8 hown hgrow hne
            have hb8 : ∀ c, v2.ownBlock = some c → W2.heap.size ≤ c := fun c hc => (HO7.out.lt c hc).1
            have HV8 := hid_intro (HV7.out.grown W2.heap.size hgrow hb8 (by have := HV2.out.2.1; omega))
            have HO8 : Hid (w8.ownsRow W2.heap.size 40 3 v3 (insAt es q ⟨i, n, C⟩).length (cellsAll N.cells (insAt es q ⟨i, n, C⟩))) := hid_intro (by
              rw [insAt_cells, ← cells_take, ← cells_drop, insAt_len es q _ (by have := HL.out; omega), ← HL.out, List.drop_of_length_le (by have := HL.out; omega)]
              first | exact hown | simpa [cellsAll] using hown)
            clear hown hgrow hne hb8
            obtain ⟨ao', cap', rfl, hm8⟩ := own_made (z := N.zero) N.len HO8.out
            have hp2 := HV8.out.2.2.2.2.2.2.2.2
            have hlt2' := hp2.lt
            obtain ⟨u0, y0⟩ := hp2.has 0 (by omega)
            obtain ⟨u1, y1⟩ := hp2.has 1 (by omega)
            have f0 := hp2.free 0 (by omega)
            have f1 := hp2.free 1 (by omega)
            have HMF := hid_intro (made_put (made_put (hm8.low (base' := w.heap.size) HV2.out.1.size) (w.heap.size + 1) 0 (.slice ao' (insAt es q ⟨i, n, C⟩).length cap') (fun g hg => by have := (HO8.out.lt g (by rw [hg]; rfl)).1; have := HV2.out.2.1; omega)) (w.heap.size + 1) 1 (.int .i64 0) (fun g hg => by have := (HO8.out.lt g (by rw [hg]; rfl)).1; have := HV2.out.2.1; omega))
            have HOF := hid_intro (own_set (own_set (own_lo HO8.out HV2.out.1.size) (w.heap.size + 1) 0 (.slice ao' (insAt es q ⟨i, n, C⟩).length cap') (fun g hg => by have := (HO8.out.lt g hg).1; have := HV2.out.2.1; omega)) (w.heap.size + 1) 1 (.int .i64 0) (fun g hg => by have := (HO8.out.lt g hg).1; have := HV2.out.2.1; omega))
            clear hm8 hp2
            go_wp2_with fail
            refine bodyPost_ret (v := .agg #[.slice ao' (insAt es q ⟨i, n, C⟩).length cap', .int .i64 0]) (by simp [results, Try.results33, go_sem, y0, y1]) rfl ⟨ao', cap', by rw [HTL.out, HCC.out], by rw [HTL.out]; exact HMF.out, ?_, .inr (by rw [HTL.out]; exact HOF.out)⟩
            repeat' first | exact HV8.out.1 | apply Below.setCell
            all_goals (simp)
          · have hql : (q : Int) ≤ (len : Int) := by omega
            go_wp2_with (at_builtin; refine wpList_append_own _ rfl _ _ 23 rfl W2.heap.size 40 i0 (.agg #[.string ⟨#[]⟩, .int .i64 0, .int .i64 0]) 3 32 Try.underlying23 hi hz0 hz1 hz2 rfl (by decide) _ _ _ rfl HO7.out ⟨b, off + q * 3, none⟩ (len - q) (cap - q) (cellsAll N.cells (es.drop q)) rfl ?l1 ?d1 ?d2 ?d3 ?d4 HZ7.out ?_)
            case l1 => rw [cellsAll_len N.len, List.length_drop]; have := HL.out; omega
            case d1 => exact drop_cells HI7.out q
            case d2 => exact all_one _
            case d3 => unfold maxLen; omega
            case d4 => omega
            intro v3 w8 hown hgrow hne
            have hb8 : ∀ c, v2.ownBlock = some c → W2.heap.size ≤ c := fun c hc => (HO7.out.lt c hc).1
            have HV8 := hid_intro (HV7.out.grown W2.heap.size hgrow hb8 (by have := HV2.out.2.1; omega))
            have HO8 : Hid (w8.ownsRow W2.heap.size 40 3 v3 (insAt es q ⟨i, n, C⟩).length (cellsAll N.cells (insAt es q ⟨i, n, C⟩))) := hid_intro (by
              rw [insAt_cells, ← cells_take, ← cells_drop, insAt_len es q _ (by have := HL.out; omega), ← HL.out, show len + 1 = q + 1 + (len - q) by omega]
              first | exact hown | (rw [← List.append_assoc]; exact hown))
            clear hown hgrow hne hb8
            obtain ⟨ao', cap', rfl, hm8⟩ := own_made (z := N.zero) N.len HO8.out
            have hp2 := HV8.out.2.2.2.2.2.2.2.2
            have hlt2' := hp2.lt
            obtain ⟨u0, y0⟩ := hp2.has 0 (by omega)
            obtain ⟨u1, y1⟩ := hp2.has 1 (by omega)
            have f0 := hp2.free 0 (by omega)
            have f1 := hp2.free 1 (by omega)
            have HMF := hid_intro (made_put (made_put (hm8.low (base' := w.heap.size) HV2.out.1.size) (w.heap.size + 1) 0 (.slice ao' (insAt es q ⟨i, n, C⟩).length cap') (fun g hg => by have := (HO8.out.lt g (by rw [hg]; rfl)).1; have := HV2.out.2.1; omega)) (w.heap.size + 1) 1 (.int .i64 0) (fun g hg => by have := (HO8.out.lt g (by rw [hg]; rfl)).1; have := HV2.out.2.1; omega))
            have HOF := hid_intro (own_set (own_set (own_lo HO8.out HV2.out.1.size) (w.heap.size + 1) 0 (.slice ao' (insAt es q ⟨i, n, C⟩).length cap') (fun g hg => by have := (HO8.out.lt g hg).1; have := HV2.out.2.1; omega)) (w.heap.size + 1) 1 (.int .i64 0) (fun g hg => by have := (HO8.out.lt g hg).1; have := HV2.out.2.1; omega))
            clear hm8 hp2
            go_wp2_with fail
            refine bodyPost_ret (v := .agg #[.slice ao' (insAt es q ⟨i, n, C⟩).length cap', .int .i64 0]) (by simp [results, Try.results33, go_sem, y0, y1]) rfl ⟨ao', cap', by rw [HTL.out, HCC.out], by rw [HTL.out]; exact HMF.out, ?_, .inr (by rw [HTL.out]; exact HOF.out)⟩
            repeat' first | exact HV8.out.1 | apply Below.setCell
            all_goals (simp)
        · have h40' : (40 : Int) ≤ (len : Int) := by omega
          have HCC : Hid (CO = 9) := hid_intro (by rw [HCO.out, HTH.out, cond_false, if_neg (by have := HL.out; omega)])
          have HTL : Hid (TL = []) := hid_intro (by rw [HTK.out, if_neg (by rw [HCC.out]; omega)])
          have hp2 := HV2.out.2.2.2.2.2.2.2.2
          have hlt2' := hp2.lt
          obtain ⟨u0, y0⟩ := hp2.has 0 (by omega)
          obtain ⟨u1, y1⟩ := hp2.has 1 (by omega)
          have f0 := hp2.free 0 (by omega)
          have f1 := hp2.free 1 (by omega)
          go_wp2_with fail
          refine bodyPost_ret (v := .agg #[.slice none 0 0, .int .i64 9]) (by simp [results, Try.results33, go_sem, y0, y1]) rfl ⟨none, 0, by rw [HTL.out, HCC.out]; rfl, by rw [HTL.out]; exact made_nil _ _ _, ?_, .inl (by rw [HTL.out]; rfl)⟩
          repeat' first | exact HV2.out.1 | apply Below.setCell
          all_goals (simp)
end SeenR
end Go.Proofs.Ytbhabplchcigfaa
