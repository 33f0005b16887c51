/-
  withDoc: documents in new memory, and another one behind them. The conditions: sizes of at most 1048576, no line of 0.
  nextDoc: the document that makes the net of a period the bill, or why there is none. The conditions: what lessLines asks.
  What the rows tell of a period, in every later memory. The conditions: documents of a right ledger, small ones.
  errors.As at the program's own fault type: of nil it tells false; of a fault it tells true and lays it into the target; nothing else that was there is written. The condition: errors' own variable holds the handle of the type error, and the target is a variable that may be written.
  errors.As of a fault at the program's own fault type: it tells true, lays it into the target, and writes nothing else that was there. The condition: errors' own variable holds the handle of the type error, and the target is a variable that may be written.
  impl.Issue. The conditions: sizes of at most 1048576, months that are numbers of 64 bits; errors' own variable holds the handle of the type error.
  Numbers as digits, as the library writes them: one digit, and four. The condition: the library's table stands in its variable.
  A year's four digits, and one digit, as the library writes them. The condition: the library's table stands in its variable.
  Numbers as digits, as the model writes them. No condition.
  Numbers as digits, as the model writes them, at every length: the library's numeral. No condition.
  joinTexts: called with a list of texts (at least one) it hands back the texts one behind the other, in new memory; nothing that was there is written. The condition: they have together at most 2^40 bytes, and the list at most 1000 texts.
  A month's text, by the library's numeral: both sides hand back the same. The condition: the library's table stands in its variable.
  Lists of texts of one's own that grow by append, and texts that are joined. No condition.
  A document's text, on both sides. The conditions: texts of at most 1048576 bytes, at most 1048576 lines; the library's table stands in its variable.
-/
import Derived.ArgAppend
import Derived.Deep.RegionLawGrows
import Derived.Test.YtlfebpgohpmknaaGreatDoorKit
import Derived.LaidEql
import Derived.Stop.Asserts
import Derived.RowKitTokens
import Derived.Deep.RegionHeld
import Derived.Test.YtlfebpgohpmknaaGreatDoorLen64
import Derived.RegionTactic
import Derived.Laws.BytesArg
import Derived.Lib.ItoaNum
import Derived.Lib.LaidTab
import Derived.Sort.Grow
import Derived.Laws.CopyOwn
import Derived.Lib.BufferRead
import Derived.Deep.RegionHeld3
import Derived.OwnWalk
import Derived.Test.YtlfebpgohpmknaaGreatDoorH3
namespace Go.Proofs.YtlfebpgohpmknaaGreatDoor
open Go.ChangeShapes Go.WideShapes Go.ChangeAt Go.RowKit
set_option linter.unusedVariables false
namespace LedR
open LinR DocR OwG
open RowG (cellsAll hid_intro)
theorem own_wr {w : World} {base e size n g cap : Nat} {xs : List Value} (h : w.ownsRow base e size (.slice (some ⟨g, 0, none⟩) n cap) n xs) (o : Nat) (u : Value) (ho : o < xs.length) : (w.setCell ⟨g, o, none⟩ u).ownsRow base e size (.slice (some ⟨g, 0, none⟩) n cap) n (xs.set o u) := by
  obtain ⟨h1, h2⟩ := h
  refine ⟨by rw [List.length_set]; exact h1, .inr ?_⟩
  rcases h2 with ⟨h0, _⟩ | ⟨g', cap', cur, hv, hg, hh, hc, hm, hz, hcur⟩
  · cases h0
  · cases hv
    refine ⟨g, cap, cur.setIfInBounds o u, rfl, hg, ?_, hc, hm, by simpa using hz, ?_⟩
    · have hlt : g < w.heap.size := by
        rcases Nat.lt_or_ge g w.heap.size with h | h
        · exact h
        · rw [Array.getElem?_eq_none h] at hh; cases hh
      simp only [World.setCell]
      rw [Array.getElem?_modify]
      simp [hh]
    · rw [Array.toList_setIfInBounds, List.take_set, hcur]
theorem set4 (ys zs : List DA) (x y : DA) : ((((cellsAll DA.cells (ys ++ x :: zs)).set (ys.length * 4) (.string y.d.a)).set (ys.length * 4 + 1) (.int .i64 y.d.mo)).set (ys.length * 4 + 2) (.int .i64 y.d.sq)).set (ys.length * 4 + 3) y.v = cellsAll DA.cells (ys ++ y :: zs) := by
  have hl := RowG.cellsAll_len DA.len ys
  have e : ∀ x : DA, cellsAll DA.cells (ys ++ x :: zs) = cellsAll DA.cells ys ++ (x.cells ++ cellsAll DA.cells zs) := fun x => by simp [cellsAll]
  rw [e x, e y]
  generalize cellsAll DA.cells ys = A at *
  generalize cellsAll DA.cells zs = B at *
  rw [← hl]
  simp [DA.cells, List.set_append_right]
/-- The four cells of a place are written. -/
theorem own_put4 {w : World} {base e n g cap : Nat} {ys zs : List DA} {x : DA} (h : w.ownsRow base e 4 (.slice (some ⟨g, 0, none⟩) n cap) n (cellsAll DA.cells (ys ++ x :: zs))) (y : DA) :
    (StR.stL w g (ys.length * 4) [.string y.d.a, .int .i64 y.d.mo, .int .i64 y.d.sq, y.v]).ownsRow base e 4 (.slice (some ⟨g, 0, none⟩) n cap) n (cellsAll DA.cells (ys ++ y :: zs)) := by
  have hl : (cellsAll DA.cells (ys ++ x :: zs)).length = ys.length * 4 + 4 + zs.length * 4 := by rw [RowG.cellsAll_len DA.len]; simp; omega
  rw [← set4 ys zs x y]
  simp only [StR.stL]
  refine own_wr (own_wr (own_wr (own_wr h _ _ (by omega)) _ _ ?_) _ _ ?_) _ _ ?_
  all_goals simp only [List.length_set]; omega
theorem dcs_da {ao : Option Addr} {ds : List D} {w : World} (h : Dcs ao ds w) : ∃ xs : List DA, xs.map DA.d = ds ∧ (∀ x ∈ xs, Lis x.la x.d.ls w) ∧ ∀ W, Below w.heap.size w W → ∀ b, ao = some b → ∀ j u, (cellsAll DA.cells xs)[j]? = some u → W.cell? (b.add j) = some u := by
  rcases h with h0 | ⟨b, off, rfl, hl, h⟩
  · obtain rfl : ds = [] := List.length_eq_zero_iff.1 h0
    exact ⟨[], rfl, (fun x h => by cases h), (fun W _ b _ j u h => by simp [cellsAll] at h)⟩
  · have h' : ∀ j : Fin ds.length, ∃ x : DA, x.d = ds.getD j D.zero ∧ Lis x.la x.d.ls w ∧ ∀ i, i < 4 → w.cell? ⟨b, off + j * 4 + i, none⟩ = x.cells[i]? := fun j => by
      obtain ⟨la, lc, c0, c1, c2, c3, hL⟩ := h j.1 j.2
      refine ⟨⟨_, la, lc⟩, rfl, hL, fun i hi => ?_⟩
      match i, hi with
      | 0, _ => exact c0
      | 1, _ => exact c1
      | 2, _ => exact c2
      | 3, _ => exact c3
    have hx := Classical.axiomOfChoice h'
    obtain ⟨f, hf⟩ := hx
    refine ⟨List.ofFn f, ?_, ?_, ?_⟩
    · apply List.ext_getElem
      · simp
      · intro i h1 h2
        simp at h1
        have := (hf ⟨i, h1⟩).1
        simp [this, List.getD, h1]
    · intro x hx
      rw [List.mem_ofFn] at hx
      obtain ⟨j, rfl⟩ := hx
      exact (hf j).2.1
    · intro W hW b' e j u hu
      cases e
      have hlt : j < (cellsAll DA.cells (List.ofFn f)).length := by
        rcases Nat.lt_or_ge j (cellsAll DA.cells (List.ofFn f)).length with h | h
        · exact h
        · rw [List.getElem?_eq_none h] at hu; cases hu
      rw [RowG.cellsAll_len DA.len, List.length_ofFn] at hlt
      have h4 : j / 4 < ds.length := by omega
      have e4 : j = j / 4 * 4 + j % 4 := by omega
      rw [e4, RowG.cellsAll_get (z := DA.zero) DA.len _ (j / 4) (j % 4) (by simpa using h4) (by omega)] at hu
      have hz := (hf ⟨j / 4, h4⟩).2.2 (j % 4) (by omega)
      have e5 : (List.ofFn f).getD (j / 4) DA.zero = f ⟨j / 4, h4⟩ := by simp [List.getD, h4]
      rw [e5] at hu
      dsimp only at hz
      rw [Addr.add_lit, e4, ← hu, ← hz, Nat.add_assoc]
      exact hW.cell (p := ⟨b, _, none⟩) hl
set_option maxRecDepth 100000 in
theorem slice3 (ao : Option Addr) (len cap : Nat) (w : World) (hc : len ≤ cap) (hao : ao = none ∨ ∃ b off, ao = some ⟨b, off, none⟩) : (Instr.slice 23 (.slice ao len cap) none (some (.int .i64 len)) (some (.int .i64 len))).run Tryz.prog w = .ok (.slice ao len len) w := by
  obtain ⟨i0, hi, hz0, hz1, hz2⟩ := info_parts infoD
  have he : Tryz.prog.elem 23 = 28 := by kernel_rfl
  have hs : (sizeOf (Tryz.prog.elem 23)).run Tryz.prog w = .ok 4 w := by rw [he]; simp [sizeOf, typeInfo, hi, hz1]
  rw [run_slice_any (P := Tryz.prog) w 23 ao len cap Tryz.underlying23]
  simp [Instr.sliceBounds, run_sliceBound, hc, hs, Result.andThen, sliced]
  rcases hao with rfl | ⟨b, off, rfl⟩
  · intro _; rfl
  · intro _; rw [Option.map_some, Addr.add_lit, Nat.add_zero]
def BM4 (w : World) (B : Nat) (a0 a1 a2 a3 : Value) (W : World) : Prop := Below w.heap.size w W ∧ B < W.heap.size ∧ W.cell? ⟨B, 0, none⟩ = some a0 ∧ W.cell? ⟨B, 1, none⟩ = some a1 ∧ W.cell? ⟨B, 2, none⟩ = some a2 ∧ W.cell? ⟨B, 3, none⟩ = some a3
theorem BM4.below {w : World} {B : Nat} {a0 a1 a2 a3 : Value} {W W' : World} (h : BM4 w B a0 a1 a2 a3 W) (hb : Below W.heap.size W W') : BM4 w B a0 a1 a2 a3 W' := by
  obtain ⟨h0, h1, c0, c1, c2, c3⟩ := h
  have f := fun x => hb.cell (p := ⟨B, x, none⟩) h1
  exact ⟨h0.trans (hb.mono h0.size), by have := hb.size; omega, (f 0).trans c0, (f 1).trans c1, (f 2).trans c2, (f 3).trans c3⟩
theorem BM4.drew {w : World} {B : Nat} {a0 a1 a2 a3 : Value} {W : World} (h : BM4 w B a0 a1 a2 a3 W) : BM4 w B a0 a1 a2 a3 W.drew := ⟨h.1.drew, h.2⟩
theorem BM4.fst {w : World} {B : Nat} {a0 a1 a2 a3 : Value} {W : World} (h : BM4 w B a0 a1 a2 a3 W) : Below w.heap.size w W := h.1
theorem grow_below {W W' : World} (hg : W.grownBy W' none) : Below W.heap.size W W' := (Below.refl _ _).grown hg (Nat.le_refl _) (fun k h => by cases h)
theorem BM4.grown {w : World} {B : Nat} {a0 a1 a2 a3 : Value} {W W' : World} (h : BM4 w B a0 a1 a2 a3 W) (hg : W.grownBy W' none) : BM4 w B a0 a1 a2 a3 W' := h.below (grow_below hg)
set_option maxRecDepth 100000 in
set_option maxHeartbeats 4000000 in
theorem iwith (ao : Option Addr) (cap : Nat) (ds : List D) (d : D) (la : Option Addr) (lc : Nat) (w : World) (hlen : ds.length ≤ 1048575) (hcap : ds.length ≤ cap) (hao : (ao = none ∧ ds.length = 0) ∨ ∃ b off, ao = some ⟨b, off, none⟩) (hSm : ∀ x ∈ ds ++ [d], x.Sm) (hN : ∀ x ∈ ds ++ [d], x.ls.filter nz = x.ls) (hI : Dcs ao ds w) (hL : Lis la d.ls w) :
    Calls Tryz.prog 35 #[.slice ao ds.length cap, .agg #[.string d.a, .int .i64 d.mo, .int .i64 d.sq, .slice la d.ls.length lc]] w fun e w' => ∃ v, e = .returned v ∧ DsO w.heap.size v (ds ++ [d]) w' ∧ Below w.heap.size w w' := by
  obtain ⟨i0, hi, hz0, hz1, hz2⟩ := info_parts infoD
  obtain ⟨xs0, hx1, hx2, hx3⟩ := dcs_da hI
  have hxl : xs0.length = ds.length := by rw [← hx1]; simp
  have hlo : (cellsAll DA.cells xs0).length = ds.length * 4 := by rw [RowG.cellsAll_len DA.len, hxl]
  obtain ⟨len, hl⟩ : ∃ len, len = ds.length := ⟨_, rfl⟩
  rw [← hl] at hlen hao hcap hxl hlo ⊢
  have hsl := fun W => slice3 ao len cap W hcap (by rcases hao with h | h; exact .inl h.1; exact .inr h)
  have HSM := hid_intro hSm
  have HN := hid_intro hN
  have HX1 := hid_intro hx1
  have HX2 := hid_intro hx2
  have HX3 := hid_intro hx3
  have HL := hid_intro hL
  have HAO : Hid (ao = none → len = 0 ∧ len = 0) := hid_intro (fun e => by rcases hao with h | ⟨b, off, h⟩; exact ⟨h.2, h.2⟩; rw [e] at h; cases h)
  have HLL := hid_intro hl
  have HLO := hid_intro hlo
  have HXL := hid_intro hxl
  clear hI hSm hN hx1 hx2 hx3 hL hao hl hlo hxl
  obtain ⟨dl, hdl⟩ : ∃ dl, dl = d.ls.length := ⟨_, rfl⟩
  have HDL := hid_intro hdl
  have HDO := hid_intro (doc_one d la lc)
  rw [← hdl] at HDO ⊢
  clear hdl
  obtain ⟨W0, hW0⟩ : ∃ W0, W0 = w.alloc (.cells #[.string d.a, .int .i64 d.mo, .int .i64 d.sq, .slice la dl lc] 28) := ⟨_, rfl⟩
  have HW := hid_intro hW0
  have HS0 : Hid (BM4 w w.heap.size (.string d.a) (.int .i64 d.mo) (.int .i64 d.sq) (.slice la dl lc) W0) := hid_intro (by rw [hW0]; exact ⟨(Below.refl _ _).alloc (Nat.le_refl _) _, by simp, by simp [go_sem], by simp [go_sem], by simp [go_sem], by simp [go_sem]⟩)
  have HSd := hid_intro HS0.out.drew
  clear hW0
  have sz1 : len + 1 ≤ maxLen := by unfold maxLen; omega
  have sz2 : (len + 1) * 56 ≤ 140737488355328 := by omega
  go_enter Tryz.func35, Tryz.ntmps35
  go_wp2_with fail
  rw [← HW.out]
  go_region_held3 (fun W => Below w.heap.size w W ∧ w.heap.size < W.heap.size ∧ W.cell? ⟨w.heap.size, 0, none⟩ = some (.string d.a) ∧ W.cell? ⟨w.heap.size, 1, none⟩ = some (.int .i64 d.mo) ∧ W.cell? ⟨w.heap.size, 2, none⟩ = some (.int .i64 d.sq) ∧ W.cell? ⟨w.heap.size, 3, none⟩ = some (.slice la dl lc))
    (first | assumption | (exact HS0.out) | (exact HSd.out) | (exact BM4.below (w := w) (B := w.heap.size) (by assumption) ((Below.refl _ _).alloc (Nat.le_refl _) _)) | (exact BM4.grown (w := w) (B := w.heap.size) (by assumption) hgrow))
    (first | (refine step_append_grows rfl _ _ 23 rfl 28 i0 (.agg #[.string ⟨#[]⟩, .int .i64 0, .int .i64 0, .slice none 0 0]) 4 56 Tryz.underlying23 hi hz0 hz1 hz2 rfl (by decide) ao len len (cellsAll DA.cells xs0) rfl HAO.out HLO.out (HX3.out _ (BM4.fst (w := w) (B := w.heap.size) (a0 := .string d.a) (a1 := .int .i64 d.mo) (a2 := .int .i64 d.sq) (a3 := .slice la dl lc) (by assumption))) ⟨_, 0, none⟩ 1 1 [.string d.a, .int .i64 d.mo, .int .i64 d.sq, .slice la dl lc] rfl rfl (new_cells _ _ _) HDO.out (Nat.lt_succ_self _) sz1 sz2 ?_; intro v1 w1 hown hgrow))
  rename_i hS
  obtain ⟨xs, hxs⟩ : ∃ xs, xs = xs0 ++ [⟨d, la, lc⟩] := ⟨_, rfl⟩
  have HB1 := hid_intro hS.1
  have hn : xs.length = len + 1 := by rw [hxs, List.length_append, HXL.out]; rfl
  have hmd : xs.map DA.d = ds ++ [d] := by rw [hxs, List.map_append, HX1.out]; rfl
  have HLX : Hid (∀ x ∈ xs, Lis x.la x.d.ls w) := hid_intro (fun x hx => by
    rw [hxs] at hx
    rcases List.mem_append.1 hx with h | h
    · exact HX2.out x h
    · rw [List.mem_singleton] at h; subst h; exact HL.out)
  have HSX : Hid (∀ x ∈ xs, x.d.Sm ∧ x.d.ls.filter nz = x.d.ls) := hid_intro (fun x hx => by
    have : x.d ∈ ds ++ [d] := by rw [← hmd]; exact List.mem_map_of_mem hx
    exact ⟨HSM.out _ this, HN.out _ this⟩)
  have ho1 : w1.ownsRow w.heap.size 28 4 v1 (len + 1) (cellsAll DA.cells xs) := by
    rw [hxs, cellsAll_snoc]
    have e : (DA.mk d la lc).cells = [.string d.a, .int .i64 d.mo, .int .i64 d.sq, .slice la dl lc] := by rw [HDL.out]; rfl
    rw [e]
    refine OwG.own_low hown ?_
    have := HS0.out.1.size
    simp
    omega
  have HMD := hid_intro hmd
  have HNN := hid_intro hn
  clear hxs hmd hn hown hgrow hS HW HS0 HSd HDO HDL HLO HAO HXL HX1 HX2 HX3 HL HSM HN hsl hcap
  obtain ⟨g, c, rfl⟩ := own_form ho1
  have hgl := ho1.lt g rfl
  have HO1 := hid_intro ho1
  clear ho1
  obtain ⟨n, hn2⟩ : ∃ n, n = len + 1 := ⟨_, rfl⟩
  rw [← hn2] at HO1 HNN sz1 sz2
  have hn3 : n ≤ 1048576 := by omega
  have HN2 := hid_intro hn2
  have HN4 : Hid ((n : Int) = (len : Int) + 1) := hid_intro (by omega)
  clear hn2
  go_wp2_with fail
  rw [← HN2.out]
  go_loopw [18] (fun z wr => ∃ (k : Nat) (ys : List DA), k ≤ n ∧ z = .int .i64 k ∧ ys.length = k ∧ Hid (ys.map DA.d = (xs.take k).map DA.d) ∧ Hid (wr.ownsRow w.heap.size 28 4 (.slice (some ⟨g, 0, none⟩) n c) n (cellsAll DA.cells (ys ++ xs.drop k))) ∧ Hid (∀ y ∈ ys, LnO w.heap.size y wr) ∧ Hid (ys.Pairwise Apt) ∧ Hid (Below w.heap.size w wr)) (fun z _ => n - (intOf z).toNat)
  case atStart => exact ⟨0, [], by omega, rfl, rfl, hid_intro rfl, HO1, hid_intro (fun y h => by cases h), hid_intro List.Pairwise.nil, HB1⟩
  case round =>
    clear HB1 HO1
    obtain ⟨k, ys, hk, rfl, hyl, HM, HO, HY, HP, HB⟩ := hrel
    by_cases hlt : k < n
    · have hlt2 : (k : Int) < (n : Int) := by omega
      have hkx : k < xs.length := by have := HNN.out; omega
      have hdr := List.drop_eq_getElem_cons hkx
      have hmem := List.getElem_mem hkx
      have htk : xs.take (k + 1) = xs.take k ++ [xs[k]] := by rw [List.take_succ_eq_append_getElem hkx]
      have HTK := hid_intro htk
      rw [hdr] at HO
      obtain ⟨zs, hzs⟩ : ∃ zs, zs = xs.drop (k + 1) := ⟨_, rfl⟩
      rw [← hzs] at HO
      have HZS := hid_intro hzs
      have hLi := HLX.out _ hmem
      obtain ⟨⟨hs1, hs2, hs3⟩, hnz⟩ := HSX.out _ hmem
      generalize xs[k] = X at *
      clear hdr hmem htk hzs
      have HCP := hid_intro (icopy X.d X.la X.lc wr hs1 hs2 hs3 (hLi.below HB.out))
      rw [hnz] at HCP
      have hll : (ys ++ X :: zs).length = n := by
        have := HO.out.1
        rw [RowG.cellsAll_len DA.len] at this
        omega
      have ho := HO.out
      rw [← hll] at ho
      obtain ⟨ao', cp', e', hm⟩ := RowG.own_made (z := DA.zero) DA.len ho
      cases e'
      obtain ⟨b', off', e', hb', hat⟩ := RowG.Rws.at hm.rws k (by rw [hll]; exact hlt)
      cases e'
      have eX : (ys ++ X :: zs).getD k DA.zero = X := by simp [List.getD, ← hyl]
      rw [eX] at hat
      have c0 := hat 0 (by omega)
      have c1 := hat 1 (by omega)
      have c2 := hat 2 (by omega)
      have c3 := hat 3 (by omega)
      simp only [DA.cells, DA.v, List.getElem?_cons_zero, List.getElem?_cons_succ, Nat.zero_add, Nat.add_zero] at c0 c1 c2 c3
      have HPT : Hid (EvtR.Pt g (n * 4) wr) := hid_intro (by
        rcases hm.2 with h0 | ⟨g', e, _, hgl2, hp, hf⟩
        · rw [List.length_eq_zero_iff.1 h0] at hll
          simp at hll
          omega
        · cases e
          rw [hll] at hp hf
          exact ⟨hgl2, hp, hf⟩)
      obtain ⟨⟨a, mo, sq, ls⟩, la1, lc1⟩ := X
      dsimp only at *
      obtain ⟨ll, hl1⟩ : ∃ ll, ll = ls.length := ⟨_, rfl⟩
      rw [← hl1] at HCP c3
      have HLL1 := hid_intro hl1
      have hlt3 : (k : Int) < (len : Int) + 1 := by have := HN4.out; omega
      clear hat hm ho eX hLi hs1 hs2 hs3 hnz hl1
      go_wp2_with fail
      refine HCP.out.mono ?_
      rintro e w2 ⟨v, rfl, hov, hb2⟩
      have HPT2 := hid_intro (HPT.out.below hb2)
      have HO2 := hid_intro (RowG.own_below HO.out hb2)
      have HY2 : Hid (∀ y ∈ ys, LnO w.heap.size y w2) := hid_intro (fun y hy => RowG.own_below (HY.out y hy) hb2)
      have HBB := hid_intro hb2.size
      have HB2 := hid_intro (HB.out.trans (hb2.mono HB.out.size))
      have HG2 := hid_intro hb'
      rw [HLL1.out] at hov
      obtain ⟨la2, lc2, rfl, _⟩ := RowG.own_made (z := N.zero) N.len hov
      have HOV := hid_intro hov
      have d0 := (hb2.cell (p := ⟨g, k * 4, none⟩) hb').trans c0
      have d1 := (hb2.cell (p := ⟨g, k * 4 + 1, none⟩) hb').trans c1
      have d2 := (hb2.cell (p := ⟨g, k * 4 + 2, none⟩) hb').trans c2
      have d3 := (hb2.cell (p := ⟨g, k * 4 + 3, none⟩) hb').trans c3
      have f0 := HPT2.out.free (k * 4) (by omega)
      have f1 := HPT2.out.free (k * 4 + 1) (by omega)
      have f2 := HPT2.out.free (k * 4 + 2) (by omega)
      have f3 := HPT2.out.free (k * 4 + 3) (by omega)
      clear hov hb2 c0 c1 c2 c3 HO HB HCP HPT
      go_wp2_with fail
      have HGR := hid_intro (StR.stL_grown g [.string a, .int .i64 mo, .int .i64 sq, .slice la2 ls.length lc2] (k * 4) w2)
      have HOF := hid_intro (own_put4 HO2.out (⟨⟨a, mo, sq, ls⟩, la2, lc2⟩ : DA))
      rw [hyl] at HOF
      have HYF : Hid (∀ y ∈ ys ++ [(⟨⟨a, mo, sq, ls⟩, la2, lc2⟩ : DA)], LnO w.heap.size y (StR.stL w2 g (k * 4) [.string a, .int .i64 mo, .int .i64 sq, .slice la2 ls.length lc2])) := hid_intro (fun y hy => by
        rcases List.mem_append.1 hy with h | h
        · exact (HY2.out y h).grown HGR.out (own_apart (HY2.out y h) HO2.out (by decide))
        · rw [List.mem_singleton] at h
          subst h
          exact OwG.own_low (own_keepG HOV.out HGR.out HG2.out) (by have := hgl.1; have := HG2.out; omega))
      have HPF : Hid ((ys ++ [(⟨⟨a, mo, sq, ls⟩, la2, lc2⟩ : DA)]).Pairwise Apt) := hid_intro (List.pairwise_append.2 ⟨HP.out, List.pairwise_singleton _ _, fun x hx y hy => by
        rw [List.mem_singleton] at hy
        subst hy
        intro b h1 h2
        have p1 := (HY.out x hx).lt b h1
        have p2 := HOV.out.lt b h2
        omega⟩)
      have HBF := hid_intro (HB2.out.grown HGR.out HB2.out.size (fun k h => by cases h; exact hgl.1))
      simp only [StR.stL, DA.v] at HOF HYF HBF
      go_roundw
      case rel =>
        refine ⟨k + 1, ys ++ [⟨⟨a, mo, sq, ls⟩, la2, lc2⟩], by omega, by go_num, by simp [hyl], hid_intro (by rw [HTK.out, List.map_append, List.map_append, HM.out]; rfl), ?_, HYF, HPF, HBF⟩
        rw [← HZS.out, List.append_assoc]
        exact HOF
      case measure => simp [intOf]; omega
    · have hlt3 : ¬ (k : Int) < (len : Int) + 1 := by have := HN4.out; omega
      obtain rfl : k = n := by omega
      have HOF : Hid (DsO w.heap.size (.slice (some ⟨g, 0, none⟩) k c) (ds ++ [d]) wr) := hid_intro (by
        refine ⟨ys, ?_, ?_, HY.out, HP.out⟩
        · rw [HM.out, List.take_of_length_le (by have := HNN.out; omega), HMD.out]
        · have h := HO.out
          rw [List.drop_eq_nil_of_le (by have := HNN.out; omega), List.append_nil] at h
          rw [← HMD.out, List.length_map, HNN.out]
          exact h)
      go_wp2_with fail
      go_ret
      exact ⟨_, rfl, HOF.out, HB.out⟩
end LedR
end Go.Proofs.YtlfebpgohpmknaaGreatDoor
namespace Go.Proofs.YtlfebpgohpmknaaGreatDoor
open Go.ChangeShapes Go.WideShapes Go.ChangeAt Go.RowKit
set_option linter.unusedVariables false
namespace LedR
open LinR RowG LtR NetR DocR
/-- What nextDoc answers: G is what the bill has more than the net, c how many documents there are, n how many in all. -/
def NxR (G : List N) (c n : Nat) (a : ByteArray) (m : Int) (w : World) (e : Ending) (w' : World) : Prop := Below w.heap.size w w' ∧
  ((∃ cd : Int, e = .returned (.tuple #[.agg #[.string ⟨#[]⟩, .int .i64 0, .int .i64 0, .slice none 0 0], .iface 91 (.agg #[.int .i64 cd])]) ∧ ((ovB G = false ∧ cd = 12) ∨ (ovB G = true ∧ clL G = [] ∧ 0 < c ∧ cd = 7) ∨ (ovB G = true ∧ ¬ (clL G = [] ∧ 0 < c) ∧ 30 ≤ n ∧ cd = 9)))
  ∨ (ovB G = true ∧ ¬ (clL G = [] ∧ 0 < c) ∧ n < 30 ∧ ∃ la lc, e = .returned (.tuple #[.agg #[.string a, .int .i64 m, .int .i64 c, .slice la (clL G).length lc], .nilIface]) ∧ w'.ownsRow w.heap.size 74 2 (.slice la (clL G).length lc) (clL G).length (cellsAll N.cells (clL G))))
set_option maxRecDepth 100000 in
set_option maxHeartbeats 4000000 in
theorem inext (ao bo : Option Addr) (cap capb n c : Nat) (a : ByteArray) (m : Int) (mb : Option Nat) (F bl : List N) (w : World) (hn : n ≤ 1048576) (hc : c ≤ 1048576)
    (hln : ∀ W, Below w.heap.size w W → Calls Tryz.prog 42 #[.map mb] W fun e w' => ∃ v, e = .returned v ∧ w'.ownsRow W.heap.size 74 2 v F.length (cellsAll N.cells F) ∧ Below W.heap.size W w')
    (hla : bl.length ≤ 400) (hlb : F.length ≤ 400) (hsa : ∀ e ∈ bl, e.i.size ≤ 1048576) (hsb : ∀ e ∈ F, e.i.size ≤ 1048576) (hna : ∀ e ∈ bl, -1000000000000000 ≤ e.n ∧ e.n ≤ 1000000000000000) (hnb : ∀ e ∈ F, -1000000000000000 ≤ e.n ∧ e.n ≤ 1000000000000000) (hr : Rise bl) (hA : Lis bo bl w) :
    Calls Tryz.prog 33 #[.slice ao n cap, .agg #[.string a, .int .i64 m], .agg #[.int .i64 c, .map mb], .slice bo bl.length capb] w (NxR (all bl F (-1)) c n a m w) := by
  have HLN := hid_intro hln
  have HLE := hid_intro (fun (bo2 : Option Addr) (cap2 : Nat) W (hA : Lis bo bl W) (hI : Lis bo2 F W) => iless0 bo bo2 capb cap2 bl F W hla hlb hsa hsb hna hnb hr hA hI)
  have HA := hid_intro hA
  have HGL := hid_intro (all_len bl F (-1))
  obtain ⟨G, hG⟩ : ∃ G, G = all bl F (-1) := ⟨_, rfl⟩
  rw [← hG] at HLE HGL ⊢
  obtain ⟨ll, hll⟩ : ∃ ll, ll = bl.length := ⟨_, rfl⟩
  rw [← hll] at HLE ⊢
  obtain ⟨W0, hW0⟩ : ∃ W0, W0 = ((w.alloc (.cells #[.string a, .int .i64 m] 61)).alloc (.cells #[.int .i64 c, .map mb] 67)).alloc (.cells #[.string ⟨#[]⟩, .int .i64 0, .int .i64 0, .slice none 0 0] 28) := ⟨_, rfl⟩
  have HB0 : Hid (Below w.heap.size w W0) := hid_intro (by rw [hW0]; exact (((Below.refl _ _).alloc (Nat.le_refl _) _).alloc (by simp) _).alloc (by simp; omega) _)
  have HP0 : Hid (BlkW w.heap.size [.string a, .int .i64 m] W0) := hid_intro (by rw [hW0]; exact ((BlkW.new w [.string a, .int .i64 m] 61).below ((Below.refl _ _).alloc (Nat.le_refl _) _)).below ((Below.refl _ _).alloc (Nat.le_refl _) _))
  have HV0 : Hid (BlkW (w.heap.size + 1) [.int .i64 c, .map mb] W0) := hid_intro (by
    rw [hW0]
    have := (BlkW.new (w.alloc (.cells #[.string a, .int .i64 m] 61)) [.int .i64 c, .map mb] 67)
    simp only [World.size_alloc] at this
    exact this.below ((Below.refl _ _).alloc (Nat.le_refl _) _))
  have HR0 : Hid (BlkW (w.heap.size + 1 + 1) [.string ⟨#[]⟩, .int .i64 0, .int .i64 0, .slice none 0 0] W0) := hid_intro (by
    rw [hW0]
    have := BlkW.new ((w.alloc (.cells #[.string a, .int .i64 m] 61)).alloc (.cells #[.int .i64 c, .map mb] 67)) [.string ⟨#[]⟩, .int .i64 0, .int .i64 0, .slice none 0 0] 28
    simp only [World.size_alloc] at this
    exact this)
  have HW := hid_intro hW0
  have HGL : Hid (G.length ≤ 800) := hid_intro (by have := HGL.out; omega)
  clear hln hla hlb hsa hsb hna hnb hr hA hG hll hW0
  go_enter Tryz.func33, Tryz.ntmps33
  go_wp2_with fail
  refine (HLN.out _ (by rw [← HW.out]; exact HB0.out)).mono ?_
  rw [← HW.out]
  rintro e w1 ⟨v, rfl, ho1, hb1⟩
  obtain ⟨bo2, cap2, rfl, hm1⟩ := own_made (z := N.zero) N.len ho1
  have HI1 := hid_intro hm1.rws
  have HB1 := hid_intro (HB0.out.trans (hb1.mono HB0.out.size))
  have HP1 := hid_intro (HP0.out.below hb1)
  have HV1 := hid_intro (HV0.out.below hb1)
  have HR1 := hid_intro (HR0.out.below hb1)
  clear ho1 hm1 hb1 HB0 HP0 HV0 HR0 HW
  go_wp2_with fail
  refine (HLE.out bo2 cap2 _ (HA.out.below HB1.out) HI1.out).mono ?_
  rintro e w2 ⟨v, rfl, ho2, hb2⟩
  obtain ⟨la, lc, rfl, hm2⟩ := own_made (z := N.zero) N.len ho2
  have HO2 := hid_intro ho2
  have HLT : Hid (w.heap.size + 1 + 1 < w1.heap.size) := hid_intro HR1.out.1.1
  have HLT2 := hid_intro HB1.out.size
  have HB2 := hid_intro (HB1.out.trans (hb2.mono HB1.out.size))
  have HP2 := hid_intro (HP1.out.below hb2)
  have HV2 := hid_intro (HV1.out.below hb2)
  have HR2 := hid_intro (HR1.out.below hb2)
  have lP := HP2.out.1.1
  have lV := HV2.out.1.1
  have q0 := HP2.out.1.2 0 (by simp)
  have q1 := HP2.out.1.2 1 (by simp)
  have u0 := HV2.out.1.2 0 (by simp)
  simp only [List.getElem?_cons_zero, List.getElem?_cons_succ] at q0 q1 u0
  have HCL : Hid ((clL G).length ≤ 1048576) := hid_intro (by
    have h1 : (clL G).length ≤ G.length := by unfold clL; cases ovB G; exact Nat.zero_le _; exact List.length_filter_le _ _
    have := HGL.out
    omega)
  obtain ⟨L, hL⟩ : ∃ L, L = clL G := ⟨_, rfl⟩
  have HLL := hid_intro hL
  rw [← hL] at HO2 HCL ⊢
  clear ho2 hm2 hb2 HB1 HP1 HV1 HR1 HP2 HV2 hL
  cases hov : ovB G
  · have HOV := hid_intro hov
    simp only [ovE]
    clear hov
    obtain ⟨⟨rl, rk⟩, rf⟩ := HR2.out
    have p0 : w2.cell? ⟨w.heap.size + 1 + 1, 0, none⟩ = some (.string ⟨#[]⟩) := rk 0 (by simp)
    have f0 : w2.frozen? ⟨w.heap.size + 1 + 1, 0, none⟩ = false := rf 0 (by simp)
    have p1 : w2.cell? ⟨w.heap.size + 1 + 1, 1, none⟩ = some (.int .i64 0) := rk 1 (by simp)
    have f1 : w2.frozen? ⟨w.heap.size + 1 + 1, 1, none⟩ = false := rf 1 (by simp)
    have p2 : w2.cell? ⟨w.heap.size + 1 + 1, 2, none⟩ = some (.int .i64 0) := rk 2 (by simp)
    have f2 : w2.frozen? ⟨w.heap.size + 1 + 1, 2, none⟩ = false := rf 2 (by simp)
    have p3 : w2.cell? ⟨w.heap.size + 1 + 1, 3, none⟩ = some (.slice none 0 0) := rk 3 (by simp)
    have f3 : w2.frozen? ⟨w.heap.size + 1 + 1, 3, none⟩ = false := rf 3 (by simp)
    have hg := StR.stL_grown (w.heap.size + 1 + 1) [.string ⟨#[]⟩, .int .i64 0, .int .i64 0, .slice none 0 0] 0 w2
    have HBF := hid_intro (HB2.out.grown hg HB2.out.size (fun k e => by simp only [Option.some.injEq] at e; omega))
    have HOF := hid_intro (OwG.own_low (OwG.own_keepG HO2.out hg HLT.out) HLT2.out)
    simp only [StR.stL, Nat.zero_add, Nat.reduceAdd] at HBF HOF
    clear hg rk rf
    go_wp2_with fail
    refine bodyPost_ret (v := .tuple #[.agg #[.string ⟨#[]⟩, .int .i64 0, .int .i64 0, .slice none 0 0], .iface 91 (.agg #[.int .i64 12])]) (by simp [results, Tryz.results33, go_sem, p0, p1, p2, p3]) rfl ⟨HBF.out, .inl ⟨12, rfl, .inl ⟨HOV.out, rfl⟩⟩⟩
  · have HOV := hid_intro hov
    simp only [ovE]
    clear hov
    have hLc := HCL.out
    by_cases h0 : L.length = 0
    · have HE : Hid (clL G = []) := hid_intro (by rw [← HLL.out]; exact List.length_eq_zero_iff.1 h0)
      obtain rfl : L = [] := List.length_eq_zero_iff.1 h0
      clear h0 hLc
      by_cases hc0 : 0 < c
      · have hc1 : (0 : Int) < (c : Int) := by omega
        obtain ⟨⟨rl, rk⟩, rf⟩ := HR2.out
        have p0 : w2.cell? ⟨w.heap.size + 1 + 1, 0, none⟩ = some (.string ⟨#[]⟩) := rk 0 (by simp)
        have f0 : w2.frozen? ⟨w.heap.size + 1 + 1, 0, none⟩ = false := rf 0 (by simp)
        have p1 : w2.cell? ⟨w.heap.size + 1 + 1, 1, none⟩ = some (.int .i64 0) := rk 1 (by simp)
        have f1 : w2.frozen? ⟨w.heap.size + 1 + 1, 1, none⟩ = false := rf 1 (by simp)
        have p2 : w2.cell? ⟨w.heap.size + 1 + 1, 2, none⟩ = some (.int .i64 0) := rk 2 (by simp)
        have f2 : w2.frozen? ⟨w.heap.size + 1 + 1, 2, none⟩ = false := rf 2 (by simp)
        have p3 : w2.cell? ⟨w.heap.size + 1 + 1, 3, none⟩ = some (.slice none 0 0) := rk 3 (by simp)
        have f3 : w2.frozen? ⟨w.heap.size + 1 + 1, 3, none⟩ = false := rf 3 (by simp)
        have hg := StR.stL_grown (w.heap.size + 1 + 1) [.string ⟨#[]⟩, .int .i64 0, .int .i64 0, .slice none 0 0] 0 w2
        have HBF := hid_intro (HB2.out.grown hg HB2.out.size (fun k e => by simp only [Option.some.injEq] at e; omega))
        have HOF := hid_intro (OwG.own_low (OwG.own_keepG HO2.out hg HLT.out) HLT2.out)
        simp only [StR.stL, Nat.zero_add, Nat.reduceAdd] at HBF HOF
        clear hg rk rf
        go_wp2_with fail
        refine bodyPost_ret (v := .tuple #[.agg #[.string ⟨#[]⟩, .int .i64 0, .int .i64 0, .slice none 0 0], .iface 91 (.agg #[.int .i64 7])]) (by simp [results, Tryz.results33, go_sem, p0, p1, p2, p3]) rfl ⟨HBF.out, .inl ⟨7, rfl, .inr (.inl ⟨HOV.out, HE.out, hc0, rfl⟩)⟩⟩
      · have hc1 : ¬ (0 : Int) < (c : Int) := by omega
        have HNE : Hid (¬ (clL G = [] ∧ 0 < c)) := hid_intro (fun h => hc0 h.2)
        by_cases h30 : 30 ≤ n
        · have h31 : (30 : Int) ≤ (n : Int) := by omega
          obtain ⟨⟨rl, rk⟩, rf⟩ := HR2.out
          have p0 : w2.cell? ⟨w.heap.size + 1 + 1, 0, none⟩ = some (.string ⟨#[]⟩) := rk 0 (by simp)
          have f0 : w2.frozen? ⟨w.heap.size + 1 + 1, 0, none⟩ = false := rf 0 (by simp)
          have p1 : w2.cell? ⟨w.heap.size + 1 + 1, 1, none⟩ = some (.int .i64 0) := rk 1 (by simp)
          have f1 : w2.frozen? ⟨w.heap.size + 1 + 1, 1, none⟩ = false := rf 1 (by simp)
          have p2 : w2.cell? ⟨w.heap.size + 1 + 1, 2, none⟩ = some (.int .i64 0) := rk 2 (by simp)
          have f2 : w2.frozen? ⟨w.heap.size + 1 + 1, 2, none⟩ = false := rf 2 (by simp)
          have p3 : w2.cell? ⟨w.heap.size + 1 + 1, 3, none⟩ = some (.slice none 0 0) := rk 3 (by simp)
          have f3 : w2.frozen? ⟨w.heap.size + 1 + 1, 3, none⟩ = false := rf 3 (by simp)
          have hg := StR.stL_grown (w.heap.size + 1 + 1) [.string ⟨#[]⟩, .int .i64 0, .int .i64 0, .slice none 0 0] 0 w2
          have HBF := hid_intro (HB2.out.grown hg HB2.out.size (fun k e => by simp only [Option.some.injEq] at e; omega))
          have HOF := hid_intro (OwG.own_low (OwG.own_keepG HO2.out hg HLT.out) HLT2.out)
          simp only [StR.stL, Nat.zero_add, Nat.reduceAdd] at HBF HOF
          clear hg rk rf
          go_wp2_with fail
          refine bodyPost_ret (v := .tuple #[.agg #[.string ⟨#[]⟩, .int .i64 0, .int .i64 0, .slice none 0 0], .iface 91 (.agg #[.int .i64 9])]) (by simp [results, Tryz.results33, go_sem, p0, p1, p2, p3]) rfl ⟨HBF.out, .inl ⟨9, rfl, .inr (.inr ⟨HOV.out, HNE.out, h30, rfl⟩)⟩⟩
        · have h31 : ¬ (30 : Int) ≤ (n : Int) := by omega
          obtain ⟨⟨rl, rk⟩, rf⟩ := HR2.out
          have p0 : w2.cell? ⟨w.heap.size + 1 + 1, 0, none⟩ = some (.string ⟨#[]⟩) := rk 0 (by simp)
          have f0 : w2.frozen? ⟨w.heap.size + 1 + 1, 0, none⟩ = false := rf 0 (by simp)
          have p1 : w2.cell? ⟨w.heap.size + 1 + 1, 1, none⟩ = some (.int .i64 0) := rk 1 (by simp)
          have f1 : w2.frozen? ⟨w.heap.size + 1 + 1, 1, none⟩ = false := rf 1 (by simp)
          have p2 : w2.cell? ⟨w.heap.size + 1 + 1, 2, none⟩ = some (.int .i64 0) := rk 2 (by simp)
          have f2 : w2.frozen? ⟨w.heap.size + 1 + 1, 2, none⟩ = false := rf 2 (by simp)
          have p3 : w2.cell? ⟨w.heap.size + 1 + 1, 3, none⟩ = some (.slice none 0 0) := rk 3 (by simp)
          have f3 : w2.frozen? ⟨w.heap.size + 1 + 1, 3, none⟩ = false := rf 3 (by simp)
          have hg := StR.stL_grown (w.heap.size + 1 + 1) [.string a, .int .i64 m, .int .i64 c, .slice la 0 lc] 0 w2
          have HBF := hid_intro (HB2.out.grown hg HB2.out.size (fun k e => by simp only [Option.some.injEq] at e; omega))
          have HOF := hid_intro (OwG.own_low (OwG.own_keepG HO2.out hg HLT.out) HLT2.out)
          simp only [StR.stL, Nat.zero_add, Nat.reduceAdd] at HBF HOF
          clear hg rk rf
          go_wp2_with fail
          refine bodyPost_ret (v := .tuple #[.agg #[.string a, .int .i64 m, .int .i64 c, .slice la 0 lc], .nilIface]) (by simp [results, Tryz.results33, go_sem, p0, p1, p2, p3]) rfl ⟨HBF.out, .inr ⟨HOV.out, HNE.out, by omega, la, lc, by rw [← HLL.out]; rfl, by rw [← HLL.out]; exact HOF.out⟩⟩
    · have h1 : ¬ (L.length : Int) = 0 := by omega
      have HNE : Hid (¬ (clL G = [] ∧ 0 < c)) := hid_intro (fun h => h0 (by rw [HLL.out, h.1]; rfl))
      by_cases h30 : 30 ≤ n
      · have h31 : (30 : Int) ≤ (n : Int) := by omega
        obtain ⟨⟨rl, rk⟩, rf⟩ := HR2.out
        have p0 : w2.cell? ⟨w.heap.size + 1 + 1, 0, none⟩ = some (.string ⟨#[]⟩) := rk 0 (by simp)
        have f0 : w2.frozen? ⟨w.heap.size + 1 + 1, 0, none⟩ = false := rf 0 (by simp)
        have p1 : w2.cell? ⟨w.heap.size + 1 + 1, 1, none⟩ = some (.int .i64 0) := rk 1 (by simp)
        have f1 : w2.frozen? ⟨w.heap.size + 1 + 1, 1, none⟩ = false := rf 1 (by simp)
        have p2 : w2.cell? ⟨w.heap.size + 1 + 1, 2, none⟩ = some (.int .i64 0) := rk 2 (by simp)
        have f2 : w2.frozen? ⟨w.heap.size + 1 + 1, 2, none⟩ = false := rf 2 (by simp)
        have p3 : w2.cell? ⟨w.heap.size + 1 + 1, 3, none⟩ = some (.slice none 0 0) := rk 3 (by simp)
        have f3 : w2.frozen? ⟨w.heap.size + 1 + 1, 3, none⟩ = false := rf 3 (by simp)
        have hg := StR.stL_grown (w.heap.size + 1 + 1) [.string ⟨#[]⟩, .int .i64 0, .int .i64 0, .slice none 0 0] 0 w2
        have HBF := hid_intro (HB2.out.grown hg HB2.out.size (fun k e => by simp only [Option.some.injEq] at e; omega))
        have HOF := hid_intro (OwG.own_low (OwG.own_keepG HO2.out hg HLT.out) HLT2.out)
        simp only [StR.stL, Nat.zero_add, Nat.reduceAdd] at HBF HOF
        clear hg rk rf
        go_wp2_with fail
        refine bodyPost_ret (v := .tuple #[.agg #[.string ⟨#[]⟩, .int .i64 0, .int .i64 0, .slice none 0 0], .iface 91 (.agg #[.int .i64 9])]) (by simp [results, Tryz.results33, go_sem, p0, p1, p2, p3]) rfl ⟨HBF.out, .inl ⟨9, rfl, .inr (.inr ⟨HOV.out, HNE.out, h30, rfl⟩)⟩⟩
      · have h31 : ¬ (30 : Int) ≤ (n : Int) := by omega
        obtain ⟨⟨rl, rk⟩, rf⟩ := HR2.out
        have p0 : w2.cell? ⟨w.heap.size + 1 + 1, 0, none⟩ = some (.string ⟨#[]⟩) := rk 0 (by simp)
        have f0 : w2.frozen? ⟨w.heap.size + 1 + 1, 0, none⟩ = false := rf 0 (by simp)
        have p1 : w2.cell? ⟨w.heap.size + 1 + 1, 1, none⟩ = some (.int .i64 0) := rk 1 (by simp)
        have f1 : w2.frozen? ⟨w.heap.size + 1 + 1, 1, none⟩ = false := rf 1 (by simp)
        have p2 : w2.cell? ⟨w.heap.size + 1 + 1, 2, none⟩ = some (.int .i64 0) := rk 2 (by simp)
        have f2 : w2.frozen? ⟨w.heap.size + 1 + 1, 2, none⟩ = false := rf 2 (by simp)
        have p3 : w2.cell? ⟨w.heap.size + 1 + 1, 3, none⟩ = some (.slice none 0 0) := rk 3 (by simp)
        have f3 : w2.frozen? ⟨w.heap.size + 1 + 1, 3, none⟩ = false := rf 3 (by simp)
        have hg := StR.stL_grown (w.heap.size + 1 + 1) [.string a, .int .i64 m, .int .i64 c, .slice la L.length lc] 0 w2
        have HBF := hid_intro (HB2.out.grown hg HB2.out.size (fun k e => by simp only [Option.some.injEq] at e; omega))
        have HOF := hid_intro (OwG.own_low (OwG.own_keepG HO2.out hg HLT.out) HLT2.out)
        simp only [StR.stL, Nat.zero_add, Nat.reduceAdd] at HBF HOF
        clear hg rk rf
        go_wp2_with fail
        refine bodyPost_ret (v := .tuple #[.agg #[.string a, .int .i64 m, .int .i64 c, .slice la L.length lc], .nilIface]) (by simp [results, Tryz.results33, go_sem, p0, p1, p2, p3]) rfl ⟨HBF.out, .inr ⟨HOV.out, HNE.out, by omega, la, lc, by rw [HLL.out], by rw [← HLL.out]; exact HOF.out⟩⟩
end LedR
end Go.Proofs.YtlfebpgohpmknaaGreatDoor
namespace Go.Proofs.YtlfebpgohpmknaaGreatDoor
open Go.ChangeShapes Go.WideShapes Go.ChangeAt Go.RowKit
set_option linter.unusedVariables false
namespace LedR
open LinR RowG LtR NetR DocR
def LkW (rb : Nat) (a : ByteArray) (m : Int) (c : Nat) (mb : Option Nat) (W : World) : Prop := (Instr.lookup 54 (.map (some rb)) (.agg #[.string a, .int .i64 m]) false).run Tryz.prog W = .ok (.agg #[.int .i64 c, .map mb]) W
def LnW (mb : Option Nat) (F : List N) (W : World) : Prop := Calls Tryz.prog 42 #[.map mb] W fun e w' => ∃ v, e = .returned v ∧ w'.ownsRow W.heap.size 74 2 v F.length (cellsAll N.cells F) ∧ Below W.heap.size W w'
theorem rows_look (rb M : Nat) (ds : List D) (a : ByteArray) (m : Int) (W1 : World) (h : RowsM rb M ds W1) (hR : LRight ds) (hg : Good a m) (hsz : ∀ d ∈ ds, ∀ e ∈ d.ls, e.i.size ≤ 1048576) :
    ∃ mb, ∀ W, Below W1.heap.size W1 W → LkW rb a m (cnt ds a m) mb W ∧ LnW mb ((net ds a m).filter nz) W := by
  obtain ⟨Dm, f, h1, h2, h3, h4⟩ := h
  by_cases hc : cnt ds a m = 0
  · have hhas : Maps.has Dm (kP a m) = false := by
      cases hh : Maps.has Dm (kP a m)
      · rfl
      · obtain ⟨a', m', g, e, hn⟩ := h2 _ hh
        obtain ⟨rfl, rfl⟩ := kP_inj hg g e
        exact absurd hc hn
    refine ⟨none, fun W hb => ⟨?_, ?_⟩⟩
    · obtain ⟨v, ps, hrun, hv⟩ := (omap_below h1 hb).lookup keyedP Tryz.underlying54 (zeroR _) (zd := .held (.agg #[.int .i64 0, .map none])) (zp := []) rfl (keyP hg)
      obtain rfl : v = .agg #[.int .i64 0, .map none] := by
        rw [Maps.atKey_of_not_has hhas] at hv
        simp [RV] at hv
        exact hv.1
      unfold LkW
      rw [hrun, hc]
      rfl
    · unfold LnW
      rw [net_zero hc]
      exact lines_nil W
  · obtain ⟨_, hatk, _, _, Dn, M', hM', hNO, hNN⟩ := h3 a m hc
    have h30 := hR.1
    have hnl := (net_facts (ds := ds) ds.length (Nat.le_refl _) hR.2.1 a m).2.1
    rw [List.take_length] at hnl
    refine ⟨some (f a m), fun W hb => ⟨?_, ?_⟩⟩
    · obtain ⟨v, ps, hrun, hv⟩ := (omap_below h1 hb).lookup keyedP Tryz.underlying54 (zeroR _) (zd := .held (.agg #[.int .i64 0, .map none])) (zp := []) rfl (keyP hg)
      obtain rfl : v = .agg #[.int .i64 (cnt ds a m : Nat), .map (some (f a m))] := by
        rw [hatk] at hv
        simp [RV] at hv
        exact hv.1
      unfold LkW
      rw [hrun]
    · unfold LnW
      exact lines_any (f a m) M' Dn (net ds a m) W (omap_below hNO hb) (by omega) hNN (by omega) (net_size (a := a) (m := m) ds [] hsz (fun y h => by cases h))
/-- What nextDoc hands back, whatever it is. -/
def NxS (G : List N) (c n : Nat) (a : ByteArray) (m : Int) (base top : Nat) (s : ByteArray) (x y : Int) (la : Option Addr) (ll lc : Nat) (ev : Value) (w' : World) : Prop :=
  (∃ cd : Int, ev = .iface 91 (.agg #[.int .i64 cd]) ∧ ((ovB G = false ∧ cd = 12) ∨ (ovB G = true ∧ clL G = [] ∧ 0 < c ∧ cd = 7) ∨ (ovB G = true ∧ ¬ (clL G = [] ∧ 0 < c) ∧ 30 ≤ n ∧ cd = 9)))
  ∨ (ovB G = true ∧ ¬ (clL G = [] ∧ 0 < c) ∧ n < 30 ∧ ev = .nilIface ∧ s = a ∧ x = m ∧ y = c ∧ ll = (clL G).length ∧ w'.ownsRow base 74 2 (.slice la ll lc) ll (cellsAll N.cells (clL G)) ∧ ∀ b, (Value.slice la ll lc).ownBlock = some b → b < top)
theorem NxR.form {G : List N} {c n : Nat} {a : ByteArray} {m : Int} {w : World} {e : Ending} {w' : World} (h : NxR G c n a m w e w') : ∃ s x y la ll lc ev, e = .returned (.tuple #[.agg #[.string s, .int .i64 x, .int .i64 y, .slice la ll lc], ev]) ∧ NxS G c n a m w.heap.size w'.heap.size s x y la ll lc ev w' ∧ Below w.heap.size w w' := by
  obtain ⟨hb, ⟨cd, rfl, h⟩ | ⟨h1, h2, h3, la, lc, rfl, ho⟩⟩ := h
  · exact ⟨_, _, _, _, _, _, _, rfl, .inl ⟨cd, rfl, h⟩, hb⟩
  · exact ⟨_, _, _, _, _, _, _, rfl, .inr ⟨h1, h2, h3, rfl, rfl, rfl, rfl, rfl, ho, fun b h => (ho.lt b h).2⟩, hb⟩
theorem NxS.below {G : List N} {c n : Nat} {a : ByteArray} {m : Int} {base top : Nat} {s : ByteArray} {x y : Int} {la : Option Addr} {ll lc : Nat} {ev : Value} {w' w2 : World} (h : NxS G c n a m base top s x y la ll lc ev w') (hb : Below w'.heap.size w' w2) : NxS G c n a m base top s x y la ll lc ev w2 := by
  rcases h with h | ⟨h1, h2, h3, h4, h5, h6, h7, h8, h9, h10⟩
  · exact .inl h
  · exact .inr ⟨h1, h2, h3, h4, h5, h6, h7, h8, RowG.own_below h9 hb, h10⟩
theorem NxS.grown {G : List N} {c n : Nat} {a : ByteArray} {m : Int} {base top : Nat} {s : ByteArray} {x y : Int} {la : Option Addr} {ll lc : Nat} {ev : Value} {w' w2 : World} (h : NxS G c n a m base top s x y la ll lc ev w') {g : Nat} (hg : w'.grownBy w2 (some g)) (hx : g < base ∨ top ≤ g) : NxS G c n a m base top s x y la ll lc ev w2 := by
  rcases h with h | ⟨h1, h2, h3, h4, h5, h6, h7, h8, h9, h10⟩
  · exact .inl h
  · refine .inr ⟨h1, h2, h3, h4, h5, h6, h7, h8, OwG.own_keepO h9 hg (fun b hb => ?_), h10⟩
    have p1 := (h9.lt b hb).1
    have p2 := h10 b hb
    simp only [ne_eq, Option.some.injEq]
    omega
/-- What is held while the next document is laid. -/
def SI (WB : World) (pb rb : Nat) (a : ByteArray) (m : Int) (c : Nat) (mb : Option Nat) (W : World) : Prop := Below WB.heap.size WB W ∧ pb < W.heap.size ∧ W.cell? ⟨pb, 0, none⟩ = some (.string a) ∧ W.cell? ⟨pb, 1, none⟩ = some (.int .i64 m) ∧ (Instr.lookup 54 (.map (some rb)) (.agg #[.string a, .int .i64 m]) false).run Tryz.prog W = .ok (.agg #[.int .i64 c, .map mb]) W
theorem si_of {WB : World} {pb rb : Nat} {a : ByteArray} {m : Int} {c : Nat} {mb : Option Nat} (h : BlkW pb [.string a, .int .i64 m] WB) (hl : ∀ W, Below WB.heap.size WB W → LkW rb a m c mb W) : ∀ W, Below WB.heap.size WB W → SI WB pb rb a m c mb W := fun W hb =>
  ⟨hb, by have := hb.size; have := h.1.1; omega, (hb.cell (p := ⟨pb, 0, none⟩) h.1.1).trans (h.1.2 0 (by simp)), (hb.cell (p := ⟨pb, 1, none⟩) h.1.1).trans (h.1.2 1 (by simp)), hl W hb⟩
end LedR
end Go.Proofs.YtlfebpgohpmknaaGreatDoor
namespace Go.Proofs.YtlfebpgohpmknaaGreatDoor
open Go.RowKit Go.Extern.Stop Go.Stop Go.Extern
set_option linter.unusedVariables false
namespace AsD
theorem as_nil (t : Value) (w : World) :
    Calls Tryz.prog 61 #[.nilIface, t] w fun e w' => e = .returned (.bool false) ∧ w' = w := by
  go_enter Tryz.func61, Tryz.ntmps61
  go_wp2
  go_ret
  exact ⟨rfl, rfl⟩
theorem valueOfP (t : Addr) (w : World) : (ReflectliteValue.unpack (.iface 96 (.pointer (some t)))).run Tryz.prog w
    = .ok (.agg #[.pointer (some ⟨4, 96, none⟩), .pointer (some ⟨w.heap.size, 0, none⟩), .int .u64 150]) (w.alloc (.cells #[.pointer (some t)] 96)) := by kernel_rfl
theorem typeP (a : Addr) (w : World) : (ReflectliteValue.methodAny (ReflectliteValue.valueError "reflectlite.Value.Type" 0) (fun t _ _ _ => ReflectliteType.toType t) #[.agg #[.pointer (some ⟨4, 96, none⟩), .pointer (some a), .int .u64 150]]).run Tryz.prog w
    = .ok (.iface 130 (.agg #[.pointer (some ⟨4, 96, none⟩)])) w := by kernel_rfl
theorem methodKind (h : Value) (w : World) : (Go.method 302 130 (.agg #[h]) "Kind").run Tryz.prog w = .ok (132, h) w := by kernel_rfl
theorem kindP (w : World) : ((ReflectliteType.abiMethod fun t => (fun a : Nat => Value.int IntKind.u8 (a : Int)) <$> Rtype.kind t) #[.pointer (some ⟨4, 96, none⟩)]).run Tryz.prog w = .ok (.int .u8 22) w := by kernel_rfl
theorem kindE (w : World) : ((ReflectliteType.abiMethod fun t => (fun a : Nat => Value.int IntKind.u8 (a : Int)) <$> Rtype.kind t) #[.pointer (some ⟨4, 91, none⟩)]).run Tryz.prog w = .ok (.int .u8 25) w := by kernel_rfl
theorem method1 (z : Sem Value) (f : TypeId → Addr → Nat → Nat → Sem Value) (v : Value) :
    ReflectliteValue.method z f #[v] = (do match ← ReflectliteValue.parts v with | none => z | some (t, a, fl) => f t a fl (fl % 32)) := rfl
theorem partsP (a : Addr) (w : World) : (ReflectliteValue.parts (.agg #[.pointer (some ⟨4, 96, none⟩), .pointer (some a), .int .u64 150])).run Tryz.prog w = .ok (some (96, a, 150)) w := by kernel_rfl
theorem isNilP (a p : Addr) (W : World) (ha : W.cell? a = some (.pointer (some p))) :
    (ReflectliteValue.method (ReflectliteValue.valueError "reflectlite.Value.IsNil" 0) ReflectliteValue.isNil #[.agg #[.pointer (some ⟨4, 96, none⟩), .pointer (some a), .int .u64 150]]).run Tryz.prog W = .ok (.bool false) W := by
  rw [method1]
  simp only [Sem.run_bind, partsP, Result.andThen]
  simp [ReflectliteValue.isNil, loadVar, isAgg, underlying, Tryz.underlying96, ha, Result.andThen]
theorem methodElem (h : Value) (w : World) : (Go.method 302 130 (.agg #[h]) "Elem").run Tryz.prog w = .ok (143, .agg #[h]) w := by kernel_rfl
theorem methodImplements (h : Value) (w : World) : (Go.method 302 130 (.agg #[h]) "Implements").run Tryz.prog w = .ok (144, .agg #[h]) w := by kernel_rfl
theorem methodAssignableTo (h : Value) (w : World) : (Go.method 302 130 (.agg #[h]) "AssignableTo").run Tryz.prog w = .ok (141, .agg #[h]) w := by kernel_rfl
theorem elemP (w : World) : (ReflectliteType.method ReflectliteType.elem #[.agg #[.pointer (some ⟨4, 96, none⟩)]]).run Tryz.prog w = .ok (.iface 130 (.agg #[.pointer (some ⟨4, 91, none⟩)])) w := by kernel_rfl
theorem implementsE (w : World) : (ReflectliteType.relation "Implements" ReflectliteType.implements_ #[.agg #[.pointer (some ⟨4, 91, none⟩)], .iface 130 (.agg #[.pointer (some ⟨4, 56, none⟩)])]).run Tryz.prog w = .ok (.bool true) w := by kernel_rfl
theorem typeOfE (v : Value) (w : World) : (ReflectliteType.typeOf #[.iface 91 v]).run Tryz.prog w = .ok (.iface 130 (.agg #[.pointer (some ⟨4, 91, none⟩)])) w := by kernel_rfl
theorem assignableE (w : World) : (ReflectliteType.relation "AssignableTo" ReflectliteType.assignableTo #[.agg #[.pointer (some ⟨4, 91, none⟩)], .iface 130 (.agg #[.pointer (some ⟨4, 91, none⟩)])]).run Tryz.prog w = .ok (.bool true) w := by kernel_rfl
theorem valueOfE (c : Int) (w : World) : (ReflectliteValue.unpack (.iface 91 (.agg #[.int .i64 c]))).run Tryz.prog w
    = .ok (.agg #[.pointer (some ⟨4, 91, none⟩), .pointer (some ⟨w.heap.size, 0, none⟩), .int .u64 153]) (w.alloc (.cells #[.int .i64 c] 91)) := by kernel_rfl
theorem elemOfP (w : World) : (Rtype.elem? 96).run Tryz.prog w = .ok (some 91) w := by kernel_rfl
theorem mkE (p : Addr) (w : World) : (ReflectliteValue.mk 91 p ReflectliteValue.flagAddr).run Tryz.prog w = .ok (.agg #[.pointer (some ⟨4, 91, none⟩), .pointer (some p), .int .u64 409]) w := by kernel_rfl
theorem elemVP (a p : Addr) (W : World) (ha : W.cell? a = some (.pointer (some p))) :
    (ReflectliteValue.method (ReflectliteValue.valueError "reflectlite.Value.Elem" 0) ReflectliteValue.elem #[.agg #[.pointer (some ⟨4, 96, none⟩), .pointer (some a), .int .u64 150]]).run Tryz.prog W
      = .ok (.agg #[.pointer (some ⟨4, 91, none⟩), .pointer (some p), .int .u64 409]) W := by
  rw [method1]
  simp only [Sem.run_bind, partsP, Result.andThen]
  simp [ReflectliteValue.elem, loadVar, isAgg, underlying, Tryz.underlying96, ha, Result.andThen, elemOfP, mkE]
theorem partsEa (a : Addr) (w : World) : (ReflectliteValue.parts (.agg #[.pointer (some ⟨4, 91, none⟩), .pointer (some a), .int .u64 409])).run Tryz.prog w = .ok (some (91, a, 409)) w := by kernel_rfl
theorem partsE (a : Addr) (w : World) : (ReflectliteValue.parts (.agg #[.pointer (some ⟨4, 91, none⟩), .pointer (some a), .int .u64 153])).run Tryz.prog w = .ok (some (91, a, 153)) w := by kernel_rfl
theorem directE (w : World) : (Rtype.directlyAssignable 91 91).run Tryz.prog w = .ok true w := by kernel_rfl
theorem sizeE (w : World) : (sizeOf 91).run Tryz.prog w = .ok 1 w := by kernel_rfl
end AsD
end Go.Proofs.YtlfebpgohpmknaaGreatDoor
namespace Go.Proofs.YtlfebpgohpmknaaGreatDoor
open Go.RowKit Go.Extern.Stop Go.Stop Go.Extern
set_option linter.unusedVariables false
namespace AsD
theorem hid_intro {p : Prop} (h : p) : Hid p := h
set_option maxRecDepth 100000 in
theorem setE (ta b : Addr) (c : Int) (old : Value) (W : World) (hb : W.cell? b = some (.int .i64 c)) (ht : W.cell? ta = some old) (hf : W.frozen? ta = false) (hb0 : b.add 0 = b) (ht0 : ta.add 0 = ta) :
    (ReflectliteValue.set #[.agg #[.pointer (some ⟨4, 91, none⟩), .pointer (some ta), .int .u64 409], .agg #[.pointer (some ⟨4, 91, none⟩), .pointer (some b), .int .u64 153]]).run Tryz.prog W
      = .ok (.tuple #[]) (W.setCell ta (.int .i64 c)) := by
  have hl : (loadCells b 1).run Tryz.prog W = .ok #[.int .i64 c] W := by
    have := run_loadCells_list (P := Tryz.prog) W b [.int .i64 c] (fun j v hj => by
      match j, hj with
      | 0, hj => simp at hj; subst hj; rw [hb0]; exact hb)
    simpa using this
  show Sem.run Tryz.prog (bind (ReflectliteValue.parts (.agg #[.pointer (some ⟨4, 91, none⟩), .pointer (some ta), .int .u64 409])) _) W = _
  rw [Sem.run_bind, partsEa]
  show Sem.run Tryz.prog (bind (ReflectliteValue.parts (.agg #[.pointer (some ⟨4, 91, none⟩), .pointer (some b), .int .u64 153])) _) W = _
  rw [Sem.run_bind, partsE]
  simp only [Result.andThen]
  simp [ReflectliteValue.flagAddr, loadVar, isAgg, underlying, Tryz.underlying91, Result.andThen, directE, storeVar, Value.cells, storeCells, hl, ht0]
  rw [run_store Tryz.prog W ta _ _ (by rfl)]
  simp [ht, hf]

set_option maxHeartbeats 4000000 in
theorem as_hit (c : Int) (w : World) (hlt : 0 < w.heap.size) (hg : w.cell? ⟨0, 0, none⟩ = some (.iface 130 (.agg #[.pointer (some ⟨4, 56, none⟩)]))) (tb : Nat) (htl : tb < w.heap.size) (old : Value) (ht0 : w.cell? ⟨tb, 0, none⟩ = some old) (hf0 : w.frozen? ⟨tb, 0, none⟩ = false) :
    Calls Tryz.prog 61 #[.iface 91 (.agg #[.int .i64 c]), .iface 96 (.pointer (some ⟨tb, 0, none⟩))] w fun ev w' => ev = .returned (.bool true) ∧ w'.cell? ⟨tb, 0, none⟩ = some (.int .i64 c) ∧ Below tb w w' ∧ w.heap.size ≤ w'.heap.size := by
  have h17 := @run_callFunc_extern Tryz.prog 75 _ (fun args => ReflectliteValue.unpack (args.getD 0 (.tuple #[]))) Tryz.func75 (by kernel_rfl) (by kernel_rfl) (by kernel_rfl) (by kernel_rfl)
  have h18 := @run_callFunc_extern Tryz.prog 76 _ (ReflectliteValue.methodAny (ReflectliteValue.valueError "reflectlite.Value.Type" 0) (fun t _ _ _ => ReflectliteType.toType t)) Tryz.func76 (by kernel_rfl) (by kernel_rfl) (by kernel_rfl) (by kernel_rfl)
  have h19 := @run_callFunc_extern Tryz.prog 77 _ (ReflectliteValue.method (ReflectliteValue.valueError "reflectlite.Value.IsNil" 0) ReflectliteValue.isNil) Tryz.func77 (by kernel_rfl) (by kernel_rfl) (by kernel_rfl) (by kernel_rfl)
  have hK := @run_callFunc_extern Tryz.prog 132 _ (ReflectliteType.abiMethod fun t => do pure (.int .u8 (← Rtype.kind t))) Tryz.func132 (by kernel_rfl) (by kernel_rfl) (by kernel_rfl) (by kernel_rfl)
  have hE := @run_callFunc_extern Tryz.prog 143 _ (ReflectliteType.method ReflectliteType.elem) Tryz.func143 (by kernel_rfl) (by kernel_rfl) (by kernel_rfl) (by kernel_rfl)
  have hI := @run_callFunc_extern Tryz.prog 144 _ (ReflectliteType.relation "Implements" ReflectliteType.implements_) Tryz.func144 (by kernel_rfl) (by kernel_rfl) (by kernel_rfl) (by kernel_rfl)
  have hT := @run_callFunc_extern Tryz.prog 88 _ ReflectliteType.typeOf Tryz.func88 (by kernel_rfl) (by kernel_rfl) (by kernel_rfl) (by kernel_rfl)
  have hA := @run_callFunc_extern Tryz.prog 141 _ (ReflectliteType.relation "AssignableTo" ReflectliteType.assignableTo) Tryz.func141 (by kernel_rfl) (by kernel_rfl) (by kernel_rfl) (by kernel_rfl)
  have hL := @run_callFunc_extern Tryz.prog 89 _ (ReflectliteValue.method (ReflectliteValue.valueError "reflectlite.Value.Elem" 0) ReflectliteValue.elem) Tryz.func89 (by kernel_rfl) (by kernel_rfl) (by kernel_rfl) (by kernel_rfl)
  have hS := @run_callFunc_extern Tryz.prog 90 _ ReflectliteValue.set Tryz.func90 (by kernel_rfl) (by kernel_rfl) (by kernel_rfl) (by kernel_rfl)
  have f1 := typeOfE
  have f2 := methodAssignableTo
  have f3 := assignableE
  have f4 := valueOfE c
  have f5 := valueOfP ⟨tb, 0, none⟩
  have f6 := typeP
  have f7 := methodKind
  have f8 := methodElem
  have f9 := methodImplements
  have f10 := kindP
  have f11 := kindE
  have f12 := elemP
  have f13 := implementsE
  have n8 := isNilP ⟨w.heap.size, 0, none⟩ ⟨tb, 0, none⟩ ((w.alloc (.cells #[.pointer (some ⟨tb, 0, none⟩)] 96)).alloc (.cells #[.pointer (some ⟨4, 96, none⟩), .pointer (some ⟨w.heap.size, 0, none⟩), .int .u64 150] 112)) (by simp)
  have hg2 : ((w.alloc (.cells #[.pointer (some ⟨tb, 0, none⟩)] 96)).alloc (.cells #[.pointer (some ⟨4, 96, none⟩), .pointer (some ⟨w.heap.size, 0, none⟩), .int .u64 150] 112)).cell? ⟨0, 0, none⟩ = some (.iface 130 (.agg #[.pointer (some ⟨4, 56, none⟩)])) := by
    rw [World.cell?_alloc_lt _ _ ⟨0, 0, none⟩ (by simp), World.cell?_alloc_lt _ _ ⟨0, 0, none⟩ hlt]; exact hg
  have el := elemVP ⟨w.heap.size, 0, none⟩ ⟨tb, 0, none⟩ (((w.alloc (.cells #[.pointer (some ⟨tb, 0, none⟩)] 96)).alloc (.cells #[.pointer (some ⟨4, 96, none⟩), .pointer (some ⟨w.heap.size, 0, none⟩), .int .u64 150] 112)).alloc (.cells #[.pointer (some ⟨4, 96, none⟩), .pointer (some ⟨w.heap.size, 0, none⟩), .int .u64 150] 112)) (by rw [World.cell?_alloc_lt _ _ ⟨w.heap.size, 0, none⟩ (by simp; omega)]; simp)
  have hcW : ((((w.alloc (.cells #[.pointer (some ⟨tb, 0, none⟩)] 96)).alloc (.cells #[.pointer (some ⟨4, 96, none⟩), .pointer (some ⟨w.heap.size, 0, none⟩), .int .u64 150] 112)).alloc (.cells #[.pointer (some ⟨4, 96, none⟩), .pointer (some ⟨w.heap.size, 0, none⟩), .int .u64 150] 112)).alloc (.cells #[.int .i64 c] 91)).cell? ⟨tb, 0, none⟩ = some old := by
    rw [World.cell?_alloc_lt _ _ ⟨tb, 0, none⟩ (by simp; omega), World.cell?_alloc_lt _ _ ⟨tb, 0, none⟩ (by simp; omega), World.cell?_alloc_lt _ _ ⟨tb, 0, none⟩ (by simp; omega), World.cell?_alloc_lt _ _ ⟨tb, 0, none⟩ htl]; exact ht0
  have HW := hid_intro hcW
  have st := setE ⟨tb, 0, none⟩ ⟨w.heap.size + 1 + 1 + 1, 0, none⟩ c old ((((w.alloc (.cells #[.pointer (some ⟨tb, 0, none⟩)] 96)).alloc (.cells #[.pointer (some ⟨4, 96, none⟩), .pointer (some ⟨w.heap.size, 0, none⟩), .int .u64 150] 112)).alloc (.cells #[.pointer (some ⟨4, 96, none⟩), .pointer (some ⟨w.heap.size, 0, none⟩), .int .u64 150] 112)).alloc (.cells #[.int .i64 c] 91))
    (by rw [World.cell?_alloc_at _ _ _ _ (by simp)]; rfl)
    hcW
    (by rw [World.frozen?_alloc_old _ _ ⟨tb, 0, none⟩ (by simp; omega), World.frozen?_alloc_old _ _ ⟨tb, 0, none⟩ (by simp; omega), World.frozen?_alloc_old _ _ ⟨tb, 0, none⟩ (by simp; omega), World.frozen?_alloc_old _ _ ⟨tb, 0, none⟩ (Nat.ne_of_lt htl)]; exact hf0)
    rfl rfl
  clear hcW
  go_enter Tryz.func61, Tryz.ntmps61
  go_wp2
  refine wp_loop_rounds 1 ?_
  rw [rounds_succ]
  go_wp2
  go_ret
  refine ⟨rfl, ?_, ?_, ?_⟩
  · exact World.cell?_setCell_same _ _ _ HW.out
  · exact (((((Below.refl tb w).alloc (by omega) _).alloc (by simp; omega) _).alloc (by simp; omega) _).alloc (by simp; omega) _).setCell (Nat.le_refl _) _
  · simp; omega
/-- What the walks are told of errors' own variable. -/
def Laid (w : World) : Prop := 0 < w.heap.size ∧ w.cell? ⟨0, 0, none⟩ = some (.iface 130 (.agg #[.pointer (some ⟨4, 56, none⟩)]))
theorem Laid.below {w w' : World} (h : Laid w) (hb : Below w.heap.size w w') : Laid w' :=
  ⟨Nat.lt_of_lt_of_le h.1 hb.size, (hb.cell (p := ⟨0, 0, none⟩) h.1).trans h.2⟩
theorem Laid.alloc {w : World} (h : Laid w) (o : Obj) : Laid (w.alloc o) := h.below ((Below.refl _ _).alloc (Nat.le_refl _) _)
theorem code_nil (w : World) :
    Calls Tryz.prog 34 #[.nilIface] w fun e w' => e = .returned (.int .i64 0) ∧ Below w.heap.size w w' := by
  go_enter Tryz.func34, Tryz.ntmps34
  go_wp2_with (go_at_call 61; refine (as_nil _ _).mono ?_; rintro e w' ⟨rfl, rfl⟩)
  go_ret
  exact ⟨rfl, (Below.refl _ _).alloc (Nat.le_refl _) _⟩
theorem code_hit (c : Int) (w : World) (h : Laid w) :
    Calls Tryz.prog 34 #[.iface 91 (.agg #[.int .i64 c])] w fun e w' => e = .returned (.int .i64 c) ∧ Below w.heap.size w w' := by
  have hl := h.alloc (.cells #[.int .i64 0] 91)
  have h1 := as_hit c (w.alloc (.cells #[.int .i64 0] 91)) hl.1 hl.2 w.heap.size (by simp) (.int .i64 0) (by simp) (by simp)
  clear hl
  go_enter Tryz.func34, Tryz.ntmps34
  go_wp2_with (go_at_call 61; refine h1.mono ?_; rintro e w1 ⟨rfl, hcell, hbel, hsz⟩)
  go_ret
  exact ⟨rfl, ((Below.refl _ _).alloc (Nat.le_refl _) _).trans hbel⟩
end AsD
end Go.Proofs.YtlfebpgohpmknaaGreatDoor
namespace Go.Proofs.YtlfebpgohpmknaaGreatDoor
open Go.ChangeShapes Go.WideShapes Go.ChangeAt Go.RowKit
set_option linter.unusedVariables false
namespace LedR
open LinR RowG LtR NetR DocR
set_option maxRecDepth 100000 in
set_option maxHeartbeats 8000000 in
theorem iissue (ao bo : Option Addr) (cap capb : Nat) (ds : List D) (a : ByteArray) (m : Int) (bl : List N) (w : World) (hlay : AsD.Laid w) (hlen : ds.length ≤ 1048576) (hcap : ds.length ≤ cap) (hao : (ao = none ∧ ds.length = 0) ∨ ∃ b off, ao = some ⟨b, off, none⟩) (hSm : ∀ d ∈ ds, d.Sm) (hwf : ∀ d ∈ ds, (Lit.int .i64 d.mo).wf = true) (hg : Good a m) (hlb : bl.length ≤ 1048576) (hsb : ∀ e ∈ bl, e.i.size ≤ 1048576) (hI : Dcs ao ds w) (hL : Lis bo bl w) :
    Calls Tryz.prog 5 #[.slice ao ds.length cap, .string a, .int .i64 m, .slice bo bl.length capb] w fun e w' => ∃ v, e = .returned v ∧ LoO w.heap.size v (isD ds a m bl) (isX ds a m bl) (isC ds a m bl) w' ∧ Below w.heap.size w w' := by
  have HWI := hid_intro (fun (d : D) la lc W (hb : Below w.heap.size w W) (hS : d.Sm) (hN : ∀ x ∈ ds ++ [d], x.ls.filter nz = x.ls) (hl : Lis la d.ls W) (h30 : ds.length ≤ 1048575) => iwith ao cap ds d la lc W h30 hcap hao (fun x hx => by rcases List.mem_append.1 hx with h | h; exact hSm x h; rw [List.mem_singleton] at h; subst h; exact hS) hN (hI.below hb) hl)
  have HRO := hid_intro (fun W (hb : Below w.heap.size w W) => irows ao cap ds W (by omega) hSm hwf (hI.below hb))
  have HNR := hid_intro (fun W => NameR.impl_any a W hg.1)
  have HMO := hid_intro (fun W => iMon m W)
  have HLR := hid_intro (fun W (hb : Below w.heap.size w W) => impl_lines bo capb bl W hlb hsb (hL.below hb))
  have HKY := hid_intro (keyP hg)
  have HLay := hid_intro hlay
  have HG := hid_intro hg
  have HI := hid_intro hI
  have HL := hid_intro hL
  have HSB := hid_intro hsb
  have HSM := hid_intro hSm
  have HBg := hid_intro (isBig ds a m bl)
  have HFm := hid_intro (isForm ds a m bl)
  have HGo := hid_intro (isGo ds a m bl)
  have hga := hg.1
  obtain ⟨len, hl⟩ : ∃ len, len = ds.length := ⟨_, rfl⟩
  obtain ⟨lb, hl2⟩ : ∃ lb, lb = bl.length := ⟨_, rfl⟩
  rw [← hl] at HWI HRO HBg HFm hlen hcap ⊢
  rw [← hl2] at HLR HBg HFm hlb ⊢
  have HLN := hid_intro hl
  have HLB := hid_intro hl2
  obtain ⟨sa, hsa⟩ : ∃ sa, sa = a.size := ⟨_, rfl⟩
  have HSA := hid_intro hsa
  obtain ⟨W0, hW0⟩ : ∃ W0, W0 = w.alloc (.cells #[.slice none 0 0, .string ⟨#[]⟩, .int .i64 0, .int .i64 0, .slice none 0 0, .int .i64 0] 30) := ⟨_, rfl⟩
  have HB0 : Hid (Below w.heap.size w W0) := hid_intro (by rw [hW0]; exact (Below.refl _ _).alloc (Nat.le_refl _) _)
  have HR0 : Hid (BlkW w.heap.size [.slice none 0 0, .string ⟨#[]⟩, .int .i64 0, .int .i64 0, .slice none 0 0, .int .i64 0] W0) := hid_intro (by rw [hW0]; exact BlkW.new w [.slice none 0 0, .string ⟨#[]⟩, .int .i64 0, .int .i64 0, .slice none 0 0, .int .i64 0] 30)
  have HW := hid_intro hW0
  clear hI hL hsb hSm hwf hg hlay hl hl2 hsa hW0 hao
  by_cases hbig : 400 < len ∨ 8000 < a.size ∨ 400 < lb
  · have HE := hid_intro (HBg.out hbig)
    clear HWI HRO HNR HMO HLR HKY HBg HFm HGo HLay HG HI HL HSB HSM HSA HLN HLB
    go_enter Tryz.func5, Tryz.ntmps5
    by_cases h1 : 400 < len
    · have h1' : (400 : Int) < (len : Int) := by omega
      go_wp2_with fail
      refine bodyPost_ret (v := .agg #[.slice none 0 0, .string ⟨#[]⟩, .int .i64 0, .int .i64 0, .slice none 0 0, .int .i64 2]) (by simp [results, Tryz.results5, go_sem]) rfl ⟨_, rfl, by rw [HE.out.1, HE.out.2.1, HE.out.2.2]; exact loO_of (dso_nil _ _), (Below.refl _ _).alloc (Nat.le_refl _) _⟩
    have h1' : ¬ (400 : Int) < (len : Int) := by omega
    by_cases h2 : 8000 < a.size
    · have h2' : (8000 : Int) < (a.size : Int) := by omega
      go_wp2_with fail
      refine bodyPost_ret (v := .agg #[.slice none 0 0, .string ⟨#[]⟩, .int .i64 0, .int .i64 0, .slice none 0 0, .int .i64 2]) (by simp [results, Tryz.results5, go_sem]) rfl ⟨_, rfl, by rw [HE.out.1, HE.out.2.1, HE.out.2.2]; exact loO_of (dso_nil _ _), (Below.refl _ _).alloc (Nat.le_refl _) _⟩
    have h2' : ¬ (8000 : Int) < (a.size : Int) := by omega
    have h3' : (400 : Int) < (lb : Int) := by omega
    go_wp2_with fail
    refine bodyPost_ret (v := .agg #[.slice none 0 0, .string ⟨#[]⟩, .int .i64 0, .int .i64 0, .slice none 0 0, .int .i64 2]) (by simp [results, Tryz.results5, go_sem]) rfl ⟨_, rfl, by rw [HE.out.1, HE.out.2.1, HE.out.2.2]; exact loO_of (dso_nil _ _), (Below.refl _ _).alloc (Nat.le_refl _) _⟩
  have hb1 : ¬ (400 : Int) < (len : Int) := by omega
  have hb2 : ¬ (8000 : Int) < (a.size : Int) := by omega
  have hb3 : ¬ (400 : Int) < (lb : Int) := by omega
  replace HFm := hid_intro (HFm.out hbig)
  go_enter Tryz.func5, Tryz.ntmps5
  go_wp2_with fail
  rw [← HW.out]
  refine (HRO.out _ HB0.out).mono ?_
  rintro e w1 ⟨hb, hro⟩
  have HB1 := hid_intro (HB0.out.trans (hb.mono HB0.out.size))
  have HR1 := hid_intro (HR0.out.below hb)
  have HBr := hid_intro hb
  clear hb HB0 HR0 HW
  rcases hro with ⟨hlB, c, rfl⟩ | ⟨hlB, M, rfl, hrows⟩
  · have HE := hid_intro (HFm.out (by unfold isFormB; rw [hlB]; rfl))
    clear hlB
    obtain ⟨⟨rl, rk⟩, rf⟩ := HR1.out
    have p0 : w1.cell? ⟨w.heap.size, 0, none⟩ = some (.slice none 0 0) := rk 0 (by simp)
    have f0 : w1.frozen? ⟨w.heap.size, 0, none⟩ = false := rf 0 (by simp)
    have p1 : w1.cell? ⟨w.heap.size, 1, none⟩ = some (.string ⟨#[]⟩) := rk 1 (by simp)
    have f1 : w1.frozen? ⟨w.heap.size, 1, none⟩ = false := rf 1 (by simp)
    have p2 : w1.cell? ⟨w.heap.size, 2, none⟩ = some (.int .i64 0) := rk 2 (by simp)
    have f2 : w1.frozen? ⟨w.heap.size, 2, none⟩ = false := rf 2 (by simp)
    have p3 : w1.cell? ⟨w.heap.size, 3, none⟩ = some (.int .i64 0) := rk 3 (by simp)
    have f3 : w1.frozen? ⟨w.heap.size, 3, none⟩ = false := rf 3 (by simp)
    have p4 : w1.cell? ⟨w.heap.size, 4, none⟩ = some (.slice none 0 0) := rk 4 (by simp)
    have f4 : w1.frozen? ⟨w.heap.size, 4, none⟩ = false := rf 4 (by simp)
    have p5 : w1.cell? ⟨w.heap.size, 5, none⟩ = some (.int .i64 0) := rk 5 (by simp)
    have f5 : w1.frozen? ⟨w.heap.size, 5, none⟩ = false := rf 5 (by simp)
    have hg := StR.stL_grown w.heap.size [.slice none 0 0, .string ⟨#[]⟩, .int .i64 0, .int .i64 0, .slice none 0 0, .int .i64 1] 0 w1
    have HBF := hid_intro (HB1.out.grown hg HB1.out.size (fun k e => by simp only [Option.some.injEq] at e; omega))
    simp only [StR.stL, Nat.zero_add, Nat.reduceAdd] at HBF
    clear hg rk rf
    go_wp2_with fail
    refine bodyPost_ret (v := .agg #[.slice none 0 0, .string ⟨#[]⟩, .int .i64 0, .int .i64 0, .slice none 0 0, .int .i64 1]) (by simp [results, Tryz.results5, go_sem, p0, p1, p2, p3, p4, p5]) rfl ⟨_, rfl, by rw [HE.out.1, HE.out.2.1, HE.out.2.2]; exact loO_of (dso_nil _ _), HBF.out⟩
  have HLR2 := hid_intro (lB_iff.1 hlB)
  have HRW := hid_intro hrows
  have HlB := hid_intro hlB
  clear hrows hlB
  obtain ⟨b2, hb2e⟩ : ∃ b, b = NameR.nameB a := ⟨_, rfl⟩
  obtain ⟨b3, hb3e⟩ : ∃ b, b = decide (0 ≤ m ∧ m ≤ 2760) := ⟨_, rfl⟩
  obtain ⟨b4, hb4e⟩ : ∃ b, b = sB bl := ⟨_, rfl⟩
  rw [← hb2e] at HNR
  rw [← hb3e] at HMO
  rw [← hb4e] at HLR
  have HFB : Hid (isFormB ds a m bl = (b2 && (b3 && b4))) := hid_intro (by unfold isFormB; rw [HlB.out, ← hb2e, ← hb3e, ← hb4e]; rfl)
  have Hb4 := hid_intro hb4e
  clear hb2e hb3e hb4e
  cases b2
  · have HE := hid_intro (HFm.out (by rw [HFB.out]; rfl))
    go_wp2_with fail
    refine (HNR.out _).mono ?_
    rintro e w2 ⟨rfl, rfl⟩
    obtain ⟨⟨rl, rk⟩, rf⟩ := HR1.out
    have p0 : w2.cell? ⟨w.heap.size, 0, none⟩ = some (.slice none 0 0) := rk 0 (by simp)
    have f0 : w2.frozen? ⟨w.heap.size, 0, none⟩ = false := rf 0 (by simp)
    have p1 : w2.cell? ⟨w.heap.size, 1, none⟩ = some (.string ⟨#[]⟩) := rk 1 (by simp)
    have f1 : w2.frozen? ⟨w.heap.size, 1, none⟩ = false := rf 1 (by simp)
    have p2 : w2.cell? ⟨w.heap.size, 2, none⟩ = some (.int .i64 0) := rk 2 (by simp)
    have f2 : w2.frozen? ⟨w.heap.size, 2, none⟩ = false := rf 2 (by simp)
    have p3 : w2.cell? ⟨w.heap.size, 3, none⟩ = some (.int .i64 0) := rk 3 (by simp)
    have f3 : w2.frozen? ⟨w.heap.size, 3, none⟩ = false := rf 3 (by simp)
    have p4 : w2.cell? ⟨w.heap.size, 4, none⟩ = some (.slice none 0 0) := rk 4 (by simp)
    have f4 : w2.frozen? ⟨w.heap.size, 4, none⟩ = false := rf 4 (by simp)
    have p5 : w2.cell? ⟨w.heap.size, 5, none⟩ = some (.int .i64 0) := rk 5 (by simp)
    have f5 : w2.frozen? ⟨w.heap.size, 5, none⟩ = false := rf 5 (by simp)
    have hg := StR.stL_grown w.heap.size [.slice none 0 0, .string ⟨#[]⟩, .int .i64 0, .int .i64 0, .slice none 0 0, .int .i64 1] 0 w2
    have HBF := hid_intro (HB1.out.grown hg HB1.out.size (fun k e => by simp only [Option.some.injEq] at e; omega))
    simp only [StR.stL, Nat.zero_add, Nat.reduceAdd] at HBF
    clear hg rk rf
    go_wp2_with fail
    refine bodyPost_ret (v := .agg #[.slice none 0 0, .string ⟨#[]⟩, .int .i64 0, .int .i64 0, .slice none 0 0, .int .i64 1]) (by simp [results, Tryz.results5, go_sem, p0, p1, p2, p3, p4, p5]) rfl ⟨_, rfl, by rw [HE.out.1, HE.out.2.1, HE.out.2.2]; exact loO_of (dso_nil _ _), HBF.out⟩
  cases b3
  · have HE := hid_intro (HFm.out (by rw [HFB.out]; rfl))
    go_wp2_with fail
    refine (HNR.out _).mono ?_
    rintro e w2 ⟨rfl, rfl⟩
    go_wp2_with fail
    refine (HMO.out _).mono ?_
    rintro e w3 ⟨rfl, rfl⟩
    obtain ⟨⟨rl, rk⟩, rf⟩ := HR1.out
    have p0 : w3.cell? ⟨w.heap.size, 0, none⟩ = some (.slice none 0 0) := rk 0 (by simp)
    have f0 : w3.frozen? ⟨w.heap.size, 0, none⟩ = false := rf 0 (by simp)
    have p1 : w3.cell? ⟨w.heap.size, 1, none⟩ = some (.string ⟨#[]⟩) := rk 1 (by simp)
    have f1 : w3.frozen? ⟨w.heap.size, 1, none⟩ = false := rf 1 (by simp)
    have p2 : w3.cell? ⟨w.heap.size, 2, none⟩ = some (.int .i64 0) := rk 2 (by simp)
    have f2 : w3.frozen? ⟨w.heap.size, 2, none⟩ = false := rf 2 (by simp)
    have p3 : w3.cell? ⟨w.heap.size, 3, none⟩ = some (.int .i64 0) := rk 3 (by simp)
    have f3 : w3.frozen? ⟨w.heap.size, 3, none⟩ = false := rf 3 (by simp)
    have p4 : w3.cell? ⟨w.heap.size, 4, none⟩ = some (.slice none 0 0) := rk 4 (by simp)
    have f4 : w3.frozen? ⟨w.heap.size, 4, none⟩ = false := rf 4 (by simp)
    have p5 : w3.cell? ⟨w.heap.size, 5, none⟩ = some (.int .i64 0) := rk 5 (by simp)
    have f5 : w3.frozen? ⟨w.heap.size, 5, none⟩ = false := rf 5 (by simp)
    have hg := StR.stL_grown w.heap.size [.slice none 0 0, .string ⟨#[]⟩, .int .i64 0, .int .i64 0, .slice none 0 0, .int .i64 1] 0 w3
    have HBF := hid_intro (HB1.out.grown hg HB1.out.size (fun k e => by simp only [Option.some.injEq] at e; omega))
    simp only [StR.stL, Nat.zero_add, Nat.reduceAdd] at HBF
    clear hg rk rf
    go_wp2_with fail
    refine bodyPost_ret (v := .agg #[.slice none 0 0, .string ⟨#[]⟩, .int .i64 0, .int .i64 0, .slice none 0 0, .int .i64 1]) (by simp [results, Tryz.results5, go_sem, p0, p1, p2, p3, p4, p5]) rfl ⟨_, rfl, by rw [HE.out.1, HE.out.2.1, HE.out.2.2]; exact loO_of (dso_nil _ _), HBF.out⟩
  go_wp2_with fail
  refine (HNR.out _).mono ?_
  rintro e w2 ⟨rfl, rfl⟩
  go_wp2_with fail
  refine (HMO.out _).mono ?_
  rintro e w3 ⟨rfl, rfl⟩
  go_wp2_with fail
  refine (HLR.out _ HB1.out).mono ?_
  rintro e w4 ⟨rfl, hb4⟩
  have HB4 := hid_intro (HB1.out.trans (hb4.mono HB1.out.size))
  have HR4 := hid_intro (HR1.out.below hb4)
  have HBr4 := hid_intro hb4
  clear hb4 HB1 HR1
  cases b4
  · have HE := hid_intro (HFm.out (by rw [HFB.out]; rfl))
    obtain ⟨⟨rl, rk⟩, rf⟩ := HR4.out
    have p0 : w4.cell? ⟨w.heap.size, 0, none⟩ = some (.slice none 0 0) := rk 0 (by simp)
    have f0 : w4.frozen? ⟨w.heap.size, 0, none⟩ = false := rf 0 (by simp)
    have p1 : w4.cell? ⟨w.heap.size, 1, none⟩ = some (.string ⟨#[]⟩) := rk 1 (by simp)
    have f1 : w4.frozen? ⟨w.heap.size, 1, none⟩ = false := rf 1 (by simp)
    have p2 : w4.cell? ⟨w.heap.size, 2, none⟩ = some (.int .i64 0) := rk 2 (by simp)
    have f2 : w4.frozen? ⟨w.heap.size, 2, none⟩ = false := rf 2 (by simp)
    have p3 : w4.cell? ⟨w.heap.size, 3, none⟩ = some (.int .i64 0) := rk 3 (by simp)
    have f3 : w4.frozen? ⟨w.heap.size, 3, none⟩ = false := rf 3 (by simp)
    have p4 : w4.cell? ⟨w.heap.size, 4, none⟩ = some (.slice none 0 0) := rk 4 (by simp)
    have f4 : w4.frozen? ⟨w.heap.size, 4, none⟩ = false := rf 4 (by simp)
    have p5 : w4.cell? ⟨w.heap.size, 5, none⟩ = some (.int .i64 0) := rk 5 (by simp)
    have f5 : w4.frozen? ⟨w.heap.size, 5, none⟩ = false := rf 5 (by simp)
    have hg := StR.stL_grown w.heap.size [.slice none 0 0, .string ⟨#[]⟩, .int .i64 0, .int .i64 0, .slice none 0 0, .int .i64 1] 0 w4
    have HBF := hid_intro (HB4.out.grown hg HB4.out.size (fun k e => by simp only [Option.some.injEq] at e; omega))
    simp only [StR.stL, Nat.zero_add, Nat.reduceAdd] at HBF
    clear hg rk rf
    go_wp2_with fail
    refine bodyPost_ret (v := .agg #[.slice none 0 0, .string ⟨#[]⟩, .int .i64 0, .int .i64 0, .slice none 0 0, .int .i64 1]) (by simp [results, Tryz.results5, go_sem, p0, p1, p2, p3, p4, p5]) rfl ⟨_, rfl, by rw [HE.out.1, HE.out.2.1, HE.out.2.2]; exact loO_of (dso_nil _ _), HBF.out⟩
  have HG2 := hid_intro (HGo.out (by rw [← HLN.out, ← HLB.out]; exact hbig) (by rw [HFB.out]; rfl))
  have HSR := hid_intro (sB_iff.1 Hb4.out.symm)
  clear HFm HFB HNR HMO HLR HGo HBg Hb4 HRO
  obtain ⟨mb, hlk⟩ := rows_look W0.heap.size M ds a m w3 HRW.out HLR2.out HG.out (fun d hd => (HSM.out d hd).2.2)
  have hnF : (net ds a m).length ≤ 180 := by
    have h1 := (net_facts (ds := ds) ds.length (Nat.le_refl _) HLR2.out.2.1 a m).2.1
    rw [List.take_length] at h1
    have h2 := HLR2.out.1
    omega
  have HNX := hid_intro (fun W (hb : Below w4.heap.size w4 W) => inext ao bo cap capb len (cnt ds a m) a m mb ((net ds a m).filter nz) bl W (by omega) (by have := cnt_le ds a m; have := HLN.out; omega)
    (fun W' hb' => (hlk W' ((HBr4.out.trans (hb.mono HBr4.out.size)).trans (hb'.mono (HBr4.out.trans (hb.mono HBr4.out.size)).size))).2)
    (by have := HSR.out.1; omega) (by have := List.length_filter_le nz (net ds a m); omega) HSB.out
    (fun e he => net_size (a := a) (m := m) ds [] (fun d hd => (HSM.out d hd).2.2) (fun y h => by cases h) e (List.mem_filter.1 he).1)
    (num_of HSR.out)
    (fun e he => by
      have h1 := ov_net HLR2.out a m
      unfold ovB at h1
      rw [List.all_eq_true] at h1
      have := h1 e (List.mem_filter.1 he).1
      unfold nOk at this
      exact of_decide_eq_true this)
    (rise_of HSR.out) (HL.out.below (HB4.out.trans (hb.mono HB4.out.size))))
  have HSG : Hid (∀ e ∈ clL (moreG ds a m bl), e.i.size ≤ 1048576) := hid_intro (fun e he => by
    have h1 : e ∈ moreG ds a m bl := by
      unfold clL at he
      cases h : ovB (moreG ds a m bl)
      · rw [h] at he; simp at he
      · rw [h, cond_true] at he; exact (List.mem_filter.1 he).1
    exact all_size HSB.out (fun e he => net_size (a := a) (m := m) ds [] (fun d hd => (HSM.out d hd).2.2) (fun y h => by cases h) e (List.mem_filter.1 he).1) e h1)
  have HLG : Hid ((clL (moreG ds a m bl)).length ≤ 1048576) := hid_intro (by
    have h1 : (clL (moreG ds a m bl)).length ≤ (moreG ds a m bl).length := by unfold clL; cases ovB (moreG ds a m bl); exact Nat.zero_le _; exact List.length_filter_le _ _
    have h2 := all_len bl ((net ds a m).filter nz) (-1)
    have h3 := List.length_filter_le nz (net ds a m)
    have h4 := HSR.out.1
    unfold moreG at *
    omega)
  have HNZ : Hid (∀ x ∈ ds, x.ls.filter nz = x.ls) := hid_intro (fun x hx => by
    obtain ⟨i, hi, rfl⟩ := List.getElem_of_mem hx
    have := (HLR2.out.2.1 i hi).1
    rw [show ds.getD i D.zero = ds[i] by simp [List.getD, hi]] at this
    exact right_nz (dB_lines this))
  rw [← HLB.out] at HNX
  have HGE : Hid (moreG ds a m bl = all bl ((net ds a m).filter nz) (-1)) := hid_intro rfl
  rw [← HGE.out] at HNX
  obtain ⟨WB, hWB⟩ : ∃ WB, WB = w4.alloc (.cells #[.string a, .int .i64 m] 61) := ⟨_, rfl⟩
  have hB5 : Below w4.heap.size w4 WB := by rw [hWB]; exact (Below.refl _ _).alloc (Nat.le_refl _) _
  have HSI := hid_intro (si_of (rb := W0.heap.size) (c := cnt ds a m) (mb := mb) (show BlkW w4.heap.size [.string a, .int .i64 m] WB by rw [hWB]; exact BlkW.new w4 [.string a, .int .i64 m] 61) (fun W hb => (hlk W (HBr4.out.trans ((hB5.trans (hb.mono hB5.size)).mono HBr4.out.size))).1))
  have HB5 := hid_intro (HB4.out.trans (hB5.mono HB4.out.size))
  have HR5 := hid_intro (HR4.out.below hB5)
  have HNX5 := hid_intro (fun W (hb : Below WB.heap.size WB W) => HNX.out W (hB5.trans (hb.mono hB5.size)))
  have HW := hid_intro hWB
  obtain ⟨pb, hpb⟩ : ∃ pb, pb = w4.heap.size := ⟨_, rfl⟩
  rw [← hpb] at HSI
  have HPB := hid_intro hpb
  generalize hcc : cnt ds a m = cc at *
  generalize hG0 : moreG ds a m bl = G at *
  clear hlk hnF hB5 hWB hpb HNX HGE HB4 HR4 HBr4 HBr HSR HRW
  go_wp2_with fail
  rw [← HW.out, ← HPB.out]
  clear HW HPB
  refine wp_region_held_drew (S := (fun W => Below WB.heap.size WB W ∧ pb < W.heap.size ∧ W.cell? ⟨pb, 0, none⟩ = some (.string a) ∧ W.cell? ⟨pb, 1, none⟩ = some (.int .i64 m) ∧ (Instr.lookup 54 (.map (some W0.heap.size)) (.agg #[.string a, .int .i64 m]) false).run Tryz.prog W = .ok (.agg #[.int .i64 cc, .map mb]) W)) (by kernel_rfl) (HSI.out _ (Below.refl WB.heap.size WB).drew) (fun hHeld => ?_)
  have hB0 := (Below.refl WB.heap.size WB).drew
  generalize WB.drew = kd at *
  refine wpAnyH_take (i := 0) (oi := { dst := some 55, op := Op.move (Operand.tmp 0), type := 23, pos := "l09_ledger.go:220", after := #[], guard := none }) (v := ?_) rfl (by kernel_rfl) (by kernel_rfl) (by kernel_rfl) (fun _ _ _ h => h) (Or.inl ⟨by rfl, ?_⟩) (by assumption) ?_
  rotate_left
  · (intro w hSw; (try dsimp only at hSw); go_simp) <;> with_reducible rfl
  try simp only [Act.put, List.setIfInBounds_toArray, List.set_cons_zero, List.set_cons_succ]
  refine wpAnyH_take (i := 1) (oi := { dst := some 56, op := Op.load 61 (Operand.tmp 11), type := 61, pos := "l09_ledger.go:220", after := #[], guard := none }) (v := ?_) rfl (by kernel_rfl) (by kernel_rfl) (by kernel_rfl) (fun _ _ _ h => h) (Or.inl ⟨by rfl, ?_⟩) (by assumption) ?_
  rotate_left
  · (intro w hSw; (try dsimp only at hSw); go_simp) <;> with_reducible rfl
  try simp only [Act.put, List.setIfInBounds_toArray, List.set_cons_zero, List.set_cons_succ]
  refine wpAnyH_take (i := 2) (oi := { dst := some 57, op := Op.move (Operand.tmp 9), type := 54, pos := "l09_ledger.go:220", after := #[], guard := none }) (v := ?_) rfl (by kernel_rfl) (by kernel_rfl) (by kernel_rfl) (fun _ _ _ h => h) (Or.inl ⟨by rfl, ?_⟩) (by assumption) ?_
  rotate_left
  · (intro w hSw; (try dsimp only at hSw); go_simp) <;> with_reducible rfl
  try simp only [Act.put, List.setIfInBounds_toArray, List.set_cons_zero, List.set_cons_succ]
  refine wpAnyH_take (i := 3) (oi := { dst := some 58, op := Op.load 61 (Operand.tmp 11), type := 61, pos := "l09_ledger.go:220", after := #[], guard := none }) (v := ?_) rfl (by kernel_rfl) (by kernel_rfl) (by kernel_rfl) (fun _ _ _ h => h) (Or.inl ⟨by rfl, ?_⟩) (by assumption) ?_
  rotate_left
  · (intro w hSw; (try dsimp only at hSw); go_simp) <;> with_reducible rfl
  try simp only [Act.put, List.setIfInBounds_toArray, List.set_cons_zero, List.set_cons_succ]
  refine wpAnyH_take (i := 4) (oi := { dst := some 59, op := Op.lookup 54 (Operand.tmp 57) (Operand.tmp 58) false, type := 67, pos := "l09_ledger.go:220", after := #[{ on := 2, ground := Ground.data }, { on := 3, ground := Ground.data }], guard := none }) (v := ?_) rfl (by kernel_rfl) (by kernel_rfl) (by kernel_rfl) (fun _ _ _ h => h) (Or.inl ⟨by rfl, ?_⟩) (by assumption) ?_
  rotate_left
  · (intro w hSw; (try dsimp only at hSw); go_simp) <;> with_reducible rfl
  try simp only [Act.put, List.setIfInBounds_toArray, List.set_cons_zero, List.set_cons_succ]
  refine wpAnyH_take (i := 5) (oi := { dst := some 60, op := Op.move (Operand.tmp 3), type := 24, pos := "l09_ledger.go:220", after := #[], guard := none }) (v := ?_) rfl (by kernel_rfl) (by kernel_rfl) (by kernel_rfl) (fun _ _ _ h => h) (Or.inl ⟨by rfl, ?_⟩) (by assumption) ?_
  rotate_left
  · (intro w hSw; (try dsimp only at hSw); go_simp) <;> with_reducible rfl
  try simp only [Act.put, List.setIfInBounds_toArray, List.set_cons_zero, List.set_cons_succ]
  refine wpAnyH_ready (rs := [6, 10]) (by kernel_rfl) (by simp) ?_
  refine AllReadyH.cons (o := { dst := some 61, op := Op.call { callee := Callee.value (Operand.func 33), args := #[Operand.tmp 55, Operand.tmp 56, Operand.tmp 59, Operand.tmp 60], argTypes := #[23, 61, 67, 24] }, type := 62, pos := "l09_ledger.go:220", after := #[{ on := 0, ground := Ground.data }, { on := 1, ground := Ground.data }, { on := 4, ground := Ground.data }, { on := 5, ground := Ground.data }], guard := none }) rfl (fun K hK => ?_) (AllReadyH.cons (o := { dst := some 12, op := Op.alloc 28, type := 0, pos := "l09_ledger.go:220", after := #[], guard := none }) rfl (fun K hK => ?_) AllReadyH.nil)
  · go_simp
    go_at_call 33
    refine (HNX5.out _ hB0).mono ?_
    rintro e q1 hnx
    obtain ⟨s1, x1, y1, la1, n1, lc1, ev, rfl, hns, hq1⟩ := hnx.form
    clear hnx
    try go_wp2_with fail
    have hB1 := hB0.trans (hq1.mono hB0.size)
    have hk1 := HSI.out _ hB1
    refine hK.out _ _ hk1 (fun _ => ?_)
    clear hK K
    try simp only [Act.put, List.setIfInBounds_toArray, List.set_cons_zero, List.set_cons_succ]
    refine wpAnyH_take (i := 7) (oi := { dst := some 54, op := Op.move (Operand.tmp 61), type := 62, pos := "l09_ledger.go:220", after := #[{ on := 6, ground := Ground.data }], guard := none }) (v := ?_) rfl (by kernel_rfl) (by kernel_rfl) (by kernel_rfl) (fun _ _ _ h => h) (Or.inl ⟨by rfl, ?_⟩) (by assumption) ?_
    rotate_left
    · (intro w hSw; (try dsimp only at hSw); go_simp) <;> with_reducible rfl
    try simp only [Act.put, List.setIfInBounds_toArray, List.set_cons_zero, List.set_cons_succ]
    refine wpAnyH_take (i := 8) (oi := { dst := some 62, op := Op.extract (Operand.tmp 54) 0, type := 28, pos := "l09_ledger.go:220", after := #[{ on := 7, ground := Ground.data }], guard := none }) (v := ?_) rfl (by kernel_rfl) (by kernel_rfl) (by kernel_rfl) (fun _ _ _ h => h) (Or.inl ⟨by rfl, ?_⟩) (by assumption) ?_
    rotate_left
    · (intro w hSw; (try dsimp only at hSw); go_simp) <;> with_reducible rfl
    try simp only [Act.put, List.setIfInBounds_toArray, List.set_cons_zero, List.set_cons_succ]
    refine wpAnyH_take (i := 9) (oi := { dst := some 63, op := Op.extract (Operand.tmp 54) 1, type := 56, pos := "l09_ledger.go:220", after := #[{ on := 7, ground := Ground.data }, { on := 11, ground := Ground.gcOnly Departure.lateStores }], guard := none }) (v := ?_) rfl (by kernel_rfl) (by kernel_rfl) (by kernel_rfl) (fun _ _ _ h => h) (Or.inl ⟨by rfl, ?_⟩) (by assumption) ?_
    rotate_left
    · (intro w hSw; (try dsimp only at hSw); go_simp) <;> with_reducible rfl
    try simp only [Act.put, List.setIfInBounds_toArray, List.set_cons_zero, List.set_cons_succ]
    refine wpAnyH_ready (rs := [10]) (by kernel_rfl) (by simp) ?_
    refine AllReadyH.cons (o := { dst := some 12, op := Op.alloc 28, type := 0, pos := "l09_ledger.go:220", after := #[], guard := none }) rfl (fun K hK => ?_) AllReadyH.nil
    go_simp
    try go_wp2_with fail
    have hB2 := hB1.alloc hB1.size (Obj.cells #[.string ⟨#[]⟩, .int .i64 0, .int .i64 0, .slice none 0 0] 28)
    have hD2 := BlkW.new q1 [.string ⟨#[]⟩, .int .i64 0, .int .i64 0, .slice none 0 0] 28
    have hDL : WB.heap.size ≤ q1.heap.size := hB1.size
    have hns2 := hns.below ((Below.refl q1.heap.size q1).alloc (Nat.le_refl _) (Obj.cells #[.string ⟨#[]⟩, .int .i64 0, .int .i64 0, .slice none 0 0] 28))
    have hk2 := HSI.out _ hB2
    refine hK.out _ _ hk2 (fun _ => ?_)
    clear hK K
    try simp only [Act.put, List.setIfInBounds_toArray, List.set_cons_zero, List.set_cons_succ]
    obtain ⟨dB, hdB⟩ : ∃ z, z = q1.heap.size := ⟨_, rfl⟩
    obtain ⟨k2, hk2e⟩ : ∃ z, z = q1.alloc (Obj.cells #[.string ⟨#[]⟩, .int .i64 0, .int .i64 0, .slice none 0 0] 28) := ⟨_, rfl⟩
    rw [← hdB] at hD2 hDL ⊢
    rw [← hk2e] at hB2 hD2 hk2 hns2 ⊢
    try rw [← hk2e] at *
    have hx : dB < kd.heap.size ∨ q1.heap.size ≤ dB := .inr (Nat.le_of_eq hdB.symm)
    clear hdB hk2e
    refine wpAnyH_ready (rs := [11]) (by kernel_rfl) (by simp) ?_
    refine AllReadyH.cons (o := { dst := none, op := Op.store 28 (Operand.tmp 12) (Operand.tmp 62), type := 0, pos := "l09_ledger.go:220", after := #[{ on := 10, ground := Ground.data }, { on := 8, ground := Ground.data }, { on := 6, ground := Ground.chain }, { on := 0, ground := Ground.phase }, { on := 1, ground := Ground.phase }, { on := 2, ground := Ground.phase }, { on := 3, ground := Ground.phase }, { on := 4, ground := Ground.phase }, { on := 5, ground := Ground.phase }, { on := 6, ground := Ground.phase }, { on := 7, ground := Ground.phase }, { on := 8, ground := Ground.phase }, { on := 9, ground := Ground.textOnly Departure.lateStores }, { on := 10, ground := Ground.phase }], guard := none }) rfl (fun K hK => ?_) AllReadyH.nil
    have hDx := hD2
    obtain ⟨⟨dl, dk⟩, df⟩ := hDx
    have d0 : k2.cell? ⟨dB, 0, none⟩ = some (.string ⟨#[]⟩) := dk 0 (by simp)
    have g0 : k2.frozen? ⟨dB, 0, none⟩ = false := df 0 (by simp)
    have d1 : k2.cell? ⟨dB, 1, none⟩ = some (.int .i64 0) := dk 1 (by simp)
    have g1 : k2.frozen? ⟨dB, 1, none⟩ = false := df 1 (by simp)
    have d2 : k2.cell? ⟨dB, 2, none⟩ = some (.int .i64 0) := dk 2 (by simp)
    have g2 : k2.frozen? ⟨dB, 2, none⟩ = false := df 2 (by simp)
    have d3 : k2.cell? ⟨dB, 3, none⟩ = some (.slice none 0 0) := dk 3 (by simp)
    have g3 : k2.frozen? ⟨dB, 3, none⟩ = false := df 3 (by simp)
    clear dk df
    go_simp
    try go_wp2_with fail
    have hgr := StR.stL_grown dB [.string s1, .int .i64 x1, .int .i64 y1, .slice la1 n1 lc1] 0 k2
    have hB3 := hB2.grown hgr hB2.size (fun k e => by simp only [Option.some.injEq] at e; omega)
    have hDF := OwG.stL_blkW hD2 (show ([.string ⟨#[]⟩, .int .i64 0, .int .i64 0, .slice none 0 0] : List Value).length = [.string s1, .int .i64 x1, .int .i64 y1, .slice la1 n1 lc1].length from rfl)
    have hnsF := hns2.grown hgr hx
    simp only [StR.stL, Nat.zero_add, Nat.reduceAdd] at hB3 hDF hnsF
    have hk3 := HSI.out _ hB3
    refine hK.out _ _ hk3 (fun _ => ?_)
    clear hK K
    try simp only [Act.put, List.setIfInBounds_toArray, List.set_cons_zero, List.set_cons_succ]
    refine wpAnyH_take (i := 12) (oi := { dst := some 10, op := Op.assign (Operand.tmp 63), type := 56, pos := "l09_ledger.go:220", after := #[{ on := 9, ground := Ground.data }, { on := 11, ground := Ground.chain }, { on := 0, ground := Ground.phase }, { on := 1, ground := Ground.phase }, { on := 2, ground := Ground.phase }, { on := 3, ground := Ground.phase }, { on := 4, ground := Ground.phase }, { on := 5, ground := Ground.phase }, { on := 6, ground := Ground.phase }, { on := 7, ground := Ground.phase }, { on := 8, ground := Ground.phase }, { on := 9, ground := Ground.phase }, { on := 10, ground := Ground.phase }, { on := 11, ground := Ground.phase }], guard := none }) (v := ?_) rfl (by kernel_rfl) (by kernel_rfl) (by kernel_rfl) (fun _ _ _ h => h) (Or.inl ⟨by rfl, ?_⟩) (by assumption) ?_
    rotate_left
    · (intro w hSw; (try dsimp only at hSw); go_simp) <;> with_reducible rfl
    try simp only [Act.put, List.setIfInBounds_toArray, List.set_cons_zero, List.set_cons_succ]
    refine wpAnyH_done (by kernel_rfl) ?_ _
    have HDW : Hid (¬ dB = w.heap.size) := hid_intro (by have := HR5.out.1.1; omega)
    clear HNX5 HSI hgr hx hDL
    have HB6 := hid_intro (HB5.out.trans (hB3.mono HB5.out.size))
    have HR6 := hid_intro (HR5.out.below hB3)
    have HD6 := hid_intro hDF
    have HN6 := hid_intro hnsF
    clear hDF hnsF
    generalize ((((k2.setCell ⟨dB, 0, none⟩ (.string s1)).setCell ⟨dB, 1, none⟩ (.int .i64 x1)).setCell ⟨dB, 2, none⟩ (.int .i64 y1)).setCell ⟨dB, 3, none⟩ (.slice la1 n1 lc1)) = W6 at *
    have HLy := hid_intro (HLay.out.below HB6.out)
    rcases HN6.out with ⟨cd, rfl, hcs⟩ | ⟨ho, hne, h30, rfl, rfl, rfl, rfl, rfl, how, -⟩
    · have HE : Hid (isD ds a m bl = [] ∧ isX ds a m bl = D.zero ∧ isC ds a m bl = cd ∧ cd ≠ 0) := hid_intro (by
        obtain ⟨g1, g2, g3, g4⟩ := HG2.out
        rcases hcs with ⟨h1, rfl⟩ | ⟨h1, h2, h3, rfl⟩ | ⟨h1, h2, h3, rfl⟩
        · have := g1 h1; exact ⟨this.1, this.2.1, this.2.2, by decide⟩
        · have := g2 h1 h2 h3; exact ⟨this.1, this.2.1, this.2.2, by decide⟩
        · have := g3 h1 h2 (by rw [← HLN.out]; exact h3); exact ⟨this.1, this.2.1, this.2.2, by decide⟩)
      have hcd := HE.out.2.2.2
      clear hcs
      go_wp2_with fail
      refine (AsD.code_hit cd _ HLy.out).mono ?_
      rintro e w7 ⟨rfl, hb7⟩
      have HB7 := hid_intro (HB6.out.trans (hb7.mono HB6.out.size))
      have HR7 := hid_intro (HR6.out.below hb7)
      clear hb7
      obtain ⟨⟨rl, rk⟩, rf⟩ := HR7.out
      have p0 : w7.cell? ⟨w.heap.size, 0, none⟩ = some (.slice none 0 0) := rk 0 (by simp)
      have f0 : w7.frozen? ⟨w.heap.size, 0, none⟩ = false := rf 0 (by simp)
      have p1 : w7.cell? ⟨w.heap.size, 1, none⟩ = some (.string ⟨#[]⟩) := rk 1 (by simp)
      have f1 : w7.frozen? ⟨w.heap.size, 1, none⟩ = false := rf 1 (by simp)
      have p2 : w7.cell? ⟨w.heap.size, 2, none⟩ = some (.int .i64 0) := rk 2 (by simp)
      have f2 : w7.frozen? ⟨w.heap.size, 2, none⟩ = false := rf 2 (by simp)
      have p3 : w7.cell? ⟨w.heap.size, 3, none⟩ = some (.int .i64 0) := rk 3 (by simp)
      have f3 : w7.frozen? ⟨w.heap.size, 3, none⟩ = false := rf 3 (by simp)
      have p4 : w7.cell? ⟨w.heap.size, 4, none⟩ = some (.slice none 0 0) := rk 4 (by simp)
      have f4 : w7.frozen? ⟨w.heap.size, 4, none⟩ = false := rf 4 (by simp)
      have p5 : w7.cell? ⟨w.heap.size, 5, none⟩ = some (.int .i64 0) := rk 5 (by simp)
      have f5 : w7.frozen? ⟨w.heap.size, 5, none⟩ = false := rf 5 (by simp)
      have hg := StR.stL_grown w.heap.size [.slice none 0 0, .string ⟨#[]⟩, .int .i64 0, .int .i64 0, .slice none 0 0, .int .i64 cd] 0 w7
      have HBF := hid_intro (HB7.out.grown hg HB7.out.size (fun k e => by simp only [Option.some.injEq] at e; omega))
      simp only [StR.stL, Nat.zero_add, Nat.reduceAdd] at HBF
      clear hg rk rf
      go_wp2_with fail
      refine bodyPost_ret (v := .agg #[.slice none 0 0, .string ⟨#[]⟩, .int .i64 0, .int .i64 0, .slice none 0 0, .int .i64 cd]) (by simp [results, Tryz.results5, go_sem, p0, p1, p2, p3, p4, p5]) rfl ⟨_, rfl, by rw [HE.out.1, HE.out.2.1, HE.out.2.2.1]; exact loO_of (dso_nil _ _), HBF.out⟩
    · have HE := hid_intro (HG2.out.2.2.2 ho hne (by rw [← HLN.out]; exact h30))
      have HOW := hid_intro how
      clear ho hne how
      go_wp2_with fail
      refine (AsD.code_nil _).mono ?_
      rintro e w7 ⟨rfl, hb7⟩
      have HB7 := hid_intro (HB6.out.trans (hb7.mono HB6.out.size))
      have HR7 := hid_intro (HR6.out.below hb7)
      have HD7 := hid_intro (HD6.out.below hb7)
      have HO7 := hid_intro (RowG.own_below HOW.out hb7)
      clear hb7 HB6 HR6 HD6 HOW HN6
      go_wp2_with fail
      have hb0 := (Below.refl w7.heap.size w7).drew
      have hB0 := HB7.out.trans (hb0.mono HB7.out.size)
      have hR0 := HR7.out.below hb0
      have hD0 := HD7.out.below hb0
      have hO0 := RowG.own_below HO7.out hb0
      have HSD : Hid (∀ W, BlkW dB [.string s1, .int .i64 x1, .int .i64 (cc : Nat), .slice la1 (clL G).length lc1] W → (fun W => dB < W.heap.size ∧ W.cell? ⟨dB, 0, none⟩ = some (.string s1) ∧ W.cell? ⟨dB, 1, none⟩ = some (.int .i64 x1) ∧ W.cell? ⟨dB, 2, none⟩ = some (.int .i64 (cc : Nat)) ∧ W.cell? ⟨dB, 3, none⟩ = some (.slice la1 (clL G).length lc1)) W) := hid_intro (fun W h => ⟨h.1.1, h.1.2 0 (by simp), h.1.2 1 (by simp), h.1.2 2 (by simp), h.1.2 3 (by simp)⟩)
      have HSmD : Hid ((⟨s1, x1, (cc : Nat), clL G⟩ : D).Sm) := hid_intro ⟨hga, HLG.out, HSG.out⟩
      have HND : Hid (∀ x ∈ ds ++ [(⟨s1, x1, (cc : Nat), clL G⟩ : D)], x.ls.filter nz = x.ls) := hid_intro (fun x hx => by
        rcases List.mem_append.1 hx with h | h
        · exact HNZ.out x h
        · rw [List.mem_singleton] at h; subst h; exact clL_nz G)
      clear hb0 HB7 HR7 HD7 HO7
      refine wp_region_held_drew (S := (fun W => dB < W.heap.size ∧ W.cell? ⟨dB, 0, none⟩ = some (.string s1) ∧ W.cell? ⟨dB, 1, none⟩ = some (.int .i64 x1) ∧ W.cell? ⟨dB, 2, none⟩ = some (.int .i64 (cc : Nat)) ∧ W.cell? ⟨dB, 3, none⟩ = some (.slice la1 (clL G).length lc1))) (by kernel_rfl) (HSD.out _ hD0) (fun hHeld => ?_)
      generalize w7.drew = kd at *
      refine wpAnyH_take (i := 0) (oi := { dst := some 70, op := Op.move (Operand.tmp 0), type := 23, pos := "l09_ledger.go:224", after := #[], guard := none }) (v := ?_) rfl (by kernel_rfl) (by kernel_rfl) (by kernel_rfl) (fun _ _ _ h => h) (Or.inl ⟨by rfl, ?_⟩) (by assumption) ?_
      rotate_left
      · (intro w hSw; (try dsimp only at hSw); go_simp) <;> with_reducible rfl
      try simp only [Act.put, List.setIfInBounds_toArray, List.set_cons_zero, List.set_cons_succ]
      refine wpAnyH_take (i := 1) (oi := { dst := some 71, op := Op.load 28 (Operand.tmp 12), type := 28, pos := "l09_ledger.go:224", after := #[], guard := none }) (v := ?_) rfl (by kernel_rfl) (by kernel_rfl) (by kernel_rfl) (fun _ _ _ h => h) (Or.inl ⟨by rfl, ?_⟩) (by assumption) ?_
      rotate_left
      · (intro w hSw; (try dsimp only at hSw); go_simp) <;> with_reducible rfl
      try simp only [Act.put, List.setIfInBounds_toArray, List.set_cons_zero, List.set_cons_succ]
      refine wpAnyH_take (i := 3) (oi := { dst := some 73, op := Op.load 28 (Operand.tmp 12), type := 28, pos := "l09_ledger.go:224", after := #[], guard := none }) (v := ?_) rfl (by kernel_rfl) (by kernel_rfl) (by kernel_rfl) (fun _ _ _ h => h) (Or.inl ⟨by rfl, ?_⟩) (by assumption) ?_
      rotate_left
      · (intro w hSw; (try dsimp only at hSw); go_simp) <;> with_reducible rfl
      try simp only [Act.put, List.setIfInBounds_toArray, List.set_cons_zero, List.set_cons_succ]
      refine wpAnyH_ready (rs := [2]) (by kernel_rfl) (by simp) ?_
      refine AllReadyH.cons (o := { dst := some 72, op := Op.call { callee := Callee.value (Operand.func 35), args := #[Operand.tmp 70, Operand.tmp 71], argTypes := #[23, 28] }, type := 23, pos := "l09_ledger.go:224", after := #[{ on := 0, ground := Ground.data }, { on := 1, ground := Ground.data }], guard := none }) rfl (fun K hK => ?_) AllReadyH.nil
      go_simp
      have hLi0 : Lis la1 (clL G) kd := by
        obtain ⟨_, _, e', hm⟩ := own_made (z := N.zero) N.len hO0
        cases e'
        exact hm.rws
      go_at_call 35
      refine (HWI.out ⟨s1, x1, (cc : Nat), clL G⟩ la1 lc1 _ hB0 HSmD.out HND.out hLi0 (by omega)).mono ?_
      rintro e q1 ⟨v, rfl, hds, hq1⟩
      have hB1 := hB0.trans (hq1.mono hB0.size)
      have hR1 := hR0.below hq1
      have hD1 := hD0.below hq1
      have hO1 := RowG.own_below hO0 hq1
      have hlt1 := hR0.1.1
      obtain ⟨vo, vc, rfl, -⟩ := hds.dcs
      obtain ⟨nd, hnd⟩ : ∃ z, z = (ds ++ [(⟨s1, x1, (cc : Nat), clL G⟩ : D)]).length := ⟨_, rfl⟩
      rw [← hnd] at hds ⊢
      have HNd := hid_intro hnd
      clear hnd
      try go_wp2_with fail
      have hk1 := HSD.out _ hD1
      refine hK.out _ _ hk1 (fun _ => ?_)
      clear hK K
      try simp only [Act.put, List.setIfInBounds_toArray, List.set_cons_zero, List.set_cons_succ]
      refine wpAnyH_ready (rs := [4]) (by kernel_rfl) (by simp) ?_
      refine AllReadyH.cons (o := { dst := some 74, op := Op.call { callee := Callee.value (Operand.func 36), args := #[Operand.tmp 73], argTypes := #[28] }, type := 28, pos := "l09_ledger.go:224", after := #[{ on := 3, ground := Ground.data }, { on := 2, ground := Ground.chain }], guard := none }) rfl (fun K hK => ?_) AllReadyH.nil
      go_simp
      have hLi1 : Lis la1 (clL G) q1 := by
        obtain ⟨_, _, e', hm⟩ := own_made (z := N.zero) N.len hO1
        cases e'
        exact hm.rws
      go_at_call 36
      refine (icopy ⟨s1, x1, (cc : Nat), clL G⟩ la1 lc1 _ hga HLG.out HSG.out hLi1).mono ?_
      rintro e q2 ⟨v, rfl, hcp, hq2⟩
      have hcp : q2.ownsRow q1.heap.size 74 2 v (clL G).length (cellsAll N.cells (clL G)) := by have := hcp; rw [show (⟨s1, x1, (cc : Nat), clL G⟩ : D).ls.filter nz = clL G from clL_nz G] at this; exact this
      have hB2 := hB1.trans (hq2.mono hB1.size)
      have hR2 := hR1.below hq2
      have hD2 := hD1.below hq2
      have hds2 := hds.below hq2
      have hlt2 := hR1.1.1
      obtain ⟨co, cc2, rfl, -⟩ := own_made (z := N.zero) N.len hcp
      try go_wp2_with fail
      have hk2 := HSD.out _ hD2
      refine hK.out _ _ hk2 (fun _ => ?_)
      clear hK K
      try simp only [Act.put, List.setIfInBounds_toArray, List.set_cons_zero, List.set_cons_succ]
      refine wpAnyH_take (i := 5) (oi := { dst := some 75, op := Op.build 30 #[(0, Operand.tmp 72), (1, Operand.tmp 74)], type := 30, pos := "l09_ledger.go:224", after := #[{ on := 2, ground := Ground.data }, { on := 4, ground := Ground.data }], guard := none }) (v := ?_) rfl (by kernel_rfl) (by kernel_rfl) (by kernel_rfl) (fun _ _ _ h => h) (Or.inl ⟨by rfl, ?_⟩) (by assumption) ?_
      rotate_left
      · (intro w hSw; (try dsimp only at hSw); go_simp) <;> with_reducible rfl
      try simp only [Act.put, List.setIfInBounds_toArray, List.set_cons_zero, List.set_cons_succ]
      refine wpAnyH_ready (rs := [6]) (by kernel_rfl) (by simp) ?_
      refine AllReadyH.cons (o := { dst := none, op := Op.store 30 (Operand.tmp 8) (Operand.tmp 75), type := 0, pos := "l09_ledger.go:224", after := #[{ on := 5, ground := Ground.data }, { on := 4, ground := Ground.chain }, { on := 0, ground := Ground.phase }, { on := 1, ground := Ground.phase }, { on := 2, ground := Ground.phase }, { on := 3, ground := Ground.phase }, { on := 4, ground := Ground.phase }, { on := 5, ground := Ground.phase }], guard := none }) rfl (fun K hK => ?_) AllReadyH.nil
      have hRx := hR2
      obtain ⟨⟨rl, rk⟩, rf⟩ := hRx
      have p0 : q2.cell? ⟨w.heap.size, 0, none⟩ = some (.slice none 0 0) := rk 0 (by simp)
      have f0 : q2.frozen? ⟨w.heap.size, 0, none⟩ = false := rf 0 (by simp)
      have p1 : q2.cell? ⟨w.heap.size, 1, none⟩ = some (.string ⟨#[]⟩) := rk 1 (by simp)
      have f1 : q2.frozen? ⟨w.heap.size, 1, none⟩ = false := rf 1 (by simp)
      have p2 : q2.cell? ⟨w.heap.size, 2, none⟩ = some (.int .i64 0) := rk 2 (by simp)
      have f2 : q2.frozen? ⟨w.heap.size, 2, none⟩ = false := rf 2 (by simp)
      have p3 : q2.cell? ⟨w.heap.size, 3, none⟩ = some (.int .i64 0) := rk 3 (by simp)
      have f3 : q2.frozen? ⟨w.heap.size, 3, none⟩ = false := rf 3 (by simp)
      have p4 : q2.cell? ⟨w.heap.size, 4, none⟩ = some (.slice none 0 0) := rk 4 (by simp)
      have f4 : q2.frozen? ⟨w.heap.size, 4, none⟩ = false := rf 4 (by simp)
      have p5 : q2.cell? ⟨w.heap.size, 5, none⟩ = some (.int .i64 0) := rk 5 (by simp)
      have f5 : q2.frozen? ⟨w.heap.size, 5, none⟩ = false := rf 5 (by simp)
      clear rk rf
      go_simp
      try go_wp2_with fail
      have hgr := StR.stL_grown w.heap.size [.slice vo nd vc, .string s1, .int .i64 x1, .int .i64 (cc : Nat), .slice co (clL G).length cc2, .int .i64 0] 0 q2
      have hBF := hB2.grown hgr hB2.size (fun k e => by simp only [Option.some.injEq] at e; omega)
      have hdsF := hds2.far hgr hlt1
      have hcpF := OwG.own_keepG hcp hgr hlt2
      have hDF := OwG.blkW_grown hD2 hgr (by simp; exact HDW.out)
      have hRF := OwG.stL_blkW hR2 (show ([.slice none 0 0, .string ⟨#[]⟩, .int .i64 0, .int .i64 0, .slice none 0 0, .int .i64 0] : List Value).length = [.slice vo nd vc, .string s1, .int .i64 x1, .int .i64 (cc : Nat), .slice co (clL G).length cc2, .int .i64 0].length from rfl)
      simp only [StR.stL, Nat.zero_add, Nat.reduceAdd] at hBF hdsF hcpF hDF hRF hgr
      have hk3 := HSD.out _ hDF
      refine hK.out _ _ hk3 (fun _ => ?_)
      clear hK K
      try simp only [Act.put, List.setIfInBounds_toArray, List.set_cons_zero, List.set_cons_succ]
      refine wpAnyH_done (by kernel_rfl) ?_ _
      have HNW : Hid (newD ds s1 x1 bl = (⟨s1, x1, (cc : Nat), clL G⟩ : D)) := hid_intro (by unfold newD; rw [hcc, hG0])
      have HLo : Hid (LoO w.heap.size (.agg #[.slice vo nd vc, .string s1, .int .i64 x1, .int .i64 (cc : Nat), .slice co (clL G).length cc2, .int .i64 0]) (ds ++ [(⟨s1, x1, (cc : Nat), clL G⟩ : D)]) (⟨s1, x1, (cc : Nat), clL G⟩ : D) 0 ((((((q2.setCell ⟨w.heap.size, 0, none⟩ (.slice vo nd vc)).setCell ⟨w.heap.size, 1, none⟩ (.string s1)).setCell ⟨w.heap.size, 2, none⟩ (.int .i64 x1)).setCell ⟨w.heap.size, 3, none⟩ (.int .i64 (cc : Nat))).setCell ⟨w.heap.size, 4, none⟩ (.slice co (clL G).length cc2)).setCell ⟨w.heap.size, 5, none⟩ (.int .i64 0))) := hid_intro (by
        obtain ⟨xs, a1, a2, a3, a4⟩ := hds
        have hw : w.heap.size ≤ kd.heap.size := hB0.size
        exact ⟨_, xs, co, cc2, rfl, a1, OwG.own_low (OwG.own_keepG (RowG.own_below a2 hq2) hgr hlt1) hw, fun y hy => OwG.own_low (OwG.own_keepG (RowG.own_below (a3 y hy) hq2) hgr hlt1) hw, a4, OwG.own_low hcpF hB1.size, fun y hy b h1 h2 => by
          have p1 := ((a3 y hy).lt b h1).2
          have p2 := (hcp.lt b h2).1
          omega⟩)
      have HBF := hid_intro hBF
      obtain ⟨⟨zl, zk⟩, -⟩ := hRF
      clear hgr hds hds2 hdsF hcp hcpF hDF hBF hO0 hO1 hD0 hD1 hD2 hR0 hR1 hR2 hq1 hq2 hLi0 hLi1
      generalize ((((((q2.setCell ⟨w.heap.size, 0, none⟩ (.slice vo nd vc)).setCell ⟨w.heap.size, 1, none⟩ (.string s1)).setCell ⟨w.heap.size, 2, none⟩ (.int .i64 x1)).setCell ⟨w.heap.size, 3, none⟩ (.int .i64 (cc : Nat))).setCell ⟨w.heap.size, 4, none⟩ (.slice co (clL G).length cc2)).setCell ⟨w.heap.size, 5, none⟩ (.int .i64 0)) = WF at *
      have z0 : WF.cell? ⟨w.heap.size, 0, none⟩ = some (.slice vo nd vc) := zk 0 (by simp)
      have z1 : WF.cell? ⟨w.heap.size, 1, none⟩ = some (.string s1) := zk 1 (by simp)
      have z2 : WF.cell? ⟨w.heap.size, 2, none⟩ = some (.int .i64 x1) := zk 2 (by simp)
      have z3 : WF.cell? ⟨w.heap.size, 3, none⟩ = some (.int .i64 (cc : Nat)) := zk 3 (by simp)
      have z4 : WF.cell? ⟨w.heap.size, 4, none⟩ = some (.slice co (clL G).length cc2) := zk 4 (by simp)
      have z5 : WF.cell? ⟨w.heap.size, 5, none⟩ = some (.int .i64 0) := zk 5 (by simp)
      clear zk
      go_wp2_with fail
      refine bodyPost_ret (v := .agg #[.slice vo nd vc, .string s1, .int .i64 x1, .int .i64 (cc : Nat), .slice co (clL G).length cc2, .int .i64 0]) (by simp [results, Tryz.results5, go_sem, z0, z1, z2, z3, z4, z5]) rfl ⟨_, rfl, by rw [HE.out.1, HE.out.2.1, HE.out.2.2, HNW.out]; exact HLo.out, HBF.out⟩
  · go_simp
    try go_wp2_with fail
    have hB1 := hB0.alloc hB0.size (Obj.cells #[.string ⟨#[]⟩, .int .i64 0, .int .i64 0, .slice none 0 0] 28)
    have hD1 := BlkW.new kd [.string ⟨#[]⟩, .int .i64 0, .int .i64 0, .slice none 0 0] 28
    have hDL : WB.heap.size ≤ kd.heap.size := hB0.size
    have hk1 := HSI.out _ hB1
    refine hK.out _ _ hk1 (fun _ => ?_)
    clear hK K
    try simp only [Act.put, List.setIfInBounds_toArray, List.set_cons_zero, List.set_cons_succ]
    obtain ⟨dB, hdB⟩ : ∃ z, z = kd.heap.size := ⟨_, rfl⟩
    obtain ⟨k1, hk1e⟩ : ∃ z, z = kd.alloc (Obj.cells #[.string ⟨#[]⟩, .int .i64 0, .int .i64 0, .slice none 0 0] 28) := ⟨_, rfl⟩
    rw [← hdB] at hD1 hDL ⊢
    rw [← hk1e] at hB1 hD1 hk1 ⊢
    try rw [← hk1e] at *
    clear hdB hk1e
    refine wpAnyH_ready (rs := [6]) (by kernel_rfl) (by simp) ?_
    refine AllReadyH.cons (o := { dst := some 61, op := Op.call { callee := Callee.value (Operand.func 33), args := #[Operand.tmp 55, Operand.tmp 56, Operand.tmp 59, Operand.tmp 60], argTypes := #[23, 61, 67, 24] }, type := 62, pos := "l09_ledger.go:220", after := #[{ on := 0, ground := Ground.data }, { on := 1, ground := Ground.data }, { on := 4, ground := Ground.data }, { on := 5, ground := Ground.data }], guard := none }) rfl (fun K hK => ?_) AllReadyH.nil
    go_simp
    go_at_call 33
    refine (HNX5.out _ hB1).mono ?_
    rintro e q2 hnx
    obtain ⟨s1, x1, y1, la1, n1, lc1, ev, rfl, hns, hq2⟩ := hnx.form
    clear hnx
    try go_wp2_with fail
    have hB2 := hB1.trans (hq2.mono hB1.size)
    have hx : dB < k1.heap.size ∨ q2.heap.size ≤ dB := .inl hD1.1.1
    have hD2 := hD1.below hq2
    have hk2 := HSI.out _ hB2
    refine hK.out _ _ hk2 (fun _ => ?_)
    clear hK K
    try simp only [Act.put, List.setIfInBounds_toArray, List.set_cons_zero, List.set_cons_succ]
    refine wpAnyH_take (i := 7) (oi := { dst := some 54, op := Op.move (Operand.tmp 61), type := 62, pos := "l09_ledger.go:220", after := #[{ on := 6, ground := Ground.data }], guard := none }) (v := ?_) rfl (by kernel_rfl) (by kernel_rfl) (by kernel_rfl) (fun _ _ _ h => h) (Or.inl ⟨by rfl, ?_⟩) (by assumption) ?_
    rotate_left
    · (intro w hSw; (try dsimp only at hSw); go_simp) <;> with_reducible rfl
    try simp only [Act.put, List.setIfInBounds_toArray, List.set_cons_zero, List.set_cons_succ]
    refine wpAnyH_take (i := 8) (oi := { dst := some 62, op := Op.extract (Operand.tmp 54) 0, type := 28, pos := "l09_ledger.go:220", after := #[{ on := 7, ground := Ground.data }], guard := none }) (v := ?_) rfl (by kernel_rfl) (by kernel_rfl) (by kernel_rfl) (fun _ _ _ h => h) (Or.inl ⟨by rfl, ?_⟩) (by assumption) ?_
    rotate_left
    · (intro w hSw; (try dsimp only at hSw); go_simp) <;> with_reducible rfl
    try simp only [Act.put, List.setIfInBounds_toArray, List.set_cons_zero, List.set_cons_succ]
    refine wpAnyH_take (i := 9) (oi := { dst := some 63, op := Op.extract (Operand.tmp 54) 1, type := 56, pos := "l09_ledger.go:220", after := #[{ on := 7, ground := Ground.data }, { on := 11, ground := Ground.gcOnly Departure.lateStores }], guard := none }) (v := ?_) rfl (by kernel_rfl) (by kernel_rfl) (by kernel_rfl) (fun _ _ _ h => h) (Or.inl ⟨by rfl, ?_⟩) (by assumption) ?_
    rotate_left
    · (intro w hSw; (try dsimp only at hSw); go_simp) <;> with_reducible rfl
    try simp only [Act.put, List.setIfInBounds_toArray, List.set_cons_zero, List.set_cons_succ]
    refine wpAnyH_ready (rs := [11]) (by kernel_rfl) (by simp) ?_
    refine AllReadyH.cons (o := { dst := none, op := Op.store 28 (Operand.tmp 12) (Operand.tmp 62), type := 0, pos := "l09_ledger.go:220", after := #[{ on := 10, ground := Ground.data }, { on := 8, ground := Ground.data }, { on := 6, ground := Ground.chain }, { on := 0, ground := Ground.phase }, { on := 1, ground := Ground.phase }, { on := 2, ground := Ground.phase }, { on := 3, ground := Ground.phase }, { on := 4, ground := Ground.phase }, { on := 5, ground := Ground.phase }, { on := 6, ground := Ground.phase }, { on := 7, ground := Ground.phase }, { on := 8, ground := Ground.phase }, { on := 9, ground := Ground.textOnly Departure.lateStores }, { on := 10, ground := Ground.phase }], guard := none }) rfl (fun K hK => ?_) AllReadyH.nil
    have hDx := hD2
    obtain ⟨⟨dl, dk⟩, df⟩ := hDx
    have d0 : q2.cell? ⟨dB, 0, none⟩ = some (.string ⟨#[]⟩) := dk 0 (by simp)
    have g0 : q2.frozen? ⟨dB, 0, none⟩ = false := df 0 (by simp)
    have d1 : q2.cell? ⟨dB, 1, none⟩ = some (.int .i64 0) := dk 1 (by simp)
    have g1 : q2.frozen? ⟨dB, 1, none⟩ = false := df 1 (by simp)
    have d2 : q2.cell? ⟨dB, 2, none⟩ = some (.int .i64 0) := dk 2 (by simp)
    have g2 : q2.frozen? ⟨dB, 2, none⟩ = false := df 2 (by simp)
    have d3 : q2.cell? ⟨dB, 3, none⟩ = some (.slice none 0 0) := dk 3 (by simp)
    have g3 : q2.frozen? ⟨dB, 3, none⟩ = false := df 3 (by simp)
    clear dk df
    go_simp
    try go_wp2_with fail
    have hgr := StR.stL_grown dB [.string s1, .int .i64 x1, .int .i64 y1, .slice la1 n1 lc1] 0 q2
    have hB3 := hB2.grown hgr hB2.size (fun k e => by simp only [Option.some.injEq] at e; omega)
    have hDF := OwG.stL_blkW hD2 (show ([.string ⟨#[]⟩, .int .i64 0, .int .i64 0, .slice none 0 0] : List Value).length = [.string s1, .int .i64 x1, .int .i64 y1, .slice la1 n1 lc1].length from rfl)
    have hnsF := hns.grown hgr hx
    simp only [StR.stL, Nat.zero_add, Nat.reduceAdd] at hB3 hDF hnsF
    have hk3 := HSI.out _ hB3
    refine hK.out _ _ hk3 (fun _ => ?_)
    clear hK K
    try simp only [Act.put, List.setIfInBounds_toArray, List.set_cons_zero, List.set_cons_succ]
    refine wpAnyH_take (i := 12) (oi := { dst := some 10, op := Op.assign (Operand.tmp 63), type := 56, pos := "l09_ledger.go:220", after := #[{ on := 9, ground := Ground.data }, { on := 11, ground := Ground.chain }, { on := 0, ground := Ground.phase }, { on := 1, ground := Ground.phase }, { on := 2, ground := Ground.phase }, { on := 3, ground := Ground.phase }, { on := 4, ground := Ground.phase }, { on := 5, ground := Ground.phase }, { on := 6, ground := Ground.phase }, { on := 7, ground := Ground.phase }, { on := 8, ground := Ground.phase }, { on := 9, ground := Ground.phase }, { on := 10, ground := Ground.phase }, { on := 11, ground := Ground.phase }], guard := none }) (v := ?_) rfl (by kernel_rfl) (by kernel_rfl) (by kernel_rfl) (fun _ _ _ h => h) (Or.inl ⟨by rfl, ?_⟩) (by assumption) ?_
    rotate_left
    · (intro w hSw; (try dsimp only at hSw); go_simp) <;> with_reducible rfl
    try simp only [Act.put, List.setIfInBounds_toArray, List.set_cons_zero, List.set_cons_succ]
    refine wpAnyH_done (by kernel_rfl) ?_ _
    have HDW : Hid (¬ dB = w.heap.size) := hid_intro (by have := HR5.out.1.1; omega)
    clear HNX5 HSI hgr hx hDL
    have HB6 := hid_intro (HB5.out.trans (hB3.mono HB5.out.size))
    have HR6 := hid_intro (HR5.out.below hB3)
    have HD6 := hid_intro hDF
    have HN6 := hid_intro hnsF
    clear hDF hnsF
    generalize ((((q2.setCell ⟨dB, 0, none⟩ (.string s1)).setCell ⟨dB, 1, none⟩ (.int .i64 x1)).setCell ⟨dB, 2, none⟩ (.int .i64 y1)).setCell ⟨dB, 3, none⟩ (.slice la1 n1 lc1)) = W6 at *
    have HLy := hid_intro (HLay.out.below HB6.out)
    rcases HN6.out with ⟨cd, rfl, hcs⟩ | ⟨ho, hne, h30, rfl, rfl, rfl, rfl, rfl, how, -⟩
    · have HE : Hid (isD ds a m bl = [] ∧ isX ds a m bl = D.zero ∧ isC ds a m bl = cd ∧ cd ≠ 0) := hid_intro (by
        obtain ⟨g1, g2, g3, g4⟩ := HG2.out
        rcases hcs with ⟨h1, rfl⟩ | ⟨h1, h2, h3, rfl⟩ | ⟨h1, h2, h3, rfl⟩
        · have := g1 h1; exact ⟨this.1, this.2.1, this.2.2, by decide⟩
        · have := g2 h1 h2 h3; exact ⟨this.1, this.2.1, this.2.2, by decide⟩
        · have := g3 h1 h2 (by rw [← HLN.out]; exact h3); exact ⟨this.1, this.2.1, this.2.2, by decide⟩)
      have hcd := HE.out.2.2.2
      clear hcs
      go_wp2_with fail
      refine (AsD.code_hit cd _ HLy.out).mono ?_
      rintro e w7 ⟨rfl, hb7⟩
      have HB7 := hid_intro (HB6.out.trans (hb7.mono HB6.out.size))
      have HR7 := hid_intro (HR6.out.below hb7)
      clear hb7
      obtain ⟨⟨rl, rk⟩, rf⟩ := HR7.out
      have p0 : w7.cell? ⟨w.heap.size, 0, none⟩ = some (.slice none 0 0) := rk 0 (by simp)
      have f0 : w7.frozen? ⟨w.heap.size, 0, none⟩ = false := rf 0 (by simp)
      have p1 : w7.cell? ⟨w.heap.size, 1, none⟩ = some (.string ⟨#[]⟩) := rk 1 (by simp)
      have f1 : w7.frozen? ⟨w.heap.size, 1, none⟩ = false := rf 1 (by simp)
      have p2 : w7.cell? ⟨w.heap.size, 2, none⟩ = some (.int .i64 0) := rk 2 (by simp)
      have f2 : w7.frozen? ⟨w.heap.size, 2, none⟩ = false := rf 2 (by simp)
      have p3 : w7.cell? ⟨w.heap.size, 3, none⟩ = some (.int .i64 0) := rk 3 (by simp)
      have f3 : w7.frozen? ⟨w.heap.size, 3, none⟩ = false := rf 3 (by simp)
      have p4 : w7.cell? ⟨w.heap.size, 4, none⟩ = some (.slice none 0 0) := rk 4 (by simp)
      have f4 : w7.frozen? ⟨w.heap.size, 4, none⟩ = false := rf 4 (by simp)
      have p5 : w7.cell? ⟨w.heap.size, 5, none⟩ = some (.int .i64 0) := rk 5 (by simp)
      have f5 : w7.frozen? ⟨w.heap.size, 5, none⟩ = false := rf 5 (by simp)
      have hg := StR.stL_grown w.heap.size [.slice none 0 0, .string ⟨#[]⟩, .int .i64 0, .int .i64 0, .slice none 0 0, .int .i64 cd] 0 w7
      have HBF := hid_intro (HB7.out.grown hg HB7.out.size (fun k e => by simp only [Option.some.injEq] at e; omega))
      simp only [StR.stL, Nat.zero_add, Nat.reduceAdd] at HBF
      clear hg rk rf
      go_wp2_with fail
      refine bodyPost_ret (v := .agg #[.slice none 0 0, .string ⟨#[]⟩, .int .i64 0, .int .i64 0, .slice none 0 0, .int .i64 cd]) (by simp [results, Tryz.results5, go_sem, p0, p1, p2, p3, p4, p5]) rfl ⟨_, rfl, by rw [HE.out.1, HE.out.2.1, HE.out.2.2.1]; exact loO_of (dso_nil _ _), HBF.out⟩
    · have HE := hid_intro (HG2.out.2.2.2 ho hne (by rw [← HLN.out]; exact h30))
      have HOW := hid_intro how
      clear ho hne how
      go_wp2_with fail
      refine (AsD.code_nil _).mono ?_
      rintro e w7 ⟨rfl, hb7⟩
      have HB7 := hid_intro (HB6.out.trans (hb7.mono HB6.out.size))
      have HR7 := hid_intro (HR6.out.below hb7)
      have HD7 := hid_intro (HD6.out.below hb7)
      have HO7 := hid_intro (RowG.own_below HOW.out hb7)
      clear hb7 HB6 HR6 HD6 HOW HN6
      go_wp2_with fail
      have hb0 := (Below.refl w7.heap.size w7).drew
      have hB0 := HB7.out.trans (hb0.mono HB7.out.size)
      have hR0 := HR7.out.below hb0
      have hD0 := HD7.out.below hb0
      have hO0 := RowG.own_below HO7.out hb0
      have HSD : Hid (∀ W, BlkW dB [.string s1, .int .i64 x1, .int .i64 (cc : Nat), .slice la1 (clL G).length lc1] W → (fun W => dB < W.heap.size ∧ W.cell? ⟨dB, 0, none⟩ = some (.string s1) ∧ W.cell? ⟨dB, 1, none⟩ = some (.int .i64 x1) ∧ W.cell? ⟨dB, 2, none⟩ = some (.int .i64 (cc : Nat)) ∧ W.cell? ⟨dB, 3, none⟩ = some (.slice la1 (clL G).length lc1)) W) := hid_intro (fun W h => ⟨h.1.1, h.1.2 0 (by simp), h.1.2 1 (by simp), h.1.2 2 (by simp), h.1.2 3 (by simp)⟩)
      have HSmD : Hid ((⟨s1, x1, (cc : Nat), clL G⟩ : D).Sm) := hid_intro ⟨hga, HLG.out, HSG.out⟩
      have HND : Hid (∀ x ∈ ds ++ [(⟨s1, x1, (cc : Nat), clL G⟩ : D)], x.ls.filter nz = x.ls) := hid_intro (fun x hx => by
        rcases List.mem_append.1 hx with h | h
        · exact HNZ.out x h
        · rw [List.mem_singleton] at h; subst h; exact clL_nz G)
      clear hb0 HB7 HR7 HD7 HO7
      refine wp_region_held_drew (S := (fun W => dB < W.heap.size ∧ W.cell? ⟨dB, 0, none⟩ = some (.string s1) ∧ W.cell? ⟨dB, 1, none⟩ = some (.int .i64 x1) ∧ W.cell? ⟨dB, 2, none⟩ = some (.int .i64 (cc : Nat)) ∧ W.cell? ⟨dB, 3, none⟩ = some (.slice la1 (clL G).length lc1))) (by kernel_rfl) (HSD.out _ hD0) (fun hHeld => ?_)
      generalize w7.drew = kd at *
      refine wpAnyH_take (i := 0) (oi := { dst := some 70, op := Op.move (Operand.tmp 0), type := 23, pos := "l09_ledger.go:224", after := #[], guard := none }) (v := ?_) rfl (by kernel_rfl) (by kernel_rfl) (by kernel_rfl) (fun _ _ _ h => h) (Or.inl ⟨by rfl, ?_⟩) (by assumption) ?_
      rotate_left
      · (intro w hSw; (try dsimp only at hSw); go_simp) <;> with_reducible rfl
      try simp only [Act.put, List.setIfInBounds_toArray, List.set_cons_zero, List.set_cons_succ]
      refine wpAnyH_take (i := 1) (oi := { dst := some 71, op := Op.load 28 (Operand.tmp 12), type := 28, pos := "l09_ledger.go:224", after := #[], guard := none }) (v := ?_) rfl (by kernel_rfl) (by kernel_rfl) (by kernel_rfl) (fun _ _ _ h => h) (Or.inl ⟨by rfl, ?_⟩) (by assumption) ?_
      rotate_left
      · (intro w hSw; (try dsimp only at hSw); go_simp) <;> with_reducible rfl
      try simp only [Act.put, List.setIfInBounds_toArray, List.set_cons_zero, List.set_cons_succ]
      refine wpAnyH_take (i := 3) (oi := { dst := some 73, op := Op.load 28 (Operand.tmp 12), type := 28, pos := "l09_ledger.go:224", after := #[], guard := none }) (v := ?_) rfl (by kernel_rfl) (by kernel_rfl) (by kernel_rfl) (fun _ _ _ h => h) (Or.inl ⟨by rfl, ?_⟩) (by assumption) ?_
      rotate_left
      · (intro w hSw; (try dsimp only at hSw); go_simp) <;> with_reducible rfl
      try simp only [Act.put, List.setIfInBounds_toArray, List.set_cons_zero, List.set_cons_succ]
      refine wpAnyH_ready (rs := [2]) (by kernel_rfl) (by simp) ?_
      refine AllReadyH.cons (o := { dst := some 72, op := Op.call { callee := Callee.value (Operand.func 35), args := #[Operand.tmp 70, Operand.tmp 71], argTypes := #[23, 28] }, type := 23, pos := "l09_ledger.go:224", after := #[{ on := 0, ground := Ground.data }, { on := 1, ground := Ground.data }], guard := none }) rfl (fun K hK => ?_) AllReadyH.nil
      go_simp
      have hLi0 : Lis la1 (clL G) kd := by
        obtain ⟨_, _, e', hm⟩ := own_made (z := N.zero) N.len hO0
        cases e'
        exact hm.rws
      go_at_call 35
      refine (HWI.out ⟨s1, x1, (cc : Nat), clL G⟩ la1 lc1 _ hB0 HSmD.out HND.out hLi0 (by omega)).mono ?_
      rintro e q1 ⟨v, rfl, hds, hq1⟩
      have hB1 := hB0.trans (hq1.mono hB0.size)
      have hR1 := hR0.below hq1
      have hD1 := hD0.below hq1
      have hO1 := RowG.own_below hO0 hq1
      have hlt1 := hR0.1.1
      obtain ⟨vo, vc, rfl, -⟩ := hds.dcs
      obtain ⟨nd, hnd⟩ : ∃ z, z = (ds ++ [(⟨s1, x1, (cc : Nat), clL G⟩ : D)]).length := ⟨_, rfl⟩
      rw [← hnd] at hds ⊢
      have HNd := hid_intro hnd
      clear hnd
      try go_wp2_with fail
      have hk1 := HSD.out _ hD1
      refine hK.out _ _ hk1 (fun _ => ?_)
      clear hK K
      try simp only [Act.put, List.setIfInBounds_toArray, List.set_cons_zero, List.set_cons_succ]
      refine wpAnyH_ready (rs := [4]) (by kernel_rfl) (by simp) ?_
      refine AllReadyH.cons (o := { dst := some 74, op := Op.call { callee := Callee.value (Operand.func 36), args := #[Operand.tmp 73], argTypes := #[28] }, type := 28, pos := "l09_ledger.go:224", after := #[{ on := 3, ground := Ground.data }, { on := 2, ground := Ground.chain }], guard := none }) rfl (fun K hK => ?_) AllReadyH.nil
      go_simp
      have hLi1 : Lis la1 (clL G) q1 := by
        obtain ⟨_, _, e', hm⟩ := own_made (z := N.zero) N.len hO1
        cases e'
        exact hm.rws
      go_at_call 36
      refine (icopy ⟨s1, x1, (cc : Nat), clL G⟩ la1 lc1 _ hga HLG.out HSG.out hLi1).mono ?_
      rintro e q2 ⟨v, rfl, hcp, hq2⟩
      have hcp : q2.ownsRow q1.heap.size 74 2 v (clL G).length (cellsAll N.cells (clL G)) := by have := hcp; rw [show (⟨s1, x1, (cc : Nat), clL G⟩ : D).ls.filter nz = clL G from clL_nz G] at this; exact this
      have hB2 := hB1.trans (hq2.mono hB1.size)
      have hR2 := hR1.below hq2
      have hD2 := hD1.below hq2
      have hds2 := hds.below hq2
      have hlt2 := hR1.1.1
      obtain ⟨co, cc2, rfl, -⟩ := own_made (z := N.zero) N.len hcp
      try go_wp2_with fail
      have hk2 := HSD.out _ hD2
      refine hK.out _ _ hk2 (fun _ => ?_)
      clear hK K
      try simp only [Act.put, List.setIfInBounds_toArray, List.set_cons_zero, List.set_cons_succ]
      refine wpAnyH_take (i := 5) (oi := { dst := some 75, op := Op.build 30 #[(0, Operand.tmp 72), (1, Operand.tmp 74)], type := 30, pos := "l09_ledger.go:224", after := #[{ on := 2, ground := Ground.data }, { on := 4, ground := Ground.data }], guard := none }) (v := ?_) rfl (by kernel_rfl) (by kernel_rfl) (by kernel_rfl) (fun _ _ _ h => h) (Or.inl ⟨by rfl, ?_⟩) (by assumption) ?_
      rotate_left
      · (intro w hSw; (try dsimp only at hSw); go_simp) <;> with_reducible rfl
      try simp only [Act.put, List.setIfInBounds_toArray, List.set_cons_zero, List.set_cons_succ]
      refine wpAnyH_ready (rs := [6]) (by kernel_rfl) (by simp) ?_
      refine AllReadyH.cons (o := { dst := none, op := Op.store 30 (Operand.tmp 8) (Operand.tmp 75), type := 0, pos := "l09_ledger.go:224", after := #[{ on := 5, ground := Ground.data }, { on := 4, ground := Ground.chain }, { on := 0, ground := Ground.phase }, { on := 1, ground := Ground.phase }, { on := 2, ground := Ground.phase }, { on := 3, ground := Ground.phase }, { on := 4, ground := Ground.phase }, { on := 5, ground := Ground.phase }], guard := none }) rfl (fun K hK => ?_) AllReadyH.nil
      have hRx := hR2
      obtain ⟨⟨rl, rk⟩, rf⟩ := hRx
      have p0 : q2.cell? ⟨w.heap.size, 0, none⟩ = some (.slice none 0 0) := rk 0 (by simp)
      have f0 : q2.frozen? ⟨w.heap.size, 0, none⟩ = false := rf 0 (by simp)
      have p1 : q2.cell? ⟨w.heap.size, 1, none⟩ = some (.string ⟨#[]⟩) := rk 1 (by simp)
      have f1 : q2.frozen? ⟨w.heap.size, 1, none⟩ = false := rf 1 (by simp)
      have p2 : q2.cell? ⟨w.heap.size, 2, none⟩ = some (.int .i64 0) := rk 2 (by simp)
      have f2 : q2.frozen? ⟨w.heap.size, 2, none⟩ = false := rf 2 (by simp)
      have p3 : q2.cell? ⟨w.heap.size, 3, none⟩ = some (.int .i64 0) := rk 3 (by simp)
      have f3 : q2.frozen? ⟨w.heap.size, 3, none⟩ = false := rf 3 (by simp)
      have p4 : q2.cell? ⟨w.heap.size, 4, none⟩ = some (.slice none 0 0) := rk 4 (by simp)
      have f4 : q2.frozen? ⟨w.heap.size, 4, none⟩ = false := rf 4 (by simp)
      have p5 : q2.cell? ⟨w.heap.size, 5, none⟩ = some (.int .i64 0) := rk 5 (by simp)
      have f5 : q2.frozen? ⟨w.heap.size, 5, none⟩ = false := rf 5 (by simp)
      clear rk rf
      go_simp
      try go_wp2_with fail
      have hgr := StR.stL_grown w.heap.size [.slice vo nd vc, .string s1, .int .i64 x1, .int .i64 (cc : Nat), .slice co (clL G).length cc2, .int .i64 0] 0 q2
      have hBF := hB2.grown hgr hB2.size (fun k e => by simp only [Option.some.injEq] at e; omega)
      have hdsF := hds2.far hgr hlt1
      have hcpF := OwG.own_keepG hcp hgr hlt2
      have hDF := OwG.blkW_grown hD2 hgr (by simp; exact HDW.out)
      have hRF := OwG.stL_blkW hR2 (show ([.slice none 0 0, .string ⟨#[]⟩, .int .i64 0, .int .i64 0, .slice none 0 0, .int .i64 0] : List Value).length = [.slice vo nd vc, .string s1, .int .i64 x1, .int .i64 (cc : Nat), .slice co (clL G).length cc2, .int .i64 0].length from rfl)
      simp only [StR.stL, Nat.zero_add, Nat.reduceAdd] at hBF hdsF hcpF hDF hRF hgr
      have hk3 := HSD.out _ hDF
      refine hK.out _ _ hk3 (fun _ => ?_)
      clear hK K
      try simp only [Act.put, List.setIfInBounds_toArray, List.set_cons_zero, List.set_cons_succ]
      refine wpAnyH_done (by kernel_rfl) ?_ _
      have HNW : Hid (newD ds s1 x1 bl = (⟨s1, x1, (cc : Nat), clL G⟩ : D)) := hid_intro (by unfold newD; rw [hcc, hG0])
      have HLo : Hid (LoO w.heap.size (.agg #[.slice vo nd vc, .string s1, .int .i64 x1, .int .i64 (cc : Nat), .slice co (clL G).length cc2, .int .i64 0]) (ds ++ [(⟨s1, x1, (cc : Nat), clL G⟩ : D)]) (⟨s1, x1, (cc : Nat), clL G⟩ : D) 0 ((((((q2.setCell ⟨w.heap.size, 0, none⟩ (.slice vo nd vc)).setCell ⟨w.heap.size, 1, none⟩ (.string s1)).setCell ⟨w.heap.size, 2, none⟩ (.int .i64 x1)).setCell ⟨w.heap.size, 3, none⟩ (.int .i64 (cc : Nat))).setCell ⟨w.heap.size, 4, none⟩ (.slice co (clL G).length cc2)).setCell ⟨w.heap.size, 5, none⟩ (.int .i64 0))) := hid_intro (by
        obtain ⟨xs, a1, a2, a3, a4⟩ := hds
        have hw : w.heap.size ≤ kd.heap.size := hB0.size
        exact ⟨_, xs, co, cc2, rfl, a1, OwG.own_low (OwG.own_keepG (RowG.own_below a2 hq2) hgr hlt1) hw, fun y hy => OwG.own_low (OwG.own_keepG (RowG.own_below (a3 y hy) hq2) hgr hlt1) hw, a4, OwG.own_low hcpF hB1.size, fun y hy b h1 h2 => by
          have p1 := ((a3 y hy).lt b h1).2
          have p2 := (hcp.lt b h2).1
          omega⟩)
      have HBF := hid_intro hBF
      obtain ⟨⟨zl, zk⟩, -⟩ := hRF
      clear hgr hds hds2 hdsF hcp hcpF hDF hBF hO0 hO1 hD0 hD1 hD2 hR0 hR1 hR2 hq1 hq2 hLi0 hLi1
      generalize ((((((q2.setCell ⟨w.heap.size, 0, none⟩ (.slice vo nd vc)).setCell ⟨w.heap.size, 1, none⟩ (.string s1)).setCell ⟨w.heap.size, 2, none⟩ (.int .i64 x1)).setCell ⟨w.heap.size, 3, none⟩ (.int .i64 (cc : Nat))).setCell ⟨w.heap.size, 4, none⟩ (.slice co (clL G).length cc2)).setCell ⟨w.heap.size, 5, none⟩ (.int .i64 0)) = WF at *
      have z0 : WF.cell? ⟨w.heap.size, 0, none⟩ = some (.slice vo nd vc) := zk 0 (by simp)
      have z1 : WF.cell? ⟨w.heap.size, 1, none⟩ = some (.string s1) := zk 1 (by simp)
      have z2 : WF.cell? ⟨w.heap.size, 2, none⟩ = some (.int .i64 x1) := zk 2 (by simp)
      have z3 : WF.cell? ⟨w.heap.size, 3, none⟩ = some (.int .i64 (cc : Nat)) := zk 3 (by simp)
      have z4 : WF.cell? ⟨w.heap.size, 4, none⟩ = some (.slice co (clL G).length cc2) := zk 4 (by simp)
      have z5 : WF.cell? ⟨w.heap.size, 5, none⟩ = some (.int .i64 0) := zk 5 (by simp)
      clear zk
      go_wp2_with fail
      refine bodyPost_ret (v := .agg #[.slice vo nd vc, .string s1, .int .i64 x1, .int .i64 (cc : Nat), .slice co (clL G).length cc2, .int .i64 0]) (by simp [results, Tryz.results5, go_sem, z0, z1, z2, z3, z4, z5]) rfl ⟨_, rfl, by rw [HE.out.1, HE.out.2.1, HE.out.2.2, HNW.out]; exact HLo.out, HBF.out⟩
end LedR
end Go.Proofs.YtlfebpgohpmknaaGreatDoor
namespace Go.Proofs.YtlfebpgohpmknaaGreatDoor
open Go.ChangeShapes Go.WideShapes Go.ChangeAt Go.RowKit
set_option linter.unusedVariables false
namespace DecR
theorem hid_intro {p : Prop} (h : p) : Hid p := h
/-- The variable holds the library's table of powers, as far as it is read. -/
def Pows (w : World) : Prop := 1 < w.heap.size ∧ w.cell? ⟨1, 3, none⟩ = some (.int .u64 1000)
theorem Pows.below {w w' : World} (h : Pows w) (hb : Below w.heap.size w w') : Pows w' :=
  ⟨by have := hb.size; have := h.1; omega, by rw [hb.cell (p := ⟨1, 3, none⟩) h.1]; exact h.2⟩
theorem log_any (k : Nat) (h : k = 11 ∨ k = 12) (w : World) : Calls Tryz.prog 94 #[.int .i64 k] w fun e w' => e = .returned (.int .i64 3) ∧ w' = w := by
  rcases h with rfl | rfl
  all_goals
    go_enter Tryz.func94, Tryz.ntmps94
    go_wp2
    go_ret
    exact ⟨rfl, rfl⟩
theorem bits_of (u k : Nat) (h1 : 1970 ≤ u) (h2 : u ≤ 2200) (hb : DivR.Bits u k) : k = 11 ∨ k = 12 := by
  obtain ⟨a, b, c⟩ := hb
  have l1 : ¬ k ≤ 10 := fun h => by
    have : 2 ^ k ≤ 2 ^ 10 := Nat.pow_le_pow_right (by omega) h
    omega
  have l2 : ¬ 13 ≤ k := fun h => by
    have : 2 ^ 12 ≤ 2 ^ (k - 1) := Nat.pow_le_pow_right (by omega) (by omega)
    omega
  omega
theorem nd_any (u : Nat) (h1 : 1970 ≤ u) (h2 : u ≤ 2200) (w : World) (hP : Pows w) : Calls Tryz.prog 84 #[.int .u64 u] w fun e w' => e = .returned (.int .i64 4) ∧ w' = w := by
  obtain ⟨hp1, hp2⟩ := hP
  have HL := hid_intro (fun w => DivR.len_inner u u u (u / 256) (.inl ⟨by omega, rfl⟩) (.inl ⟨by omega, rfl⟩) (.inr ⟨by omega, by omega⟩) (by omega) (by omega) w)
  have hu : (1000 : Int) ≤ (u : Int) := by omega
  go_enter Tryz.func84, Tryz.ntmps84
  go_wp2_with fail
  refine (HL.out _).mono ?_
  rintro e w1 ⟨⟨k, rfl, hk, hb⟩, rfl⟩
  have hk2 := bits_of u k h1 h2 hb
  have HG := hid_intro (fun w => log_any k hk2 w)
  clear hk hb hk2
  go_wp2_with fail
  refine (HG.out _).mono ?_
  rintro e w2 ⟨rfl, rfl⟩
  go_wp2
  go_ret
  exact ⟨rfl, rfl⟩
/-- The library's text of the numbers 00 to 99. -/
abbrev sm : ByteArray := { data := #[48, 48, 48, 49, 48, 50, 48, 51, 48, 52, 48, 53, 48, 54, 48, 55, 48, 56, 48, 57, 49, 48, 49, 49, 49, 50, 49, 51, 49, 52, 49, 53, 49, 54, 49, 55, 49, 56, 49, 57, 50, 48, 50, 49, 50, 50, 50, 51, 50, 52, 50, 53, 50, 54, 50, 55, 50, 56, 50, 57, 51, 48, 51, 49, 51, 50, 51, 51, 51, 52, 51, 53, 51, 54, 51, 55, 51, 56, 51, 57, 52, 48, 52, 49, 52, 50, 52, 51, 52, 52, 52, 53, 52, 54, 52, 55, 52, 56, 52, 57, 53, 48, 53, 49, 53, 50, 53, 51, 53, 52, 53, 53, 53, 54, 53, 55, 53, 56, 53, 57, 54, 48, 54, 49, 54, 50, 54, 51, 54, 52, 54, 53, 54, 54, 54, 55, 54, 56, 54, 57, 55, 48, 55, 49, 55, 50, 55, 51, 55, 52, 55, 53, 55, 54, 55, 55, 55, 56, 55, 57, 56, 48, 56, 49, 56, 50, 56, 51, 56, 52, 56, 53, 56, 54, 56, 55, 56, 56, 56, 57, 57, 48, 57, 49, 57, 50, 57, 51, 57, 52, 57, 53, 57, 54, 57, 55, 57, 56, 57, 57] }
theorem sm_all : (List.range 100).all (fun c => decide ((sm.data.getD (2 * c) 0).toNat = 48 + c / 10) && decide ((sm.data.getD (2 * c + 1) 0).toNat = 48 + c % 10)) = true := by decide +kernel
theorem sm_size : sm.size = 200 := by decide +kernel
theorem sm_at (i : Nat) (h : i < sm.size) : sm[i] = sm.data.getD i 0 := by
  show sm.data[i]'h = _
  rw [Array.getD_eq_getD_getElem?, Array.getElem?_eq_getElem h]
  rfl
theorem sm_hi (c : Nat) (hc : c < 100) (h : 2 * c < sm.size) : ((sm[2 * c].toNat : Nat) : Int) = ((48 + c / 10 : Nat) : Int) := by
  have := List.all_eq_true.1 sm_all c (List.mem_range.2 hc)
  simp only [Bool.and_eq_true, decide_eq_true_eq] at this
  rw [sm_at, this.1]
theorem sm_lo (c : Nat) (hc : c < 100) (h : 2 * c + 1 < sm.size) : ((sm[2 * c + 1].toNat : Nat) : Int) = ((48 + c % 10 : Nat) : Int) := by
  have := List.all_eq_true.1 sm_all c (List.mem_range.2 hc)
  simp only [Bool.and_eq_true, decide_eq_true_eq] at this
  rw [sm_at, this.2]
/-- What is left when the four digits are written. -/
def wrote (w : World) (B a b c d : Nat) : World := ((((w.setCell ⟨B, 4, none⟩ (.int .u8 ((48 + d : Nat) : Int))).setCell ⟨B, 3, none⟩ (.int .u8 ((48 + c : Nat) : Int))).setCell ⟨B, 2, none⟩ (.int .u8 ((48 + b : Nat) : Int))).setCell ⟨B, 1, none⟩ (.int .u8 ((48 + a : Nat) : Int))).drew.drew
theorem wrote_eq (w : World) (B a b c d : Nat) (x1 x2 x3 x4 : Int) (h1 : x1 = ((48 + d : Nat) : Int)) (h2 : x2 = ((48 + c : Nat) : Int)) (h3 : x3 = ((48 + b : Nat) : Int)) (h4 : x4 = ((48 + a : Nat) : Int)) :
    ((((w.setCell ⟨B, 4, none⟩ (.int .u8 x1)).setCell ⟨B, 3, none⟩ (.int .u8 x2)).setCell ⟨B, 2, none⟩ (.int .u8 x3)).setCell ⟨B, 1, none⟩ (.int .u8 x4)).drew.drew = wrote w B a b c d := by
  subst h1 h2 h3 h4; rfl
set_option maxRecDepth 100000 in
set_option maxHeartbeats 8000000 in
theorem fb_any (n B c : Nat) (v1 v2 v3 v4 : Value) (h : 1970 ≤ n) (h2 : n ≤ 2200) (w : World) (c1 : w.cell? ⟨B, 1, none⟩ = some v1) (c2 : w.cell? ⟨B, 2, none⟩ = some v2) (c3 : w.cell? ⟨B, 3, none⟩ = some v3) (c4 : w.cell? ⟨B, 4, none⟩ = some v4)
    (f1 : w.frozen? ⟨B, 1, none⟩ = false) (f2 : w.frozen? ⟨B, 2, none⟩ = false) (f3 : w.frozen? ⟨B, 3, none⟩ = false) (f4 : w.frozen? ⟨B, 4, none⟩ = false) :
    Calls Tryz.prog 85 #[.slice (some ⟨B, 1, none⟩) 4 c, .int .u64 n] w fun e w' => e = .returned (.tuple #[]) ∧ w' = wrote w B (n / 100 / 10) (n / 100 % 10) (n % 100 / 10) (n % 100 % 10) := by
  have h3 : (1970 : Int) ≤ (n : Int) := by omega
  have h4 : (n : Int) ≤ 2200 := by omega
  obtain ⟨A, hA⟩ : ∃ A, A = n / 100 := ⟨_, rfl⟩
  obtain ⟨C, hC⟩ : ∃ C, C = n % 100 := ⟨_, rfl⟩
  have e1 : (n : Int) % 10000 / 100 * 2 = ((2 * A : Nat) : Int) := by omega
  have e2 : (n : Int) % 100 * 2 = ((2 * C : Nat) : Int) := by omega
  have e3 : (n : Int) / 10000 = 0 := by omega
  have b1 : (2 * C : Nat) < 199 := by omega
  have b2 : (2 * A : Nat) < 199 := by omega
  obtain ⟨P, hP⟩ : ∃ P, P = 2 * A := ⟨_, rfl⟩
  obtain ⟨Q, hQ⟩ : ∃ Q, Q = 2 * C := ⟨_, rfl⟩
  rw [← hP] at e1 b2
  rw [← hQ] at e2 b1
  have HP := hid_intro hP
  have HQ := hid_intro hQ
  have HA := hid_intro hA
  have HC := hid_intro hC
  have b3 : (Q : Int) < 200 := by omega
  have b4 : (P : Int) < 200 := by omega
  have b5 : (Q : Int) + 1 < 200 := by omega
  have b6 : (P : Int) + 1 < 200 := by omega
  have b7 : Q + 1 < 200 := by omega
  have b8 : P + 1 < 200 := by omega
  have b9 : Q < 200 := by omega
  have b10 : P < 200 := by omega
  have k1 : IntKind.u32.wrap ((Q : Int) + 1) = (Q : Int) + 1 := by rw [IntKind.wrap_u32]; omega
  have b11 : (0 : Int) ≤ (Q : Int) + 1 := by omega
  have b12 : (0 : Int) ≤ (P : Int) + 1 := by omega
  have k2 : IntKind.u32.wrap ((P : Int) + 1) = (P : Int) + 1 := by rw [IntKind.wrap_u32]; omega
  clear h h2 hA hC hP hQ
  go_enter Tryz.func85, Tryz.ntmps85
  go_wp2_with fail
  go_loop [1, 4] (fun x z => x = .int .u64 n ∧ z = .int .i64 4) (fun _ _ => 0)
  case atStart => exact ⟨rfl, rfl⟩
  case round =>
    obtain ⟨rfl, rfl⟩ := hrel
    go_wp2_with fail
    go_region
    go_wp2_with fail
    go_region
    go_wp2_with fail
    have hA := HA.out
    have hC := HC.out
    have hP := HP.out
    have hQ := HQ.out
    subst hP hQ
    have s1 := sm_lo C (by omega) (by rw [sm_size]; omega)
    have s2 := sm_hi C (by omega) (by rw [sm_size]; omega)
    have s3 := sm_lo A (by omega) (by rw [sm_size]; omega)
    have s4 := sm_hi A (by omega) (by rw [sm_size]; omega)
    subst hA hC
    refine bodyPost_end (v := .tuple #[]) (by simp [results, Tryz.results85, go_sem]) rfl ⟨rfl, ?_⟩
    exact wrote_eq w B _ _ _ _ _ _ _ _ s1 s2 s3 s4
end DecR
end Go.Proofs.YtlfebpgohpmknaaGreatDoor
namespace Go.Proofs.YtlfebpgohpmknaaGreatDoor
open Go.ChangeShapes Go.WideShapes Go.ChangeAt Go.RowKit
set_option linter.unusedVariables false
namespace DecR
/-- The text of these digits. -/
def digT (ds : List Nat) : ByteArray := strOfNums (ds.map fun d => ((48 + d : Nat) : Int))
theorem cell_wrote (w : World) (B a b c d : Nat) (v1 v2 v3 v4 : Value) (c1 : w.cell? ⟨B, 1, none⟩ = some v1) (c2 : w.cell? ⟨B, 2, none⟩ = some v2) (c3 : w.cell? ⟨B, 3, none⟩ = some v3) (c4 : w.cell? ⟨B, 4, none⟩ = some v4) :
    (wrote w B a b c d).cell? ⟨B, 1, none⟩ = some (.int .u8 ((48 + a : Nat) : Int)) ∧ (wrote w B a b c d).cell? ⟨B, 2, none⟩ = some (.int .u8 ((48 + b : Nat) : Int)) ∧ (wrote w B a b c d).cell? ⟨B, 3, none⟩ = some (.int .u8 ((48 + c : Nat) : Int)) ∧ (wrote w B a b c d).cell? ⟨B, 4, none⟩ = some (.int .u8 ((48 + d : Nat) : Int)) := by
  unfold wrote
  refine ⟨?_, ?_, ?_, ?_⟩ <;> simp [go_sem, c1, c2, c3, c4]
theorem bel_wrote {w0 w : World} {k : Nat} (h : Below k w0 w) (B a b c d : Nat) (hB : k ≤ B) : Below k w0 (wrote w B a b c d) :=
  ((((((h.setCell hB _).setCell hB _).setCell hB _).setCell hB _).drew).drew)
theorem conv_wrote (w : World) (B a b c d cap : Nat) (v1 v2 v3 v4 : Value) (c1 : w.cell? ⟨B, 1, none⟩ = some v1) (c2 : w.cell? ⟨B, 2, none⟩ = some v2) (c3 : w.cell? ⟨B, 3, none⟩ = some v3) (c4 : w.cell? ⟨B, 4, none⟩ = some v4) :
    (convert 22 9 (.slice (some ⟨B, 1, none⟩) 4 cap)).run Tryz.prog (wrote w B a b c d) = .ok (.string (digT [a, b, c, d])) (wrote w B a b c d) := by
  obtain ⟨d1, d2, d3, d4⟩ := cell_wrote w B a b c d v1 v2 v3 v4 c1 c2 c3 c4
  refine run_convert_bytes_arg _ 22 5 Tryz.underlying22 Tryz.underlying5 B 1 4 cap _ rfl ?_ 9 Tryz.underlying9
  intro i hi
  match i, hi with
  | 0, _ => exact d1
  | 1, _ => exact d2
  | 2, _ => exact d3
  | 3, _ => exact d4
set_option maxRecDepth 100000 in
set_option maxHeartbeats 8000000 in
theorem ifmt4 (n : Nat) (h : 1970 ≤ n) (h2 : n ≤ 2200) (w : World) (hP : Pows w) : Calls Tryz.prog 71 #[.int .i64 n, .int .i64 10] w fun e w' => e = .returned (.string (digT [n / 100 / 10, n / 100 % 10, n % 100 / 10, n % 100 % 10])) ∧ Below w.heap.size w w' := by
  have h3 : (1970 : Int) ≤ (n : Int) := by omega
  have h4 : (n : Int) ≤ 2200 := by omega
  have HN := hid_intro (fun w hP => nd_any n h h2 w hP)
  have HF := hid_intro (fun B c v1 v2 v3 v4 w c1 c2 c3 c4 f1 f2 f3 f4 => fb_any n B c v1 v2 v3 v4 h h2 w c1 c2 c3 c4 f1 f2 f3 f4)
  have HC := hid_intro (fun (w : World) (B : Nat) => conv_wrote w B (n / 100 / 10) (n / 100 % 10) (n % 100 / 10) (n % 100 % 10))
  have HBW := hid_intro (fun (w0 w : World) (k B : Nat) (h : Below k w0 w) (hB : k ≤ B) => bel_wrote h B (n / 100 / 10) (n / 100 % 10) (n % 100 / 10) (n % 100 % 10) hB)
  have HP := hid_intro hP
  generalize n / 100 / 10 = a at *
  generalize n / 100 % 10 = b at *
  generalize n % 100 / 10 = c at *
  generalize n % 100 % 10 = d at *
  clear h h2 hP
  go_enter Tryz.func71, Tryz.ntmps71
  go_wp2_with fail
  obtain ⟨W, hW⟩ : ∃ W, W = w.alloc (Obj.cells #[.int .u8 0, .int .u8 0, .int .u8 0, .int .u8 0, .int .u8 0, .int .u8 0, .int .u8 0, .int .u8 0, .int .u8 0, .int .u8 0, .int .u8 0, .int .u8 0, .int .u8 0, .int .u8 0, .int .u8 0, .int .u8 0, .int .u8 0, .int .u8 0, .int .u8 0, .int .u8 0, .int .u8 0, .int .u8 0, .int .u8 0, .int .u8 0] 124) := ⟨_, rfl⟩
  rw [← hW]
  have c1 : W.cell? ⟨w.heap.size, 1, none⟩ = some (.int .u8 0) := by rw [hW]; simp [go_sem]
  have c2 : W.cell? ⟨w.heap.size, 2, none⟩ = some (.int .u8 0) := by rw [hW]; simp [go_sem]
  have c3 : W.cell? ⟨w.heap.size, 3, none⟩ = some (.int .u8 0) := by rw [hW]; simp [go_sem]
  have c4 : W.cell? ⟨w.heap.size, 4, none⟩ = some (.int .u8 0) := by rw [hW]; simp [go_sem]
  have f1 : W.frozen? ⟨w.heap.size, 1, none⟩ = false := by rw [hW]; simp [go_sem]
  have f2 : W.frozen? ⟨w.heap.size, 2, none⟩ = false := by rw [hW]; simp [go_sem]
  have f3 : W.frozen? ⟨w.heap.size, 3, none⟩ = false := by rw [hW]; simp [go_sem]
  have f4 : W.frozen? ⟨w.heap.size, 4, none⟩ = false := by rw [hW]; simp [go_sem]
  have HB := hid_intro (show Below w.heap.size w W by rw [hW]; exact (Below.refl _ _).alloc (Nat.le_refl _) _)
  clear hW
  refine (HN.out _ (HP.out.below HB.out)).mono ?_
  rintro e w1 ⟨rfl, rfl⟩
  go_wp2_with fail
  refine (HF.out _ _ _ _ _ _ _ c1 c2 c3 c4 f1 f2 f3 f4).mono ?_
  rintro e w2 ⟨rfl, hw2⟩
  have hconv := HC.out w1 w.heap.size 23 _ _ _ _ c1 c2 c3 c4
  have HB2 := hid_intro (HBW.out w w1 w.heap.size w.heap.size HB.out (Nat.le_refl _))
  rw [← hw2] at hconv HB2
  clear hw2 HC HBW HF HN c1 c2 c3 c4 f1 f2 f3 f4
  go_wp2_with fail
  go_ret
  exact ⟨rfl, HB2.out⟩
theorem fmt4 (n : Nat) (h : 1970 ≤ n) (h2 : n ≤ 2200) (w : World) (hP : Pows w) : Calls Tryz.prog 46 #[.int .i64 n, .int .i64 10] w fun e w' => e = .returned (.string (digT [n / 100 / 10, n / 100 % 10, n % 100 / 10, n % 100 % 10])) ∧ Below w.heap.size w w' := by
  have HI := hid_intro (ifmt4 n h h2 w hP)
  generalize digT [n / 100 / 10, n / 100 % 10, n % 100 / 10, n % 100 % 10] = T at *
  clear h h2 hP
  go_enter Tryz.func46, Tryz.ntmps46
  go_wp2_with (go_at_call 71; refine HI.out.mono ?_; rintro e w1 ⟨rfl, hb⟩)
  go_ret
  exact ⟨rfl, hb⟩
theorem fmt1 (n : Nat) (h : n < 10) (w : World) : Calls Tryz.prog 46 #[.int .i64 n, .int .i64 10] w fun e w' => e = .returned (.string (digT [n])) ∧ w' = w := by
  match n, h with
  | 0, _ | 1, _ | 2, _ | 3, _ | 4, _ | 5, _ | 6, _ | 7, _ | 8, _ | 9, _ =>
    go_enter Tryz.func46, Tryz.ntmps46
    go_wp2
    go_ret
    exact ⟨rfl, rfl⟩
end DecR
end Go.Proofs.YtlfebpgohpmknaaGreatDoor
namespace Go.Proofs.YtlfebpgohpmknaaGreatDoor
open Go.ChangeShapes Go.WideShapes Go.ChangeAt Go.RowKit
set_option linter.unusedVariables false
namespace DecR
/-- The digits of a number, the greatest first. -/
def digs : Nat → Nat → List Nat
  | 0, _ => []
  | f + 1, m => if m = 0 then [] else digs f (m / 10) ++ [m % 10]
theorem digs_zero (f : Nat) : digs f 0 = [] := by cases f <;> simp [digs]
theorem digs_step (f m : Nat) (h : m ≠ 0) : digs (f + 1) m = digs f (m / 10) ++ [m % 10] := by simp [digs, h]
theorem digT_cons (d : Nat) (l : List Nat) : digT [d] ++ digT l = digT (d :: l) := by
  apply ByteArray.ext
  simp [digT, strOfNums]
theorem digT_size (l : List Nat) : (digT l).size = l.length := by unfold digT; rw [strOfNums_size, List.length_map]
theorem digs_one (n : Nat) (h0 : n ≠ 0) (h : n < 10) : digs 5 n = [n] := by
  rw [digs_step 4 n h0, show n / 10 = 0 by omega, digs_zero, show n % 10 = n by omega]; rfl
theorem digs_two (n : Nat) (h0 : 10 ≤ n) (h : n < 100) : digs 5 n = [n / 10, n % 10] := by
  rw [digs_step 4 n (by omega), digs_step 3 (n / 10) (by omega), show n / 10 / 10 = 0 by omega, digs_zero, show n / 10 % 10 = n / 10 by omega]; rfl
theorem digs_four (n : Nat) (h0 : 1000 ≤ n) (h : n < 10000) : digs 5 n = [n / 100 / 10, n / 100 % 10, n % 100 / 10, n % 100 % 10] := by
  rw [digs_step 4 n (by omega), digs_step 3 (n / 10) (by omega), digs_step 2 (n / 10 / 10) (by omega), digs_step 1 (n / 10 / 10 / 10) (by omega), show n / 10 / 10 / 10 / 10 = 0 by omega, digs_zero]
  simp
  omega
theorem conv_one (w : World) (d : Nat) : (convert 22 9 (.slice (some ⟨w.heap.size, 0, none⟩) 1 1)).run Tryz.prog (w.alloc (Obj.cells #[.int .u8 (48 + (d : Int))] 5)) = .ok (.string (digT [d])) (w.alloc (Obj.cells #[.int .u8 (48 + (d : Int))] 5)) := by
  refine run_convert_bytes_arg _ 22 5 Tryz.underlying22 Tryz.underlying5 w.heap.size 0 1 1 _ rfl ?_ 9 Tryz.underlying9
  intro i hi
  match i, hi with
  | 0, _ => simp [go_sem]
set_option maxRecDepth 100000 in
set_option maxHeartbeats 4000000 in
theorem dec_any (N : Nat) (h0 : N ≠ 0) (h : N < 100000) (w : World) : Calls Tryz.prog 73 #[.int .i64 N] w fun e w' => e = .returned (.string (digT (digs 5 N))) ∧ Below w.heap.size w w' := by
  have h1 : (0 : Int) < (N : Int) := by omega
  have h2 : ¬ (N : Int) = 0 := by omega
  go_enter Tryz.func73, Tryz.ntmps73
  go_wp2_with fail
  go_loopw [0, 4] (fun x s wr => ∃ (f m : Nat) (l : List Nat), x = .int .i64 (m : Int) ∧ s = .string (digT l) ∧ m < 10 ^ f ∧ f ≤ 5 ∧ Hid (digs 5 N = digs f m ++ l) ∧ l.length + f = 5 ∧ Hid (Below w.heap.size w wr)) (fun x _ _ => (intOf x).toNat)
  case atStart => exact ⟨5, N, [], rfl, rfl, by omega, by omega, hid_intro (by simp), rfl, Below.refl _ _⟩
  case round =>
    obtain ⟨f, m, l, rfl, rfl, hm, hf, HD, hl, HB⟩ := hrel
    by_cases hm0 : m = 0
    · subst hm0
      have HO : Hid (digT l = digT (digs 5 N)) := hid_intro (by rw [HD.out, digs_zero, List.nil_append])
      clear HD
      generalize digT l = T at *
      go_wp2_with fail
      go_ret
      exact ⟨ret_str HO.out, HB.out⟩
    · obtain ⟨g, rfl⟩ : ∃ g, f = g + 1 := ⟨f - 1, by rcases f with _ | f; simp at hm; omega; omega⟩
      have hm2 : m / 10 < 10 ^ g := by rw [Nat.pow_succ] at hm; omega
      have HD2 : Hid (digs 5 N = digs g (m / 10) ++ (m % 10 :: l)) := hid_intro (by rw [HD.out, digs_step g m hm0, List.append_assoc]; rfl)
      have hmb : m < 100000 := by
        have : 10 ^ (g + 1) ≤ 10 ^ 5 := Nat.pow_le_pow_right (by omega) hf
        omega
      have hmi : ¬ (m : Int) = 0 := by omega
      have hmi2 : (0 : Int) < (m : Int) := by omega
      have e1 : (m : Int) % 10 = ((m % 10 : Nat) : Int) := by omega
      have e2 : (m : Int) / 10 = ((m / 10 : Nat) : Int) := by omega
      obtain ⟨d, hd⟩ : ∃ d, d = m % 10 := ⟨_, rfl⟩
      obtain ⟨q, hq⟩ : ∃ q, q = m / 10 := ⟨_, rfl⟩
      rw [← hd] at e1 HD2
      rw [← hq] at e2 HD2 hm2
      have hd10 : d < 10 := by omega
      have hdi : ¬ (d : Int) < 0 := by omega
      have hcv := conv_one wr d
      have HC := hid_intro (digT_cons d l)
      have hz1 : (digT [d]).size = 1 := digT_size [d]
      have hz2 : (digT l).size ≤ 5 := by rw [digT_size]; omega
      have HQ := hid_intro hq
      clear hm hd hq HD
      go_wp2_with fail
      go_roundw
      case rel => exact ⟨g, q, d :: l, rfl, by rw [HC.out], hm2, by omega, HD2, by simp only [List.length_cons]; omega, hid_intro (HB.out.alloc HB.out.size _)⟩
      case measure => simp [intOf]; have := HQ.out; omega
theorem two_dec (n : Nat) (h : n < 10) (w : World) (h0 : n ≠ 0) : Calls Tryz.prog 87 #[.int .i64 n] w fun e w' => e = .returned (.string (digT [0, n])) ∧ Below w.heap.size w w' := by
  have HD := hid_intro (dec_any n h0 (by omega) w)
  rw [digs_one n h0 h] at HD
  have hn : (n : Int) < 10 := by omega
  have hz1 : (digT [n]).size = 1 := digT_size [n]
  have HC : Hid (digT [0] ++ digT [n] = digT [0, n]) := hid_intro (digT_cons 0 [n])
  clear h h0
  generalize digT [n] = T at *
  go_enter Tryz.func87, Tryz.ntmps87
  go_wp2_with (go_at_call 73; refine HD.out.mono ?_; rintro e w1 ⟨rfl, hb⟩)
  go_ret
  exact ⟨ret_str HC.out, hb⟩
theorem two_dec2 (n : Nat) (h0 : 10 ≤ n) (h : n < 100) (w : World) : Calls Tryz.prog 87 #[.int .i64 n] w fun e w' => e = .returned (.string (digT [n / 10, n % 10])) ∧ Below w.heap.size w w' := by
  have HD := hid_intro (dec_any n (by omega) (by omega) w)
  rw [digs_two n h0 h] at HD
  have hn : ¬ (n : Int) < 10 := by omega
  generalize digT [n / 10, n % 10] = T at *
  clear h h0
  go_enter Tryz.func87, Tryz.ntmps87
  go_wp2_with (go_at_call 73; refine HD.out.mono ?_; rintro e w1 ⟨rfl, hb⟩)
  go_ret
  exact ⟨rfl, hb⟩
theorem two_any (n : Nat) (h0 : 1 ≤ n) (h : n < 100) (w : World) : Calls Tryz.prog 87 #[.int .i64 n] w fun e w' => e = .returned (.string (digT [n / 10, n % 10])) ∧ Below w.heap.size w w' := by
  by_cases h1 : n < 10
  · rw [show n / 10 = 0 by omega, show n % 10 = n by omega]
    exact two_dec n h1 w (by omega)
  · exact two_dec2 n (by omega) h w
/-- The program's two digits. -/
theorem itwo_any (n : Nat) (h : n < 100) (w : World) : Calls Tryz.prog 70 #[.int .i64 n] w fun e w' => e = .returned (.string (digT [n / 10, n % 10])) ∧ w' = w := by
  have e1 : (n : Int) / 10 = ((n / 10 : Nat) : Int) := by omega
  have e2 : (n : Int) % 10 = ((n % 10 : Nat) : Int) := by omega
  have H1 := hid_intro (fun w => fmt1 (n / 10) (by omega) w)
  have H2 := hid_intro (fun w => fmt1 (n % 10) (by omega) w)
  have HC := hid_intro (digT_cons (n / 10) [n % 10])
  generalize n / 10 = a at *
  generalize n % 10 = b at *
  have hz1 : (digT [a]).size = 1 := digT_size [a]
  have hz2 : (digT [b]).size = 1 := digT_size [b]
  generalize digT [a, b] = R at *
  have hn : (n : Int) < 100 := by omega
  go_enter Tryz.func70, Tryz.ntmps70
  go_wp2_with fail
  refine (H1.out _).mono ?_
  rintro e w1 ⟨rfl, rfl⟩
  go_wp2_with fail
  refine (H2.out _).mono ?_
  rintro e w2 ⟨rfl, rfl⟩
  go_wp2_with fail
  go_ret
  exact ⟨ret_str HC.out, rfl⟩
end DecR
end Go.Proofs.YtlfebpgohpmknaaGreatDoor
namespace Go.Proofs.YtlfebpgohpmknaaGreatDoor
open Go.ChangeShapes Go.WideShapes Go.ChangeAt Go.RowKit
set_option linter.unusedVariables false
namespace Dec2
open RowG (hid_intro)
/-- The powers of ten stand in the library's variable. -/
def PowT (w : World) : Prop := Lib.TabIs Tryz.prog w "internal/strconv.uint64pow10" .u64 Lib.pow10Tab
theorem PowT.below {w w' : World} (h : PowT w) (hb : Below w.heap.size w w') : PowT w' := by
  unfold PowT Lib.TabIs World.var? at *
  cases hg : Tryz.prog.globalNamed "internal/strconv.uint64pow10" with
  | none => simp [hg] at h
  | some g =>
    simp only [hg, Option.bind_some] at h ⊢
    have hlt : g < w.heap.size := by
      rcases Nat.lt_or_ge g w.heap.size with h' | h'
      · exact h'
      · rw [Array.getElem?_eq_none h'] at h; simp at h
    rw [hb.block g hlt]
    exact h
theorem below_grow (w : World) (k : Nat) (os : Array Obj) : Below w.heap.size w (Sort.grow (w.drewN k) os) :=
  ⟨rfl, rfl, rfl, by rw [Sort.size_grow]; exact Nat.le_add_right _ _, fun j hj => Sort.heap_grow_old (w.drewN k) os hj⟩
def itoaT (n : Int) : ByteArray := ⟨(Lib.itoa n).toArray⟩
theorem dd_len : ∀ (k u : Nat), u < 10 ^ (k + 1) → (Lib.decDigits u).length ≤ k + 1
  | 0, u, h => by rw [Lib.decDigits_one (by simpa using h)]; simp
  | k + 1, u, h => by
    rw [Lib.decDigits]
    split
    · simp
    · have := dd_len k (u / 10) (by rw [Nat.pow_succ] at h; omega)
      rw [List.length_append, List.length_singleton]
      omega
theorem dd_small {u : Nat} (h : u ≤ 9223372036854775807) : (Lib.decDigits u).length ≤ 19 := dd_len 18 u (by omega)
theorem itoaT_size {n : Int} (h : -9223372036854775807 ≤ n) (h2 : n ≤ 9223372036854775807) : (itoaT n).size ≤ 20 := by
  have e : (itoaT n).size = (Lib.itoa n).length := by simp [itoaT, ByteArray.size]
  rw [e]
  unfold Lib.itoa
  split
  · have := dd_small (u := n.natAbs) (by omega); simp only [List.length_cons]; omega
  · have := dd_small (u := n.toNat) (by omega); omega
theorem conv1 (w : World) (d : Nat) (hd : d < 10) : (convert 22 9 (.slice (some ⟨w.heap.size, 0, none⟩) 1 1)).run Tryz.prog (w.alloc (Obj.cells #[.int .u8 (48 + (d : Int))] 5)) = .ok (.string ⟨#[UInt8.ofNat (48 + d)]⟩) (w.alloc (Obj.cells #[.int .u8 (48 + (d : Int))] 5)) := by
  have h := run_convert_bytes_arg (w.alloc (Obj.cells #[.int .u8 (48 + (d : Int))] 5)) 22 5 Tryz.underlying22 Tryz.underlying5 w.heap.size 0 1 1 [48 + (d : Int)] rfl (fun i hi => by
    match i, hi with
    | 0, _ => simp [go_sem]) 9 Tryz.underlying9
  rw [h]
  have e : strOfNums [48 + (d : Int)] = (⟨#[UInt8.ofNat (48 + d)]⟩ : ByteArray) := by
    apply ByteArray.ext
    have q : ((48 + (d : Int)).toNat) = 48 + d := by omega
    simp [strOfNums, q]
  rw [e]
theorem cons_app (c : UInt8) (l : List UInt8) : (⟨#[c]⟩ : ByteArray) ++ (⟨l.toArray⟩ : ByteArray) = ⟨(c :: l).toArray⟩ := by
  apply ByteArray.ext
  simp
/-- What is left, and what is written, make the number. -/
def Part (N m : Nat) (l : List UInt8) : Prop := (m = 0 ∧ l = Lib.decDigits N) ∨ (m ≠ 0 ∧ Lib.decDigits m ++ l = Lib.decDigits N)
theorem Part.next {N m : Nat} {l : List UInt8} (h : Part N m l) (h0 : m ≠ 0) : Part N (m / 10) (UInt8.ofNat (48 + m % 10) :: l) := by
  rcases h with ⟨e, _⟩ | ⟨_, e⟩
  · exact absurd e h0
  · by_cases q : m < 10
    · refine .inl ⟨by omega, ?_⟩
      rw [Lib.decDigits_one q] at e
      rw [← e, show m % 10 = m by omega]
      rfl
    · refine .inr ⟨by omega, ?_⟩
      rw [Lib.decDigits, dif_neg q] at e
      rw [← e, List.append_assoc]
      rfl
theorem Part.len {N m : Nat} {l : List UInt8} (h : Part N m l) (hN : N ≤ 9223372036854775807) : l.length ≤ 19 := by
  have hn := dd_small hN
  rcases h with ⟨_, rfl⟩ | ⟨_, e⟩
  · exact hn
  · rw [← e, List.length_append] at hn
    omega
set_option maxRecDepth 100000 in
set_option maxHeartbeats 4000000 in
theorem dec_any (N : Nat) (h0 : N ≠ 0) (h : N ≤ 9223372036854775807) (w : World) : Calls Tryz.prog 73 #[.int .i64 N] w fun e w' => e = .returned (.string ⟨(Lib.decDigits N).toArray⟩) ∧ Below w.heap.size w w' := by
  have h1 : (0 : Int) < (N : Int) := by omega
  have h2 : ¬ (N : Int) = 0 := by omega
  go_enter Tryz.func73, Tryz.ntmps73
  go_wp2_with fail
  go_loopw [0, 4] (fun x s wr => ∃ (m : Nat) (l : List UInt8), x = .int .i64 (m : Int) ∧ s = .string ⟨l.toArray⟩ ∧ m ≤ 9223372036854775807 ∧ Hid (Part N m l) ∧ Hid (Below w.heap.size w wr)) (fun x _ _ => (intOf x).toNat)
  case atStart => exact ⟨N, [], rfl, rfl, h, hid_intro (.inr ⟨h0, by simp⟩), Below.refl _ _⟩
  case round =>
    obtain ⟨m, l, rfl, rfl, hm, HD, HB⟩ := hrel
    by_cases hm0 : m = 0
    · subst hm0
      have HO : Hid ((⟨l.toArray⟩ : ByteArray) = ⟨(Lib.decDigits N).toArray⟩) := hid_intro (by
        rcases HD.out with ⟨_, e⟩ | ⟨e, _⟩
        · rw [e]
        · exact absurd rfl e)
      clear HD
      generalize (⟨l.toArray⟩ : ByteArray) = T at *
      go_wp2_with fail
      go_ret
      exact ⟨ret_str HO.out, HB.out⟩
    · have HD2 := hid_intro (HD.out.next hm0)
      have hmi : ¬ (m : Int) = 0 := by omega
      have hmi2 : (0 : Int) < (m : Int) := by omega
      have e1 : (m : Int) % 10 = ((m % 10 : Nat) : Int) := by omega
      have e2 : (m : Int) / 10 = ((m / 10 : Nat) : Int) := by omega
      have hl : l.length ≤ 19 := HD.out.len h
      obtain ⟨d, hd⟩ : ∃ d, d = m % 10 := ⟨_, rfl⟩
      obtain ⟨q, hq⟩ : ∃ q, q = m / 10 := ⟨_, rfl⟩
      rw [← hd] at e1 HD2
      rw [← hq] at e2 HD2
      have hd10 : d < 10 := by omega
      have hdi : ¬ (d : Int) < 0 := by omega
      have hcv := conv1 wr d hd10
      have HC := hid_intro (cons_app (UInt8.ofNat (48 + d)) l)
      have hz1 : (⟨#[UInt8.ofNat (48 + d)]⟩ : ByteArray).size = 1 := rfl
      have hz2 : (⟨l.toArray⟩ : ByteArray).size ≤ 19 := by simpa [ByteArray.size] using hl
      have HQ := hid_intro hq
      have hqm : q ≤ 9223372036854775807 := by omega
      have HT : Hid (∀ T : ByteArray, T = (⟨#[UInt8.ofNat (48 + d)]⟩ : ByteArray) → True) := fun _ _ => trivial
      clear hd hq HD hl
      generalize UInt8.ofNat (48 + d) = c at *
      go_wp2_with fail
      go_roundw
      case rel => exact ⟨q, c :: l, rfl, by rw [HC.out], hqm, HD2, hid_intro (HB.out.alloc HB.out.size _)⟩
      case measure => simp [intOf]; have := HQ.out; omega
theorem dec_zero (w : World) : Calls Tryz.prog 73 #[.int .i64 0] w fun e w' => e = .returned (.string ⟨(Lib.decDigits 0).toArray⟩) ∧ Below w.heap.size w w' := by
  rw [Lib.decDigits_one (i := 0) (by omega)]
  go_enter Tryz.func73, Tryz.ntmps73
  go_wp2
  go_ret
  exact ⟨rfl, Below.refl _ _⟩
theorem dec_itoa (n : Int) (h0 : 0 ≤ n) (h : n ≤ 9223372036854775807) (w : World) : Calls Tryz.prog 73 #[.int .i64 n] w fun e w' => e = .returned (.string (itoaT n)) ∧ Below w.heap.size w w' := by
  obtain ⟨N, rfl⟩ : ∃ N : Nat, n = N := ⟨n.toNat, by omega⟩
  have e : itoaT (N : Int) = ⟨(Lib.decDigits N).toArray⟩ := by unfold itoaT Lib.itoa; rw [if_neg (by omega)]; rfl
  rw [e]
  by_cases q : N = 0
  · subst q; exact dec_zero w
  · exact dec_any N q (by omega) w
theorem sdec_itoa (n : Int) (h0 : -9223372036854775807 ≤ n) (h : n ≤ 9223372036854775807) (w : World) : Calls Tryz.prog 74 #[.int .i64 n] w fun e w' => e = .returned (.string (itoaT n)) ∧ Below w.heap.size w w' := by
  by_cases q : n < 0
  · have e : itoaT n = (⟨#[45]⟩ : ByteArray) ++ itoaT (-n) := by
      unfold itoaT Lib.itoa
      rw [if_pos q, if_neg (by omega), show (-n).toNat = n.natAbs by omega]
      apply ByteArray.ext
      simp
    rw [e]
    have HD := hid_intro (fun w => dec_itoa (-n) (by omega) (by omega) w)
    have hz := itoaT_size (n := -n) (by omega) (by omega)
    have hz1 : (⟨#[45]⟩ : ByteArray).size = 1 := rfl
    clear e
    generalize itoaT (-n) = T at *
    go_enter Tryz.func74, Tryz.ntmps74
    go_wp2_with fail
    refine (HD.out _).mono ?_
    rintro e w1 ⟨rfl, hb⟩
    go_wp2_with fail
    go_ret
    exact ⟨rfl, hb⟩
  · have HD := hid_intro (fun w => dec_itoa n (by omega) h w)
    generalize itoaT n = T at *
    go_enter Tryz.func74, Tryz.ntmps74
    go_wp2_with fail
    refine (HD.out _).mono ?_
    rintro e w1 ⟨rfl, hb⟩
    go_wp2_with fail
    go_ret
    exact ⟨rfl, hb⟩
/-- What the library's FormatInt hands back at base 10. -/
def FmtOk : Prop := ∀ (n : Int), -9223372036854775807 ≤ n → n ≤ 9223372036854775807 → ∀ w, PowT w → Calls Tryz.prog 46 #[.int .i64 n, .int .i64 10] w fun e w' => e = .returned (.string (itoaT n)) ∧ Below w.heap.size w w'
end Dec2
end Go.Proofs.YtlfebpgohpmknaaGreatDoor
namespace Go.Proofs.YtlfebpgohpmknaaGreatDoor
open Go.ChangeShapes Go.WideShapes Go.ChangeAt Go.RowKit
set_option linter.unusedVariables false
theorem hid_intro {p : Prop} (h : p) : Hid p := h
namespace JoinR
def jl (parts : List ByteArray) (k : Nat) : List UInt8 := (parts.take k).flatMap (fun p => p.data.toList)
def joinB (parts : List ByteArray) : ByteArray := ⟨(parts.flatMap (fun p => p.data.toList)).toArray⟩
theorem jl_zero (parts : List ByteArray) : jl parts 0 = [] := rfl
theorem jl_succ (parts : List ByteArray) (k : Nat) (h : k < parts.length) : jl parts (k + 1) = jl parts k ++ (parts[k]).data.toList := by
  unfold jl; rw [List.take_succ_eq_append_getElem h, List.flatMap_append]; simp only [List.flatMap_cons, List.flatMap_nil, List.append_nil]
theorem jl_all (parts : List ByteArray) : jl parts parts.length = parts.flatMap (fun p => p.data.toList) := by
  unfold jl; rw [List.take_of_length_le (Nat.le_refl _)]
theorem jl_le (parts : List ByteArray) (k : Nat) : (jl parts k).length ≤ (jl parts parts.length).length := by
  rw [jl_all]; unfold jl
  conv => rhs; rw [← List.take_append_drop k parts, List.flatMap_append, List.length_append]
  omega
theorem jl_len (parts : List ByteArray) (k : Nat) (h : k < parts.length) : (jl parts (k + 1)).length = (jl parts k).length + (parts[k]).size := by
  rw [jl_succ parts k h, List.length_append]; rfl

/-- 'copy(dst, s)', s a text: the run, and what it leaves of the row. -/
theorem copy_text_run {P : Program} {w : World} (dT sT ty : TypeId) (elem : TypeId) (hu : P.underlying dT = some (.slice elem)) (hsz : (P.info? elem).map (·.size) = some 1)
    (dp : Option Addr) (dLen dCap : Nat) (str : ByteArray)
    (g off : Nat) (cur : List Value) (t : TypeId) (hg : w.heap[g]? = some (.cells cur.toArray t (0, 0))) (hle : str.size ≤ dLen)
    (hpos : 0 < str.size → dp = some ⟨g, off, none⟩) (hfit : off + str.size ≤ cur.length) (B : Nat) (w0 : World) (hb : Below B w0 w) (hBg : B ≤ g) :
    ∃ w', (Builtin.copy_ #[dT, sT] ty #[.slice dp dLen dCap, .string str]).run P w = .ok (.int .i64 str.size) w' ∧ Hid (w'.heap[g]? = some (.cells (splice cur off (Go.Lib.byteCells str.data.toList)).toArray t (0, 0))) ∧ Below B w0 w' := by
  have hlen : (Go.Lib.byteCells str.data.toList).length = str.size := by rw [Go.Lib.byteCells_length]; rfl
  by_cases h0 : str.size = 0
  · have hrun := Go.Lib.run_copy_empty_string (P := P) w dT sT ty elem dp dLen dCap str hu (by cases hq : P.info? elem <;> simp [hq] at hsz ⊢) h0
    have hnil : Go.Lib.byteCells str.data.toList = [] := List.eq_nil_of_length_eq_zero (by omega)
    refine ⟨w, by rw [hrun, h0]; rfl, show _ = _ from ?_, hb⟩
    rw [hnil]
    simpa [splice] using hg
  · have hd' := hpos (by omega)
    subst hd'
    have hrun := Go.Lib.run_copy_row_string (P := P) w dT sT ty elem g off dLen dCap str cur.toArray t hu hsz hg hle (by simpa using hfit)
    refine ⟨_, hrun, show _ = _ from ?_, below_setRow hb hBg _⟩
    have := setRow_heap w g cur.toArray (List.take off cur ++ Go.Lib.byteCells str.data.toList ++ List.drop (off + str.size) cur).toArray t (0, 0) hg
    simpa [splice, hlen] using this

theorem splice_next (pre cs rest : List Value) (h : cs.length ≤ rest.length) : splice (pre ++ rest) pre.length cs = (pre ++ cs) ++ rest.drop cs.length := by
  unfold splice
  simp [List.drop_append]

theorem row_of_full {w : World} {base e g n : Nat} {xs : List Value} (h : w.ownsRow base e 1 (.slice (some ⟨g, 0, none⟩) n n) n xs) :
    ∃ rest : List Value, w.heap[g]? = some (.cells rest.toArray e (0, 0)) ∧ rest.length = n := by
  rcases h.2 with ⟨h1, _⟩ | ⟨g', cap, cur, h1, _, hg, _, _, hs, _⟩
  · simp at h1
  · simp at h1
    obtain ⟨rfl, rfl⟩ := h1
    exact ⟨cur.toList, by simpa using hg, by simpa using hs⟩

theorem Tryzinfo5 : (Tryz.prog.info? 5).map (fun i => (i.zero, i.size, i.bytes)) = some (some (.int .u8 0), 1, 1) := by kernel_rfl
theorem Tryzsize5 : (Tryz.prog.info? 5).map (·.size) = some 1 := by kernel_rfl

set_option maxHeartbeats 2000000 in
theorem join_len (parts : List ByteArray) (b cap : Nat) (w : World) (hcap : parts.length ≤ cap) (hcm : parts.length ≤ 1000) (hb : b < w.heap.size)
    (hc : ∀ k (h : k < parts.length), w.cell? ⟨b, k, none⟩ = some (.string parts[k])) (htot : (jl parts parts.length).length ≤ 1099511627776) :
    Calls Tryz.prog 47 #[.slice (some ⟨b, 0, none⟩) parts.length cap] w fun e w' => e = .returned (.string (joinB parts)) ∧ Below w.heap.size w w' := by
  obtain ⟨i0, hi, hz0, hz1, hz2⟩ := info_parts Tryzinfo5
  go_enter Tryz.func47, Tryz.ntmps47
  go_wp2
  go_loop [3, 12] (fun x i => ∃ k : Nat, k ≤ parts.length ∧ i = .int .i64 k ∧ x = .int .i64 ((jl parts k).length : Nat)) (fun _ i => parts.length - (intOf i).toNat)
  case atStart => exact ⟨0, by omega, rfl, rfl⟩
  case round =>
    obtain ⟨k, hk, rfl, rfl⟩ := hrel
    by_cases hlt : k < parts.length
    · have hcell := hc k hlt
      have h1 := jl_le parts (k + 1)
      have h2 := jl_len parts k hlt
      have HL : Hid ((jl parts (k + 1)).length = (jl parts k).length + (parts[k]).size) := h2
      have hbd : (jl parts k).length + (parts[k]).size ≤ 1099511627776 := by omega
      clear h1 h2
      go_wp2
      go_round
      case rel => exact ⟨k + 1, by omega, by go_num, by rw [HL.out]; go_num⟩
      case measure => simp [intOf]; omega
    · have : k = parts.length := by omega
      subst this
      obtain ⟨n, hn⟩ : ∃ n, n = (jl parts parts.length).length := ⟨_, rfl⟩
      rw [← hn] at htot ⊢
      have HN : Hid (n = (jl parts parts.length).length) := hn
      clear hn
      go_wp2_with (at_make; refine wpList_make_full _ rfl _ _ 22 rfl w.heap.size 5 i0 (.int .u8 0) 1 Tryz.underlying22 hi hz0 hz1 .i64 .i64 _ _ n rfl rfl rfl rfl ?b2 ?b3 ?b4 ?_)
      case b2 => omega
      case b3 => unfold maxLen; omega
      intro wm hown hgrow
      obtain ⟨rest0, hrow0, hrl0⟩ := row_of_full hown
      have hbm : Below w.heap.size w wm := (Below.refl _ _).grown hgrow (Nat.le_refl _) (fun _ h => by cases h)
      have HR0 : Hid (wm.heap[w.heap.size]? = some (.cells rest0.toArray 5 (0, 0))) := hrow0
      clear hown hgrow hrow0
      obtain ⟨G, hG⟩ : ∃ G, G = w.heap.size := ⟨_, rfl⟩
      have HG : Hid (G = w.heap.size) := hG
      rw [← hG] at hbm HR0 hb ⊢
      clear hG
      go_wp2
      go_loopw [7, 25] (fun x i wr => ∃ k : Nat, k ≤ parts.length ∧ i = .int .i64 k ∧ x = .int .i64 ((jl parts k).length : Nat) ∧ Below G w wr ∧ ∃ rest : List Value, Hid (wr.heap[G]? = some (.cells (Go.Lib.byteCells (jl parts k) ++ rest).toArray 5 (0, 0))) ∧ rest.length = n - (jl parts k).length) (fun _ i _ => parts.length - (intOf i).toNat)
      case atStart => exact ⟨0, by omega, rfl, rfl, hbm, rest0, HR0, by rw [hrl0]; rfl⟩
      case round =>
        obtain ⟨k, hk, rfl, rfl, hbr, rest, HR, hrl⟩ := hrel
        by_cases hlt : k < parts.length
        · have hcell := hc k hlt
          have hcr : wr.cell? ⟨b, k, none⟩ = some (.string parts[k]) := (hbr.cell (p := ⟨b, k, none⟩) hb).trans hcell
          have h1 := jl_le parts (k + 1)
          have h2 := jl_len parts k hlt
          rw [← HN.out] at h1
          have HL : Hid ((jl parts (k + 1)).length = (jl parts k).length + (parts[k]).size) := h2
          have HB : Hid ((jl parts k).length + (parts[k]).size ≤ n) := hid_intro (by omega)
          have HC : Hid (jl parts (k + 1) = jl parts k ++ (parts[k]).data.toList) := jl_succ parts k hlt
          clear h1 h2 hcell
          obtain ⟨L, hL⟩ : ∃ L, L = jl parts k := ⟨_, rfl⟩
          rw [← hL] at HL HB HC HR hrl ⊢
          clear hL
          obtain ⟨m, hm⟩ : ∃ m, m = L.length := ⟨_, rfl⟩
          rw [← hm] at HL HB hrl ⊢
          have HM : Hid (m = L.length) := hm
          clear hm
          obtain ⟨q, hq⟩ : ∃ q, q = parts[k] := ⟨_, rfl⟩
          rw [← hq] at HL HB HC hcr
          clear hq
          have hqn : m + q.size ≤ n := HB.out
          have hfin : ∀ w', Hid (w'.heap[G]? = some (.cells (splice (Go.Lib.byteCells L ++ rest) m (Go.Lib.byteCells q.data.toList)).toArray 5 (0, 0))) → Below G w w' →
              ∃ k' : Nat, k' ≤ parts.length ∧ Value.int .i64 ((k : Int) + 1) = .int .i64 k' ∧ Value.int .i64 ((m : Int) + q.size) = .int .i64 ((jl parts k').length : Nat) ∧ Below G w w' ∧ ∃ rest : List Value, Hid (w'.heap[G]? = some (.cells (Go.Lib.byteCells (jl parts k') ++ rest).toArray 5 (0, 0))) ∧ rest.length = n - (jl parts k').length := by
            intro w' hh hbb
            refine ⟨k + 1, by omega, by go_num, by rw [HL.out]; go_num, hbb, rest.drop (Go.Lib.byteCells q.data.toList).length, ?_, ?_⟩
            · have hlen : (Go.Lib.byteCells L).length = m := by rw [Go.Lib.byteCells_length]; exact HM.out.symm
              have hq2 : (Go.Lib.byteCells q.data.toList).length = q.size := Go.Lib.byteCells_length _
              have := splice_next (Go.Lib.byteCells L) (Go.Lib.byteCells q.data.toList) rest (by rw [hq2, hrl]; omega)
              rw [hlen] at this
              rw [HC.out, Go.Lib.byteCells_append, ← this]
              exact hh
            · have hq2 : (Go.Lib.byteCells q.data.toList).length = q.size := Go.Lib.byteCells_length _
              rw [List.length_drop, hq2, hrl, HL.out]; omega
          have HF := hid_intro hfin
          have hcur : (Go.Lib.byteCells L ++ rest).length = n := by rw [List.length_append, Go.Lib.byteCells_length, ← HM.out, hrl]; omega
          clear hfin HL HC HB
          by_cases hmn : m < n
          · obtain ⟨w4, hrun, hg4, hb4⟩ := copy_text_run (P := Tryz.prog) 22 9 3 5 Tryz.underlying22 Tryzsize5 (some ⟨G, m, none⟩) (n - m) (n - m) q G m (Go.Lib.byteCells L ++ rest) 5 HR.out (by omega) (fun _ => rfl) (by omega) G w hbr (Nat.le_refl _)
            clear HR
            go_wp2
            go_roundw
            case rel => exact HF.out _ hg4 hb4
            case measure => simp [intOf]; omega
          · obtain rfl : m = n := by omega
            have hq0 : q.size = 0 := by omega
            obtain ⟨w4, hrun, hg4, hb4⟩ := copy_text_run (P := Tryz.prog) 22 9 3 5 Tryz.underlying22 Tryzsize5 (some ⟨G, 0, none⟩) 0 0 q G m (Go.Lib.byteCells L ++ rest) 5 HR.out (by omega) (fun _ => by omega) (by omega) G w hbr (Nat.le_refl _)
            rw [hq0] at hrun
            clear HR
            go_wp2
            go_roundw
            case rel => have := HF.out _ hg4 hb4; simp only [hq0] at this; simpa using this
            case measure => simp [intOf]; omega
        · have : k = parts.length := by omega
          subst this
          have hall : (jl parts parts.length).length = n := HN.out.symm
          obtain rfl : rest = [] := List.eq_nil_of_length_eq_zero (by rw [hrl, hall]; omega)
          have hback := fun dst (hd : Tryz.prog.underlying dst = some .string) => run_convert_bytes_back (P := Tryz.prog) wr 22 dst 5 ⟨G, 0, none⟩ n (jl parts parts.length) Tryz.underlying22 Tryz.underlying5 hd (Go.Lib.bytes_of_row HR.out (by simp; rw [List.take_of_length_le (by simp [Go.Lib.byteCells])]))
          have hb9 := hback 9 Tryz.underlying9
          rw [hall] at hb9
          clear hback hall HR
          go_wp2
          go_ret
          refine ⟨ret_str ?_, HG.out ▸ hbr⟩
          unfold joinB
          rw [← jl_all]
theorem join_any (parts : List ByteArray) (b cap : Nat) (w : World) (hcap : parts.length ≤ cap) (hcm : cap ≤ 1000) (hb : b < w.heap.size)
    (hc : ∀ k (h : k < parts.length), w.cell? ⟨b, k, none⟩ = some (.string parts[k])) (htot : (jl parts parts.length).length ≤ 1099511627776) :
    Calls Tryz.prog 47 #[.slice (some ⟨b, 0, none⟩) parts.length cap] w fun e w' => e = .returned (.string (joinB parts)) ∧ Below w.heap.size w w' :=
  join_len parts b cap w hcap (by omega) hb hc htot
theorem cell_new {w : World} {C : Array Value} {T : TypeId} {k : Nat} {v : Value} (h : C[k]? = some v) : (w.alloc (.cells C T)).cell? ⟨w.heap.size, k, none⟩ = some v := by
  rw [World.cell?_alloc_mark]; exact h
theorem join1 (a : ByteArray) (w : World) (ht : a.size ≤ 1099511627776) :
    Calls Tryz.prog 47 #[.slice (some ⟨w.heap.size, 0, none⟩) 1 1] (w.alloc (.cells #[.string a] 9)) fun e w' => e = .returned (.string a) ∧ Below w.heap.size w w' := by
  refine (join_any [a] w.heap.size 1 _ (Nat.le_refl _) (by omega) (by simp) (fun k h => cell_new (by match k, h with | 0, _ => rfl)) (by simp [jl]; exact ht)).mono ?_
  rintro e w' ⟨rfl, hb⟩
  refine ⟨ret_str (by unfold joinB; simp), ((Below.refl _ _).alloc (Nat.le_refl _) _).trans (hb.mono (by simp))⟩
theorem join2 (a b : ByteArray) (w : World) (ht : a.size + b.size ≤ 1099511627776) :
    Calls Tryz.prog 47 #[.slice (some ⟨w.heap.size, 0, none⟩) 2 2] (w.alloc (.cells #[.string a, .string b] 9)) fun e w' => e = .returned (.string (a ++ b)) ∧ Below w.heap.size w w' := by
  refine (join_any [a, b] w.heap.size 2 _ (Nat.le_refl _) (by omega) (by simp) (fun k h => cell_new (by match k, h with | 0, _ => rfl | 1, _ => rfl)) (by simp [jl]; exact ht)).mono ?_
  rintro e w' ⟨rfl, hb⟩
  refine ⟨ret_str (ByteArray.ext (by unfold joinB; simp)), ((Below.refl _ _).alloc (Nat.le_refl _) _).trans (hb.mono (by simp))⟩
end JoinR
end Go.Proofs.YtlfebpgohpmknaaGreatDoor
namespace Go.Proofs.YtlfebpgohpmknaaGreatDoor
open Go.ChangeShapes Go.WideShapes Go.ChangeAt Go.RowKit
set_option linter.unusedVariables false
namespace MonX
open DecR Dec2
open RowG (hid_intro)
def date (y m d : Int) : Value := .agg #[.int .i64 y, .int .i64 m, .int .i64 d]
theorem mon_key (n : Int) : (0 ≤ n ∧ n ≤ 2760) ∨ (¬ 0 ≤ n) ∨ (0 ≤ n ∧ ¬ n ≤ 2760) := by omega
theorem mon_div (k : Nat) : (k : Int).tdiv 12 = ((k / 12 : Nat) : Int) ∧ (k : Int).tmod 12 = ((k % 12 : Nat) : Int) := by
  rw [Int.tdiv_eq_ediv_of_nonneg (by omega), Int.tmod_eq_emod_of_nonneg (by omega)]; omega
theorem first_any (k a b : Nat) (hk : k ≤ 2760) (ha : (k : Int).tdiv 12 = (a : Int)) (hb : (k : Int).tmod 12 = (b : Int)) (ha2 : a ≤ 230) (hb2 : b ≤ 11) (w : World) :
    Calls Tryz.prog 69 #[.int .i64 k] w fun e w' => e = .returned (date (1970 + (a : Int)) ((b : Int) + 1) 1) ∧ Below w.heap.size w w' := by
  go_enter Tryz.func69, Tryz.ntmps69
  go_wp2_with fail
  refine bodyPost_ret (v := date (1970 + (a : Int)) ((b : Int) + 1) 1) (by simp [date, results, Tryz.results69, go_sem]) rfl ⟨rfl, ?_⟩
  repeat' first | exact Below.refl _ _ | apply Below.setCell | apply Below.alloc
  all_goals first | omega | (simp; done) | (simp; omega)
def monT (y m : Nat) : ByteArray := itoaT (y : Int) ++ (⟨#[45]⟩ : ByteArray) ++ digT [m / 10, m % 10]
set_option maxHeartbeats 4000000 in
theorem spec_mtext_in (k a b : Nat) (hk : k ≤ 2760) (ha : (k : Int).tdiv 12 = (a : Int)) (hb : (k : Int).tmod 12 = (b : Int)) (ha2 : a ≤ 230) (hb2 : b ≤ 11) (w : World) :
    Calls Tryz.prog 72 #[.int .i64 k] w fun e w' => e = .returned (.string (monT (1970 + a) (b + 1))) ∧ Below w.heap.size w w' := by
  have HY := hid_intro (fun w => Dec2.dec_itoa ((1970 + a : Nat) : Int) (by omega) (by omega) w)
  have HM := hid_intro (fun w => DecR.two_any (b + 1) (by omega) (by omega) w)
  rw [show (((b + 1 : Nat)) : Int) = 1 + (b : Int) by omega] at HM
  unfold monT
  have z1 : (itoaT ((1970 + a : Nat) : Int)).size ≤ 20 := itoaT_size (by omega) (by omega)
  have z2 : (digT [(b + 1) / 10, (b + 1) % 10]).size = 2 := digT_size _
  generalize hT1 : itoaT ((1970 + a : Nat) : Int) = T1 at *
  clear hT1
  generalize digT [(b + 1) / 10, (b + 1) % 10] = T2 at *
  rw [show (((1970 + a : Nat)) : Int) = 1970 + (a : Int) by omega] at HY
  have k2 : (k : Int) ≤ 2760 := by omega
  have q1 : IntKind.i64.wrap (1970 + (a : Int)) = 1970 + (a : Int) := by simp [IntKind.wrap, IntKind.bits, IntKind.signed]; omega
  have q2 : IntKind.i64.wrap (1 + (b : Int)) = 1 + (b : Int) := by simp [IntKind.wrap, IntKind.bits, IntKind.signed]; omega
  have HB0 := hid_intro (Below.refl w.heap.size w)
  have HB1 := hid_intro (Below.refl w.heap.size w).drew
  go_enter Tryz.func72, Tryz.ntmps72
  go_wp2_with (first | (go_at_call 40; go_in) | (go_at_call 50; go_in))
  refine (HY.out _).mono ?_
  rintro e w1 ⟨rfl, hb1⟩
  go_wp2_with fail
  refine (HM.out _).mono ?_
  rintro e w2 ⟨rfl, hb2⟩
  go_wp2_with fail
  go_ret
  exact ⟨rfl, hb1.trans (hb2.mono hb1.size)⟩
theorem join3 (a b c : ByteArray) (w : World) (ht : a.size + b.size + c.size ≤ 1099511627776) :
    Calls Tryz.prog 47 #[.slice (some ⟨w.heap.size, 0, none⟩) 3 3] (w.alloc (.cells #[.string a, .string b, .string c] 9)) fun r w' => r = .returned (.string (a ++ b ++ c)) ∧ Below (w.alloc (.cells #[.string a, .string b, .string c] 9)).heap.size (w.alloc (.cells #[.string a, .string b, .string c] 9)) w' := by
  refine (JoinR.join_any [a, b, c] w.heap.size 3 _ (Nat.le_refl _) (by omega) (by simp) (fun k h => JoinR.cell_new (by match k, h with | 0, _ => rfl | 1, _ => rfl | 2, _ => rfl)) (by simp [JoinR.jl]; have h1 : a.data.size = a.size := rfl; have h2 : b.data.size = b.size := rfl; have h3 : c.data.size = c.size := rfl; omega)).mono ?_
  rintro r w' ⟨rfl, hb⟩
  refine ⟨ret_str (ByteArray.ext (by unfold JoinR.joinB; simp)), hb⟩
/-- What lies below, and a first day's date. -/
def BoxF (w : World) (B : Nat) (y m : Int) (w' : World) : Prop := Below w.heap.size w w' ∧ w.heap.size ≤ B ∧ B < w'.heap.size ∧ w'.cell? ⟨B, 0, none⟩ = some (.int .i64 y) ∧ w'.cell? ⟨B, 1, none⟩ = some (.int .i64 m) ∧ w'.cell? ⟨B, 2, none⟩ = some (.int .i64 1)
theorem BoxF.below {w w1 w2 : World} {B : Nat} {y m : Int} (h : BoxF w B y m w1) (hb : Below w1.heap.size w1 w2) : BoxF w B y m w2 := by
  obtain ⟨h0, h1, hl, c0, c1, c2⟩ := h
  have hs := hb.size
  have f := fun o => hb.cell (p := ⟨B, o, none⟩) hl
  exact ⟨h0.trans (hb.mono h0.size), h1, by omega, (f 0).trans c0, (f 1).trans c1, (f 2).trans c2⟩
theorem pows_boxF {w w' : World} {B : Nat} {y m : Int} (hP : PowT w) (h : BoxF w B y m w') : PowT w' := hP.below h.1
set_option maxHeartbeats 4000000 in
theorem impl_mtext_in (k a b : Nat) (hk : k ≤ 2760) (ha : (k : Int).tdiv 12 = (a : Int)) (hb : (k : Int).tmod 12 = (b : Int)) (ha2 : a ≤ 230) (hb2 : b ≤ 11) (w : World) (hFm : FmtOk) (hP : PowT w) :
    Calls Tryz.prog 45 #[.int .i64 k] w fun e w' => e = .returned (.string (monT (1970 + a) (b + 1))) ∧ Below w.heap.size w w' := by
  have HP := hid_intro hP
  have HF := hid_intro (fun w => first_any k a b hk ha hb ha2 hb2 w)
  have HY := hid_intro (fun w hP => hFm ((1970 + a : Nat) : Int) (by omega) (by omega) w hP)
  have HM := hid_intro (fun w => DecR.itwo_any (b + 1) (by omega) w)
  rw [show (((b + 1 : Nat)) : Int) = (b : Int) + 1 by omega] at HM
  unfold monT
  have z1 : (itoaT ((1970 + a : Nat) : Int)).size ≤ 20 := itoaT_size (by omega) (by omega)
  have z2 : (digT [(b + 1) / 10, (b + 1) % 10]).size = 2 := digT_size _
  generalize hT1 : itoaT ((1970 + a : Nat) : Int) = T1 at *
  clear hT1
  generalize digT [(b + 1) / 10, (b + 1) % 10] = T2 at *
  rw [show (((1970 + a : Nat)) : Int) = 1970 + (a : Int) by omega] at HY
  have HJ := hid_intro (fun w => join3 T1 ⟨#[45]⟩ T2 w (by have : (⟨#[45]⟩ : ByteArray).size = 1 := rfl; omega))
  have k2 : (k : Int) ≤ 2760 := by omega
  obtain ⟨Y, hY⟩ : ∃ Y, Y = 1970 + (a : Int) := ⟨_, rfl⟩
  obtain ⟨M, hM⟩ : ∃ M, M = (b : Int) + 1 := ⟨_, rfl⟩
  unfold date at *
  rw [← hY, ← hM] at HF
  rw [← hY] at HY
  rw [← hM] at HM
  clear hP ha hb hY hM hFm
  go_enter Tryz.func45, Tryz.ntmps45
  go_wp2_with (first | (go_at_call 31; go_in) | (go_at_call 49; go_in))
  refine (HF.out _).mono ?_
  rintro e w1 ⟨rfl, hb1⟩
  have HB0 := hid_intro hb1
  have HS0 := hid_intro (show BoxF w w1.heap.size Y M (w1.alloc (.cells #[.int .i64 Y, .int .i64 M, .int .i64 1] 106)) from ⟨hb1.alloc hb1.size _, hb1.size, by simp, by simp [go_sem], by simp [go_sem], by simp [go_sem]⟩)
  have HS1 := hid_intro (show BoxF w w1.heap.size Y M (w1.alloc (.cells #[.int .i64 Y, .int .i64 M, .int .i64 1] 106)).drew from ⟨(hb1.alloc hb1.size _).drew, hb1.size, by simp, by simp [go_sem], by simp [go_sem], by simp [go_sem]⟩)
  clear hb1
  go_wp2_with fail
  go_region_held3 (fun w' => Below w.heap.size w w' ∧ w.heap.size ≤ w1.heap.size ∧ w1.heap.size < w'.heap.size ∧ w'.cell? ⟨w1.heap.size, 0, none⟩ = some (.int .i64 Y) ∧ w'.cell? ⟨w1.heap.size, 1, none⟩ = some (.int .i64 M) ∧ w'.cell? ⟨w1.heap.size, 2, none⟩ = some (.int .i64 1)) (first | assumption | (exact HS0.out) | (exact HS1.out) | (exact BoxF.below (w := w) (B := w1.heap.size) (y := Y) (m := M) (by assumption) hb) | (exact BoxF.below (w := w) (B := w1.heap.size) (y := Y) (m := M) (by assumption) ((Below.refl _ _).alloc (Nat.le_refl _) _)))
      (first | (go_at_call 46; refine (HY.out _ (pows_boxF (B := w1.heap.size) (y := Y) (m := M) HP.out (by assumption))).mono ?_; rintro e w' ⟨rfl, hb⟩) | (go_at_call 70; refine (HM.out _).mono ?_; rintro e w' ⟨rfl, rfl⟩) | (go_at_call 47; refine (HJ.out _).mono ?_; rintro e w' ⟨rfl, hb⟩))
  rename_i hS
  go_wp2_with fail
  go_ret
  exact ⟨rfl, hS.1⟩
theorem impl_mtext_no (n : Int) (h : (¬ 0 ≤ n) ∨ (0 ≤ n ∧ ¬ n ≤ 2760)) (w : World) : Calls Tryz.prog 45 #[.int .i64 n] w fun e w' => e = .returned (.string ⟨#[]⟩) ∧ Below w.heap.size w w' := by
  rcases h with h1 | ⟨h1, h2⟩
  all_goals
    go_enter Tryz.func45, Tryz.ntmps45
    go_wp2
    go_ret
    exact ⟨rfl, Below.refl _ _⟩
theorem spec_mtext_no (n : Int) (h : (¬ 0 ≤ n) ∨ (0 ≤ n ∧ ¬ n ≤ 2760)) (w : World) : Calls Tryz.prog 72 #[.int .i64 n] w fun e w' => e = .returned (.string ⟨#[]⟩) ∧ Below w.heap.size w w' := by
  rcases h with h1 | ⟨h1, h2⟩
  all_goals
    go_enter Tryz.func72, Tryz.ntmps72
    go_wp2
    go_ret
    exact ⟨rfl, Below.refl _ _⟩
theorem mtext_both (hFm : FmtOk) (m : Int) : ∃ T : ByteArray, T.size ≤ 30 ∧ (∀ w, PowT w → Calls Tryz.prog 45 #[.int .i64 m] w fun e w' => e = .returned (.string T) ∧ Below w.heap.size w w') ∧ (∀ w, Calls Tryz.prog 72 #[.int .i64 m] w fun e w' => e = .returned (.string T) ∧ Below w.heap.size w w') := by
  rcases mon_key m with ⟨h1, h2⟩ | h
  · obtain ⟨k, rfl⟩ : ∃ k : Nat, m = k := ⟨m.toNat, by omega⟩
    obtain ⟨e1, e2⟩ := mon_div k
    refine ⟨_, ?_, fun w hP => impl_mtext_in k (k / 12) (k % 12) (by omega) e1 e2 (by omega) (by omega) w hFm hP, fun w => spec_mtext_in k (k / 12) (k % 12) (by omega) e1 e2 (by omega) (by omega) w⟩
    unfold monT
    rw [ByteArray.size_append, ByteArray.size_append, digT_size]
    have := itoaT_size (n := ((1970 + k / 12 : Nat) : Int)) (by omega) (by omega)
    have e : (⟨#[45]⟩ : ByteArray).size = 1 := rfl
    simp only [List.length_cons, List.length_nil]
    omega
  · exact ⟨⟨#[]⟩, by decide, fun w _ => impl_mtext_no m h w, fun w => spec_mtext_no m h w⟩
end MonX
end Go.Proofs.YtlfebpgohpmknaaGreatDoor
namespace Go.Proofs.YtlfebpgohpmknaaGreatDoor
open Go.ChangeShapes Go.WideShapes Go.ChangeAt Go.RowKit
set_option linter.unusedVariables false
namespace DocR
open JoinR (joinB jl)
open CatR (Blk)
theorem own_drew {w : World} {base e size n : Nat} {v : Value} {xs : List Value} (h : w.ownsRow base e size v n xs) : w.drew.ownsRow base e size v n xs := h
theorem step_append_own {P : Program} {w : World} {ops : Array Oper} {o : Oper} {a : Act} {K : Act → World → Prop} {Q : Exit → Act → World → Prop} {E : Prop} (hgd : o.guard = none) (s x : Operand) (t : TypeId)
    (ho : o.op = .call { callee := .builtin .append, args := #[s, x], argTypes := #[t, t] })
    (base : Nat) (e : TypeId) (i : TypeInfo) (z : Value) (size bytes : Nat) (ht : P.underlying t = some (.slice e)) (hi : P.info? e = some i) (hz : i.zero = some z)
    (hsize : i.size = size) (hby : i.bytes = bytes) (hzs : z.cells.size = size) (hsz : 0 < size)
    (v : Value) (n : Nat) (xs : List Value) (hs : a.eval s = v) (hown : w.ownsRow base e size v n xs)
    (ad : Addr) (m c : Nat) (news : List Value) (hx : a.eval x = .slice (some ad) m c) (hl : news.length = m * size) (hnews : ∀ j u, news[j]? = some u → w.cell? (ad.add j) = some u) (h1 : ∀ u ∈ news, u.oneCell' = true)
    (h63 : n + m ≤ maxLen) (hbytes : (n + m) * bytes ≤ 140737488355328) (hbase : base ≤ w.heap.size)
    (h : ∀ v' w', w'.ownsRow base e size v' (n + m) (xs ++ news) → w.grownBy w' v.ownBlock → (v' = .slice none 0 0 ↔ v = .slice none 0 0 ∧ m = 0) → K (a.put o.dst v') w') : if Region.wanted o (yielded ops a.tmps) = true then Oper.wp P o a w K Q else E := by
  have hw : Region.wanted o (yielded ops a.tmps) = true := by simp [Region.wanted, hgd]
  rw [if_pos hw]
  exact wp_append_own w s x t ho base e i z size bytes ht hi hz hsize hby hzs hsz v n xs hs hown ad m c news hx hl hnews h1 h63 hbytes hbase h
theorem own_base {w : World} {base e size n : Nat} {v : Value} {xs : List Value} (h : w.ownsRow base e size v n xs) (hv : v ≠ .slice none 0 0) : base ≤ w.heap.size := by
  rcases h.2 with ⟨h0, _⟩ | ⟨g, cap, cur, h1, h2, hg, _⟩
  · exact absurd h0 hv
  · have := (Array.getElem?_eq_some_iff.1 hg).1
    omega
theorem two_cells (w : World) (x y : ByteArray) (T : TypeId) : ∀ j u, [Value.string x, Value.string y][j]? = some u → (w.alloc (.cells #[.string x, .string y] T)).cell? ((⟨w.heap.size, 0, none⟩ : Addr).add j) = some u := by
  intro j u hj
  match j, hj with
  | 0, hj => simp at hj; subst hj; simp [Addr.add]
  | 1, hj => simp at hj; subst hj; simp [Addr.add, go_sem]
theorem two_one (x y : ByteArray) : ∀ u ∈ [Value.string x, Value.string y], u.oneCell' = true := by
  intro u hu
  simp at hu
  rcases hu with rfl | rfl <;> rfl
theorem one_cell (w : World) (x : ByteArray) (T : TypeId) : ∀ j u, [Value.string x][j]? = some u → (w.alloc (.cells #[.string x] T)).cell? ((⟨w.heap.size, 0, none⟩ : Addr).add j) = some u := by
  intro j u hj
  match j, hj with
  | 0, hj => simp at hj; subst hj; simp [Addr.add]
theorem one_one (x : ByteArray) : ∀ u ∈ [Value.string x], u.oneCell' = true := by
  intro u hu
  simp at hu
  subst hu; rfl
theorem blk_grown {b : Nat} {cs : List Value} {w w' : World} {row : Option Nat} (h : Blk b cs w) (hg : w.grownBy w' row) (hne : some b ≠ row) : Blk b cs w' := by
  have e := hg.block b h.1 hne
  exact ⟨by have := hg.size; have := h.1; omega, fun i hi => (World.cell?_of_block (a := ⟨b, i, none⟩) e).trans (h.2 i hi)⟩
theorem four_cells (w : World) (x y z u : ByteArray) (T : TypeId) : ∀ j v, [Value.string x, Value.string y, Value.string z, Value.string u][j]? = some v → (w.alloc (.cells #[.string x, .string y, .string z, .string u] T)).cell? ((⟨w.heap.size, 0, none⟩ : Addr).add j) = some v := by
  intro j v hj
  match j, hj with
  | 0, hj => simp at hj; subst hj; simp [Addr.add]
  | 1, hj => simp at hj; subst hj; simp [Addr.add, go_sem]
  | 2, hj => simp at hj; subst hj; simp [Addr.add, go_sem]
  | 3, hj => simp at hj; subst hj; simp [Addr.add, go_sem]
theorem four_one (x y z u : ByteArray) : ∀ v ∈ [Value.string x, Value.string y, Value.string z, Value.string u], v.oneCell' = true := by
  intro v hv
  simp at hv
  rcases hv with rfl | rfl | rfl | rfl <;> rfl
theorem joinB_app (a b : List ByteArray) : joinB (a ++ b) = joinB a ++ joinB b := by
  apply ByteArray.ext
  simp [joinB]
theorem joinB_one (x : ByteArray) : joinB [x] = x := by
  apply ByteArray.ext
  simp [joinB]
theorem joinB_two (x y : ByteArray) : joinB [x, y] = x ++ y := by
  apply ByteArray.ext
  simp [joinB]
theorem jl_size (l : List ByteArray) : (jl l l.length).length = (joinB l).size := by
  rw [JoinR.jl_all]
  show _ = (List.toArray _).size
  rw [List.size_toArray]
theorem take_flat {α : Type} (l : List α) (f : α → List ByteArray) (d : α) (k : Nat) (h : k < l.length) : (l.take (k + 1)).flatMap f = (l.take k).flatMap f ++ f (l.getD k d) := by
  rw [List.take_add_one, List.getElem?_eq_getElem h, List.flatMap_append]
  simp [List.getD, h]
theorem take_map {α : Type} (l : List α) (f : α → ByteArray) (d : α) (k : Nat) (h : k < l.length) : (l.take (k + 1)).map f = (l.take k).map f ++ [f (l.getD k d)] := by
  rw [List.take_add_one, List.getElem?_eq_getElem h, List.map_append]
  simp [List.getD, h]
theorem join_size_le (K : Nat) : ∀ l : List ByteArray, (∀ x ∈ l, x.size ≤ K) → (joinB l).size ≤ l.length * K
  | [], _ => by show 0 ≤ _; exact Nat.zero_le _
  | x :: l, h => by
    have h1 := join_size_le K l (fun y hy => h y (List.mem_cons_of_mem _ hy))
    have h2 := h x (List.mem_cons_self ..)
    have e : joinB (x :: l) = x ++ joinB l := by
      have := joinB_app [x] l
      rw [joinB_one] at this
      exact this
    rw [e, ByteArray.size_append, List.length_cons, Nat.add_mul]
    omega
theorem infoS : (Tryz.prog.info? 9).map (fun i => (i.zero, i.size, i.bytes)) = some (some (.string ⟨#[]⟩), 1, 16) := by kernel_rfl
theorem own_below {w w' : World} {base e size n : Nat} {v : Value} {xs : List Value} (h : w.ownsRow base e size v n xs) (hb : Below w.heap.size w w') : w'.ownsRow base e size v n xs := by
  refine ⟨h.1, ?_⟩
  rcases h.2 with hn | ⟨g, cap, cur, rfl, h1, hg, rest⟩
  · exact .inl hn
  · exact .inr ⟨g, cap, cur, rfl, h1, (hb.block g (Array.getElem?_eq_some_iff.1 hg).1).trans hg, rest⟩
theorem own_texts {w : World} {base n : Nat} {v : Value} {xs : List ByteArray} (h : w.ownsRow base 9 1 v n (xs.map Value.string)) (hne : v ≠ .slice none 0 0) :
    ∃ g cap, v = .slice (some ⟨g, 0, none⟩) n cap ∧ g < w.heap.size ∧ xs.length = n ∧ n ≤ cap ∧ ∀ k (hk : k < xs.length), w.cell? ⟨g, k, none⟩ = some (.string xs[k]) := by
  have hl := h.1
  have hlen : xs.length = n := by simpa using hl
  rcases h.2 with ⟨h0, _⟩ | ⟨g, cap, cur, hv, _, _, hc, _⟩
  · exact absurd h0 hne
  · refine ⟨g, cap, hv, (h.lt g (by rw [hv]; rfl)).2, hlen, hc, fun k hk => ?_⟩
    have := h.cells (g := g) (by rw [hv]; rfl) k (.string xs[k]) (by simp [List.getElem?_map, List.getElem?_eq_getElem hk])
    rw [← this]
    congr 1
    unfold Addr.add; split <;> simp_all
/-- What is held while a pair's fields are put. -/
def BM2 (w : World) (B : Nat) (a0 a1 : Value) (W : World) : Prop := Below w.heap.size w W ∧ B < W.heap.size ∧ W.cell? ⟨B, 0, none⟩ = some a0 ∧ W.cell? ⟨B, 1, none⟩ = some a1
theorem BM2.below {w : World} {B : Nat} {a0 a1 : Value} {W W' : World} (h : BM2 w B a0 a1 W) (hb : Below W.heap.size W W') : BM2 w B a0 a1 W' := by
  obtain ⟨h0, l1, p0, p1⟩ := h
  have f := fun o => hb.cell (p := ⟨B, o, none⟩) l1
  have hs := hb.size
  exact ⟨h0.trans (hb.mono h0.size), by omega, (f 0).trans p0, (f 1).trans p1⟩
theorem BM2.drew {w : World} {B : Nat} {a0 a1 : Value} {W : World} (h : BM2 w B a0 a1 W) : BM2 w B a0 a1 W.drew := ⟨h.1.drew, h.2⟩
theorem BM2.grown {w : World} {B : Nat} {a0 a1 : Value} {W W' : World} {v : Value} {wr : World} {base e size n : Nat} {xs : List Value} (h : BM2 w B a0 a1 W) (hg : W.grownBy W' v.ownBlock) (ho : wr.ownsRow base e size v n xs) (hB : B = wr.heap.size := by rfl) (hbase : w.heap.size ≤ base := by omega) : BM2 w B a0 a1 W' := by
  obtain ⟨h0, l1, p0, p1⟩ := h
  have hne : some B ≠ v.ownBlock := fun e => by have := (ho.lt B e.symm).2; omega
  have e := hg.block B l1 hne
  exact ⟨h0.grown hg h0.size (fun k e => by have := (ho.lt k e).1; omega), by have := hg.size; omega, (World.cell?_of_block (a := ⟨B, 0, none⟩) e).trans p0, (World.cell?_of_block (a := ⟨B, 1, none⟩) e).trans p1⟩
end DocR
end Go.Proofs.YtlfebpgohpmknaaGreatDoor
namespace Go.Proofs.YtlfebpgohpmknaaGreatDoor
open Go.ChangeShapes Go.WideShapes Go.ChangeAt Go.RowKit
set_option linter.unusedVariables false
namespace DocR
open LinR RowG
open JoinR (joinB jl)
open CatR (Blk Blk.new)
open Dec2 (itoaT itoaT_size PowT FmtOk)
def lP (y : N) : List ByteArray := [⟨#[32]⟩, y.i, ⟨#[61]⟩, itoaT y.n]
def dP (x : D) (M : ByteArray) (k : Nat) : List ByteArray := [x.a, ⟨#[32]⟩, M, ⟨#[35]⟩, itoaT x.sq] ++ (x.ls.take k).flatMap lP
theorem lP_len (l : List N) : (l.flatMap lP).length = 4 * l.length := by
  induction l with
  | nil => rfl
  | cons y l ih => simp only [List.flatMap_cons, List.length_append, ih, lP, List.length_cons, List.length_nil]; omega
theorem dP_more (x : D) (M : ByteArray) (k : Nat) (h : k < x.ls.length) : dP x M (k + 1) = dP x M k ++ [⟨#[32]⟩, (x.ls.getD k N.zero).i, ⟨#[61]⟩, itoaT (x.ls.getD k N.zero).n] := by
  unfold dP; rw [take_flat x.ls lP N.zero k h, ← List.append_assoc]; rfl
/-- What is known of a right document, in numbers. -/
theorem doc_bd {x : D} (h : dB x = true) : x.a.size ≤ 20 ∧ (0 ≤ x.mo ∧ x.mo ≤ 2760) ∧ (0 ≤ x.sq ∧ x.sq ≤ 1000000) ∧ x.ls.length ≤ 6 ∧ ∀ y ∈ x.ls, y.i.size ≤ 20 ∧ -1000000000000000 ≤ y.n ∧ y.n ≤ 1000000000000000 := by
  unfold dB at h
  simp only [Bool.and_eq_true, decide_eq_true_eq] at h
  obtain ⟨n1, n2, n3, n4, _⟩ := h
  have nl : ∀ s : ByteArray, NameR.nameB s = true → s.size ≤ 20 := fun s hs => by
    rcases Nat.lt_or_ge 20 s.size with q | q
    · rw [NameR.name_size (.inr q)] at hs; cases hs
    · exact q
  obtain ⟨l6, hok⟩ := sB_iff.1 n4
  refine ⟨nl _ n1, n2, n3, l6, fun y hy => ?_⟩
  obtain ⟨k, hk, rfl⟩ := List.mem_iff_getElem.1 hy
  have h2 := (hok k hk).2
  have e : x.ls.getD k N.zero = x.ls[k] := by simp [List.getD, hk]
  rw [e] at h2
  unfold lOk nOk at h2
  simp only [Bool.and_eq_true, decide_eq_true_eq] at h2
  exact ⟨nl _ h2.1, h2.2.1.1, h2.2.1.2⟩
theorem dP_le {x : D} {M : ByteArray} (h : dB x = true) (hM : M.size ≤ 30) (k : Nat) : (joinB (dP x M k)).size ≤ 2000 := by
  obtain ⟨b1, b2, b3, b4, b5⟩ := doc_bd h
  have h1 : ∀ y ∈ dP x M k, y.size ≤ 30 := by
    intro y hy
    have e1 : (⟨#[32]⟩ : ByteArray).size = 1 := rfl
    have e2 : (⟨#[35]⟩ : ByteArray).size = 1 := rfl
    have e3 : (⟨#[61]⟩ : ByteArray).size = 1 := rfl
    unfold dP at hy
    simp only [List.mem_append, List.mem_cons, List.not_mem_nil, or_false, List.mem_flatMap, lP] at hy
    rcases hy with (rfl | rfl | rfl | rfl | rfl) | ⟨u, hu, rfl | rfl | rfl | rfl⟩
    · omega
    · omega
    · omega
    · omega
    · have := itoaT_size (n := x.sq) (by omega) (by omega); omega
    · omega
    · have := b5 u (List.mem_of_mem_take hu); omega
    · omega
    · have := b5 u (List.mem_of_mem_take hu); have := itoaT_size (n := u.n) (by omega) (by omega); omega
  have h2 := join_size_le 30 _ h1
  have h3 : (dP x M k).length ≤ 29 := by
    unfold dP
    simp only [List.length_append, List.length_cons, List.length_nil, lP_len, List.length_take]
    omega
  omega
/-- The document's block, as the regions read it. -/
def DBx (w : World) (a : ByteArray) (mo sq : Int) (la : Option Addr) (ll lc : Nat) (W : World) : Prop := Below w.heap.size w W ∧ w.heap.size < W.heap.size ∧ W.cell? ⟨w.heap.size, 0, none⟩ = some (.string a) ∧ W.cell? ⟨w.heap.size, 1, none⟩ = some (.int .i64 mo) ∧ W.cell? ⟨w.heap.size, 2, none⟩ = some (.int .i64 sq) ∧ W.cell? ⟨w.heap.size, 3, none⟩ = some (.slice la ll lc)
theorem DBx.below {w : World} {a : ByteArray} {mo sq : Int} {la : Option Addr} {ll lc : Nat} {W W' : World} (h : DBx w a mo sq la ll lc W) (hb : Below W.heap.size W W') : DBx w a mo sq la ll lc W' := by
  obtain ⟨h0, h1, c0, c1, c2, c3⟩ := h
  have c := fun o => hb.cell (p := ⟨w.heap.size, o, none⟩) h1
  have := hb.size
  exact ⟨h0.trans (hb.mono h0.size), by omega, (c 0).trans c0, (c 1).trans c1, (c 2).trans c2, (c 3).trans c3⟩
theorem DBx.blk {w : World} {a : ByteArray} {mo sq : Int} {la : Option Addr} {ll lc : Nat} {W : World} (h : DBx w a mo sq la ll lc W) : Blk w.heap.size [.string a, .int .i64 mo, .int .i64 sq, .slice la ll lc] W := by
  obtain ⟨h0, h1, c0, c1, c2, c3⟩ := h
  exact ⟨h1, fun i hi => by
    match i, hi with
    | 0, _ => exact c0
    | 1, _ => exact c1
    | 2, _ => exact c2
    | 3, _ => exact c3⟩
theorem DBx.of {w : World} {a : ByteArray} {mo sq : Int} {la : Option Addr} {ll lc : Nat} {W : World} (hb : Below w.heap.size w W) (h : Blk w.heap.size [.string a, .int .i64 mo, .int .i64 sq, .slice la ll lc] W) : DBx w a mo sq la ll lc W :=
  ⟨hb, h.1, h.2 0 (by simp), h.2 1 (by simp), h.2 2 (by simp), h.2 3 (by simp)⟩
set_option maxRecDepth 100000 in
set_option maxHeartbeats 8000000 in
theorem impl_dt_in (a : ByteArray) (mo sq : Int) (ls : List N) (la : Option Addr) (lc : Nat) (T1 T2 : ByteArray) (Q : Nat → List ByteArray) (w : World) (l1 : ls.length ≤ 6) (hL : Lis la ls w) (hP : PowT w) (hFm : FmtOk)
    (hr : ∀ W, Below w.heap.size w W → Calls Tryz.prog 18 #[.agg #[.string a, .int .i64 mo, .int .i64 sq, .slice la ls.length lc]] W fun e w' => e = .returned (.bool true) ∧ Below W.heap.size W w')
    (p1 : ∀ W, PowT W → Calls Tryz.prog 45 #[.int .i64 mo] W fun e w' => e = .returned (.string T1) ∧ Below W.heap.size W w')
    (p2 : ∀ W, PowT W → Calls Tryz.prog 46 #[.int .i64 sq, .int .i64 10] W fun e w' => e = .returned (.string T2) ∧ Below W.heap.size W w')
    (s9 : ∀ y ∈ ls, y.i.size ≤ 20 ∧ -1000000000000000 ≤ y.n ∧ y.n ≤ 1000000000000000)
    (hQ0 : Q 0 = [a, ⟨#[32]⟩, T1, ⟨#[35]⟩, T2]) (hQM : ∀ k, k < ls.length → Q (k + 1) = Q k ++ [⟨#[32]⟩, (ls.getD k N.zero).i, ⟨#[61]⟩, itoaT (ls.getD k N.zero).n]) (hQS : (joinB (Q ls.length)).size ≤ 2000) :
    Calls Tryz.prog 16 #[.agg #[.string a, .int .i64 mo, .int .i64 sq, .slice la ls.length lc]] w fun e w' => e = .returned (.string (joinB (Q ls.length))) ∧ Below w.heap.size w w' := by
  obtain ⟨i0, hi, hz0, hz1, hz2⟩ := info_parts infoS
  have HR := hid_intro hr
  have HL := hid_intro hL
  have HP := hid_intro hP
  have HFm := hid_intro hFm
  have P1 := hid_intro p1
  have P2 := hid_intro p2
  have S9 := hid_intro s9
  have HQ0 := hid_intro hQ0
  have HQM := hid_intro hQM
  have HQS := hid_intro hQS
  obtain ⟨R, hR⟩ : ∃ R, R = joinB (Q ls.length) := ⟨_, rfl⟩
  have HRR := hid_intro hR
  obtain ⟨ll, hll⟩ : ∃ ll, ll = ls.length := ⟨_, rfl⟩
  have HLL := hid_intro hll
  rw [← hll] at l1 HR HQM HQS HRR ⊢
  rw [← HRR.out]
  clear hr hL hP hFm p1 p2 s9 hQ0 hQM hQS hR hll
  have HB0 : Hid (Below w.heap.size w (w.alloc (.cells #[.string a, .int .i64 mo, .int .i64 sq, .slice la ll lc] 28))) := hid_intro ((Below.refl _ _).alloc (Nat.le_refl _) _)
  have HX0 := hid_intro (Blk.new w [.string a, .int .i64 mo, .int .i64 sq, .slice la ll lc] 28)
  go_enter Tryz.func16, Tryz.ntmps16
  go_wp2_with fail
  refine (HR.out _ HB0.out).mono ?_
  rintro e w1 ⟨rfl, hb1⟩
  have HS0 : Hid (DBx w a mo sq la ll lc w1.drew) := hid_intro (DBx.below (DBx.of (HB0.out.trans (hb1.mono HB0.out.size)) (HX0.out.below hb1)) (Below.refl _ _).drew)
  clear hb1 HB0 HX0
  go_wp2_with fail
  refine wp_region_held_drew (S := (fun W => Below w.heap.size w W ∧ w.heap.size < W.heap.size ∧ W.cell? ⟨w.heap.size, 0, none⟩ = some (.string a) ∧ W.cell? ⟨w.heap.size, 1, none⟩ = some (.int .i64 mo) ∧ W.cell? ⟨w.heap.size, 2, none⟩ = some (.int .i64 sq) ∧ W.cell? ⟨w.heap.size, 3, none⟩ = some (.slice la ll lc))) (by kernel_rfl) HS0.out (fun hHeld => ?_)
  refine wpAnyH_take (i := 0) (oi := { dst := some 9, op := Op.fieldAddr 28 (Operand.tmp 1) 0, type := 0, pos := "l09_ledger.go:232", after := #[], guard := none }) (v := ?_) rfl (by kernel_rfl) (by kernel_rfl) (by kernel_rfl) (fun _ _ _ h => h) (Or.inl ⟨by rfl, ?_⟩) (by assumption) ?_
  rotate_left
  · (intro w hSw; (try dsimp only at hSw); go_simp) <;> with_reducible rfl
  try simp only [Act.put, List.setIfInBounds_toArray, List.set_cons_zero, List.set_cons_succ]
  refine wpAnyH_take (i := 1) (oi := { dst := some 10, op := Op.load 9 (Operand.tmp 9), type := 9, pos := "l09_ledger.go:232", after := #[{ on := 0, ground := Ground.data }], guard := none }) (v := ?_) rfl (by kernel_rfl) (by kernel_rfl) (by kernel_rfl) (fun _ _ _ h => h) (Or.inl ⟨by rfl, ?_⟩) (by assumption) ?_
  rotate_left
  · (intro w hSw; (try dsimp only at hSw); go_simp) <;> with_reducible rfl
  try simp only [Act.put, List.setIfInBounds_toArray, List.set_cons_zero, List.set_cons_succ]
  refine wpAnyH_take (i := 2) (oi := { dst := some 11, op := Op.fieldAddr 28 (Operand.tmp 1) 1, type := 0, pos := "l09_ledger.go:232", after := #[], guard := none }) (v := ?_) rfl (by kernel_rfl) (by kernel_rfl) (by kernel_rfl) (fun _ _ _ h => h) (Or.inl ⟨by rfl, ?_⟩) (by assumption) ?_
  rotate_left
  · (intro w hSw; (try dsimp only at hSw); go_simp) <;> with_reducible rfl
  try simp only [Act.put, List.setIfInBounds_toArray, List.set_cons_zero, List.set_cons_succ]
  refine wpAnyH_take (i := 3) (oi := { dst := some 12, op := Op.load 2 (Operand.tmp 11), type := 2, pos := "l09_ledger.go:232", after := #[{ on := 2, ground := Ground.data }], guard := none }) (v := ?_) rfl (by kernel_rfl) (by kernel_rfl) (by kernel_rfl) (fun _ _ _ h => h) (Or.inl ⟨by rfl, ?_⟩) (by assumption) ?_
  rotate_left
  · (intro w hSw; (try dsimp only at hSw); go_simp) <;> with_reducible rfl
  try simp only [Act.put, List.setIfInBounds_toArray, List.set_cons_zero, List.set_cons_succ]
  refine wpAnyH_take (i := 5) (oi := { dst := some 14, op := Op.fieldAddr 28 (Operand.tmp 1) 2, type := 0, pos := "l09_ledger.go:232", after := #[], guard := none }) (v := ?_) rfl (by kernel_rfl) (by kernel_rfl) (by kernel_rfl) (fun _ _ _ h => h) (Or.inl ⟨by rfl, ?_⟩) (by assumption) ?_
  rotate_left
  · (intro w hSw; (try dsimp only at hSw); go_simp) <;> with_reducible rfl
  try simp only [Act.put, List.setIfInBounds_toArray, List.set_cons_zero, List.set_cons_succ]
  refine wpAnyH_take (i := 6) (oi := { dst := some 15, op := Op.load 2 (Operand.tmp 14), type := 2, pos := "l09_ledger.go:232", after := #[{ on := 5, ground := Ground.data }], guard := none }) (v := ?_) rfl (by kernel_rfl) (by kernel_rfl) (by kernel_rfl) (fun _ _ _ h => h) (Or.inl ⟨by rfl, ?_⟩) (by assumption) ?_
  rotate_left
  · (intro w hSw; (try dsimp only at hSw); go_simp) <;> with_reducible rfl
  try simp only [Act.put, List.setIfInBounds_toArray, List.set_cons_zero, List.set_cons_succ]
  refine wpAnyH_ready (rs := [4]) (by kernel_rfl) (by simp) ?_
  refine AllReadyH.cons (o := { dst := some 13, op := Op.call { callee := Callee.value (Operand.func 45), args := #[Operand.tmp 12], argTypes := #[2] }, type := 9, pos := "l09_ledger.go:232", after := #[{ on := 3, ground := Ground.data }], guard := none }) rfl (fun K hK => ?_) AllReadyH.nil
  go_simp
  go_at_call 45
  refine (P1.out _ (HP.out.below HS0.out.1)).mono ?_
  rintro e q1 ⟨rfl, hq1⟩
  try go_wp2_with fail
  have hk1 := DBx.below (w := w) (a := a) (mo := mo) (sq := sq) (la := la) (ll := ll) (lc := lc) HS0.out hq1
  refine hK.out _ _ hk1 (fun _ => ?_)
  clear hK K
  try simp only [Act.put, List.setIfInBounds_toArray, List.set_cons_zero, List.set_cons_succ]
  refine wpAnyH_ready (rs := [7]) (by kernel_rfl) (by simp) ?_
  refine AllReadyH.cons (o := { dst := some 16, op := Op.call { callee := Callee.value (Operand.func 46), args := #[Operand.tmp 15, Operand.const (Value.int IntKind.i64 10)], argTypes := #[2, 3] }, type := 9, pos := "l09_ledger.go:232", after := #[{ on := 6, ground := Ground.data }, { on := 4, ground := Ground.chain }], guard := none }) rfl (fun K hK => ?_) AllReadyH.nil
  go_simp
  go_at_call 46
  refine (P2.out _ (HP.out.below hk1.1)).mono ?_
  rintro e q2 ⟨rfl, hq2⟩
  try go_wp2_with fail
  have hk2 := DBx.below (w := w) (a := a) (mo := mo) (sq := sq) (la := la) (ll := ll) (lc := lc) hk1 hq2
  refine hK.out _ _ hk2 (fun _ => ?_)
  clear hK K
  try simp only [Act.put, List.setIfInBounds_toArray, List.set_cons_zero, List.set_cons_succ]
  refine wpAnyH_ready (rs := [8]) (by kernel_rfl) (by simp) ?_
  refine AllReadyH.cons (o := { dst := some 17, op := Op.buildSlice 77 5 #[(0, Operand.tmp 10), (1, Operand.const (Value.string { data := #[32] })), (2, Operand.tmp 13), (3, Operand.const (Value.string { data := #[35] })), (4, Operand.tmp 16)], type := 77, pos := "l09_ledger.go:232", after := #[{ on := 1, ground := Ground.data }, { on := 4, ground := Ground.data }, { on := 7, ground := Ground.data }], guard := none }) rfl (fun K hK => ?_) AllReadyH.nil
  go_simp
  try go_wp2_with fail
  have hk7 := DBx.below (w := w) (a := a) (mo := mo) (sq := sq) (la := la) (ll := ll) (lc := lc) hk2 ((Below.refl q2.heap.size q2).alloc (Nat.le_refl _) (Obj.cells #[Value.string a, Value.string ⟨#[32]⟩, Value.string T1, Value.string ⟨#[35]⟩, Value.string T2] 9))
  refine hK.out _ _ hk7 (fun _ => ?_)
  clear hK K
  try simp only [Act.put, List.setIfInBounds_toArray, List.set_cons_zero, List.set_cons_succ]
  refine wpAnyH_take (i := 9) (oi := { dst := some 3, op := Op.assign (Operand.tmp 17), type := 77, pos := "l09_ledger.go:232", after := #[{ on := 8, ground := Ground.data }, { on := 7, ground := Ground.chain }, { on := 0, ground := Ground.phase }, { on := 1, ground := Ground.phase }, { on := 2, ground := Ground.phase }, { on := 3, ground := Ground.phase }, { on := 4, ground := Ground.phase }, { on := 5, ground := Ground.phase }, { on := 6, ground := Ground.phase }, { on := 7, ground := Ground.phase }, { on := 8, ground := Ground.phase }], guard := none }) (v := ?_) rfl (by kernel_rfl) (by kernel_rfl) (by kernel_rfl) (fun _ _ _ h => h) (Or.inl ⟨by rfl, ?_⟩) (by assumption) ?_
  rotate_left
  · (intro w hSw; (try dsimp only at hSw); go_simp) <;> with_reducible rfl
  try simp only [Act.put, List.setIfInBounds_toArray, List.set_cons_zero, List.set_cons_succ]
  refine wpAnyH_done (by kernel_rfl) ?_ _
  have HO0 : Hid ((q2.alloc (Obj.cells #[Value.string a, Value.string ⟨#[32]⟩, Value.string T1, Value.string ⟨#[35]⟩, Value.string T2] 9)).ownsRow (w.heap.size + 1) 9 1 (.slice (some ⟨q2.heap.size, 0, none⟩) 5 5) (5 + 4 * 0) ((Q 0).map Value.string)) := hid_intro (by
    have := hk2.2.1
    rw [HQ0.out]
    exact ⟨by simp, .inr ⟨q2.heap.size, 5, #[.string a, .string ⟨#[32]⟩, .string T1, .string ⟨#[35]⟩, .string T2], rfl, by omega, heap_alloc_new q2 _, by omega, by unfold maxLen; omega, by simp, by simp⟩⟩)
  have HB7 := hid_intro hk7.1
  have HX7 := hid_intro (DBx.blk hk7)
  clear hk1 hk2 hk7 hq1 hq2 HS0
  obtain ⟨W7, hW7⟩ : ∃ W7, W7 = q2.alloc (Obj.cells #[Value.string a, Value.string ⟨#[32]⟩, Value.string T1, Value.string ⟨#[35]⟩, Value.string T2] 9) := ⟨_, rfl⟩
  rw [← hW7] at HO0 HB7 HX7 ⊢
  clear hW7
  have HV0 : Hid ((.slice (some ⟨q2.heap.size, 0, none⟩) 5 5 : Value) ≠ .slice none 0 0) := hid_intro (by simp)
  obtain ⟨xl, xc⟩ := HX7.out
  have x3 : W7.cell? ⟨w.heap.size, 3, none⟩ = some (.slice la ll lc) := xc 3 (by simp)
  clear xc
  go_wp2_with fail
  go_loopw [3, 21] (fun v z wx => ∃ (i : Nat), i ≤ ll ∧ z = .int .i64 i ∧ Hid (wx.ownsRow (w.heap.size + 1) 9 1 v (5 + 4 * i) ((Q i).map Value.string)) ∧ Hid (v ≠ .slice none 0 0) ∧ Hid (Below w.heap.size w wx)) (fun v z _ => ll - (intOf z).toNat)
  case atStart => exact ⟨0, by omega, rfl, HO0, HV0, HB7⟩
  case round =>
    clear HO0 HV0 HB7 HX7 xl x3
    obtain ⟨i, hi2, rfl, HO, HV, HB⟩ := hrel
    by_cases hlt3 : i < ll
    · have hlt2 : (i : Int) < (ll : Int) := by omega
      have hil : i < ls.length := by have := HLL.out; omega
      obtain ⟨b, off, rfl, hbl, c0, c1⟩ := (HL.out.below HB.out).at i hil
      have u1 := S9.out _ (RowG.getD_mem (z := N.zero) ls i hil)
      have HC1 := hid_intro (HQM.out i hlt3)
      generalize ls.getD i N.zero = Y at *
      obtain ⟨U, P⟩ := Y
      dsimp only at c0 c1 u1 HC1
      obtain ⟨u2, u3, u4⟩ := u1
      have Q2 := hid_intro (fun w hP => HFm.out P (by omega) (by omega) w hP)
      generalize itoaT P = X2 at *
      clear u2 u3 u4
      have HPB := hid_intro (HP.out.below HB.out)
      have HAl : Hid (BM2 w wr.heap.size (.string U) (.int .i64 P) (wr.alloc (.cells #[.string U, .int .i64 P] 74))) := hid_intro ⟨HB.out.alloc HB.out.size _, by simp, by simp [go_sem], by simp [go_sem]⟩
      have HAd := hid_intro HAl.out.drew
      have HOA := hid_intro (own_drew (HO.out.alloc (.cells #[.string U, .int .i64 P] 74)))
      have HPA := hid_intro (HP.out.below HAd.out.1)
      have sz1 : 5 + 4 * i + 4 ≤ maxLen := by unfold maxLen; omega
      have sz2 : (5 + 4 * i + 4) * 16 ≤ 140737488355328 := by omega
      have sz3 : 0 < 1 := by omega
      go_wp2_with fail
      go_region_held3 (fun W => Below w.heap.size w W ∧ wr.heap.size < W.heap.size ∧ W.cell? ⟨wr.heap.size, 0, none⟩ = some (.string U) ∧ W.cell? ⟨wr.heap.size, 1, none⟩ = some (.int .i64 P))
        (first | assumption | (exact HAl.out) | (exact HAd.out) | (exact BM2.below (w := w) (B := wr.heap.size) (by assumption) hb2) | (exact BM2.below (w := w) (B := wr.heap.size) (by assumption) ((Below.refl _ _).alloc (Nat.le_refl _) _)) | (exact BM2.grown (w := w) (B := wr.heap.size) (by assumption) hgrow HO.out rfl (Nat.le_succ _)))
        (first | (go_at_call 46; refine (Q2.out _ HPA.out).mono ?_; rintro e w2 ⟨rfl, hb2⟩; have HO2 := hid_intro (own_below HOA.out hb2)) | (refine step_append_own rfl _ _ 77 rfl (w.heap.size + 1) 9 i0 (.string ⟨#[]⟩) 1 16 Tryz.underlying77 hi hz0 hz1 hz2 rfl sz3 _ _ _ rfl (HO2.out.alloc _) ⟨w2.heap.size, 0, none⟩ 4 4 [.string ⟨#[32]⟩, .string U, .string ⟨#[61]⟩, .string X2] rfl rfl (four_cells _ _ _ _ _ _) (four_one _ _ _ _) sz1 sz2 (own_base (HO2.out.alloc _) HV.out) ?_; intro v' w4 hown hgrow hne))
      rename_i hS
      have HS4 := hid_intro hS.1
      have HO4 : Hid (w4.ownsRow (w.heap.size + 1) 9 1 v' (5 + 4 * (i + 1)) ((Q (i + 1)).map Value.string)) := hid_intro (by
        rw [HC1.out, List.map_append, show 5 + 4 * (i + 1) = 5 + 4 * i + 4 by omega]
        exact hown)
      have HV4 : Hid (v' ≠ .slice none 0 0) := hid_intro (by first | exact hne | exact fun h => HV.out (hne.1 h).1)
      clear hown hgrow hne hS
      go_wp2_with fail
      go_roundw
      case rel => exact ⟨i + 1, by omega, by go_num, HO4, HV4, HS4⟩
      case measure => simp [intOf]; omega
    · obtain rfl : i = ll := by omega
      obtain ⟨q, cap', rfl, hg, hn, hcap, hcell⟩ := own_texts HO.out HV.out
      have hj2 := JoinR.join_len (Q i) q cap' _ (by omega) (by omega) hg hcell (by rw [jl_size]; have := HQS.out; omega)
      rw [hn] at hj2
      have HJ2 := hid_intro hj2
      clear hj2 hcell
      go_wp2_with fail
      refine HJ2.out.mono ?_
      rintro e w6 ⟨rfl, hb⟩
      have HB6 := hid_intro (HB.out.trans (hb.mono HB.out.size))
      clear hb
      go_wp2_with fail
      go_ret
      exact ⟨ret_str HRR.out.symm, HB6.out⟩
end DocR
end Go.Proofs.YtlfebpgohpmknaaGreatDoor
