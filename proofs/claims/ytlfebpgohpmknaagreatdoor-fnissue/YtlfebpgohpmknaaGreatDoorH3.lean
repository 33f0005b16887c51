/-
  The model's copies: of a document, of documents. The conditions: sizes of at most 1048576.
  A document that came in, read as rows. No condition.
  Lists of documents: read, sized, copied and held against each other by the law. The condition: at most 1048576 documents.
  Lists of documents: the law's own copies, and two lists held against each other. The condition: at most 1048576 documents, each of at most 1048576 lines.
  Lists of documents of one's own. No condition.
  The model's copy of documents: spec.l09Copy. The conditions: sizes of at most 1048576.
  Right lines rise, and their numbers are small. No condition.
  Answers that hold documents: of one's own, and read. No condition.
  The model's Issue: spec.l09Issue, spec.Issue. The conditions: sizes of at most 1048576, the bill at a place.
  The model's Issue: spec.Issue. The conditions: sizes of at most 1048576, the bill at a place.
  Documents that are drawn: (*l01Src).l09Docs. No condition but the source.
  What is issued makes the net the bill: lists alone. The condition: Meters out of six names.
  The draws of the law on what is issued: spec.DrawIssue, spec.DrawNetOf, spec.DrawLess, spec.DrawDocRight, spec.DrawDocText. The condition: at most 1048576 bytes to draw from.
  The draws of the law on what is issued: spec.DrawDocRight, spec.DrawDocText. The condition: at most 1048576 bytes to draw from.
  Lines, documents and answers that are the same, held against each other by the law. The condition: all in them is small.
  Answers of a ledger that are the same, held against each other by the law. The condition: all in them is small.
  copyDoc: a document in new memory. The conditions: sizes of at most 1048576.
-/
import Derived.Deep.RegionWith
import Derived.Deep.RegionHeld
import Derived.BigQuiet
import Derived.Deep.QuietTactic
import Derived.Deep.RegionHeld3
import Derived.Test.YtlfebpgohpmknaaGreatDoorH2
namespace Go.Proofs.YtlfebpgohpmknaaGreatDoor
open Go.ChangeShapes Go.WideShapes Go.ChangeAt Go.RowKit
set_option linter.unusedVariables false
namespace LedR
open LinR DocR NetR
open RowG
theorem lis_src {la : Option Addr} {L : List N} {w : World} (h : Lis la L w) : ∀ W, Below w.heap.size w W → (L.length = 0 ∨ ∃ ad, la = some ad ∧ ∀ j u, (cellsAll N.cells L)[j]? = some u → W.cell? (ad.add j) = some u) := by
  intro W hW
  rcases h.below hW with h0 | ⟨b, off, rfl, hb, hc⟩
  · exact .inl h0
  · refine .inr ⟨⟨b, off, none⟩, rfl, fun j u hj => ?_⟩
    have h1 := rws_sub (i := 0) (n := L.length) N.len (.inr ⟨b, off, rfl, hb, hc⟩ : RowG.Rws 2 N.cells N.zero (some ⟨b, off, none⟩) L W) j u (by simpa using hj)
    rw [Nat.zero_mul, Nat.add_zero] at h1
    exact h1
set_option maxRecDepth 100000 in
set_option maxHeartbeats 4000000 in
theorem sdoc (d : D) (la : Option Addr) (lc : Nat) (w : World) (hlen : d.ls.length ≤ 1048576) (hI : Lis la d.ls w) :
    Calls Tryz.prog 66 #[.agg #[.string d.a, .int .i64 d.mo, .int .i64 d.sq, .slice la d.ls.length lc]] w fun e w' => ∃ ao cap, e = .returned (.agg #[.string d.a, .int .i64 d.mo, .int .i64 d.sq, .slice ao d.ls.length cap]) ∧ w'.ownsRow w.heap.size 74 2 (.slice ao d.ls.length cap) d.ls.length (cellsAll N.cells d.ls) ∧ Below w.heap.size w w' := by
  obtain ⟨a, mo, sq, ls⟩ := d
  dsimp only at *
  obtain ⟨i0, hi, hz0, hz1, hz2⟩ := info_parts infoN
  have HI := hid_intro (lis_src hI)
  have HO1 := hid_intro (lis_one ls)
  have HLC : Hid ((cellsAll N.cells ls).length = ls.length * 2) := hid_intro (by rw [cellsAll_len N.len])
  have HOM := hid_intro (fun (W : World) base v (h : W.ownsRow base 74 2 v ls.length (cellsAll N.cells ls)) => RowG.own_made (z := N.zero) N.len h)
  generalize cellsAll N.cells ls = C at *
  obtain ⟨len, hl⟩ : ∃ len, len = ls.length := ⟨_, rfl⟩
  rw [← hl] at HI HLC HOM hlen ⊢
  obtain ⟨W0, hW0⟩ : ∃ W0, W0 = ((w.alloc (.cells #[.string a, .int .i64 mo, .int .i64 sq, .slice la len lc] 28)).alloc (.cells #[.string ⟨#[]⟩, .int .i64 0, .int .i64 0, .slice none 0 0] 28)).alloc (.cells #[] 74) := ⟨_, rfl⟩
  have HB0 : Hid (Below w.heap.size w W0) := hid_intro (by rw [hW0]; exact (((Below.refl _ _).alloc (Nat.le_refl _) _).alloc (by simp) _).alloc (by simp; omega) _)
  have HV0 : Hid (BlkW w.heap.size [.string a, .int .i64 mo, .int .i64 sq, .slice la len lc] W0) := hid_intro (by rw [hW0]; exact ((BlkW.new w [.string a, .int .i64 mo, .int .i64 sq, .slice la len lc] 28).below ((Below.refl _ _).alloc (Nat.le_refl _) _)).below ((Below.refl _ _).alloc (Nat.le_refl _) _))
  have HR0 : Hid (BlkW (w.heap.size + 1) [.string ⟨#[]⟩, .int .i64 0, .int .i64 0, .slice none 0 0] W0) := hid_intro (by
    rw [hW0]
    have := (BlkW.new (w.alloc (.cells #[.string a, .int .i64 mo, .int .i64 sq, .slice la len lc] 28)) [.string ⟨#[]⟩, .int .i64 0, .int .i64 0, .slice none 0 0] 28).below ((Below.refl _ _).alloc (Nat.le_refl _) (.cells #[] 74))
    simpa using this)
  have HE0 : Hid (W0.ownsRow (w.heap.size + 2) 74 2 (.slice (some ⟨w.heap.size + 1 + 1, 0, none⟩) 0 0) 0 []) := hid_intro (by
    rw [hW0]
    have := own_empty ((w.alloc (.cells #[.string a, .int .i64 mo, .int .i64 sq, .slice la len lc] 28)).alloc (.cells #[.string ⟨#[]⟩, .int .i64 0, .int .i64 0, .slice none 0 0] 28)) (w.heap.size + 2) 74 2 (by simp)
    simpa using this)
  have hS0 : W0.heap.size = w.heap.size + 3 := by rw [hW0]; simp
  have HW := hid_intro hW0
  have HSZ := hid_intro hS0
  clear hI hl hW0 hS0
  go_enter Tryz.func66, Tryz.ntmps66
  go_wp2_with (at_builtin; rw [← HW.out]; refine RowG.wpList_append_whole _ rfl _ _ 24 rfl (w.heap.size + 2) 74 i0 (.agg #[.string ⟨#[]⟩, .int .i64 0]) 2 24 Tryz.underlying24 hi hz0 hz1 hz2 rfl (by decide) (w.heap.size + 1 + 1) rfl HE0.out la len lc C rfl HLC.out (HI.out _ HB0.out) HO1.out (by unfold maxLen; omega) (by omega) (by rw [HSZ.out]; omega) ?_)
  intro v1 w2 hown hgrow hne
  have HB2 := hid_intro (HB0.out.grown hgrow HB0.out.size (fun k e => by simp only [Option.some.injEq] at e; omega))
  have HV2 := hid_intro (OwG.blkW_grown HV0.out hgrow (by simp only [ne_eq, Option.some.injEq]; omega))
  have HR2 := hid_intro (OwG.blkW_grown HR0.out hgrow (by simp only [ne_eq, Option.some.injEq]; omega))
  obtain ⟨ao, cap, rfl, -⟩ := HOM.out w2 _ v1 hown
  have HOF := hid_intro (own_low (OwG.own_keepG (OwG.own_keepG hown (RowG.grown_set w2 w.heap.size 3 (.slice ao len cap)) (by omega)) (StR.stL_grown (w.heap.size + 1) [.string a, .int .i64 mo, .int .i64 sq, .slice ao len cap] 0 _) (by omega)) (show w.heap.size ≤ w.heap.size + 2 by omega))
  have HBF := hid_intro ((HB2.out.setCell (p := ⟨w.heap.size, 3, none⟩) (Nat.le_refl _) (.slice ao len cap)).grown (StR.stL_grown (w.heap.size + 1) [.string a, .int .i64 mo, .int .i64 sq, .slice ao len cap] 0 _) (by have := HB2.out.size; simpa using this) (fun k h => by cases h; omega))
  simp only [StR.stL, Nat.zero_add, Nat.reduceAdd] at HOF HBF
  have l1 := HV2.out.1.1
  have l2 := HR2.out.1.1
  have f3 := HV2.out.2 3 (by simp)
  have c0 := HV2.out.1.2 0 (by simp)
  have c1 := HV2.out.1.2 1 (by simp)
  have c2 := HV2.out.1.2 2 (by simp)
  have c3 := HV2.out.1.2 3 (by simp)
  have r0 := HR2.out.1.2 0 (by simp)
  have r1 := HR2.out.1.2 1 (by simp)
  have r2 := HR2.out.1.2 2 (by simp)
  have r3 := HR2.out.1.2 3 (by simp)
  have g0 := HR2.out.2 0 (by simp)
  have g1 := HR2.out.2 1 (by simp)
  have g2 := HR2.out.2 2 (by simp)
  have g3 := HR2.out.2 3 (by simp)
  simp only [List.getElem?_cons_zero, List.getElem?_cons_succ] at c0 c1 c2 c3 r0 r1 r2 r3
  clear hown hgrow hne
  go_wp2_with fail
  refine bodyPost_ret (v := .agg #[.string a, .int .i64 mo, .int .i64 sq, .slice ao len cap]) (by simp [results, Tryz.results66, go_sem, r0, r1, r2, r3]) rfl ⟨ao, cap, rfl, HOF.out, HBF.out⟩
end LedR
end Go.Proofs.YtlfebpgohpmknaaGreatDoor
namespace Go.Proofs.YtlfebpgohpmknaaGreatDoor
open Go.ChangeShapes Go.WideShapes Go.ChangeAt Go.RowKit Go.Deep
set_option linter.unusedVariables false
namespace DocR
open RowG LinR
section
variable {J : Type} {enc : TypeId × Value → J} {P : Program} {w : World} {base : Nat} {spare : Nat → Bool} {held : Bool}
theorem lst4 {α : Type} {cs : List α} (h : cs.length = 4) : ∃ c0 c1 c2 c3, cs = [c0, c1, c2, c3] := by
  match cs, h with
  | [c0, c1, c2, c3], _ => exact ⟨c0, c1, c2, c3, rfl⟩
theorem slice_one {t e : TypeId} {fuel : Nat} {c : Value} {x : DataW J × List MemPlace} (ht : P.underlying t = some (.slice e)) (h : DataW.trod enc P w base spare held fuel t [c] = some x) : ∃ ao len cap, c = .slice ao len cap := by
  rcases DataW.trod_slice ht h with ⟨hcs, _⟩ | ⟨a, len', cap', elems, rest, n, _, hcs, _⟩
  · simp only [List.cons.injEq, and_true] at hcs
    exact ⟨_, _, _, hcs⟩
  · simp only [List.cons.injEq, and_true] at hcs
    exact ⟨_, _, _, hcs⟩
/-- A document that came in, cell by cell. -/
theorem doc_open {t te : TypeId} {f0 f1 f2 f3 g0 g1 : Field} {fuel : Nat} {cs : List Value} {x : DataW J × List MemPlace} (hs : P.underlying t = some (.struct #[f0, f1, f2, f3])) (hone : oneCellFields P #[f0, f1, f2, f3] = true) (hC : P.cellsOf t = 4)
    (u0 : P.underlying f0.type = some .string) (u1 : P.underlying f1.type = some (.int .i64)) (u2 : P.underlying f2.type = some (.int .i64)) (u3 : P.underlying f3.type = some (.slice te))
    (hs2 : P.underlying te = some (.struct #[g0, g1])) (hone2 : oneCellFields P #[g0, g1] = true) (hC2 : P.cellsOf te = 2) (v0 : P.underlying g0.type = some .string) (v1 : P.underlying g1.type = some (.int .i64))
    (h : DataW.trod enc P w base spare held fuel t cs = some x) :
    ∃ (x : D) (la : Option Addr) (lc : Nat), cs = (dcells x la lc).toList ∧ x.In ∧ Lis la x.ls w := by
  obtain ⟨xs, n, _, _, hl, hlen, hf⟩ := DataW.trod_struct hs h
  obtain ⟨c0, c1, c2, c3, rfl⟩ := lst4 (hl.trans hC)
  obtain ⟨y0, y1, y2, y3, rfl⟩ := lst4 (show xs.length = 4 from hlen)
  obtain ⟨o0, k0⟩ := hone_of hone 0 f0 rfl
  obtain ⟨o1, k1⟩ := hone_of hone 1 f1 rfl
  obtain ⟨o2, k2⟩ := hone_of hone 2 f2 rfl
  obtain ⟨o3, k3⟩ := hone_of hone 3 f3 rfl
  have h0 := hf 0 f0 rfl
  have h1 := hf 1 f1 rfl
  have h2 := hf 2 f2 rfl
  have h3 := hf 3 f3 rfl
  simp [o0, k0] at h0
  simp [o1, k1] at h1
  simp [o2, k2] at h2
  simp [o3, k3] at h3
  obtain ⟨a, e0, _, s0⟩ := DataW.trod_string u0 h0
  obtain ⟨p, e1, _, _⟩ := DataW.trod_int u1 h1
  obtain ⟨q, e2, _, _⟩ := DataW.trod_int u2 h2
  obtain ⟨la, ll, lc, rfl⟩ := slice_one u3 h3
  obtain ⟨ls, rfl, q1, q2, q3⟩ := lis_open u3 hs2 hone2 hC2 v0 v1 h3
  simp only [List.cons.injEq, and_true] at e0 e1 e2
  subst e0 e1 e2
  exact ⟨⟨a, p, q, ls⟩, la, lc, rfl, ⟨s0, q1, q3⟩, q2⟩
end
end DocR
end Go.Proofs.YtlfebpgohpmknaaGreatDoor
namespace Go.Proofs.YtlfebpgohpmknaaGreatDoor
open Go.ChangeShapes Go.WideShapes Go.ChangeAt Go.RowKit Go.Deep
set_option linter.unusedVariables false
namespace LedR
open LinR RowG LtR NetR DocR
open EvtR (Pt cell_put cell_far)
/-- A list of documents that came in. -/
def IsDcs (w : World) (ao : Option Addr) (ds : List D) : Prop := ds.length ≤ maxLen ∧ Dcs ao ds w ∧ ∀ d ∈ ds, d.In ∧ (Lit.int .i64 d.mo).wf = true
section
variable {J : Type} {enc : TypeId × Value → J} {P : Program} {w : World} {base : Nat} {spare : Nat → Bool} {held : Bool}
theorem doc_wf {t : TypeId} {f0 f1 f2 f3 : Field} {fuel : Nat} {cs : List Value} {x : DataW J × List MemPlace} (hs : P.underlying t = some (.struct #[f0, f1, f2, f3])) (hone : oneCellFields P #[f0, f1, f2, f3] = true) (hC : P.cellsOf t = 4) (u1 : P.underlying f1.type = some (.int .i64))
    (h : DataW.trod enc P w base spare held fuel t cs = some x) (y : D) (la : Option Addr) (lc : Nat) (e : cs = (dcells y la lc).toList) : (Lit.int .i64 y.mo).wf = true := by
  obtain ⟨xs, n, _, _, hl, hlen, hf⟩ := DataW.trod_struct hs h
  obtain ⟨c0, c1, c2, c3, rfl⟩ := lst4 (hl.trans hC)
  obtain ⟨y0, y1, y2, y3, rfl⟩ := lst4 (show xs.length = 4 from hlen)
  obtain ⟨o1, k1⟩ := hone_of hone 1 f1 rfl
  have h1 := hf 1 f1 rfl
  simp [o1, k1] at h1
  obtain ⟨p, e1, _, hw⟩ := DataW.trod_int u1 h1
  simp only [List.cons.injEq, and_true] at e1
  simp [dcells] at e
  rw [e1] at e
  have := e.2.1
  simp at this
  rw [← this]
  exact hw
theorem docs_open {t e te : TypeId} {f0 f1 f2 f3 g0 g1 : Field} {fuel : Nat} {ao : Option Addr} {len cap : Nat} {x : DataW J × List MemPlace} (ht : P.underlying t = some (.slice e)) (hs : P.underlying e = some (.struct #[f0, f1, f2, f3])) (hone : oneCellFields P #[f0, f1, f2, f3] = true) (hC : P.cellsOf e = 4)
    (u0 : P.underlying f0.type = some .string) (u1 : P.underlying f1.type = some (.int .i64)) (u2 : P.underlying f2.type = some (.int .i64)) (u3 : P.underlying f3.type = some (.slice te))
    (hs2 : P.underlying te = some (.struct #[g0, g1])) (hone2 : oneCellFields P #[g0, g1] = true) (hC2 : P.cellsOf te = 2) (v0 : P.underlying g0.type = some .string) (v1 : P.underlying g1.type = some (.int .i64))
    (h : DataW.trod enc P w base spare held fuel t [.slice ao len cap] = some x) : ∃ ds, ds.length = len ∧ IsDcs w ao ds := by
  rcases DataW.trod_slice ht h with ⟨hcs, _⟩ | ⟨a, len', cap', elems, rest, n, _, hcs, _, hb, hl, hm, hlen, hel, _, _⟩
  · simp only [List.cons.injEq, Value.slice.injEq, and_true] at hcs
    obtain ⟨rfl, rfl, rfl⟩ := hcs
    exact ⟨[], rfl, Nat.zero_le _, .inl rfl, fun e he => by cases he⟩
  · simp only [List.cons.injEq, Value.slice.injEq, and_true] at hcs
    obtain ⟨rfl, rfl, rfl⟩ := hcs
    have key : ∀ i, i < len → ∃ (X : D) (la : Option Addr) (lc : Nat), X.In ∧ (Lit.int .i64 X.mo).wf = true ∧ Lis la X.ls w ∧ w.cells? base (a.add (i * 4)) 4 = some (dcells X la lc).toList := by
      intro i hi
      have h1 := hel i hi
      rw [hC, List.getElem?_eq_getElem (by omega)] at h1
      cases hc : w.cells? base (a.add (i * 4)) 4 with
      | none => rw [hc] at h1; simp at h1
      | some cs =>
        rw [hc] at h1
        simp only [Option.bind_some] at h1
        obtain ⟨X, la, lc, rfl, q1, q2⟩ := doc_open hs hone hC u0 u1 u2 u3 hs2 hone2 hC2 v0 v1 h1
        exact ⟨X, la, lc, q1, doc_wf hs hone hC u1 h1 X la lc rfl, q2, rfl⟩
    have : ∃ f : Nat → D, ∀ i, i < len → (f i).In ∧ (Lit.int .i64 (f i).mo).wf = true ∧ ∃ la lc, Lis la (f i).ls w ∧ w.cells? base (a.add (i * 4)) 4 = some (dcells (f i) la lc).toList := by
      refine ⟨fun i => if hi : i < len then Classical.choose (key i hi) else D.zero, fun i hi => ?_⟩
      simp only [hi, dif_pos]
      obtain ⟨la, lc, q1, q2, q3, q4⟩ := Classical.choose_spec (key i hi)
      exact ⟨q1, q2, la, lc, q3, q4⟩
    obtain ⟨f, hf⟩ := this
    refine ⟨(List.range len).map f, by simp, by simp; omega, ?_, fun e he => ?_⟩
    · by_cases h0 : len = 0
      · exact .inl (by simpa using h0)
      · obtain ⟨b, off, spot⟩ := a
        obtain ⟨_, _, la0, lc0, _, hc00⟩ := hf 0 (by omega)
        have hc0 := LinR.cells_at hc00 0 (by omega)
        have hspot : spot = none := by
          have : w.cell? ⟨b, off, spot⟩ = some (.string (f 0).a) := by simpa [Addr.add, dcells] using hc0
          exact World.cell?_spot this
        subst hspot
        refine .inr ⟨b, off, rfl, ?_, fun j hj => ?_⟩
        · have : w.cell? ⟨b, off, none⟩ = some (.string (f 0).a) := by simpa [Addr.add, dcells] using hc0
          exact World.block_lt_of_cell? w _ this
        · have hj : j < len := by simpa using hj
          have e : ((List.range len).map f).getD j D.zero = f j := by simp [List.getD, hj]
          rw [e]
          obtain ⟨_, _, la, lc, hL, hcc⟩ := hf j hj
          have g := fun k (hk : k < 4) => LinR.cells_at hcc k hk
          have ad : ∀ k, ((⟨b, off, none⟩ : Addr).add (j * 4)).add k = ⟨b, off + j * 4 + k, none⟩ := by
            intro k
            unfold Addr.add
            split <;> split <;> simp_all
          simp only [ad] at g
          exact ⟨la, lc, g 0 (by omega), g 1 (by omega), g 2 (by omega), g 3 (by omega), hL⟩
    · simp only [List.mem_map, List.mem_range] at he
      obtain ⟨i, hi, rfl⟩ := he
      exact ⟨(hf i hi).1, (hf i hi).2.1⟩
end
/-- What is left of a size. -/
def dsS : Int → List D → Int
  | l, [] => l
  | l, d :: ds => if dszR l d < 0 then -1 else dsS (dszR l d) ds
theorem dsS_small : ∀ {ds : List D} {l : Int}, l ≤ 1048576 → ¬ dsS l ds < 0 → ∀ d ∈ ds, d.Sm
  | [], l, _, _, d, h => by cases h
  | x :: ds, l, hl, h, d, hd => by
    rw [dsS] at h
    by_cases q : dszR l x < 0
    · rw [if_pos q] at h; exact absurd (by omega) h
    · rw [if_neg q] at h
      obtain ⟨h1, h2⟩ := dsz_small hl q
      rcases List.mem_cons.1 hd with rfl | hd
      · exact h1
      · exact dsS_small (by omega) h d hd
def szDR (ds : List D) : Int := if (1048576 : Int) - (ds.length : Int) < 0 then -1 else dsS (1048576 - (ds.length : Int)) ds
theorem szDR_small {ds : List D} (h : ¬ szDR ds < 0) : ds.length ≤ 1048576 ∧ ∀ d ∈ ds, d.Sm := by
  unfold szDR at h
  by_cases q : (1048576 : Int) - (ds.length : Int) < 0
  · rw [if_pos q] at h; exact absurd (by omega) h
  · rw [if_neg q] at h
    exact ⟨by omega, dsS_small (by omega) h⟩
theorem drop_more (ds : List D) (k : Nat) (h : k < ds.length) : ds.drop k = ds.getD k D.zero :: ds.drop (k + 1) := by
  rw [List.drop_eq_getElem_cons h]
  simp [List.getD, h]
end LedR
end Go.Proofs.YtlfebpgohpmknaaGreatDoor
namespace Go.Proofs.YtlfebpgohpmknaaGreatDoor
open Go.ChangeShapes Go.WideShapes Go.ChangeAt Go.RowKit Go.Deep
set_option linter.unusedVariables false
namespace LedR
open LinR RowG LtR NetR DocR
open EvtR (Pt cell_put cell_far)
theorem infoD : (Tryz.prog.info? 28).map (fun i => (i.zero, i.size, i.bytes)) = some (some (.agg #[.string ⟨#[]⟩, .int .i64 0, .int .i64 0, .slice none 0 0]), 4, 56) := by kernel_rfl
theorem pt_any {p q n o : Nat} {W : World} {v : Value} (h : Pt p n W) : Pt p n (W.setCell ⟨q, o, none⟩ v) := by
  by_cases e : p = q
  · subst e; exact h.set _ _
  · have eb : (W.setCell ⟨q, o, none⟩ v).heap[p]? = W.heap[p]? := by
      simp only [World.setCell]
      rw [Array.getElem?_modify, if_neg (fun e2 => e e2.symm)]
    exact ⟨by have := h.lt; simpa using this, fun x hx => by obtain ⟨u, hu⟩ := h.has x hx; exact ⟨u, (World.cell?_of_block (a := ⟨p, x, none⟩) eb).trans hu⟩, fun x hx => (World.frozen?_of_block (a := ⟨p, x, none⟩) eb).trans (h.free x hx)⟩
theorem ne_of {la : Option Addr} {n g : Nat} {W : World} (h : n = 0 ∨ ∃ g', la = some ⟨g', 0, none⟩ ∧ g < g' ∧ g' < W.heap.size ∧ Pt g' (n * 2) W) : n = 0 ∨ ∀ b off, la = some ⟨b, off, none⟩ → b ≠ g :=
  h.imp id (fun ⟨g', e1, e2, _⟩ b off e3 => by rw [e1] at e3; simp at e3; omega)
theorem own_put {la : Option Addr} {n g q o : Nat} {W : World} {v : Value} (h : n = 0 ∨ ∃ g', la = some ⟨g', 0, none⟩ ∧ g < g' ∧ g' < W.heap.size ∧ Pt g' (n * 2) W) : n = 0 ∨ ∃ g', la = some ⟨g', 0, none⟩ ∧ g < g' ∧ g' < (W.setCell ⟨q, o, none⟩ v).heap.size ∧ Pt g' (n * 2) (W.setCell ⟨q, o, none⟩ v) :=
  h.imp id (fun ⟨g', e1, e2, e3, e4⟩ => ⟨g', e1, e2, by simpa using e3, pt_any e4⟩)
/-- The first documents of a list that is being laid. -/
def DW (g k : Nat) (ds : List D) (W : World) : Prop := ∀ j, j < k → ∃ la lc, W.cell? ⟨g, j * 4, none⟩ = some (.string (ds.getD j D.zero).a) ∧ W.cell? ⟨g, j * 4 + 1, none⟩ = some (.int .i64 (ds.getD j D.zero).mo) ∧ W.cell? ⟨g, j * 4 + 2, none⟩ = some (.int .i64 (ds.getD j D.zero).sq) ∧ W.cell? ⟨g, j * 4 + 3, none⟩ = some (.slice la (ds.getD j D.zero).ls.length lc) ∧ Lis la (ds.getD j D.zero).ls W ∧ ((ds.getD j D.zero).ls.length = 0 ∨ ∃ g', la = some ⟨g', 0, none⟩ ∧ g < g' ∧ g' < W.heap.size ∧ Pt g' ((ds.getD j D.zero).ls.length * 2) W)
theorem DW.below {g k : Nat} {ds : List D} {W W' : World} (h : DW g k ds W) (hg : g < W.heap.size) (hb : Below W.heap.size W W') : DW g k ds W' := by
  intro j hj
  obtain ⟨la, lc, c0, c1, c2, c3, hL, hn⟩ := h j hj
  have f := fun x => hb.cell (p := ⟨g, x, none⟩) hg
  exact ⟨la, lc, (f _).trans c0, (f _).trans c1, (f _).trans c2, (f _).trans c3, hL.below hb, hn.imp id (fun ⟨g', e1, e2, e3, e4⟩ => ⟨g', e1, e2, by have := hb.size; omega, e4.below hb⟩)⟩
theorem DW.put {g k o : Nat} {ds : List D} {W : World} (h : DW g k ds W) (ho : k * 4 ≤ o) (v : Value) : DW g k ds (W.setCell ⟨g, o, none⟩ v) := by
  intro j hj
  obtain ⟨la, lc, c0, c1, c2, c3, hL, hn⟩ := h j hj
  exact ⟨la, lc, (cell_far _ _ (by omega) v).trans c0, (cell_far _ _ (by omega) v).trans c1, (cell_far _ _ (by omega) v).trans c2, (cell_far _ _ (by omega) v).trans c3, DocR.Rws.put hL g o v (ne_of hn), own_put hn⟩
theorem DW.more {g k n : Nat} {ds : List D} {W : World} (h : DW g k ds W) (hp : Pt g n W) (hk : k * 4 + 3 < n) (la : Option Addr) (lc : Nat) (hL : Lis la (ds.getD k D.zero).ls W) (hn : (ds.getD k D.zero).ls.length = 0 ∨ ∃ g', la = some ⟨g', 0, none⟩ ∧ g < g' ∧ g' < W.heap.size ∧ Pt g' ((ds.getD k D.zero).ls.length * 2) W) :
    DW g (k + 1) ds ((((W.setCell ⟨g, k * 4, none⟩ (.string (ds.getD k D.zero).a)).setCell ⟨g, k * 4 + 1, none⟩ (.int .i64 (ds.getD k D.zero).mo)).setCell ⟨g, k * 4 + 2, none⟩ (.int .i64 (ds.getD k D.zero).sq)).setCell ⟨g, k * 4 + 3, none⟩ (.slice la (ds.getD k D.zero).ls.length lc)) := by
  intro j hj
  by_cases e : j = k
  · subst e
    have p1 := hp.set (j * 4) (.string (ds.getD j D.zero).a)
    have p2 := p1.set (j * 4 + 1) (.int .i64 (ds.getD j D.zero).mo)
    have p3 := p2.set (j * 4 + 2) (.int .i64 (ds.getD j D.zero).sq)
    refine ⟨la, lc, ?_, ?_, ?_, cell_put p3 _ hk _, DocR.Rws.put (DocR.Rws.put (DocR.Rws.put (DocR.Rws.put hL g _ _ (ne_of hn)) g _ _ (ne_of hn)) g _ _ (ne_of hn)) g _ _ (ne_of hn), own_put (own_put (own_put (own_put hn)))⟩
    · rw [cell_far _ _ (by omega), cell_far _ _ (by omega), cell_far _ _ (by omega), cell_put hp _ (by omega)]
    · rw [cell_far _ _ (by omega), cell_far _ _ (by omega), cell_put p1 _ (by omega)]
    · rw [cell_far _ _ (by omega), cell_put p2 _ (by omega)]
  · exact ((((h.put (by omega) _).put (by omega) _).put (by omega) _).put (by omega) _) j (by omega)
theorem DW.dcs {g : Nat} {ds : List D} {W : World} (h : DW g ds.length ds W) (hg : g < W.heap.size) : Dcs (some ⟨g, 0, none⟩) ds W := .inr ⟨g, 0, rfl, hg, fun j hj => by
  obtain ⟨la, lc, c0, c1, c2, c3, hL, _⟩ := h j hj
  exact ⟨la, lc, by rw [Nat.zero_add]; exact c0, by rw [Nat.zero_add]; exact c1, by rw [Nat.zero_add]; exact c2, by rw [Nat.zero_add]; exact c3, hL⟩⟩
end LedR
end Go.Proofs.YtlfebpgohpmknaaGreatDoor
namespace Go.Proofs.YtlfebpgohpmknaaGreatDoor
open Go.ChangeShapes Go.WideShapes Go.ChangeAt Go.RowKit
set_option linter.unusedVariables false
namespace LedR
open OwG LinR DocR
open RowG (MadeG Rws cellsAll hid_intro)
open EvtR (Pt)
open CatR (Blk Blk.new)
/-- A document with the place of its lines. -/
structure DA where
  d : D
  la : Option Addr
  lc : Nat
def DA.v (x : DA) : Value := .slice x.la x.d.ls.length x.lc
def DA.cells (x : DA) : List Value := [.string x.d.a, .int .i64 x.d.mo, .int .i64 x.d.sq, x.v]
theorem DA.len (x : DA) : x.cells.length = 4 := rfl
def DA.zero : DA := ⟨D.zero, none, 0⟩
/-- Its lines are its own. -/
def LnO (base : Nat) (x : DA) (W : World) : Prop := W.ownsRow base 74 2 x.v x.d.ls.length (cellsAll N.cells x.d.ls)
def Apt (x y : DA) : Prop := ∀ b, x.v.ownBlock = some b → y.v.ownBlock ≠ some b
/-- A list of documents of one's own. -/
def DsO (base : Nat) (v : Value) (ds : List D) (W : World) : Prop := ∃ xs : List DA, xs.map DA.d = ds ∧ W.ownsRow base 28 4 v ds.length (cellsAll DA.cells xs) ∧ (∀ x ∈ xs, LnO base x W) ∧ xs.Pairwise Apt
theorem LnO.grown {base : Nat} {x : DA} {W W' : World} {row : Option Nat} (h : LnO base x W) (hg : W.grownBy W' row) (hne : ∀ b, x.v.ownBlock = some b → some b ≠ row) : LnO base x W' := own_keepO h hg hne
theorem LnO.low {base base' : Nat} {x : DA} {W : World} (h : LnO base x W) (hb : base' ≤ base) : LnO base' x W := OwG.own_low h hb
theorem dso_nil (base : Nat) (W : World) : DsO base (.slice none 0 0) [] W := ⟨[], rfl, World.ownsRow_nil _ _ _ _, (fun x h => absurd h (by simp)), List.Pairwise.nil⟩
theorem DsO.low {base base' : Nat} {v : Value} {ds : List D} {W : World} (h : DsO base v ds W) (hb : base' ≤ base) : DsO base' v ds W := by
  obtain ⟨xs, h1, h2, h3, h4⟩ := h
  exact ⟨xs, h1, OwG.own_low h2 hb, fun x hx => (h3 x hx).low hb, h4⟩
theorem DsO.far {base g : Nat} {v : Value} {ds : List D} {W W' : World} (h : DsO base v ds W) (hg : W.grownBy W' (some g)) (hlt : g < base) : DsO base v ds W' := by
  obtain ⟨xs, h1, h2, h3, h4⟩ := h
  exact ⟨xs, h1, own_keepG h2 hg hlt, fun x hx => own_keepG (h3 x hx) hg hlt, h4⟩
theorem DsO.below {base : Nat} {v : Value} {ds : List D} {W W' : World} (h : DsO base v ds W) (hb : Below W.heap.size W W') : DsO base v ds W' := by
  obtain ⟨xs, h1, h2, h3, h4⟩ := h
  exact ⟨xs, h1, RowG.own_below h2 hb, fun x hx => RowG.own_below (h3 x hx) hb, h4⟩
theorem dso_step {base g : Nat} {v v' : Value} {xs : List DA} {ds : List D} {d : D} {la : Option Addr} {lc : Nat} {wr w1 w2 w9 : World} (hds : xs.map DA.d = ds) (hLn : ∀ x ∈ xs, LnO base x wr) (hPw : xs.Pairwise Apt) (hg1 : wr.grownBy w1 (some g)) (hgb : g < base) (hbw : base ≤ wr.heap.size)
    (hnew : w1.ownsRow wr.heap.size 74 2 (.slice la d.ls.length lc) d.ls.length (cellsAll N.cells d.ls)) (al : Below w1.heap.size w1 w2) (hO : w2.ownsRow base 28 4 v ds.length (cellsAll DA.cells xs)) (hgrow : w2.grownBy w9 v.ownBlock)
    (hown : w9.ownsRow base 28 4 v' (ds.length + 1) (cellsAll DA.cells xs ++ [.string d.a, .int .i64 d.mo, .int .i64 d.sq, .slice la d.ls.length lc])) : DsO base v' (ds ++ [d]) w9 := by
  have hk : ∀ x : DA, LnO base x w2 → LnO base x w9 := fun x hx => hx.grown hgrow (own_apart hx hO (by decide))
  refine ⟨xs ++ [⟨d, la, lc⟩], by rw [List.map_append, hds]; rfl, ?_, ?_, ?_⟩
  · rw [cellsAll_snoc, List.length_append]
    exact hown
  · intro x hx
    rcases List.mem_append.1 hx with h | h
    · exact hk x (RowG.own_below (own_keepG (hLn x h) hg1 hgb) al)
    · rw [List.mem_singleton] at h
      subst h
      exact hk ⟨d, la, lc⟩ (RowG.own_below (OwG.own_low hnew hbw) al)
  · refine List.pairwise_append.2 ⟨hPw, List.pairwise_singleton _ _, fun x hx y hy => ?_⟩
    rw [List.mem_singleton] at hy
    subst hy
    intro b h1 h2
    have p1 := (hLn x hx).lt b h1
    have p2 := hnew.lt b h2
    omega
theorem DsO.dcs {base : Nat} {v : Value} {ds : List D} {W : World} (h : DsO base v ds W) : ∃ ao cap, v = .slice ao ds.length cap ∧ Dcs ao ds W := by
  obtain ⟨xs, h1, h2, h3, _⟩ := h
  have hl : ds.length = xs.length := by rw [← h1]; simp
  rw [hl] at h2
  obtain ⟨ao, cap, rfl, hm⟩ := RowG.own_made (z := DA.zero) DA.len h2
  refine ⟨ao, cap, by rw [hl], ?_⟩
  rcases hm.rws with h0 | ⟨b, off, rfl, hb, hc⟩
  · exact .inl (by omega)
  · refine .inr ⟨b, off, rfl, hb, fun i hi => ?_⟩
    have hx : i < xs.length := by omega
    have e : ds.getD i D.zero = (xs.getD i DA.zero).d := by
      rw [← h1]
      simp [List.getD, hx]
    have hmem := RowG.getD_mem (z := DA.zero) xs i hx
    have c := hc i hx
    rw [e]
    generalize xs.getD i DA.zero = X at *
    obtain ⟨ao', cap', e', hm'⟩ := RowG.own_made (z := N.zero) N.len (h3 X hmem)
    unfold DA.v at e'
    cases e'
    exact ⟨X.la, X.lc, c 0 (by omega), c 1 (by omega), c 2 (by omega), c 3 (by omega), hm'.rws⟩
theorem doc_one (d : D) (la : Option Addr) (lc : Nat) : ∀ u ∈ ([.string d.a, .int .i64 d.mo, .int .i64 d.sq, .slice la d.ls.length lc] : List Value), u.oneCell' = true := by
  intro u hu
  simp at hu
  rcases hu with rfl | rfl | rfl | rfl <;> rfl
end LedR
end Go.Proofs.YtlfebpgohpmknaaGreatDoor
namespace Go.Proofs.YtlfebpgohpmknaaGreatDoor
open Go.ChangeShapes Go.WideShapes Go.ChangeAt Go.RowKit
set_option linter.unusedVariables false
namespace LedR
open LinR DocR NetR OwG
open RowG (cellsAll cellsAll_len hid_intro take_more)
/-- One more document, with what both lists hold. -/
theorem dso_snoc {base : Nat} {v v' : Value} {xs : List DA} {ds : List D} {d : D} {la : Option Addr} {lc : Nat} {w2 w9 : World} (hds : xs.map DA.d = ds) (hLn : ∀ x ∈ xs, LnO base x w2) (hPw : xs.Pairwise Apt) (hn : LnO base ⟨d, la, lc⟩ w2) (hap : ∀ x ∈ xs, Apt x ⟨d, la, lc⟩)
    (hO : w2.ownsRow base 28 4 v ds.length (cellsAll DA.cells xs)) (hgrow : w2.grownBy w9 v.ownBlock)
    (hown : w9.ownsRow base 28 4 v' (ds.length + 1) (cellsAll DA.cells xs ++ [.string d.a, .int .i64 d.mo, .int .i64 d.sq, .slice la d.ls.length lc])) :
    (xs ++ [(⟨d, la, lc⟩ : DA)]).map DA.d = ds ++ [d] ∧ w9.ownsRow base 28 4 v' (ds ++ [d]).length (cellsAll DA.cells (xs ++ [(⟨d, la, lc⟩ : DA)])) ∧ (∀ x ∈ xs ++ [(⟨d, la, lc⟩ : DA)], LnO base x w9) ∧ (xs ++ [(⟨d, la, lc⟩ : DA)]).Pairwise Apt := by
  have hk : ∀ x : DA, LnO base x w2 → LnO base x w9 := fun x hx => hx.grown hgrow (own_apart hx hO (by decide))
  refine ⟨by rw [List.map_append, hds]; rfl, ?_, ?_, ?_⟩
  · rw [cellsAll_snoc, List.length_append]
    exact hown
  · intro x hx
    rcases List.mem_append.1 hx with h | h
    · exact hk x (hLn x h)
    · rw [List.mem_singleton] at h
      subst h
      exact hk _ hn
  · refine List.pairwise_append.2 ⟨hPw, List.pairwise_singleton _ _, fun x hx y hy => ?_⟩
    rw [List.mem_singleton] at hy
    subst hy
    exact hap x hx
theorem new_cells4 (W : World) (cs : List Value) (T : TypeId) : ∀ (j : Nat) u, cs[j]? = some u → (W.alloc (.cells cs.toArray T)).cell? ((⟨W.heap.size, 0, none⟩ : Addr).add j) = some u := by
  intro j u hx
  have hb := (BlkW.new W cs T).1
  rw [Addr.add_lit, Nat.zero_add, hb.2 j (List.getElem?_eq_some_iff.1 hx).1]
  exact hx
set_option maxRecDepth 100000 in
set_option maxHeartbeats 4000000 in
theorem scopy (ao : Option Addr) (cap : Nat) (ds : List D) (w : World) (hlen : ds.length ≤ 1048575) (hL : ∀ d ∈ ds, d.ls.length ≤ 1048576) (hI : Dcs ao ds w) :
    Calls Tryz.prog 65 #[.slice ao ds.length cap] w fun e w' => ∃ v, e = .returned v ∧ DsO w.heap.size v ds w' ∧ Below w.heap.size w w' := by
  obtain ⟨i0, hi, hz0, hz1, hz2⟩ := info_parts infoD
  have HI := hid_intro hI
  have HL := hid_intro hL
  obtain ⟨len, hl⟩ : ∃ len, len = ds.length := ⟨_, rfl⟩
  have HLN := hid_intro hl
  have HEND : Hid (ds.take len = ds) := hid_intro (by rw [hl]; exact List.take_length)
  rw [← hl] at hlen ⊢
  have HE0 := hid_intro (own_empty w w.heap.size 28 4 (Nat.le_refl _))
  clear hI hL hl
  go_enter Tryz.func65, Tryz.ntmps65
  go_wp2_with fail
  go_loopw [3, 4] (fun v z wr => ∃ k : Nat, k ≤ len ∧ z = .int .i64 k ∧ Hid (DsO w.heap.size v (ds.take k) wr) ∧ Hid (Below w.heap.size w wr)) (fun v z _ => len - (intOf z).toNat)
  case atStart => exact ⟨0, by omega, rfl, hid_intro ⟨[], rfl, HE0.out, (fun x h => by cases h), List.Pairwise.nil⟩, hid_intro ((Below.refl _ _).alloc (Nat.le_refl _) _)⟩
  case round =>
    obtain ⟨k, hk, rfl, HO, HB⟩ := hrel
    by_cases hlt : k < len
    · have hlt2 : (k : Int) < (len : Int) := by omega
      have hkl : k < ds.length := by have := HLN.out; omega
      obtain ⟨b, off, la, lc, rfl, hbl, c0, c1, c2, c3, hLi⟩ := (HI.out.below HB.out).at k hkl
      have hdl := HL.out _ (RowG.getD_mem (z := D.zero) ds k hkl)
      have HT := hid_intro (take_more (z := D.zero) ds k hkl)
      have HDK : Hid ((ds.take k).length = k) := hid_intro (by rw [List.length_take]; omega)
      generalize ds.getD k D.zero = X at *
      obtain ⟨xs, hx1, hx2, hx3, hx4⟩ := HO.out
      have HX1 := hid_intro hx1
      have HX2 := hid_intro hx2
      have HX3 := hid_intro hx3
      have HX4 := hid_intro hx4
      have HSD := hid_intro (fun W (hb : Below wr.heap.size wr W) => sdoc X la lc W hdl (hLi.below hb))
      obtain ⟨a, mo, sq, ls⟩ := X
      dsimp only at c0 c1 c2 c3 HSD hdl
      obtain ⟨nl, hnl⟩ : ∃ nl, nl = ls.length := ⟨_, rfl⟩
      rw [← hnl] at c3 HSD hdl
      have HNL := hid_intro hnl
      clear hx1 hx2 hx3 hx4 hLi hnl HO
      go_wp2_with fail
      refine (HSD.out _ (Below.refl _ _)).mono ?_
      rintro e w1 ⟨no, nc, rfl, hnew, hb1⟩
      have HN1 := hid_intro hnew
      have HB1 := hid_intro hb1
      have HS1 : Hid (w.heap.size ≤ wr.heap.size) := hid_intro HB.out.size
      obtain ⟨w2, hw2⟩ : ∃ z, z = w1.alloc (.cells #[.string a, .int .i64 mo, .int .i64 sq, .slice no nl nc] 28) := ⟨_, rfl⟩
      have al : Below w1.heap.size w1 w2 := by rw [hw2]; exact (Below.refl _ _).alloc (Nat.le_refl _) _
      have HAL := hid_intro al
      have HO2 := hid_intro (RowG.own_below (RowG.own_below HX2.out hb1) al)
      have HNW : Hid (∀ j u, ([.string a, .int .i64 mo, .int .i64 sq, .slice no nl nc] : List Value)[j]? = some u → w2.cell? ((⟨w1.heap.size, 0, none⟩ : Addr).add j) = some u) := hid_intro (by rw [hw2]; exact new_cells4 w1 [.string a, .int .i64 mo, .int .i64 sq, .slice no nl nc] 28)
      have HS2 : Hid (w.heap.size ≤ w2.heap.size) := hid_intro (by have := al.size; have := hb1.size; have := HB.out.size; omega)
      have HW2 := hid_intro hw2
      have HDO : Hid (∀ u ∈ ([.string a, .int .i64 mo, .int .i64 sq, .slice no nl nc] : List Value), u.oneCell' = true) := hid_intro (by intro u hu; simp at hu; rcases hu with rfl | rfl | rfl | rfl <;> rfl)
      rw [HDK.out] at HO2
      have hsz1 : k + 1 ≤ maxLen := by unfold maxLen; omega
      have hsz2 : (k + 1) * 56 ≤ 140737488355328 := by omega
      clear hnew hb1 al hw2 HSD
      go_wp2_with (at_builtin; rw [← HW2.out]; refine wpList_append_own _ rfl _ _ 23 rfl w.heap.size 28 i0 (.agg #[.string ⟨#[]⟩, .int .i64 0, .int .i64 0, .slice none 0 0]) 4 56 Tryz.underlying23 hi hz0 hz1 hz2 rfl (by decide) _ _ _ rfl HO2.out ⟨w1.heap.size, 0, none⟩ 1 1 [.string a, .int .i64 mo, .int .i64 sq, .slice no nl nc] rfl rfl HNW.out HDO.out hsz1 hsz2 HS2.out ?_)
      intro v' w9 hown hgrow hne
      have HD9 : Hid (DsO w.heap.size v' (ds.take (k + 1)) w9) := hid_intro (by
        rw [HT.out]
        have e := HNL.out
        subst e
        have h := dso_snoc (d := ⟨a, mo, sq, ls⟩) (la := no) (lc := nc) HX1.out (fun x hx => RowG.own_below (RowG.own_below (HX3.out x hx) HB1.out) HAL.out) HX4.out (RowG.own_below (OwG.own_low HN1.out HS1.out) HAL.out) (fun x hx b h1 h2 => by
          have p1 := ((HX3.out x hx).lt b h1).2
          have p2 := (HN1.out.lt b h2).1
          omega) (by rw [HDK.out]; exact HO2.out) hgrow (by rw [HDK.out]; exact hown)
        exact ⟨_, h.1, h.2.1, h.2.2.1, h.2.2.2⟩)
      have HB9 : Hid (Below w.heap.size w w9) := hid_intro (((HB.out.trans (HB1.out.mono HB.out.size)).trans (HAL.out.mono (Nat.le_trans HB.out.size HB1.out.size))).grown hgrow HS2.out (fun k e => by have := (HO2.out.lt k e).1; omega))
      clear hown hgrow hne
      go_wp2_with fail
      go_roundw
      case rel => exact ⟨k + 1, by omega, by go_num, HD9, HB9⟩
      case measure => simp [intOf]; omega
    · have hlt2 : ¬ (k : Int) < (len : Int) := by omega
      obtain rfl : k = len := by omega
      rw [HEND.out] at HO
      go_wp2_with fail
      go_ret
      exact ⟨_, rfl, HO.out, HB.out⟩
end LedR
end Go.Proofs.YtlfebpgohpmknaaGreatDoor
namespace Go.Proofs.YtlfebpgohpmknaaGreatDoor
open Go.ChangeShapes Go.WideShapes Go.ChangeAt Go.RowKit
set_option linter.unusedVariables false
namespace LedR
open LinR RowG LtR NetR DocR
theorem rise_of {es : List N} (h : SRight es) : Rise es := right_rise h
theorem num_of {es : List N} (h : SRight es) : ∀ e ∈ es, -1000000000000000 ≤ e.n ∧ e.n ≤ 1000000000000000 := by
  intro x hx
  obtain ⟨i, hi, rfl⟩ := List.getElem_of_mem hx
  have := (h.2 i hi).2
  rw [show es.getD i N.zero = es[i] by simp [List.getD, hi]] at this
  unfold lOk nOk at this
  simp only [Bool.and_eq_true, decide_eq_true_eq] at this
  exact this.2.1
end LedR
end Go.Proofs.YtlfebpgohpmknaaGreatDoor
namespace Go.Proofs.YtlfebpgohpmknaaGreatDoor
open Go.ChangeShapes Go.WideShapes Go.ChangeAt Go.RowKit
set_option linter.unusedVariables false
namespace LedR
open LinR RowG DocR
open EvtR (Pt cell_put cell_far)
open CatR (Blk Blk.new)
/-- An answer that reads so. -/
def LoR (v : Value) (ds : List D) (x : D) (cd : Int) (W : World) : Prop := ∃ ao cap la lc, v = .agg #[.slice ao ds.length cap, .string x.a, .int .i64 x.mo, .int .i64 x.sq, .slice la x.ls.length lc, .int .i64 cd] ∧ Dcs ao ds W ∧ Lis la x.ls W
theorem LoR.below {v : Value} {ds : List D} {x : D} {cd : Int} {W W' : World} (h : LoR v ds x cd W) (hb : Below W.heap.size W W') : LoR v ds x cd W' := by
  obtain ⟨ao, cap, la, lc, rfl, h1, h2⟩ := h
  exact ⟨ao, cap, la, lc, rfl, h1.below hb, h2.below hb⟩
/-- An answer of one's own. -/
def LoO (base : Nat) (v : Value) (ds : List D) (x : D) (cd : Int) (W : World) : Prop := ∃ (vd : Value) (xs : List DA) (la : Option Addr) (lc : Nat), v = .agg #[vd, .string x.a, .int .i64 x.mo, .int .i64 x.sq, .slice la x.ls.length lc, .int .i64 cd] ∧ xs.map DA.d = ds ∧ W.ownsRow base 28 4 vd ds.length (cellsAll DA.cells xs) ∧ (∀ y ∈ xs, LnO base y W) ∧ xs.Pairwise Apt ∧ LnO base ⟨x, la, lc⟩ W ∧ ∀ y ∈ xs, Apt y ⟨x, la, lc⟩
theorem LoO.reads {base : Nat} {v : Value} {ds : List D} {x : D} {cd : Int} {W : World} (h : LoO base v ds x cd W) : LoR v ds x cd W := by
  obtain ⟨vd, xs, la, lc, rfl, h1, h2, h3, h4, h5, _⟩ := h
  obtain ⟨ao, cap, rfl, hd⟩ := DsO.dcs (⟨xs, h1, h2, h3, h4⟩ : DsO base vd ds W)
  obtain ⟨ao', cap', e', hm'⟩ := RowG.own_made (z := N.zero) N.len h5
  unfold DA.v at e'
  cases e'
  exact ⟨ao, cap, la, lc, rfl, hd, hm'.rws⟩
theorem LoO.below {base : Nat} {v : Value} {ds : List D} {x : D} {cd : Int} {W W' : World} (h : LoO base v ds x cd W) (hb : Below W.heap.size W W') : LoO base v ds x cd W' := by
  obtain ⟨vd, xs, la, lc, rfl, h1, h2, h3, h4, h5, h6⟩ := h
  exact ⟨vd, xs, la, lc, rfl, h1, RowG.own_below h2 hb, fun y hy => RowG.own_below (h3 y hy) hb, h4, RowG.own_below h5 hb, h6⟩
theorem loO_of {base : Nat} {vd : Value} {ds : List D} {cd : Int} {W : World} (h : DsO base vd ds W) : LoO base (.agg #[vd, .string ⟨#[]⟩, .int .i64 0, .int .i64 0, .slice none 0 0, .int .i64 cd]) ds D.zero cd W := by
  obtain ⟨xs, h1, h2, h3, h4⟩ := h
  exact ⟨vd, xs, none, 0, rfl, h1, h2, h3, h4, World.ownsRow_nil _ _ _ _, fun y _ b h1 h2 => by simp [DA.v, Value.ownBlock] at h2⟩
end LedR
end Go.Proofs.YtlfebpgohpmknaaGreatDoor
namespace Go.Proofs.YtlfebpgohpmknaaGreatDoor
open Go.ChangeShapes Go.WideShapes Go.ChangeAt Go.RowKit
set_option linter.unusedVariables false
namespace LedR
open LinR RowG LtR NetR DocR
theorem blk_add {b : Nat} {cs : List Value} {W : World} (h : BlkW b cs W) : ∀ j u, cs[j]? = some u → W.cell? ((⟨b, 0, none⟩ : Addr).add j) = some u := by
  intro j u hj
  have hl := (List.getElem?_eq_some_iff.1 hj).1
  rw [Addr.add_lit, Nat.zero_add, h.1.2 j hl]
  exact hj
theorem lo_fin {wb base : Nat} {vd : Value} {ds : List D} {d : D} {xs : List DA} {co : Option Addr} {cc2 : Nat} {q0 q WF : World} (hlw : wb < base) (a1 : xs.map DA.d = ds) (a2 : q0.ownsRow base 28 4 vd ds.length (cellsAll DA.cells xs)) (a3 : ∀ y ∈ xs, LnO base y q0) (a4 : xs.Pairwise Apt) (hq : Below q0.heap.size q0 q) (hcp : q.ownsRow q0.heap.size 74 2 (.slice co d.ls.length cc2) d.ls.length (cellsAll N.cells d.ls)) (hb : base ≤ q0.heap.size) (hgr : q.grownBy WF (some wb)) :
    LoO wb (.agg #[vd, .string d.a, .int .i64 d.mo, .int .i64 d.sq, .slice co d.ls.length cc2, .int .i64 0]) ds d 0 WF := by
  have hw : wb ≤ base := Nat.le_of_lt hlw
  refine ⟨vd, xs, co, cc2, rfl, a1, OwG.own_low (OwG.own_keepG (RowG.own_below a2 hq) hgr hlw) hw, fun y hy => OwG.own_low (OwG.own_keepG (RowG.own_below (a3 y hy) hq) hgr hlw) hw, a4, OwG.own_low (OwG.own_keepG hcp hgr (Nat.lt_of_lt_of_le hlw hb)) (Nat.le_trans hw hb), fun y hy b h1 h2 => ?_⟩
  have p1 := ((a3 y hy).lt b h1).2
  have p2 := (hcp.lt b h2).1
  omega
theorem clL_len (G : List N) : (clL G).length ≤ G.length := by unfold clL; cases ovB G; exact Nat.zero_le _; exact List.length_filter_le _ _
set_option maxRecDepth 100000 in
set_option maxHeartbeats 8000000 in
theorem sissue0 (ao : Option Addr) (bb boff cap capb : Nat) (ds : List D) (a : ByteArray) (m : Int) (bl : List N) (w : World) (hlr : LRight ds) (hsr : SRight bl) (hbig : ¬ (400 < ds.length ∨ 8000 < a.size ∨ 400 < bl.length)) (hform : isFormB ds a m bl = true) (hdl : ∀ d ∈ ds, d.ls.length ≤ 1048576) (hI : Dcs ao ds w) (hL : Lis (some ⟨bb, boff, none⟩) bl w) :
    Calls Tryz.prog 41 #[.slice ao ds.length cap, .string a, .int .i64 m, .slice (some ⟨bb, boff, none⟩) bl.length capb] w fun e w' => ∃ v, e = .returned v ∧ LoO w.heap.size v (isD ds a m bl) (isX ds a m bl) (isC ds a m bl) w' ∧ Below w.heap.size w w' := by
  obtain ⟨i0, hi, hz0, hz1, hz2⟩ := info_parts infoD
  have HGo := hid_intro (isGo ds a m bl hbig hform)
  have hnF : (net ds a m).length ≤ 180 := by
    have h1 := (net_facts (ds := ds) ds.length (Nat.le_refl _) hlr.2.1 a m).2.1
    rw [List.take_length] at h1
    have h2 := hlr.1
    omega
  have hfl := List.length_filter_le nz (net ds a m)
  have hfe : ∀ e ∈ (net ds a m).filter nz, -1000000000000000 ≤ e.n ∧ e.n ≤ 1000000000000000 := fun e he => by
    have h1 := ov_net hlr a m
    unfold ovB at h1
    rw [List.all_eq_true] at h1
    have := h1 e (List.mem_filter.1 he).1
    unfold nOk at this
    exact of_decide_eq_true this
  have hcl : clL (net ds a m) = (net ds a m).filter nz := by unfold clL; rw [ov_net hlr a m]; rfl
  have HLG : Hid ((moreG ds a m bl).length ≤ 1000) := hid_intro (by
    have h2 := all_len bl ((net ds a m).filter nz) (-1)
    have h4 := hsr.1
    unfold moreG at *
    omega)
  have HGE : Hid (moreG ds a m bl = all bl ((net ds a m).filter nz) (-1)) := hid_intro rfl
  have hds30 := hlr.1
  obtain ⟨W0, hW0⟩ : ∃ W0, W0 = w.alloc (.cells #[.slice none 0 0, .string ⟨#[]⟩, .int .i64 0, .int .i64 0, .slice none 0 0, .int .i64 0] 30) := ⟨_, rfl⟩
  have HB0 : Hid (Below w.heap.size w W0) := hid_intro (by rw [hW0]; exact (Below.refl _ _).alloc (Nat.le_refl _) _)
  have HR0 : Hid (BlkW w.heap.size [.slice none 0 0, .string ⟨#[]⟩, .int .i64 0, .int .i64 0, .slice none 0 0, .int .i64 0] W0) := hid_intro (by rw [hW0]; exact BlkW.new w [.slice none 0 0, .string ⟨#[]⟩, .int .i64 0, .int .i64 0, .slice none 0 0, .int .i64 0] 30)
  have HLW0 : Hid (w.heap.size < W0.heap.size) := hid_intro HR0.out.1.1
  have HW := hid_intro hW0
  have HNT := hid_intro (snet ao cap ds a m W0 hlr (hI.below HB0.out))
  rw [hcl] at HNT
  have HAD := hid_intro (fun W (hb : Below W0.heap.size W0 W) bo2 capn (h : Lis bo2 ((net ds a m).filter nz) W) => sadd bb boff capb bl bo2 capn ((net ds a m).filter nz) (-1) 1000000000000000 W (.inr rfl) (by omega) hfe (right_rise hsr) (by have := hsr.1; omega) (by omega) (right_bd hsr) (hL.below (HB0.out.trans (hb.mono HB0.out.size))) h)
  have HCT := hid_intro (fun W (hb : Below W0.heap.size W0 W) => scount ao cap ds ds.length a m W (Nat.le_refl _) (by omega) (hI.below (HB0.out.trans (hb.mono HB0.out.size))))
  have HCP := hid_intro (fun W (hb : Below W0.heap.size W0 W) => scopy ao cap ds W (by omega) hdl (hI.below (HB0.out.trans (hb.mono HB0.out.size))))
  rw [← HGE.out] at HAD
  rw [List.take_length] at HCT
  obtain ⟨F, hF⟩ : ∃ F, F = (net ds a m).filter nz := ⟨_, rfl⟩
  rw [← hF] at HNT HAD
  generalize hcc : cnt ds a m = cc at *
  have hc30 : cc ≤ 30 := by rw [← hcc]; have := cnt_le ds a m; omega
  generalize hG0 : moreG ds a m bl = G at *
  obtain ⟨len, hl⟩ : ∃ len, len = ds.length := ⟨_, rfl⟩
  rw [← hl] at HNT HCT HCP HGo hds30 ⊢
  have HLN := hid_intro hl
  generalize bl.length = lb at *
  generalize hfn : F.length = nf at *
  clear hI hL hlr hsr hbig hform hdl hnF hfl hfe hcl hF hW0 hl
  go_enter Tryz.func41, Tryz.ntmps41
  go_wp2_with fail
  rw [← HW.out]
  refine HNT.out.mono ?_
  rintro e w1 ⟨v, rfl, hv, hb1⟩
  have HB1 := hid_intro hb1
  have HR1 := hid_intro (HR0.out.below hb1)
  obtain ⟨g1, c1, rfl, -, -, -, -, hL1⟩ := hv.open
  have HA1 := hid_intro (HAD.out w1 hb1 _ c1 hL1)
  rw [hfn]
  clear hv hb1 hL1 HNT HAD HW HR0
  go_wp2_with fail
  refine HA1.out.mono ?_
  rintro e w2 ⟨v, rfl, hv, hb2⟩
  have HB2 := hid_intro (HB1.out.trans (hb2.mono HB1.out.size))
  have HR2 := hid_intro (HR1.out.below hb2)
  obtain ⟨g2, c2, rfl, -, -, -, -, hL2⟩ := hv.open
  have HC2 := hid_intro (sclean (some ⟨g2, 0, none⟩) c2 G w2 (by have := HLG.out; omega) hL2)
  generalize hgn : G.length = ng at *
  clear hv hb2 hL2 HA1 HB1 HR1
  go_wp2_with fail
  refine HC2.out.mono ?_
  rintro e w3 ⟨v, rfl, hv, hb3⟩
  have HB3 := hid_intro (HB2.out.trans (hb3.mono HB2.out.size))
  have HR3 := hid_intro (HR2.out.below hb3)
  obtain ⟨g3, lc1, rfl, -, -, -, -, -⟩ := hv.open
  have HO3 := hid_intro (own_low hv.1 HB2.out.size)
  have HCT3 := hid_intro (HCT.out w3 HB3.out)
  obtain ⟨la1, hla1⟩ : ∃ la1 : Option Addr, la1 = some ⟨g3, 0, none⟩ := ⟨_, rfl⟩
  rw [← hla1] at HO3 ⊢
  have HK1 : Hid ((clL G).length ≤ 1000) := hid_intro (by have := clL_len G; have := HLG.out; omega)
  have HNil : Hid (clL G = [] ↔ (clL G).length = 0) := hid_intro List.length_eq_zero_iff.symm
  obtain ⟨n1, hn1⟩ : ∃ n1, n1 = (clL G).length := ⟨_, rfl⟩
  rw [← hn1] at HO3 HK1 HNil ⊢
  have HN1 := hid_intro hn1
  obtain ⟨r, hr⟩ : ∃ r, r = ovB G := ⟨_, rfl⟩
  rw [← hr] at HGo ⊢
  clear hv hb3 HC2 HB2 HR2 HCT hla1 hn1 hr
  go_wp2_with fail
  refine HCT3.out.mono ?_
  rintro e w4 ⟨rfl, hb4⟩
  have HB4 := hid_intro (HB3.out.trans (hb4.mono HB3.out.size))
  have HR4 := hid_intro (HR3.out.below hb4)
  have HO4 := hid_intro (RowG.own_below HO3.out hb4)
  have HBw := hid_intro (HB0.out.trans (HB4.out.mono HB0.out.size))
  have hn1k := HK1.out
  clear hb4 HCT3 HB3 HR3 HO3
  cases r
  · have HE := hid_intro (HGo.out.1 rfl)
    obtain ⟨⟨rl, rk⟩, rf⟩ := HR4.out
    have p0 : w4.cell? ⟨w.heap.size, 0, none⟩ = some (.slice none 0 0) := rk 0 (by simp)
    have f0 : w4.frozen? ⟨w.heap.size, 0, none⟩ = false := rf 0 (by simp)
    have p1 : w4.cell? ⟨w.heap.size, 1, none⟩ = some (.string ⟨#[]⟩) := rk 1 (by simp)
    have f1 : w4.frozen? ⟨w.heap.size, 1, none⟩ = false := rf 1 (by simp)
    have p2 : w4.cell? ⟨w.heap.size, 2, none⟩ = some (.int .i64 0) := rk 2 (by simp)
    have f2 : w4.frozen? ⟨w.heap.size, 2, none⟩ = false := rf 2 (by simp)
    have p3 : w4.cell? ⟨w.heap.size, 3, none⟩ = some (.int .i64 0) := rk 3 (by simp)
    have f3 : w4.frozen? ⟨w.heap.size, 3, none⟩ = false := rf 3 (by simp)
    have p4 : w4.cell? ⟨w.heap.size, 4, none⟩ = some (.slice none 0 0) := rk 4 (by simp)
    have f4 : w4.frozen? ⟨w.heap.size, 4, none⟩ = false := rf 4 (by simp)
    have p5 : w4.cell? ⟨w.heap.size, 5, none⟩ = some (.int .i64 0) := rk 5 (by simp)
    have f5 : w4.frozen? ⟨w.heap.size, 5, none⟩ = false := rf 5 (by simp)
    have hg := StR.stL_grown w.heap.size [.slice none 0 0, .string ⟨#[]⟩, .int .i64 0, .int .i64 0, .slice none 0 0, .int .i64 12] 0 w4
    have HBF := hid_intro (HBw.out.grown hg HBw.out.size (fun k e => by simp only [Option.some.injEq] at e; omega))
    simp only [StR.stL, Nat.zero_add, Nat.reduceAdd] at HBF
    clear hg rk rf
    go_wp2_with fail
    refine bodyPost_ret (v := .agg #[.slice none 0 0, .string ⟨#[]⟩, .int .i64 0, .int .i64 0, .slice none 0 0, .int .i64 12]) (by simp [results, Tryz.results41, go_sem, p0, p1, p2, p3, p4, p5]) rfl ⟨_, rfl, by rw [HE.out.1, HE.out.2.1, HE.out.2.2]; exact loO_of (dso_nil _ _), HBF.out⟩
  by_cases hz : n1 = 0 ∧ 0 < cc
  · have hz1 : ((n1 : Int) == 0) = true := by simp; omega
    have hz2 : (0 : Int) < (cc : Int) := by omega
    have hz0 : n1 = 0 := hz.1
    have HE := hid_intro (HGo.out.2.1 rfl (HNil.out.2 hz.1) hz.2)
    clear hz
    obtain ⟨⟨rl, rk⟩, rf⟩ := HR4.out
    have p0 : w4.cell? ⟨w.heap.size, 0, none⟩ = some (.slice none 0 0) := rk 0 (by simp)
    have f0 : w4.frozen? ⟨w.heap.size, 0, none⟩ = false := rf 0 (by simp)
    have p1 : w4.cell? ⟨w.heap.size, 1, none⟩ = some (.string ⟨#[]⟩) := rk 1 (by simp)
    have f1 : w4.frozen? ⟨w.heap.size, 1, none⟩ = false := rf 1 (by simp)
    have p2 : w4.cell? ⟨w.heap.size, 2, none⟩ = some (.int .i64 0) := rk 2 (by simp)
    have f2 : w4.frozen? ⟨w.heap.size, 2, none⟩ = false := rf 2 (by simp)
    have p3 : w4.cell? ⟨w.heap.size, 3, none⟩ = some (.int .i64 0) := rk 3 (by simp)
    have f3 : w4.frozen? ⟨w.heap.size, 3, none⟩ = false := rf 3 (by simp)
    have p4 : w4.cell? ⟨w.heap.size, 4, none⟩ = some (.slice none 0 0) := rk 4 (by simp)
    have f4 : w4.frozen? ⟨w.heap.size, 4, none⟩ = false := rf 4 (by simp)
    have p5 : w4.cell? ⟨w.heap.size, 5, none⟩ = some (.int .i64 0) := rk 5 (by simp)
    have f5 : w4.frozen? ⟨w.heap.size, 5, none⟩ = false := rf 5 (by simp)
    have hg := StR.stL_grown w.heap.size [.slice none 0 0, .string ⟨#[]⟩, .int .i64 0, .int .i64 0, .slice none 0 0, .int .i64 7] 0 w4
    have HBF := hid_intro (HBw.out.grown hg HBw.out.size (fun k e => by simp only [Option.some.injEq] at e; omega))
    simp only [StR.stL, Nat.zero_add, Nat.reduceAdd] at HBF
    clear hg rk rf
    go_wp2_with fail
    refine bodyPost_ret (v := .agg #[.slice none 0 0, .string ⟨#[]⟩, .int .i64 0, .int .i64 0, .slice none 0 0, .int .i64 7]) (by simp [results, Tryz.results41, go_sem, p0, p1, p2, p3, p4, p5]) rfl ⟨_, rfl, by rw [HE.out.1, HE.out.2.1, HE.out.2.2]; exact loO_of (dso_nil _ _), HBF.out⟩
  have hzz : ¬ (clL G = [] ∧ 0 < cc) := fun h => hz ⟨HNil.out.1 h.1, h.2⟩
  have HWY : Hid ((((n1 : Int) == 0) = true ∧ ¬ (0 : Int) < (cc : Int)) ∨ ((n1 : Int) == 0) = false) := hid_intro (by
    by_cases h : n1 = 0
    · exact .inl ⟨by simp; omega, by omega⟩
    · exact .inr (by simp; omega))
  by_cases h30 : 30 ≤ len
  · have HE := hid_intro (HGo.out.2.2.1 rfl hzz h30)
    have h30' : (30 : Int) ≤ (len : Int) := by omega
    rcases HWY.out with ⟨q1, q2⟩ | q1
    · obtain ⟨⟨rl, rk⟩, rf⟩ := HR4.out
      have p0 : w4.cell? ⟨w.heap.size, 0, none⟩ = some (.slice none 0 0) := rk 0 (by simp)
      have f0 : w4.frozen? ⟨w.heap.size, 0, none⟩ = false := rf 0 (by simp)
      have p1 : w4.cell? ⟨w.heap.size, 1, none⟩ = some (.string ⟨#[]⟩) := rk 1 (by simp)
      have f1 : w4.frozen? ⟨w.heap.size, 1, none⟩ = false := rf 1 (by simp)
      have p2 : w4.cell? ⟨w.heap.size, 2, none⟩ = some (.int .i64 0) := rk 2 (by simp)
      have f2 : w4.frozen? ⟨w.heap.size, 2, none⟩ = false := rf 2 (by simp)
      have p3 : w4.cell? ⟨w.heap.size, 3, none⟩ = some (.int .i64 0) := rk 3 (by simp)
      have f3 : w4.frozen? ⟨w.heap.size, 3, none⟩ = false := rf 3 (by simp)
      have p4 : w4.cell? ⟨w.heap.size, 4, none⟩ = some (.slice none 0 0) := rk 4 (by simp)
      have f4 : w4.frozen? ⟨w.heap.size, 4, none⟩ = false := rf 4 (by simp)
      have p5 : w4.cell? ⟨w.heap.size, 5, none⟩ = some (.int .i64 0) := rk 5 (by simp)
      have f5 : w4.frozen? ⟨w.heap.size, 5, none⟩ = false := rf 5 (by simp)
      have hg := StR.stL_grown w.heap.size [.slice none 0 0, .string ⟨#[]⟩, .int .i64 0, .int .i64 0, .slice none 0 0, .int .i64 9] 0 w4
      have HBF := hid_intro (HBw.out.grown hg HBw.out.size (fun k e => by simp only [Option.some.injEq] at e; omega))
      simp only [StR.stL, Nat.zero_add, Nat.reduceAdd] at HBF
      clear hg rk rf
      go_wp2_with fail
      refine bodyPost_ret (v := .agg #[.slice none 0 0, .string ⟨#[]⟩, .int .i64 0, .int .i64 0, .slice none 0 0, .int .i64 9]) (by simp [results, Tryz.results41, go_sem, p0, p1, p2, p3, p4, p5]) rfl ⟨_, rfl, by rw [HE.out.1, HE.out.2.1, HE.out.2.2]; exact loO_of (dso_nil _ _), HBF.out⟩
    · obtain ⟨⟨rl, rk⟩, rf⟩ := HR4.out
      have p0 : w4.cell? ⟨w.heap.size, 0, none⟩ = some (.slice none 0 0) := rk 0 (by simp)
      have f0 : w4.frozen? ⟨w.heap.size, 0, none⟩ = false := rf 0 (by simp)
      have p1 : w4.cell? ⟨w.heap.size, 1, none⟩ = some (.string ⟨#[]⟩) := rk 1 (by simp)
      have f1 : w4.frozen? ⟨w.heap.size, 1, none⟩ = false := rf 1 (by simp)
      have p2 : w4.cell? ⟨w.heap.size, 2, none⟩ = some (.int .i64 0) := rk 2 (by simp)
      have f2 : w4.frozen? ⟨w.heap.size, 2, none⟩ = false := rf 2 (by simp)
      have p3 : w4.cell? ⟨w.heap.size, 3, none⟩ = some (.int .i64 0) := rk 3 (by simp)
      have f3 : w4.frozen? ⟨w.heap.size, 3, none⟩ = false := rf 3 (by simp)
      have p4 : w4.cell? ⟨w.heap.size, 4, none⟩ = some (.slice none 0 0) := rk 4 (by simp)
      have f4 : w4.frozen? ⟨w.heap.size, 4, none⟩ = false := rf 4 (by simp)
      have p5 : w4.cell? ⟨w.heap.size, 5, none⟩ = some (.int .i64 0) := rk 5 (by simp)
      have f5 : w4.frozen? ⟨w.heap.size, 5, none⟩ = false := rf 5 (by simp)
      have hg := StR.stL_grown w.heap.size [.slice none 0 0, .string ⟨#[]⟩, .int .i64 0, .int .i64 0, .slice none 0 0, .int .i64 9] 0 w4
      have HBF := hid_intro (HBw.out.grown hg HBw.out.size (fun k e => by simp only [Option.some.injEq] at e; omega))
      simp only [StR.stL, Nat.zero_add, Nat.reduceAdd] at HBF
      clear hg rk rf
      go_wp2_with fail
      refine bodyPost_ret (v := .agg #[.slice none 0 0, .string ⟨#[]⟩, .int .i64 0, .int .i64 0, .slice none 0 0, .int .i64 9]) (by simp [results, Tryz.results41, go_sem, p0, p1, p2, p3, p4, p5]) rfl ⟨_, rfl, by rw [HE.out.1, HE.out.2.1, HE.out.2.2]; exact loO_of (dso_nil _ _), HBF.out⟩
  have HE := hid_intro (HGo.out.2.2.2 rfl hzz (by omega))
  have h30' : ¬ (30 : Int) ≤ (len : Int) := by omega
  have HNW : Hid (newD ds a m bl = (⟨a, m, (cc : Nat), clL G⟩ : D)) := hid_intro (by unfold newD; rw [hcc, hG0])
  rw [HNW.out] at HE
  obtain ⟨dB, hdB⟩ : ∃ z, z = w4.heap.size := ⟨_, rfl⟩
  have HD5 := BlkW.new w4 [.string a, .int .i64 m, .int .i64 (cc : Nat), .slice la1 n1 lc1] 28
  have HB5 : Below w4.heap.size w4 (w4.alloc (.cells #[.string a, .int .i64 m, .int .i64 (cc : Nat), .slice la1 n1 lc1] 28)) := (Below.refl _ _).alloc (Nat.le_refl _) _
  rw [← hdB] at HD5 HB5
  have HDB := hid_intro hdB
  replace HD5 := hid_intro HD5
  replace HB5 := hid_intro HB5
  clear hz hzz hdB
  rcases HWY.out with ⟨q1, q2⟩ | q1
  · have HLW : Hid (w.heap.size < W0.heap.size) := HLW0
    have HDW : Hid (¬ dB = w.heap.size) := hid_intro (by have := HR4.out.1.1; have := HDB.out; omega)
    have gsz4 : Hid (0 < 4) := hid_intro (by omega)
    have HDO : Hid (∀ u ∈ ([.string a, .int .i64 m, .int .i64 (cc : Nat), .slice la1 n1 lc1] : List Value), u.oneCell' = true) := hid_intro (by intro u hu; simp at hu; rcases hu with rfl | rfl | rfl | rfl <;> rfl)
    have sz1 : len + 1 ≤ maxLen := by unfold maxLen; omega
    have sz2 : (len + 1) * 56 ≤ 140737488355328 := by omega
    go_wp2_with fail
    rw [← HDB.out]
    obtain ⟨W5, hW5⟩ : ∃ z, z = w4.alloc (Obj.cells #[.string a, .int .i64 m, .int .i64 (cc : Nat), .slice la1 n1 lc1] 28) := ⟨_, rfl⟩
    have HD5 : Hid (BlkW dB [.string a, .int .i64 m, .int .i64 (cc : Nat), .slice la1 n1 lc1] W5) := hid_intro (by rw [hW5]; exact HD5.out)
    have HB5 : Hid (Below dB w4 W5) := hid_intro (by rw [hW5]; exact HB5.out)
    rw [← hW5]
    clear hW5
    have hb0 := (Below.refl W5.heap.size W5).drew
    have hB5 : Below w4.heap.size w4 W5 := by have := HB5.out; rw [HDB.out] at this; exact this
    have hB0 := (HB4.out.trans (hB5.mono HB4.out.size)).trans (hb0.mono (HB4.out.trans (hB5.mono HB4.out.size)).size)
    have hR0 := (HR4.out.below hB5).below hb0
    have hD0 := HD5.out.below hb0
    have hO0 := RowG.own_below (RowG.own_below HO4.out hB5) hb0
    have hlw : w.heap.size < W0.heap.size := HLW.out
    have HSD : Hid (∀ W, BlkW dB [.string a, .int .i64 m, .int .i64 (cc : Nat), .slice la1 n1 lc1] W → (fun W => dB < W.heap.size ∧ W.cell? ⟨dB, 0, none⟩ = some (.string a) ∧ W.cell? ⟨dB, 1, none⟩ = some (.int .i64 m) ∧ W.cell? ⟨dB, 2, none⟩ = some (.int .i64 (cc : Nat)) ∧ W.cell? ⟨dB, 3, none⟩ = some (.slice la1 n1 lc1)) W) := hid_intro (fun W h => ⟨h.1.1, h.1.2 0 (by simp), h.1.2 1 (by simp), h.1.2 2 (by simp), h.1.2 3 (by simp)⟩)
    clear hb0 hB5 HB4 HR4 HD5 HB5 HO4 HBw HWY HGo
    refine wp_region_held_drew (S := (fun W => dB < W.heap.size ∧ W.cell? ⟨dB, 0, none⟩ = some (.string a) ∧ W.cell? ⟨dB, 1, none⟩ = some (.int .i64 m) ∧ W.cell? ⟨dB, 2, none⟩ = some (.int .i64 (cc : Nat)) ∧ W.cell? ⟨dB, 3, none⟩ = some (.slice la1 n1 lc1))) (by kernel_rfl) (HSD.out _ hD0) (fun hHeld => ?_)
    generalize W5.drew = kd at *
    refine wpAnyH_take (i := 0) (oi := { dst := some 49, op := Op.move (Operand.tmp 0), type := 23, pos := "l09_ledger.go:135", after := #[], guard := none }) (v := ?_) rfl (by kernel_rfl) (by kernel_rfl) (by kernel_rfl) (fun _ _ _ h => h) (Or.inl ⟨by rfl, ?_⟩) (by assumption) ?_
    rotate_left
    · (intro w hSw; (try dsimp only at hSw); go_simp) <;> with_reducible rfl
    try simp only [Act.put, List.setIfInBounds_toArray, List.set_cons_zero, List.set_cons_succ]
    refine wpAnyH_take (i := 2) (oi := { dst := some 51, op := Op.load 28 (Operand.tmp 12), type := 28, pos := "l09_ledger.go:135", after := #[], guard := none }) (v := ?_) rfl (by kernel_rfl) (by kernel_rfl) (by kernel_rfl) (fun _ _ _ h => h) (Or.inl ⟨by rfl, ?_⟩) (by assumption) ?_
    rotate_left
    · (intro w hSw; (try dsimp only at hSw); go_simp) <;> with_reducible rfl
    try simp only [Act.put, List.setIfInBounds_toArray, List.set_cons_zero, List.set_cons_succ]
    refine wpAnyH_take (i := 5) (oi := { dst := some 54, op := Op.load 28 (Operand.tmp 12), type := 28, pos := "l09_ledger.go:135", after := #[], guard := none }) (v := ?_) rfl (by kernel_rfl) (by kernel_rfl) (by kernel_rfl) (fun _ _ _ h => h) (Or.inl ⟨by rfl, ?_⟩) (by assumption) ?_
    rotate_left
    · (intro w hSw; (try dsimp only at hSw); go_simp) <;> with_reducible rfl
    try simp only [Act.put, List.setIfInBounds_toArray, List.set_cons_zero, List.set_cons_succ]
    refine wpAnyH_ready (rs := [1, 3]) (by kernel_rfl) (by simp) ?_
    refine AllReadyH.cons (o := { dst := some 50, op := Op.call { callee := Callee.value (Operand.func 65), args := #[Operand.tmp 49], argTypes := #[23] }, type := 23, pos := "l09_ledger.go:135", after := #[{ on := 0, ground := Ground.data }], guard := none }) rfl (fun K hK => ?_) (AllReadyH.cons (o := { dst := some 52, op := Op.buildSlice 23 1 #[(0, Operand.tmp 51)], type := 23, pos := "l09_ledger.go:135", after := #[{ on := 2, ground := Ground.data }], guard := none }) rfl (fun K hK => ?_) AllReadyH.nil)
    · go_simp
      go_at_call 65
      refine (HCP.out _ hB0).mono ?_
      rintro e q1 ⟨vC, rfl, hds, hq1⟩
      try go_wp2_with fail
      have hlC : W0.heap.size ≤ kd.heap.size := hB0.size
      have hlR : w.heap.size < kd.heap.size := hR0.1.1
      have hlD : dB < kd.heap.size := hD0.1.1
      have hAp := hO0
      have hB1 := hB0.trans (hq1.mono hB0.size)
      have hR1 := hR0.below hq1
      have hD1 := hD0.below hq1
      have hO1 := RowG.own_below hO0 hq1
      obtain ⟨xs, x1, x2, x3, x4⟩ := hds
      have hap : ∀ x ∈ xs, Apt x ⟨(⟨a, m, (cc : Nat), clL G⟩ : D), la1, lc1⟩ := fun x hx b h1 h2 => by
        have p1 := ((x3 x hx).lt b h1).1
        have p2 := (hAp.lt b (show (Value.slice la1 n1 lc1).ownBlock = some b by rw [HN1.out]; exact h2)).2
        omega
      have hcb := fun k e => (x2.lt k e).1
      have hX1 := OwG.own_low x2 hlC
      have hY1 := fun x hx => OwG.own_low (x3 x hx) hlC
      clear hAp x2 x3
      have hk1 := HSD.out _ hD1
      refine hK.out _ _ hk1 (fun _ => ?_)
      clear hK K
      try simp only [Act.put, List.setIfInBounds_toArray, List.set_cons_zero, List.set_cons_succ]
      refine wpAnyH_ready (rs := [3]) (by kernel_rfl) (by simp) ?_
      refine AllReadyH.cons (o := { dst := some 52, op := Op.buildSlice 23 1 #[(0, Operand.tmp 51)], type := 23, pos := "l09_ledger.go:135", after := #[{ on := 2, ground := Ground.data }], guard := none }) rfl (fun K hK => ?_) AllReadyH.nil
      go_simp
      try go_wp2_with fail
      have hq2 : Below q1.heap.size q1 (q1.alloc (.cells #[.string a, .int .i64 m, .int .i64 (cc : Nat), .slice la1 n1 lc1] 28)) := (Below.refl _ _).alloc (Nat.le_refl _) _
      have hB2 := hB1.trans (hq2.mono hB1.size)
      have hR2 := hR1.below hq2
      have hD2 := hD1.below hq2
      have hO2 := RowG.own_below hO1 hq2
      have hX2 := RowG.own_below hX1 hq2
      have hY2 := fun x hx => RowG.own_below (hY1 x hx) hq2
      have hN2 := BlkW.new q1 [.string a, .int .i64 m, .int .i64 (cc : Nat), .slice la1 n1 lc1] 28
      have hk2 := HSD.out _ hD2
      refine hK.out _ _ hk2 (fun _ => ?_)
      clear hK K
      try simp only [Act.put, List.setIfInBounds_toArray, List.set_cons_zero, List.set_cons_succ]
      obtain ⟨nb, hnb⟩ : ∃ z, z = q1.heap.size := ⟨_, rfl⟩
      obtain ⟨k2, hke2⟩ : ∃ z, z = q1.alloc (Obj.cells #[.string a, .int .i64 m, .int .i64 (cc : Nat), .slice la1 n1 lc1] 28) := ⟨_, rfl⟩
      rw [← hnb] at hN2 ⊢
      have hlq : nb < k2.heap.size := by rw [hke2]; exact hN2.1.1
      rw [← hke2] at hB2
      rw [← hke2] at hR2
      rw [← hke2] at hD2
      rw [← hke2] at hO2
      rw [← hke2] at hN2
      rw [← hke2] at hk2
      rw [← hke2] at hX2
      simp only [← hke2] at hY2
      rw [← hke2]
      clear hq2 hke2 hnb
      refine wpAnyH_ready (rs := [4]) (by kernel_rfl) (by simp) ?_
      refine AllReadyH.cons (o := { dst := some 53, op := Op.call { callee := Callee.builtin Builtin.append, args := #[Operand.tmp 50, Operand.tmp 52], argTypes := #[23, 23] }, type := 23, pos := "l09_ledger.go:135", after := #[{ on := 1, ground := Ground.data }, { on := 3, ground := Ground.data }, { on := 1, ground := Ground.chain }], guard := none }) rfl (fun K hK => ?_) AllReadyH.nil
      have hnw := blk_add hN2
      have hx' := hX2
      rw [← HLN.out] at hx'
      refine LinR.step_append_own rfl _ _ 23 rfl W0.heap.size 28 i0 (.agg #[.string ⟨#[]⟩, .int .i64 0, .int .i64 0, .slice none 0 0]) 4 56 Tryz.underlying23 hi hz0 hz1 hz2 rfl gsz4.out _ _ _ rfl hx' ⟨nb, 0, none⟩ 1 1 [.string a, .int .i64 m, .int .i64 (cc : Nat), .slice la1 n1 lc1] rfl rfl hnw HDO.out sz1 sz2 (hB2.size) ?_
      intro v' q3 hown hgrow hne
      have hs := dso_snoc (d := (⟨a, m, (cc : Nat), clL G⟩ : D)) (la := la1) (lc := lc1) x1 hY2 x4 (by have := hO2; rw [HN1.out] at this; exact this) hap hX2 hgrow (by rw [← HLN.out, ← HN1.out]; exact hown)
      have hB3 := hB2.grown hgrow hB2.size (fun k e => (hX2.lt k e).1)
      have hR3 := OwG.blkW_grown hR2 hgrow (fun e => by have := hcb _ e.symm; omega)
      have hD3 := OwG.blkW_grown hD2 hgrow (fun e => by have := hcb _ e.symm; omega)
      obtain ⟨vo, vc, rfl, -⟩ := DsO.dcs (⟨_, hs.1, hs.2.1, hs.2.2.1, hs.2.2.2⟩ : DsO W0.heap.size v' (ds ++ [(⟨a, m, (cc : Nat), clL G⟩ : D)]) q3)
      obtain ⟨nd, hnd⟩ : ∃ z, z = (ds ++ [(⟨a, m, (cc : Nat), clL G⟩ : D)]).length := ⟨_, rfl⟩
      rw [← hnd] at hs ⊢
      have HND := hid_intro hnd
      clear hnd hown hgrow hne
      have hk3 := HSD.out _ hD3
      refine hK.out _ _ hk3 (fun _ => ?_)
      clear hK K
      try simp only [Act.put, List.setIfInBounds_toArray, List.set_cons_zero, List.set_cons_succ]
      refine wpAnyH_ready (rs := [6]) (by kernel_rfl) (by simp) ?_
      refine AllReadyH.cons (o := { dst := some 55, op := Op.call { callee := Callee.value (Operand.func 66), args := #[Operand.tmp 54], argTypes := #[28] }, type := 28, pos := "l09_ledger.go:135", after := #[{ on := 5, ground := Ground.data }, { on := 4, ground := Ground.chain }], guard := none }) rfl (fun K hK => ?_) AllReadyH.nil
      go_simp
      have hLi : Lis la1 (clL G) q3 := by
        have h := hs.2.2.1 ⟨(⟨a, m, (cc : Nat), clL G⟩ : D), la1, lc1⟩ (by simp)
        obtain ⟨_, _, e', hm⟩ := own_made (z := N.zero) N.len h
        cases e'
        exact hm.rws
      have HSC := hid_intro (sdoc (⟨a, m, (cc : Nat), clL G⟩ : D) la1 lc1 q3 (by have := HN1.out; dsimp only; omega) hLi)
      rw [show (⟨a, m, (cc : Nat), clL G⟩ : D).ls.length = n1 from HN1.out.symm] at HSC
      go_at_call 66
      refine HSC.out.mono ?_
      rintro e q4 ⟨co, cc2, rfl, hcp, hq4⟩
      try go_wp2_with fail
      have hB4 := hB3.trans (hq4.mono hB3.size)
      have hR4 := hR3.below hq4
      have hD4 := hD3.below hq4
      have hlq0 : W0.heap.size ≤ q3.heap.size := hB3.size
      have hk4 := HSD.out _ hD4
      refine hK.out _ _ hk4 (fun _ => ?_)
      clear hK K
      try simp only [Act.put, List.setIfInBounds_toArray, List.set_cons_zero, List.set_cons_succ]
      refine wpAnyH_take (i := 7) (oi := { dst := some 56, op := Op.build 30 #[(0, Operand.tmp 53), (1, Operand.tmp 55)], type := 30, pos := "l09_ledger.go:135", after := #[{ on := 4, ground := Ground.data }, { on := 6, ground := Ground.data }], guard := none }) (v := ?_) rfl (by kernel_rfl) (by kernel_rfl) (by kernel_rfl) (fun _ _ _ h => h) (Or.inl ⟨by rfl, ?_⟩) (by assumption) ?_
      rotate_left
      · (intro w hSw; (try dsimp only at hSw); go_simp) <;> with_reducible rfl
      try simp only [Act.put, List.setIfInBounds_toArray, List.set_cons_zero, List.set_cons_succ]
      refine wpAnyH_ready (rs := [8]) (by kernel_rfl) (by simp) ?_
      refine AllReadyH.cons (o := { dst := none, op := Op.store 30 (Operand.tmp 8) (Operand.tmp 56), type := 0, pos := "l09_ledger.go:135", after := #[{ on := 7, ground := Ground.data }, { on := 6, ground := Ground.chain }, { on := 0, ground := Ground.phase }, { on := 1, ground := Ground.phase }, { on := 2, ground := Ground.phase }, { on := 3, ground := Ground.phase }, { on := 4, ground := Ground.phase }, { on := 5, ground := Ground.phase }, { on := 6, ground := Ground.phase }, { on := 7, ground := Ground.phase }], guard := none }) rfl (fun K hK => ?_) AllReadyH.nil
      have hRx := hR4
      obtain ⟨⟨rl, rk⟩, rf⟩ := hRx
      have p0 : q4.cell? ⟨w.heap.size, 0, none⟩ = some (.slice none 0 0) := rk 0 (by simp)
      have f0 : q4.frozen? ⟨w.heap.size, 0, none⟩ = false := rf 0 (by simp)
      have p1 : q4.cell? ⟨w.heap.size, 1, none⟩ = some (.string ⟨#[]⟩) := rk 1 (by simp)
      have f1 : q4.frozen? ⟨w.heap.size, 1, none⟩ = false := rf 1 (by simp)
      have p2 : q4.cell? ⟨w.heap.size, 2, none⟩ = some (.int .i64 0) := rk 2 (by simp)
      have f2 : q4.frozen? ⟨w.heap.size, 2, none⟩ = false := rf 2 (by simp)
      have p3 : q4.cell? ⟨w.heap.size, 3, none⟩ = some (.int .i64 0) := rk 3 (by simp)
      have f3 : q4.frozen? ⟨w.heap.size, 3, none⟩ = false := rf 3 (by simp)
      have p4 : q4.cell? ⟨w.heap.size, 4, none⟩ = some (.slice none 0 0) := rk 4 (by simp)
      have f4 : q4.frozen? ⟨w.heap.size, 4, none⟩ = false := rf 4 (by simp)
      have p5 : q4.cell? ⟨w.heap.size, 5, none⟩ = some (.int .i64 0) := rk 5 (by simp)
      have f5 : q4.frozen? ⟨w.heap.size, 5, none⟩ = false := rf 5 (by simp)
      clear rk rf
      go_simp
      try go_wp2_with fail
      have hgr := StR.stL_grown w.heap.size [.slice vo nd vc, .string a, .int .i64 m, .int .i64 (cc : Nat), .slice co n1 cc2, .int .i64 0] 0 q4
      have hBF := (HB0.out.trans (hB4.mono HB0.out.size)).grown hgr (HB0.out.trans (hB4.mono HB0.out.size)).size (fun k e => by simp only [Option.some.injEq] at e; omega)
      have hDF := OwG.blkW_grown hD4 hgr (by simp; exact HDW.out)
      have hRF := OwG.stL_blkW hR4 (show ([.slice none 0 0, .string ⟨#[]⟩, .int .i64 0, .int .i64 0, .slice none 0 0, .int .i64 0] : List Value).length = [.slice vo nd vc, .string a, .int .i64 m, .int .i64 (cc : Nat), .slice co n1 cc2, .int .i64 0].length from rfl)
      simp only [StR.stL, Nat.zero_add, Nat.reduceAdd] at hBF hDF hRF hgr
      have hk5 := HSD.out _ hDF
      refine hK.out _ _ hk5 (fun _ => ?_)
      clear hK K
      try simp only [Act.put, List.setIfInBounds_toArray, List.set_cons_zero, List.set_cons_succ]
      refine wpAnyH_done (by kernel_rfl) ?_ _
      have HLo : Hid (LoO w.heap.size (.agg #[.slice vo nd vc, .string a, .int .i64 m, .int .i64 (cc : Nat), .slice co n1 cc2, .int .i64 0]) (ds ++ [(⟨a, m, (cc : Nat), clL G⟩ : D)]) (⟨a, m, (cc : Nat), clL G⟩ : D) 0 ((((((q4.setCell ⟨w.heap.size, 0, none⟩ (.slice vo nd vc)).setCell ⟨w.heap.size, 1, none⟩ (.string a)).setCell ⟨w.heap.size, 2, none⟩ (.int .i64 m)).setCell ⟨w.heap.size, 3, none⟩ (.int .i64 (cc : Nat))).setCell ⟨w.heap.size, 4, none⟩ (.slice co n1 cc2)).setCell ⟨w.heap.size, 5, none⟩ (.int .i64 0))) := hid_intro (by
        have e1 := HN1.out
        have e2 := HND.out
        subst e1
        subst e2
        exact lo_fin (d := (⟨a, m, (cc : Nat), clL G⟩ : D)) hlw hs.1 hs.2.1 hs.2.2.1 hs.2.2.2 hq4 hcp hlq0 hgr)
      have HBF := hid_intro hBF
      obtain ⟨⟨zl, zk⟩, -⟩ := hRF
      clear hgr hs hcp hBF hDF
      generalize ((((((q4.setCell ⟨w.heap.size, 0, none⟩ (.slice vo nd vc)).setCell ⟨w.heap.size, 1, none⟩ (.string a)).setCell ⟨w.heap.size, 2, none⟩ (.int .i64 m)).setCell ⟨w.heap.size, 3, none⟩ (.int .i64 (cc : Nat))).setCell ⟨w.heap.size, 4, none⟩ (.slice co n1 cc2)).setCell ⟨w.heap.size, 5, none⟩ (.int .i64 0)) = WF at *
      have z0 : WF.cell? ⟨w.heap.size, 0, none⟩ = some (.slice vo nd vc) := zk 0 (by simp)
      have z1 : WF.cell? ⟨w.heap.size, 1, none⟩ = some (.string a) := zk 1 (by simp)
      have z2 : WF.cell? ⟨w.heap.size, 2, none⟩ = some (.int .i64 m) := zk 2 (by simp)
      have z3 : WF.cell? ⟨w.heap.size, 3, none⟩ = some (.int .i64 (cc : Nat)) := zk 3 (by simp)
      have z4 : WF.cell? ⟨w.heap.size, 4, none⟩ = some (.slice co n1 cc2) := zk 4 (by simp)
      have z5 : WF.cell? ⟨w.heap.size, 5, none⟩ = some (.int .i64 0) := zk 5 (by simp)
      clear zk
      go_wp2_with fail
      refine bodyPost_ret (v := .agg #[.slice vo nd vc, .string a, .int .i64 m, .int .i64 (cc : Nat), .slice co n1 cc2, .int .i64 0]) (by simp [results, Tryz.results41, go_sem, z0, z1, z2, z3, z4, z5]) rfl ⟨_, rfl, by rw [HE.out.1, HE.out.2.1, HE.out.2.2]; exact HLo.out, HBF.out⟩
    · go_simp
      try go_wp2_with fail
      have hq1 : Below kd.heap.size kd (kd.alloc (.cells #[.string a, .int .i64 m, .int .i64 (cc : Nat), .slice la1 n1 lc1] 28)) := (Below.refl _ _).alloc (Nat.le_refl _) _
      have hB1 := hB0.trans (hq1.mono hB0.size)
      have hR1 := hR0.below hq1
      have hD1 := hD0.below hq1
      have hO1 := RowG.own_below hO0 hq1
      have hN1 := BlkW.new kd [.string a, .int .i64 m, .int .i64 (cc : Nat), .slice la1 n1 lc1] 28
      have hk1 := HSD.out _ hD1
      refine hK.out _ _ hk1 (fun _ => ?_)
      clear hK K
      try simp only [Act.put, List.setIfInBounds_toArray, List.set_cons_zero, List.set_cons_succ]
      obtain ⟨nb, hnb⟩ : ∃ z, z = kd.heap.size := ⟨_, rfl⟩
      obtain ⟨k1, hke1⟩ : ∃ z, z = kd.alloc (Obj.cells #[.string a, .int .i64 m, .int .i64 (cc : Nat), .slice la1 n1 lc1] 28) := ⟨_, rfl⟩
      rw [← hnb] at hN1 ⊢
      have hlq : nb < k1.heap.size := by rw [hke1]; exact hN1.1.1
      rw [← hke1] at hB1
      rw [← hke1] at hR1
      rw [← hke1] at hD1
      rw [← hke1] at hO1
      rw [← hke1] at hN1
      rw [← hke1] at hk1
      rw [← hke1]
      clear hq1 hke1 hnb
      refine wpAnyH_ready (rs := [1]) (by kernel_rfl) (by simp) ?_
      refine AllReadyH.cons (o := { dst := some 50, op := Op.call { callee := Callee.value (Operand.func 65), args := #[Operand.tmp 49], argTypes := #[23] }, type := 23, pos := "l09_ledger.go:135", after := #[{ on := 0, ground := Ground.data }], guard := none }) rfl (fun K hK => ?_) AllReadyH.nil
      go_simp
      go_at_call 65
      refine (HCP.out _ hB1).mono ?_
      rintro e q2 ⟨vC, rfl, hds, hq2⟩
      try go_wp2_with fail
      have hlC : W0.heap.size ≤ k1.heap.size := hB1.size
      have hlR : w.heap.size < k1.heap.size := hR1.1.1
      have hlD : dB < k1.heap.size := hD1.1.1
      have hAp := hO1
      have hlN : nb < k1.heap.size := hN1.1.1
      have hB2 := hB1.trans (hq2.mono hB1.size)
      have hR2 := hR1.below hq2
      have hD2 := hD1.below hq2
      have hO2 := RowG.own_below hO1 hq2
      have hN2 := hN1.below hq2
      obtain ⟨xs, x1, x2, x3, x4⟩ := hds
      have hap : ∀ x ∈ xs, Apt x ⟨(⟨a, m, (cc : Nat), clL G⟩ : D), la1, lc1⟩ := fun x hx b h1 h2 => by
        have p1 := ((x3 x hx).lt b h1).1
        have p2 := (hAp.lt b (show (Value.slice la1 n1 lc1).ownBlock = some b by rw [HN1.out]; exact h2)).2
        omega
      have hcb := fun k e => (x2.lt k e).1
      have hX2 := OwG.own_low x2 hlC
      have hY2 := fun x hx => OwG.own_low (x3 x hx) hlC
      clear hAp x2 x3
      have hk2 := HSD.out _ hD2
      refine hK.out _ _ hk2 (fun _ => ?_)
      clear hK K
      try simp only [Act.put, List.setIfInBounds_toArray, List.set_cons_zero, List.set_cons_succ]
      refine wpAnyH_ready (rs := [4]) (by kernel_rfl) (by simp) ?_
      refine AllReadyH.cons (o := { dst := some 53, op := Op.call { callee := Callee.builtin Builtin.append, args := #[Operand.tmp 50, Operand.tmp 52], argTypes := #[23, 23] }, type := 23, pos := "l09_ledger.go:135", after := #[{ on := 1, ground := Ground.data }, { on := 3, ground := Ground.data }, { on := 1, ground := Ground.chain }], guard := none }) rfl (fun K hK => ?_) AllReadyH.nil
      have hnw := blk_add hN2
      have hx' := hX2
      rw [← HLN.out] at hx'
      refine LinR.step_append_own rfl _ _ 23 rfl W0.heap.size 28 i0 (.agg #[.string ⟨#[]⟩, .int .i64 0, .int .i64 0, .slice none 0 0]) 4 56 Tryz.underlying23 hi hz0 hz1 hz2 rfl gsz4.out _ _ _ rfl hx' ⟨nb, 0, none⟩ 1 1 [.string a, .int .i64 m, .int .i64 (cc : Nat), .slice la1 n1 lc1] rfl rfl hnw HDO.out sz1 sz2 (hB2.size) ?_
      intro v' q3 hown hgrow hne
      have hs := dso_snoc (d := (⟨a, m, (cc : Nat), clL G⟩ : D)) (la := la1) (lc := lc1) x1 hY2 x4 (by have := hO2; rw [HN1.out] at this; exact this) hap hX2 hgrow (by rw [← HLN.out, ← HN1.out]; exact hown)
      have hB3 := hB2.grown hgrow hB2.size (fun k e => (hX2.lt k e).1)
      have hR3 := OwG.blkW_grown hR2 hgrow (fun e => by have := hcb _ e.symm; omega)
      have hD3 := OwG.blkW_grown hD2 hgrow (fun e => by have := hcb _ e.symm; omega)
      obtain ⟨vo, vc, rfl, -⟩ := DsO.dcs (⟨_, hs.1, hs.2.1, hs.2.2.1, hs.2.2.2⟩ : DsO W0.heap.size v' (ds ++ [(⟨a, m, (cc : Nat), clL G⟩ : D)]) q3)
      obtain ⟨nd, hnd⟩ : ∃ z, z = (ds ++ [(⟨a, m, (cc : Nat), clL G⟩ : D)]).length := ⟨_, rfl⟩
      rw [← hnd] at hs ⊢
      have HND := hid_intro hnd
      clear hnd hown hgrow hne
      have hk3 := HSD.out _ hD3
      refine hK.out _ _ hk3 (fun _ => ?_)
      clear hK K
      try simp only [Act.put, List.setIfInBounds_toArray, List.set_cons_zero, List.set_cons_succ]
      refine wpAnyH_ready (rs := [6]) (by kernel_rfl) (by simp) ?_
      refine AllReadyH.cons (o := { dst := some 55, op := Op.call { callee := Callee.value (Operand.func 66), args := #[Operand.tmp 54], argTypes := #[28] }, type := 28, pos := "l09_ledger.go:135", after := #[{ on := 5, ground := Ground.data }, { on := 4, ground := Ground.chain }], guard := none }) rfl (fun K hK => ?_) AllReadyH.nil
      go_simp
      have hLi : Lis la1 (clL G) q3 := by
        have h := hs.2.2.1 ⟨(⟨a, m, (cc : Nat), clL G⟩ : D), la1, lc1⟩ (by simp)
        obtain ⟨_, _, e', hm⟩ := own_made (z := N.zero) N.len h
        cases e'
        exact hm.rws
      have HSC := hid_intro (sdoc (⟨a, m, (cc : Nat), clL G⟩ : D) la1 lc1 q3 (by have := HN1.out; dsimp only; omega) hLi)
      rw [show (⟨a, m, (cc : Nat), clL G⟩ : D).ls.length = n1 from HN1.out.symm] at HSC
      go_at_call 66
      refine HSC.out.mono ?_
      rintro e q4 ⟨co, cc2, rfl, hcp, hq4⟩
      try go_wp2_with fail
      have hB4 := hB3.trans (hq4.mono hB3.size)
      have hR4 := hR3.below hq4
      have hD4 := hD3.below hq4
      have hlq0 : W0.heap.size ≤ q3.heap.size := hB3.size
      have hk4 := HSD.out _ hD4
      refine hK.out _ _ hk4 (fun _ => ?_)
      clear hK K
      try simp only [Act.put, List.setIfInBounds_toArray, List.set_cons_zero, List.set_cons_succ]
      refine wpAnyH_take (i := 7) (oi := { dst := some 56, op := Op.build 30 #[(0, Operand.tmp 53), (1, Operand.tmp 55)], type := 30, pos := "l09_ledger.go:135", after := #[{ on := 4, ground := Ground.data }, { on := 6, ground := Ground.data }], guard := none }) (v := ?_) rfl (by kernel_rfl) (by kernel_rfl) (by kernel_rfl) (fun _ _ _ h => h) (Or.inl ⟨by rfl, ?_⟩) (by assumption) ?_
      rotate_left
      · (intro w hSw; (try dsimp only at hSw); go_simp) <;> with_reducible rfl
      try simp only [Act.put, List.setIfInBounds_toArray, List.set_cons_zero, List.set_cons_succ]
      refine wpAnyH_ready (rs := [8]) (by kernel_rfl) (by simp) ?_
      refine AllReadyH.cons (o := { dst := none, op := Op.store 30 (Operand.tmp 8) (Operand.tmp 56), type := 0, pos := "l09_ledger.go:135", after := #[{ on := 7, ground := Ground.data }, { on := 6, ground := Ground.chain }, { on := 0, ground := Ground.phase }, { on := 1, ground := Ground.phase }, { on := 2, ground := Ground.phase }, { on := 3, ground := Ground.phase }, { on := 4, ground := Ground.phase }, { on := 5, ground := Ground.phase }, { on := 6, ground := Ground.phase }, { on := 7, ground := Ground.phase }], guard := none }) rfl (fun K hK => ?_) AllReadyH.nil
      have hRx := hR4
      obtain ⟨⟨rl, rk⟩, rf⟩ := hRx
      have p0 : q4.cell? ⟨w.heap.size, 0, none⟩ = some (.slice none 0 0) := rk 0 (by simp)
      have f0 : q4.frozen? ⟨w.heap.size, 0, none⟩ = false := rf 0 (by simp)
      have p1 : q4.cell? ⟨w.heap.size, 1, none⟩ = some (.string ⟨#[]⟩) := rk 1 (by simp)
      have f1 : q4.frozen? ⟨w.heap.size, 1, none⟩ = false := rf 1 (by simp)
      have p2 : q4.cell? ⟨w.heap.size, 2, none⟩ = some (.int .i64 0) := rk 2 (by simp)
      have f2 : q4.frozen? ⟨w.heap.size, 2, none⟩ = false := rf 2 (by simp)
      have p3 : q4.cell? ⟨w.heap.size, 3, none⟩ = some (.int .i64 0) := rk 3 (by simp)
      have f3 : q4.frozen? ⟨w.heap.size, 3, none⟩ = false := rf 3 (by simp)
      have p4 : q4.cell? ⟨w.heap.size, 4, none⟩ = some (.slice none 0 0) := rk 4 (by simp)
      have f4 : q4.frozen? ⟨w.heap.size, 4, none⟩ = false := rf 4 (by simp)
      have p5 : q4.cell? ⟨w.heap.size, 5, none⟩ = some (.int .i64 0) := rk 5 (by simp)
      have f5 : q4.frozen? ⟨w.heap.size, 5, none⟩ = false := rf 5 (by simp)
      clear rk rf
      go_simp
      try go_wp2_with fail
      have hgr := StR.stL_grown w.heap.size [.slice vo nd vc, .string a, .int .i64 m, .int .i64 (cc : Nat), .slice co n1 cc2, .int .i64 0] 0 q4
      have hBF := (HB0.out.trans (hB4.mono HB0.out.size)).grown hgr (HB0.out.trans (hB4.mono HB0.out.size)).size (fun k e => by simp only [Option.some.injEq] at e; omega)
      have hDF := OwG.blkW_grown hD4 hgr (by simp; exact HDW.out)
      have hRF := OwG.stL_blkW hR4 (show ([.slice none 0 0, .string ⟨#[]⟩, .int .i64 0, .int .i64 0, .slice none 0 0, .int .i64 0] : List Value).length = [.slice vo nd vc, .string a, .int .i64 m, .int .i64 (cc : Nat), .slice co n1 cc2, .int .i64 0].length from rfl)
      simp only [StR.stL, Nat.zero_add, Nat.reduceAdd] at hBF hDF hRF hgr
      have hk5 := HSD.out _ hDF
      refine hK.out _ _ hk5 (fun _ => ?_)
      clear hK K
      try simp only [Act.put, List.setIfInBounds_toArray, List.set_cons_zero, List.set_cons_succ]
      refine wpAnyH_done (by kernel_rfl) ?_ _
      have HLo : Hid (LoO w.heap.size (.agg #[.slice vo nd vc, .string a, .int .i64 m, .int .i64 (cc : Nat), .slice co n1 cc2, .int .i64 0]) (ds ++ [(⟨a, m, (cc : Nat), clL G⟩ : D)]) (⟨a, m, (cc : Nat), clL G⟩ : D) 0 ((((((q4.setCell ⟨w.heap.size, 0, none⟩ (.slice vo nd vc)).setCell ⟨w.heap.size, 1, none⟩ (.string a)).setCell ⟨w.heap.size, 2, none⟩ (.int .i64 m)).setCell ⟨w.heap.size, 3, none⟩ (.int .i64 (cc : Nat))).setCell ⟨w.heap.size, 4, none⟩ (.slice co n1 cc2)).setCell ⟨w.heap.size, 5, none⟩ (.int .i64 0))) := hid_intro (by
        have e1 := HN1.out
        have e2 := HND.out
        subst e1
        subst e2
        exact lo_fin (d := (⟨a, m, (cc : Nat), clL G⟩ : D)) hlw hs.1 hs.2.1 hs.2.2.1 hs.2.2.2 hq4 hcp hlq0 hgr)
      have HBF := hid_intro hBF
      obtain ⟨⟨zl, zk⟩, -⟩ := hRF
      clear hgr hs hcp hBF hDF
      generalize ((((((q4.setCell ⟨w.heap.size, 0, none⟩ (.slice vo nd vc)).setCell ⟨w.heap.size, 1, none⟩ (.string a)).setCell ⟨w.heap.size, 2, none⟩ (.int .i64 m)).setCell ⟨w.heap.size, 3, none⟩ (.int .i64 (cc : Nat))).setCell ⟨w.heap.size, 4, none⟩ (.slice co n1 cc2)).setCell ⟨w.heap.size, 5, none⟩ (.int .i64 0)) = WF at *
      have z0 : WF.cell? ⟨w.heap.size, 0, none⟩ = some (.slice vo nd vc) := zk 0 (by simp)
      have z1 : WF.cell? ⟨w.heap.size, 1, none⟩ = some (.string a) := zk 1 (by simp)
      have z2 : WF.cell? ⟨w.heap.size, 2, none⟩ = some (.int .i64 m) := zk 2 (by simp)
      have z3 : WF.cell? ⟨w.heap.size, 3, none⟩ = some (.int .i64 (cc : Nat)) := zk 3 (by simp)
      have z4 : WF.cell? ⟨w.heap.size, 4, none⟩ = some (.slice co n1 cc2) := zk 4 (by simp)
      have z5 : WF.cell? ⟨w.heap.size, 5, none⟩ = some (.int .i64 0) := zk 5 (by simp)
      clear zk
      go_wp2_with fail
      refine bodyPost_ret (v := .agg #[.slice vo nd vc, .string a, .int .i64 m, .int .i64 (cc : Nat), .slice co n1 cc2, .int .i64 0]) (by simp [results, Tryz.results41, go_sem, z0, z1, z2, z3, z4, z5]) rfl ⟨_, rfl, by rw [HE.out.1, HE.out.2.1, HE.out.2.2]; exact HLo.out, HBF.out⟩
  · have HLW : Hid (w.heap.size < W0.heap.size) := HLW0
    have HDW : Hid (¬ dB = w.heap.size) := hid_intro (by have := HR4.out.1.1; have := HDB.out; omega)
    have gsz4 : Hid (0 < 4) := hid_intro (by omega)
    have HDO : Hid (∀ u ∈ ([.string a, .int .i64 m, .int .i64 (cc : Nat), .slice la1 n1 lc1] : List Value), u.oneCell' = true) := hid_intro (by intro u hu; simp at hu; rcases hu with rfl | rfl | rfl | rfl <;> rfl)
    have sz1 : len + 1 ≤ maxLen := by unfold maxLen; omega
    have sz2 : (len + 1) * 56 ≤ 140737488355328 := by omega
    go_wp2_with fail
    rw [← HDB.out]
    obtain ⟨W5, hW5⟩ : ∃ z, z = w4.alloc (Obj.cells #[.string a, .int .i64 m, .int .i64 (cc : Nat), .slice la1 n1 lc1] 28) := ⟨_, rfl⟩
    have HD5 : Hid (BlkW dB [.string a, .int .i64 m, .int .i64 (cc : Nat), .slice la1 n1 lc1] W5) := hid_intro (by rw [hW5]; exact HD5.out)
    have HB5 : Hid (Below dB w4 W5) := hid_intro (by rw [hW5]; exact HB5.out)
    rw [← hW5]
    clear hW5
    have hb0 := (Below.refl W5.heap.size W5).drew
    have hB5 : Below w4.heap.size w4 W5 := by have := HB5.out; rw [HDB.out] at this; exact this
    have hB0 := (HB4.out.trans (hB5.mono HB4.out.size)).trans (hb0.mono (HB4.out.trans (hB5.mono HB4.out.size)).size)
    have hR0 := (HR4.out.below hB5).below hb0
    have hD0 := HD5.out.below hb0
    have hO0 := RowG.own_below (RowG.own_below HO4.out hB5) hb0
    have hlw : w.heap.size < W0.heap.size := HLW.out
    have HSD : Hid (∀ W, BlkW dB [.string a, .int .i64 m, .int .i64 (cc : Nat), .slice la1 n1 lc1] W → (fun W => dB < W.heap.size ∧ W.cell? ⟨dB, 0, none⟩ = some (.string a) ∧ W.cell? ⟨dB, 1, none⟩ = some (.int .i64 m) ∧ W.cell? ⟨dB, 2, none⟩ = some (.int .i64 (cc : Nat)) ∧ W.cell? ⟨dB, 3, none⟩ = some (.slice la1 n1 lc1)) W) := hid_intro (fun W h => ⟨h.1.1, h.1.2 0 (by simp), h.1.2 1 (by simp), h.1.2 2 (by simp), h.1.2 3 (by simp)⟩)
    clear hb0 hB5 HB4 HR4 HD5 HB5 HO4 HBw HWY HGo
    refine wp_region_held_drew (S := (fun W => dB < W.heap.size ∧ W.cell? ⟨dB, 0, none⟩ = some (.string a) ∧ W.cell? ⟨dB, 1, none⟩ = some (.int .i64 m) ∧ W.cell? ⟨dB, 2, none⟩ = some (.int .i64 (cc : Nat)) ∧ W.cell? ⟨dB, 3, none⟩ = some (.slice la1 n1 lc1))) (by kernel_rfl) (HSD.out _ hD0) (fun hHeld => ?_)
    generalize W5.drew = kd at *
    refine wpAnyH_take (i := 0) (oi := { dst := some 49, op := Op.move (Operand.tmp 0), type := 23, pos := "l09_ledger.go:135", after := #[], guard := none }) (v := ?_) rfl (by kernel_rfl) (by kernel_rfl) (by kernel_rfl) (fun _ _ _ h => h) (Or.inl ⟨by rfl, ?_⟩) (by assumption) ?_
    rotate_left
    · (intro w hSw; (try dsimp only at hSw); go_simp) <;> with_reducible rfl
    try simp only [Act.put, List.setIfInBounds_toArray, List.set_cons_zero, List.set_cons_succ]
    refine wpAnyH_take (i := 2) (oi := { dst := some 51, op := Op.load 28 (Operand.tmp 12), type := 28, pos := "l09_ledger.go:135", after := #[], guard := none }) (v := ?_) rfl (by kernel_rfl) (by kernel_rfl) (by kernel_rfl) (fun _ _ _ h => h) (Or.inl ⟨by rfl, ?_⟩) (by assumption) ?_
    rotate_left
    · (intro w hSw; (try dsimp only at hSw); go_simp) <;> with_reducible rfl
    try simp only [Act.put, List.setIfInBounds_toArray, List.set_cons_zero, List.set_cons_succ]
    refine wpAnyH_take (i := 5) (oi := { dst := some 54, op := Op.load 28 (Operand.tmp 12), type := 28, pos := "l09_ledger.go:135", after := #[], guard := none }) (v := ?_) rfl (by kernel_rfl) (by kernel_rfl) (by kernel_rfl) (fun _ _ _ h => h) (Or.inl ⟨by rfl, ?_⟩) (by assumption) ?_
    rotate_left
    · (intro w hSw; (try dsimp only at hSw); go_simp) <;> with_reducible rfl
    try simp only [Act.put, List.setIfInBounds_toArray, List.set_cons_zero, List.set_cons_succ]
    refine wpAnyH_ready (rs := [1, 3]) (by kernel_rfl) (by simp) ?_
    refine AllReadyH.cons (o := { dst := some 50, op := Op.call { callee := Callee.value (Operand.func 65), args := #[Operand.tmp 49], argTypes := #[23] }, type := 23, pos := "l09_ledger.go:135", after := #[{ on := 0, ground := Ground.data }], guard := none }) rfl (fun K hK => ?_) (AllReadyH.cons (o := { dst := some 52, op := Op.buildSlice 23 1 #[(0, Operand.tmp 51)], type := 23, pos := "l09_ledger.go:135", after := #[{ on := 2, ground := Ground.data }], guard := none }) rfl (fun K hK => ?_) AllReadyH.nil)
    · go_simp
      go_at_call 65
      refine (HCP.out _ hB0).mono ?_
      rintro e q1 ⟨vC, rfl, hds, hq1⟩
      try go_wp2_with fail
      have hlC : W0.heap.size ≤ kd.heap.size := hB0.size
      have hlR : w.heap.size < kd.heap.size := hR0.1.1
      have hlD : dB < kd.heap.size := hD0.1.1
      have hAp := hO0
      have hB1 := hB0.trans (hq1.mono hB0.size)
      have hR1 := hR0.below hq1
      have hD1 := hD0.below hq1
      have hO1 := RowG.own_below hO0 hq1
      obtain ⟨xs, x1, x2, x3, x4⟩ := hds
      have hap : ∀ x ∈ xs, Apt x ⟨(⟨a, m, (cc : Nat), clL G⟩ : D), la1, lc1⟩ := fun x hx b h1 h2 => by
        have p1 := ((x3 x hx).lt b h1).1
        have p2 := (hAp.lt b (show (Value.slice la1 n1 lc1).ownBlock = some b by rw [HN1.out]; exact h2)).2
        omega
      have hcb := fun k e => (x2.lt k e).1
      have hX1 := OwG.own_low x2 hlC
      have hY1 := fun x hx => OwG.own_low (x3 x hx) hlC
      clear hAp x2 x3
      have hk1 := HSD.out _ hD1
      refine hK.out _ _ hk1 (fun _ => ?_)
      clear hK K
      try simp only [Act.put, List.setIfInBounds_toArray, List.set_cons_zero, List.set_cons_succ]
      refine wpAnyH_ready (rs := [3]) (by kernel_rfl) (by simp) ?_
      refine AllReadyH.cons (o := { dst := some 52, op := Op.buildSlice 23 1 #[(0, Operand.tmp 51)], type := 23, pos := "l09_ledger.go:135", after := #[{ on := 2, ground := Ground.data }], guard := none }) rfl (fun K hK => ?_) AllReadyH.nil
      go_simp
      try go_wp2_with fail
      have hq2 : Below q1.heap.size q1 (q1.alloc (.cells #[.string a, .int .i64 m, .int .i64 (cc : Nat), .slice la1 n1 lc1] 28)) := (Below.refl _ _).alloc (Nat.le_refl _) _
      have hB2 := hB1.trans (hq2.mono hB1.size)
      have hR2 := hR1.below hq2
      have hD2 := hD1.below hq2
      have hO2 := RowG.own_below hO1 hq2
      have hX2 := RowG.own_below hX1 hq2
      have hY2 := fun x hx => RowG.own_below (hY1 x hx) hq2
      have hN2 := BlkW.new q1 [.string a, .int .i64 m, .int .i64 (cc : Nat), .slice la1 n1 lc1] 28
      have hk2 := HSD.out _ hD2
      refine hK.out _ _ hk2 (fun _ => ?_)
      clear hK K
      try simp only [Act.put, List.setIfInBounds_toArray, List.set_cons_zero, List.set_cons_succ]
      obtain ⟨nb, hnb⟩ : ∃ z, z = q1.heap.size := ⟨_, rfl⟩
      obtain ⟨k2, hke2⟩ : ∃ z, z = q1.alloc (Obj.cells #[.string a, .int .i64 m, .int .i64 (cc : Nat), .slice la1 n1 lc1] 28) := ⟨_, rfl⟩
      rw [← hnb] at hN2 ⊢
      have hlq : nb < k2.heap.size := by rw [hke2]; exact hN2.1.1
      rw [← hke2] at hB2
      rw [← hke2] at hR2
      rw [← hke2] at hD2
      rw [← hke2] at hO2
      rw [← hke2] at hN2
      rw [← hke2] at hk2
      rw [← hke2] at hX2
      simp only [← hke2] at hY2
      rw [← hke2]
      clear hq2 hke2 hnb
      refine wpAnyH_ready (rs := [4]) (by kernel_rfl) (by simp) ?_
      refine AllReadyH.cons (o := { dst := some 53, op := Op.call { callee := Callee.builtin Builtin.append, args := #[Operand.tmp 50, Operand.tmp 52], argTypes := #[23, 23] }, type := 23, pos := "l09_ledger.go:135", after := #[{ on := 1, ground := Ground.data }, { on := 3, ground := Ground.data }, { on := 1, ground := Ground.chain }], guard := none }) rfl (fun K hK => ?_) AllReadyH.nil
      have hnw := blk_add hN2
      have hx' := hX2
      rw [← HLN.out] at hx'
      refine LinR.step_append_own rfl _ _ 23 rfl W0.heap.size 28 i0 (.agg #[.string ⟨#[]⟩, .int .i64 0, .int .i64 0, .slice none 0 0]) 4 56 Tryz.underlying23 hi hz0 hz1 hz2 rfl gsz4.out _ _ _ rfl hx' ⟨nb, 0, none⟩ 1 1 [.string a, .int .i64 m, .int .i64 (cc : Nat), .slice la1 n1 lc1] rfl rfl hnw HDO.out sz1 sz2 (hB2.size) ?_
      intro v' q3 hown hgrow hne
      have hs := dso_snoc (d := (⟨a, m, (cc : Nat), clL G⟩ : D)) (la := la1) (lc := lc1) x1 hY2 x4 (by have := hO2; rw [HN1.out] at this; exact this) hap hX2 hgrow (by rw [← HLN.out, ← HN1.out]; exact hown)
      have hB3 := hB2.grown hgrow hB2.size (fun k e => (hX2.lt k e).1)
      have hR3 := OwG.blkW_grown hR2 hgrow (fun e => by have := hcb _ e.symm; omega)
      have hD3 := OwG.blkW_grown hD2 hgrow (fun e => by have := hcb _ e.symm; omega)
      obtain ⟨vo, vc, rfl, -⟩ := DsO.dcs (⟨_, hs.1, hs.2.1, hs.2.2.1, hs.2.2.2⟩ : DsO W0.heap.size v' (ds ++ [(⟨a, m, (cc : Nat), clL G⟩ : D)]) q3)
      obtain ⟨nd, hnd⟩ : ∃ z, z = (ds ++ [(⟨a, m, (cc : Nat), clL G⟩ : D)]).length := ⟨_, rfl⟩
      rw [← hnd] at hs ⊢
      have HND := hid_intro hnd
      clear hnd hown hgrow hne
      have hk3 := HSD.out _ hD3
      refine hK.out _ _ hk3 (fun _ => ?_)
      clear hK K
      try simp only [Act.put, List.setIfInBounds_toArray, List.set_cons_zero, List.set_cons_succ]
      refine wpAnyH_ready (rs := [6]) (by kernel_rfl) (by simp) ?_
      refine AllReadyH.cons (o := { dst := some 55, op := Op.call { callee := Callee.value (Operand.func 66), args := #[Operand.tmp 54], argTypes := #[28] }, type := 28, pos := "l09_ledger.go:135", after := #[{ on := 5, ground := Ground.data }, { on := 4, ground := Ground.chain }], guard := none }) rfl (fun K hK => ?_) AllReadyH.nil
      go_simp
      have hLi : Lis la1 (clL G) q3 := by
        have h := hs.2.2.1 ⟨(⟨a, m, (cc : Nat), clL G⟩ : D), la1, lc1⟩ (by simp)
        obtain ⟨_, _, e', hm⟩ := own_made (z := N.zero) N.len h
        cases e'
        exact hm.rws
      have HSC := hid_intro (sdoc (⟨a, m, (cc : Nat), clL G⟩ : D) la1 lc1 q3 (by have := HN1.out; dsimp only; omega) hLi)
      rw [show (⟨a, m, (cc : Nat), clL G⟩ : D).ls.length = n1 from HN1.out.symm] at HSC
      go_at_call 66
      refine HSC.out.mono ?_
      rintro e q4 ⟨co, cc2, rfl, hcp, hq4⟩
      try go_wp2_with fail
      have hB4 := hB3.trans (hq4.mono hB3.size)
      have hR4 := hR3.below hq4
      have hD4 := hD3.below hq4
      have hlq0 : W0.heap.size ≤ q3.heap.size := hB3.size
      have hk4 := HSD.out _ hD4
      refine hK.out _ _ hk4 (fun _ => ?_)
      clear hK K
      try simp only [Act.put, List.setIfInBounds_toArray, List.set_cons_zero, List.set_cons_succ]
      refine wpAnyH_take (i := 7) (oi := { dst := some 56, op := Op.build 30 #[(0, Operand.tmp 53), (1, Operand.tmp 55)], type := 30, pos := "l09_ledger.go:135", after := #[{ on := 4, ground := Ground.data }, { on := 6, ground := Ground.data }], guard := none }) (v := ?_) rfl (by kernel_rfl) (by kernel_rfl) (by kernel_rfl) (fun _ _ _ h => h) (Or.inl ⟨by rfl, ?_⟩) (by assumption) ?_
      rotate_left
      · (intro w hSw; (try dsimp only at hSw); go_simp) <;> with_reducible rfl
      try simp only [Act.put, List.setIfInBounds_toArray, List.set_cons_zero, List.set_cons_succ]
      refine wpAnyH_ready (rs := [8]) (by kernel_rfl) (by simp) ?_
      refine AllReadyH.cons (o := { dst := none, op := Op.store 30 (Operand.tmp 8) (Operand.tmp 56), type := 0, pos := "l09_ledger.go:135", after := #[{ on := 7, ground := Ground.data }, { on := 6, ground := Ground.chain }, { on := 0, ground := Ground.phase }, { on := 1, ground := Ground.phase }, { on := 2, ground := Ground.phase }, { on := 3, ground := Ground.phase }, { on := 4, ground := Ground.phase }, { on := 5, ground := Ground.phase }, { on := 6, ground := Ground.phase }, { on := 7, ground := Ground.phase }], guard := none }) rfl (fun K hK => ?_) AllReadyH.nil
      have hRx := hR4
      obtain ⟨⟨rl, rk⟩, rf⟩ := hRx
      have p0 : q4.cell? ⟨w.heap.size, 0, none⟩ = some (.slice none 0 0) := rk 0 (by simp)
      have f0 : q4.frozen? ⟨w.heap.size, 0, none⟩ = false := rf 0 (by simp)
      have p1 : q4.cell? ⟨w.heap.size, 1, none⟩ = some (.string ⟨#[]⟩) := rk 1 (by simp)
      have f1 : q4.frozen? ⟨w.heap.size, 1, none⟩ = false := rf 1 (by simp)
      have p2 : q4.cell? ⟨w.heap.size, 2, none⟩ = some (.int .i64 0) := rk 2 (by simp)
      have f2 : q4.frozen? ⟨w.heap.size, 2, none⟩ = false := rf 2 (by simp)
      have p3 : q4.cell? ⟨w.heap.size, 3, none⟩ = some (.int .i64 0) := rk 3 (by simp)
      have f3 : q4.frozen? ⟨w.heap.size, 3, none⟩ = false := rf 3 (by simp)
      have p4 : q4.cell? ⟨w.heap.size, 4, none⟩ = some (.slice none 0 0) := rk 4 (by simp)
      have f4 : q4.frozen? ⟨w.heap.size, 4, none⟩ = false := rf 4 (by simp)
      have p5 : q4.cell? ⟨w.heap.size, 5, none⟩ = some (.int .i64 0) := rk 5 (by simp)
      have f5 : q4.frozen? ⟨w.heap.size, 5, none⟩ = false := rf 5 (by simp)
      clear rk rf
      go_simp
      try go_wp2_with fail
      have hgr := StR.stL_grown w.heap.size [.slice vo nd vc, .string a, .int .i64 m, .int .i64 (cc : Nat), .slice co n1 cc2, .int .i64 0] 0 q4
      have hBF := (HB0.out.trans (hB4.mono HB0.out.size)).grown hgr (HB0.out.trans (hB4.mono HB0.out.size)).size (fun k e => by simp only [Option.some.injEq] at e; omega)
      have hDF := OwG.blkW_grown hD4 hgr (by simp; exact HDW.out)
      have hRF := OwG.stL_blkW hR4 (show ([.slice none 0 0, .string ⟨#[]⟩, .int .i64 0, .int .i64 0, .slice none 0 0, .int .i64 0] : List Value).length = [.slice vo nd vc, .string a, .int .i64 m, .int .i64 (cc : Nat), .slice co n1 cc2, .int .i64 0].length from rfl)
      simp only [StR.stL, Nat.zero_add, Nat.reduceAdd] at hBF hDF hRF hgr
      have hk5 := HSD.out _ hDF
      refine hK.out _ _ hk5 (fun _ => ?_)
      clear hK K
      try simp only [Act.put, List.setIfInBounds_toArray, List.set_cons_zero, List.set_cons_succ]
      refine wpAnyH_done (by kernel_rfl) ?_ _
      have HLo : Hid (LoO w.heap.size (.agg #[.slice vo nd vc, .string a, .int .i64 m, .int .i64 (cc : Nat), .slice co n1 cc2, .int .i64 0]) (ds ++ [(⟨a, m, (cc : Nat), clL G⟩ : D)]) (⟨a, m, (cc : Nat), clL G⟩ : D) 0 ((((((q4.setCell ⟨w.heap.size, 0, none⟩ (.slice vo nd vc)).setCell ⟨w.heap.size, 1, none⟩ (.string a)).setCell ⟨w.heap.size, 2, none⟩ (.int .i64 m)).setCell ⟨w.heap.size, 3, none⟩ (.int .i64 (cc : Nat))).setCell ⟨w.heap.size, 4, none⟩ (.slice co n1 cc2)).setCell ⟨w.heap.size, 5, none⟩ (.int .i64 0))) := hid_intro (by
        have e1 := HN1.out
        have e2 := HND.out
        subst e1
        subst e2
        exact lo_fin (d := (⟨a, m, (cc : Nat), clL G⟩ : D)) hlw hs.1 hs.2.1 hs.2.2.1 hs.2.2.2 hq4 hcp hlq0 hgr)
      have HBF := hid_intro hBF
      obtain ⟨⟨zl, zk⟩, -⟩ := hRF
      clear hgr hs hcp hBF hDF
      generalize ((((((q4.setCell ⟨w.heap.size, 0, none⟩ (.slice vo nd vc)).setCell ⟨w.heap.size, 1, none⟩ (.string a)).setCell ⟨w.heap.size, 2, none⟩ (.int .i64 m)).setCell ⟨w.heap.size, 3, none⟩ (.int .i64 (cc : Nat))).setCell ⟨w.heap.size, 4, none⟩ (.slice co n1 cc2)).setCell ⟨w.heap.size, 5, none⟩ (.int .i64 0)) = WF at *
      have z0 : WF.cell? ⟨w.heap.size, 0, none⟩ = some (.slice vo nd vc) := zk 0 (by simp)
      have z1 : WF.cell? ⟨w.heap.size, 1, none⟩ = some (.string a) := zk 1 (by simp)
      have z2 : WF.cell? ⟨w.heap.size, 2, none⟩ = some (.int .i64 m) := zk 2 (by simp)
      have z3 : WF.cell? ⟨w.heap.size, 3, none⟩ = some (.int .i64 (cc : Nat)) := zk 3 (by simp)
      have z4 : WF.cell? ⟨w.heap.size, 4, none⟩ = some (.slice co n1 cc2) := zk 4 (by simp)
      have z5 : WF.cell? ⟨w.heap.size, 5, none⟩ = some (.int .i64 0) := zk 5 (by simp)
      clear zk
      go_wp2_with fail
      refine bodyPost_ret (v := .agg #[.slice vo nd vc, .string a, .int .i64 m, .int .i64 (cc : Nat), .slice co n1 cc2, .int .i64 0]) (by simp [results, Tryz.results41, go_sem, z0, z1, z2, z3, z4, z5]) rfl ⟨_, rfl, by rw [HE.out.1, HE.out.2.1, HE.out.2.2]; exact HLo.out, HBF.out⟩
    · go_simp
      try go_wp2_with fail
      have hq1 : Below kd.heap.size kd (kd.alloc (.cells #[.string a, .int .i64 m, .int .i64 (cc : Nat), .slice la1 n1 lc1] 28)) := (Below.refl _ _).alloc (Nat.le_refl _) _
      have hB1 := hB0.trans (hq1.mono hB0.size)
      have hR1 := hR0.below hq1
      have hD1 := hD0.below hq1
      have hO1 := RowG.own_below hO0 hq1
      have hN1 := BlkW.new kd [.string a, .int .i64 m, .int .i64 (cc : Nat), .slice la1 n1 lc1] 28
      have hk1 := HSD.out _ hD1
      refine hK.out _ _ hk1 (fun _ => ?_)
      clear hK K
      try simp only [Act.put, List.setIfInBounds_toArray, List.set_cons_zero, List.set_cons_succ]
      obtain ⟨nb, hnb⟩ : ∃ z, z = kd.heap.size := ⟨_, rfl⟩
      obtain ⟨k1, hke1⟩ : ∃ z, z = kd.alloc (Obj.cells #[.string a, .int .i64 m, .int .i64 (cc : Nat), .slice la1 n1 lc1] 28) := ⟨_, rfl⟩
      rw [← hnb] at hN1 ⊢
      have hlq : nb < k1.heap.size := by rw [hke1]; exact hN1.1.1
      rw [← hke1] at hB1
      rw [← hke1] at hR1
      rw [← hke1] at hD1
      rw [← hke1] at hO1
      rw [← hke1] at hN1
      rw [← hke1] at hk1
      rw [← hke1]
      clear hq1 hke1 hnb
      refine wpAnyH_ready (rs := [1]) (by kernel_rfl) (by simp) ?_
      refine AllReadyH.cons (o := { dst := some 50, op := Op.call { callee := Callee.value (Operand.func 65), args := #[Operand.tmp 49], argTypes := #[23] }, type := 23, pos := "l09_ledger.go:135", after := #[{ on := 0, ground := Ground.data }], guard := none }) rfl (fun K hK => ?_) AllReadyH.nil
      go_simp
      go_at_call 65
      refine (HCP.out _ hB1).mono ?_
      rintro e q2 ⟨vC, rfl, hds, hq2⟩
      try go_wp2_with fail
      have hlC : W0.heap.size ≤ k1.heap.size := hB1.size
      have hlR : w.heap.size < k1.heap.size := hR1.1.1
      have hlD : dB < k1.heap.size := hD1.1.1
      have hAp := hO1
      have hlN : nb < k1.heap.size := hN1.1.1
      have hB2 := hB1.trans (hq2.mono hB1.size)
      have hR2 := hR1.below hq2
      have hD2 := hD1.below hq2
      have hO2 := RowG.own_below hO1 hq2
      have hN2 := hN1.below hq2
      obtain ⟨xs, x1, x2, x3, x4⟩ := hds
      have hap : ∀ x ∈ xs, Apt x ⟨(⟨a, m, (cc : Nat), clL G⟩ : D), la1, lc1⟩ := fun x hx b h1 h2 => by
        have p1 := ((x3 x hx).lt b h1).1
        have p2 := (hAp.lt b (show (Value.slice la1 n1 lc1).ownBlock = some b by rw [HN1.out]; exact h2)).2
        omega
      have hcb := fun k e => (x2.lt k e).1
      have hX2 := OwG.own_low x2 hlC
      have hY2 := fun x hx => OwG.own_low (x3 x hx) hlC
      clear hAp x2 x3
      have hk2 := HSD.out _ hD2
      refine hK.out _ _ hk2 (fun _ => ?_)
      clear hK K
      try simp only [Act.put, List.setIfInBounds_toArray, List.set_cons_zero, List.set_cons_succ]
      refine wpAnyH_ready (rs := [4]) (by kernel_rfl) (by simp) ?_
      refine AllReadyH.cons (o := { dst := some 53, op := Op.call { callee := Callee.builtin Builtin.append, args := #[Operand.tmp 50, Operand.tmp 52], argTypes := #[23, 23] }, type := 23, pos := "l09_ledger.go:135", after := #[{ on := 1, ground := Ground.data }, { on := 3, ground := Ground.data }, { on := 1, ground := Ground.chain }], guard := none }) rfl (fun K hK => ?_) AllReadyH.nil
      have hnw := blk_add hN2
      have hx' := hX2
      rw [← HLN.out] at hx'
      refine LinR.step_append_own rfl _ _ 23 rfl W0.heap.size 28 i0 (.agg #[.string ⟨#[]⟩, .int .i64 0, .int .i64 0, .slice none 0 0]) 4 56 Tryz.underlying23 hi hz0 hz1 hz2 rfl gsz4.out _ _ _ rfl hx' ⟨nb, 0, none⟩ 1 1 [.string a, .int .i64 m, .int .i64 (cc : Nat), .slice la1 n1 lc1] rfl rfl hnw HDO.out sz1 sz2 (hB2.size) ?_
      intro v' q3 hown hgrow hne
      have hs := dso_snoc (d := (⟨a, m, (cc : Nat), clL G⟩ : D)) (la := la1) (lc := lc1) x1 hY2 x4 (by have := hO2; rw [HN1.out] at this; exact this) hap hX2 hgrow (by rw [← HLN.out, ← HN1.out]; exact hown)
      have hB3 := hB2.grown hgrow hB2.size (fun k e => (hX2.lt k e).1)
      have hR3 := OwG.blkW_grown hR2 hgrow (fun e => by have := hcb _ e.symm; omega)
      have hD3 := OwG.blkW_grown hD2 hgrow (fun e => by have := hcb _ e.symm; omega)
      obtain ⟨vo, vc, rfl, -⟩ := DsO.dcs (⟨_, hs.1, hs.2.1, hs.2.2.1, hs.2.2.2⟩ : DsO W0.heap.size v' (ds ++ [(⟨a, m, (cc : Nat), clL G⟩ : D)]) q3)
      obtain ⟨nd, hnd⟩ : ∃ z, z = (ds ++ [(⟨a, m, (cc : Nat), clL G⟩ : D)]).length := ⟨_, rfl⟩
      rw [← hnd] at hs ⊢
      have HND := hid_intro hnd
      clear hnd hown hgrow hne
      have hk3 := HSD.out _ hD3
      refine hK.out _ _ hk3 (fun _ => ?_)
      clear hK K
      try simp only [Act.put, List.setIfInBounds_toArray, List.set_cons_zero, List.set_cons_succ]
      refine wpAnyH_ready (rs := [6]) (by kernel_rfl) (by simp) ?_
      refine AllReadyH.cons (o := { dst := some 55, op := Op.call { callee := Callee.value (Operand.func 66), args := #[Operand.tmp 54], argTypes := #[28] }, type := 28, pos := "l09_ledger.go:135", after := #[{ on := 5, ground := Ground.data }, { on := 4, ground := Ground.chain }], guard := none }) rfl (fun K hK => ?_) AllReadyH.nil
      go_simp
      have hLi : Lis la1 (clL G) q3 := by
        have h := hs.2.2.1 ⟨(⟨a, m, (cc : Nat), clL G⟩ : D), la1, lc1⟩ (by simp)
        obtain ⟨_, _, e', hm⟩ := own_made (z := N.zero) N.len h
        cases e'
        exact hm.rws
      have HSC := hid_intro (sdoc (⟨a, m, (cc : Nat), clL G⟩ : D) la1 lc1 q3 (by have := HN1.out; dsimp only; omega) hLi)
      rw [show (⟨a, m, (cc : Nat), clL G⟩ : D).ls.length = n1 from HN1.out.symm] at HSC
      go_at_call 66
      refine HSC.out.mono ?_
      rintro e q4 ⟨co, cc2, rfl, hcp, hq4⟩
      try go_wp2_with fail
      have hB4 := hB3.trans (hq4.mono hB3.size)
      have hR4 := hR3.below hq4
      have hD4 := hD3.below hq4
      have hlq0 : W0.heap.size ≤ q3.heap.size := hB3.size
      have hk4 := HSD.out _ hD4
      refine hK.out _ _ hk4 (fun _ => ?_)
      clear hK K
      try simp only [Act.put, List.setIfInBounds_toArray, List.set_cons_zero, List.set_cons_succ]
      refine wpAnyH_take (i := 7) (oi := { dst := some 56, op := Op.build 30 #[(0, Operand.tmp 53), (1, Operand.tmp 55)], type := 30, pos := "l09_ledger.go:135", after := #[{ on := 4, ground := Ground.data }, { on := 6, ground := Ground.data }], guard := none }) (v := ?_) rfl (by kernel_rfl) (by kernel_rfl) (by kernel_rfl) (fun _ _ _ h => h) (Or.inl ⟨by rfl, ?_⟩) (by assumption) ?_
      rotate_left
      · (intro w hSw; (try dsimp only at hSw); go_simp) <;> with_reducible rfl
      try simp only [Act.put, List.setIfInBounds_toArray, List.set_cons_zero, List.set_cons_succ]
      refine wpAnyH_ready (rs := [8]) (by kernel_rfl) (by simp) ?_
      refine AllReadyH.cons (o := { dst := none, op := Op.store 30 (Operand.tmp 8) (Operand.tmp 56), type := 0, pos := "l09_ledger.go:135", after := #[{ on := 7, ground := Ground.data }, { on := 6, ground := Ground.chain }, { on := 0, ground := Ground.phase }, { on := 1, ground := Ground.phase }, { on := 2, ground := Ground.phase }, { on := 3, ground := Ground.phase }, { on := 4, ground := Ground.phase }, { on := 5, ground := Ground.phase }, { on := 6, ground := Ground.phase }, { on := 7, ground := Ground.phase }], guard := none }) rfl (fun K hK => ?_) AllReadyH.nil
      have hRx := hR4
      obtain ⟨⟨rl, rk⟩, rf⟩ := hRx
      have p0 : q4.cell? ⟨w.heap.size, 0, none⟩ = some (.slice none 0 0) := rk 0 (by simp)
      have f0 : q4.frozen? ⟨w.heap.size, 0, none⟩ = false := rf 0 (by simp)
      have p1 : q4.cell? ⟨w.heap.size, 1, none⟩ = some (.string ⟨#[]⟩) := rk 1 (by simp)
      have f1 : q4.frozen? ⟨w.heap.size, 1, none⟩ = false := rf 1 (by simp)
      have p2 : q4.cell? ⟨w.heap.size, 2, none⟩ = some (.int .i64 0) := rk 2 (by simp)
      have f2 : q4.frozen? ⟨w.heap.size, 2, none⟩ = false := rf 2 (by simp)
      have p3 : q4.cell? ⟨w.heap.size, 3, none⟩ = some (.int .i64 0) := rk 3 (by simp)
      have f3 : q4.frozen? ⟨w.heap.size, 3, none⟩ = false := rf 3 (by simp)
      have p4 : q4.cell? ⟨w.heap.size, 4, none⟩ = some (.slice none 0 0) := rk 4 (by simp)
      have f4 : q4.frozen? ⟨w.heap.size, 4, none⟩ = false := rf 4 (by simp)
      have p5 : q4.cell? ⟨w.heap.size, 5, none⟩ = some (.int .i64 0) := rk 5 (by simp)
      have f5 : q4.frozen? ⟨w.heap.size, 5, none⟩ = false := rf 5 (by simp)
      clear rk rf
      go_simp
      try go_wp2_with fail
      have hgr := StR.stL_grown w.heap.size [.slice vo nd vc, .string a, .int .i64 m, .int .i64 (cc : Nat), .slice co n1 cc2, .int .i64 0] 0 q4
      have hBF := (HB0.out.trans (hB4.mono HB0.out.size)).grown hgr (HB0.out.trans (hB4.mono HB0.out.size)).size (fun k e => by simp only [Option.some.injEq] at e; omega)
      have hDF := OwG.blkW_grown hD4 hgr (by simp; exact HDW.out)
      have hRF := OwG.stL_blkW hR4 (show ([.slice none 0 0, .string ⟨#[]⟩, .int .i64 0, .int .i64 0, .slice none 0 0, .int .i64 0] : List Value).length = [.slice vo nd vc, .string a, .int .i64 m, .int .i64 (cc : Nat), .slice co n1 cc2, .int .i64 0].length from rfl)
      simp only [StR.stL, Nat.zero_add, Nat.reduceAdd] at hBF hDF hRF hgr
      have hk5 := HSD.out _ hDF
      refine hK.out _ _ hk5 (fun _ => ?_)
      clear hK K
      try simp only [Act.put, List.setIfInBounds_toArray, List.set_cons_zero, List.set_cons_succ]
      refine wpAnyH_done (by kernel_rfl) ?_ _
      have HLo : Hid (LoO w.heap.size (.agg #[.slice vo nd vc, .string a, .int .i64 m, .int .i64 (cc : Nat), .slice co n1 cc2, .int .i64 0]) (ds ++ [(⟨a, m, (cc : Nat), clL G⟩ : D)]) (⟨a, m, (cc : Nat), clL G⟩ : D) 0 ((((((q4.setCell ⟨w.heap.size, 0, none⟩ (.slice vo nd vc)).setCell ⟨w.heap.size, 1, none⟩ (.string a)).setCell ⟨w.heap.size, 2, none⟩ (.int .i64 m)).setCell ⟨w.heap.size, 3, none⟩ (.int .i64 (cc : Nat))).setCell ⟨w.heap.size, 4, none⟩ (.slice co n1 cc2)).setCell ⟨w.heap.size, 5, none⟩ (.int .i64 0))) := hid_intro (by
        have e1 := HN1.out
        have e2 := HND.out
        subst e1
        subst e2
        exact lo_fin (d := (⟨a, m, (cc : Nat), clL G⟩ : D)) hlw hs.1 hs.2.1 hs.2.2.1 hs.2.2.2 hq4 hcp hlq0 hgr)
      have HBF := hid_intro hBF
      obtain ⟨⟨zl, zk⟩, -⟩ := hRF
      clear hgr hs hcp hBF hDF
      generalize ((((((q4.setCell ⟨w.heap.size, 0, none⟩ (.slice vo nd vc)).setCell ⟨w.heap.size, 1, none⟩ (.string a)).setCell ⟨w.heap.size, 2, none⟩ (.int .i64 m)).setCell ⟨w.heap.size, 3, none⟩ (.int .i64 (cc : Nat))).setCell ⟨w.heap.size, 4, none⟩ (.slice co n1 cc2)).setCell ⟨w.heap.size, 5, none⟩ (.int .i64 0)) = WF at *
      have z0 : WF.cell? ⟨w.heap.size, 0, none⟩ = some (.slice vo nd vc) := zk 0 (by simp)
      have z1 : WF.cell? ⟨w.heap.size, 1, none⟩ = some (.string a) := zk 1 (by simp)
      have z2 : WF.cell? ⟨w.heap.size, 2, none⟩ = some (.int .i64 m) := zk 2 (by simp)
      have z3 : WF.cell? ⟨w.heap.size, 3, none⟩ = some (.int .i64 (cc : Nat)) := zk 3 (by simp)
      have z4 : WF.cell? ⟨w.heap.size, 4, none⟩ = some (.slice co n1 cc2) := zk 4 (by simp)
      have z5 : WF.cell? ⟨w.heap.size, 5, none⟩ = some (.int .i64 0) := zk 5 (by simp)
      clear zk
      go_wp2_with fail
      refine bodyPost_ret (v := .agg #[.slice vo nd vc, .string a, .int .i64 m, .int .i64 (cc : Nat), .slice co n1 cc2, .int .i64 0]) (by simp [results, Tryz.results41, go_sem, z0, z1, z2, z3, z4, z5]) rfl ⟨_, rfl, by rw [HE.out.1, HE.out.2.1, HE.out.2.2]; exact HLo.out, HBF.out⟩
end LedR
end Go.Proofs.YtlfebpgohpmknaaGreatDoor
namespace Go.Proofs.YtlfebpgohpmknaaGreatDoor
open Go.ChangeShapes Go.WideShapes Go.ChangeAt Go.RowKit
set_option linter.unusedVariables false
namespace LedR
open LinR RowG LtR NetR DocR
open NameR (nameB)
theorem LoO.far {base g : Nat} {v : Value} {ds : List D} {x : D} {cd : Int} {W W' : World} (h : LoO base v ds x cd W) (hg : W.grownBy W' (some g)) (hlt : g < base) : LoO base v ds x cd W' := by
  obtain ⟨vd, xs, la, lc, rfl, h1, h2, h3, h4, h5, h6⟩ := h
  exact ⟨vd, xs, la, lc, rfl, h1, OwG.own_keepG h2 hg hlt, fun y hy => OwG.own_keepG (h3 y hy) hg hlt, h4, OwG.own_keepG h5 hg hlt, h6⟩
theorem LoO.low {base base' : Nat} {v : Value} {ds : List D} {x : D} {cd : Int} {W : World} (h : LoO base v ds x cd W) (hb : base' ≤ base) : LoO base' v ds x cd W := by
  obtain ⟨vd, xs, la, lc, rfl, h1, h2, h3, h4, h5, h6⟩ := h
  exact ⟨vd, xs, la, lc, rfl, h1, OwG.own_low h2 hb, fun y hy => OwG.own_low (h3 y hy) hb, h4, OwG.own_low h5 hb, h6⟩
set_option maxRecDepth 100000 in
set_option maxHeartbeats 8000000 in
theorem sissue (ao : Option Addr) (bb boff cap capb : Nat) (ds : List D) (a : ByteArray) (m : Int) (bl : List N) (w : World) (hlen : ds.length ≤ 1048576) (hSm : ∀ d ∈ ds, d.Sm) (ha : a.size ≤ 1048576) (hlb : bl.length ≤ 1048576) (hsb : ∀ e ∈ bl, e.i.size ≤ 1048576) (hI : Dcs ao ds w) (hL : Lis (some ⟨bb, boff, none⟩) bl w) :
    Calls Tryz.prog 11 #[.slice ao ds.length cap, .string a, .int .i64 m, .slice (some ⟨bb, boff, none⟩) bl.length capb] w fun e w' => ∃ v, e = .returned v ∧ LoO w.heap.size v (isD ds a m bl) (isX ds a m bl) (isC ds a m bl) w' ∧ Below w.heap.size w w' := by
  have HRO := hid_intro (fun W (hb : Below w.heap.size w W) => spec_ledger ao cap ds W (by omega) hSm (hI.below hb))
  have HNR := hid_intro (fun W => NameR.spec_any a W ha)
  have HMO := hid_intro (fun W => sMon m W)
  have HLR := hid_intro (fun W (hb : Below w.heap.size w W) => spec_lines (some ⟨bb, boff, none⟩) capb bl W hlb hsb (hL.below hb))
  have HGO := hid_intro (fun W (hb : Below w.heap.size w W) h1 h2 h3 h4 => sissue0 ao bb boff cap capb ds a m bl W h1 h2 h3 h4 (fun d hd => (hSm d hd).2.1) (hI.below hb) (hL.below hb))
  have HBg := hid_intro (isBig ds a m bl)
  have HFm := hid_intro (isForm ds a m bl)
  have HFB : Hid (isFormB ds a m bl = (lB ds && (nameB a && (decide (0 ≤ m ∧ m ≤ 2760) && sB bl)))) := hid_intro rfl
  have HLI : Hid (lB ds = true → LRight ds) := hid_intro lB_iff.1
  have HSI2 : Hid (sB bl = true → SRight bl) := hid_intro sB_iff.1
  generalize isFormB ds a m bl = fb at *
  generalize isD ds a m bl = RD at *
  generalize isX ds a m bl = RX at *
  generalize isC ds a m bl = RC at *
  generalize lB ds = b1 at *
  generalize nameB a = b2 at *
  generalize decide (0 ≤ m ∧ m ≤ 2760) = b3 at *
  generalize sB bl = b4 at *
  generalize ds.length = len at *
  generalize bl.length = lb at *
  obtain ⟨W0, hW0⟩ : ∃ W0, W0 = w.alloc (.cells #[.slice none 0 0, .string ⟨#[]⟩, .int .i64 0, .int .i64 0, .slice none 0 0, .int .i64 0] 30) := ⟨_, rfl⟩
  have HB0 : Hid (Below w.heap.size w W0) := hid_intro (by rw [hW0]; exact (Below.refl _ _).alloc (Nat.le_refl _) _)
  have HR0 : Hid (BlkW w.heap.size [.slice none 0 0, .string ⟨#[]⟩, .int .i64 0, .int .i64 0, .slice none 0 0, .int .i64 0] W0) := hid_intro (by rw [hW0]; exact BlkW.new w [.slice none 0 0, .string ⟨#[]⟩, .int .i64 0, .int .i64 0, .slice none 0 0, .int .i64 0] 30)
  have HW := hid_intro hW0
  clear hI hL hsb hSm hW0
  by_cases hbig : 400 < len ∨ 8000 < a.size ∨ 400 < lb
  · have HE := hid_intro (HBg.out hbig)
    clear HRO HNR HMO HLR HGO HBg HFm
    go_enter Tryz.func11, Tryz.ntmps11
    by_cases h1 : 400 < len
    · have h1' : (400 : Int) < (len : Int) := by omega
      go_wp2_with fail
      refine bodyPost_ret (v := .agg #[.slice none 0 0, .string ⟨#[]⟩, .int .i64 0, .int .i64 0, .slice none 0 0, .int .i64 2]) (by simp [results, Tryz.results11, go_sem]) rfl ⟨_, rfl, by rw [HE.out.1, HE.out.2.1, HE.out.2.2]; exact loO_of (dso_nil _ _), (Below.refl _ _).alloc (Nat.le_refl _) _⟩
    have h1' : ¬ (400 : Int) < (len : Int) := by omega
    by_cases h2 : 8000 < a.size
    · have h2' : (8000 : Int) < (a.size : Int) := by omega
      go_wp2_with fail
      refine bodyPost_ret (v := .agg #[.slice none 0 0, .string ⟨#[]⟩, .int .i64 0, .int .i64 0, .slice none 0 0, .int .i64 2]) (by simp [results, Tryz.results11, go_sem]) rfl ⟨_, rfl, by rw [HE.out.1, HE.out.2.1, HE.out.2.2]; exact loO_of (dso_nil _ _), (Below.refl _ _).alloc (Nat.le_refl _) _⟩
    have h2' : ¬ (8000 : Int) < (a.size : Int) := by omega
    have h3' : (400 : Int) < (lb : Int) := by omega
    go_wp2_with fail
    refine bodyPost_ret (v := .agg #[.slice none 0 0, .string ⟨#[]⟩, .int .i64 0, .int .i64 0, .slice none 0 0, .int .i64 2]) (by simp [results, Tryz.results11, go_sem]) rfl ⟨_, rfl, by rw [HE.out.1, HE.out.2.1, HE.out.2.2]; exact loO_of (dso_nil _ _), (Below.refl _ _).alloc (Nat.le_refl _) _⟩
  have hb1 : ¬ (400 : Int) < (len : Int) := by omega
  have hb2 : ¬ (8000 : Int) < (a.size : Int) := by omega
  have hb3 : ¬ (400 : Int) < (lb : Int) := by omega
  replace HFm := hid_intro (HFm.out hbig)
  have HGB := hid_intro hbig
  clear hbig
  go_enter Tryz.func11, Tryz.ntmps11
  go_wp2_with fail
  rw [← HW.out]
  refine (HRO.out _ HB0.out).mono ?_
  rintro e w1 ⟨rfl, hb⟩
  have HB1 := hid_intro (HB0.out.trans (hb.mono HB0.out.size))
  have HR1 := hid_intro (HR0.out.below hb)
  clear hb HB0 HR0 HW
  cases b1
  · have HE := hid_intro (HFm.out (by rw [HFB.out]; rfl))
    obtain ⟨⟨rl, rk⟩, rf⟩ := HR1.out
    have p0 : w1.cell? ⟨w.heap.size, 0, none⟩ = some (.slice none 0 0) := rk 0 (by simp)
    have f0 : w1.frozen? ⟨w.heap.size, 0, none⟩ = false := rf 0 (by simp)
    have p1 : w1.cell? ⟨w.heap.size, 1, none⟩ = some (.string ⟨#[]⟩) := rk 1 (by simp)
    have f1 : w1.frozen? ⟨w.heap.size, 1, none⟩ = false := rf 1 (by simp)
    have p2 : w1.cell? ⟨w.heap.size, 2, none⟩ = some (.int .i64 0) := rk 2 (by simp)
    have f2 : w1.frozen? ⟨w.heap.size, 2, none⟩ = false := rf 2 (by simp)
    have p3 : w1.cell? ⟨w.heap.size, 3, none⟩ = some (.int .i64 0) := rk 3 (by simp)
    have f3 : w1.frozen? ⟨w.heap.size, 3, none⟩ = false := rf 3 (by simp)
    have p4 : w1.cell? ⟨w.heap.size, 4, none⟩ = some (.slice none 0 0) := rk 4 (by simp)
    have f4 : w1.frozen? ⟨w.heap.size, 4, none⟩ = false := rf 4 (by simp)
    have p5 : w1.cell? ⟨w.heap.size, 5, none⟩ = some (.int .i64 0) := rk 5 (by simp)
    have f5 : w1.frozen? ⟨w.heap.size, 5, none⟩ = false := rf 5 (by simp)
    have hg := StR.stL_grown w.heap.size [.slice none 0 0, .string ⟨#[]⟩, .int .i64 0, .int .i64 0, .slice none 0 0, .int .i64 1] 0 w1
    have HBF := hid_intro (HB1.out.grown hg HB1.out.size (fun k e => by simp only [Option.some.injEq] at e; omega))
    simp only [StR.stL, Nat.zero_add, Nat.reduceAdd] at HBF
    clear hg rk rf
    go_wp2_with fail
    refine bodyPost_ret (v := .agg #[.slice none 0 0, .string ⟨#[]⟩, .int .i64 0, .int .i64 0, .slice none 0 0, .int .i64 1]) (by simp [results, Tryz.results11, go_sem, p0, p1, p2, p3, p4, p5]) rfl ⟨_, rfl, by rw [HE.out.1, HE.out.2.1, HE.out.2.2]; exact loO_of (dso_nil _ _), HBF.out⟩
  go_wp2_with fail
  refine (HNR.out _).mono ?_
  rintro e w2 ⟨rfl, hb⟩
  subst hb
  have HB2 := HB1
  have HR2 := HR1
  clear HB1 HR1
  cases b2
  · have HE := hid_intro (HFm.out (by rw [HFB.out]; rfl))
    obtain ⟨⟨rl, rk⟩, rf⟩ := HR2.out
    have p0 : w2.cell? ⟨w.heap.size, 0, none⟩ = some (.slice none 0 0) := rk 0 (by simp)
    have f0 : w2.frozen? ⟨w.heap.size, 0, none⟩ = false := rf 0 (by simp)
    have p1 : w2.cell? ⟨w.heap.size, 1, none⟩ = some (.string ⟨#[]⟩) := rk 1 (by simp)
    have f1 : w2.frozen? ⟨w.heap.size, 1, none⟩ = false := rf 1 (by simp)
    have p2 : w2.cell? ⟨w.heap.size, 2, none⟩ = some (.int .i64 0) := rk 2 (by simp)
    have f2 : w2.frozen? ⟨w.heap.size, 2, none⟩ = false := rf 2 (by simp)
    have p3 : w2.cell? ⟨w.heap.size, 3, none⟩ = some (.int .i64 0) := rk 3 (by simp)
    have f3 : w2.frozen? ⟨w.heap.size, 3, none⟩ = false := rf 3 (by simp)
    have p4 : w2.cell? ⟨w.heap.size, 4, none⟩ = some (.slice none 0 0) := rk 4 (by simp)
    have f4 : w2.frozen? ⟨w.heap.size, 4, none⟩ = false := rf 4 (by simp)
    have p5 : w2.cell? ⟨w.heap.size, 5, none⟩ = some (.int .i64 0) := rk 5 (by simp)
    have f5 : w2.frozen? ⟨w.heap.size, 5, none⟩ = false := rf 5 (by simp)
    have hg := StR.stL_grown w.heap.size [.slice none 0 0, .string ⟨#[]⟩, .int .i64 0, .int .i64 0, .slice none 0 0, .int .i64 1] 0 w2
    have HBF := hid_intro (HB2.out.grown hg HB2.out.size (fun k e => by simp only [Option.some.injEq] at e; omega))
    simp only [StR.stL, Nat.zero_add, Nat.reduceAdd] at HBF
    clear hg rk rf
    go_wp2_with fail
    refine bodyPost_ret (v := .agg #[.slice none 0 0, .string ⟨#[]⟩, .int .i64 0, .int .i64 0, .slice none 0 0, .int .i64 1]) (by simp [results, Tryz.results11, go_sem, p0, p1, p2, p3, p4, p5]) rfl ⟨_, rfl, by rw [HE.out.1, HE.out.2.1, HE.out.2.2]; exact loO_of (dso_nil _ _), HBF.out⟩
  go_wp2_with fail
  refine (HMO.out _).mono ?_
  rintro e w3 ⟨rfl, hb⟩
  subst hb
  have HB3 := HB2
  have HR3 := HR2
  clear HB2 HR2
  cases b3
  · have HE := hid_intro (HFm.out (by rw [HFB.out]; rfl))
    obtain ⟨⟨rl, rk⟩, rf⟩ := HR3.out
    have p0 : w3.cell? ⟨w.heap.size, 0, none⟩ = some (.slice none 0 0) := rk 0 (by simp)
    have f0 : w3.frozen? ⟨w.heap.size, 0, none⟩ = false := rf 0 (by simp)
    have p1 : w3.cell? ⟨w.heap.size, 1, none⟩ = some (.string ⟨#[]⟩) := rk 1 (by simp)
    have f1 : w3.frozen? ⟨w.heap.size, 1, none⟩ = false := rf 1 (by simp)
    have p2 : w3.cell? ⟨w.heap.size, 2, none⟩ = some (.int .i64 0) := rk 2 (by simp)
    have f2 : w3.frozen? ⟨w.heap.size, 2, none⟩ = false := rf 2 (by simp)
    have p3 : w3.cell? ⟨w.heap.size, 3, none⟩ = some (.int .i64 0) := rk 3 (by simp)
    have f3 : w3.frozen? ⟨w.heap.size, 3, none⟩ = false := rf 3 (by simp)
    have p4 : w3.cell? ⟨w.heap.size, 4, none⟩ = some (.slice none 0 0) := rk 4 (by simp)
    have f4 : w3.frozen? ⟨w.heap.size, 4, none⟩ = false := rf 4 (by simp)
    have p5 : w3.cell? ⟨w.heap.size, 5, none⟩ = some (.int .i64 0) := rk 5 (by simp)
    have f5 : w3.frozen? ⟨w.heap.size, 5, none⟩ = false := rf 5 (by simp)
    have hg := StR.stL_grown w.heap.size [.slice none 0 0, .string ⟨#[]⟩, .int .i64 0, .int .i64 0, .slice none 0 0, .int .i64 1] 0 w3
    have HBF := hid_intro (HB3.out.grown hg HB3.out.size (fun k e => by simp only [Option.some.injEq] at e; omega))
    simp only [StR.stL, Nat.zero_add, Nat.reduceAdd] at HBF
    clear hg rk rf
    go_wp2_with fail
    refine bodyPost_ret (v := .agg #[.slice none 0 0, .string ⟨#[]⟩, .int .i64 0, .int .i64 0, .slice none 0 0, .int .i64 1]) (by simp [results, Tryz.results11, go_sem, p0, p1, p2, p3, p4, p5]) rfl ⟨_, rfl, by rw [HE.out.1, HE.out.2.1, HE.out.2.2]; exact loO_of (dso_nil _ _), HBF.out⟩
  go_wp2_with fail
  refine (HLR.out _ HB3.out).mono ?_
  rintro e w4 ⟨rfl, hb⟩
  have HB4 := hid_intro (HB3.out.trans (hb.mono HB3.out.size))
  have HR4 := hid_intro (HR3.out.below hb)
  clear hb HB3 HR3
  cases b4
  · have HE := hid_intro (HFm.out (by rw [HFB.out]; rfl))
    obtain ⟨⟨rl, rk⟩, rf⟩ := HR4.out
    have p0 : w4.cell? ⟨w.heap.size, 0, none⟩ = some (.slice none 0 0) := rk 0 (by simp)
    have f0 : w4.frozen? ⟨w.heap.size, 0, none⟩ = false := rf 0 (by simp)
    have p1 : w4.cell? ⟨w.heap.size, 1, none⟩ = some (.string ⟨#[]⟩) := rk 1 (by simp)
    have f1 : w4.frozen? ⟨w.heap.size, 1, none⟩ = false := rf 1 (by simp)
    have p2 : w4.cell? ⟨w.heap.size, 2, none⟩ = some (.int .i64 0) := rk 2 (by simp)
    have f2 : w4.frozen? ⟨w.heap.size, 2, none⟩ = false := rf 2 (by simp)
    have p3 : w4.cell? ⟨w.heap.size, 3, none⟩ = some (.int .i64 0) := rk 3 (by simp)
    have f3 : w4.frozen? ⟨w.heap.size, 3, none⟩ = false := rf 3 (by simp)
    have p4 : w4.cell? ⟨w.heap.size, 4, none⟩ = some (.slice none 0 0) := rk 4 (by simp)
    have f4 : w4.frozen? ⟨w.heap.size, 4, none⟩ = false := rf 4 (by simp)
    have p5 : w4.cell? ⟨w.heap.size, 5, none⟩ = some (.int .i64 0) := rk 5 (by simp)
    have f5 : w4.frozen? ⟨w.heap.size, 5, none⟩ = false := rf 5 (by simp)
    have hg := StR.stL_grown w.heap.size [.slice none 0 0, .string ⟨#[]⟩, .int .i64 0, .int .i64 0, .slice none 0 0, .int .i64 1] 0 w4
    have HBF := hid_intro (HB4.out.grown hg HB4.out.size (fun k e => by simp only [Option.some.injEq] at e; omega))
    simp only [StR.stL, Nat.zero_add, Nat.reduceAdd] at HBF
    clear hg rk rf
    go_wp2_with fail
    refine bodyPost_ret (v := .agg #[.slice none 0 0, .string ⟨#[]⟩, .int .i64 0, .int .i64 0, .slice none 0 0, .int .i64 1]) (by simp [results, Tryz.results11, go_sem, p0, p1, p2, p3, p4, p5]) rfl ⟨_, rfl, by rw [HE.out.1, HE.out.2.1, HE.out.2.2]; exact loO_of (dso_nil _ _), HBF.out⟩
  have HC := hid_intro (HGO.out w4 HB4.out (HLI.out (by trivial)) (HSI2.out (by trivial)) HGB.out (by rw [HFB.out]; rfl))
  go_wp2_with fail
  refine HC.out.mono ?_
  rintro e w5 ⟨v, rfl, hlo, hb⟩
  have HB5 := hid_intro (HB4.out.trans (hb.mono HB4.out.size))
  have HR5 := hid_intro (HR4.out.below hb)
  have HLT : Hid (w.heap.size < w4.heap.size) := hid_intro HR4.out.1.1
  have HLO := hid_intro hlo
  obtain ⟨vo, vc, la, lc, rfl, -, -⟩ := hlo.reads
  clear hb hlo HC HB4 HR4
  generalize RD.length = nd at *
  generalize RX.a = xa at *
  generalize RX.mo = xm at *
  generalize RX.sq = xq at *
  generalize RX.ls.length = nl at *
  obtain ⟨⟨rl, rk⟩, rf⟩ := HR5.out
  have p0 : w5.cell? ⟨w.heap.size, 0, none⟩ = some (.slice none 0 0) := rk 0 (by simp)
  have f0 : w5.frozen? ⟨w.heap.size, 0, none⟩ = false := rf 0 (by simp)
  have p1 : w5.cell? ⟨w.heap.size, 1, none⟩ = some (.string ⟨#[]⟩) := rk 1 (by simp)
  have f1 : w5.frozen? ⟨w.heap.size, 1, none⟩ = false := rf 1 (by simp)
  have p2 : w5.cell? ⟨w.heap.size, 2, none⟩ = some (.int .i64 0) := rk 2 (by simp)
  have f2 : w5.frozen? ⟨w.heap.size, 2, none⟩ = false := rf 2 (by simp)
  have p3 : w5.cell? ⟨w.heap.size, 3, none⟩ = some (.int .i64 0) := rk 3 (by simp)
  have f3 : w5.frozen? ⟨w.heap.size, 3, none⟩ = false := rf 3 (by simp)
  have p4 : w5.cell? ⟨w.heap.size, 4, none⟩ = some (.slice none 0 0) := rk 4 (by simp)
  have f4 : w5.frozen? ⟨w.heap.size, 4, none⟩ = false := rf 4 (by simp)
  have p5 : w5.cell? ⟨w.heap.size, 5, none⟩ = some (.int .i64 0) := rk 5 (by simp)
  have f5 : w5.frozen? ⟨w.heap.size, 5, none⟩ = false := rf 5 (by simp)
  have hg := StR.stL_grown w.heap.size [.slice vo nd vc, .string xa, .int .i64 xm, .int .i64 xq, .slice la nl lc, .int .i64 RC] 0 w5
  have HBF := hid_intro (HB5.out.grown hg HB5.out.size (fun k e => by simp only [Option.some.injEq] at e; omega))
  have HLF := hid_intro ((HLO.out.far hg HLT.out).low (Nat.le_of_lt HLT.out))
  have HRF := hid_intro (OwG.stL_blkW HR5.out (show ([.slice none 0 0, .string ⟨#[]⟩, .int .i64 0, .int .i64 0, .slice none 0 0, .int .i64 0] : List Value).length = [.slice vo nd vc, .string xa, .int .i64 xm, .int .i64 xq, .slice la nl lc, .int .i64 RC].length from rfl))
  simp only [StR.stL, Nat.zero_add, Nat.reduceAdd] at HBF HLF HRF
  clear hg rk rf HLO HR5 HB5
  go_wp2_with fail
  refine bodyPost_ret (v := .agg #[.slice vo nd vc, .string xa, .int .i64 xm, .int .i64 xq, .slice la nl lc, .int .i64 RC]) (by simp [results, Tryz.results11, go_sem, p0, p1, p2, p3, p4, p5]) rfl ⟨_, rfl, HLF.out, HBF.out⟩
end LedR
end Go.Proofs.YtlfebpgohpmknaaGreatDoor
namespace Go.Proofs.YtlfebpgohpmknaaGreatDoor
open Go.ChangeShapes Go.WideShapes Go.ChangeAt Go.RowKit
set_option linter.unusedVariables false
set_option linter.unusedSimpArgs false
namespace DrawR
open LinR RowG NetR LedR
open EvtR (Pt)
open DocR
/-- A document that is drawn. -/
def DOk (d : D) : Prop := d.a.size ≤ 20 ∧ -1 ≤ d.mo ∧ d.mo ≤ 2761 ∧ d.ls.length ≤ 184 ∧ ∀ e ∈ d.ls, Kn e.i
theorem DOk.sm {d : D} (h : DOk d) : d.Sm := ⟨by have := h.1; omega, by have := h.2.2.2.1; omega, fun e he => by have := (h.2.2.2.2 e he).size; omega⟩
theorem DOk.wf {d : D} (h : DOk d) : (Lit.int .i64 d.mo).wf = true := by
  have h1 := h.2.1
  have h2 := h.2.2.1
  generalize d.mo = n at *
  simp only [Lit.wf, IntKind.min, IntKind.max, IntKind.signed, IntKind.bits, Bool.and_eq_true, decide_eq_true_eq, if_true]
  omega
theorem net_i (p : ByteArray → Prop) {a : ByteArray} {m : Int} : ∀ (ds : List D) (L : List N), (∀ d ∈ ds, ∀ e ∈ d.ls, p e.i) → (∀ y ∈ L, p y.i) → ∀ y ∈ ds.foldl (fun L d => bif of a m d then all L d.ls 1 else L) L, p y.i
  | [], L, _, hL => hL
  | d :: ds, L, hd, hL => by
    have h0 : ∀ y ∈ (bif of a m d then all L d.ls 1 else L), p y.i := by
      cases of a m d
      · exact hL
      · exact all_i p d.ls 1 hL (hd d (List.mem_cons_self ..))
    exact net_i p ds _ (fun d' h => hd d' (List.mem_cons_of_mem _ h)) h0
theorem isC_form {ds : List D} {a : ByteArray} {m : Int} {bl : List N} (h : isC ds a m bl = 0) : lB ds = true := by
  by_cases hb : 400 < ds.length ∨ 8000 < a.size ∨ 400 < bl.length
  · have := (isBig ds a m bl hb).2.2
    rw [h] at this
    cases this
  · cases hf : isFormB ds a m bl
    · have := (isForm ds a m bl hb hf).2.2
      rw [h] at this
      cases this
    · unfold isFormB at hf
      simp only [Bool.and_eq_true] at hf
      exact hf.1
theorem clL_sub {G : List N} {y : N} (h : y ∈ clL G) : y ∈ G := by
  unfold clL at h
  cases hq : ovB G
  · rw [hq] at h; cases h
  · rw [hq] at h; exact (List.mem_filter.1 h).1
theorem newD_ok {ds : List D} {a : ByteArray} {m : Int} {bl : List N} (h : isC ds a m bl = 0) (ha : a.size ≤ 20) (hm : 600 ≤ m ∧ m ≤ 601) (hb : ∀ e ∈ bl, Kn e.i) (hl : bl.length ≤ 4) (hd : ∀ d ∈ ds, DOk d) : DOk (newD ds a m bl) := by
  have hR := lB_iff.1 (isC_form h)
  have h1 := (net_facts (ds := ds) ds.length (Nat.le_refl _) hR.2.1 a m).2.1
  rw [List.take_length] at h1
  have h2 := hR.1
  have h3 := List.length_filter_le nz (net ds a m)
  have h4 := all_len bl ((net ds a m).filter nz) (-1)
  have h5 := clL_len (moreG ds a m bl)
  refine ⟨ha, by show -1 ≤ m; omega, by show m ≤ 2761; omega, ?_, fun e he => ?_⟩
  · show (clL (moreG ds a m bl)).length ≤ 184
    unfold moreG at *
    omega
  · have he2 : e ∈ moreG ds a m bl := clL_sub he
    exact all_i Kn _ (-1) hb (fun y hy => net_i Kn ds [] (fun d hd2 => (hd d hd2).2.2.2.2) (fun y h => absurd h (by simp)) y (List.mem_filter.1 hy).1) e he2
/-- What holds while documents are drawn. -/
structure DsD (ao : Option Addr) (len cap g : Nat) (w : World) (v : Value) (ds : List D) (W : World) : Prop where
  src : Src ao len cap g W
  grew : w.grownBy W (some g)
  own : DsO w.heap.size v ds W
  ok : ∀ d ∈ ds, DOk d
section
variable {ao : Option Addr} {len cap g : Nat} {w : World} {v : Value} {ds : List D} {W W' : World}
theorem DsD.step (h : DsD ao len cap g w v ds W) (hgl : g < w.heap.size) (hS : Src ao len cap g W') (hg : W.grownBy W' (some g)) : DsD ao len cap g w v ds W' :=
  ⟨hS, Lib.grownBy_trans h.grew hg, h.own.far hg hgl, h.ok⟩
theorem DsD.below (h : DsD ao len cap g w v ds W) (hb : Below W.heap.size W W') : DsD ao len cap g w v ds W' :=
  ⟨h.src.kept (row := none) (OwG.rgrownO hb none) (fun k e => by cases e), h.grew.andThen (OwG.rgrownO hb none) (fun k e => by cases e), h.own.below hb, h.ok⟩
/-- A list's place and room. -/
def Plc (da : Option Addr) (n dc : Nat) : Prop := n ≤ dc ∧ ((da = none ∧ n = 0) ∨ ∃ b off, da = some ⟨b, off, none⟩)
theorem own_plc {W : World} {base e k n dc : Nat} {da : Option Addr} {cs : List Value} (h : W.ownsRow base e k (.slice da n dc) n cs) : Plc da n dc := by
  rcases h.2 with ⟨h1, h2⟩ | ⟨g, cap, cur, h1, _, _, h2, _⟩
  · cases h1
    exact ⟨Nat.le_refl _, .inl ⟨rfl, h2⟩⟩
  · injection h1 with e1 e2 e3
    subst e1 e3
    exact ⟨h2, .inr ⟨g, 0, rfl⟩⟩
/-- What is drawn: documents that stay though more is drawn. -/
def DcOut (ao : Option Addr) (len cap g : Nat) (w : World) (e : Ending) (w' : World) : Prop := (∃ (ds : List D) (da : Option Addr) (dc : Nat), e = .returned (.slice da ds.length dc) ∧ ds.length ≤ 40 ∧ (∀ d ∈ ds, DOk d) ∧ (∀ W', w'.grownBy W' (some g) → Dcs da ds W') ∧ Plc da ds.length dc) ∧ Src ao len cap g w' ∧ w.grownBy w' (some g)
theorem DsD.out (h : DsD ao len cap g w v ds W) (hgl : g < w.heap.size) (hn : ds.length ≤ 40) : DcOut ao len cap g w (.returned v) W := by
  obtain ⟨da, dc, rfl, _⟩ := h.own.dcs
  obtain ⟨xs, _, x2, _⟩ := h.own
  refine ⟨⟨ds, da, dc, rfl, hn, h.ok, fun W' hg => ?_, own_plc x2⟩, h.src, h.grew⟩
  obtain ⟨da', dc', e, h2⟩ := (h.own.far hg hgl).dcs
  cases e
  exact h2
theorem dcs_tail {b n : Nat} {ds : List D} {W : World} (hn : ds.length = n + 1) (h : Dcs (some ⟨b, 0, none⟩) ds W) : Dcs (some ⟨b, 4, none⟩) ds.tail W := by
  rcases h with h0 | ⟨b', off, e, hl, hc⟩
  · omega
  · cases e
    refine .inr ⟨b, 4, rfl, hl, fun j hj => ?_⟩
    rw [List.length_tail] at hj
    have e2 : ds.tail.getD j D.zero = ds.getD (j + 1) D.zero := by
      cases ds with
      | nil => simp at hn
      | cons x l => simp [List.getD]
    have := hc (j + 1) (by omega)
    rw [show 0 + (j + 1) * 4 = 4 + j * 4 by omega] at this
    rw [e2]
    exact this
theorem DsD.tail {b n dc dc' : Nat} (h : DsD ao len cap g w (.slice (some ⟨b, 0, none⟩) (n + 1) dc) ds W) (hn : ds.length = n + 1) (hgl : g < w.heap.size) (hm : n ≤ 40) (hdc : n ≤ dc') : DcOut ao len cap g w (.returned (.slice (some ⟨b, 4, none⟩) n dc')) W := by
  refine ⟨⟨ds.tail, some ⟨b, 4, none⟩, dc', ?_, by rw [List.length_tail]; omega, fun d hd => h.ok d (List.mem_of_mem_tail hd), fun W' hg => ?_, by rw [List.length_tail]; omega, .inr ⟨b, 4, rfl⟩⟩, h.src, h.grew⟩
  · rw [List.length_tail, hn]
    rfl
  · obtain ⟨da', dc', e, h2⟩ := (h.own.far hg hgl).dcs
    injection e with e1 e2 e3
    subst e1
    exact dcs_tail hn h2
/-- One document more, without lines. -/
theorem DsD.more {v' : Value} {d : D} {W2 W9 : World} {xs : List DA} (h2 : DsD ao len cap g w v ds W2) (x1 : xs.map DA.d = ds) (x2 : W2.ownsRow w.heap.size 28 4 v ds.length (cellsAll DA.cells xs)) (x3 : ∀ x ∈ xs, LnO w.heap.size x W2) (x4 : xs.Pairwise Apt) (hgl : g < w.heap.size) (hd : DOk d) (hl : d.ls = []) (hgrow : W2.grownBy W9 v.ownBlock)
    (hown : W9.ownsRow w.heap.size 28 4 v' (ds.length + 1) (cellsAll DA.cells xs ++ [.string d.a, .int .i64 d.mo, .int .i64 d.sq, .slice none 0 0])) : DsD ao len cap g w v' (ds ++ [d]) W9 := by
  have hz : d.ls.length = 0 := by rw [hl]; rfl
  have hs := dso_snoc (d := d) (la := none) (lc := 0) x1 x3 x4 (by show W2.ownsRow _ _ _ (DA.v ⟨d, none, 0⟩) _ _; unfold DA.v; rw [hl]; exact World.ownsRow_nil _ _ _ _) (fun x hx b e1 e2 => by simp [DA.v, Value.ownBlock] at e2) x2 hgrow (by rw [hz]; exact hown)
  have hob : ∀ k, v.ownBlock = some k → w.heap.size ≤ k := fun k e => (x2.lt k e).1
  exact ⟨h2.src.kept hgrow (fun k e => by have := hob k e; omega), h2.grew.andThen hgrow (fun k e => .inl (hob k e)), ⟨_, hs.1, hs.2.1, hs.2.2.1, hs.2.2.2⟩, fun x hx => by
    rcases List.mem_append.1 hx with q | q
    · exact h2.ok x q
    · rw [List.mem_singleton] at q
      subst q
      exact hd⟩
theorem DsD.tail0 {b o : Nat} {n dc' : Nat} {v : Value} (h : DsD ao len cap g w v ds W) (hn : ds.length = n + 1) (h0 : n = 0) : DcOut ao len cap g w (.returned (.slice (some ⟨b, o, none⟩) n dc')) W := by
  subst h0
  exact ⟨⟨[], some ⟨b, o, none⟩, dc', rfl, by simp, fun d hd => absurd hd (by simp), fun W' hg => .inl rfl, Nat.zero_le _, .inr ⟨b, o, rfl⟩⟩, h.src, h.grew⟩
/-- The first document's month is another one. -/
theorem DsD.month {b dn dc : Nat} {Y : Int} (h : DsD ao len cap g w (.slice (some ⟨b, 0, none⟩) dn dc) ds W) (hn : dn = ds.length) (hgl : g < w.heap.size) (hp : 0 < dn) (hY : -1 ≤ Y ∧ Y ≤ 2761) : ∃ ds', ds'.length = dn ∧ DsD ao len cap g w (.slice (some ⟨b, 0, none⟩) dn dc) ds' (W.setCell ⟨b, 1, none⟩ (.int .i64 Y)) := by
  obtain ⟨xs, x1, x2, x3, x4⟩ := h.own
  rw [← hn] at x2
  have hst := x2.stored 1 (.int .i64 Y)
  have hg := RowG.grown_set W b 1 (.int .i64 Y)
  have hbb := (x2.lt b rfl).1
  cases xs with
  | nil =>
    have h0 : ds.length = 0 := by rw [← x1]; rfl
    omega
  | cons x t =>
    obtain ⟨d, la, lc⟩ := x
    have e1 : ds = d :: t.map DA.d := by rw [← x1]; rfl
    refine ⟨⟨d.a, Y, d.sq, d.ls⟩ :: t.map DA.d, by rw [hn, e1]; simp, h.src.kept hg (fun k e => by cases e; omega), h.grew.andThen hg (fun k e => by cases e; exact .inl hbb), ⟨⟨⟨d.a, Y, d.sq, d.ls⟩, la, lc⟩ :: t, rfl, ?_, ?_, ?_⟩, ?_⟩
    · have e2 : (⟨d.a, Y, d.sq, d.ls⟩ :: t.map DA.d : List D).length = dn := by rw [hn, e1]; simp
      rw [e2]
      simpa [cellsAll, DA.cells, DA.v] using hst.1
    · intro y hy
      rcases List.mem_cons.1 hy with rfl | q
      · have := x3 ⟨d, la, lc⟩ (List.mem_cons_self ..)
        exact OwG.own_keepO this hg (fun b' e q => OwG.own_apart this x2 (by decide) b' e q)
      · have := x3 y (List.mem_cons_of_mem _ q)
        exact OwG.own_keepO this hg (fun b' e q => OwG.own_apart this x2 (by decide) b' e q)
    · exact List.pairwise_cons.2 ⟨fun y hy => (List.pairwise_cons.1 x4).1 y hy, (List.pairwise_cons.1 x4).2⟩
    · intro y hy
      rcases List.mem_cons.1 hy with rfl | q
      · have := h.ok d (by rw [e1]; exact List.mem_cons_self ..)
        exact ⟨this.1, hY.1, hY.2, this.2.2.2⟩
      · exact h.ok y (by rw [e1]; exact List.mem_cons_of_mem _ q)
def lenV : Value → Nat
  | .slice _ n _ => n
  | _ => 0
end
set_option maxRecDepth 100000 in
set_option maxHeartbeats 8000000 in
theorem docs_any (ao : Option Addr) (len cap g : Nat) (w : World) (hS : Src ao len cap g w) :
    Calls Tryz.prog 25 #[.pointer (some ⟨g, 0, none⟩)] w fun e w' => DcOut ao len cap g w e w' := by
  have hgl := hS.lt
  obtain ⟨i0, hi, hz0, hz1, hz2⟩ := info_parts infoD
  have HN := hid_intro (fun most W hm h => n_any ao len cap g most W hm h)
  have HON := hid_intro (fun W h => one_any ao len cap g 15 W (by omega) h)
  have HWH := hid_intro (fun W h => who_any ao len cap g W h)
  have HSO := hid_intro (fun W h => some_any ao len cap g W h)
  have HIS := hid_intro (fun da bb dc cp ds a m bl W h1 h2 h3 h4 h5 h6 h7 => sissue da bb 0 dc cp ds a m bl W h1 h2 h3 h4 h5 h6 h7)
  have HE := hid_intro (own_empty w w.heap.size 28 4 (Nat.le_refl _))
  have HD0 : Hid (DsD ao len cap g w (.slice (some ⟨w.heap.size, 0, none⟩) 0 0) [] (w.alloc (.cells #[] 28))) := hid_intro ⟨hS.alloc _, World.grownBy_alloc w _ _, ⟨[], rfl, HE.out, (fun x h => by cases h), List.Pairwise.nil⟩, fun e h => absurd h (by simp)⟩
  clear hS HE
  go_enter Tryz.func25, Tryz.ntmps25
  go_wp2_with fail
  refine (HN.out 7 _ (by omega) HD0.out.src).mono ?_
  rintro e w1 ⟨v0, rfl, lo0, -, hi0, hS1, hg1⟩
  have ht0 : v0 < 7 := hi0 (by omega)
  obtain ⟨k0, rfl⟩ : ∃ j : Nat, v0 = (j : Int) := ⟨v0.toNat, by omega⟩
  have HD1 := hid_intro (HD0.out.step hgl hS1 hg1)
  clear hS1 hg1 hi0 HD0
  go_wp2_with fail
  go_loopw [3, 4] (fun v z wr => ∃ (k : Nat) (ds : List D), z = .int .i64 k ∧ k ≤ 6 ∧ ds.length + k ≤ 6 ∧ Hid (DsD ao len cap g w v ds wr)) (fun v z _ => (intOf z).toNat)
  case atStart => exact ⟨k0, [], rfl, by omega, by simp; omega, HD1⟩
  case round =>
    clear HD1
    obtain ⟨k, ds, rfl, hk3, hLk, HD⟩ := hrel
    obtain ⟨da, dc, rfl, hDc⟩ := HD.out.own.dcs
    obtain ⟨dn, hdn⟩ : ∃ dn, dn = ds.length := ⟨_, rfl⟩
    rw [← hdn] at hLk HD ⊢
    have HDN := hid_intro hdn
    clear hdn hDc
    by_cases hk : k = 0
    · subst hk
      go_wp2_with fail
      refine (HON.out _ HD.out.src).mono ?_
      rintro e w2 ⟨⟨b, rfl⟩, hS2, hg2⟩
      have HD2 := hid_intro (HD.out.step hgl hS2 hg2)
      clear hS2 hg2 HD
      cases b
      · go_wp2_with fail
        go_ret
        exact HD2.out.out hgl (by have := HDN.out; omega)
      · go_wp2_with fail
        refine (HN.out 4 _ (by omega) HD2.out.src).mono ?_
        rintro e w3 ⟨v3, rfl, lo3, -, hi3, hS3, hg3⟩
        have ht3 : v3 < 4 := hi3 (by omega)
        have HD3 := hid_intro (HD2.out.step hgl hS3 hg3)
        clear hS3 hg3 hi3 HD2
        rcases (show v3 = 0 ∨ v3 = 1 ∨ v3 = 2 ∨ (¬ v3 = 0 ∧ ¬ v3 = 1 ∧ ¬ v3 = 2) by omega) with rfl | rfl | rfl | ⟨n0, n1, n2⟩
        · go_wp2_with fail
          refine (HN.out 4 _ (by omega) HD3.out.src).mono ?_
          rintro e w4 ⟨v4, rfl, lo4, -, hi4, hS4, hg4⟩
          have HD4 := hid_intro (HD3.out.step hgl hS4 hg4)
          clear hS4 hg4 hi4 HD3
          obtain ⟨k5, hk5e⟩ : ∃ z, z = w4.alloc (.cells #[.string ⟨#[97, 110, 110]⟩, .int .i64 600, .int .i64 v4, .slice none 0 0] 28) := ⟨_, rfl⟩
          have hal : Below w4.heap.size w4 k5 := by rw [hk5e]; exact (Below.refl _ _).alloc (Nat.le_refl _) _
          have HNW : Hid (∀ j u, ([.string ⟨#[97, 110, 110]⟩, .int .i64 600, .int .i64 v4, .slice none 0 0] : List Value)[j]? = some u → k5.cell? ((⟨w4.heap.size, 0, none⟩ : Addr).add j) = some u) := hid_intro (by rw [hk5e]; exact new_cells4 w4 [.string ⟨#[97, 110, 110]⟩, .int .i64 600, .int .i64 v4, .slice none 0 0] 28)
          have HDO : Hid (∀ u ∈ ([.string ⟨#[97, 110, 110]⟩, .int .i64 600, .int .i64 v4, .slice none 0 0] : List Value), u.oneCell' = true) := hid_intro (by intro u hu; simp at hu; rcases hu with rfl | rfl | rfl | rfl <;> rfl)
          have HS5 : Hid (w.heap.size ≤ k5.heap.size) := hid_intro (by have := hal.size; have := HD4.out.grew.size; omega)
          have HD5 := hid_intro (HD4.out.below hal)
          obtain ⟨xs, x1, x2, x3, x4⟩ := HD5.out.own
          have HX1 := hid_intro x1
          have HX2 := hid_intro x2
          have HX3 := hid_intro x3
          have HX4 := hid_intro x4
          have HO5 := hid_intro x2
          rw [← HDN.out] at HO5
          have HK5 := hid_intro hk5e
          have hsz1 : dn + 1 ≤ maxLen := by unfold maxLen; omega
          have hsz2 : (dn + 1) * 56 ≤ 140737488355328 := by omega
          clear hk5e hal x1 x2 x3 x4
          go_wp2_with (at_builtin; rw [← HK5.out]; refine wpList_append_own _ rfl _ _ 23 rfl w.heap.size 28 i0 (.agg #[.string ⟨#[]⟩, .int .i64 0, .int .i64 0, .slice none 0 0]) 4 56 Tryz.underlying23 hi hz0 hz1 hz2 rfl (by decide) _ _ _ rfl HO5.out ⟨w4.heap.size, 0, none⟩ 1 1 [.string ⟨#[97, 110, 110]⟩, .int .i64 600, .int .i64 v4, .slice none 0 0] rfl rfl HNW.out HDO.out hsz1 hsz2 HS5.out ?_)
          intro v' w9 hown hgrow hne
          have HD9 : Hid (DsD ao len cap g w v' (ds ++ [(⟨⟨#[97, 110, 110]⟩, 600, v4, []⟩ : D)]) w9) := hid_intro (HD5.out.more (d := (⟨⟨#[97, 110, 110]⟩, 600, v4, []⟩ : D)) HX1.out HX2.out HX3.out HX4.out hgl ⟨by show ByteArray.size ⟨#[97, 110, 110]⟩ ≤ 20; decide, by show (-1 : Int) ≤ 600; omega, by show (600 : Int) ≤ 2761; omega, by simp, fun e h => absurd h (by simp)⟩ rfl hgrow (by rw [← HDN.out]; exact hown))
          clear hown hgrow hne HX1 HX2 HX3 HX4 HO5 HD5
          go_wp2_with fail
          go_ret
          exact HD9.out.out hgl (by simp; have := HDN.out; omega)
        · by_cases hz : dn = 0
          · subst hz
            go_wp2_with fail
            go_ret
            exact HD3.out.out hgl (by have := HDN.out; omega)
          · obtain ⟨n', rfl⟩ : ∃ n', dn = n' + 1 := ⟨dn - 1, by omega⟩
            obtain ⟨b, hdb⟩ : ∃ b, da = some ⟨b, 0, none⟩ := by
              obtain ⟨xs, _, x2, _⟩ := HD3.out.own
              rw [← HDN.out] at x2
              obtain ⟨b, c, e⟩ := OwG.own_form x2
              injection e with e1 e2 e3
              exact ⟨b, e1⟩
            subst hdb
            have hcp : n' + 1 ≤ dc := by
              obtain ⟨xs, _, x2, _⟩ := HD3.out.own
              rcases x2.2 with ⟨h0, _⟩ | ⟨g', cap', cur, e, _, _, h2, _⟩
              · cases h0
              · injection e with e1 e2 e3
                rw [← HDN.out, ← e3] at h2
                exact h2
            go_wp2_with fail
            all_goals go_ret
            all_goals first | exact HD3.out.tail HDN.out.symm hgl (by omega) (by omega) | exact HD3.out.tail0 HDN.out.symm (by omega)
        · go_wp2_with fail
          go_loopw [3] (fun v wr => ∃ (ds : List D), ds.length ≤ 32 ∧ Hid (DsD ao len cap g w v ds wr)) (fun v _ => 40 - lenV v)
          case atStart => exact ⟨ds, by have := HDN.out; omega, HD3⟩
          case round =>
            clear HD3 HDN
            obtain ⟨ds, hds, HD⟩ := hrel
            obtain ⟨da, dc, rfl, hDc⟩ := HD.out.own.dcs
            obtain ⟨dn, hdn⟩ : ∃ dn, dn = ds.length := ⟨_, rfl⟩
            rw [← hdn] at hds HD ⊢
            have HDN := hid_intro hdn
            clear hdn hDc
            go_wp2_with fail
            refine (HN.out 3 _ (by omega) HD.out.src).mono ?_
            rintro e w4 ⟨v4, rfl, lo4, -, hi4, hS4, hg4⟩
            have ht4 : v4 < 3 := hi4 (by omega)
            have HD4 := hid_intro (HD.out.step hgl hS4 hg4)
            clear hS4 hg4 hi4 HD
            by_cases hlt : (dn : Int) < 29 + v4
            · skip
              obtain ⟨k5, hk5e⟩ : ∃ z, z = w4.alloc (.cells #[.string ⟨#[122, 101, 100]⟩, .int .i64 dn, .int .i64 0, .slice none 0 0] 28) := ⟨_, rfl⟩
              have hal : Below w4.heap.size w4 k5 := by rw [hk5e]; exact (Below.refl _ _).alloc (Nat.le_refl _) _
              have HNW : Hid (∀ j u, ([.string ⟨#[122, 101, 100]⟩, .int .i64 dn, .int .i64 0, .slice none 0 0] : List Value)[j]? = some u → k5.cell? ((⟨w4.heap.size, 0, none⟩ : Addr).add j) = some u) := hid_intro (by rw [hk5e]; exact new_cells4 w4 [.string ⟨#[122, 101, 100]⟩, .int .i64 dn, .int .i64 0, .slice none 0 0] 28)
              have HDO : Hid (∀ u ∈ ([.string ⟨#[122, 101, 100]⟩, .int .i64 dn, .int .i64 0, .slice none 0 0] : List Value), u.oneCell' = true) := hid_intro (by intro u hu; simp at hu; rcases hu with rfl | rfl | rfl | rfl <;> rfl)
              have HS5 : Hid (w.heap.size ≤ k5.heap.size) := hid_intro (by have := hal.size; have := HD4.out.grew.size; omega)
              have HD5 := hid_intro (HD4.out.below hal)
              obtain ⟨xs, x1, x2, x3, x4⟩ := HD5.out.own
              have HX1 := hid_intro x1
              have HX2 := hid_intro x2
              have HX3 := hid_intro x3
              have HX4 := hid_intro x4
              have HO5 := hid_intro x2
              rw [← HDN.out] at HO5
              have HK5 := hid_intro hk5e
              have hsz1 : dn + 1 ≤ maxLen := by unfold maxLen; omega
              have hsz2 : (dn + 1) * 56 ≤ 140737488355328 := by omega
              clear hk5e hal x1 x2 x3 x4
              go_wp2_with (at_builtin; rw [← HK5.out]; refine wpList_append_own _ rfl _ _ 23 rfl w.heap.size 28 i0 (.agg #[.string ⟨#[]⟩, .int .i64 0, .int .i64 0, .slice none 0 0]) 4 56 Tryz.underlying23 hi hz0 hz1 hz2 rfl (by decide) _ _ _ rfl HO5.out ⟨w4.heap.size, 0, none⟩ 1 1 [.string ⟨#[122, 101, 100]⟩, .int .i64 dn, .int .i64 0, .slice none 0 0] rfl rfl HNW.out HDO.out hsz1 hsz2 HS5.out ?_)
              intro v' w9 hown hgrow hne
              have HD9 : Hid (DsD ao len cap g w v' (ds ++ [(⟨⟨#[122, 101, 100]⟩, dn, 0, []⟩ : D)]) w9) := hid_intro (HD5.out.more (d := (⟨⟨#[122, 101, 100]⟩, dn, 0, []⟩ : D)) HX1.out HX2.out HX3.out HX4.out hgl ⟨by show ByteArray.size ⟨#[122, 101, 100]⟩ ≤ 20; decide, by show (-1 : Int) ≤ (dn : Int); omega, by show (dn : Int) ≤ 2761; omega, by simp, fun e h => absurd h (by simp)⟩ rfl hgrow (by rw [← HDN.out]; exact hown))
              clear hown hgrow hne HX1 HX2 HX3 HX4 HO5 HD5
              go_wp2_with fail
              go_roundw
              case rel => exact ⟨_, by simp; have := HDN.out; omega, HD9⟩
              case measure =>
                have hl9 : lenV v' = dn + 1 := by
                  obtain ⟨a9, c9, e9, _⟩ := HD9.out.own.dcs
                  rw [e9]
                  show (ds ++ [_]).length = _
                  simp
                  exact HDN.out.symm
                rw [hl9]
                show 40 - (dn + 1) < 40 - dn
                omega
            · go_wp2_with fail
              go_ret
              exact HD4.out.out hgl (by have := HDN.out; omega)
        · by_cases hz : dn = 0
          · subst hz
            go_wp2_with fail
            go_ret
            exact HD3.out.out hgl (by have := HDN.out; omega)
          · have hzp : (0 : Int) < (dn : Int) := by omega
            obtain ⟨b, hdb⟩ : ∃ b, da = some ⟨b, 0, none⟩ := by
              obtain ⟨xs, _, x2, _⟩ := HD3.out.own
              obtain ⟨n', hn'⟩ : ∃ n', ds.length = n' + 1 := ⟨ds.length - 1, by have := HDN.out; omega⟩
              rw [hn'] at x2
              obtain ⟨b, c, e⟩ := OwG.own_form x2
              injection e with e1 e2 e3
              exact ⟨b, e1⟩
            subst hdb
            go_wp2_with fail
            obtain ⟨k5, hk5e⟩ : ∃ z, z = w3.alloc (.cells #[.int .i64 (-1), .int .i64 2760, .int .i64 2761] 2) := ⟨_, rfl⟩
            obtain ⟨ib, hib⟩ : ∃ z, z = w3.heap.size := ⟨_, rfl⟩
            have hal : Below w3.heap.size w3 k5 := by rw [hk5e]; exact (Below.refl _ _).alloc (Nat.le_refl _) _
            have hB5 := BlkW.new w3 [.int .i64 (-1), .int .i64 2760, .int .i64 2761] 2
            have hgi : g < ib := by rw [hib]; exact HD3.out.src.lt
            have HD5 := hid_intro (HD3.out.below hal)
            rw [← hk5e, ← hib] at hB5 ⊢
            clear hal hk5e hib HD3
            refine (HN.out 3 _ (by omega) HD5.out.src).mono ?_
            rintro e w4 ⟨v4, rfl, lo4, -, hi4, hS4, hg4⟩
            have ht4 : v4 < 3 := hi4 (by omega)
            obtain ⟨tt, rfl⟩ : ∃ j : Nat, v4 = (j : Int) := ⟨v4.toNat, by omega⟩
            have htt : tt < 3 := by omega
            have hB4 := OwG.blkW_grown hB5 hg4 (by simp only [ne_eq, Option.some.injEq]; omega)
            have HD4 := hid_intro (HD5.out.step hgl hS4 hg4)
            obtain ⟨Y, hY, hY1, hY2⟩ : ∃ Y : Int, w4.cell? ⟨ib, tt, none⟩ = some (.int .i64 Y) ∧ -1 ≤ Y ∧ Y ≤ 2761 := by
              rcases (show tt = 0 ∨ tt = 1 ∨ tt = 2 by omega) with rfl | rfl | rfl
              · exact ⟨_, hB4.1.2 0 (by simp), by omega, by omega⟩
              · exact ⟨_, hB4.1.2 1 (by simp), by omega, by omega⟩
              · exact ⟨_, hB4.1.2 2 (by simp), by omega, by omega⟩
            have hil := hB4.1.1
            obtain ⟨ds', hl', hD6⟩ := HD4.out.month HDN.out hgl (by omega) ⟨hY1, hY2⟩
            have HD6 := hid_intro hD6
            obtain ⟨hbl, hbf, hbc⟩ : b < w4.heap.size ∧ w4.frozen? ⟨b, 1, none⟩ = false ∧ ∃ u, w4.cell? ⟨b, 1, none⟩ = some u := by
              obtain ⟨xs, _, x2, _⟩ := HD4.out.own
              refine ⟨(x2.lt b rfl).2, ?_, ?_⟩
              · rw [← HDN.out] at x2
                exact x2.frozenAt 1
              · rw [← HDN.out] at x2
                have := x2.cellAt 1 (by omega)
                have hxl := x2.1
                rw [this]
                exact ⟨_, List.getElem?_eq_getElem (by omega)⟩
            obtain ⟨u1, hbc⟩ := hbc
            clear hS4 hg4 hi4 hB5 hB4 HD5 hD6 HD4
            go_wp2_with fail
            go_ret
            exact HD6.out.out hgl (by omega)
    · obtain ⟨k', rfl⟩ : ∃ k', k = k' + 1 := ⟨k - 1, by omega⟩
      have hkp : (0 : Int) < ((k' + 1 : Nat) : Int) := by omega
      go_wp2_with fail
      refine (HWH.out _ HD.out.src).mono ?_
      rintro e w2 ⟨⟨T, m, rfl, hT, hm1, hm2⟩, hS2, hg2⟩
      have HD2 := hid_intro (HD.out.step hgl hS2 hg2)
      have HTs : Hid (T.size ≤ 20) := hid_intro (by rcases hT with rfl | rfl <;> decide)
      clear hS2 hg2 HD hT
      go_wp2_with fail
      refine (HSO.out _ HD2.out.src).mono ?_
      rintro e w3 ⟨vb, bl, rfl, hL3, hbl⟩
      have HD3 := hid_intro (HD2.out.step hgl hL3.src hL3.grew)
      obtain ⟨gb, cp, rfl, hc1, hc2, hc3, hc4, hLi⟩ := hL3.own.open
      have HBN := hid_intro hL3.nm
      have HLI := hid_intro hLi
      clear hL3 HD2 hLi hc1 hc2 hc3 hc4
      go_wp2_with fail
      have HDc : Hid (Dcs da ds w3) := hid_intro (by
        obtain ⟨da', dc', e, h⟩ := HD3.out.own.dcs
        cases e
        exact h)
      have hSI := HIS.out da gb dc cp ds T m bl w3 (by have := HDN.out; omega) (fun d hd => (HD3.out.ok d hd).sm) (by have := HTs.out; omega) (by omega) (fun e he => by have := (HBN.out e he).size; omega) HDc.out HLI.out
      have HDK := hid_intro (fun h : isC ds T m bl = 0 => newD_ok h HTs.out ⟨hm1, hm2⟩ HBN.out hbl HD3.out.ok)
      rw [← HDN.out] at hSI
      refine hSI.mono ?_
      rintro e w4 ⟨v4, rfl, ⟨vd, xs, la, lc, rfl, a1, a2, a3, a4, a5, a6⟩, hb4⟩
      have HO4 : Hid (DsO w.heap.size vd (isD ds T m bl) w4) := hid_intro (DsO.low ⟨xs, a1, a2, a3, a4⟩ HD3.out.grew.size)
      have HD4 := hid_intro (HD3.out.below hb4)
      have HISD : Hid (isC ds T m bl = 0 → isD ds T m bl = ds ++ [newD ds T m bl]) := hid_intro (fun h => if_pos h)
      clear a1 a2 a3 a4 a5 a6 hSI hb4 HDc HLI
      obtain ⟨nD, hnD⟩ : ∃ z, z = (isD ds T m bl).length := ⟨_, rfl⟩
      obtain ⟨do4, dc4, hvd, -⟩ := HO4.out.dcs
      rw [← hnD] at hvd
      subst hvd
      clear hnD
      have hba : ∀ o : Obj, Below w4.heap.size w4 (w4.alloc o) := fun o => (Below.refl _ _).alloc (Nat.le_refl _) o
      have HBA := hid_intro hba
      clear hba
      generalize isX ds T m bl = X at *
      generalize hcd : isC ds T m bl = cd at *
      by_cases h0 : cd = 0
      · subst h0
        have HD5 : Hid (∀ o, DsD ao len cap g w (.slice do4 nD dc4) (ds ++ [newD ds T m bl]) (w4.alloc o)) := hid_intro (fun o => ⟨HD4.out.src.alloc o, OwG.galloc HD4.out.grew o, by rw [← HISD.out rfl]; exact HO4.out.below (HBA.out o), fun d hd => by
          rcases List.mem_append.1 hd with q | q
          · exact HD4.out.ok d q
          · rw [List.mem_singleton] at q
            subst q
            exact HDK.out rfl⟩)
        clear HO4 HD4 HDK HISD hcd
        go_wp2_with fail
        go_roundw
        case rel => exact ⟨k', _, by go_num, by omega, by simp; have := HDN.out; omega, hid_intro (HD5.out _)⟩
        case measure => simp [intOf]
      · have HD5 := hid_intro (fun o => HD4.out.below (HBA.out o))
        have h0b : (cd == 0) = false := by simp [h0]
        clear HO4 HD4 HDK HISD hcd
        go_wp2_with fail
        go_roundw
        case rel => exact ⟨k', ds, by go_num, by omega, by have := HDN.out; omega, hid_intro (HD5.out _)⟩
        case measure => simp [intOf]
end DrawR
end Go.Proofs.YtlfebpgohpmknaaGreatDoor
namespace Go.Proofs.YtlfebpgohpmknaaGreatDoor
open Go.ChangeShapes Go.WideShapes Go.ChangeAt Go.RowKit
set_option linter.unusedVariables false
namespace LedR
open LinR RowG LtR NetR DocR
open NameR (nameB)
theorem val_all (s : Int) (n : ByteArray) : ∀ (b L : List N), Rise L → Rise b → val (all L b s) n = val L n + s * val b n
  | [], L, _, _ => by simp [all, val]
  | x :: b, L, hL, hb => by
    have h0 := List.pairwise_cons.1 hb
    show val (all (put L (sg s x)) b s) n = _
    rw [val_all s n b _ (rise_put _ hL) h0.2, val_put (sg s x) hL n]
    show (if n = x.i then val L n + s * x.n else val L n) + s * val b n = val L n + s * (if x.i = n then x.n else val b n)
    by_cases e : n = x.i
    · have hz : val b n = 0 := val_none (fun y hy q => by
        have := h0.1 y hy
        rw [q, e, lt_irrefl] at this
        cases this)
      rw [if_pos e, if_pos e.symm, hz]
      omega
    · rw [if_neg e, if_neg (fun q => e q.symm)]
theorem rise_filter {L : List N} (p : N → Bool) (h : Rise L) : Rise (L.filter p) := List.Pairwise.filter p h
theorem val_filter : ∀ {L : List N} (n : ByteArray), Rise L → val (L.filter nz) n = val L n
  | [], _, _ => rfl
  | x :: l, n, h => by
    have h0 := List.pairwise_cons.1 h
    have ih := val_filter n h0.2
    rw [List.filter_cons]
    cases hx : nz x
    · simp only [Bool.false_eq_true, if_false]
      rw [ih, val]
      by_cases e : x.i = n
      · rw [if_pos e]
        unfold nz at hx
        have hz : x.n = 0 := by simpa using hx
        rw [hz]
        exact val_none (fun y hy q => by
          have := h0.1 y hy
          rw [q, e, lt_irrefl] at this
          cases this)
      · rw [if_neg e]
    · simp only [if_true]
      rw [val, val, ih]
theorem rise_far {x : N} {L : List N} (h : Rise (x :: L)) {n : ByteArray} (hn : lt n x.i = true) : val (x :: L) n = 0 := val_none (fun y hy q => by
  rcases List.mem_cons.1 hy with rfl | hy
  · rw [q, lt_irrefl] at hn; cases hn
  · have := lt_trans hn ((List.pairwise_cons.1 h).1 y hy)
    rw [q, lt_irrefl] at this; cases this)
/-- Two rising lists that tell the same numbers, none of them 0, are the same. -/
theorem rise_ext : ∀ {L M : List N}, Rise L → Rise M → (∀ y ∈ L, y.n ≠ 0) → (∀ y ∈ M, y.n ≠ 0) → (∀ n, val L n = val M n) → L = M
  | [], [], _, _, _, _, _ => rfl
  | [], y :: m, _, hM, _, zM, hv => by
    have := hv y.i
    rw [val_mem hM y (List.mem_cons_self ..)] at this
    exact absurd this.symm (zM y (List.mem_cons_self ..))
  | x :: l, [], hL, _, zL, _, hv => by
    have := hv x.i
    rw [val_mem hL x (List.mem_cons_self ..)] at this
    exact absurd this (zL x (List.mem_cons_self ..))
  | x :: l, y :: m, hL, hM, zL, zM, hv => by
    have hxi : x.i = y.i := by
      cases h1 : lt x.i y.i
      · cases h2 : lt y.i x.i
        · exact lt_total h1 h2
        · have := hv y.i
          rw [val_mem hM y (List.mem_cons_self ..), rise_far hL h2] at this
          exact absurd this.symm (zM y (List.mem_cons_self ..))
      · have := hv x.i
        rw [val_mem hL x (List.mem_cons_self ..), rise_far hM h1] at this
        exact absurd this (zL x (List.mem_cons_self ..))
    have hxn : x.n = y.n := by
      have := hv x.i
      rw [val_mem hL x (List.mem_cons_self ..), hxi, val_mem hM y (List.mem_cons_self ..)] at this
      exact this
    have hl := List.pairwise_cons.1 hL
    have hm := List.pairwise_cons.1 hM
    have ht : l = m := rise_ext hl.2 hm.2 (fun z hz => zL z (List.mem_cons_of_mem _ hz)) (fun z hz => zM z (List.mem_cons_of_mem _ hz)) (fun n => by
      have h := hv n
      rw [val, val, ← hxi] at h
      by_cases e : x.i = n
      · have z1 : val l n = 0 := val_none (fun z hz q => by
          have := hl.1 z hz
          rw [q, e, lt_irrefl] at this
          cases this)
        have z2 : val m n = 0 := val_none (fun z hz q => by
          have := hm.1 z hz
          rw [q, ← hxi, e, lt_irrefl] at this
          cases this)
        rw [z1, z2]
      · rw [if_neg e, if_neg e] at h
        exact h)
    obtain ⟨xi, xn⟩ := x
    obtain ⟨yi, yn⟩ := y
    dsimp only at hxi hxn
    rw [hxi, hxn, ht]
theorem clL_ov {G : List N} (h : ovB G = true) : clL G = G.filter nz := by unfold clL; rw [h]; rfl
theorem clL_zero {G : List N} (h : ∀ y ∈ G, y.n = 0) : clL G = [] := by
  unfold clL
  cases ovB G
  · rfl
  · rw [cond_true, List.filter_eq_nil_iff]
    intro y hy
    simp [nz, h y hy]
theorem zero_self {a : List N} (h : Rise a) : ∀ y ∈ all a a (-1), y.n = 0 := fun y hy => by
  rw [← val_mem (rise_all a (-1) h) y hy, val_all (-1) y.i a a h h]
  omega
theorem ov_of {es : List N} (h : ∀ e ∈ es, -1000000000000000 ≤ e.n ∧ e.n ≤ 1000000000000000) : ovB es = true := by
  unfold ovB
  rw [List.all_eq_true]
  intro x hx
  unfold nOk
  exact decide_eq_true (h x hx)
theorem less_self (a : List N) : lessB a a = [] := by
  unfold lessB
  cases h : sB a
  · rfl
  · simp only [Bool.and_self, cond_true]
    exact clL_zero (zero_self (right_rise (sB_iff.1 h)))
theorem right_none : sB [] = true := sB_yes ⟨by simp, fun i hi => absurd hi (by simp)⟩
theorem less_none {a : List N} (h : sB a = true) : lessB a [] = a := by
  have hr := sB_iff.1 h
  unfold lessB
  rw [h, right_none]
  show clL (all a [] (-1)) = a
  have e : all a [] (-1) = a := rfl
  rw [e, clL_ov (ov_of (right_bd hr)), right_nz hr]
theorem net_snoc (ds : List D) (d : D) (a : ByteArray) (m : Int) : net (ds ++ [d]) a m = bif of a m d then all (net ds a m) d.ls 1 else net ds a m := by
  unfold net
  rw [List.foldl_append]
  rfl
theorem cnt_snoc (ds : List D) (d : D) (a : ByteArray) (m : Int) : cnt (ds ++ [d]) a m = cnt ds a m + (bif of a m d then 1 else 0) := by
  unfold cnt
  rw [List.filter_append]
  cases h : of a m d <;> simp [h]
theorem right_mk {es : List N} (h6 : es.length ≤ 6) (hr : Rise es) (hok : ∀ y ∈ es, lOk y = true) : SRight es := by
  refine ⟨h6, fun i hi => ?_⟩
  have hm := hok _ (getD_mem (z := N.zero) es i hi)
  refine ⟨?_, hm⟩
  cases i with
  | zero =>
    refine lt_empty ?_
    unfold lOk at hm
    simp only [Bool.and_eq_true] at hm
    rcases Nat.lt_or_ge (es.getD 0 N.zero).i.size 1 with q | q
    · have := NameR.name_size (.inl q)
      rw [this] at hm
      exact absurd hm.1 (by simp)
    · exact q
  | succ k =>
    have := List.pairwise_iff_getElem.1 hr k (k + 1) (by omega) hi (by omega)
    show lt (es.getD k N.zero).i (es.getD (k + 1) N.zero).i = true
    rw [show es.getD k N.zero = es[k]'(by omega) by simp [List.getD, show k < es.length by omega], show es.getD (k + 1) N.zero = es[k + 1] by simp [List.getD, hi]]
    exact this
/-- Rising lines whose Meters are some of six are at most six. -/
theorem few {es : List N} {ks : List ByteArray} (hr : Rise es) (hk : ∀ y ∈ es, y.i ∈ ks) : es.length ≤ ks.length := by
  have hn : (es.map N.i).Nodup := by
    unfold List.Nodup
    rw [List.pairwise_map]
    exact List.Pairwise.imp (fun {x y} h e => by rw [e, lt_irrefl] at h; cases h) hr
  have hs : es.map N.i ⊆ ks := fun n hn => by
    obtain ⟨y, hy, rfl⟩ := List.mem_map.1 hn
    exact hk y hy
  have := List.Nodup.length_le_of_subset hn hs
  simpa using this
section
variable {ds : List D} {a : ByteArray} {m : Int} {bl : List N}
theorem isC_go (h : isC ds a m bl = 0) : LRight ds ∧ nameB a = true ∧ (0 ≤ m ∧ m ≤ 2760) ∧ SRight bl ∧ ovB (moreG ds a m bl) = true ∧ ¬ (clL (moreG ds a m bl) = [] ∧ 0 < cnt ds a m) ∧ ds.length < 30 := by
  by_cases hb : 400 < ds.length ∨ 8000 < a.size ∨ 400 < bl.length
  · have := (isBig ds a m bl hb).2.2
    rw [h] at this
    cases this
  · cases hf : isFormB ds a m bl
    · have := (isForm ds a m bl hb hf).2.2
      rw [h] at this
      cases this
    · obtain ⟨g1, g2, g3, g4⟩ := isGo ds a m bl hb hf
      cases ho : ovB (moreG ds a m bl)
      · have := (g1 ho).2.2
        rw [h] at this
        cases this
      · have hq : ¬ (clL (moreG ds a m bl) = [] ∧ 0 < cnt ds a m) := fun q => by
          have := (g2 ho q.1 q.2).2.2
          rw [h] at this
          cases this
        unfold isFormB at hf
        simp only [Bool.and_eq_true, decide_eq_true_eq] at hf
        refine ⟨lB_iff.1 hf.1, hf.2.1, hf.2.2.1, sB_iff.1 hf.2.2.2, rfl, hq, ?_⟩
        rcases Nat.lt_or_ge ds.length 30 with q | q
        · exact q
        · have := (g3 ho hq q).2.2
          rw [h] at this
          cases this
theorem rise_net (h : LRight ds) : Rise (net ds a m) := by
  have := (net_facts (ds := ds) ds.length (Nat.le_refl _) h.2.1 a m).1
  rw [List.take_length] at this
  exact this
theorem net_nm (h : LRight ds) : ∀ z ∈ net ds a m, nameB z.i = true := by
  have key : ∀ (xs : List D) (L : List N), (∀ d ∈ xs, ∀ e ∈ d.ls, nameB e.i = true) → (∀ y ∈ L, nameB y.i = true) → ∀ y ∈ xs.foldl (fun L d => bif of a m d then all L d.ls 1 else L) L, nameB y.i = true := by
    intro xs
    induction xs with
    | nil => intro L _ hL; exact hL
    | cons d xs ih =>
      intro L hd hL
      refine ih _ (fun d' h' => hd d' (List.mem_cons_of_mem _ h')) ?_
      show ∀ y ∈ (bif of a m d then all L d.ls 1 else L), nameB y.i = true
      cases of a m d
      · exact hL
      · exact all_i (fun n => nameB n = true) d.ls 1 hL (hd d (List.mem_cons_self ..))
  refine key ds [] (fun d hd e he => ?_) (fun y hy => absurd hy (by simp))
  obtain ⟨i, hi, rfl⟩ := List.getElem_of_mem hd
  have h2 := dB_lines (h.2.1 i hi).1
  rw [show ds.getD i D.zero = ds[i] by simp [List.getD, hi]] at h2
  obtain ⟨j, hj, rfl⟩ := List.getElem_of_mem he
  have h3 := (h2.2 j hj).2
  rw [show ds[i].ls.getD j N.zero = ds[i].ls[j] by simp [List.getD, hj]] at h3
  unfold lOk at h3
  simp only [Bool.and_eq_true] at h3
  exact h3.1
theorem net_new (h : isC ds a m bl = 0) : (net (ds ++ [newD ds a m bl]) a m).filter nz = bl ∧ Rise (net (ds ++ [newD ds a m bl]) a m) ∧ ∀ n, val (net (ds ++ [newD ds a m bl]) a m) n = val bl n := by
  obtain ⟨h1, h2, h3, h4, h5, h6, h7⟩ := isC_go h
  have hn := rise_net (a := a) (m := m) h1
  have hb := right_rise h4
  have hG : Rise (moreG ds a m bl) := rise_all _ _ hb
  have hD : Rise (clL (moreG ds a m bl)) := by rw [clL_ov h5]; exact rise_filter nz hG
  have e : net (ds ++ [newD ds a m bl]) a m = all (net ds a m) (clL (moreG ds a m bl)) 1 := by
    rw [net_snoc]
    have : of a m (newD ds a m bl) = true := of_iff.2 ⟨rfl, rfl⟩
    rw [this]
    rfl
  have hv : ∀ n, val (net (ds ++ [newD ds a m bl]) a m) n = val bl n := fun n => by
    rw [e, val_all 1 n _ _ hn hD, clL_ov h5, val_filter n hG]
    unfold moreG
    rw [val_all (-1) n _ _ hb (rise_filter nz hn), val_filter n hn]
    omega
  have hr : Rise (net (ds ++ [newD ds a m bl]) a m) := by rw [e]; exact rise_all _ _ hn
  refine ⟨rise_ext (rise_filter nz hr) hb (fun y hy => ?_) (fun y hy => ?_) (fun n => ?_), hr, hv⟩
  · have := (List.mem_filter.1 hy).2
    unfold nz at this
    exact of_decide_eq_true this
  · have hz := right_nz h4
    rw [← hz] at hy
    have := (List.mem_filter.1 hy).2
    unfold nz at this
    exact of_decide_eq_true this
  · rw [val_filter n hr]
    exact hv n
theorem ov_new (h : isC ds a m bl = 0) : ovB (net (ds ++ [newD ds a m bl]) a m) = true := by
  obtain ⟨h1, h2, h3, h4, h5, h6, h7⟩ := isC_go h
  obtain ⟨e1, e2, e3⟩ := net_new h
  refine ov_of (fun y hy => ?_)
  rw [← val_mem e2 y hy, e3]
  by_cases q : ∃ z ∈ bl, z.i = y.i
  · obtain ⟨z, hz, q⟩ := q
    rw [← q, val_mem (right_rise h4) z hz]
    exact right_bd h4 z hz
  · rw [val_none (fun z hz e => q ⟨z, hz, e⟩)]
    omega
theorem new_right (h : isC ds a m bl = 0) (h6 : (newD ds a m bl).ls.length ≤ 6) : dB (newD ds a m bl) = true := by
  obtain ⟨h1, h2, h3, h4, h5, hq, h7⟩ := isC_go h
  have hc := cnt_le ds a m
  have hG : Rise (moreG ds a m bl) := rise_all _ _ (right_rise h4)
  have hs : sB (newD ds a m bl).ls = true := by
    refine sB_yes (right_mk h6 ?_ ?_)
    · show Rise (clL (moreG ds a m bl))
      rw [clL_ov h5]
      exact rise_filter nz hG
    · intro y hy
      have hy2 : y ∈ (moreG ds a m bl).filter nz := by
        have : y ∈ clL (moreG ds a m bl) := hy
        rw [clL_ov h5] at this
        exact this
      obtain ⟨q1, q2⟩ := List.mem_filter.1 hy2
      have hnm : nameB y.i = true := all_i (fun n => nameB n = true) _ (-1) (fun z hz => by
        obtain ⟨i, hi, rfl⟩ := List.getElem_of_mem hz
        have := (h4.2 i hi).2
        rw [show bl.getD i N.zero = bl[i] by simp [List.getD, hi]] at this
        unfold lOk at this
        simp only [Bool.and_eq_true] at this
        exact this.1) (fun z hz => by
        have hz2 := (List.mem_filter.1 hz).1
        exact net_nm h1 z hz2) y q1
      have hov : nOk y.n = true := by
        unfold ovB at h5
        rw [List.all_eq_true] at h5
        exact h5 y q1
      unfold lOk
      rw [hnm, hov]
      unfold nz at q2
      rw [q2]
      rfl
  unfold dB
  simp only [Bool.and_eq_true, Bool.or_eq_true, decide_eq_true_eq]
  refine ⟨h2, h3, ?_, hs, ?_⟩
  · show 0 ≤ ((cnt ds a m : Nat) : Int) ∧ ((cnt ds a m : Nat) : Int) ≤ 1000000
    omega
  · by_cases q : cnt ds a m = 0
    · exact .inl (by show ((cnt ds a m : Nat) : Int) = 0; omega)
    · refine .inr ?_
      show 0 < (clL (moreG ds a m bl)).length
      rcases Nat.eq_zero_or_pos (clL (moreG ds a m bl)).length with e | e
      · exact absurd ⟨List.length_eq_zero_iff.1 e, by omega⟩ hq
      · exact e
theorem led_new (h : isC ds a m bl = 0) (h6 : (newD ds a m bl).ls.length ≤ 6) : LRight (ds ++ [newD ds a m bl]) := by
  obtain ⟨h1, h2, h3, h4, h5, hq, h7⟩ := isC_go h
  have hl : (ds ++ [newD ds a m bl]).length = ds.length + 1 := by simp
  have hg : ∀ i, i < ds.length → (ds ++ [newD ds a m bl]).getD i D.zero = ds.getD i D.zero := fun i hi => by simp [List.getD, List.getElem?_append_left, hi]
  have hn : (ds ++ [newD ds a m bl]).getD ds.length D.zero = newD ds a m bl := by simp [List.getD]
  have ht : ∀ i, i ≤ ds.length → (ds ++ [newD ds a m bl]).take i = ds.take i := fun i hi => List.take_append_of_le_length hi
  refine ⟨by omega, fun i hi => ?_, fun i hi => ?_⟩
  · by_cases e : i < ds.length
    · rw [hg i e, ht i (by omega)]
      exact h1.2.1 i e
    · obtain rfl : i = ds.length := by omega
      rw [hn, ht _ (Nat.le_refl _), List.take_length]
      exact ⟨new_right h h6, rfl⟩
  · have key : ∀ d : D, (d ∈ ds ∨ d = newD ds a m bl) → ovB (net (ds ++ [newD ds a m bl]) d.a d.mo) = true := by
      intro d hd
      by_cases e : d.a = a ∧ d.mo = m
      · rw [e.1, e.2]
        exact ov_new h
      · rcases hd with hd | rfl
        · rw [net_snoc]
          have : of d.a d.mo (newD ds a m bl) = false := by
            cases q : of d.a d.mo (newD ds a m bl)
            · rfl
            · obtain ⟨q1, q2⟩ := of_iff.1 q
              exact absurd ⟨q1.symm, q2.symm⟩ e
          rw [this]
          exact ov_net h1 d.a d.mo
        · exact absurd ⟨rfl, rfl⟩ e
    refine key _ ?_
    by_cases e : i < ds.length
    · rw [hg i e]
      exact .inl (getD_mem (z := D.zero) ds i e)
    · obtain rfl : i = ds.length := by omega
      exact .inr hn
/-- What is issued makes the net the bill; issued again there is nothing new. -/
theorem netB_new (h : isC ds a m bl = 0) (h6 : (newD ds a m bl).ls.length ≤ 6) : netB (ds ++ [newD ds a m bl]) a m = bl := by
  unfold netB
  rw [lB_yes (led_new h h6), cond_true, clL_ov (ov_new h)]
  exact (net_new h).1
theorem isC_again (h : isC ds a m bl = 0) (h6 : (newD ds a m bl).ls.length ≤ 6) (hb : ¬ (400 < (ds ++ [newD ds a m bl]).length ∨ 8000 < a.size ∨ 400 < bl.length)) : isC (ds ++ [newD ds a m bl]) a m bl = 7 := by
  obtain ⟨h1, h2, h3, h4, h5, hq, h7⟩ := isC_go h
  have hf : isFormB (ds ++ [newD ds a m bl]) a m bl = true := by
    unfold isFormB
    rw [lB_yes (led_new h h6), h2, decide_eq_true h3, sB_yes h4]
    rfl
  have hG : moreG (ds ++ [newD ds a m bl]) a m bl = all bl bl (-1) := by
    unfold moreG
    rw [(net_new h).1]
  have hz := zero_self (right_rise h4)
  have ho : ovB (moreG (ds ++ [newD ds a m bl]) a m bl) = true := by
    rw [hG]
    exact ov_of (fun y hy => by rw [hz y hy]; omega)
  have hc : 0 < cnt (ds ++ [newD ds a m bl]) a m := by
    rw [cnt_snoc]
    have : of a m (newD ds a m bl) = true := of_iff.2 ⟨rfl, rfl⟩
    rw [this, cond_true]
    omega
  exact ((isGo _ a m bl hb hf).2.1 ho (by rw [hG]; exact clL_zero hz) hc).2.2
end
end LedR
end Go.Proofs.YtlfebpgohpmknaaGreatDoor
namespace Go.Proofs.YtlfebpgohpmknaaGreatDoor
open Go.ChangeShapes Go.WideShapes Go.ChangeAt Go.RowKit
set_option linter.unusedVariables false
set_option linter.unusedSimpArgs false
namespace DrawR
open LinR RowG NetR LedR DocR
theorem below_at {w w1 w2 : World} (hb : Below w.heap.size w w1) {x : Nat} (hg : w1.grownBy w2 (some x)) (hx : w.heap.size ≤ x) : Below w.heap.size w w2 :=
  hb.grown hg hb.size (fun k e => by cases e; exact hx)
theorem gself (w : World) (row : Option Nat) : w.grownBy w row := OwG.rgrownO (Below.refl _ _) row
/-- An account that is drawn. -/
def Who (T : ByteArray) (m : Int) : Prop := (T = ⟨#[97, 110, 110]⟩ ∨ T = ⟨#[98, 111, 98]⟩) ∧ 600 ≤ m ∧ m ≤ 601
theorem Who.size {T : ByteArray} {m : Int} (h : Who T m) : T.size ≤ 20 := by rcases h.1 with rfl | rfl <;> decide
/-- A bill that is drawn. -/
def Bil (bl : List N) : Prop := bl.length ≤ 184 ∧ ∀ e ∈ bl, Kn e.i
theorem new_few {ds : List D} {a : ByteArray} {m : Int} {bl : List N} (h : isC ds a m bl = 0) (hb : ∀ e ∈ bl, Kn e.i) (hd : ∀ d ∈ ds, DOk d) : (newD ds a m bl).ls.length ≤ 6 := by
  obtain ⟨h1, h2, h3, h4, h5, h6, h7⟩ := isC_go h
  have hG : Rise (moreG ds a m bl) := rise_all _ _ (right_rise h4)
  have hD : Rise (newD ds a m bl).ls := by
    show Rise (clL (moreG ds a m bl))
    rw [clL_ov h5]
    exact rise_filter nz hG
  have hk : ∀ y ∈ (newD ds a m bl).ls, y.i ∈ kn := fun y hy => by
    have hy2 : y ∈ moreG ds a m bl := clL_sub hy
    exact all_i Kn _ (-1) hb (fun z hz => net_i Kn ds [] (fun d hd2 => (hd d hd2).2.2.2.2) (fun y h => absurd h (by simp)) z (List.mem_filter.1 hz).1) y hy2
  exact few hD hk
theorem net_bil {ds : List D} {a : ByteArray} {m : Int} (hd : ∀ d ∈ ds, DOk d) : Bil (netB ds a m) := by
  refine ⟨by have := netB_len (ds := ds) (a := a) (m := m); omega, fun e he => ?_⟩
  unfold netB at he
  cases hq : lB ds
  · rw [hq] at he; cases he
  · rw [hq] at he
    exact net_i Kn ds [] (fun d hd2 => (hd d hd2).2.2.2.2) (fun y h => absurd h (by simp)) e (clL_sub he)
def DisOut (w : World) (e : Ending) (w' : World) : Prop := (∃ (ds : List D) (da : Option Addr) (dc : Nat) (T : ByteArray) (m : Int) (gb cp : Nat) (bl : List N), e = .returned (.tuple #[.slice da ds.length dc, .string T, .int .i64 m, .slice (some ⟨gb, 0, none⟩) bl.length cp]) ∧ ds.length ≤ 40 ∧ (∀ d ∈ ds, DOk d) ∧ Dcs da ds w' ∧ Plc da ds.length dc ∧ Who T m ∧ Bil bl ∧ Lis (some ⟨gb, 0, none⟩) bl w') ∧ Below w.heap.size w w'
set_option maxRecDepth 100000 in
set_option maxHeartbeats 8000000 in
theorem dis_any (ao : Option Addr) (len cap : Nat) (w : World) (hlen : len ≤ 1048576) (hB : Bytes ao len w) :
    Calls Tryz.prog 4 #[.slice ao len cap] w fun e w' => DisOut w e w' := by
  have h1 := hid_intro (source_any ao len cap w hlen hB)
  clear hB
  go_enter Tryz.func4, Tryz.ntmps4
  go_wp2_with fail
  refine h1.out.mono ?_
  rintro e w1 ⟨rfl, hS1, hb1⟩
  have HS1 := hid_intro hS1
  have HB1 := hid_intro hb1
  have hgl1 := hS1.lt
  clear hS1 hb1
  go_wp2_with fail
  refine (docs_any ao len cap w.heap.size _ HS1.out).mono ?_
  rintro e w2 ⟨⟨ds, da, dc, rfl, hl, hok, hd, hpl⟩, hS2, hg2⟩
  have HB2 := hid_intro (below_at HB1.out hg2 (Nat.le_refl _))
  have HS2 := hid_intro hS2
  have HOK := hid_intro hok
  have HD := hid_intro hd
  have HPL := hid_intro hpl
  obtain ⟨nd, hnd⟩ : ∃ nd, nd = ds.length := ⟨_, rfl⟩
  rw [← hnd] at hl ⊢
  have HND := hid_intro hnd
  clear hS2 hg2 hok hd hpl hnd HB1 HS1
  go_wp2_with fail
  refine (who_any ao len cap w.heap.size _ HS2.out).mono ?_
  rintro e w3 ⟨⟨T, m, rfl, hT, hm1, hm2⟩, hS3, hg3⟩
  have HWH : Hid (Who T m) := hid_intro ⟨hT, hm1, hm2⟩
  have HB3 := hid_intro (below_at HB2.out hg3 (Nat.le_refl _))
  have HS3 := hid_intro hS3
  have HG3 := hid_intro hg3
  clear hS3 hg3 hT HB2 HS2
  go_wp2_with fail
  refine (one_any ao len cap w.heap.size 5 _ (by omega) HS3.out).mono ?_
  rintro e w4 ⟨⟨b, rfl⟩, hS4, hg4⟩
  have HB4 := hid_intro (below_at HB3.out hg4 (Nat.le_refl _))
  have HS4 := hid_intro hS4
  have HG4 := hid_intro (Lib.grownBy_trans HG3.out hg4)
  clear hS4 hg4 HB3 HS3 HG3
  cases b
  · go_wp2_with fail
    refine (some_any ao len cap w.heap.size _ HS4.out).mono ?_
    rintro e w5 ⟨vb, bl, rfl, hL5, hbl⟩
    have HB5 := hid_intro (below_at HB4.out hL5.grew (Nat.le_refl _))
    have HG5 := hid_intro (Lib.grownBy_trans HG4.out hL5.grew)
    obtain ⟨gb, cp, rfl, -, -, -, -, hLi⟩ := hL5.own.open
    have HLI := hid_intro hLi
    have HNM := hid_intro hL5.nm
    obtain ⟨nb, hnb⟩ : ∃ nb, nb = bl.length := ⟨_, rfl⟩
    rw [← hnb] at hbl ⊢
    have HNB := hid_intro hnb
    clear hL5 hLi hnb
    have HFIN : Hid (DisOut w (.returned (.tuple #[.slice da nd dc, .string T, .int .i64 m, .slice (some ⟨gb, 0, none⟩) nb cp])) w5) := hid_intro (by
      have e1 := HND.out
      have e2 := HNB.out
      subst e1 e2
      exact ⟨⟨ds, da, dc, T, m, gb, cp, bl, rfl, hl, HOK.out, HD.out _ HG5.out, HPL.out, HWH.out, ⟨by omega, HNM.out⟩, HLI.out⟩, HB5.out⟩)
    go_wp2_with fail
    refine bodyPost_ret (v := .tuple #[.slice da nd dc, .string T, .int .i64 m, .slice (some ⟨gb, 0, none⟩) nb cp]) (by simp [results, Tryz.results4, go_sem]) rfl HFIN.out
  · have HSN := hid_intro (spec_netN da dc ds T m w4 (by have := HND.out; omega) (fun d h => (HOK.out d h).sm) (by have := HWH.out.size; omega) (HD.out _ HG4.out))
    rw [← HND.out] at HSN
    have HBL := hid_intro (net_bil (a := T) (m := m) HOK.out)
    go_wp2_with fail
    refine HSN.out.mono ?_
    rintro e w5 ⟨v, rfl, hv, hb5⟩
    obtain ⟨gb, cp, rfl, -, -, -, -, hLi⟩ := hv.open
    have HB5 := hid_intro (HB4.out.trans (hb5.mono HB4.out.size))
    have HG5 := hid_intro (HG4.out.andThen (OwG.rgrownO hb5 none) (fun k e => by cases e))
    have HLI := hid_intro hLi
    generalize netB ds T m = bl at *
    obtain ⟨nb, hnb⟩ : ∃ nb, nb = bl.length := ⟨_, rfl⟩
    rw [← hnb]
    have HNB := hid_intro hnb
    clear hb5 hv hLi hnb
    have HFIN : Hid (DisOut w (.returned (.tuple #[.slice da nd dc, .string T, .int .i64 m, .slice (some ⟨gb, 0, none⟩) nb cp])) w5) := hid_intro (by
      have e1 := HND.out
      have e2 := HNB.out
      subst e1 e2
      exact ⟨⟨ds, da, dc, T, m, gb, cp, bl, rfl, hl, HOK.out, HD.out _ HG5.out, HPL.out, HWH.out, HBL.out, HLI.out⟩, HB5.out⟩)
    go_wp2_with fail
    refine bodyPost_ret (v := .tuple #[.slice da nd dc, .string T, .int .i64 m, .slice (some ⟨gb, 0, none⟩) nb cp]) (by simp [results, Tryz.results4, go_sem]) rfl HFIN.out
def DnetOut (w : World) (e : Ending) (w' : World) : Prop := (∃ (ds : List D) (da : Option Addr) (dc : Nat) (T : ByteArray) (m : Int), e = .returned (.tuple #[.slice da ds.length dc, .string T, .int .i64 m]) ∧ ds.length ≤ 40 ∧ (∀ d ∈ ds, DOk d) ∧ Dcs da ds w' ∧ Who T m) ∧ Below w.heap.size w w'
set_option maxRecDepth 100000 in
set_option maxHeartbeats 8000000 in
theorem dnet_any (ao : Option Addr) (len cap : Nat) (w : World) (hlen : len ≤ 1048576) (hB : Bytes ao len w) :
    Calls Tryz.prog 6 #[.slice ao len cap] w fun e w' => DnetOut w e w' := by
  have h1 := hid_intro (source_any ao len cap w hlen hB)
  clear hB
  go_enter Tryz.func6, Tryz.ntmps6
  go_wp2_with fail
  refine h1.out.mono ?_
  rintro e w1 ⟨rfl, hS1, hb1⟩
  have HS1 := hid_intro hS1
  have HB1 := hid_intro hb1
  clear hS1 hb1
  go_wp2_with fail
  refine (docs_any ao len cap w.heap.size _ HS1.out).mono ?_
  rintro e w2 ⟨⟨ds, da, dc, rfl, hl, hok, hd, hpl⟩, hS2, hg2⟩
  have HB2 := hid_intro (below_at HB1.out hg2 (Nat.le_refl _))
  have HS2 := hid_intro hS2
  have HOK := hid_intro hok
  have HD := hid_intro hd
  obtain ⟨nd, hnd⟩ : ∃ nd, nd = ds.length := ⟨_, rfl⟩
  rw [← hnd] at hl ⊢
  have HND := hid_intro hnd
  clear hS2 hg2 hok hd hpl hnd HB1 HS1
  go_wp2_with fail
  refine (who_any ao len cap w.heap.size _ HS2.out).mono ?_
  rintro e w3 ⟨⟨T, m, rfl, hT, hm1, hm2⟩, hS3, hg3⟩
  have HFIN : Hid (DnetOut w (.returned (.tuple #[.slice da nd dc, .string T, .int .i64 m])) w3) := hid_intro (by
    have e1 := HND.out
    subst e1
    exact ⟨⟨ds, da, dc, T, m, rfl, hl, HOK.out, HD.out _ hg3, hT, hm1, hm2⟩, below_at HB2.out hg3 (Nat.le_refl _)⟩)
  clear hS3 hg3 hT HB2 HS2
  go_wp2_with fail
  refine bodyPost_ret (v := .tuple #[.slice da nd dc, .string T, .int .i64 m]) (by simp [results, Tryz.results6, go_sem]) rfl HFIN.out
def Ln4 (L : List N) : Prop := L.length ≤ 4 ∧ ∀ e ∈ L, Kn e.i
def DlessOut (w : World) (e : Ending) (w' : World) : Prop := (∃ (ga ca gb cb : Nat) (La Lb : List N), e = .returned (.tuple #[.slice (some ⟨ga, 0, none⟩) La.length ca, .slice (some ⟨gb, 0, none⟩) Lb.length cb]) ∧ Ln4 La ∧ Ln4 Lb ∧ Lis (some ⟨ga, 0, none⟩) La w' ∧ Lis (some ⟨gb, 0, none⟩) Lb w') ∧ Below w.heap.size w w'
set_option maxRecDepth 100000 in
set_option maxHeartbeats 8000000 in
theorem dless_any (ao : Option Addr) (len cap : Nat) (w : World) (hlen : len ≤ 1048576) (hB : Bytes ao len w) :
    Calls Tryz.prog 7 #[.slice ao len cap] w fun e w' => DlessOut w e w' := by
  have h1 := hid_intro (source_any ao len cap w hlen hB)
  clear hB
  go_enter Tryz.func7, Tryz.ntmps7
  go_wp2_with fail
  refine h1.out.mono ?_
  rintro e w1 ⟨rfl, hS1, hb1⟩
  have HS1 := hid_intro hS1
  have HB1 := hid_intro hb1
  have hgl := hS1.lt
  clear hS1 hb1
  go_wp2_with fail
  refine (some_any ao len cap w.heap.size _ HS1.out).mono ?_
  rintro e w2 ⟨va, La, rfl, hL2, hla⟩
  have HB2 := hid_intro (below_at HB1.out hL2.grew (Nat.le_refl _))
  have HL2 := hid_intro hL2
  obtain ⟨ga, ca, rfl, -, -, -, -, -⟩ := hL2.own.open
  obtain ⟨na, hna⟩ : ∃ na, na = La.length := ⟨_, rfl⟩
  rw [← hna] at hla HL2 ⊢
  have HNA := hid_intro hna
  clear hL2 hna HB1
  go_wp2_with fail
  refine (one_any ao len cap w.heap.size 6 _ (by omega) HL2.out.src).mono ?_
  rintro e w3 ⟨⟨b, rfl⟩, hS3, hg3⟩
  have HB3 := hid_intro (below_at HB2.out hg3 (Nat.le_refl _))
  have HL3 := hid_intro (HL2.out.step hgl hS3 hg3)
  clear hS3 hg3 HB2 HL2
  cases b
  · go_wp2_with fail
    refine (some_any ao len cap w.heap.size _ HL3.out.src).mono ?_
    rintro e w4 ⟨vb, Lb, rfl, hL4, hlb⟩
    have hL5 := HL3.out.step hgl hL4.src hL4.grew
    obtain ⟨gb, cb, rfl, -, -, -, -, hLb⟩ := hL4.own.open
    obtain ⟨ga', ca', e', -, -, -, -, hLa⟩ := hL5.own.open
    injection e' with e1 e2 e3
    cases e1
    have HFIN : Hid (DlessOut w (.returned (.tuple #[.slice (some ⟨ga, 0, none⟩) na ca, .slice (some ⟨gb, 0, none⟩) Lb.length cb])) w4) := hid_intro (by
      have e1 := HNA.out
      subst e1
      exact ⟨⟨ga, ca, gb, cb, La, Lb, rfl, ⟨hla, hL5.nm⟩, ⟨hlb, hL4.nm⟩, hLa, hLb⟩, below_at HB3.out hL4.grew (Nat.le_refl _)⟩)
    generalize Lb.length = nb at *
    clear hL4 hL5 hLa hLb e2 e3
    go_wp2_with fail
    go_ret2
    exact HFIN.out
  · obtain ⟨ga', ca', e', -, -, -, -, hLa⟩ := HL3.out.own.open
    injection e' with e1 e2 e3
    cases e1
    have HFIN : Hid (DlessOut w (.returned (.tuple #[.slice (some ⟨ga, 0, none⟩) na ca, .slice (some ⟨ga, 0, none⟩) na ca])) w3) := hid_intro (by
      have e1 := HNA.out
      subst e1
      exact ⟨⟨ga, ca, ga, ca, La, La, rfl, ⟨hla, HL3.out.nm⟩, ⟨hla, HL3.out.nm⟩, hLa, hLa⟩, HB3.out⟩)
    clear hLa e2 e3
    go_wp2_with fail
    go_ret2
    exact HFIN.out
end DrawR
end Go.Proofs.YtlfebpgohpmknaaGreatDoor
namespace Go.Proofs.YtlfebpgohpmknaaGreatDoor
open Go.ChangeShapes Go.WideShapes Go.ChangeAt Go.RowKit
set_option linter.unusedVariables false
set_option linter.unusedSimpArgs false
namespace DrawR
open LinR RowG NetR LedR DocR
def DdocOut (w : World) (e : Ending) (w' : World) : Prop := (∃ (x : D) (gb cp : Nat), e = .returned (.agg #[.string x.a, .int .i64 x.mo, .int .i64 x.sq, .slice (some ⟨gb, 0, none⟩) x.ls.length cp]) ∧ x.a.size ≤ 20 ∧ Ln4 x.ls ∧ (-9223372036854775808 ≤ x.sq ∧ x.sq ≤ 9223372036854775807) ∧ w.heap.size ≤ gb ∧ Lis (some ⟨gb, 0, none⟩) x.ls w') ∧ Below w.heap.size w w'
theorem lis_far {b off : Nat} {L : List N} {W W' : World} {x : Nat} (h : Lis (some ⟨b, off, none⟩) L W) (hg : W.grownBy W' (some x)) (hne : b ≠ x) : Lis (some ⟨b, off, none⟩) L W' := by
  rcases h with h0 | ⟨b', o', e, hl, hc⟩
  · exact .inl h0
  · cases e
    have eb := hg.block b hl (by simp only [ne_eq, Option.some.injEq]; exact hne)
    exact .inr ⟨b, off, rfl, by have := hg.size; omega, fun j hj i hi => (World.cell?_of_block (a := ⟨b, off + j * 2 + i, none⟩) eb).trans (hc j hj i hi)⟩
set_option maxRecDepth 100000 in
set_option maxHeartbeats 8000000 in
theorem ddoc_any (ao : Option Addr) (len cap : Nat) (w : World) (hlen : len ≤ 1048576) (hB : Bytes ao len w) :
    Calls Tryz.prog 38 #[.slice ao len cap] w fun e w' => DdocOut w e w' := by
  obtain ⟨W0, hW0⟩ : ∃ W0, W0 = w.alloc (.cells #[.string ⟨#[]⟩, .int .i64 0, .int .i64 0, .slice none 0 0] 28) := ⟨_, rfl⟩
  have hB0 : Below w.heap.size w W0 := by rw [hW0]; exact (Below.refl _ _).alloc (Nat.le_refl _) _
  have HB0 := hid_intro hB0
  have HR0 : Hid (BlkW w.heap.size [.string ⟨#[]⟩, .int .i64 0, .int .i64 0, .slice none 0 0] W0) := hid_intro (by rw [hW0]; exact BlkW.new w [.string ⟨#[]⟩, .int .i64 0, .int .i64 0, .slice none 0 0] 28)
  have hs0 : W0.heap.size = w.heap.size + 1 := by rw [hW0]; simp
  have h1 := hid_intro (source_any ao len cap W0 hlen (hB.below hB0))
  have HW := hid_intro hW0
  clear hB hB0 hW0
  go_enter Tryz.func38, Tryz.ntmps38
  go_wp2_with fail
  rw [← HW.out]
  refine h1.out.mono ?_
  rintro e w1 ⟨rfl, hS1, hb1⟩
  have HS1 := hid_intro hS1
  have HB1 := hid_intro hb1
  have hgl := hS1.lt
  obtain ⟨g, hge⟩ : ∃ g, g = W0.heap.size := ⟨_, rfl⟩
  rw [← hge] at HS1 hgl hs0 HB1 ⊢
  have hwg : w.heap.size < g := by omega
  have HR1 := hid_intro (HR0.out.below hb1)
  have HBg : Hid (∀ W, w1.grownBy W (some g) → Below w.heap.size w W) := hid_intro (fun W hg => (HB0.out.trans (hb1.mono HB0.out.size)).grown hg (HB0.out.trans (hb1.mono HB0.out.size)).size (fun k e => by cases e; omega))
  clear hS1 hb1 HW h1 HR0 hge hs0
  go_wp2_with fail
  refine (who_any ao len cap g _ HS1.out).mono ?_
  rintro e w2 ⟨⟨T, m, rfl, hT, hm1, hm2⟩, hS2, hg2⟩
  have HTs : Hid (T.size ≤ 20) := hid_intro (by rcases hT with rfl | rfl <;> decide)
  have HS2 := hid_intro hS2
  have HG2 := hid_intro hg2
  clear hS2 hg2 hT HS1
  go_wp2_with fail
  refine (n_any ao len cap g 3 _ (by omega) HS2.out).mono ?_
  rintro e w3 ⟨v3, rfl, lo3, -, hi3, hS3, hg3⟩
  have ht3 : v3 < 3 := hi3 (by omega)
  have HS3 := hid_intro hS3
  have HG3 := hid_intro (Lib.grownBy_trans HG2.out hg3)
  clear hS3 hg3 hi3 HS2 HG2
  go_wp2_with fail
  refine (some_any ao len cap g _ HS3.out).mono ?_
  rintro e w4 ⟨vb, L, rfl, hL4, hbl⟩
  have HG4 := hid_intro (Lib.grownBy_trans HG3.out hL4.grew)
  have HL4 := hid_intro hL4
  have hgl4 := HS3.out.lt
  have hb34 := hL4.grew.size
  have hg13 := HG3.out.size
  obtain ⟨gb, cp, rfl, -, -, hgb1, hgb2, -⟩ := hL4.own.open
  obtain ⟨nb, hnb⟩ : ∃ nb, nb = L.length := ⟨_, rfl⟩
  rw [← hnb] at hbl HL4 ⊢
  have HNB := hid_intro hnb
  obtain ⟨k5, hk5⟩ : ∃ z, z = w4.alloc (.cells #[.string T, .int .i64 m, .int .i64 v3, .slice (some ⟨gb, 0, none⟩) nb cp] 28) := ⟨_, rfl⟩
  obtain ⟨B, hBe⟩ : ∃ B, B = w4.heap.size := ⟨_, rfl⟩
  have hal : Below w4.heap.size w4 k5 := by rw [hk5]; exact (Below.refl _ _).alloc (Nat.le_refl _) _
  have HD5 : Hid (BlkW B [.string T, .int .i64 m, .int .i64 v3, .slice (some ⟨gb, 0, none⟩) nb cp] k5) := hid_intro (by rw [hk5, hBe]; exact BlkW.new w4 [.string T, .int .i64 m, .int .i64 v3, .slice (some ⟨gb, 0, none⟩) nb cp] 28)
  have HL5 := hid_intro (HL4.out.below hal)
  have HG5 := hid_intro (HG4.out.andThen (OwG.rgrownO hal none) (fun k e => by cases e))
  have HK5 := hid_intro hk5
  have HBE := hid_intro hBe
  have hgB : g < B := by rw [hBe]; omega
  have hbB : gb < B := by rw [hBe]; exact hgb2
  clear hL4 hnb hal hk5 hBe HS3 HG3 HG4
  go_wp2_with fail
  rw [← HK5.out, ← HBE.out]
  clear HK5 HBE HL4
  refine (one_any ao len cap g 10 _ (by omega) HL5.out.src).mono ?_
  rintro e w6 ⟨⟨b, rfl⟩, hS6, hg6⟩
  have HL6 := hid_intro (HL5.out.step hgl4 hS6 hg6)
  have HD6 := hid_intro (OwG.blkW_grown HD5.out hg6 (by simp only [ne_eq, Option.some.injEq]; omega))
  have HG6 := hid_intro (Lib.grownBy_trans HG5.out hg6)
  clear hS6 hg6 HL5 HD5 HG5
  have hgw : w.heap.size < w3.heap.size := by omega
  have HEND : Hid (∀ (sq : Int) (W : World), (-9223372036854775808 ≤ sq ∧ sq ≤ 9223372036854775807) → w1.grownBy W (some g) → OwnN W w3.heap.size (.slice (some ⟨gb, 0, none⟩) nb cp) L → DdocOut w (.returned (.agg #[.string T, .int .i64 m, .int .i64 sq, .slice (some ⟨gb, 0, none⟩) nb cp])) (StR.stL W w.heap.size 0 [.string T, .int .i64 m, .int .i64 sq, .slice (some ⟨gb, 0, none⟩) nb cp])) := hid_intro (fun sq W hq hg1 hO => by
    have hgr := StR.stL_grown w.heap.size [.string T, .int .i64 m, .int .i64 sq, .slice (some ⟨gb, 0, none⟩) nb cp] 0 W
    have hO2 : OwnN (StR.stL W w.heap.size 0 [.string T, .int .i64 m, .int .i64 sq, .slice (some ⟨gb, 0, none⟩) nb cp]) w3.heap.size (.slice (some ⟨gb, 0, none⟩) nb cp) L := ⟨OwG.own_keepG hO.1 hgr hgw, hO.2⟩
    obtain ⟨gb', cp', e', -, -, -, -, hL⟩ := hO2.open
    injection e' with e1 e2 e3
    cases e1
    have e := HNB.out
    subst e
    exact ⟨⟨⟨T, m, sq, L⟩, gb, cp, rfl, HTs.out, ⟨hbl, HL6.out.nm⟩, hq, by omega, hL⟩, below_at (HBg.out W hg1) hgr (Nat.le_refl _)⟩)
  have hne : w.heap.size ≠ B := by omega
  cases b
  · have hR := OwG.blkW_grown HR1.out HG6.out (by simp only [ne_eq, Option.some.injEq]; omega)
    have r0 := hR.1.2 0 (by simp)
    have r1 := hR.1.2 1 (by simp)
    have r2 := hR.1.2 2 (by simp)
    have r3 := hR.1.2 3 (by simp)
    have f0 := hR.2 0 (by simp)
    have f1 := hR.2 1 (by simp)
    have f2 := hR.2 2 (by simp)
    have f3 := hR.2 3 (by simp)
    have rl := hR.1.1
    have d0 : w6.cell? ⟨B, 0, none⟩ = some (.string T) := HD6.out.1.2 0 (by simp)
    have d1 : w6.cell? ⟨B, 1, none⟩ = some (.int .i64 m) := HD6.out.1.2 1 (by simp)
    have d2 : w6.cell? ⟨B, 2, none⟩ = some (.int .i64 v3) := HD6.out.1.2 2 (by simp)
    have d3 : w6.cell? ⟨B, 3, none⟩ = some (.slice (some ⟨gb, 0, none⟩) nb cp) := HD6.out.1.2 3 (by simp)
    have dl := HD6.out.1.1
    have HF := hid_intro (HEND.out v3 w6 (by omega) HG6.out HL6.out.own)
    simp only [StR.stL, Nat.zero_add, Nat.reduceAdd] at HF
    clear hR
    go_wp2_with fail
    refine bodyPost_ret (v := .agg #[.string T, .int .i64 m, .int .i64 v3, .slice (some ⟨gb, 0, none⟩) nb cp]) (by simp [results, Tryz.results38, go_sem, r0, r1, r2, r3]) rfl HF.out
  · go_wp2_with fail
    obtain ⟨k7, hk7⟩ : ∃ z, z = w6.alloc (.cells #[.int .i64 (-1), .int .i64 1000000, .int .i64 1000001] 2) := ⟨_, rfl⟩
    obtain ⟨ib, hib⟩ : ∃ z, z = w6.heap.size := ⟨_, rfl⟩
    have hal : Below w6.heap.size w6 k7 := by rw [hk7]; exact (Below.refl _ _).alloc (Nat.le_refl _) _
    have hI7 : BlkW ib [.int .i64 (-1), .int .i64 1000000, .int .i64 1000001] k7 := by rw [hk7, hib]; exact BlkW.new w6 [.int .i64 (-1), .int .i64 1000000, .int .i64 1000001] 2
    have HL7 := hid_intro (HL6.out.below hal)
    have HD7 := hid_intro (HD6.out.below hal)
    have HG7 := hid_intro (HG6.out.andThen (OwG.rgrownO hal none) (fun k e => by cases e))
    have hgi : g < ib := by rw [hib]; exact HL6.out.src.lt
    have hBi : B < ib := by rw [hib]; exact HD6.out.1.1
    rw [← hk7, ← hib]
    clear hal hk7 hib HL6 HD6 HG6
    refine (n_any ao len cap g 3 _ (by omega) HL7.out.src).mono ?_
    rintro e w8 ⟨v8, rfl, lo8, -, hi8, hS8, hg8⟩
    have ht8 : v8 < 3 := hi8 (by omega)
    obtain ⟨tt, rfl⟩ : ∃ j : Nat, v8 = (j : Int) := ⟨v8.toNat, by omega⟩
    have htt : tt < 3 := by omega
    have hI8 := OwG.blkW_grown hI7 hg8 (by simp only [ne_eq, Option.some.injEq]; omega)
    have HD8 := hid_intro (OwG.blkW_grown HD7.out hg8 (by simp only [ne_eq, Option.some.injEq]; omega))
    have HL8 := hid_intro (HL7.out.step hgl4 hS8 hg8)
    have HG8 := hid_intro (Lib.grownBy_trans HG7.out hg8)
    obtain ⟨Y, hY, hY1, hY2⟩ : ∃ Y : Int, w8.cell? ⟨ib, tt, none⟩ = some (.int .i64 Y) ∧ -1 ≤ Y ∧ Y ≤ 1000001 := by
      rcases (show tt = 0 ∨ tt = 1 ∨ tt = 2 by omega) with rfl | rfl | rfl
      · exact ⟨_, hI8.1.2 0 (by simp), by omega, by omega⟩
      · exact ⟨_, hI8.1.2 1 (by simp), by omega, by omega⟩
      · exact ⟨_, hI8.1.2 2 (by simp), by omega, by omega⟩
    have hil := hI8.1.1
    have hgs := RowG.grown_set w8 B 2 (.int .i64 Y)
    have hD9 := HD8.out.set 2 (.int .i64 Y) (by simp)
    simp only [List.set_cons_zero, List.set_cons_succ] at hD9
    have HG9 := hid_intro (HG8.out.andThen hgs (fun k e => by cases e; exact .inl (by omega)))
    have HO9 : Hid (OwnN (w8.setCell ⟨B, 2, none⟩ (.int .i64 Y)) w3.heap.size (.slice (some ⟨gb, 0, none⟩) nb cp) L) := hid_intro ⟨OwG.own_keepO HL8.out.own.1 hgs (fun b e q => by
      have q2 : b = B := by simpa using q
      have : gb = b := by simpa [Value.ownBlock] using e
      omega), HL8.out.own.2⟩
    have d2 : w8.cell? ⟨B, 2, none⟩ = some (.int .i64 v3) := HD8.out.1.2 2 (by simp)
    have g2 := HD8.out.2 2 (by simp)
    have dl := HD8.out.1.1
    have d0 : w8.cell? ⟨B, 0, none⟩ = some (.string T) := HD8.out.1.2 0 (by simp)
    have d1 : w8.cell? ⟨B, 1, none⟩ = some (.int .i64 m) := HD8.out.1.2 1 (by simp)
    have d3 : w8.cell? ⟨B, 3, none⟩ = some (.slice (some ⟨gb, 0, none⟩) nb cp) := HD8.out.1.2 3 (by simp)
    have hR := OwG.blkW_grown HR1.out HG8.out (by simp only [ne_eq, Option.some.injEq]; omega)
    have r0 := hR.1.2 0 (by simp)
    have r1 := hR.1.2 1 (by simp)
    have r2 := hR.1.2 2 (by simp)
    have r3 := hR.1.2 3 (by simp)
    have f0 := hR.2 0 (by simp)
    have f1 := hR.2 1 (by simp)
    have f2 := hR.2 2 (by simp)
    have f3 := hR.2 3 (by simp)
    have rl := hR.1.1
    have HF := hid_intro (HEND.out Y _ (by omega) HG9.out HO9.out)
    simp only [StR.stL, Nat.zero_add, Nat.reduceAdd] at HF
    have hne2 : ¬ B = w.heap.size := by omega
    clear hI7 hI8 hS8 hg8 hi8 HL7 HD7 HG7 hgs hD9 hR HG9 HO9
    go_wp2_with fail
    refine bodyPost_ret (v := .agg #[.string T, .int .i64 m, .int .i64 Y, .slice (some ⟨gb, 0, none⟩) nb cp]) (by simp [results, Tryz.results38, go_sem, r0, r1, r2, r3]) rfl HF.out
set_option maxRecDepth 100000 in
set_option maxHeartbeats 4000000 in
theorem ddt_any (ao : Option Addr) (len cap : Nat) (w : World) (hlen : len ≤ 1048576) (hB : Bytes ao len w) :
    Calls Tryz.prog 9 #[.slice ao len cap] w fun e w' => DdocOut w e w' := by
  obtain ⟨W0, hW0⟩ : ∃ W0, W0 = w.alloc (.cells #[.string ⟨#[]⟩, .int .i64 0, .int .i64 0, .slice none 0 0] 28) := ⟨_, rfl⟩
  have hB0 : Below w.heap.size w W0 := by rw [hW0]; exact (Below.refl _ _).alloc (Nat.le_refl _) _
  have HB0 := hid_intro hB0
  have HR0 : Hid (BlkW w.heap.size [.string ⟨#[]⟩, .int .i64 0, .int .i64 0, .slice none 0 0] W0) := hid_intro (by rw [hW0]; exact BlkW.new w [.string ⟨#[]⟩, .int .i64 0, .int .i64 0, .slice none 0 0] 28)
  have hs0 : W0.heap.size = w.heap.size + 1 := by rw [hW0]; simp
  have HS0 := hid_intro hs0
  have h1 := hid_intro (ddoc_any ao len cap W0 hlen (hB.below hB0))
  have HW := hid_intro hW0
  clear hB hB0 hW0 hs0
  go_enter Tryz.func9, Tryz.ntmps9
  go_wp2_with fail
  rw [← HW.out]
  refine h1.out.mono ?_
  rintro e w1 ⟨⟨x, gb, cp, rfl, hx1, hx2, hx3, hgb, hL⟩, hb1⟩
  have hR := HR0.out.below hb1
  have hgr := StR.stL_grown w.heap.size [.string x.a, .int .i64 x.mo, .int .i64 x.sq, .slice (some ⟨gb, 0, none⟩) x.ls.length cp] 0 w1
  have HF : Hid (DdocOut w (.returned (.agg #[.string x.a, .int .i64 x.mo, .int .i64 x.sq, .slice (some ⟨gb, 0, none⟩) x.ls.length cp])) (StR.stL w1 w.heap.size 0 [.string x.a, .int .i64 x.mo, .int .i64 x.sq, .slice (some ⟨gb, 0, none⟩) x.ls.length cp])) := hid_intro ⟨⟨x, gb, cp, rfl, hx1, hx2, hx3, by have := HS0.out; omega, lis_far hL hgr (by have := HS0.out; omega)⟩, below_at (HB0.out.trans (hb1.mono HB0.out.size)) hgr (Nat.le_refl _)⟩
  simp only [StR.stL, Nat.zero_add, Nat.reduceAdd] at HF
  have r0 := hR.1.2 0 (by simp)
  have r1 := hR.1.2 1 (by simp)
  have r2 := hR.1.2 2 (by simp)
  have r3 := hR.1.2 3 (by simp)
  have f0 := hR.2 0 (by simp)
  have f1 := hR.2 1 (by simp)
  have f2 := hR.2 2 (by simp)
  have f3 := hR.2 3 (by simp)
  have rl := hR.1.1
  obtain ⟨xa, xm, xq, xl⟩ := x
  dsimp only at *
  generalize xl.length = nl at *
  clear hR hgr hL hb1
  go_wp2_with fail
  refine bodyPost_ret (v := .agg #[.string xa, .int .i64 xm, .int .i64 xq, .slice (some ⟨gb, 0, none⟩) nl cp]) (by simp [results, Tryz.results9, go_sem, r0, r1, r2, r3]) rfl HF.out
end DrawR
end Go.Proofs.YtlfebpgohpmknaaGreatDoor
namespace Go.Proofs.YtlfebpgohpmknaaGreatDoor
open Go.ChangeShapes Go.WideShapes Go.ChangeAt Go.RowKit
set_option linter.unusedVariables false
namespace LedR
open LinR RowG DocR
open CatR (Blk Blk.new)
theorem ldrewN {B : Nat} {a w : World} (h : Below B a w) (n : Nat) : Below B a (w.drewN n) := ⟨h.os, h.tape, h.output, h.size, h.block⟩
set_option maxRecDepth 100000 in
set_option maxHeartbeats 4000000 in
theorem lwLi_any (ao bo : Option Addr) (c d : Nat) (L : List N) (w : World) (hl : L.length ≤ 1048576) (hI : Lis ao L w) (hJ : Lis bo L w) :
    Calls Tryz.prog 12 #[.slice ao L.length c, .slice bo L.length d] w fun e w' => e = .returned (.bool true) ∧ Below w.heap.size w w' := by
  have HI := hid_intro hI
  have HJ := hid_intro hJ
  obtain ⟨ln, hln⟩ : ∃ ln, ln = L.length := ⟨_, rfl⟩
  rw [← hln] at hl ⊢
  have HL := hid_intro hln
  clear hI hJ hln
  go_enter Tryz.func12, Tryz.ntmps12
  go_wp2_with fail
  go_loopw [5] (fun z wr => ∃ k : Nat, k ≤ ln ∧ z = .int .i64 k ∧ Hid (Below w.heap.size w wr)) (fun z _ => ln - (intOf z).toNat)
  case atStart => exact ⟨0, by omega, rfl, hid_intro (Below.refl _ _)⟩
  case round =>
    obtain ⟨k, hk, rfl, HB⟩ := hrel
    by_cases hlt : k < ln
    · have hlt2 : (k : Int) < (ln : Int) := by omega
      have hkl : k < L.length := by have := HL.out; omega
      obtain ⟨b, off, rfl, _, c0, c1⟩ := (HI.out.below HB.out).at k hkl
      obtain ⟨b', off', rfl, _, e0, e1⟩ := (HJ.out.below HB.out).at k hkl
      generalize L.getD k N.zero = X at *
      obtain ⟨xi, xn⟩ := X
      go_wp2_with fail
      try (go_quiet (fail); go_wp2_with fail)
      go_roundw
      case rel => exact ⟨k + 1, by omega, by go_num, by first | exact HB | exact hid_intro (ldrewN HB.out _)⟩
      case measure => simp [intOf]; omega
    · have hlt2 : ¬ (k : Int) < (ln : Int) := by omega
      go_wp2_with fail
      go_ret
      exact ⟨rfl, HB.out⟩
/-- What is read of two documents. -/
def SD (wr : World) (b o0 o1 o2 o3 b' p0 p1 p2 p3 : Nat) (xa : ByteArray) (xm xq : Int) (u u' : Value) (W : World) : Prop := Below wr.heap.size wr W ∧ b < W.heap.size ∧ b' < W.heap.size ∧ W.cell? ⟨b, o0, none⟩ = some (.string xa) ∧ W.cell? ⟨b, o1, none⟩ = some (.int .i64 xm) ∧ W.cell? ⟨b, o2, none⟩ = some (.int .i64 xq) ∧ W.cell? ⟨b, o3, none⟩ = some u ∧ W.cell? ⟨b', p0, none⟩ = some (.string xa) ∧ W.cell? ⟨b', p1, none⟩ = some (.int .i64 xm) ∧ W.cell? ⟨b', p2, none⟩ = some (.int .i64 xq) ∧ W.cell? ⟨b', p3, none⟩ = some u'
theorem SD.below {wr : World} {b o0 o1 o2 o3 b' p0 p1 p2 p3 : Nat} {xa : ByteArray} {xm xq : Int} {u u' : Value} {W W' : World} (h : SD wr b o0 o1 o2 o3 b' p0 p1 p2 p3 xa xm xq u u' W) (hb : Below W.heap.size W W') : SD wr b o0 o1 o2 o3 b' p0 p1 p2 p3 xa xm xq u u' W' := by
  obtain ⟨h0, h1, h2, c0, c1, c2, c3, d0, d1, d2, d3⟩ := h
  have hs := hb.size
  exact ⟨h0.trans (hb.mono h0.size), by omega, by omega, (hb.cell (p := ⟨b, o0, none⟩) h1).trans c0, (hb.cell (p := ⟨b, o1, none⟩) h1).trans c1, (hb.cell (p := ⟨b, o2, none⟩) h1).trans c2, (hb.cell (p := ⟨b, o3, none⟩) h1).trans c3, (hb.cell (p := ⟨b', p0, none⟩) h2).trans d0, (hb.cell (p := ⟨b', p1, none⟩) h2).trans d1, (hb.cell (p := ⟨b', p2, none⟩) h2).trans d2, (hb.cell (p := ⟨b', p3, none⟩) h2).trans d3⟩
set_option maxRecDepth 100000 in
set_option maxHeartbeats 4000000 in
theorem lwDs_any (ao bo : Option Addr) (c d : Nat) (ds : List D) (w : World) (hl : ds.length ≤ 1048576) (hs : ∀ x ∈ ds, x.ls.length ≤ 1048576) (hI : Dcs ao ds w) (hJ : Dcs bo ds w) :
    Calls Tryz.prog 23 #[.slice ao ds.length c, .slice bo ds.length d] w fun e w' => e = .returned (.bool true) ∧ Below w.heap.size w w' := by
  have HI := hid_intro hI
  have HJ := hid_intro hJ
  have HSM := hid_intro hs
  obtain ⟨ln, hln⟩ : ∃ ln, ln = ds.length := ⟨_, rfl⟩
  rw [← hln] at hl ⊢
  have HL := hid_intro hln
  clear hI hJ hln hs
  go_enter Tryz.func23, Tryz.ntmps23
  go_wp2_with fail
  go_loopw [5] (fun z wr => ∃ k : Nat, k ≤ ln ∧ z = .int .i64 k ∧ Hid (Below w.heap.size w wr)) (fun z _ => ln - (intOf z).toNat)
  case atStart => exact ⟨0, by omega, rfl, hid_intro (Below.refl _ _)⟩
  case round =>
    obtain ⟨k, hk, rfl, HB⟩ := hrel
    by_cases hlt : k < ln
    · have hlt2 : (k : Int) < (ln : Int) := by omega
      have hkl : k < ds.length := by have := HL.out; omega
      obtain ⟨b, off, la, lc, rfl, hbl, c0, c1, c2, c3, hLa⟩ := (HI.out.below HB.out).at k hkl
      obtain ⟨b', off', la', lc', rfl, hbl', e0, e1, e2, e3, hLb⟩ := (HJ.out.below HB.out).at k hkl
      have hsm := HSM.out _ (RowG.getD_mem (z := D.zero) ds k hkl)
      generalize ds.getD k D.zero = X at *
      obtain ⟨xa, xm, xq, xl⟩ := X
      dsimp only at c0 c1 c2 c3 e0 e1 e2 e3 hsm hLa hLb
      have HC := hid_intro (fun W (hb : Below wr.heap.size wr W) => lwLi_any la la' lc lc' xl W hsm (hLa.below hb) (hLb.below hb))
      generalize xl.length = nl at *
      clear hLa hLb
      have HS0 : Hid (SD wr b (off + k * 4) (off + k * 4 + 1) (off + k * 4 + 2) (off + k * 4 + 3) b' (off' + k * 4) (off' + k * 4 + 1) (off' + k * 4 + 2) (off' + k * 4 + 3) xa xm xq (.slice la nl lc) (.slice la' nl lc') wr.drew) := hid_intro ⟨(Below.refl _ _).drew, hbl, hbl', c0, c1, c2, c3, e0, e1, e2, e3⟩
      go_wp2_with fail
      go_region_held3 (fun W => Below wr.heap.size wr W ∧ b < W.heap.size ∧ b' < W.heap.size ∧ W.cell? ⟨b, off + k * 4, none⟩ = some (.string xa) ∧ W.cell? ⟨b, off + k * 4 + 1, none⟩ = some (.int .i64 xm) ∧ W.cell? ⟨b, off + k * 4 + 2, none⟩ = some (.int .i64 xq) ∧ W.cell? ⟨b, off + k * 4 + 3, none⟩ = some (.slice la nl lc) ∧ W.cell? ⟨b', off' + k * 4, none⟩ = some (.string xa) ∧ W.cell? ⟨b', off' + k * 4 + 1, none⟩ = some (.int .i64 xm) ∧ W.cell? ⟨b', off' + k * 4 + 2, none⟩ = some (.int .i64 xq) ∧ W.cell? ⟨b', off' + k * 4 + 3, none⟩ = some (.slice la' nl lc')) (first | assumption | (exact HS0.out) | (exact SD.below (wr := wr) (b := b) (o0 := off + k * 4) (o1 := off + k * 4 + 1) (o2 := off + k * 4 + 2) (o3 := off + k * 4 + 3) (b' := b') (p0 := off' + k * 4) (p1 := off' + k * 4 + 1) (p2 := off' + k * 4 + 2) (p3 := off' + k * 4 + 3) (xa := xa) (xm := xm) (xq := xq) (u := .slice la nl lc) (u' := .slice la' nl lc') (by assumption) hb))
        (first | (go_at_call 12; refine (HC.out _ (by first | exact HS0.out.1 | (rename_i hSx; exact hSx.1))).mono ?_; rintro e w' ⟨rfl, hb⟩))
      rename_i hS
      have HB2 := hid_intro (HB.out.trans (hS.1.mono HB.out.size))
      clear hS
      go_wp2_with fail
      go_roundw
      case rel => exact ⟨k + 1, by omega, by go_num, HB2⟩
      case measure => simp [intOf]; omega
    · have hlt2 : ¬ (k : Int) < (ln : Int) := by omega
      go_wp2_with fail
      go_ret
      exact ⟨rfl, HB.out⟩
end LedR
end Go.Proofs.YtlfebpgohpmknaaGreatDoor
namespace Go.Proofs.YtlfebpgohpmknaaGreatDoor
open Go.ChangeShapes Go.WideShapes Go.ChangeAt Go.RowKit
set_option linter.unusedVariables false
set_option linter.unusedSimpArgs false
namespace LedR
open LinR RowG DocR
open CatR (Blk Blk.new)
theorem dcs_one {p : Nat} {x : D} {la : Option Addr} {lc : Nat} {W : World} (h : Blk p [.string x.a, .int .i64 x.mo, .int .i64 x.sq, .slice la x.ls.length lc] W) (hL : Lis la x.ls W) : Dcs (some ⟨p, 0, none⟩) [x] W := by
  refine .inr ⟨p, 0, rfl, h.1, fun j hj => ?_⟩
  obtain rfl : j = 0 := by simp at hj; omega
  exact ⟨la, lc, h.2 0 (by simp), h.2 1 (by simp), h.2 2 (by simp), h.2 3 (by simp), hL⟩
set_option maxRecDepth 100000 in
set_option maxHeartbeats 8000000 in
theorem lwLo_any (v v' : Value) (ds : List D) (x : D) (cd : Int) (w : World) (hl : ds.length ≤ 1048576) (hs : ∀ y ∈ ds, y.ls.length ≤ 1048576) (hx : x.ls.length ≤ 1048576) (hI : LoR v ds x cd w) (hJ : LoR v' ds x cd w) :
    Calls Tryz.prog 10 #[v, v'] w fun e w' => e = .returned (.bool true) ∧ Below w.heap.size w w' := by
  obtain ⟨ao, c, la, lc, rfl, hD, hL⟩ := hI
  obtain ⟨bo, c', la', lc', rfl, hD', hL'⟩ := hJ
  obtain ⟨W0, hW0⟩ : ∃ W0, W0 = (w.alloc (.cells #[.slice ao ds.length c, .string x.a, .int .i64 x.mo, .int .i64 x.sq, .slice la x.ls.length lc, .int .i64 cd] 30)).alloc (.cells #[.slice bo ds.length c', .string x.a, .int .i64 x.mo, .int .i64 x.sq, .slice la' x.ls.length lc', .int .i64 cd] 30) := ⟨_, rfl⟩
  have hB0 : Below w.heap.size w W0 := by rw [hW0]; exact ((Below.refl _ _).alloc (Nat.le_refl _) _).alloc (by simp) _
  have hX0 : Blk w.heap.size [.slice ao ds.length c, .string x.a, .int .i64 x.mo, .int .i64 x.sq, .slice la x.ls.length lc, .int .i64 cd] W0 := by rw [hW0]; exact (Blk.new w [.slice ao ds.length c, .string x.a, .int .i64 x.mo, .int .i64 x.sq, .slice la x.ls.length lc, .int .i64 cd] 30).alloc _
  have hY0 : Blk (w.heap.size + 1) [.slice bo ds.length c', .string x.a, .int .i64 x.mo, .int .i64 x.sq, .slice la' x.ls.length lc', .int .i64 cd] W0 := by
    rw [hW0]
    have := Blk.new (w.alloc (.cells #[.slice ao ds.length c, .string x.a, .int .i64 x.mo, .int .i64 x.sq, .slice la x.ls.length lc, .int .i64 cd] 30)) [.slice bo ds.length c', .string x.a, .int .i64 x.mo, .int .i64 x.sq, .slice la' x.ls.length lc', .int .i64 cd] 30
    simpa using this
  have HC1 := hid_intro (fun W (hb : Below W0.heap.size W0 W) => lwDs_any ao bo c c' ds W hl hs ((hD.below hB0).below hb) ((hD'.below hB0).below hb))
  have HC2 := hid_intro (fun p q W (hb : Below W0.heap.size W0 W) (h1 : Blk p [.string x.a, .int .i64 x.mo, .int .i64 x.sq, .slice la x.ls.length lc] W) (h2 : Blk q [.string x.a, .int .i64 x.mo, .int .i64 x.sq, .slice la' x.ls.length lc'] W) => lwDs_any (some ⟨p, 0, none⟩) (some ⟨q, 0, none⟩) 1 1 [x] W (by simp) (fun y hy => by simp only [List.mem_singleton] at hy; subst hy; exact hx) (dcs_one h1 ((hL.below hB0).below hb)) (dcs_one h2 ((hL'.below hB0).below hb)))
  have HB0 := hid_intro hB0
  have HW := hid_intro hW0
  have HX0 := hid_intro hX0
  have HY0 := hid_intro hY0
  clear hD hD' hL hL' hB0 hX0 hY0 hW0 hs
  obtain ⟨xa, xm, xq, xl⟩ := x
  dsimp only at *
  generalize ds.length = nd at *
  generalize xl.length = nl at *
  go_enter Tryz.func10, Tryz.ntmps10
  go_wp2_with fail
  rw [← HW.out]
  clear HW
  have x1 := HX0.out
  have y1 := HY0.out
  refine (HC1.out _ (Below.refl _ _)).mono ?_
  rintro e w1 ⟨rfl, hb1⟩
  have hX1 := HX0.out.below hb1
  have hY1 := HY0.out.below hb1
  have xl := hX1.1
  have yl := hY1.1
  have x1 : w1.cell? ⟨w.heap.size, 1, none⟩ = some (.string xa) := hX1.2 1 (by simp)
  have x2 : w1.cell? ⟨w.heap.size, 2, none⟩ = some (.int .i64 xm) := hX1.2 2 (by simp)
  have x3 : w1.cell? ⟨w.heap.size, 3, none⟩ = some (.int .i64 xq) := hX1.2 3 (by simp)
  have x4 : w1.cell? ⟨w.heap.size, 4, none⟩ = some (.slice la nl lc) := hX1.2 4 (by simp)
  have y1 : w1.cell? ⟨w.heap.size + 1, 1, none⟩ = some (.string xa) := hY1.2 1 (by simp)
  have y2 : w1.cell? ⟨w.heap.size + 1, 2, none⟩ = some (.int .i64 xm) := hY1.2 2 (by simp)
  have y3 : w1.cell? ⟨w.heap.size + 1, 3, none⟩ = some (.int .i64 xq) := hY1.2 3 (by simp)
  have y4 : w1.cell? ⟨w.heap.size + 1, 4, none⟩ = some (.slice la' nl lc') := hY1.2 4 (by simp)
  obtain ⟨k2, hk2⟩ : ∃ z, z = (w1.alloc (.cells #[.string xa, .int .i64 xm, .int .i64 xq, .slice la nl lc] 28)).alloc (.cells #[.string xa, .int .i64 xm, .int .i64 xq, .slice la' nl lc'] 28) := ⟨_, rfl⟩
  have hb2 : Below w1.heap.size w1 k2 := by rw [hk2]; exact ((Below.refl _ _).alloc (Nat.le_refl _) _).alloc (by simp) _
  have hP2 : Blk w1.heap.size [.string xa, .int .i64 xm, .int .i64 xq, .slice la nl lc] k2 := by rw [hk2]; exact (Blk.new w1 [.string xa, .int .i64 xm, .int .i64 xq, .slice la nl lc] 28).alloc _
  have hQ2 : Blk (w1.heap.size + 1) [.string xa, .int .i64 xm, .int .i64 xq, .slice la' nl lc'] k2 := by
    rw [hk2]
    have := Blk.new (w1.alloc (.cells #[.string xa, .int .i64 xm, .int .i64 xq, .slice la nl lc] 28)) [.string xa, .int .i64 xm, .int .i64 xq, .slice la' nl lc'] 28
    simpa using this
  have HBX := hid_intro (hb1.trans (hb2.mono hb1.size))
  have HP2 := hid_intro hP2
  have HQ2 := hid_intro hQ2
  have HK2 := hid_intro hk2
  clear hb1 hb2 hP2 hQ2 hk2 hX1 hY1
  go_wp2_with fail
  rw [← HK2.out]
  refine (HC2.out _ _ _ HBX.out HP2.out HQ2.out).mono ?_
  rintro e w3 ⟨rfl, hb3⟩
  have HBF := hid_intro (HB0.out.trans ((HBX.out.trans (hb3.mono HBX.out.size)).mono HB0.out.size))
  clear hb3
  go_wp2_with fail
  go_ret
  exact ⟨rfl, HBF.out⟩
end LedR
end Go.Proofs.YtlfebpgohpmknaaGreatDoor
namespace Go.Proofs.YtlfebpgohpmknaaGreatDoor
open Go.ChangeShapes Go.WideShapes Go.ChangeAt Go.RowKit
set_option linter.unusedVariables false
namespace LedR
open LinR DocR
open RowG (cellsAll hid_intro)
set_option maxRecDepth 100000 in
set_option maxHeartbeats 4000000 in
theorem icopy (d : D) (la : Option Addr) (lc : Nat) (w : World) (ha : d.a.size ≤ 1048576) (hlen : d.ls.length ≤ 1048576) (hS : ∀ e ∈ d.ls, e.i.size ≤ 1048576) (hI : Lis la d.ls w) :
    Calls Tryz.prog 36 #[.agg #[.string d.a, .int .i64 d.mo, .int .i64 d.sq, .slice la d.ls.length lc]] w fun e w' => ∃ v, e = .returned (.agg #[.string d.a, .int .i64 d.mo, .int .i64 d.sq, v]) ∧ w'.ownsRow w.heap.size 74 2 v (d.ls.filter nz).length (cellsAll N.cells (d.ls.filter nz)) ∧ Below w.heap.size w w' := by
  obtain ⟨a, mo, sq, ls⟩ := d
  dsimp only at *
  have HCL := hid_intro (fun w => CloneR.clone_any a w (by omega))
  have HPL := hid_intro (fun w' (hI' : Lis la ls w') => put_any la lc ls w' hlen hS hI')
  have HI := hid_intro hI
  obtain ⟨len, hl⟩ : ∃ len, len = ls.length := ⟨_, rfl⟩
  rw [← hl] at HPL ⊢
  obtain ⟨W0, hW0⟩ : ∃ W0, W0 = (w.alloc (.cells #[.string a, .int .i64 mo, .int .i64 sq, .slice la len lc] 28)).alloc (.cells #[.string ⟨#[]⟩, .int .i64 0, .int .i64 0, .slice none 0 0] 28) := ⟨_, rfl⟩
  have HB0 : Hid (Below w.heap.size w W0) := hid_intro (by rw [hW0]; exact ((Below.refl _ _).alloc (Nat.le_refl _) _).alloc (by simp) _)
  have HV0 : Hid (BlkW w.heap.size [.string a, .int .i64 mo, .int .i64 sq, .slice la len lc] W0) := hid_intro (by rw [hW0]; exact (BlkW.new w [.string a, .int .i64 mo, .int .i64 sq, .slice la len lc] 28).below ((Below.refl _ _).alloc (Nat.le_refl _) _))
  have HR0 : Hid (BlkW (w.heap.size + 1) [.string ⟨#[]⟩, .int .i64 0, .int .i64 0, .slice none 0 0] W0) := hid_intro (by
    rw [hW0]
    have := BlkW.new (w.alloc (.cells #[.string a, .int .i64 mo, .int .i64 sq, .slice la len lc] 28)) [.string ⟨#[]⟩, .int .i64 0, .int .i64 0, .slice none 0 0] 28
    simpa using this)
  have HW := hid_intro hW0
  clear hI hS hl hW0
  go_enter Tryz.func36, Tryz.ntmps36
  have c0 : W0.cell? ⟨w.heap.size, 0, none⟩ = some (.string a) := HV0.out.1.2 0 (by simp)
  go_wp2_with fail
  refine (HCL.out _).mono ?_
  rw [← HW.out]
  rintro e w1 ⟨rfl, hb1⟩
  have HB1 := hid_intro (HB0.out.trans (hb1.mono HB0.out.size))
  have HV1 := hid_intro (HV0.out.below hb1)
  have HR1 := hid_intro (HR0.out.below hb1)
  have l1 := HV1.out.1.1
  have f0 := HV1.out.2 0 (by simp)
  have c0 := HV1.out.1.2 0 (by simp)
  have c3 := HV1.out.1.2 3 (by simp)
  simp only [List.getElem?_cons_zero, List.getElem?_cons_succ] at c0 c3
  clear hb1 HW HB0 HV0 HR0
  go_wp2_with fail
  have HB2 := hid_intro (HB1.out.setCell (p := ⟨w.heap.size, 0, none⟩) (Nat.le_refl _) (.string a))
  have HV2 := hid_intro (HV1.out.set 0 (.string a) (by simp))
  have HR2 := hid_intro (HR1.out.other w.heap.size 0 (.string a) (by omega))
  simp only [List.set_cons_zero] at HV2
  clear HB1 HV1 HR1 l1 f0 c0 c3
  generalize (w1.setCell { block := w.heap.size, off := 0 } (Value.string a)) = W2 at *
  refine (HPL.out _ (HI.out.below HB2.out)).mono ?_
  rintro e w3 ⟨v, rfl, ho, hb3⟩
  have HB3 := hid_intro (HB2.out.trans (hb3.mono HB2.out.size))
  have HV3 := hid_intro (HV2.out.below hb3)
  have HR3 := hid_intro (HR2.out.below hb3)
  have hlw := HR2.out.1.1
  obtain ⟨ao, cap, rfl, hm⟩ := RowG.own_made (z := N.zero) N.len ho
  generalize hnf : (ls.filter nz).length = nf at *
  have HOF := hid_intro (own_low (OwG.own_keepG (OwG.own_keepG ho (RowG.grown_set w3 w.heap.size 3 (.slice ao nf cap)) (by omega)) (StR.stL_grown (w.heap.size + 1) [.string a, .int .i64 mo, .int .i64 sq, .slice ao nf cap] 0 _) (by omega)) HB2.out.size)
  have HBF := hid_intro ((HB3.out.setCell (p := ⟨w.heap.size, 3, none⟩) (Nat.le_refl _) (.slice ao nf cap)).grown (StR.stL_grown (w.heap.size + 1) [.string a, .int .i64 mo, .int .i64 sq, .slice ao nf cap] 0 _) (by have := HB3.out.size; simpa using this) (fun k h => by cases h; omega))
  simp only [StR.stL, Nat.zero_add, Nat.reduceAdd] at HOF HBF
  have l1 := HV3.out.1.1
  have l2 := HR3.out.1.1
  have f3 := HV3.out.2 3 (by simp)
  have c0 := HV3.out.1.2 0 (by simp)
  have c1 := HV3.out.1.2 1 (by simp)
  have c2 := HV3.out.1.2 2 (by simp)
  have c3 := HV3.out.1.2 3 (by simp)
  have r0 := HR3.out.1.2 0 (by simp)
  have r1 := HR3.out.1.2 1 (by simp)
  have r2 := HR3.out.1.2 2 (by simp)
  have r3 := HR3.out.1.2 3 (by simp)
  have g0 := HR3.out.2 0 (by simp)
  have g1 := HR3.out.2 1 (by simp)
  have g2 := HR3.out.2 2 (by simp)
  have g3 := HR3.out.2 3 (by simp)
  simp only [List.getElem?_cons_zero, List.getElem?_cons_succ] at c0 c1 c2 c3 r0 r1 r2 r3
  clear ho hb3 hm
  go_wp2_with fail
  refine bodyPost_ret (v := .agg #[.string a, .int .i64 mo, .int .i64 sq, .slice ao nf cap]) (by simp [results, Tryz.results36, go_sem, r0, r1, r2, r3]) rfl ⟨_, rfl, by rw [hnf]; exact HOF.out, HBF.out⟩
end LedR
end Go.Proofs.YtlfebpgohpmknaaGreatDoor
