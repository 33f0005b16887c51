/-
  What FnCatalog draws: catalogs, a text, names, a meter. The condition: the bytes are at most 1048576.
  Two meters, and two catalogs, that are the same, held against each other by the law. The condition: all in them is small.
  strings.Clone: the same bytes come back; nothing that was there is written. The condition: the text has at most 2^48 bytes.
  'copy' between rows of things of k cells each, and such a copy as one step of a walk. No condition.
  A meter laid in new memory, the program's copyMeter. The conditions: 1 to 5 tiers, a name of at most 1048576 bytes.
  The meter of a name, the program's MeterOf. The conditions: all in the catalog is small, the name too; the program's own error stands in its variable.
  The meter of a name, the model's MeterOf. The conditions: all in the catalog is small, the name too.
  From the row's premise on the program's own error to the walk's: its variable holds an error; and a world that meets the premise. No condition.
-/
import Derived.BigQuiet
import Derived.Deep.QuietTactic
import Derived.Deep.RegionHeld3
import Derived.Lib.Strings
import Derived.Lib.BufferWrite
import Derived.Lib.UnsafeStr
import Derived.Lib.Hide
import Derived.Laws.MakeOwn
import Derived.Laws.CopyOwn
import Derived.Lib.AppendZerosOnto
import Derived.Lib.Overlaps
import Derived.Laws.NewBlocks
import Derived.Deep.RegionLaw
import Derived.Lib.SliceRun
import Derived.Test.YtaedolophhcjjaaDoorTie
import Derived.ChangeSame
import Derived.ChangeVars
import Derived.JoinedOf
import Derived.ProofKit
import Derived.LaidLaws
import Derived.LaidMore
import Derived.LaidHandle
import Derived.MakeChecks
import Derived.Stop.Joined
import Derived.Stop.LaidErr
import Derived.Test.YtaedolophhcjjaaDoorK5
namespace Go.Proofs.YtaedolophhcjjaaDoor
open Go.ChangeShapes Go.WideShapes Go.ChangeAt Go.RowKit
set_option linter.unusedVariables false
set_option linter.unusedSimpArgs false
namespace DrawR
open CatR (Ti Me Cr Ca Tis Mes Crs TiAt MeAt CrAt IsMe IsCa caBy)
open EvtR (Pt)
open DocR (BlkW)
theorem below_at {w w1 w2 : World} (hb : Below w.heap.size w w1) {x : Nat} (hg : w1.grownBy w2 (some x)) (hx : w.heap.size ≤ x) : Below w.heap.size w w2 :=
  hb.grown hg hb.size (fun k e => by cases e; exact hx)
/-- What lies in blocks from lo on is as it was. -/
structure Kq (lo : Nat) (w w' : World) : Prop where
  size : w.heap.size ≤ w'.heap.size
  block : ∀ k, lo ≤ k → k < w.heap.size → w'.heap[k]? = w.heap[k]?
theorem Kq.refl (lo : Nat) (w : World) : Kq lo w w := ⟨Nat.le_refl _, fun _ _ _ => rfl⟩
theorem Kq.below {lo : Nat} {w w1 w2 : World} (h : Kq lo w w1) (hb : Below w1.heap.size w1 w2) : Kq lo w w2 :=
  ⟨Nat.le_trans h.size hb.size, fun k h1 h2 => (hb.block k (by have := h.size; omega)).trans (h.block k h1 h2)⟩
theorem Kq.grown {lo x : Nat} {w w1 w2 : World} (h : Kq lo w w1) (hg : w1.grownBy w2 (some x)) (hx : x < lo) : Kq lo w w2 :=
  ⟨Nat.le_trans h.size hg.size, fun k h1 h2 => (hg.block k (by have := h.size; omega) (by simp only [ne_eq, Option.some.injEq]; omega)).trans (h.block k h1 h2)⟩
/-- A catalog that was drawn, as it stands. -/
def DCat (c : Ca) (ma : Option Addr) (ca : Option Addr) (w' : World) : Prop := Mes ma c.ms.length c.ms w' ∧ Crs ca c.cs.length c.cs w' ∧ c.Small
def DCOut (w : World) (e : Ending) (w' : World) : Prop := (∃ (c : Ca) (ma : Option Addr) (mc : Nat) (ca : Option Addr) (cc : Nat), e = .returned (.agg #[.slice ma c.ms.length mc, .slice ca c.cs.length cc]) ∧ DCat c ma ca w') ∧ Below w.heap.size w w'
/-- A catalog and a text. -/
def DCTOut (w : World) (e : Ending) (w' : World) : Prop := (∃ (c : Ca) (ma : Option Addr) (mc : Nat) (ca : Option Addr) (cc : Nat) (t : ByteArray), e = .returned (.tuple #[.agg #[.slice ma c.ms.length mc, .slice ca c.cs.length cc], .string t]) ∧ t.size ≤ 100 ∧ DCat c ma ca w') ∧ Below w.heap.size w w'
/-- A meter. -/
def DMOut (w : World) (e : Ending) (w' : World) : Prop := (∃ (m : Me) (ta : Option Addr) (tc : Nat), e = .returned (.agg #[.string m.n, .int .i64 m.g, .bool m.wh, .int .i64 m.f, .int .i64 m.l, .slice ta m.ts.length tc]) ∧ Tis ta m.ts.length m.ts w' ∧ m.n.size ≤ 100 ∧ m.ts.length ≤ 100) ∧ Below w.heap.size w w'
def DTOut (w : World) (e : Ending) (w' : World) : Prop := (∃ t : ByteArray, e = .returned (.string t) ∧ t.size ≤ 1048576) ∧ Below w.heap.size w w'
set_option maxRecDepth 100000 in
set_option maxHeartbeats 4000000 in
theorem dcat_any (ao : Option Addr) (len cap : Nat) (w : World) (hlen : len ≤ 1048576) (hB : Bytes ao len w) :
    Calls Tryd.prog 4 #[.slice ao len cap] w fun e w' => DCOut w e w' := by
  obtain ⟨W, hW⟩ : ∃ W, W = w.alloc (.cells #[.slice none 0 0, .slice none 0 0] 26) := ⟨_, rfl⟩
  have HB0 : Hid (Below w.heap.size w W) := hid_intro (by rw [hW]; exact (Below.refl _ _).alloc (Nat.le_refl _) _)
  have HR0 : Hid (BlkW w.heap.size [.slice none 0 0, .slice none 0 0] W) := hid_intro (by rw [hW]; exact DocR.BlkW.new w [.slice none 0 0, .slice none 0 0] 26)
  have h1 := hid_intro (source_any ao len cap W hlen (hB.below HB0.out))
  have HW := hid_intro hW
  clear hW hB
  go_enter Tryd.func4, Tryd.ntmps4
  go_wp2_with fail
  rw [← HW.out]
  refine h1.out.mono ?_
  rintro e w1 ⟨rfl, hS1, hb1⟩
  have HS1 := hid_intro hS1
  have HB1 := hid_intro (HB0.out.trans (hb1.mono HB0.out.size))
  have HR1 := hid_intro (HR0.out.below hb1)
  have hWl : w.heap.size < W.heap.size := HR0.out.1.1
  have hwl : w.heap.size < w1.heap.size := HR1.out.1.1
  clear hS1 hb1 h1 HW
  go_wp2_with fail
  refine (catalog_any ao len cap W.heap.size _ HS1.out).mono ?_
  rintro e w2 ⟨⟨c, ma, mc, ca, cc, rfl, hM, hC, hs, hfar⟩, hS2, hg2⟩
  have HB2 := hid_intro (below_at HB1.out hg2 (Nat.le_of_lt hWl))
  have hR2 := OwG.blkW_grown HR1.out hg2 (by simp only [ne_eq, Option.some.injEq]; omega)
  have hgr := StR.stL_grown w.heap.size [.slice ma c.ms.length mc, .slice ca c.cs.length cc] 0 w2
  have hkq := (Kq.refl w1.heap.size w2).grown hgr hwl
  have hf2 := hfar _ hkq.size hkq.block
  have HD : Hid (DCat c ma ca (StR.stL w2 w.heap.size 0 [.slice ma c.ms.length mc, .slice ca c.cs.length cc])) := hid_intro ⟨hf2.1, hf2.2, hs⟩
  have HBF := hid_intro (HB2.out.grown hgr HB2.out.size (fun k e => by cases e; exact Nat.le_refl _))
  simp only [StR.stL, Nat.zero_add, Nat.reduceAdd] at HD HBF
  have HO : Hid (∀ W' nm nc, nm = c.ms.length → nc = c.cs.length → DCat c ma ca W' → Below w.heap.size w W' → DCOut w (.returned (.agg #[.slice ma nm mc, .slice ca nc cc])) W') := hid_intro (fun W' nm nc e1 e2 h hb => by subst e1; subst e2; exact ⟨⟨c, ma, mc, ca, cc, rfl, h⟩, hb⟩)
  have r0 : w2.cell? ⟨w.heap.size, 0, none⟩ = some (.slice none 0 0) := hR2.1.2 0 (by simp)
  have r1 : w2.cell? ⟨w.heap.size, 1, none⟩ = some (.slice none 0 0) := hR2.1.2 1 (by simp)
  have rl := hR2.1.1
  have f0 := hR2.2 0 (by simp)
  have f1 := hR2.2 1 (by simp)
  clear hM hC hs hfar hS2 hg2 hgr hf2 hR2 hkq
  generalize hnm : c.ms.length = nm at *
  generalize hnc : c.cs.length = nc at *
  go_wp2_with fail
  refine bodyPost_ret (v := .agg #[.slice ma nm mc, .slice ca nc cc]) (by simp [results, Tryd.results4, go_sem, r0, r1]) rfl (HO.out _ _ _ rfl rfl HD.out HBF.out)
set_option maxRecDepth 100000 in
set_option maxHeartbeats 4000000 in
theorem dmeter_any (ao : Option Addr) (len cap : Nat) (w : World) (hlen : len ≤ 1048576) (hB : Bytes ao len w) :
    Calls Tryd.prog 10 #[.slice ao len cap] w fun e w' => DMOut w e w' := by
  obtain ⟨W, hW⟩ : ∃ W, W = w.alloc (.cells #[.string ⟨#[]⟩, .int .i64 0, .bool false, .int .i64 0, .int .i64 0, .slice none 0 0] 37) := ⟨_, rfl⟩
  have HB0 : Hid (Below w.heap.size w W) := hid_intro (by rw [hW]; exact (Below.refl _ _).alloc (Nat.le_refl _) _)
  have HR0 : Hid (BlkW w.heap.size [.string ⟨#[]⟩, .int .i64 0, .bool false, .int .i64 0, .int .i64 0, .slice none 0 0] W) := hid_intro (by rw [hW]; exact DocR.BlkW.new w [.string ⟨#[]⟩, .int .i64 0, .bool false, .int .i64 0, .int .i64 0, .slice none 0 0] 37)
  have h1 := hid_intro (source_any ao len cap W hlen (hB.below HB0.out))
  have HW := hid_intro hW
  clear hW hB
  go_enter Tryd.func10, Tryd.ntmps10
  go_wp2_with fail
  rw [← HW.out]
  refine h1.out.mono ?_
  rintro e w1 ⟨rfl, hS1, hb1⟩
  have HS1 := hid_intro hS1
  have HB1 := hid_intro (HB0.out.trans (hb1.mono HB0.out.size))
  have HR1 := hid_intro (HR0.out.below hb1)
  have hWl : w.heap.size < W.heap.size := HR0.out.1.1
  have hwl : w.heap.size < w1.heap.size := HR1.out.1.1
  clear hS1 hb1 h1 HW
  go_wp2_with fail
  refine (meter_any ao len cap W.heap.size _ HS1.out).mono ?_
  rintro e w2 ⟨⟨m, ta, tc, rfl, hT, hf, hn, ht⟩, hS2, hg2⟩
  have HB2 := hid_intro (below_at HB1.out hg2 (Nat.le_of_lt hWl))
  have hR2 := OwG.blkW_grown HR1.out hg2 (by simp only [ne_eq, Option.some.injEq]; omega)
  have hgr := StR.stL_grown w.heap.size [.string m.n, .int .i64 m.g, .bool m.wh, .int .i64 m.f, .int .i64 m.l, .slice ta m.ts.length tc] 0 w2
  have HD := hid_intro (tis_kept hT hgr (fun b o e q => by have := hf b o e; cases q; omega))
  have HBF := hid_intro (HB2.out.grown hgr HB2.out.size (fun k e => by cases e; exact Nat.le_refl _))
  simp only [StR.stL, Nat.zero_add, Nat.reduceAdd] at HD HBF
  have HSz := hid_intro (And.intro hn ht)
  have r0 : w2.cell? ⟨w.heap.size, 0, none⟩ = some (.string ⟨#[]⟩) := hR2.1.2 0 (by simp)
  have f0 := hR2.2 0 (by simp)
  have r1 : w2.cell? ⟨w.heap.size, 1, none⟩ = some (.int .i64 0) := hR2.1.2 1 (by simp)
  have f1 := hR2.2 1 (by simp)
  have r2 : w2.cell? ⟨w.heap.size, 2, none⟩ = some (.bool false) := hR2.1.2 2 (by simp)
  have f2 := hR2.2 2 (by simp)
  have r3 : w2.cell? ⟨w.heap.size, 3, none⟩ = some (.int .i64 0) := hR2.1.2 3 (by simp)
  have f3 := hR2.2 3 (by simp)
  have r4 : w2.cell? ⟨w.heap.size, 4, none⟩ = some (.int .i64 0) := hR2.1.2 4 (by simp)
  have f4 := hR2.2 4 (by simp)
  have r5 : w2.cell? ⟨w.heap.size, 5, none⟩ = some (.slice none 0 0) := hR2.1.2 5 (by simp)
  have f5 := hR2.2 5 (by simp)
  have rl := hR2.1.1
  clear hT hf hS2 hg2 hgr hR2
  go_wp2_with fail
  refine bodyPost_ret (v := .agg #[.string m.n, .int .i64 m.g, .bool m.wh, .int .i64 m.f, .int .i64 m.l, .slice ta m.ts.length tc]) (by simp [results, Tryd.results10, go_sem, r0, r1, r2, r3, r4, r5]) rfl ⟨⟨m, ta, tc, rfl, HD.out, HSz.out.1, HSz.out.2⟩, HBF.out⟩
set_option maxRecDepth 100000 in
set_option maxHeartbeats 4000000 in
theorem dread_any (ao : Option Addr) (len cap : Nat) (w : World) (hlen : len ≤ 1048576) (hB : Bytes ao len w) :
    Calls Tryd.prog 6 #[.slice ao len cap] w fun e w' => DTOut w e w' := by
  have h1 := hid_intro (source_any ao len cap w hlen hB)
  clear hB
  go_enter Tryd.func6, Tryd.ntmps6
  go_wp2_with fail
  refine h1.out.mono ?_
  rintro e w1 ⟨rfl, hS1, hb1⟩
  have HS1 := hid_intro hS1
  have HB1 := hid_intro hb1
  clear hS1 hb1
  go_wp2_with fail
  refine (catalog_any ao len cap w.heap.size _ HS1.out).mono ?_
  rintro e w2 ⟨⟨c, ma, mc, ca, cc, rfl, hM, hC, hs, hfar⟩, hS2, hg2⟩
  have HB2 := hid_intro (below_at HB1.out hg2 (Nat.le_refl _))
  have HS2 := hid_intro hS2
  have HT := hid_intro (CatR.spec_cab (.agg #[.slice ma c.ms.length mc, .slice ca c.cs.length cc]) c w2 hs ⟨ma, mc, ca, cc, rfl, hM, hC⟩)
  have hz : (caBy c).size ≤ 5000 := by
    unfold caBy
    split
    · rename_i h
      exact CatR.caP_size h
    · exact Nat.zero_le _
  generalize caBy c = T at *
  generalize c.ms.length = nm at *
  generalize c.cs.length = nc at *
  clear hS2 hg2 hM hC hs hfar
  go_wp2_with fail
  refine HT.out.mono ?_
  rintro e w3 ⟨rfl, hb3⟩
  have HB3 := hid_intro (HB2.out.trans (hb3.mono HB2.out.size))
  have HS3 := hid_intro (HS2.out.kept (OwG.rgrownO hb3 none) (fun k e => by cases e))
  clear hb3 HT
  go_wp2_with fail
  refine (n_any ao len cap w.heap.size 4 _ (by omega) HS3.out).mono ?_
  rintro e w4 ⟨v4, rfl, lo4, _, hi4, hS, hg⟩
  have ht4 : v4 < 4 := hi4 (by omega)
  have HS4 := hid_intro hS
  have HB4 := hid_intro (below_at HB3.out hg (Nat.le_refl _))
  clear hS hg hi4
  rcases (show v4 = 0 ∨ v4 = 1 ∨ (¬ v4 = 0 ∧ ¬ v4 = 1) by omega) with rfl | rfl | ⟨n0, n1⟩
  · go_wp2_with fail
    refine (spoil_any ao len cap w.heap.size T _ (by omega) HS4.out).mono ?_
    rintro e w5 ⟨⟨t5, rfl, ht5⟩, hS, hg⟩
    have HB5 := hid_intro (below_at HB4.out hg (Nat.le_refl _))
    have H5 := hid_intro ht5
    clear hS hg ht5
    go_wp2_with fail
    go_ret
    exact ⟨⟨t5, rfl, by have := H5.out; omega⟩, HB5.out⟩
  · go_wp2_with fail
    refine (n_any ao len cap w.heap.size ((T.size : Int) + 1) _ (by omega) HS4.out).mono ?_
    rintro e w5 ⟨v5, rfl, lo5, h51, hi5, hS, hg⟩
    have v3 : v5 ≤ T.size := by
      by_cases h : 1 < (T.size : Int) + 1
      · have := hi5 h; omega
      · have := h51 (by omega); omega
    obtain ⟨k, rfl⟩ : ∃ k : Nat, v5 = k := ⟨v5.toNat, by omega⟩
    have hk : k ≤ T.size := by omega
    have HB5 := hid_intro (below_at HB4.out hg (Nat.le_refl _))
    clear hS hg h51 hi5
    go_wp2_with fail
    go_ret
    exact ⟨⟨_, rfl, by rw [ByteArray.size_extract]; omega⟩, HB5.out⟩
  · go_wp2_with fail
    go_ret
    exact ⟨⟨T, rfl, by omega⟩, HB4.out⟩
set_option maxRecDepth 100000 in
set_option maxHeartbeats 4000000 in
theorem dmo_any (ao : Option Addr) (len cap : Nat) (w : World) (hlen : len ≤ 1048576) (hB : Bytes ao len w) :
    Calls Tryd.prog 8 #[.slice ao len cap] w fun e w' => DCTOut w e w' := by
  obtain ⟨W, hW⟩ : ∃ W, W = w.alloc (.cells #[.slice none 0 0, .slice none 0 0] 26) := ⟨_, rfl⟩
  have HB0 : Hid (Below w.heap.size w W) := hid_intro (by rw [hW]; exact (Below.refl _ _).alloc (Nat.le_refl _) _)
  have HR0 : Hid (BlkW w.heap.size [.slice none 0 0, .slice none 0 0] W) := hid_intro (by rw [hW]; exact DocR.BlkW.new w [.slice none 0 0, .slice none 0 0] 26)
  have h1 := hid_intro (source_any ao len cap W hlen (hB.below HB0.out))
  have HW := hid_intro hW
  clear hW hB
  go_enter Tryd.func8, Tryd.ntmps8
  go_wp2_with fail
  rw [← HW.out]
  refine h1.out.mono ?_
  rintro e w1 ⟨rfl, hS1, hb1⟩
  have HS1 := hid_intro hS1
  have HB1 := hid_intro (HB0.out.trans (hb1.mono HB0.out.size))
  have HR1 := hid_intro (HR0.out.below hb1)
  have hWl : w.heap.size < W.heap.size := HR0.out.1.1
  have hwl : w.heap.size < w1.heap.size := HR1.out.1.1
  have hgl1 : W.heap.size < w1.heap.size := hS1.lt
  clear hS1 hb1 h1 HW
  go_wp2_with fail
  refine (catalog_any ao len cap W.heap.size _ HS1.out).mono ?_
  rintro e w2 ⟨⟨c, ma, mc, ca, cc, rfl, hM, hC, hs, hfar⟩, hS2, hg2⟩
  have HB2 := hid_intro (below_at HB1.out hg2 (Nat.le_of_lt hWl))
  have HR2 := hid_intro (OwG.blkW_grown HR1.out hg2 (by simp only [ne_eq, Option.some.injEq]; omega))
  have HS2 := hid_intro hS2
  obtain ⟨W3, hW3⟩ : ∃ z, z = w2.alloc (.cells #[.slice ma c.ms.length mc, .slice ca c.cs.length cc] 26) := ⟨_, rfl⟩
  obtain ⟨B, hBe⟩ : ∃ z, z = w2.heap.size := ⟨_, rfl⟩
  have hal : Below w2.heap.size w2 W3 := by rw [hW3]; exact (Below.refl _ _).alloc (Nat.le_refl _) _
  have hBlk : BlkW B [.slice ma c.ms.length mc, .slice ca c.cs.length cc] W3 := by rw [hW3, hBe]; exact DocR.BlkW.new w2 [.slice ma c.ms.length mc, .slice ca c.cs.length cc] 26
  have HFar : Hid (∀ W' : World, Kq w1.heap.size w2 W' → DCat c ma ca W') := hid_intro (fun W' q => by
    have k1 := hfar W' q.size q.block
    exact ⟨k1.1, k1.2, hs⟩)
  have HO : Hid (∀ W' nm nc t, nm = c.ms.length → nc = c.cs.length → t.size ≤ 100 → DCat c ma ca W' → Below w.heap.size w W' → DCTOut w (.returned (.tuple #[.agg #[.slice ma nm mc, .slice ca nc cc], .string t])) W') := hid_intro (fun W' nm nc t e1 e2 e3 h hb => by subst e1; subst e2; exact ⟨⟨c, ma, mc, ca, cc, t, rfl, e3, h⟩, hb⟩)
  have HB3 := hid_intro (HB2.out.trans (hal.mono HB2.out.size))
  have HR3 := hid_intro (HR2.out.below hal)
  have HS3 := hid_intro (HS2.out.kept (OwG.rgrownO hal none) (fun k e => by cases e))
  have HK3 : Hid (Kq w1.heap.size w2 W3) := hid_intro ((Kq.refl _ _).below hal)
  have HBk := hid_intro hBlk
  have HWW := hid_intro hW3
  have HBE := hid_intro hBe
  have hw12 : w1.heap.size ≤ w2.heap.size := hg2.size
  generalize hnm : c.ms.length = nm at *
  generalize hnc : c.cs.length = nc at *
  clear hM hC hs hfar hS2 hg2 hal hBlk hW3 hBe HB2 HR2 HS2 HB1 HR1 HS1 HB0 HR0
  go_wp2_with fail
  rw [← HWW.out, ← HBE.out]
  clear HWW
  have hBl : w1.heap.size ≤ B := by rw [HBE.out]; exact hw12
  have hb0 := (Below.refl W3.heap.size W3).drew
  have hB0 := HB3.out.trans (hb0.mono HB3.out.size)
  have hR0 := HR3.out.below hb0
  have hC0 := HBk.out.below hb0
  have hQ0 := HK3.out.below hb0
  have hS0 := HS3.out.kept (OwG.rgrownO hb0 none) (fun k e => by cases e)
  have HSB : Hid (∀ W, BlkW B [.slice ma nm mc, .slice ca nc cc] W → (fun (W : World) => B < W.heap.size ∧ W.cell? ⟨B, 0, none⟩ = some (.slice ma nm mc) ∧ W.cell? ⟨B, 1, none⟩ = some (.slice ca nc cc)) W) := hid_intro (fun W h => ⟨h.1.1, h.1.2 0 (by simp), h.1.2 1 (by simp)⟩)
  clear hb0
  refine wp_region_held_drew (S := (fun (W : World) => B < W.heap.size ∧ W.cell? ⟨B, 0, none⟩ = some (.slice ma nm mc) ∧ W.cell? ⟨B, 1, none⟩ = some (.slice ca nc cc))) (by kernel_rfl) (HSB.out _ hC0) (fun hHeld => ?_)
  generalize W3.drew = kd at *
  refine wpAnyH_take (i := 0) (oi := { dst := some 10, op := Op.load 26 (Operand.tmp 5), type := 26, pos := "l05_catalog.go:207", after := #[], guard := none }) (v := ?_) rfl (by kernel_rfl) (by kernel_rfl) (by kernel_rfl) (fun _ _ _ h => h) (Or.inl ⟨by rfl, ?_⟩) (by assumption) ?_
  rotate_left
  · (intro w hSw; (try dsimp only at hSw); go_simp) <;> with_reducible rfl
  try simp only [Act.put, List.setIfInBounds_toArray, List.set_cons_zero, List.set_cons_succ]
  refine wpAnyH_take (i := 1) (oi := { dst := some 11, op := Op.move (Operand.tmp 4), type := 46, pos := "l05_catalog.go:207", after := #[], guard := none }) (v := ?_) rfl (by kernel_rfl) (by kernel_rfl) (by kernel_rfl) (fun _ _ _ h => h) (Or.inl ⟨by rfl, ?_⟩) (by assumption) ?_
  rotate_left
  · (intro w hSw; (try dsimp only at hSw); go_simp) <;> with_reducible rfl
  try simp only [Act.put, List.setIfInBounds_toArray, List.set_cons_zero, List.set_cons_succ]
  refine wpAnyH_ready (rs := [2]) (by kernel_rfl) (by simp) ?_
  refine AllReadyH.cons (o := { dst := some 12, op := Op.buildSlice 50 5 #[(0, Operand.const (Value.string { data := #[99, 112, 117] })), (1, Operand.const (Value.string { data := #[100, 105, 115, 107] })), (2, Operand.const (Value.string { data := #[110, 101, 116] })), (3, Operand.const (Value.string { data := #[117, 115, 101, 114, 115] })), (4, Operand.const (Value.string { data := #[110, 111, 110, 101] }))], type := 50, pos := "l05_catalog.go:207", after := #[], guard := none }) rfl (fun K hK => ?_) AllReadyH.nil
  go_simp
  try go_wp2_with fail
  have hb1 : Below kd.heap.size kd (kd.alloc (Obj.cells #[.string ⟨#[99, 112, 117]⟩, .string ⟨#[100, 105, 115, 107]⟩, .string ⟨#[110, 101, 116]⟩, .string ⟨#[117, 115, 101, 114, 115]⟩, .string ⟨#[110, 111, 110, 101]⟩] 9)) := (Below.refl _ _).alloc (Nat.le_refl _) _
  have hB1 := hB0.trans (hb1.mono hB0.size)
  have hR1 := hR0.below hb1
  have hC1 := hC0.below hb1
  have hQ1 := hQ0.below hb1
  have hS1 := hS0.kept (OwG.rgrownO hb1 none) (fun k e => by cases e)
  have hP1 := DocR.BlkW.new kd [.string ⟨#[99, 112, 117]⟩, .string ⟨#[100, 105, 115, 107]⟩, .string ⟨#[110, 101, 116]⟩, .string ⟨#[117, 115, 101, 114, 115]⟩, .string ⟨#[110, 111, 110, 101]⟩] 9
  have hgk : W.heap.size < kd.heap.size := hS0.lt
  have hk1 := HSB.out _ hC1
  refine hK.out _ _ hk1 (fun _ => ?_)
  clear hK K
  try simp only [Act.put, List.setIfInBounds_toArray, List.set_cons_zero, List.set_cons_succ]
  obtain ⟨sb, hsb⟩ : ∃ z, z = kd.heap.size := ⟨_, rfl⟩
  obtain ⟨k1, hke⟩ : ∃ z, z = kd.alloc (Obj.cells #[.string ⟨#[99, 112, 117]⟩, .string ⟨#[100, 105, 115, 107]⟩, .string ⟨#[110, 101, 116]⟩, .string ⟨#[117, 115, 101, 114, 115]⟩, .string ⟨#[110, 111, 110, 101]⟩] 9) := ⟨_, rfl⟩
  rw [← hsb] at hP1 hgk ⊢
  rw [← hke] at hB1 hR1 hC1 hQ1 hS1 hP1 hk1 ⊢
  clear hb1 hke hsb
  refine wpAnyH_ready (rs := [3]) (by kernel_rfl) (by simp) ?_
  refine AllReadyH.cons (o := { dst := some 13, op := Op.call { callee := Callee.value (Operand.func 33), args := #[Operand.tmp 11, Operand.tmp 12], argTypes := #[46, 50] }, type := 9, pos := "l05_catalog.go:207", after := #[{ on := 1, ground := Ground.data }, { on := 2, ground := Ground.data }], guard := none }) rfl (fun K hK => ?_) AllReadyH.nil
  go_simp
  have hstr : Strs sb 5 100 k1 := ⟨hP1.1.1, fun j hj => by
    match j, hj with
    | 0, _ => exact ⟨_, hP1.1.2 0 (by simp), by decide⟩
    | 1, _ => exact ⟨_, hP1.1.2 1 (by simp), by decide⟩
    | 2, _ => exact ⟨_, hP1.1.2 2 (by simp), by decide⟩
    | 3, _ => exact ⟨_, hP1.1.2 3 (by simp), by decide⟩
    | 4, _ => exact ⟨_, hP1.1.2 4 (by simp), by decide⟩⟩
  go_at_call 33
  refine (pick_any ao len cap W.heap.size sb 5 100 _ (by omega) (by omega) (by omega) hS1 hstr).mono ?_
  rintro e q2 ⟨⟨T, rfl, hTs⟩, hS2, hg2⟩
  have hB2 := below_at hB1 hg2 (Nat.le_of_lt hWl)
  have hR2 := OwG.blkW_grown hR1 hg2 (by simp only [ne_eq, Option.some.injEq]; omega)
  have hC2 := OwG.blkW_grown hC1 hg2 (by simp only [ne_eq, Option.some.injEq]; omega)
  have hQ2 := hQ1.grown hg2 hgl1
  clear hstr
  try go_wp2_with fail
  have hk2 := HSB.out _ hC2
  refine hK.out _ _ hk2 (fun _ => ?_)
  clear hK K
  try simp only [Act.put, List.setIfInBounds_toArray, List.set_cons_zero, List.set_cons_succ]
  refine wpAnyH_ready (rs := [4]) (by kernel_rfl) (by simp) ?_
  refine AllReadyH.cons (o := { dst := none, op := Op.store 26 (Operand.tmp 2) (Operand.tmp 10), type := 0, pos := "l05_catalog.go:207", after := #[{ on := 0, ground := Ground.data }, { on := 3, ground := Ground.chain }, { on := 0, ground := Ground.phase }, { on := 1, ground := Ground.textOnly Departure.lateStores }, { on := 2, ground := Ground.textOnly Departure.lateStores }, { on := 3, ground := Ground.textOnly Departure.lateStoresUnsure }], guard := none }) rfl (fun K hK => ?_) AllReadyH.nil
  have r0 : q2.cell? ⟨w.heap.size, 0, none⟩ = some (.slice none 0 0) := hR2.1.2 0 (by simp)
  have r1 : q2.cell? ⟨w.heap.size, 1, none⟩ = some (.slice none 0 0) := hR2.1.2 1 (by simp)
  have rl := hR2.1.1
  have f0 := hR2.2 0 (by simp)
  have f1 := hR2.2 1 (by simp)
  go_simp
  try go_wp2_with fail
  have hgr := StR.stL_grown w.heap.size [.slice ma nm mc, .slice ca nc cc] 0 q2
  have hB3 := hB2.grown hgr hB2.size (fun k e => by cases e; exact Nat.le_refl _)
  have hC3 := OwG.blkW_grown hC2 hgr (by simp only [ne_eq, Option.some.injEq]; omega)
  have hQ3 := hQ2.grown hgr hwl
  have hRF := OwG.stL_blkW hR2 (show ([.slice none 0 0, .slice none 0 0] : List Value).length = [.slice ma nm mc, .slice ca nc cc].length from rfl)
  simp only [StR.stL, Nat.zero_add, Nat.reduceAdd] at hB3 hC3 hQ3 hRF
  clear r0 r1 f0 f1 hgr
  have hk3 := HSB.out _ hC3
  refine hK.out _ _ hk3 (fun _ => ?_)
  clear hK K
  try simp only [Act.put, List.setIfInBounds_toArray, List.set_cons_zero, List.set_cons_succ]
  refine wpAnyH_take (i := 5) (oi := { dst := some 3, op := Op.assign (Operand.tmp 13), type := 9, pos := "l05_catalog.go:207", after := #[{ on := 3, ground := Ground.data }, { on := 4, ground := Ground.chain }, { on := 0, ground := Ground.phase }, { on := 1, ground := Ground.phase }, { on := 2, ground := Ground.phase }, { on := 3, ground := Ground.phase }, { on := 4, ground := Ground.phase }], guard := none }) (v := ?_) rfl (by kernel_rfl) (by kernel_rfl) (by kernel_rfl) (fun _ _ _ h => h) (Or.inl ⟨by rfl, ?_⟩) (by assumption) ?_
  rotate_left
  · (intro w hSw; (try dsimp only at hSw); go_simp) <;> with_reducible rfl
  try simp only [Act.put, List.setIfInBounds_toArray, List.set_cons_zero, List.set_cons_succ]
  refine wpAnyH_done (by kernel_rfl) ?_ _
  have HFin := hid_intro (HO.out _ nm nc T rfl rfl hTs (HFar.out _ hQ3) hB3)
  generalize ((q2.setCell ⟨w.heap.size, 0, none⟩ (.slice ma nm mc)).setCell ⟨w.heap.size, 1, none⟩ (.slice ca nc cc)) = WF at *
  have z0 : WF.cell? ⟨w.heap.size, 0, none⟩ = some (.slice ma nm mc) := hRF.1.2 0 (by simp)
  have z1 : WF.cell? ⟨w.heap.size, 1, none⟩ = some (.slice ca nc cc) := hRF.1.2 1 (by simp)
  clear hRF
  go_wp2_with fail
  refine bodyPost_ret (v := .tuple #[.agg #[.slice ma nm mc, .slice ca nc cc], .string T]) (by simp [results, Tryd.results8, go_sem, z0, z1]) rfl HFin.out
set_option maxRecDepth 100000 in
set_option maxHeartbeats 4000000 in
theorem dcr_any (ao : Option Addr) (len cap : Nat) (w : World) (hlen : len ≤ 1048576) (hB : Bytes ao len w) :
    Calls Tryd.prog 9 #[.slice ao len cap] w fun e w' => DCTOut w e w' := by
  obtain ⟨W, hW⟩ : ∃ W, W = w.alloc (.cells #[.slice none 0 0, .slice none 0 0] 26) := ⟨_, rfl⟩
  have HB0 : Hid (Below w.heap.size w W) := hid_intro (by rw [hW]; exact (Below.refl _ _).alloc (Nat.le_refl _) _)
  have HR0 : Hid (BlkW w.heap.size [.slice none 0 0, .slice none 0 0] W) := hid_intro (by rw [hW]; exact DocR.BlkW.new w [.slice none 0 0, .slice none 0 0] 26)
  have h1 := hid_intro (source_any ao len cap W hlen (hB.below HB0.out))
  have HW := hid_intro hW
  clear hW hB
  go_enter Tryd.func9, Tryd.ntmps9
  go_wp2_with fail
  rw [← HW.out]
  refine h1.out.mono ?_
  rintro e w1 ⟨rfl, hS1, hb1⟩
  have HS1 := hid_intro hS1
  have HB1 := hid_intro (HB0.out.trans (hb1.mono HB0.out.size))
  have HR1 := hid_intro (HR0.out.below hb1)
  have hWl : w.heap.size < W.heap.size := HR0.out.1.1
  have hwl : w.heap.size < w1.heap.size := HR1.out.1.1
  have hgl1 : W.heap.size < w1.heap.size := hS1.lt
  clear hS1 hb1 h1 HW
  go_wp2_with fail
  refine (catalog_any ao len cap W.heap.size _ HS1.out).mono ?_
  rintro e w2 ⟨⟨c, ma, mc, ca, cc, rfl, hM, hC, hs, hfar⟩, hS2, hg2⟩
  have HB2 := hid_intro (below_at HB1.out hg2 (Nat.le_of_lt hWl))
  have HR2 := hid_intro (OwG.blkW_grown HR1.out hg2 (by simp only [ne_eq, Option.some.injEq]; omega))
  have HS2 := hid_intro hS2
  obtain ⟨W3, hW3⟩ : ∃ z, z = w2.alloc (.cells #[.slice ma c.ms.length mc, .slice ca c.cs.length cc] 26) := ⟨_, rfl⟩
  obtain ⟨B, hBe⟩ : ∃ z, z = w2.heap.size := ⟨_, rfl⟩
  have hal : Below w2.heap.size w2 W3 := by rw [hW3]; exact (Below.refl _ _).alloc (Nat.le_refl _) _
  have hBlk : BlkW B [.slice ma c.ms.length mc, .slice ca c.cs.length cc] W3 := by rw [hW3, hBe]; exact DocR.BlkW.new w2 [.slice ma c.ms.length mc, .slice ca c.cs.length cc] 26
  have HFar : Hid (∀ W' : World, Kq w1.heap.size w2 W' → DCat c ma ca W') := hid_intro (fun W' q => by
    have k1 := hfar W' q.size q.block
    exact ⟨k1.1, k1.2, hs⟩)
  have HO : Hid (∀ W' nm nc t, nm = c.ms.length → nc = c.cs.length → t.size ≤ 100 → DCat c ma ca W' → Below w.heap.size w W' → DCTOut w (.returned (.tuple #[.agg #[.slice ma nm mc, .slice ca nc cc], .string t])) W') := hid_intro (fun W' nm nc t e1 e2 e3 h hb => by subst e1; subst e2; exact ⟨⟨c, ma, mc, ca, cc, t, rfl, e3, h⟩, hb⟩)
  have HB3 := hid_intro (HB2.out.trans (hal.mono HB2.out.size))
  have HR3 := hid_intro (HR2.out.below hal)
  have HS3 := hid_intro (HS2.out.kept (OwG.rgrownO hal none) (fun k e => by cases e))
  have HK3 : Hid (Kq w1.heap.size w2 W3) := hid_intro ((Kq.refl _ _).below hal)
  have HBk := hid_intro hBlk
  have HWW := hid_intro hW3
  have HBE := hid_intro hBe
  have hw12 : w1.heap.size ≤ w2.heap.size := hg2.size
  generalize hnm : c.ms.length = nm at *
  generalize hnc : c.cs.length = nc at *
  clear hM hC hs hfar hS2 hg2 hal hBlk hW3 hBe HB2 HR2 HS2 HB1 HR1 HS1 HB0 HR0
  go_wp2_with fail
  rw [← HWW.out, ← HBE.out]
  clear HWW
  have hBl : w1.heap.size ≤ B := by rw [HBE.out]; exact hw12
  have hb0 := (Below.refl W3.heap.size W3).drew
  have hB0 := HB3.out.trans (hb0.mono HB3.out.size)
  have hR0 := HR3.out.below hb0
  have hC0 := HBk.out.below hb0
  have hQ0 := HK3.out.below hb0
  have hS0 := HS3.out.kept (OwG.rgrownO hb0 none) (fun k e => by cases e)
  have HSB : Hid (∀ W, BlkW B [.slice ma nm mc, .slice ca nc cc] W → (fun (W : World) => B < W.heap.size ∧ W.cell? ⟨B, 0, none⟩ = some (.slice ma nm mc) ∧ W.cell? ⟨B, 1, none⟩ = some (.slice ca nc cc)) W) := hid_intro (fun W h => ⟨h.1.1, h.1.2 0 (by simp), h.1.2 1 (by simp)⟩)
  clear hb0
  refine wp_region_held_drew (S := (fun (W : World) => B < W.heap.size ∧ W.cell? ⟨B, 0, none⟩ = some (.slice ma nm mc) ∧ W.cell? ⟨B, 1, none⟩ = some (.slice ca nc cc))) (by kernel_rfl) (HSB.out _ hC0) (fun hHeld => ?_)
  generalize W3.drew = kd at *
  refine wpAnyH_take (i := 0) (oi := { dst := some 10, op := Op.load 26 (Operand.tmp 5), type := 26, pos := "l05_catalog.go:213", after := #[], guard := none }) (v := ?_) rfl (by kernel_rfl) (by kernel_rfl) (by kernel_rfl) (fun _ _ _ h => h) (Or.inl ⟨by rfl, ?_⟩) (by assumption) ?_
  rotate_left
  · (intro w hSw; (try dsimp only at hSw); go_simp) <;> with_reducible rfl
  try simp only [Act.put, List.setIfInBounds_toArray, List.set_cons_zero, List.set_cons_succ]
  refine wpAnyH_take (i := 1) (oi := { dst := some 11, op := Op.move (Operand.tmp 4), type := 46, pos := "l05_catalog.go:213", after := #[], guard := none }) (v := ?_) rfl (by kernel_rfl) (by kernel_rfl) (by kernel_rfl) (fun _ _ _ h => h) (Or.inl ⟨by rfl, ?_⟩) (by assumption) ?_
  rotate_left
  · (intro w hSw; (try dsimp only at hSw); go_simp) <;> with_reducible rfl
  try simp only [Act.put, List.setIfInBounds_toArray, List.set_cons_zero, List.set_cons_succ]
  refine wpAnyH_ready (rs := [2]) (by kernel_rfl) (by simp) ?_
  refine AllReadyH.cons (o := { dst := some 12, op := Op.buildSlice 50 2 #[(0, Operand.const (Value.string { data := #[97, 110, 110] })), (1, Operand.const (Value.string { data := #[98, 111, 98] }))], type := 50, pos := "l05_catalog.go:213", after := #[], guard := none }) rfl (fun K hK => ?_) AllReadyH.nil
  go_simp
  try go_wp2_with fail
  have hb1 : Below kd.heap.size kd (kd.alloc (Obj.cells #[.string ⟨#[97, 110, 110]⟩, .string ⟨#[98, 111, 98]⟩] 9)) := (Below.refl _ _).alloc (Nat.le_refl _) _
  have hB1 := hB0.trans (hb1.mono hB0.size)
  have hR1 := hR0.below hb1
  have hC1 := hC0.below hb1
  have hQ1 := hQ0.below hb1
  have hS1 := hS0.kept (OwG.rgrownO hb1 none) (fun k e => by cases e)
  have hP1 := DocR.BlkW.new kd [.string ⟨#[97, 110, 110]⟩, .string ⟨#[98, 111, 98]⟩] 9
  have hgk : W.heap.size < kd.heap.size := hS0.lt
  have hk1 := HSB.out _ hC1
  refine hK.out _ _ hk1 (fun _ => ?_)
  clear hK K
  try simp only [Act.put, List.setIfInBounds_toArray, List.set_cons_zero, List.set_cons_succ]
  obtain ⟨sb, hsb⟩ : ∃ z, z = kd.heap.size := ⟨_, rfl⟩
  obtain ⟨k1, hke⟩ : ∃ z, z = kd.alloc (Obj.cells #[.string ⟨#[97, 110, 110]⟩, .string ⟨#[98, 111, 98]⟩] 9) := ⟨_, rfl⟩
  rw [← hsb] at hP1 hgk ⊢
  rw [← hke] at hB1 hR1 hC1 hQ1 hS1 hP1 hk1 ⊢
  clear hb1 hke hsb
  refine wpAnyH_ready (rs := [3]) (by kernel_rfl) (by simp) ?_
  refine AllReadyH.cons (o := { dst := some 13, op := Op.call { callee := Callee.value (Operand.func 33), args := #[Operand.tmp 11, Operand.tmp 12], argTypes := #[46, 50] }, type := 9, pos := "l05_catalog.go:213", after := #[{ on := 1, ground := Ground.data }, { on := 2, ground := Ground.data }], guard := none }) rfl (fun K hK => ?_) AllReadyH.nil
  go_simp
  have hstr : Strs sb 2 100 k1 := ⟨hP1.1.1, fun j hj => by
    match j, hj with
    | 0, _ => exact ⟨_, hP1.1.2 0 (by simp), by decide⟩
    | 1, _ => exact ⟨_, hP1.1.2 1 (by simp), by decide⟩⟩
  go_at_call 33
  refine (pick_any ao len cap W.heap.size sb 2 100 _ (by omega) (by omega) (by omega) hS1 hstr).mono ?_
  rintro e q2 ⟨⟨T, rfl, hTs⟩, hS2, hg2⟩
  have hB2 := below_at hB1 hg2 (Nat.le_of_lt hWl)
  have hR2 := OwG.blkW_grown hR1 hg2 (by simp only [ne_eq, Option.some.injEq]; omega)
  have hC2 := OwG.blkW_grown hC1 hg2 (by simp only [ne_eq, Option.some.injEq]; omega)
  have hQ2 := hQ1.grown hg2 hgl1
  clear hstr
  try go_wp2_with fail
  have hk2 := HSB.out _ hC2
  refine hK.out _ _ hk2 (fun _ => ?_)
  clear hK K
  try simp only [Act.put, List.setIfInBounds_toArray, List.set_cons_zero, List.set_cons_succ]
  refine wpAnyH_ready (rs := [4]) (by kernel_rfl) (by simp) ?_
  refine AllReadyH.cons (o := { dst := none, op := Op.store 26 (Operand.tmp 2) (Operand.tmp 10), type := 0, pos := "l05_catalog.go:213", after := #[{ on := 0, ground := Ground.data }, { on := 3, ground := Ground.chain }, { on := 0, ground := Ground.phase }, { on := 1, ground := Ground.textOnly Departure.lateStores }, { on := 2, ground := Ground.textOnly Departure.lateStores }, { on := 3, ground := Ground.textOnly Departure.lateStoresUnsure }], guard := none }) rfl (fun K hK => ?_) AllReadyH.nil
  have r0 : q2.cell? ⟨w.heap.size, 0, none⟩ = some (.slice none 0 0) := hR2.1.2 0 (by simp)
  have r1 : q2.cell? ⟨w.heap.size, 1, none⟩ = some (.slice none 0 0) := hR2.1.2 1 (by simp)
  have rl := hR2.1.1
  have f0 := hR2.2 0 (by simp)
  have f1 := hR2.2 1 (by simp)
  go_simp
  try go_wp2_with fail
  have hgr := StR.stL_grown w.heap.size [.slice ma nm mc, .slice ca nc cc] 0 q2
  have hB3 := hB2.grown hgr hB2.size (fun k e => by cases e; exact Nat.le_refl _)
  have hC3 := OwG.blkW_grown hC2 hgr (by simp only [ne_eq, Option.some.injEq]; omega)
  have hQ3 := hQ2.grown hgr hwl
  have hRF := OwG.stL_blkW hR2 (show ([.slice none 0 0, .slice none 0 0] : List Value).length = [.slice ma nm mc, .slice ca nc cc].length from rfl)
  simp only [StR.stL, Nat.zero_add, Nat.reduceAdd] at hB3 hC3 hQ3 hRF
  clear r0 r1 f0 f1 hgr
  have hk3 := HSB.out _ hC3
  refine hK.out _ _ hk3 (fun _ => ?_)
  clear hK K
  try simp only [Act.put, List.setIfInBounds_toArray, List.set_cons_zero, List.set_cons_succ]
  refine wpAnyH_take (i := 5) (oi := { dst := some 3, op := Op.assign (Operand.tmp 13), type := 9, pos := "l05_catalog.go:213", after := #[{ on := 3, ground := Ground.data }, { on := 4, ground := Ground.chain }, { on := 0, ground := Ground.phase }, { on := 1, ground := Ground.phase }, { on := 2, ground := Ground.phase }, { on := 3, ground := Ground.phase }, { on := 4, ground := Ground.phase }], guard := none }) (v := ?_) rfl (by kernel_rfl) (by kernel_rfl) (by kernel_rfl) (fun _ _ _ h => h) (Or.inl ⟨by rfl, ?_⟩) (by assumption) ?_
  rotate_left
  · (intro w hSw; (try dsimp only at hSw); go_simp) <;> with_reducible rfl
  try simp only [Act.put, List.setIfInBounds_toArray, List.set_cons_zero, List.set_cons_succ]
  refine wpAnyH_done (by kernel_rfl) ?_ _
  have HFin := hid_intro (HO.out _ nm nc T rfl rfl hTs (HFar.out _ hQ3) hB3)
  generalize ((q2.setCell ⟨w.heap.size, 0, none⟩ (.slice ma nm mc)).setCell ⟨w.heap.size, 1, none⟩ (.slice ca nc cc)) = WF at *
  have z0 : WF.cell? ⟨w.heap.size, 0, none⟩ = some (.slice ma nm mc) := hRF.1.2 0 (by simp)
  have z1 : WF.cell? ⟨w.heap.size, 1, none⟩ = some (.slice ca nc cc) := hRF.1.2 1 (by simp)
  clear hRF
  go_wp2_with fail
  refine bodyPost_ret (v := .tuple #[.agg #[.slice ma nm mc, .slice ca nc cc], .string T]) (by simp [results, Tryd.results9, go_sem, z0, z1]) rfl HFin.out
end DrawR
end Go.Proofs.YtaedolophhcjjaaDoor
namespace Go.Proofs.YtaedolophhcjjaaDoor
open Go.ChangeShapes Go.WideShapes Go.ChangeAt Go.RowKit
set_option linter.unusedVariables false
namespace CatR
open EvtR (Pt)
theorem ldrewN {B : Nat} {a w : World} (h : Below B a w) (n : Nat) : Below B a (w.drewN n) := ⟨h.os, h.tape, h.output, h.size, h.block⟩
set_option maxRecDepth 100000 in
set_option maxHeartbeats 4000000 in
theorem lwMe_any (v v' : Value) (m : Me) (w : World) (hl : m.ts.length ≤ 1048576) (hI : IsMe v m w) (hJ : IsMe v' m w) :
    Calls Tryd.prog 14 #[v, v'] w fun e w' => e = .returned (.bool true) ∧ Below w.heap.size w w' := by
  obtain ⟨ta, tc, rfl, hT⟩ := hI
  obtain ⟨ta', tc', rfl, hT'⟩ := hJ
  obtain ⟨n, g, wh, f, l, ts⟩ := m
  dsimp only at *
  have HT := hid_intro hT
  have HT' := hid_intro hT'
  obtain ⟨W0, hW0⟩ : ∃ W0, W0 = (w.alloc (.cells #[.string n, .int .i64 g, .bool wh, .int .i64 f, .int .i64 l, .slice ta ts.length tc] 37)).alloc (.cells #[.string n, .int .i64 g, .bool wh, .int .i64 f, .int .i64 l, .slice ta' ts.length tc'] 37) := ⟨_, rfl⟩
  have HB0 : Hid (Below w.heap.size w W0) := hid_intro (by rw [hW0]; exact ((Below.refl _ _).alloc (Nat.le_refl _) _).alloc (by simp) _)
  have HX0 : Hid (Blk w.heap.size [.string n, .int .i64 g, .bool wh, .int .i64 f, .int .i64 l, .slice ta ts.length tc] W0) := hid_intro (by rw [hW0]; exact (Blk.new w [.string n, .int .i64 g, .bool wh, .int .i64 f, .int .i64 l, .slice ta ts.length tc] 37).alloc _)
  have HY0 : Hid (Blk (w.heap.size + 1) [.string n, .int .i64 g, .bool wh, .int .i64 f, .int .i64 l, .slice ta' ts.length tc'] W0) := hid_intro (by
    rw [hW0]
    have := Blk.new (w.alloc (.cells #[.string n, .int .i64 g, .bool wh, .int .i64 f, .int .i64 l, .slice ta ts.length tc] 37)) [.string n, .int .i64 g, .bool wh, .int .i64 f, .int .i64 l, .slice ta' ts.length tc'] 37
    simpa using this)
  have HW := hid_intro hW0
  generalize ts.length = tl at *
  clear hT hT' hW0
  go_enter Tryd.func14, Tryd.ntmps14
  go_wp2_with fail
  rw [← HW.out]
  go_loopw [5] (fun z wr => ∃ k : Nat, k ≤ tl ∧ z = .int .i64 k ∧ Hid (Below w.heap.size w wr) ∧ Hid (Blk w.heap.size [.string n, .int .i64 g, .bool wh, .int .i64 f, .int .i64 l, .slice ta tl tc] wr) ∧ Hid (Blk (w.heap.size + 1) [.string n, .int .i64 g, .bool wh, .int .i64 f, .int .i64 l, .slice ta' tl tc'] wr)) (fun z _ => tl - (intOf z).toNat)
  case atStart => exact ⟨0, by omega, rfl, HB0, HX0, HY0⟩
  case round =>
    obtain ⟨k, hk, rfl, HB, HX, HY⟩ := hrel
    have x5 : wr.cell? ⟨w.heap.size, 5, none⟩ = some (.slice ta tl tc) := HX.out.2 5 (by simp)
    have y5 : wr.cell? ⟨w.heap.size + 1, 5, none⟩ = some (.slice ta' tl tc') := HY.out.2 5 (by simp)
    have xl := HX.out.1
    have yl := HY.out.1
    by_cases hlt : k < tl
    · have hlt2 : (k : Int) < (tl : Int) := by omega
      obtain ⟨b, off, rfl, _, c0, c1⟩ := tis_at (HT.out.below HB.out) k hlt
      obtain ⟨b', off', rfl, _, e0, e1⟩ := tis_at (HT'.out.below HB.out) k hlt
      generalize ts.getD k Ti.zero = X at *
      obtain ⟨u, p⟩ := X
      go_wp2_with fail
      try (go_quiet (fail); go_wp2_with fail)
      go_roundw
      case rel => exact ⟨k + 1, by omega, by go_num, by first | exact HB | exact hid_intro (ldrewN HB.out _), by first | exact HX | exact hid_intro (HX.out.drewN _), by first | exact HY | exact hid_intro (HY.out.drewN _)⟩
      case measure => simp [intOf]; omega
    · have hlt2 : ¬ (k : Int) < (tl : Int) := by omega
      go_wp2_with fail
      go_ret
      exact ⟨rfl, HB.out⟩
set_option maxRecDepth 100000 in
set_option maxHeartbeats 4000000 in
theorem lwCa_any (v v' : Value) (c : Ca) (w : World) (hS : c.Small) (hI : IsCa v c w) (hJ : IsCa v' c w) :
    Calls Tryd.prog 12 #[v, v'] w fun e w' => e = .returned (.bool true) ∧ Below w.heap.size w w' := by
  obtain ⟨ma, mc, ca, cc, rfl, hM, hC⟩ := hI
  obtain ⟨ma', mc', ca', cc', rfl, hM', hC'⟩ := hJ
  obtain ⟨s1, s2, s3, s4⟩ := hS
  obtain ⟨ms, cs⟩ := c
  dsimp only at *
  have HM := hid_intro hM
  have HM' := hid_intro hM'
  have HC := hid_intro hC
  have HC' := hid_intro hC'
  have HSM := hid_intro s2
  obtain ⟨W0, hW0⟩ : ∃ W0, W0 = (w.alloc (.cells #[.slice ma ms.length mc, .slice ca cs.length cc] 26)).alloc (.cells #[.slice ma' ms.length mc', .slice ca' cs.length cc'] 26) := ⟨_, rfl⟩
  have HB0 : Hid (Below w.heap.size w W0) := hid_intro (by rw [hW0]; exact ((Below.refl _ _).alloc (Nat.le_refl _) _).alloc (by simp) _)
  have HX0 : Hid (Blk w.heap.size [.slice ma ms.length mc, .slice ca cs.length cc] W0) := hid_intro (by rw [hW0]; exact (Blk.new w [.slice ma ms.length mc, .slice ca cs.length cc] 26).alloc _)
  have HY0 : Hid (Blk (w.heap.size + 1) [.slice ma' ms.length mc', .slice ca' cs.length cc'] W0) := hid_intro (by
    rw [hW0]
    have := Blk.new (w.alloc (.cells #[.slice ma ms.length mc, .slice ca cs.length cc] 26)) [.slice ma' ms.length mc', .slice ca' cs.length cc'] 26
    simpa using this)
  have HW := hid_intro hW0
  generalize ms.length = ml at *
  generalize cs.length = cl at *
  clear hM hM' hC hC' hW0 s2 s4
  go_enter Tryd.func12, Tryd.ntmps12
  go_wp2_with fail
  rw [← HW.out]
  go_loopw [5] (fun z wr => ∃ k : Nat, k ≤ ml ∧ z = .int .i64 k ∧ Hid (Below w.heap.size w wr) ∧ Hid (Blk w.heap.size [.slice ma ml mc, .slice ca cl cc] wr) ∧ Hid (Blk (w.heap.size + 1) [.slice ma' ml mc', .slice ca' cl cc'] wr)) (fun z _ => ml - (intOf z).toNat)
  case atStart => exact ⟨0, by omega, rfl, HB0, HX0, HY0⟩
  case round =>
    obtain ⟨k, hk, rfl, HB, HX, HY⟩ := hrel
    have x0 : wr.cell? ⟨w.heap.size, 0, none⟩ = some (.slice ma ml mc) := HX.out.2 0 (by simp)
    have y0 : wr.cell? ⟨w.heap.size + 1, 0, none⟩ = some (.slice ma' ml mc') := HY.out.2 0 (by simp)
    have xl := HX.out.1
    have yl := HY.out.1
    by_cases hlt : k < ml
    · have hlt2 : (k : Int) < (ml : Int) := by omega
      obtain ⟨b, off, rfl, _, ta, tc, c0, c1, c2, c3, c4, c5, hT⟩ := mes_at (HM.out.below HB.out) k hlt
      obtain ⟨b', off', rfl, _, ta', tc', e0, e1, e2, e3, e4, e5, hT'⟩ := mes_at (HM'.out.below HB.out) k hlt
      have hsm := HSM.out k hlt
      generalize ms.getD k Me.zero = X at *
      have HLW := hid_intro (fun W (hb : Below wr.heap.size wr W) => lwMe_any (.agg #[.string X.n, .int .i64 X.g, .bool X.wh, .int .i64 X.f, .int .i64 X.l, .slice ta X.ts.length tc]) (.agg #[.string X.n, .int .i64 X.g, .bool X.wh, .int .i64 X.f, .int .i64 X.l, .slice ta' X.ts.length tc']) X W hsm.2 ⟨ta, tc, rfl, hT.below hb⟩ ⟨ta', tc', rfl, hT'.below hb⟩)
      obtain ⟨n, g, wh, f, l, ts⟩ := X
      dsimp only at c0 c1 c2 c3 c4 c5 e0 e1 e2 e3 e4 e5 HLW
      generalize ts.length = tl at *
      clear hT hT' hsm
      go_wp2_with fail
      go_region_with (go_at_call 14; refine (HLW.out _ (Below.refl _ _).drew).mono ?_; rintro e w1 ⟨rfl, hb⟩)
      all_goals (
        have HB1 := hid_intro (HB.out.drew.trans (hb.mono HB.out.drew.size))
        have HX1 : Hid (Blk w.heap.size [.slice (some ⟨b, off, none⟩) ml mc, .slice ca cl cc] w1) := hid_intro (HX.out.drew.below hb)
        have HY1 : Hid (Blk (w.heap.size + 1) [.slice (some ⟨b', off', none⟩) ml mc', .slice ca' cl cc'] w1) := hid_intro (HY.out.drew.below hb)
        clear hb c0 c1 c2 c3 c4 c5 e0 e1 e2 e3 e4 e5 x0 y0 xl yl
        go_wp2_with fail
        go_roundw
        case rel => exact ⟨k + 1, by omega, by go_num, HB1, HX1, HY1⟩
        case measure => simp [intOf]; omega)
    · have hlt2 : ¬ (k : Int) < (ml : Int) := by omega
      clear HM HM' HSM
      go_wp2_with fail
      go_loopw [6] (fun z wr => ∃ k : Nat, k ≤ cl ∧ z = .int .i64 k ∧ Hid (Below w.heap.size w wr) ∧ Hid (Blk w.heap.size [.slice ma ml mc, .slice ca cl cc] wr) ∧ Hid (Blk (w.heap.size + 1) [.slice ma' ml mc', .slice ca' cl cc'] wr)) (fun z _ => cl - (intOf z).toNat)
      case atStart => exact ⟨0, by omega, rfl, HB, HX, HY⟩
      case round =>
        clear x0 y0 xl yl HB HX HY
        obtain ⟨j, hj, rfl, HB, HX, HY⟩ := hrel
        have x1 : wr.cell? ⟨w.heap.size, 1, none⟩ = some (.slice ca cl cc) := HX.out.2 1 (by simp)
        have y1 : wr.cell? ⟨w.heap.size + 1, 1, none⟩ = some (.slice ca' cl cc') := HY.out.2 1 (by simp)
        have xl := HX.out.1
        have yl := HY.out.1
        by_cases hlt3 : j < cl
        · have hlt4 : (j : Int) < (cl : Int) := by omega
          obtain ⟨b, off, rfl, _, c0, c1⟩ := crs_at (HC.out.below HB.out) j hlt3
          obtain ⟨b', off', rfl, _, e0, e1⟩ := crs_at (HC'.out.below HB.out) j hlt3
          generalize cs.getD j Cr.zero = X at *
          obtain ⟨u, p⟩ := X
          go_wp2_with fail
          try (go_quiet (fail); go_wp2_with fail)
          go_roundw
          case rel => exact ⟨j + 1, by omega, by go_num, by first | exact HB | exact hid_intro (ldrewN HB.out _), by first | exact HX | exact hid_intro (HX.out.drewN _), by first | exact HY | exact hid_intro (HY.out.drewN _)⟩
          case measure => simp [intOf]; omega
        · have hlt4 : ¬ (j : Int) < (cl : Int) := by omega
          go_wp2_with fail
          go_ret
          exact ⟨rfl, HB.out⟩
end CatR
end Go.Proofs.YtaedolophhcjjaaDoor
namespace Go.Proofs.YtaedolophhcjjaaDoor
open Go.ChangeShapes Go.WideShapes Go.ChangeAt Go.RowKit
set_option linter.unusedVariables false
namespace CloneR
theorem hid_intro {p : Prop} (h : p) : Hid p := h
theorem info8 : (Tryd.prog.info? 5).map (fun i => (i.zero, i.size, i.bytes)) = some (some (.int .u8 0), 1, 1) := by kernel_rfl
set_option maxHeartbeats 4000000 in
set_option maxRecDepth 100000 in
theorem lite_any (s : ByteArray) (w : World) (hlim : s.size ≤ 281474976710656) :
    Calls Tryd.prog 76 #[.string s] w fun e w' => e = .returned (.string s) ∧ Below w.heap.size w w' := by
  by_cases h0 : s.size = 0
  · obtain rfl : s = ⟨#[]⟩ := ByteArray.ext (Array.eq_empty_of_size_eq_zero h0)
    go_enter Tryd.func76, Tryd.ntmps76
    go_wp2
    go_ret
    exact ⟨rfl, Below.refl _ _⟩
  · obtain ⟨i0, hi, hz0, hz1, hz2⟩ := info_parts info8
    have hone : (Tryd.prog.info? 5).map (·.size) = some 1 := by rw [hi]; simp [hz1]
    have hcells : Tryd.prog.cellsOf 5 = 1 := by simp [Program.cellsOf, hi, hz1]
    obtain ⟨M, hM⟩ : ∃ M, M = madeCells (Value.int .u8 0).cells (((s.size : Nat) : Int).toNat * i0.size) := ⟨_, rfl⟩
    have hMs : M.size = s.size := by rw [hM, size_madeCells, hz1]; simp
    have hmake : ∀ W : World, (Instr.makeSlice 22 (.int .i64 (s.size : Int)) (.int .i64 (s.size : Int))).run Tryd.prog W = .ok (.slice (some ⟨W.heap.size, 0, none⟩) s.size s.size) (W.alloc (.cells M 5)) := fun W => by
      have h := run_make (P := Tryd.prog) W 22 5 i0 (.int .u8 0) Tryd.underlying22 hi hz0 .i64 .i64 (s.size : Int) (s.size : Int) (by omega) (by omega) (by rw [hz2]; omega) (by omega)
      rw [← hM] at h
      simpa using h
    clear hM
    have hcopy := Lib.run_copy_row_string (P := Tryd.prog) (w.alloc (.cells M 5)) 22 9 3 5 w.heap.size 0 s.size s.size s M 5 Tryd.underlying22 hone (heap_alloc_new w _) (Nat.le_refl _) (by omega)
    obtain ⟨Y, hY⟩ : ∃ Y, Y = (M.toList.take 0 ++ Lib.byteCells s.data.toList ++ M.toList.drop (0 + s.size)).toArray := ⟨_, rfl⟩
    rw [← hY] at hcopy
    have hYl : Y.toList = Lib.byteCells s.data.toList := by
      rw [hY, List.toList_toArray, List.take_zero, List.nil_append, List.drop_of_length_le (by rw [Array.length_toList]; omega), List.append_nil]
    have hYs : Y.size = s.size := by rw [← Array.length_toList, hYl, Lib.byteCells_length, ← Lib.size_eq]
    have hg : ((w.alloc (.cells M 5)).setRow w.heap.size Y).heap[w.heap.size]? = some (.cells Y 5 (0, 0)) := setRow_heap _ _ M _ 5 (0, 0) (heap_alloc_new w _)
    have hne : s.data.toList ≠ [] := fun e => h0 (by rw [Lib.size_eq, e]; rfl)
    have hstr := Lib.run_unsafeString_row (P := Tryd.prog) ((w.alloc (.cells M 5)).setRow w.heap.size Y) 127 3 9 5 Tryd.underlying127 hcells w.heap.size Y.size (by unfold World.shape?; rw [hg]) s.data.toList hne (by rw [← Lib.size_eq]; omega) (by rw [← Lib.size_eq]; omega)
      (fun j x hx => Lib.cells_of_row hg Y.size j _ (by rw [List.take_of_length_le (by rw [Array.length_toList]; exact Nat.le_refl _), hYl]; simp [Lib.byteCells, hx]))
    rw [← Lib.size_eq] at hstr
    clear hY
    go_enter Tryd.func76, Tryd.ntmps76
    go_wp2
    go_ret
    have b1 : Below w.heap.size w (w.alloc (.cells M 5)) := (Below.refl _ w).alloc (Nat.le_refl _) _
    have b2 : Below w.heap.size (w.alloc (.cells M 5)) ((w.alloc (.cells M 5)).setRow w.heap.size Y) := ⟨rfl, rfl, rfl, by simp, fun k hk => setRow_other _ _ _ _ (by omega)⟩
    exact ⟨rfl, Lib.below_freeze (b1.trans b2) (p := ⟨w.heap.size, 0, none⟩) (Nat.le_refl _) _⟩
theorem clone_any (s : ByteArray) (w : World) (hlim : s.size ≤ 281474976710656) :
    Calls Tryd.prog 70 #[.string s] w fun e w' => e = .returned (.string s) ∧ Below w.heap.size w w' := by
  have H := hid_intro (fun w => lite_any s w hlim)
  go_enter Tryd.func70, Tryd.ntmps70
  go_wp2_with (go_at_call 76; refine (H.out _).mono ?_; rintro e w1 ⟨rfl, hb⟩)
  go_ret
  exact ⟨rfl, hb⟩
end CloneR
end Go.Proofs.YtaedolophhcjjaaDoor
namespace Go.Proofs.YtaedolophhcjjaaDoor
open Go.ChangeShapes Go.WideShapes Go.ChangeAt Go.RowKit
set_option linter.unusedVariables false
namespace RowG
section
variable {P : Program}
theorem run_copy_k (k : Nat) (w : World) (dT sT ty elem : TypeId) (g o dLen dCap : Nat) (a : Addr) (sLen sCap : Nat) (cur : Array Value) (t : TypeId) (cs : List Value)
    (hu : P.underlying dT = some (.slice elem)) (hs : (P.info? elem).map (·.size) = some k)
    (hg : w.heap[g]? = some (.cells cur t (0, 0))) (hn : cs.length = Nat.min sLen dLen * k)
    (hsrc : ∀ j v, cs[j]? = some v → w.cell? (a.add j) = some v) (hfit : o + cs.length ≤ cur.size) (h1 : ∀ v ∈ cs, v.oneCell' = true) :
    (Builtin.copy_ #[dT, sT] ty #[.slice (some ⟨g, o, none⟩) dLen dCap, .slice (some a) sLen sCap]).run P w =
      .ok (goInt (Nat.min sLen dLen)) (w.setRow g (cur.toList.take o ++ (cs ++ cur.toList.drop (o + cs.length))).toArray) := by
  have hl := run_loadCells_list (P := P) w a cs hsrc
  have hst := run_storeCells_at P g o t cs 0 cur w hg (by simpa using hfit) h1
  cases hq : P.info? elem with
  | none => simp [hq] at hs
  | some i =>
    have hi : i.size = k := by simpa [hq] using hs
    simp [Builtin.copy_, run_underlying hu, Builtin.lenOf, Builtin.firstCells, sizeOf, typeInfo, hq, hi, ← hn, hl, hst]
theorem wpList_copy_eq (w : World) {ops : Array Oper} {rest : List Oper} {o : Oper} {a : Act} {Q : Exit → Act → World → Prop} (hgd : o.guard = none) (d s : Operand) (t t' : TypeId)
    (ho : o.op = .call { callee := .builtin .copy, args := #[d, s], argTypes := #[t, t'] }) (v u : Value) (hd : a.eval d = v) (hs : a.eval s = u) {v' : Value} {w' : World}
    (hr : (Builtin.copy_ #[t, t'] o.type #[v, u]).run P w = .ok v' w') (h : wpList P ops Q rest (a.put o.dst v') w') : wpList P ops Q (o :: rest) a w := by
  refine wpList_plain hgd fun K hK => ?_
  unfold Oper.wp
  simp [execOp, ho, resolve, invoke, builtin, hd, hs, hr, Result.andThen]
  exact hK _ _ h
theorem step_copy_eq {ops : Array Oper} {o : Oper} {a : Act} {w : World} {K : Act → World → Prop} {Q : Exit → Act → World → Prop} {E : Prop}
    (hg : o.guard = none) (d x : Operand) (dT sT : TypeId) (hop : o.op = Op.call { callee := Callee.builtin Builtin.copy, args := #[d, x], argTypes := #[dT, sT] })
    (v u : Value) (hd : a.eval d = v) (hx : a.eval x = u) {v' : Value} {w' : World} (hr : (Builtin.copy_ #[dT, sT] o.type #[v, u]).run P w = .ok v' w') (hK : K (a.put o.dst v') w') :
    if Region.wanted o (yielded ops a.tmps) = true then Oper.wp P o a w K Q else E := by
  have hw : Region.wanted o (yielded ops a.tmps) = true := by simp [Region.wanted, hg]
  rw [if_pos hw]
  unfold Oper.wp
  simp [execOp, hop, resolve, invoke, builtin, hd, hx, hr, Result.andThen]
  exact hK
end
end RowG
end Go.Proofs.YtaedolophhcjjaaDoor
namespace Go.Proofs.YtaedolophhcjjaaDoor
open Go.ChangeShapes Go.WideShapes Go.ChangeAt Go.RowKit
set_option linter.unusedVariables false
namespace CatR
open EvtR (Pt)
def Ti.cellz (t : Ti) : List Value := [.int .i64 t.u, .int .i64 t.p]
theorem Ti.lenz (t : Ti) : t.cellz.length = 2 := rfl
/-- The cells of tiers. -/
def tisC (ts : List Ti) : List Value := RowG.cellsAll Ti.cellz ts
theorem tisC_len (ts : List Ti) : (tisC ts).length = ts.length * 2 := RowG.cellsAll_len Ti.lenz ts
theorem tis_cells {b off : Nat} {ts : List Ti} {w : World} (h : Tis (some ⟨b, off, none⟩) ts.length ts w) : ∀ j u, (tisC ts)[j]? = some u → w.cell? ⟨b, off + j, none⟩ = some u := by
  intro j u hj
  have hlt := (List.getElem?_eq_some_iff.1 hj).1
  rw [tisC_len] at hlt
  have e : j = (j / 2) * 2 + j % 2 := by omega
  have hi : j / 2 < ts.length := by omega
  unfold tisC at hj
  rw [e, RowG.cellsAll_get (z := Ti.zero) Ti.lenz ts (j / 2) (j % 2) hi (by omega)] at hj
  rcases h.2 with h0 | ⟨b', off', he, _, hc⟩
  · omega
  · simp only [Option.some.injEq, Addr.mk.injEq, and_true] at he
    obtain ⟨rfl, rfl⟩ := he
    obtain ⟨c0, c1⟩ := hc (j / 2) hi
    rcases (show j % 2 = 0 ∨ j % 2 = 1 by omega) with q | q
    · rw [q] at hj
      rw [show off + j = off + (j / 2) * 2 by omega, c0]
      simpa [Ti.cellz] using hj
    · rw [q] at hj
      rw [show off + j = off + (j / 2) * 2 + 1 by omega, c1]
      simpa [Ti.cellz] using hj
theorem tisC_one (ts : List Ti) : ∀ v ∈ tisC ts, v.oneCell' = true := by
  intro v hv
  simp only [tisC, RowG.cellsAll, List.mem_flatMap, Ti.cellz, List.mem_cons, List.not_mem_nil, or_false] at hv
  obtain ⟨x, _, rfl | rfl⟩ := hv <;> rfl
/-- A row of tiers that was made. -/
theorem own_tisz {w : World} {base : Nat} {v : Value} {ts : List Ti} (h : w.ownsRow base 72 2 v ts.length (tisC ts)) : ∃ ao cap, v = .slice ao ts.length cap ∧ Tis ao ts.length ts w ∧ (ts.length = 0 ∨ ∃ g, ao = some ⟨g, 0, none⟩ ∧ base ≤ g ∧ Pt g (ts.length * 2) w) := by
  obtain ⟨ao, cap, hv, hm⟩ := RowG.own_made (z := Ti.zero) Ti.lenz h
  refine ⟨ao, cap, hv, ⟨rfl, ?_⟩, hm.own⟩
  rcases hm.rws with h0 | ⟨b, off, e, hl, hc⟩
  · exact .inl h0
  · exact .inr ⟨b, off, e, hl, fun j hj => ⟨hc j hj 0 (by omega), hc j hj 1 (by omega)⟩⟩
set_option maxRecDepth 100000 in
set_option maxHeartbeats 4000000 in
theorem clone_tis (b off cap : Nat) (ts : List Ti) (w : World) (h1 : 1 ≤ ts.length) (h5 : ts.length ≤ 5) (hI : Tis (some ⟨b, off, none⟩) ts.length ts w) :
    Calls Tryd.prog 71 #[.slice (some ⟨b, off, none⟩) ts.length cap] w fun e w' => ∃ v, e = .returned v ∧ w'.ownsRow w.heap.size 72 2 v ts.length (tisC ts) ∧ Below w.heap.size w w' := by
  obtain ⟨i0, hi, hz0, hz1, hz2⟩ := info_parts infoT
  have HC := hid_intro (tis_cells hI)
  have HL := hid_intro (tisC_len ts)
  have H1 := hid_intro (tisC_one ts)
  generalize tisC ts = C at *
  generalize ts.length = len at *
  clear hI
  have hnil := fun W => Lib.run_eql_slice_nil (P := Tryd.prog) W 35 72 (some ⟨b, off, none⟩) len cap 0 0 Tryd.underlying35
  have HE0 : Hid ((w.alloc (.cells #[] 72)).ownsRow w.heap.size 72 2 (.slice (some ⟨w.heap.size, 0, none⟩) 0 0) 0 []) := hid_intro (World.ownsRow_made w #[] 0 (Nat.le_refl _) (by unfold maxLen; omega) (by simp))
  have HN : Hid (∀ j u, C[j]? = some u → (w.alloc (.cells #[] 72)).cell? ((⟨b, off, none⟩ : Addr).add j) = some u) := hid_intro (fun j u hj => by
    have h := HC.out j u hj
    rw [Addr.add_lit]
    exact (((Below.refl w.heap.size w).alloc (Nat.le_refl _) _).cell (p := ⟨b, off + j, none⟩) (World.block_lt_of_cell? w ⟨b, off + j, none⟩ h)).trans h)
  go_enter Tryd.func71, Tryd.ntmps71
  go_wp2_with (at_builtin; refine wpList_append_own _ rfl _ _ 35 rfl w.heap.size 72 i0 (.agg #[.int .i64 0, .int .i64 0]) 2 16 Tryd.underlying35 hi hz0 hz1 hz2 rfl (by decide) _ _ _ rfl HE0.out ⟨b, off, none⟩ len cap C rfl HL.out HN.out H1.out (by unfold maxLen; omega) (by omega) (by simp) ?_)
  intro v1 w1 hown hgrow hne
  have HO : Hid (w1.ownsRow w.heap.size 72 2 v1 len C) := hid_intro (by first | exact hown | simpa using hown)
  have HB : Hid (Below w.heap.size w w1) := hid_intro (((Below.refl _ _).alloc (Nat.le_refl _) _).grown hgrow (by simp) (fun k e => by simp [Value.ownBlock] at e; omega))
  clear hown hgrow hne
  go_wp2_with fail
  go_ret
  exact ⟨_, rfl, HO.out, HB.out⟩
theorem pt_new (w : World) (cs : List Value) (T : TypeId) : Pt w.heap.size cs.length (w.alloc (.cells cs.toArray T)) := pt_row (heap_alloc_new w _) rfl
/-- A meter that was made. -/
def ResM (w : World) (r : Me) (e : Ending) (w' : World) : Prop := ∃ ta tc, e = .returned (.agg #[.string r.n, .int .i64 r.g, .bool r.wh, .int .i64 r.f, .int .i64 r.l, .slice ta r.ts.length tc]) ∧ Tis ta r.ts.length r.ts w' ∧ (r.ts.length = 0 ∨ ∃ g, ta = some ⟨g, 0, none⟩ ∧ w.heap.size ≤ g ∧ Pt g (r.ts.length * 2) w') ∧ Below w.heap.size w w'
set_option maxRecDepth 100000 in
set_option maxHeartbeats 4000000 in
theorem copy_me (b off cap : Nat) (r : Me) (w : World) (h1 : 1 ≤ r.ts.length) (h5 : r.ts.length ≤ 5) (hn : r.n.size ≤ 1048576) (hI : Tis (some ⟨b, off, none⟩) r.ts.length r.ts w) :
    Calls Tryd.prog 43 #[.agg #[.string r.n, .int .i64 r.g, .bool r.wh, .int .i64 r.f, .int .i64 r.l, .slice (some ⟨b, off, none⟩) r.ts.length cap]] w fun e w' => ResM w r e w' := by
  obtain ⟨n, g, wh, f, l, ts⟩ := r
  simp only at *
  unfold ResM
  simp only
  have H1 := hid_intro (fun w => CloneR.clone_any n w (by omega))
  have H2 : Hid (∀ W, Below w.heap.size w W → Calls Tryd.prog 71 #[.slice (some ⟨b, off, none⟩) ts.length cap] W fun e w' => ∃ ao cp, e = .returned (.slice ao ts.length cp) ∧ Tis ao ts.length ts w' ∧ (ts.length = 0 ∨ ∃ g, ao = some ⟨g, 0, none⟩ ∧ W.heap.size ≤ g ∧ Pt g (ts.length * 2) w') ∧ Below W.heap.size W w') := hid_intro (fun W hW => (clone_tis b off cap ts W h1 h5 (hI.below hW)).mono fun e w' ⟨v, he, ho, hb⟩ => by
    obtain ⟨ao, cp, rfl, h3, h4⟩ := own_tisz ho
    exact ⟨ao, cp, he, h3, h4, hb⟩)
  generalize ts.length = tl at *
  clear hI
  go_enter Tryd.func43, Tryd.ntmps43
  have HB0 : Hid (Below w.heap.size w ((w.alloc (.cells #[.string n, .int .i64 g, .bool wh, .int .i64 f, .int .i64 l, .slice (some ⟨b, off, none⟩) tl cap] 37)).alloc (.cells #[.string ⟨#[]⟩, .int .i64 0, .bool false, .int .i64 0, .int .i64 0, .slice none 0 0] 37))) := hid_intro (((Below.refl _ _).alloc (Nat.le_refl _) _).alloc (by simp) _)
  have HP0 : Hid (Pt w.heap.size 6 ((w.alloc (.cells #[.string n, .int .i64 g, .bool wh, .int .i64 f, .int .i64 l, .slice (some ⟨b, off, none⟩) tl cap] 37)).alloc (.cells #[.string ⟨#[]⟩, .int .i64 0, .bool false, .int .i64 0, .int .i64 0, .slice none 0 0] 37))) := hid_intro ((pt_new w [.string n, .int .i64 g, .bool wh, .int .i64 f, .int .i64 l, .slice (some ⟨b, off, none⟩) tl cap] 37).below ((Below.refl _ _).alloc (Nat.le_refl _) _))
  have HQ0 : Hid (Pt (w.heap.size + 1) 6 ((w.alloc (.cells #[.string n, .int .i64 g, .bool wh, .int .i64 f, .int .i64 l, .slice (some ⟨b, off, none⟩) tl cap] 37)).alloc (.cells #[.string ⟨#[]⟩, .int .i64 0, .bool false, .int .i64 0, .int .i64 0, .slice none 0 0] 37))) := hid_intro (by have := pt_new (w.alloc (.cells #[.string n, .int .i64 g, .bool wh, .int .i64 f, .int .i64 l, .slice (some ⟨b, off, none⟩) tl cap] 37)) [.string ⟨#[]⟩, .int .i64 0, .bool false, .int .i64 0, .int .i64 0, .slice none 0 0] 37; simpa using this)
  go_wp2_with fail
  refine (H1.out _).mono ?_
  rintro e w1 ⟨rfl, hb1⟩
  have HB1 := hid_intro (HB0.out.trans (hb1.mono HB0.out.size))
  have HP1 := hid_intro (HP0.out.below hb1)
  have HQ1 := hid_intro (HQ0.out.below hb1)
  have k := fun o => hb1.cell (p := ⟨w.heap.size, o, none⟩) (by simp; omega)
  have c0 := k 0
  have c1 := k 1
  have c2 := k 2
  have c3 := k 3
  have c4 := k 4
  have c5 := k 5
  simp [go_sem] at c0 c1 c2 c3 c4 c5
  have f0 := HP1.out.free 0 (by omega)
  have l1 := HP1.out.lt
  have HPs := hid_intro (HP1.out.set 0 (.string n))
  have HQs := hid_intro (HQ1.out.far (b := w.heap.size) (by omega) 0 (.string n))
  have HBs : Hid (Below w.heap.size w (w1.setCell ⟨w.heap.size, 0, none⟩ (.string n))) := hid_intro (HB1.out.setCell (Nat.le_refl _) _)
  clear hb1 k
  go_wp2_with fail
  refine (H2.out _ HBs.out).mono ?_
  rintro e w2 ⟨ao, cp, rfl, hT, hP, hb2⟩
  have HB2 := hid_intro (HBs.out.trans (hb2.mono HBs.out.size))
  have HT2 := hid_intro hT
  have HO2 := hid_intro hP
  have HP2 := hid_intro (HPs.out.below hb2)
  have HQ2 := hid_intro (HQs.out.below hb2)
  have hs1 : w.heap.size + 1 < w1.heap.size := HQ1.out.lt
  have hs2 : (w1.setCell ⟨w.heap.size, 0, none⟩ (.string n)).heap.size = w1.heap.size := by simp
  have HZ : Hid (∀ g, tl ≠ 0 → ao = some ⟨g, 0, none⟩ → w1.heap.size ≤ g) := hid_intro (fun g h0 hg => by
    obtain ⟨g', e1, e2, _⟩ := hP.resolve_left h0
    rw [e1] at hg
    simp only [Option.some.injEq, Addr.mk.injEq, and_true] at hg
    omega)
  have k := fun o => hb2.cell (p := ⟨w.heap.size, o, none⟩) (by simpa using l1)
  have d0 : w2.cell? ⟨w.heap.size, 0, none⟩ = some (.string n) := (k 0).trans (by simp [go_sem, c0])
  have d1 : w2.cell? ⟨w.heap.size, 1, none⟩ = some (.int .i64 g) := (k 1).trans (by simp [go_sem, c1])
  have d2 : w2.cell? ⟨w.heap.size, 2, none⟩ = some (.bool wh) := (k 2).trans (by simp [go_sem, c2])
  have d3 : w2.cell? ⟨w.heap.size, 3, none⟩ = some (.int .i64 f) := (k 3).trans (by simp [go_sem, c3])
  have d4 : w2.cell? ⟨w.heap.size, 4, none⟩ = some (.int .i64 l) := (k 4).trans (by simp [go_sem, c4])
  obtain ⟨v5, d5⟩ := HP2.out.has 5 (by omega)
  have g5 := HP2.out.free 5 (by omega)
  have l2 := HP2.out.lt
  have q := HQ2.out.lt
  obtain ⟨y0, e0⟩ := HQ2.out.has 0 (by omega)
  obtain ⟨y1, e1⟩ := HQ2.out.has 1 (by omega)
  obtain ⟨y2, e2⟩ := HQ2.out.has 2 (by omega)
  obtain ⟨y3, e3⟩ := HQ2.out.has 3 (by omega)
  obtain ⟨y4, e4⟩ := HQ2.out.has 4 (by omega)
  obtain ⟨y5, e5⟩ := HQ2.out.has 5 (by omega)
  have z0 := HQ2.out.free 0 (by omega)
  have z1 := HQ2.out.free 1 (by omega)
  have z2 := HQ2.out.free 2 (by omega)
  have z3 := HQ2.out.free 3 (by omega)
  have z4 := HQ2.out.free 4 (by omega)
  have z5 := HQ2.out.free 5 (by omega)
  clear hT hP hb2 k c0 c1 c2 c3 c4 c5 f0 hs2
  go_wp2_with fail
  refine bodyPost_ret (v := .agg #[.string n, .int .i64 g, .bool wh, .int .i64 f, .int .i64 l, .slice ao tl cp]) (by simp [results, Tryd.results43, go_sem, e0, e1, e2, e3, e4, e5]) rfl ⟨ao, cp, rfl, ?_, ?_, ?_⟩
  · rcases Nat.eq_zero_or_pos tl with h0 | h0
    · exact ⟨HT2.out.1, .inl h0⟩
    · obtain ⟨g', e1, e2, e3⟩ := HO2.out.resolve_left (by omega)
      subst e1
      have hz := HZ.out g' (by omega) rfl
      exact ((((((HT2.out.far (by omega) _ _).far (by omega) _ _).far (by omega) _ _).far (by omega) _ _).far (by omega) _ _).far (by omega) _ _).far (by omega) _ _
  · refine HO2.out.imp id (fun ⟨g', e1, e2, e3⟩ => ⟨g', e1, by have := HB1.out.size; simp at e2; omega, ?_⟩)
    have hz : w1.heap.size ≤ g' := by simp at e2; omega
    exact ((((((e3.far (by omega) _ _).far (by omega) _ _).far (by omega) _ _).far (by omega) _ _).far (by omega) _ _).far (by omega) _ _).far (by omega) _ _
  · exact ((((((HB2.out.setCell (Nat.le_refl _) _).setCell (by simp) _).setCell (by simp) _).setCell (by simp) _).setCell (by simp) _).setCell (by simp) _).setCell (by simp) _
end CatR
end Go.Proofs.YtaedolophhcjjaaDoor
namespace Go.Proofs.YtaedolophhcjjaaDoor
open Go.ChangeShapes Go.WideShapes Go.ChangeAt Go.RowKit
set_option linter.unusedVariables false
namespace CatR
open EvtR (Pt)
/-- The meter of that name, the zero one where there is none. -/
def mFd (t : ByteArray) : List Me → Me
  | [] => Me.zero
  | m :: ms => bif m.n.toList == t.toList then m else mFd t ms
def mO (c : Ca) (t : ByteArray) : Me := bif caB c then mFd t c.ms else Me.zero
theorem mFd_hit (t : ByteArray) : ∀ (ms : List Me) (k : Nat), k < ms.length → (∀ i, i < k → mN ms i ≠ t) → mN ms k = t → mFd t ms = ms.getD k Me.zero
  | [], k, hk, _, _ => by simp at hk
  | m :: ms, 0, _, _, h => by
    have h : m.n = t := h
    rw [mFd, h]
    simp
  | m :: ms, k + 1, hk, hn, h => by
    have h0 : m.n ≠ t := hn 0 (by omega)
    have hb : (m.n.toList == t.toList) = false := beq_no h0
    rw [mFd, hb, cond_false]
    have := mFd_hit t ms k (by simpa using hk) (fun i hi => hn (i + 1) (by omega)) h
    rw [this]
    rfl
theorem mFd_none (t : ByteArray) : ∀ (ms : List Me), (∀ i, i < ms.length → mN ms i ≠ t) → mFd t ms = Me.zero
  | [], _ => rfl
  | m :: ms, hn => by
    have h0 : m.n ≠ t := hn 0 (by simp)
    rw [mFd, beq_no h0, cond_false]
    exact mFd_none t ms (fun i hi => hn (i + 1) (by simpa using hi))
theorem ms_rise {ms : List Me} (h : MsRight ms) : ∀ i, i < ms.length → ∀ j, j < i → lt (mN ms j) (mN ms i) = true
  | 0, _ => fun j hj => absurd hj (by omega)
  | i + 1, hi => fun j hj => by
    have h1 := (h.2 (i + 1) hi).2 (by omega)
    rw [Nat.add_sub_cancel] at h1
    by_cases q : j = i
    · subst q; exact h1
    · exact lt_trans (ms_rise h i (by omega) j (by omega)) h1
theorem ms_apart {ms : List Me} (h : MsRight ms) : ∀ i j, i < ms.length → j < ms.length → mN ms i = mN ms j → i = j := by
  intro i j hi hj e
  rcases (show i < j ∨ i = j ∨ j < i by omega) with q | q | q
  · have := ms_rise h j hj i q
    rw [e, lt_irrefl] at this
    cases this
  · exact q
  · have := ms_rise h i hi j q
    rw [e, lt_irrefl] at this
    cases this
/-- A name is there once, or not. -/
theorem name_cases (ms : List Me) (h : MsRight ms) (t : ByteArray) : (∃ k, k < ms.length ∧ mN ms k = t ∧ mFd t ms = ms.getD k Me.zero) ∨ ((∀ i, i < ms.length → mN ms i ≠ t) ∧ mFd t ms = Me.zero) := by
  by_cases q : ∃ k, k < ms.length ∧ mN ms k = t
  · obtain ⟨k, hk, he⟩ := q
    refine .inl ⟨k, hk, he, mFd_hit t ms k hk (fun i hi e => ?_) he⟩
    have := ms_apart h i k (by omega) hk (by rw [e, he])
    omega
  · have q2 : ∀ i, i < ms.length → mN ms i ≠ t := fun i hi e => q ⟨i, hi, e⟩
    exact .inr ⟨q2, mFd_none t ms q2⟩
theorem pt_grown {g m : Nat} {w w' : World} {row : Option Nat} (h : Pt g m w) (hg : w.grownBy w' row) (hne : some g ≠ row) : Pt g m w' := by
  have e := hg.block g h.lt hne
  exact ⟨by have := hg.size; have := h.lt; omega, fun o ho => by obtain ⟨v, hv⟩ := h.has o ho; exact ⟨v, (World.cell?_of_block (a := ⟨g, o, none⟩) e).trans hv⟩, fun o ho => (World.frozen?_of_block (a := ⟨g, o, none⟩) e).trans (h.free o ho)⟩
theorem res_zero {w w' : World} (hb : Below w.heap.size w w') : ResM w Me.zero (.returned (.agg #[.string ⟨#[]⟩, .int .i64 0, .bool false, .int .i64 0, .int .i64 0, .slice none 0 0])) w' := ⟨none, 0, rfl, Tis.nil _ _, .inl rfl, hb⟩
set_option maxRecDepth 100000 in
set_option maxHeartbeats 8000000 in
theorem impl_mo (v : Value) (c : Ca) (t : ByteArray) (w : World) (ht : t.size ≤ 1048576) (hS : c.Small) (hC : IsCa v c w) (hL : Laid w) :
    Calls Tryd.prog 15 #[v, .string t] w fun e w' => ResM w (mO c t) e w' := by
  have H1 := hid_intro (fun W (hW : Below w.heap.size w W) => impl_ca v c W hS (hC.below hW) (hL.below hW))
  obtain ⟨ma, mc, ca, cc, rfl, hM, hR⟩ := hC
  obtain ⟨V, hV⟩ := mes_v hM
  have HB0 : Hid (Below w.heap.size w ((w.alloc (.cells #[.slice ma c.ms.length mc, .slice ca c.cs.length cc] 26)).alloc (.cells #[.string ⟨#[]⟩, .int .i64 0, .bool false, .int .i64 0, .int .i64 0, .slice none 0 0] 37))) := hid_intro (((Below.refl _ _).alloc (Nat.le_refl _) _).alloc (by simp) _)
  have HC0 : Hid (Blk w.heap.size [.slice ma c.ms.length mc, .slice ca c.cs.length cc] ((w.alloc (.cells #[.slice ma c.ms.length mc, .slice ca c.cs.length cc] 26)).alloc (.cells #[.string ⟨#[]⟩, .int .i64 0, .bool false, .int .i64 0, .int .i64 0, .slice none 0 0] 37))) := hid_intro ((Blk.new w _ _).alloc _)
  have HQ0 : Hid (Pt (w.heap.size + 1) 6 ((w.alloc (.cells #[.slice ma c.ms.length mc, .slice ca c.cs.length cc] 26)).alloc (.cells #[.string ⟨#[]⟩, .int .i64 0, .bool false, .int .i64 0, .int .i64 0, .slice none 0 0] 37))) := hid_intro (by have := pt_new (w.alloc (.cells #[.slice ma c.ms.length mc, .slice ca c.cs.length cc] 26)) [.string ⟨#[]⟩, .int .i64 0, .bool false, .int .i64 0, .int .i64 0, .slice none 0 0] 37; simpa using this)
  have HMO : Hid (mO c t = bif caB c then mFd t c.ms else Me.zero) := rfl
  have HIF : Hid (caB c = true ↔ MsRight c.ms ∧ CsRight c.cs) := hid_intro caB_iff
  generalize caB c = r at *
  generalize mO c t = RES at *
  cases r
  · rw [cond_false] at HMO
    obtain rfl := HMO.out
    generalize c.ms.length = ml at *
    generalize c.cs.length = cl at *
    clear hM hR hV hS HIF
    go_enter Tryd.func15, Tryd.ntmps15
    go_wp2_with fail
    refine (H1.out _ HB0.out).mono ?_
    rintro e w1 ⟨rfl, hb1⟩
    have HB1 := hid_intro (HB0.out.trans (hb1.mono HB0.out.size))
    have HQ2 := hid_intro (HQ0.out.below hb1)
    clear hb1
    have q := HQ2.out.lt
    obtain ⟨y0, e0⟩ := HQ2.out.has 0 (by omega)
    obtain ⟨y1, e1⟩ := HQ2.out.has 1 (by omega)
    obtain ⟨y2, e2⟩ := HQ2.out.has 2 (by omega)
    obtain ⟨y3, e3⟩ := HQ2.out.has 3 (by omega)
    obtain ⟨y4, e4⟩ := HQ2.out.has 4 (by omega)
    obtain ⟨y5, e5⟩ := HQ2.out.has 5 (by omega)
    have z0 := HQ2.out.free 0 (by omega)
    have z1 := HQ2.out.free 1 (by omega)
    have z2 := HQ2.out.free 2 (by omega)
    have z3 := HQ2.out.free 3 (by omega)
    have z4 := HQ2.out.free 4 (by omega)
    have z5 := HQ2.out.free 5 (by omega)
    go_wp2_with fail
    refine bodyPost_ret (v := .agg #[.string ⟨#[]⟩, .int .i64 0, .bool false, .int .i64 0, .int .i64 0, .slice none 0 0]) (by simp [results, Tryd.results15, go_sem, e0, e1, e2, e3, e4, e5]) rfl (res_zero ?_)
    exact (((((HB1.out.setCell (by simp) _).setCell (by simp) _).setCell (by simp) _).setCell (by simp) _).setCell (by simp) _).setCell (by simp) _
  · rw [cond_true] at HMO
    obtain ⟨hms, _⟩ := HIF.out.1 rfl
    have HBN := hid_intro (fun W (hW : Below w.heap.size w W) => byName_any ma c.ms.length mc c.ms V W hms.1 (fun i hi => (hS.ms i hi).1) (hV.below hW))
    generalize hml : c.ms.length = ml at *
    generalize c.cs.length = cl at *
    go_enter Tryd.func15, Tryd.ntmps15
    go_wp2_with fail
    refine (H1.out _ HB0.out).mono ?_
    rintro e w1 ⟨rfl, hb1⟩
    have HB1 := hid_intro (HB0.out.trans (hb1.mono HB0.out.size))
    have HC1 := hid_intro (HC0.out.below hb1)
    have HQ1 := hid_intro (HQ0.out.below hb1)
    clear hb1
    have x0 : w1.cell? ⟨w.heap.size, 0, none⟩ = some (.slice ma ml mc) := HC1.out.2 0 (by simp)
    have xl := HC1.out.1
    go_wp2_with fail
    refine (HBN.out _ HB1.out).mono ?_
    rintro e w2 ⟨rfl, hown2, hb2⟩
    have HB2 := hid_intro (HB1.out.trans (hb2.mono HB1.out.size))
    have HQ2 := hid_intro (HQ1.out.below hb2)
    have HO2 := hid_intro hown2
    clear hb2 hown2 x0 xl
    obtain ⟨hl2, a0, hl3⟩ := hL.below HB2.out
    rcases name_cases c.ms hms t with ⟨k, hk, hkt, hkf⟩ | ⟨hno, hkf⟩
    · obtain ⟨ta, tc, hvk, hTk⟩ := hV.is k (by omega)
      have hmr := (hms.2 k hk).1
      have ht1 := hmr.2.2.2.2.1
      have ht5 := hmr.2.2.2.2.2.1
      have hap := ms_apart hms
      rw [hml] at hap
      have HT := hid_intro (take_has w1.heap.size ml (mapD c.ms V ml) t _ _ _ _ _ _ _ _ w2 ht HO2.out ((has_mapD c.ms V t ml).2 ⟨k, by omega, hkt⟩) (fun z => by rw [← hkt, at_mapD c.ms V z ml hap k (by omega), hvk]))
      rw [hkf] at HMO
      have HCP : Hid (∀ W, Below w.heap.size w W → Calls Tryd.prog 43 #[.agg #[.string (c.ms.getD k Me.zero).n, .int .i64 (c.ms.getD k Me.zero).g, .bool (c.ms.getD k Me.zero).wh, .int .i64 (c.ms.getD k Me.zero).f, .int .i64 (c.ms.getD k Me.zero).l, .slice ta (c.ms.getD k Me.zero).ts.length tc]] W fun e w' => ResM W (c.ms.getD k Me.zero) e w') := hid_intro (fun W hW => by
        rcases hTk.2 with h0 | ⟨b, off, rfl, _⟩
        · omega
        · exact copy_me b off tc _ W ht1 ht5 (hS.ms k hk).1 (hTk.below hW))
      have HIS := hid_intro (fun w => IsR.is_nil a0 w)
      generalize c.ms.getD k Me.zero = X at *
      obtain ⟨n, g, wh, f, l, ts⟩ := X
      obtain rfl := HMO.out
      simp only at HT HCP
      clear hvk hTk hmr ht1 ht5 hap hkf HMO HBN hV hM hR hS hms HIF
      go_wp2_with fail
      refine HT.out.mono ?_
      rintro e w3 ⟨rfl, hown3, hg3⟩
      have HB3 := hid_intro (HB2.out.grown hg3 HB2.out.size (fun q e => by cases e; exact HB1.out.size))
      have g0 : w3.cell? ⟨0, 0, none⟩ = some (.iface 128 (.pointer (some a0))) := (World.cell?_of_block (a := ⟨0, 0, none⟩) (hg3.block _ hl2 (fun e => by simp at e; have := hL.1; have := HB1.out.size; omega))).trans hl3
      have gl : 0 < w3.heap.size := by have := hg3.size; omega
      have HQ3 : Hid (Pt (w.heap.size + 1) 6 w3) := hid_intro (pt_grown HQ2.out hg3 (fun e => by simp at e; have := HQ1.out.lt; omega))
      clear hown3 hg3
      go_wp2_with (go_at_call 42; refine (HIS.out _).mono ?_; rintro e w' ⟨rfl, rfl⟩)
      have HBa := hid_intro (HB3.out.alloc HB3.out.size (.cells #[.string n, .int .i64 g, .bool wh, .int .i64 f, .int .i64 l, .slice ta ts.length tc] 37))
      refine (HCP.out _ HBa.out).mono ?_
      rintro e w4 ⟨ta', tc', rfl, hT4, hO4, hb4⟩
      simp only at hT4 hO4
      have HB4 := hid_intro (HBa.out.trans (hb4.mono HBa.out.size))
      have HQ4 := hid_intro ((HQ3.out.below ((Below.refl _ _).alloc (Nat.le_refl _) (.cells #[.string n, .int .i64 g, .bool wh, .int .i64 f, .int .i64 l, .slice ta ts.length tc] 37))).below hb4)
      have HT4 := hid_intro hT4
      have HO4 : Hid (ts.length = 0 ∨ ∃ g, ta' = some ⟨g, 0, none⟩ ∧ w3.heap.size ≤ g ∧ Pt g (ts.length * 2) w4) := hid_intro (hO4.imp id (fun ⟨g, h1, h2, h3⟩ => ⟨g, h1, by simp at h2; omega, h3⟩))
      have hq3 := HQ3.out.lt
      have hw3 := HB3.out.size
      clear hT4 hO4 hb4 g0
      have q := HQ4.out.lt
      obtain ⟨y0, e0⟩ := HQ4.out.has 0 (by omega)
      obtain ⟨y1, e1⟩ := HQ4.out.has 1 (by omega)
      obtain ⟨y2, e2⟩ := HQ4.out.has 2 (by omega)
      obtain ⟨y3, e3⟩ := HQ4.out.has 3 (by omega)
      obtain ⟨y4, e4⟩ := HQ4.out.has 4 (by omega)
      obtain ⟨y5, e5⟩ := HQ4.out.has 5 (by omega)
      have z0 := HQ4.out.free 0 (by omega)
      have z1 := HQ4.out.free 1 (by omega)
      have z2 := HQ4.out.free 2 (by omega)
      have z3 := HQ4.out.free 3 (by omega)
      have z4 := HQ4.out.free 4 (by omega)
      have z5 := HQ4.out.free 5 (by omega)
      go_wp2_with fail
      refine bodyPost_ret (v := .agg #[.string n, .int .i64 g, .bool wh, .int .i64 f, .int .i64 l, .slice ta' ts.length tc']) (by simp [results, Tryd.results15, go_sem, e0, e1, e2, e3, e4, e5]) rfl ⟨ta', tc', rfl, ?_, ?_, ?_⟩
      · rcases Nat.eq_zero_or_pos ts.length with h0 | h0
        · exact ⟨rfl, .inl h0⟩
        · obtain ⟨g', e1, e2, e3⟩ := HO4.out.resolve_left (by omega)
          subst e1
          exact (((((HT4.out.far (by omega) _ _).far (by omega) _ _).far (by omega) _ _).far (by omega) _ _).far (by omega) _ _).far (by omega) _ _
      · refine HO4.out.imp id (fun ⟨g', e1, e2, e3⟩ => ⟨g', e1, by omega, ?_⟩)
        exact (((((e3.far (by omega) _ _).far (by omega) _ _).far (by omega) _ _).far (by omega) _ _).far (by omega) _ _).far (by omega) _ _
      · exact (((((HB4.out.setCell (by simp) _).setCell (by simp) _).setCell (by simp) _).setCell (by simp) _).setCell (by simp) _).setCell (by simp) _
    · have hnh : Maps.has (mapD c.ms V ml) (kS t) = false := by
        cases hh : Maps.has (mapD c.ms V ml) (kS t)
        · rfl
        · obtain ⟨q, hq, hqe⟩ := (has_mapD c.ms V t ml).1 hh
          exact absurd hqe (hno q (by omega))
      have HT := hid_intro (take_no w1.heap.size ml (mapD c.ms V ml) t w2 ht HO2.out hnh a0 hl2 hl3)
      rw [hkf] at HMO
      obtain rfl := HMO.out
      have HIS := hid_intro (fun w => IsR.is_same a0 w)
      clear hnh hno hkf HMO HBN hV hM hR hS hms HIF
      go_wp2_with fail
      refine HT.out.mono ?_
      rintro e w3 ⟨rfl, hb3⟩
      have HB3 := hid_intro (HB2.out.trans (hb3.mono HB2.out.size))
      have g0 : w3.cell? ⟨0, 0, none⟩ = some (.iface 128 (.pointer (some a0))) := (hb3.cell (p := ⟨0, 0, none⟩) hl2).trans hl3
      have gl : 0 < w3.heap.size := by have := hb3.size; omega
      have HQ3 := hid_intro (HQ2.out.below hb3)
      have HQ4 := hid_intro (HQ3.out.below ((Below.refl _ _).alloc (Nat.le_refl _) (.cells #[.string ⟨#[]⟩, .int .i64 0, .bool false, .int .i64 0, .int .i64 0, .slice none 0 0] 37)))
      have HB4 := hid_intro (HB3.out.alloc HB3.out.size (.cells #[.string ⟨#[]⟩, .int .i64 0, .bool false, .int .i64 0, .int .i64 0, .slice none 0 0] 37))
      clear hb3
      go_wp2_with fail
      refine (HIS.out _).mono ?_
      rintro e w5 ⟨rfl, hw5⟩
      have HQ5 : Hid (Pt (w.heap.size + 1) 6 w5) := hid_intro (by rw [hw5]; exact HQ4.out)
      have HB5 : Hid (Below w.heap.size w w5) := hid_intro (by rw [hw5]; exact HB4.out)
      clear hw5 HB4 HQ4 g0 gl
      have q := HQ5.out.lt
      obtain ⟨y0, e0⟩ := HQ5.out.has 0 (by omega)
      obtain ⟨y1, e1⟩ := HQ5.out.has 1 (by omega)
      obtain ⟨y2, e2⟩ := HQ5.out.has 2 (by omega)
      obtain ⟨y3, e3⟩ := HQ5.out.has 3 (by omega)
      obtain ⟨y4, e4⟩ := HQ5.out.has 4 (by omega)
      obtain ⟨y5, e5⟩ := HQ5.out.has 5 (by omega)
      have z0 := HQ5.out.free 0 (by omega)
      have z1 := HQ5.out.free 1 (by omega)
      have z2 := HQ5.out.free 2 (by omega)
      have z3 := HQ5.out.free 3 (by omega)
      have z4 := HQ5.out.free 4 (by omega)
      have z5 := HQ5.out.free 5 (by omega)
      go_wp2_with fail
      refine bodyPost_ret (v := .agg #[.string ⟨#[]⟩, .int .i64 0, .bool false, .int .i64 0, .int .i64 0, .slice none 0 0]) (by simp [results, Tryd.results15, go_sem, e0, e1, e2, e3, e4, e5]) rfl (res_zero ?_)
      exact (((((HB5.out.setCell (by simp) _).setCell (by simp) _).setCell (by simp) _).setCell (by simp) _).setCell (by simp) _).setCell (by simp) _
end CatR
end Go.Proofs.YtaedolophhcjjaaDoor
namespace Go.Proofs.YtaedolophhcjjaaDoor
open Go.ChangeShapes Go.WideShapes Go.ChangeAt Go.RowKit
set_option linter.unusedVariables false
namespace CatR
open EvtR (Pt)
/-- Where a name stands first, -1 where it doesn't. -/
def atB (ms : List Me) (t : ByteArray) (r : Int) : Prop := (∃ k : Nat, k < ms.length ∧ r = k ∧ mN ms k = t ∧ ∀ i, i < k → mN ms i ≠ t) ∨ (r = -1 ∧ ∀ i, i < ms.length → mN ms i ≠ t)
set_option maxRecDepth 100000 in
set_option maxHeartbeats 4000000 in
theorem spec_at (ma : Option Addr) (mc : Nat) (ca : Option Addr) (cl cc : Nat) (ms : List Me) (t : ByteArray) (w : World) (hl : ms.length ≤ 1048576) (hM : Mes ma ms.length ms w) :
    Calls Tryd.prog 44 #[.agg #[.slice ma ms.length mc, .slice ca cl cc], .string t] w fun e w' => ∃ r, e = .returned (.int .i64 r) ∧ atB ms t r ∧ Below w.heap.size w w' := by
  have HM := hid_intro hM
  have HA : Hid (∀ r, (∃ k : Nat, k < ms.length ∧ r = (k : Int) ∧ mN ms k = t ∧ ∀ i, i < k → mN ms i ≠ t) ∨ (r = -1 ∧ ∀ i, i < ms.length → mN ms i ≠ t) → atB ms t r) := hid_intro (fun r h => h)
  have HB0 : Hid (Below w.heap.size w (w.alloc (.cells #[.slice ma ms.length mc, .slice ca cl cc] 26))) := hid_intro ((Below.refl _ _).alloc (Nat.le_refl _) _)
  have HX0 : Hid (Blk w.heap.size [.slice ma ms.length mc, .slice ca cl cc] (w.alloc (.cells #[.slice ma ms.length mc, .slice ca cl cc] 26))) := hid_intro (Blk.new w _ _)
  generalize hml : ms.length = ml at *
  clear hM
  go_enter Tryd.func44, Tryd.ntmps44
  go_wp2_with fail
  go_loopw [5] (fun z wr => ∃ k : Nat, k ≤ ml ∧ z = .int .i64 k ∧ Hid (∀ i, i < k → mN ms i ≠ t) ∧ Hid (Below w.heap.size w wr) ∧ Hid (Blk w.heap.size [.slice ma ml mc, .slice ca cl cc] wr)) (fun z _ => ml - (intOf z).toNat)
  case atStart => exact ⟨0, by omega, rfl, hid_intro (fun i h => absurd h (by omega)), HB0, HX0⟩
  case round =>
    obtain ⟨k, hk, rfl, HK, HB, HX⟩ := hrel
    have x0 : wr.cell? ⟨w.heap.size, 0, none⟩ = some (.slice ma ml mc) := HX.out.2 0 (by simp)
    have xl := HX.out.1
    by_cases hlt : k < ml
    · have hlt2 : (k : Int) < (ml : Int) := by omega
      obtain ⟨b, off, rfl, hbl, ta, tc, c0, c1, c2, c3, c4, c5, hTT⟩ := mes_at (HM.out.below HB.out) k hlt
      replace c0 : wr.cell? ⟨b, off + k * 6, none⟩ = some (.string (mN ms k)) := c0
      clear c1 c2 c3 c4 c5 hTT
      by_cases he : mN ms k = t
      · have HR := hid_intro (HA.out (k : Int) (.inl ⟨k, hlt, rfl, he, HK.out⟩))
        rw [he] at c0
        clear he
        go_wp2_with fail
        go_ret
        exact ⟨_, rfl, HR.out, HB.out⟩
      · have HK2 : Hid (∀ i, i < k + 1 → mN ms i ≠ t) := hid_intro (fun i hi => by
          by_cases e : i = k
          · subst e; exact he
          · exact HK.out i (by omega))
        have hb := beq_no he
        have hne : (mN ms k).toList ≠ t.toList := by simpa using hb
        clear he
        generalize mN ms k = n at *
        go_wp2_with fail
        go_roundw
        case rel => exact ⟨k + 1, by omega, by go_num, HK2, HB, HX⟩
        case measure => simp [intOf]; omega
    · have hlt2 : ¬ (k : Int) < (ml : Int) := by omega
      have HR := hid_intro (HA.out (-1) (.inr ⟨rfl, fun i hi => HK.out i (by omega)⟩))
      go_wp2_with fail
      go_ret
      exact ⟨_, rfl, HR.out, HB.out⟩
set_option maxRecDepth 100000 in
set_option maxHeartbeats 4000000 in
theorem spec_me (b off cap : Nat) (r : Me) (w : World) (h5 : r.ts.length ≤ 1048576) (hI : Tis (some ⟨b, off, none⟩) r.ts.length r.ts w) :
    Calls Tryd.prog 45 #[.agg #[.string r.n, .int .i64 r.g, .bool r.wh, .int .i64 r.f, .int .i64 r.l, .slice (some ⟨b, off, none⟩) r.ts.length cap]] w fun e w' => ResM w r e w' := by
  obtain ⟨n, g, wh, f, l, ts⟩ := r
  simp only at *
  unfold ResM
  simp only
  obtain ⟨i0, hi, hz0, hz1, hz2⟩ := info_parts infoT
  have HL := hid_intro (tisC_len ts)
  have H1 := hid_intro (tisC_one ts)
  have HTC := hid_intro (fun W (hW : Below w.heap.size w W) => tis_cells (hI.below hW))
  have HOT := hid_intro (fun (W : World) base v (h : W.ownsRow base 72 2 v ts.length (tisC ts)) => own_tisz h)
  generalize tisC ts = C at *
  generalize ts.length = tl at *
  have HB0 : Hid (Below w.heap.size w (((w.alloc (.cells #[.string n, .int .i64 g, .bool wh, .int .i64 f, .int .i64 l, .slice (some ⟨b, off, none⟩) tl cap] 37)).alloc (.cells #[.string ⟨#[]⟩, .int .i64 0, .bool false, .int .i64 0, .int .i64 0, .slice none 0 0] 37)).alloc (.cells #[] 72))) := hid_intro ((((Below.refl _ _).alloc (Nat.le_refl _) _).alloc (by simp) _).alloc (by simp; omega) _)
  have HP0 : Hid (Pt w.heap.size 6 (((w.alloc (.cells #[.string n, .int .i64 g, .bool wh, .int .i64 f, .int .i64 l, .slice (some ⟨b, off, none⟩) tl cap] 37)).alloc (.cells #[.string ⟨#[]⟩, .int .i64 0, .bool false, .int .i64 0, .int .i64 0, .slice none 0 0] 37)).alloc (.cells #[] 72))) := hid_intro (((pt_new w [.string n, .int .i64 g, .bool wh, .int .i64 f, .int .i64 l, .slice (some ⟨b, off, none⟩) tl cap] 37).below ((Below.refl _ _).alloc (Nat.le_refl _) _)).below ((Below.refl _ _).alloc (Nat.le_refl _) _))
  have HQ0 : Hid (Pt (w.heap.size + 1) 6 (((w.alloc (.cells #[.string n, .int .i64 g, .bool wh, .int .i64 f, .int .i64 l, .slice (some ⟨b, off, none⟩) tl cap] 37)).alloc (.cells #[.string ⟨#[]⟩, .int .i64 0, .bool false, .int .i64 0, .int .i64 0, .slice none 0 0] 37)).alloc (.cells #[] 72))) := hid_intro ((show Pt (w.heap.size + 1) 6 ((w.alloc (.cells #[.string n, .int .i64 g, .bool wh, .int .i64 f, .int .i64 l, .slice (some ⟨b, off, none⟩) tl cap] 37)).alloc (.cells #[.string ⟨#[]⟩, .int .i64 0, .bool false, .int .i64 0, .int .i64 0, .slice none 0 0] 37)) by have := pt_new (w.alloc (.cells #[.string n, .int .i64 g, .bool wh, .int .i64 f, .int .i64 l, .slice (some ⟨b, off, none⟩) tl cap] 37)) [.string ⟨#[]⟩, .int .i64 0, .bool false, .int .i64 0, .int .i64 0, .slice none 0 0] 37; simpa using this).below ((Below.refl _ _).alloc (Nat.le_refl _) _))
  have HX0 : Hid (Blk w.heap.size [.string n, .int .i64 g, .bool wh, .int .i64 f, .int .i64 l, .slice (some ⟨b, off, none⟩) tl cap] (((w.alloc (.cells #[.string n, .int .i64 g, .bool wh, .int .i64 f, .int .i64 l, .slice (some ⟨b, off, none⟩) tl cap] 37)).alloc (.cells #[.string ⟨#[]⟩, .int .i64 0, .bool false, .int .i64 0, .int .i64 0, .slice none 0 0] 37)).alloc (.cells #[] 72))) := hid_intro (((Blk.new w _ _).alloc _).alloc _)
  have HE0 : Hid (((((w.alloc (.cells #[.string n, .int .i64 g, .bool wh, .int .i64 f, .int .i64 l, .slice (some ⟨b, off, none⟩) tl cap] 37)).alloc (.cells #[.string ⟨#[]⟩, .int .i64 0, .bool false, .int .i64 0, .int .i64 0, .slice none 0 0] 37)).alloc (.cells #[] 72))).ownsRow (w.heap.size + 2) 72 2 (.slice (some ⟨w.heap.size + 1 + 1, 0, none⟩) 0 0) 0 []) := hid_intro (by
    have := World.ownsRow_made ((w.alloc (.cells #[.string n, .int .i64 g, .bool wh, .int .i64 f, .int .i64 l, .slice (some ⟨b, off, none⟩) tl cap] 37)).alloc (.cells #[.string ⟨#[]⟩, .int .i64 0, .bool false, .int .i64 0, .int .i64 0, .slice none 0 0] 37)) (e := 72) (size := 2) (base := w.heap.size + 2) #[] 0 (by simp) (by unfold maxLen; omega) (by simp)
    simpa using this)
  have HN : Hid (∀ j u, C[j]? = some u → ((((w.alloc (.cells #[.string n, .int .i64 g, .bool wh, .int .i64 f, .int .i64 l, .slice (some ⟨b, off, none⟩) tl cap] 37)).alloc (.cells #[.string ⟨#[]⟩, .int .i64 0, .bool false, .int .i64 0, .int .i64 0, .slice none 0 0] 37)).alloc (.cells #[] 72))).cell? ((⟨b, off, none⟩ : Addr).add j) = some u) := hid_intro (fun j u hj => by rw [Addr.add_lit]; exact HTC.out _ HB0.out j u hj)
  go_enter Tryd.func45, Tryd.ntmps45
  go_wp2_with (at_builtin; refine wpList_append_own _ rfl _ _ 35 rfl (w.heap.size + 2) 72 i0 (.agg #[.int .i64 0, .int .i64 0]) 2 16 Tryd.underlying35 hi hz0 hz1 hz2 rfl (by decide) _ _ _ rfl HE0.out ⟨b, off, none⟩ tl cap C rfl HL.out HN.out H1.out (by unfold maxLen; omega) (by omega) (by simp) ?_)
  intro v1 w2 hown hgrow hne
  have HO : Hid (w2.ownsRow (w.heap.size + 2) 72 2 v1 tl C) := hid_intro (by first | exact hown | simpa using hown)
  have hrow : ∀ k, (Value.slice (some ⟨w.heap.size + 1 + 1, 0, none⟩) 0 0).ownBlock = some k → k = w.heap.size + 2 := fun k e => by simp [Value.ownBlock] at e; omega
  have HB2 : Hid (Below w.heap.size w w2) := hid_intro (HB0.out.grown hgrow HB0.out.size (fun k e => by have := hrow k e; omega))
  have HP2 := hid_intro (pt_grown HP0.out hgrow (fun e => by have := hrow _ e.symm; omega))
  have HQ2 := hid_intro (pt_grown HQ0.out hgrow (fun e => by have := hrow _ e.symm; omega))
  have k := fun o => World.cell?_of_block (a := ⟨w.heap.size, o, none⟩) (hgrow.block w.heap.size HX0.out.1 (fun e => by have := hrow _ e.symm; omega))
  have d0 : w2.cell? ⟨w.heap.size, 0, none⟩ = some (.string n) := (k 0).trans (HX0.out.2 0 (by simp))
  have d1 : w2.cell? ⟨w.heap.size, 1, none⟩ = some (.int .i64 g) := (k 1).trans (HX0.out.2 1 (by simp))
  have d2 : w2.cell? ⟨w.heap.size, 2, none⟩ = some (.bool wh) := (k 2).trans (HX0.out.2 2 (by simp))
  have d3 : w2.cell? ⟨w.heap.size, 3, none⟩ = some (.int .i64 f) := (k 3).trans (HX0.out.2 3 (by simp))
  have d4 : w2.cell? ⟨w.heap.size, 4, none⟩ = some (.int .i64 l) := (k 4).trans (HX0.out.2 4 (by simp))
  obtain ⟨ao, cp, rfl, hT, hP⟩ := HOT.out w2 _ v1 HO.out
  have HT2 := hid_intro hT
  have HO2 := hid_intro hP
  obtain ⟨v5, d5⟩ := HP2.out.has 5 (by omega)
  have g5 := HP2.out.free 5 (by omega)
  have l2 := HP2.out.lt
  have q := HQ2.out.lt
  obtain ⟨y0, e0⟩ := HQ2.out.has 0 (by omega)
  obtain ⟨y1, e1⟩ := HQ2.out.has 1 (by omega)
  obtain ⟨y2, e2⟩ := HQ2.out.has 2 (by omega)
  obtain ⟨y3, e3⟩ := HQ2.out.has 3 (by omega)
  obtain ⟨y4, e4⟩ := HQ2.out.has 4 (by omega)
  obtain ⟨y5, e5⟩ := HQ2.out.has 5 (by omega)
  have z0 := HQ2.out.free 0 (by omega)
  have z1 := HQ2.out.free 1 (by omega)
  have z2 := HQ2.out.free 2 (by omega)
  have z3 := HQ2.out.free 3 (by omega)
  have z4 := HQ2.out.free 4 (by omega)
  have z5 := HQ2.out.free 5 (by omega)
  clear hT hP hown hgrow hne k hrow hI
  go_wp2_with fail
  refine bodyPost_ret (v := .agg #[.string n, .int .i64 g, .bool wh, .int .i64 f, .int .i64 l, .slice ao tl cp]) (by simp [results, Tryd.results45, go_sem, e0, e1, e2, e3, e4, e5]) rfl ⟨ao, cp, rfl, ?_, ?_, ?_⟩
  · rcases Nat.eq_zero_or_pos tl with h0 | h0
    · exact ⟨HT2.out.1, .inl h0⟩
    · obtain ⟨g', e1, e2, e3⟩ := HO2.out.resolve_left (by omega)
      subst e1
      exact ((((((HT2.out.far (by omega) _ _).far (by omega) _ _).far (by omega) _ _).far (by omega) _ _).far (by omega) _ _).far (by omega) _ _).far (by omega) _ _
  · refine HO2.out.imp id (fun ⟨g', e1, e2, e3⟩ => ⟨g', e1, by omega, ?_⟩)
    exact ((((((e3.far (by omega) _ _).far (by omega) _ _).far (by omega) _ _).far (by omega) _ _).far (by omega) _ _).far (by omega) _ _).far (by omega) _ _
  · exact ((((((HB2.out.setCell (Nat.le_refl _) _).setCell (by simp) _).setCell (by simp) _).setCell (by simp) _).setCell (by simp) _).setCell (by simp) _).setCell (by simp) _
theorem mO_long (c : Ca) (t : ByteArray) (h : 20 < t.size) : mO c t = Me.zero := by
  unfold mO
  cases hc : caB c
  · rfl
  · rw [cond_true]
    refine mFd_none t c.ms (fun i hi e => ?_)
    have hr := (((caB_iff.1 hc).1).2 i hi).1
    have := (name_le hr.1).2
    have e2 : (c.ms.getD i Me.zero).n = t := e
    rw [e2] at this
    omega
set_option maxRecDepth 100000 in
set_option maxHeartbeats 4000000 in
theorem spec_mo (v : Value) (c : Ca) (t : ByteArray) (w : World) (ht : t.size ≤ 1048576) (hS : c.Small) (hC : IsCa v c w) :
    Calls Tryd.prog 16 #[v, .string t] w fun e w' => ResM w (mO c t) e w' := by
  have HCA := hid_intro (fun W (hW : Below w.heap.size w W) => spec_ca v c W hS (hC.below hW))
  obtain ⟨ma, mc, ca, cc, rfl, hM, hR⟩ := hC
  have HAT := hid_intro (fun W (hW : Below w.heap.size w W) => spec_at ma mc ca c.cs.length cc c.ms t W hS.ml (hM.below hW))
  have HMO : Hid (mO c t = bif caB c then mFd t c.ms else Me.zero) := rfl
  have HLG := hid_intro (mO_long c t)
  have HMM := hid_intro (fun W (hW : Below w.heap.size w W) => hM.below hW)
  have HHIT := hid_intro (mFd_hit t c.ms)
  have HNON := hid_intro (mFd_none t c.ms)
  have HSM := hid_intro hS.ms
  have HRT : Hid (caB c = true → MsRight c.ms ∧ CsRight c.cs) := hid_intro caB_iff.1
  have HATB : Hid (∀ r, atB c.ms t r → (∃ k : Nat, k < c.ms.length ∧ r = (k : Int) ∧ mN c.ms k = t ∧ ∀ i, i < k → mN c.ms i ≠ t) ∨ (r = -1 ∧ ∀ i, i < c.ms.length → mN c.ms i ≠ t)) := hid_intro (fun r h => h)
  generalize mO c t = RES at *
  generalize caB c = R at *
  generalize hml : c.ms.length = ml at *
  generalize c.cs.length = cl at *
  have HB0 : Hid (Below w.heap.size w ((w.alloc (.cells #[.slice ma ml mc, .slice ca cl cc] 26)).alloc (.cells #[.string ⟨#[]⟩, .int .i64 0, .bool false, .int .i64 0, .int .i64 0, .slice none 0 0] 37))) := hid_intro (((Below.refl _ _).alloc (Nat.le_refl _) _).alloc (by simp) _)
  have HX0 : Hid (Blk w.heap.size [.slice ma ml mc, .slice ca cl cc] ((w.alloc (.cells #[.slice ma ml mc, .slice ca cl cc] 26)).alloc (.cells #[.string ⟨#[]⟩, .int .i64 0, .bool false, .int .i64 0, .int .i64 0, .slice none 0 0] 37))) := hid_intro ((Blk.new w _ _).alloc _)
  have HQ0 : Hid (Pt (w.heap.size + 1) 6 ((w.alloc (.cells #[.slice ma ml mc, .slice ca cl cc] 26)).alloc (.cells #[.string ⟨#[]⟩, .int .i64 0, .bool false, .int .i64 0, .int .i64 0, .slice none 0 0] 37))) := hid_intro (by have := pt_new (w.alloc (.cells #[.slice ma ml mc, .slice ca cl cc] 26)) [.string ⟨#[]⟩, .int .i64 0, .bool false, .int .i64 0, .int .i64 0, .slice none 0 0] 37; simpa using this)
  clear hM hR hS
  go_enter Tryd.func16, Tryd.ntmps16
  go_wp2_with fail
  refine (HAT.out _ HB0.out).mono ?_
  rintro e w1 ⟨r, rfl, hat, hb1⟩
  have HB1 := hid_intro (HB0.out.trans (hb1.mono HB0.out.size))
  have HX1 := hid_intro (HX0.out.below hb1)
  have HQ1 := hid_intro (HQ0.out.below hb1)
  clear hb1 HB0 HX0 HQ0
  by_cases hbig : 8000 < t.size
  · have hbig' : (8000 : Int) < (t.size : Int) := by omega
    obtain rfl := HLG.out (by omega)
    have q := HQ1.out.lt
    obtain ⟨y0, e0⟩ := HQ1.out.has 0 (by omega)
    obtain ⟨y1, e1⟩ := HQ1.out.has 1 (by omega)
    obtain ⟨y2, e2⟩ := HQ1.out.has 2 (by omega)
    obtain ⟨y3, e3⟩ := HQ1.out.has 3 (by omega)
    obtain ⟨y4, e4⟩ := HQ1.out.has 4 (by omega)
    obtain ⟨y5, e5⟩ := HQ1.out.has 5 (by omega)
    have z0 := HQ1.out.free 0 (by omega)
    have z1 := HQ1.out.free 1 (by omega)
    have z2 := HQ1.out.free 2 (by omega)
    have z3 := HQ1.out.free 3 (by omega)
    have z4 := HQ1.out.free 4 (by omega)
    have z5 := HQ1.out.free 5 (by omega)
    go_wp2_with fail
    refine bodyPost_ret (v := .agg #[.string ⟨#[]⟩, .int .i64 0, .bool false, .int .i64 0, .int .i64 0, .slice none 0 0]) (by simp [results, Tryd.results16, go_sem, e0, e1, e2, e3, e4, e5]) rfl (res_zero ?_)
    exact (((((HB1.out.setCell (by simp) _).setCell (by simp) _).setCell (by simp) _).setCell (by simp) _).setCell (by simp) _).setCell (by simp) _
  have hbig' : ¬ (8000 : Int) < (t.size : Int) := by omega
  rcases HATB.out r hat with ⟨k, hk, rfl, hkt, hkn⟩ | ⟨rfl, hno⟩
  · have hk0 : ¬ (k : Int) < 0 := by omega
    have x0 : w1.cell? ⟨w.heap.size, 0, none⟩ = some (.slice ma ml mc) := HX1.out.2 0 (by simp)
    have x1 : w1.cell? ⟨w.heap.size, 1, none⟩ = some (.slice ca cl cc) := HX1.out.2 1 (by simp)
    have xl := HX1.out.1
    have HF := hid_intro (HHIT.out k (by omega) hkn hkt)
    clear hat hkt hkn
    go_wp2_with fail
    refine (HCA.out _ HB1.out).mono ?_
    rintro e w2 ⟨rfl, hb2⟩
    have HB2 := hid_intro (HB1.out.trans (hb2.mono HB1.out.size))
    have HX2 := hid_intro (HX1.out.below hb2)
    have HQ2 := hid_intro (HQ1.out.below hb2)
    clear hb2 x0 x1 xl HB1 HX1 HQ1
    cases R
    · rw [cond_false] at HMO
      obtain rfl := HMO.out
      have q := HQ2.out.lt
      obtain ⟨y0, e0⟩ := HQ2.out.has 0 (by omega)
      obtain ⟨y1, e1⟩ := HQ2.out.has 1 (by omega)
      obtain ⟨y2, e2⟩ := HQ2.out.has 2 (by omega)
      obtain ⟨y3, e3⟩ := HQ2.out.has 3 (by omega)
      obtain ⟨y4, e4⟩ := HQ2.out.has 4 (by omega)
      obtain ⟨y5, e5⟩ := HQ2.out.has 5 (by omega)
      have z0 := HQ2.out.free 0 (by omega)
      have z1 := HQ2.out.free 1 (by omega)
      have z2 := HQ2.out.free 2 (by omega)
      have z3 := HQ2.out.free 3 (by omega)
      have z4 := HQ2.out.free 4 (by omega)
      have z5 := HQ2.out.free 5 (by omega)
      go_wp2_with fail
      refine bodyPost_ret (v := .agg #[.string ⟨#[]⟩, .int .i64 0, .bool false, .int .i64 0, .int .i64 0, .slice none 0 0]) (by simp [results, Tryd.results16, go_sem, e0, e1, e2, e3, e4, e5]) rfl (res_zero ?_)
      exact (((((HB2.out.setCell (by simp) _).setCell (by simp) _).setCell (by simp) _).setCell (by simp) _).setCell (by simp) _).setCell (by simp) _
    · rw [cond_true, HF.out] at HMO
      have x0 : w2.cell? ⟨w.heap.size, 0, none⟩ = some (.slice ma ml mc) := HX2.out.2 0 (by simp)
      have xl := HX2.out.1
      obtain ⟨b, off, rfl, hbl, ta, tc, c0, c1, c2, c3, c4, c5, hT⟩ := mes_at (HMM.out _ HB2.out) k hk
      have hkm : (k : Int) < (ml : Int) := by omega
      have HSK := hid_intro (HSM.out k (by omega))
      have HTR : Hid (1 ≤ (c.ms.getD k Me.zero).ts.length) := hid_intro (((HRT.out rfl).1.2 k (by omega)).1.2.2.2.2.1)
      have HL5 : Hid (∀ W, Below w2.heap.size w2 W → Calls Tryd.prog 45 #[.agg #[.string (c.ms.getD k Me.zero).n, .int .i64 (c.ms.getD k Me.zero).g, .bool (c.ms.getD k Me.zero).wh, .int .i64 (c.ms.getD k Me.zero).f, .int .i64 (c.ms.getD k Me.zero).l, .slice ta (c.ms.getD k Me.zero).ts.length tc]] W fun e w' => ResM W (c.ms.getD k Me.zero) e w') := hid_intro (fun W hW => by
        rcases hT.2 with h0 | ⟨b', off', rfl, _⟩
        · exact absurd h0 (by have := HTR.out; omega)
        · exact spec_me b' off' tc _ W HSK.out.2 (hT.below hW))
      generalize c.ms.getD k Me.zero = X at *
      obtain ⟨n, g, wh, f, l, ts⟩ := X
      obtain rfl := HMO.out
      simp only at HL5 c0 c1 c2 c3 c4 c5
      clear hT HF HMO HLG HMM HHIT HNON HSM HATB HCA HAT HSK HTR HRT
      go_wp2_with fail
      refine (HL5.out _ (Below.refl _ _)).mono ?_
      rintro e w4 ⟨ta', tc', rfl, hT4, hO4, hb4⟩
      simp only at hT4 hO4
      have HB4 := hid_intro (HB2.out.trans (hb4.mono HB2.out.size))
      have HQ4 := hid_intro (HQ2.out.below hb4)
      have HT4 := hid_intro hT4
      have HO4 := hid_intro hO4
      have hq3 := HQ2.out.lt
      have hw3 := HB2.out.size
      clear hT4 hO4 hb4 x0 xl c0 c1 c2 c3 c4 c5
      have q := HQ4.out.lt
      obtain ⟨y0, e0⟩ := HQ4.out.has 0 (by omega)
      obtain ⟨y1, e1⟩ := HQ4.out.has 1 (by omega)
      obtain ⟨y2, e2⟩ := HQ4.out.has 2 (by omega)
      obtain ⟨y3, e3⟩ := HQ4.out.has 3 (by omega)
      obtain ⟨y4, e4⟩ := HQ4.out.has 4 (by omega)
      obtain ⟨y5, e5⟩ := HQ4.out.has 5 (by omega)
      have z0 := HQ4.out.free 0 (by omega)
      have z1 := HQ4.out.free 1 (by omega)
      have z2 := HQ4.out.free 2 (by omega)
      have z3 := HQ4.out.free 3 (by omega)
      have z4 := HQ4.out.free 4 (by omega)
      have z5 := HQ4.out.free 5 (by omega)
      go_wp2_with fail
      refine bodyPost_ret (v := .agg #[.string n, .int .i64 g, .bool wh, .int .i64 f, .int .i64 l, .slice ta' ts.length tc']) (by simp [results, Tryd.results16, go_sem, e0, e1, e2, e3, e4, e5]) rfl ⟨ta', tc', rfl, ?_, ?_, ?_⟩
      · rcases Nat.eq_zero_or_pos ts.length with h0 | h0
        · exact ⟨rfl, .inl h0⟩
        · obtain ⟨g', e1, e2, e3⟩ := HO4.out.resolve_left (by omega)
          subst e1
          exact (((((HT4.out.far (by omega) _ _).far (by omega) _ _).far (by omega) _ _).far (by omega) _ _).far (by omega) _ _).far (by omega) _ _
      · refine HO4.out.imp id (fun ⟨g', e1, e2, e3⟩ => ⟨g', e1, by omega, ?_⟩)
        exact (((((e3.far (by omega) _ _).far (by omega) _ _).far (by omega) _ _).far (by omega) _ _).far (by omega) _ _).far (by omega) _ _
      · exact (((((HB4.out.setCell (by simp) _).setCell (by simp) _).setCell (by simp) _).setCell (by simp) _).setCell (by simp) _).setCell (by simp) _
  · have HZ : Hid (RES = Me.zero) := hid_intro (by rw [HMO.out, HNON.out (fun i hi => hno i (by omega))]; cases R <;> rfl)
    obtain rfl := HZ.out
    clear hat hno
    have q := HQ1.out.lt
    obtain ⟨y0, e0⟩ := HQ1.out.has 0 (by omega)
    obtain ⟨y1, e1⟩ := HQ1.out.has 1 (by omega)
    obtain ⟨y2, e2⟩ := HQ1.out.has 2 (by omega)
    obtain ⟨y3, e3⟩ := HQ1.out.has 3 (by omega)
    obtain ⟨y4, e4⟩ := HQ1.out.has 4 (by omega)
    obtain ⟨y5, e5⟩ := HQ1.out.has 5 (by omega)
    have z0 := HQ1.out.free 0 (by omega)
    have z1 := HQ1.out.free 1 (by omega)
    have z2 := HQ1.out.free 2 (by omega)
    have z3 := HQ1.out.free 3 (by omega)
    have z4 := HQ1.out.free 4 (by omega)
    have z5 := HQ1.out.free 5 (by omega)
    go_wp2_with fail
    refine bodyPost_ret (v := .agg #[.string ⟨#[]⟩, .int .i64 0, .bool false, .int .i64 0, .int .i64 0, .slice none 0 0]) (by simp [results, Tryd.results16, go_sem, e0, e1, e2, e3, e4, e5]) rfl (res_zero ?_)
    exact (((((HB1.out.setCell (by simp) _).setCell (by simp) _).setCell (by simp) _).setCell (by simp) _).setCell (by simp) _).setCell (by simp) _
end CatR
end Go.Proofs.YtaedolophhcjjaaDoor
namespace Go.Proofs.YtaedolophhcjjaaDoor
open Go.ChangeShapes Go.WideShapes Go.RowKit
namespace Snm
theorem laidOut : laidOutB Tryd.prog = true := by kernel_rfl
theorem own : ownKnob Tryd.prog.godebug = none := by kernel_rfl
theorem gv : Tryd.prog.globalNamed "loop.example/g00562/impl.errNoMeter" = some 0 := by kernel_rfl
theorem gt : (Tryd.prog.globals[0]?).map (·.type) = some 59 := by kernel_rfl
theorem star : "*" ++ "errors.errorString" = "*errors.errorString" := by decide
theorem row (u : TypeId) (h : Tryd.prog.typeName? 3 u = some "*errors.errorString") : u = 128 :=
  typeName_ptr_named (nm := "errors.errorString") (by rw [star]; kernel_rfl) (by kernel_rfl) (by decide) u (by rw [star]; exact h)
theorem cellsE : Tryd.prog.cellsOf 152 = 1 := by kernel_rfl
theorem cellsS : Tryd.prog.cellsOf 9 = 1 := by kernel_rfl
def laid {H : Type} : List (String × DataW H) := [("loop.example/g00562/impl.errNoMeter", Rows.laid_loop_example_g00562_impl_errNoMeter)]
theorem of_laid {W : World} (h : laidMetH Tryd.prog laid W) : ∃ a : Addr, W.var? Tryd.prog "loop.example/g00562/impl.errNoMeter" = some #[.iface 128 (.pointer (some a))] := by
  rw [MakeChecks.laidMetH_plain _ _ _ (by kernel_rfl)] at h
  obtain ⟨a, s, hv, _⟩ := laid_sentinel h gv gt Tryd.underlying59 row Tryd.underlying128 Tryd.underlying152 rfl rfl Tryd.underlying9 cellsE cellsS
  exact ⟨a, hv⟩
theorem laid_of {W : World} {a : Addr} (h : W.var? Tryd.prog "loop.example/g00562/impl.errNoMeter" = some #[.iface 128 (.pointer (some a))]) : CatR.Laid W := by
  have hg : W.cell? ⟨0, 0, none⟩ = some (.iface 128 (.pointer (some a))) := by simpa using World.var?_cell gv h 0
  refine ⟨?_, a, hg⟩
  rcases Nat.lt_or_ge 0 W.heap.size with h | h
  · exact h
  · have h0 : W.heap[0]? = none := Array.getElem?_eq_none h
    simp [World.cell?, h0] at hg
theorem var_below {W W' : World} {cs : Array Value} (hL : CatR.Laid W) (h : W.var? Tryd.prog "loop.example/g00562/impl.errNoMeter" = some cs) (hb : Below W.heap.size W W') : W'.var? Tryd.prog "loop.example/g00562/impl.errNoMeter" = some cs := by
  unfold World.var? at h ⊢
  rw [gv] at h ⊢
  simp only [Option.bind_some] at h ⊢
  rw [hb.block 0 hL.1]
  exact h
theorem door_met (os : Os) (args : Array Value) : laidMetH Tryd.prog laid ((World.doorLaid Tryd.prog 400 os).forCall (fun _ _ => 0) ⟨#[], args, []⟩).memory :=
  laidMetH_of_parts3 (fuel := 8) (laidMet_of_run' 8 (by kernel_rfl) (by kernel_rfl)) (by kernel_rfl) (by kernel_rfl)
end Snm
end Go.Proofs.YtaedolophhcjjaaDoor
