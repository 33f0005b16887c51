/-
  The model's copy of documents: spec.l09Copy. The conditions: sizes of at most 1048576.
  nextDoc: the document that makes the net of a period the bill, or why there is none. The conditions: what lessLines asks.
  What the rows tell of a period, in every later memory. The conditions: documents of a right ledger, small ones.
  The law's own mark, a text. The condition: its number is 1 to 99999999.
  The law's own marks in a list of lines: written, and found again. The condition: at most 1048576 lines to write, 40 to find.
  Sizes of lists of lines, and the law's own marks in them, from any number on. The condition: at most 1048576 lines.
  Marks upon a list of lines, from any number on, and their reading. The condition: at most 1048576 lines.
  Worlds that differ in some blocks alone. No condition.
  The law's own marks in a list of documents. The condition: at most 1048576 documents and lines together.
  Marks upon a list of documents of one's own, and their reading. The conditions: at most 1048576 documents, the marks below 5300001.
  Answers that hold documents: held against each other, marked, and their marks read. The conditions: at most 1048576 documents, small ones; the marks below 5300001.
  The model's Issue: spec.l09Issue, spec.Issue. The conditions: sizes of at most 1048576, the bill at a place.
  The model's Issue: spec.Issue. The conditions: sizes of at most 1048576, the bill at a place.
  copyDoc: a document in new memory. The conditions: sizes of at most 1048576.
  withDoc: documents in new memory, and another one behind them. The conditions: sizes of at most 1048576, no line of 0.
-/
import Derived.Lib.ConvBytes
import Derived.Laws.BytesArg
import Derived.Deep.RegionHeld3
import Derived.Deep.RegionHeld
import Derived.ArgAppend
import Derived.Deep.RegionLawGrows
import Derived.Test.YtakeiankhfdjdaaGreatDoorI2
namespace Go.Proofs.YtakeiankhfdjdaaGreatDoor
open Go.ChangeShapes Go.WideShapes Go.ChangeAt Go.RowKit
set_option linter.unusedVariables false
namespace LedR
open LinR DocR NetR OwG
open RowG (cellsAll cellsAll_len hid_intro take_more)
/-- One more document, with what both lists hold. -/
theorem dso_snoc {base : Nat} {v v' : Value} {xs : List DA} {ds : List D} {d : D} {la : Option Addr} {lc : Nat} {w2 w9 : World} (hds : xs.map DA.d = ds) (hLn : ∀ x ∈ xs, LnO base x w2) (hPw : xs.Pairwise Apt) (hn : LnO base ⟨d, la, lc⟩ w2) (hap : ∀ x ∈ xs, Apt x ⟨d, la, lc⟩)
    (hO : w2.ownsRow base 29 4 v ds.length (cellsAll DA.cells xs)) (hgrow : w2.grownBy w9 v.ownBlock)
    (hown : w9.ownsRow base 29 4 v' (ds.length + 1) (cellsAll DA.cells xs ++ [.string d.a, .int .i64 d.mo, .int .i64 d.sq, .slice la d.ls.length lc])) :
    (xs ++ [(⟨d, la, lc⟩ : DA)]).map DA.d = ds ++ [d] ∧ w9.ownsRow base 29 4 v' (ds ++ [d]).length (cellsAll DA.cells (xs ++ [(⟨d, la, lc⟩ : DA)])) ∧ (∀ x ∈ xs ++ [(⟨d, la, lc⟩ : DA)], LnO base x w9) ∧ (xs ++ [(⟨d, la, lc⟩ : DA)]).Pairwise Apt := by
  have hk : ∀ x : DA, LnO base x w2 → LnO base x w9 := fun x hx => hx.grown hgrow (own_apart hx hO (by decide))
  refine ⟨by rw [List.map_append, hds]; rfl, ?_, ?_, ?_⟩
  · rw [cellsAll_snoc, List.length_append]
    exact hown
  · intro x hx
    rcases List.mem_append.1 hx with h | h
    · exact hk x (hLn x h)
    · rw [List.mem_singleton] at h
      subst h
      exact hk _ hn
  · refine List.pairwise_append.2 ⟨hPw, List.pairwise_singleton _ _, fun x hx y hy => ?_⟩
    rw [List.mem_singleton] at hy
    subst hy
    exact hap x hx
theorem new_cells4 (W : World) (cs : List Value) (T : TypeId) : ∀ (j : Nat) u, cs[j]? = some u → (W.alloc (.cells cs.toArray T)).cell? ((⟨W.heap.size, 0, none⟩ : Addr).add j) = some u := by
  intro j u hx
  have hb := (BlkW.new W cs T).1
  rw [Addr.add_lit, Nat.zero_add, hb.2 j (List.getElem?_eq_some_iff.1 hx).1]
  exact hx
set_option maxRecDepth 100000 in
set_option maxHeartbeats 4000000 in
theorem scopy (ao : Option Addr) (cap : Nat) (ds : List D) (w : World) (hlen : ds.length ≤ 1048575) (hL : ∀ d ∈ ds, d.ls.length ≤ 1048576) (hI : Dcs ao ds w) :
    Calls Tryz.prog 48 #[.slice ao ds.length cap] w fun e w' => ∃ v, e = .returned v ∧ DsO w.heap.size v ds w' ∧ Below w.heap.size w w' := by
  obtain ⟨i0, hi, hz0, hz1, hz2⟩ := info_parts infoD
  have HI := hid_intro hI
  have HL := hid_intro hL
  obtain ⟨len, hl⟩ : ∃ len, len = ds.length := ⟨_, rfl⟩
  have HLN := hid_intro hl
  have HEND : Hid (ds.take len = ds) := hid_intro (by rw [hl]; exact List.take_length)
  rw [← hl] at hlen ⊢
  have HE0 := hid_intro (own_empty w w.heap.size 29 4 (Nat.le_refl _))
  clear hI hL hl
  go_enter Tryz.func48, Tryz.ntmps48
  go_wp2_with fail
  go_loopw [3, 4] (fun v z wr => ∃ k : Nat, k ≤ len ∧ z = .int .i64 k ∧ Hid (DsO w.heap.size v (ds.take k) wr) ∧ Hid (Below w.heap.size w wr)) (fun v z _ => len - (intOf z).toNat)
  case atStart => exact ⟨0, by omega, rfl, hid_intro ⟨[], rfl, HE0.out, (fun x h => by cases h), List.Pairwise.nil⟩, hid_intro ((Below.refl _ _).alloc (Nat.le_refl _) _)⟩
  case round =>
    obtain ⟨k, hk, rfl, HO, HB⟩ := hrel
    by_cases hlt : k < len
    · have hlt2 : (k : Int) < (len : Int) := by omega
      have hkl : k < ds.length := by have := HLN.out; omega
      obtain ⟨b, off, la, lc, rfl, hbl, c0, c1, c2, c3, hLi⟩ := (HI.out.below HB.out).at k hkl
      have hdl := HL.out _ (RowG.getD_mem (z := D.zero) ds k hkl)
      have HT := hid_intro (take_more (z := D.zero) ds k hkl)
      have HDK : Hid ((ds.take k).length = k) := hid_intro (by rw [List.length_take]; omega)
      generalize ds.getD k D.zero = X at *
      obtain ⟨xs, hx1, hx2, hx3, hx4⟩ := HO.out
      have HX1 := hid_intro hx1
      have HX2 := hid_intro hx2
      have HX3 := hid_intro hx3
      have HX4 := hid_intro hx4
      have HSD := hid_intro (fun W (hb : Below wr.heap.size wr W) => sdoc X la lc W hdl (hLi.below hb))
      obtain ⟨a, mo, sq, ls⟩ := X
      dsimp only at c0 c1 c2 c3 HSD hdl
      obtain ⟨nl, hnl⟩ : ∃ nl, nl = ls.length := ⟨_, rfl⟩
      rw [← hnl] at c3 HSD hdl
      have HNL := hid_intro hnl
      clear hx1 hx2 hx3 hx4 hLi hnl HO
      go_wp2_with fail
      refine (HSD.out _ (Below.refl _ _)).mono ?_
      rintro e w1 ⟨no, nc, rfl, hnew, hb1⟩
      have HN1 := hid_intro hnew
      have HB1 := hid_intro hb1
      have HS1 : Hid (w.heap.size ≤ wr.heap.size) := hid_intro HB.out.size
      obtain ⟨w2, hw2⟩ : ∃ z, z = w1.alloc (.cells #[.string a, .int .i64 mo, .int .i64 sq, .slice no nl nc] 29) := ⟨_, rfl⟩
      have al : Below w1.heap.size w1 w2 := by rw [hw2]; exact (Below.refl _ _).alloc (Nat.le_refl _) _
      have HAL := hid_intro al
      have HO2 := hid_intro (RowG.own_below (RowG.own_below HX2.out hb1) al)
      have HNW : Hid (∀ j u, ([.string a, .int .i64 mo, .int .i64 sq, .slice no nl nc] : List Value)[j]? = some u → w2.cell? ((⟨w1.heap.size, 0, none⟩ : Addr).add j) = some u) := hid_intro (by rw [hw2]; exact new_cells4 w1 [.string a, .int .i64 mo, .int .i64 sq, .slice no nl nc] 29)
      have HS2 : Hid (w.heap.size ≤ w2.heap.size) := hid_intro (by have := al.size; have := hb1.size; have := HB.out.size; omega)
      have HW2 := hid_intro hw2
      have HDO : Hid (∀ u ∈ ([.string a, .int .i64 mo, .int .i64 sq, .slice no nl nc] : List Value), u.oneCell' = true) := hid_intro (by intro u hu; simp at hu; rcases hu with rfl | rfl | rfl | rfl <;> rfl)
      rw [HDK.out] at HO2
      have hsz1 : k + 1 ≤ maxLen := by unfold maxLen; omega
      have hsz2 : (k + 1) * 56 ≤ 140737488355328 := by omega
      clear hnew hb1 al hw2 HSD
      go_wp2_with (at_builtin; rw [← HW2.out]; refine wpList_append_own _ rfl _ _ 26 rfl w.heap.size 29 i0 (.agg #[.string ⟨#[]⟩, .int .i64 0, .int .i64 0, .slice none 0 0]) 4 56 Tryz.underlying26 hi hz0 hz1 hz2 rfl (by decide) _ _ _ rfl HO2.out ⟨w1.heap.size, 0, none⟩ 1 1 [.string a, .int .i64 mo, .int .i64 sq, .slice no nl nc] rfl rfl HNW.out HDO.out hsz1 hsz2 HS2.out ?_)
      intro v' w9 hown hgrow hne
      have HD9 : Hid (DsO w.heap.size v' (ds.take (k + 1)) w9) := hid_intro (by
        rw [HT.out]
        have e := HNL.out
        subst e
        have h := dso_snoc (d := ⟨a, mo, sq, ls⟩) (la := no) (lc := nc) HX1.out (fun x hx => RowG.own_below (RowG.own_below (HX3.out x hx) HB1.out) HAL.out) HX4.out (RowG.own_below (OwG.own_low HN1.out HS1.out) HAL.out) (fun x hx b h1 h2 => by
          have p1 := ((HX3.out x hx).lt b h1).2
          have p2 := (HN1.out.lt b h2).1
          omega) (by rw [HDK.out]; exact HO2.out) hgrow (by rw [HDK.out]; exact hown)
        exact ⟨_, h.1, h.2.1, h.2.2.1, h.2.2.2⟩)
      have HB9 : Hid (Below w.heap.size w w9) := hid_intro (((HB.out.trans (HB1.out.mono HB.out.size)).trans (HAL.out.mono (Nat.le_trans HB.out.size HB1.out.size))).grown hgrow HS2.out (fun k e => by have := (HO2.out.lt k e).1; omega))
      clear hown hgrow hne
      go_wp2_with fail
      go_roundw
      case rel => exact ⟨k + 1, by omega, by go_num, HD9, HB9⟩
      case measure => simp [intOf]; omega
    · have hlt2 : ¬ (k : Int) < (len : Int) := by omega
      obtain rfl : k = len := by omega
      rw [HEND.out] at HO
      go_wp2_with fail
      go_ret
      exact ⟨_, rfl, HO.out, HB.out⟩
end LedR
end Go.Proofs.YtakeiankhfdjdaaGreatDoor
namespace Go.Proofs.YtakeiankhfdjdaaGreatDoor
open Go.ChangeShapes Go.WideShapes Go.ChangeAt Go.RowKit
set_option linter.unusedVariables false
namespace LedR
open LinR RowG LtR NetR DocR
/-- What nextDoc answers: G is what the bill has more than the net, c how many documents there are, n how many in all. -/
def NxR (G : List N) (c n : Nat) (a : ByteArray) (m : Int) (w : World) (e : Ending) (w' : World) : Prop := Below w.heap.size w w' ∧
  ((∃ cd : Int, e = .returned (.tuple #[.agg #[.string ⟨#[]⟩, .int .i64 0, .int .i64 0, .slice none 0 0], .iface 84 (.agg #[.int .i64 cd])]) ∧ ((ovB G = false ∧ cd = 12) ∨ (ovB G = true ∧ clL G = [] ∧ 0 < c ∧ cd = 7) ∨ (ovB G = true ∧ ¬ (clL G = [] ∧ 0 < c) ∧ 30 ≤ n ∧ cd = 9)))
  ∨ (ovB G = true ∧ ¬ (clL G = [] ∧ 0 < c) ∧ n < 30 ∧ ∃ la lc, e = .returned (.tuple #[.agg #[.string a, .int .i64 m, .int .i64 c, .slice la (clL G).length lc], .nilIface]) ∧ w'.ownsRow w.heap.size 53 2 (.slice la (clL G).length lc) (clL G).length (cellsAll N.cells (clL G))))
set_option maxRecDepth 100000 in
set_option maxHeartbeats 4000000 in
theorem inext (ao bo : Option Addr) (cap capb n c : Nat) (a : ByteArray) (m : Int) (mb : Option Nat) (F bl : List N) (w : World) (hn : n ≤ 1048576) (hc : c ≤ 1048576)
    (hln : ∀ W, Below w.heap.size w W → Calls Tryz.prog 56 #[.map mb] W fun e w' => ∃ v, e = .returned v ∧ w'.ownsRow W.heap.size 53 2 v F.length (cellsAll N.cells F) ∧ Below W.heap.size W w')
    (hla : bl.length ≤ 400) (hlb : F.length ≤ 400) (hsa : ∀ e ∈ bl, e.i.size ≤ 1048576) (hsb : ∀ e ∈ F, e.i.size ≤ 1048576) (hna : ∀ e ∈ bl, -1000000000000000 ≤ e.n ∧ e.n ≤ 1000000000000000) (hnb : ∀ e ∈ F, -1000000000000000 ≤ e.n ∧ e.n ≤ 1000000000000000) (hr : Rise bl) (hA : Lis bo bl w) :
    Calls Tryz.prog 30 #[.slice ao n cap, .agg #[.string a, .int .i64 m], .agg #[.int .i64 c, .map mb], .slice bo bl.length capb] w (NxR (all bl F (-1)) c n a m w) := by
  have HLN := hid_intro hln
  have HLE := hid_intro (fun (bo2 : Option Addr) (cap2 : Nat) W (hA : Lis bo bl W) (hI : Lis bo2 F W) => iless0 bo bo2 capb cap2 bl F W hla hlb hsa hsb hna hnb hr hA hI)
  have HA := hid_intro hA
  have HGL := hid_intro (all_len bl F (-1))
  obtain ⟨G, hG⟩ : ∃ G, G = all bl F (-1) := ⟨_, rfl⟩
  rw [← hG] at HLE HGL ⊢
  obtain ⟨ll, hll⟩ : ∃ ll, ll = bl.length := ⟨_, rfl⟩
  rw [← hll] at HLE ⊢
  obtain ⟨W0, hW0⟩ : ∃ W0, W0 = ((w.alloc (.cells #[.string a, .int .i64 m] 61)).alloc (.cells #[.int .i64 c, .map mb] 67)).alloc (.cells #[.string ⟨#[]⟩, .int .i64 0, .int .i64 0, .slice none 0 0] 29) := ⟨_, rfl⟩
  have HB0 : Hid (Below w.heap.size w W0) := hid_intro (by rw [hW0]; exact (((Below.refl _ _).alloc (Nat.le_refl _) _).alloc (by simp) _).alloc (by simp; omega) _)
  have HP0 : Hid (BlkW w.heap.size [.string a, .int .i64 m] W0) := hid_intro (by rw [hW0]; exact ((BlkW.new w [.string a, .int .i64 m] 61).below ((Below.refl _ _).alloc (Nat.le_refl _) _)).below ((Below.refl _ _).alloc (Nat.le_refl _) _))
  have HV0 : Hid (BlkW (w.heap.size + 1) [.int .i64 c, .map mb] W0) := hid_intro (by
    rw [hW0]
    have := (BlkW.new (w.alloc (.cells #[.string a, .int .i64 m] 61)) [.int .i64 c, .map mb] 67)
    simp only [World.size_alloc] at this
    exact this.below ((Below.refl _ _).alloc (Nat.le_refl _) _))
  have HR0 : Hid (BlkW (w.heap.size + 1 + 1) [.string ⟨#[]⟩, .int .i64 0, .int .i64 0, .slice none 0 0] W0) := hid_intro (by
    rw [hW0]
    have := BlkW.new ((w.alloc (.cells #[.string a, .int .i64 m] 61)).alloc (.cells #[.int .i64 c, .map mb] 67)) [.string ⟨#[]⟩, .int .i64 0, .int .i64 0, .slice none 0 0] 29
    simp only [World.size_alloc] at this
    exact this)
  have HW := hid_intro hW0
  have HGL : Hid (G.length ≤ 800) := hid_intro (by have := HGL.out; omega)
  clear hln hla hlb hsa hsb hna hnb hr hA hG hll hW0
  go_enter Tryz.func30, Tryz.ntmps30
  go_wp2_with fail
  refine (HLN.out _ (by rw [← HW.out]; exact HB0.out)).mono ?_
  rw [← HW.out]
  rintro e w1 ⟨v, rfl, ho1, hb1⟩
  obtain ⟨bo2, cap2, rfl, hm1⟩ := own_made (z := N.zero) N.len ho1
  have HI1 := hid_intro hm1.rws
  have HB1 := hid_intro (HB0.out.trans (hb1.mono HB0.out.size))
  have HP1 := hid_intro (HP0.out.below hb1)
  have HV1 := hid_intro (HV0.out.below hb1)
  have HR1 := hid_intro (HR0.out.below hb1)
  clear ho1 hm1 hb1 HB0 HP0 HV0 HR0 HW
  go_wp2_with fail
  refine (HLE.out bo2 cap2 _ (HA.out.below HB1.out) HI1.out).mono ?_
  rintro e w2 ⟨v, rfl, ho2, hb2⟩
  obtain ⟨la, lc, rfl, hm2⟩ := own_made (z := N.zero) N.len ho2
  have HO2 := hid_intro ho2
  have HLT : Hid (w.heap.size + 1 + 1 < w1.heap.size) := hid_intro HR1.out.1.1
  have HLT2 := hid_intro HB1.out.size
  have HB2 := hid_intro (HB1.out.trans (hb2.mono HB1.out.size))
  have HP2 := hid_intro (HP1.out.below hb2)
  have HV2 := hid_intro (HV1.out.below hb2)
  have HR2 := hid_intro (HR1.out.below hb2)
  have lP := HP2.out.1.1
  have lV := HV2.out.1.1
  have q0 := HP2.out.1.2 0 (by simp)
  have q1 := HP2.out.1.2 1 (by simp)
  have u0 := HV2.out.1.2 0 (by simp)
  simp only [List.getElem?_cons_zero, List.getElem?_cons_succ] at q0 q1 u0
  have HCL : Hid ((clL G).length ≤ 1048576) := hid_intro (by
    have h1 : (clL G).length ≤ G.length := by unfold clL; cases ovB G; exact Nat.zero_le _; exact List.length_filter_le _ _
    have := HGL.out
    omega)
  obtain ⟨L, hL⟩ : ∃ L, L = clL G := ⟨_, rfl⟩
  have HLL := hid_intro hL
  rw [← hL] at HO2 HCL ⊢
  clear ho2 hm2 hb2 HB1 HP1 HV1 HR1 HP2 HV2 hL
  cases hov : ovB G
  · have HOV := hid_intro hov
    simp only [ovE]
    clear hov
    obtain ⟨⟨rl, rk⟩, rf⟩ := HR2.out
    have p0 : w2.cell? ⟨w.heap.size + 1 + 1, 0, none⟩ = some (.string ⟨#[]⟩) := rk 0 (by simp)
    have f0 : w2.frozen? ⟨w.heap.size + 1 + 1, 0, none⟩ = false := rf 0 (by simp)
    have p1 : w2.cell? ⟨w.heap.size + 1 + 1, 1, none⟩ = some (.int .i64 0) := rk 1 (by simp)
    have f1 : w2.frozen? ⟨w.heap.size + 1 + 1, 1, none⟩ = false := rf 1 (by simp)
    have p2 : w2.cell? ⟨w.heap.size + 1 + 1, 2, none⟩ = some (.int .i64 0) := rk 2 (by simp)
    have f2 : w2.frozen? ⟨w.heap.size + 1 + 1, 2, none⟩ = false := rf 2 (by simp)
    have p3 : w2.cell? ⟨w.heap.size + 1 + 1, 3, none⟩ = some (.slice none 0 0) := rk 3 (by simp)
    have f3 : w2.frozen? ⟨w.heap.size + 1 + 1, 3, none⟩ = false := rf 3 (by simp)
    have hg := StR.stL_grown (w.heap.size + 1 + 1) [.string ⟨#[]⟩, .int .i64 0, .int .i64 0, .slice none 0 0] 0 w2
    have HBF := hid_intro (HB2.out.grown hg HB2.out.size (fun k e => by simp only [Option.some.injEq] at e; omega))
    have HOF := hid_intro (OwG.own_low (OwG.own_keepG HO2.out hg HLT.out) HLT2.out)
    simp only [StR.stL, Nat.zero_add, Nat.reduceAdd] at HBF HOF
    clear hg rk rf
    go_wp2_with fail
    refine bodyPost_ret (v := .tuple #[.agg #[.string ⟨#[]⟩, .int .i64 0, .int .i64 0, .slice none 0 0], .iface 84 (.agg #[.int .i64 12])]) (by simp [results, Tryz.results30, go_sem, p0, p1, p2, p3]) rfl ⟨HBF.out, .inl ⟨12, rfl, .inl ⟨HOV.out, rfl⟩⟩⟩
  · have HOV := hid_intro hov
    simp only [ovE]
    clear hov
    have hLc := HCL.out
    by_cases h0 : L.length = 0
    · have HE : Hid (clL G = []) := hid_intro (by rw [← HLL.out]; exact List.length_eq_zero_iff.1 h0)
      obtain rfl : L = [] := List.length_eq_zero_iff.1 h0
      clear h0 hLc
      by_cases hc0 : 0 < c
      · have hc1 : (0 : Int) < (c : Int) := by omega
        obtain ⟨⟨rl, rk⟩, rf⟩ := HR2.out
        have p0 : w2.cell? ⟨w.heap.size + 1 + 1, 0, none⟩ = some (.string ⟨#[]⟩) := rk 0 (by simp)
        have f0 : w2.frozen? ⟨w.heap.size + 1 + 1, 0, none⟩ = false := rf 0 (by simp)
        have p1 : w2.cell? ⟨w.heap.size + 1 + 1, 1, none⟩ = some (.int .i64 0) := rk 1 (by simp)
        have f1 : w2.frozen? ⟨w.heap.size + 1 + 1, 1, none⟩ = false := rf 1 (by simp)
        have p2 : w2.cell? ⟨w.heap.size + 1 + 1, 2, none⟩ = some (.int .i64 0) := rk 2 (by simp)
        have f2 : w2.frozen? ⟨w.heap.size + 1 + 1, 2, none⟩ = false := rf 2 (by simp)
        have p3 : w2.cell? ⟨w.heap.size + 1 + 1, 3, none⟩ = some (.slice none 0 0) := rk 3 (by simp)
        have f3 : w2.frozen? ⟨w.heap.size + 1 + 1, 3, none⟩ = false := rf 3 (by simp)
        have hg := StR.stL_grown (w.heap.size + 1 + 1) [.string ⟨#[]⟩, .int .i64 0, .int .i64 0, .slice none 0 0] 0 w2
        have HBF := hid_intro (HB2.out.grown hg HB2.out.size (fun k e => by simp only [Option.some.injEq] at e; omega))
        have HOF := hid_intro (OwG.own_low (OwG.own_keepG HO2.out hg HLT.out) HLT2.out)
        simp only [StR.stL, Nat.zero_add, Nat.reduceAdd] at HBF HOF
        clear hg rk rf
        go_wp2_with fail
        refine bodyPost_ret (v := .tuple #[.agg #[.string ⟨#[]⟩, .int .i64 0, .int .i64 0, .slice none 0 0], .iface 84 (.agg #[.int .i64 7])]) (by simp [results, Tryz.results30, go_sem, p0, p1, p2, p3]) rfl ⟨HBF.out, .inl ⟨7, rfl, .inr (.inl ⟨HOV.out, HE.out, hc0, rfl⟩)⟩⟩
      · have hc1 : ¬ (0 : Int) < (c : Int) := by omega
        have HNE : Hid (¬ (clL G = [] ∧ 0 < c)) := hid_intro (fun h => hc0 h.2)
        by_cases h30 : 30 ≤ n
        · have h31 : (30 : Int) ≤ (n : Int) := by omega
          obtain ⟨⟨rl, rk⟩, rf⟩ := HR2.out
          have p0 : w2.cell? ⟨w.heap.size + 1 + 1, 0, none⟩ = some (.string ⟨#[]⟩) := rk 0 (by simp)
          have f0 : w2.frozen? ⟨w.heap.size + 1 + 1, 0, none⟩ = false := rf 0 (by simp)
          have p1 : w2.cell? ⟨w.heap.size + 1 + 1, 1, none⟩ = some (.int .i64 0) := rk 1 (by simp)
          have f1 : w2.frozen? ⟨w.heap.size + 1 + 1, 1, none⟩ = false := rf 1 (by simp)
          have p2 : w2.cell? ⟨w.heap.size + 1 + 1, 2, none⟩ = some (.int .i64 0) := rk 2 (by simp)
          have f2 : w2.frozen? ⟨w.heap.size + 1 + 1, 2, none⟩ = false := rf 2 (by simp)
          have p3 : w2.cell? ⟨w.heap.size + 1 + 1, 3, none⟩ = some (.slice none 0 0) := rk 3 (by simp)
          have f3 : w2.frozen? ⟨w.heap.size + 1 + 1, 3, none⟩ = false := rf 3 (by simp)
          have hg := StR.stL_grown (w.heap.size + 1 + 1) [.string ⟨#[]⟩, .int .i64 0, .int .i64 0, .slice none 0 0] 0 w2
          have HBF := hid_intro (HB2.out.grown hg HB2.out.size (fun k e => by simp only [Option.some.injEq] at e; omega))
          have HOF := hid_intro (OwG.own_low (OwG.own_keepG HO2.out hg HLT.out) HLT2.out)
          simp only [StR.stL, Nat.zero_add, Nat.reduceAdd] at HBF HOF
          clear hg rk rf
          go_wp2_with fail
          refine bodyPost_ret (v := .tuple #[.agg #[.string ⟨#[]⟩, .int .i64 0, .int .i64 0, .slice none 0 0], .iface 84 (.agg #[.int .i64 9])]) (by simp [results, Tryz.results30, go_sem, p0, p1, p2, p3]) rfl ⟨HBF.out, .inl ⟨9, rfl, .inr (.inr ⟨HOV.out, HNE.out, h30, rfl⟩)⟩⟩
        · have h31 : ¬ (30 : Int) ≤ (n : Int) := by omega
          obtain ⟨⟨rl, rk⟩, rf⟩ := HR2.out
          have p0 : w2.cell? ⟨w.heap.size + 1 + 1, 0, none⟩ = some (.string ⟨#[]⟩) := rk 0 (by simp)
          have f0 : w2.frozen? ⟨w.heap.size + 1 + 1, 0, none⟩ = false := rf 0 (by simp)
          have p1 : w2.cell? ⟨w.heap.size + 1 + 1, 1, none⟩ = some (.int .i64 0) := rk 1 (by simp)
          have f1 : w2.frozen? ⟨w.heap.size + 1 + 1, 1, none⟩ = false := rf 1 (by simp)
          have p2 : w2.cell? ⟨w.heap.size + 1 + 1, 2, none⟩ = some (.int .i64 0) := rk 2 (by simp)
          have f2 : w2.frozen? ⟨w.heap.size + 1 + 1, 2, none⟩ = false := rf 2 (by simp)
          have p3 : w2.cell? ⟨w.heap.size + 1 + 1, 3, none⟩ = some (.slice none 0 0) := rk 3 (by simp)
          have f3 : w2.frozen? ⟨w.heap.size + 1 + 1, 3, none⟩ = false := rf 3 (by simp)
          have hg := StR.stL_grown (w.heap.size + 1 + 1) [.string a, .int .i64 m, .int .i64 c, .slice la 0 lc] 0 w2
          have HBF := hid_intro (HB2.out.grown hg HB2.out.size (fun k e => by simp only [Option.some.injEq] at e; omega))
          have HOF := hid_intro (OwG.own_low (OwG.own_keepG HO2.out hg HLT.out) HLT2.out)
          simp only [StR.stL, Nat.zero_add, Nat.reduceAdd] at HBF HOF
          clear hg rk rf
          go_wp2_with fail
          refine bodyPost_ret (v := .tuple #[.agg #[.string a, .int .i64 m, .int .i64 c, .slice la 0 lc], .nilIface]) (by simp [results, Tryz.results30, go_sem, p0, p1, p2, p3]) rfl ⟨HBF.out, .inr ⟨HOV.out, HNE.out, by omega, la, lc, by rw [← HLL.out]; rfl, by rw [← HLL.out]; exact HOF.out⟩⟩
    · have h1 : ¬ (L.length : Int) = 0 := by omega
      have HNE : Hid (¬ (clL G = [] ∧ 0 < c)) := hid_intro (fun h => h0 (by rw [HLL.out, h.1]; rfl))
      by_cases h30 : 30 ≤ n
      · have h31 : (30 : Int) ≤ (n : Int) := by omega
        obtain ⟨⟨rl, rk⟩, rf⟩ := HR2.out
        have p0 : w2.cell? ⟨w.heap.size + 1 + 1, 0, none⟩ = some (.string ⟨#[]⟩) := rk 0 (by simp)
        have f0 : w2.frozen? ⟨w.heap.size + 1 + 1, 0, none⟩ = false := rf 0 (by simp)
        have p1 : w2.cell? ⟨w.heap.size + 1 + 1, 1, none⟩ = some (.int .i64 0) := rk 1 (by simp)
        have f1 : w2.frozen? ⟨w.heap.size + 1 + 1, 1, none⟩ = false := rf 1 (by simp)
        have p2 : w2.cell? ⟨w.heap.size + 1 + 1, 2, none⟩ = some (.int .i64 0) := rk 2 (by simp)
        have f2 : w2.frozen? ⟨w.heap.size + 1 + 1, 2, none⟩ = false := rf 2 (by simp)
        have p3 : w2.cell? ⟨w.heap.size + 1 + 1, 3, none⟩ = some (.slice none 0 0) := rk 3 (by simp)
        have f3 : w2.frozen? ⟨w.heap.size + 1 + 1, 3, none⟩ = false := rf 3 (by simp)
        have hg := StR.stL_grown (w.heap.size + 1 + 1) [.string ⟨#[]⟩, .int .i64 0, .int .i64 0, .slice none 0 0] 0 w2
        have HBF := hid_intro (HB2.out.grown hg HB2.out.size (fun k e => by simp only [Option.some.injEq] at e; omega))
        have HOF := hid_intro (OwG.own_low (OwG.own_keepG HO2.out hg HLT.out) HLT2.out)
        simp only [StR.stL, Nat.zero_add, Nat.reduceAdd] at HBF HOF
        clear hg rk rf
        go_wp2_with fail
        refine bodyPost_ret (v := .tuple #[.agg #[.string ⟨#[]⟩, .int .i64 0, .int .i64 0, .slice none 0 0], .iface 84 (.agg #[.int .i64 9])]) (by simp [results, Tryz.results30, go_sem, p0, p1, p2, p3]) rfl ⟨HBF.out, .inl ⟨9, rfl, .inr (.inr ⟨HOV.out, HNE.out, h30, rfl⟩)⟩⟩
      · have h31 : ¬ (30 : Int) ≤ (n : Int) := by omega
        obtain ⟨⟨rl, rk⟩, rf⟩ := HR2.out
        have p0 : w2.cell? ⟨w.heap.size + 1 + 1, 0, none⟩ = some (.string ⟨#[]⟩) := rk 0 (by simp)
        have f0 : w2.frozen? ⟨w.heap.size + 1 + 1, 0, none⟩ = false := rf 0 (by simp)
        have p1 : w2.cell? ⟨w.heap.size + 1 + 1, 1, none⟩ = some (.int .i64 0) := rk 1 (by simp)
        have f1 : w2.frozen? ⟨w.heap.size + 1 + 1, 1, none⟩ = false := rf 1 (by simp)
        have p2 : w2.cell? ⟨w.heap.size + 1 + 1, 2, none⟩ = some (.int .i64 0) := rk 2 (by simp)
        have f2 : w2.frozen? ⟨w.heap.size + 1 + 1, 2, none⟩ = false := rf 2 (by simp)
        have p3 : w2.cell? ⟨w.heap.size + 1 + 1, 3, none⟩ = some (.slice none 0 0) := rk 3 (by simp)
        have f3 : w2.frozen? ⟨w.heap.size + 1 + 1, 3, none⟩ = false := rf 3 (by simp)
        have hg := StR.stL_grown (w.heap.size + 1 + 1) [.string a, .int .i64 m, .int .i64 c, .slice la L.length lc] 0 w2
        have HBF := hid_intro (HB2.out.grown hg HB2.out.size (fun k e => by simp only [Option.some.injEq] at e; omega))
        have HOF := hid_intro (OwG.own_low (OwG.own_keepG HO2.out hg HLT.out) HLT2.out)
        simp only [StR.stL, Nat.zero_add, Nat.reduceAdd] at HBF HOF
        clear hg rk rf
        go_wp2_with fail
        refine bodyPost_ret (v := .tuple #[.agg #[.string a, .int .i64 m, .int .i64 c, .slice la L.length lc], .nilIface]) (by simp [results, Tryz.results30, go_sem, p0, p1, p2, p3]) rfl ⟨HBF.out, .inr ⟨HOV.out, HNE.out, by omega, la, lc, by rw [HLL.out], by rw [← HLL.out]; exact HOF.out⟩⟩
end LedR
end Go.Proofs.YtakeiankhfdjdaaGreatDoor
namespace Go.Proofs.YtakeiankhfdjdaaGreatDoor
open Go.ChangeShapes Go.WideShapes Go.ChangeAt Go.RowKit
set_option linter.unusedVariables false
namespace LedR
open LinR RowG LtR NetR DocR
def LkW (rb : Nat) (a : ByteArray) (m : Int) (c : Nat) (mb : Option Nat) (W : World) : Prop := (Instr.lookup 55 (.map (some rb)) (.agg #[.string a, .int .i64 m]) false).run Tryz.prog W = .ok (.agg #[.int .i64 c, .map mb]) W
def LnW (mb : Option Nat) (F : List N) (W : World) : Prop := Calls Tryz.prog 56 #[.map mb] W fun e w' => ∃ v, e = .returned v ∧ w'.ownsRow W.heap.size 53 2 v F.length (cellsAll N.cells F) ∧ Below W.heap.size W w'
theorem rows_look (rb M : Nat) (ds : List D) (a : ByteArray) (m : Int) (W1 : World) (h : RowsM rb M ds W1) (hR : LRight ds) (hg : Good a m) (hsz : ∀ d ∈ ds, ∀ e ∈ d.ls, e.i.size ≤ 1048576) :
    ∃ mb, ∀ W, Below W1.heap.size W1 W → LkW rb a m (cnt ds a m) mb W ∧ LnW mb ((net ds a m).filter nz) W := by
  obtain ⟨Dm, f, h1, h2, h3, h4⟩ := h
  by_cases hc : cnt ds a m = 0
  · have hhas : Maps.has Dm (kP a m) = false := by
      cases hh : Maps.has Dm (kP a m)
      · rfl
      · obtain ⟨a', m', g, e, hn⟩ := h2 _ hh
        obtain ⟨rfl, rfl⟩ := kP_inj hg g e
        exact absurd hc hn
    refine ⟨none, fun W hb => ⟨?_, ?_⟩⟩
    · obtain ⟨v, ps, hrun, hv⟩ := (omap_below h1 hb).lookup keyedP Tryz.underlying55 (zeroR _) (zd := .held (.agg #[.int .i64 0, .map none])) (zp := []) rfl (keyP hg)
      obtain rfl : v = .agg #[.int .i64 0, .map none] := by
        rw [Maps.atKey_of_not_has hhas] at hv
        simp [RV] at hv
        exact hv.1
      unfold LkW
      rw [hrun, hc]
      rfl
    · unfold LnW
      rw [net_zero hc]
      exact lines_nil W
  · obtain ⟨_, hatk, _, _, Dn, M', hM', hNO, hNN⟩ := h3 a m hc
    have h30 := hR.1
    have hnl := (net_facts (ds := ds) ds.length (Nat.le_refl _) hR.2.1 a m).2.1
    rw [List.take_length] at hnl
    refine ⟨some (f a m), fun W hb => ⟨?_, ?_⟩⟩
    · obtain ⟨v, ps, hrun, hv⟩ := (omap_below h1 hb).lookup keyedP Tryz.underlying55 (zeroR _) (zd := .held (.agg #[.int .i64 0, .map none])) (zp := []) rfl (keyP hg)
      obtain rfl : v = .agg #[.int .i64 (cnt ds a m : Nat), .map (some (f a m))] := by
        rw [hatk] at hv
        simp [RV] at hv
        exact hv.1
      unfold LkW
      rw [hrun]
    · unfold LnW
      exact lines_any (f a m) M' Dn (net ds a m) W (omap_below hNO hb) (by omega) hNN (by omega) (net_size (a := a) (m := m) ds [] hsz (fun y h => by cases h))
/-- What nextDoc hands back, whatever it is. -/
def NxS (G : List N) (c n : Nat) (a : ByteArray) (m : Int) (base top : Nat) (s : ByteArray) (x y : Int) (la : Option Addr) (ll lc : Nat) (ev : Value) (w' : World) : Prop :=
  (∃ cd : Int, ev = .iface 84 (.agg #[.int .i64 cd]) ∧ ((ovB G = false ∧ cd = 12) ∨ (ovB G = true ∧ clL G = [] ∧ 0 < c ∧ cd = 7) ∨ (ovB G = true ∧ ¬ (clL G = [] ∧ 0 < c) ∧ 30 ≤ n ∧ cd = 9)))
  ∨ (ovB G = true ∧ ¬ (clL G = [] ∧ 0 < c) ∧ n < 30 ∧ ev = .nilIface ∧ s = a ∧ x = m ∧ y = c ∧ ll = (clL G).length ∧ w'.ownsRow base 53 2 (.slice la ll lc) ll (cellsAll N.cells (clL G)) ∧ ∀ b, (Value.slice la ll lc).ownBlock = some b → b < top)
theorem NxR.form {G : List N} {c n : Nat} {a : ByteArray} {m : Int} {w : World} {e : Ending} {w' : World} (h : NxR G c n a m w e w') : ∃ s x y la ll lc ev, e = .returned (.tuple #[.agg #[.string s, .int .i64 x, .int .i64 y, .slice la ll lc], ev]) ∧ NxS G c n a m w.heap.size w'.heap.size s x y la ll lc ev w' ∧ Below w.heap.size w w' := by
  obtain ⟨hb, ⟨cd, rfl, h⟩ | ⟨h1, h2, h3, la, lc, rfl, ho⟩⟩ := h
  · exact ⟨_, _, _, _, _, _, _, rfl, .inl ⟨cd, rfl, h⟩, hb⟩
  · exact ⟨_, _, _, _, _, _, _, rfl, .inr ⟨h1, h2, h3, rfl, rfl, rfl, rfl, rfl, ho, fun b h => (ho.lt b h).2⟩, hb⟩
theorem NxS.below {G : List N} {c n : Nat} {a : ByteArray} {m : Int} {base top : Nat} {s : ByteArray} {x y : Int} {la : Option Addr} {ll lc : Nat} {ev : Value} {w' w2 : World} (h : NxS G c n a m base top s x y la ll lc ev w') (hb : Below w'.heap.size w' w2) : NxS G c n a m base top s x y la ll lc ev w2 := by
  rcases h with h | ⟨h1, h2, h3, h4, h5, h6, h7, h8, h9, h10⟩
  · exact .inl h
  · exact .inr ⟨h1, h2, h3, h4, h5, h6, h7, h8, own_below h9 hb, h10⟩
theorem NxS.grown {G : List N} {c n : Nat} {a : ByteArray} {m : Int} {base top : Nat} {s : ByteArray} {x y : Int} {la : Option Addr} {ll lc : Nat} {ev : Value} {w' w2 : World} (h : NxS G c n a m base top s x y la ll lc ev w') {g : Nat} (hg : w'.grownBy w2 (some g)) (hx : g < base ∨ top ≤ g) : NxS G c n a m base top s x y la ll lc ev w2 := by
  rcases h with h | ⟨h1, h2, h3, h4, h5, h6, h7, h8, h9, h10⟩
  · exact .inl h
  · refine .inr ⟨h1, h2, h3, h4, h5, h6, h7, h8, OwG.own_keepO h9 hg (fun b hb => ?_), h10⟩
    have p1 := (h9.lt b hb).1
    have p2 := h10 b hb
    simp only [ne_eq, Option.some.injEq]
    omega
theorem rise_of {es : List N} (h : SRight es) : Rise es := right_rise h
theorem num_of {es : List N} (h : SRight es) : ∀ e ∈ es, -1000000000000000 ≤ e.n ∧ e.n ≤ 1000000000000000 := by
  intro x hx
  obtain ⟨i, hi, rfl⟩ := List.getElem_of_mem hx
  have := (h.2 i hi).2
  rw [show es.getD i N.zero = es[i] by simp [List.getD, hi]] at this
  unfold lOk nOk at this
  simp only [Bool.and_eq_true, decide_eq_true_eq] at this
  exact this.2.1
/-- What is held while the next document is laid. -/
def SI (WB : World) (pb rb : Nat) (a : ByteArray) (m : Int) (c : Nat) (mb : Option Nat) (W : World) : Prop := Below WB.heap.size WB W ∧ pb < W.heap.size ∧ W.cell? ⟨pb, 0, none⟩ = some (.string a) ∧ W.cell? ⟨pb, 1, none⟩ = some (.int .i64 m) ∧ (Instr.lookup 55 (.map (some rb)) (.agg #[.string a, .int .i64 m]) false).run Tryz.prog W = .ok (.agg #[.int .i64 c, .map mb]) W
theorem si_of {WB : World} {pb rb : Nat} {a : ByteArray} {m : Int} {c : Nat} {mb : Option Nat} (h : BlkW pb [.string a, .int .i64 m] WB) (hl : ∀ W, Below WB.heap.size WB W → LkW rb a m c mb W) : ∀ W, Below WB.heap.size WB W → SI WB pb rb a m c mb W := fun W hb =>
  ⟨hb, by have := hb.size; have := h.1.1; omega, (hb.cell (p := ⟨pb, 0, none⟩) h.1.1).trans (h.1.2 0 (by simp)), (hb.cell (p := ⟨pb, 1, none⟩) h.1.1).trans (h.1.2 1 (by simp)), hl W hb⟩
end LedR
end Go.Proofs.YtakeiankhfdjdaaGreatDoor
namespace Go.Proofs.YtakeiankhfdjdaaGreatDoor
open Go.ChangeShapes Go.WideShapes Go.ChangeAt Go.RowKit
set_option linter.unusedVariables false
namespace MarkR
theorem hid_intro {p : Prop} (h : p) : Hid p := h
theorem conv_m (w : World) (z : Int) : (convert 95 9 (.slice (some ⟨w.heap.size, 0, none⟩) 1 1)).run Tryz.prog (w.alloc (Obj.cells #[.int .u8 z] 5)) = .ok (.string (strOfNums [z])) (w.alloc (Obj.cells #[.int .u8 z] 5)) := by
  refine run_convert_bytes_arg _ 95 5 Tryz.underlying95 Tryz.underlying5 w.heap.size 0 1 1 _ rfl ?_ 9 Tryz.underlying9
  intro i hi
  match i, hi with
  | 0, _ => simp [go_sem]
/-- The digits put ahead of a text. -/
def mk : Nat → Nat → ByteArray → ByteArray
  | 0, _, out => out
  | f + 1, k, out => if k = 0 then out else mk f (k / 10) (strOfNums [48 + ((k % 10 : Nat) : Int)] ++ out)
def mT (k : Nat) : ByteArray := (⟨#[109]⟩ : ByteArray) ++ mk 9 k ⟨#[]⟩
set_option maxRecDepth 100000 in
set_option maxHeartbeats 4000000 in
theorem mark_any (K : Nat) (h0 : 1 ≤ K) (h : K < 100000000) (w : World) : Calls Tryz.prog 36 #[.int .i64 K] w fun e w' => e = .returned (.string (mT K)) ∧ Below w.heap.size w w' := by
  have h1 : ¬ (K : Int) ≤ 0 := by omega
  have HT : Hid (mT K = (⟨#[109]⟩ : ByteArray) ++ mk 9 K ⟨#[]⟩) := rfl
  generalize mT K = R at *
  go_enter Tryz.func36, Tryz.ntmps36
  go_wp2_with fail
  go_loopw [0, 3] (fun x z wr => ∃ (f k : Nat) (out : ByteArray), x = .int .i64 (k : Int) ∧ z = .string out ∧ k < 10 ^ f ∧ f ≤ 9 ∧ Hid (mk 9 K ⟨#[]⟩ = mk f k out) ∧ out.size + f = 9 ∧ Hid (Below w.heap.size w wr)) (fun x _ _ => (intOf x).toNat)
  case atStart => exact ⟨9, K, ⟨#[]⟩, rfl, rfl, by omega, by omega, rfl, rfl, hid_intro (Below.refl _ _)⟩
  case round =>
    obtain ⟨f, k, out, rfl, rfl, hk, hf, HD, hz, HB⟩ := hrel
    by_cases hk0 : k = 0
    · subst hk0
      have HO : Hid (R = (⟨#[109]⟩ : ByteArray) ++ out) := hid_intro (by rw [HT.out, HD.out]; cases f <;> simp [mk])
      have q1 : ¬ 9223372036854775807 < 1 + out.size := by omega
      go_wp2_with fail
      go_ret
      exact ⟨ret_str HO.out.symm, HB.out⟩
    · obtain ⟨g, rfl⟩ : ∃ g, f = g + 1 := ⟨f - 1, by rcases f with _ | f; simp at hk; omega; omega⟩
      have hk2 : k / 10 < 10 ^ g := by rw [Nat.pow_succ] at hk; omega
      have HD2 : Hid (mk 9 K ⟨#[]⟩ = mk g (k / 10) (strOfNums [48 + ((k % 10 : Nat) : Int)] ++ out)) := hid_intro (by rw [HD.out, mk, if_neg hk0])
      have hkb : k < 1000000000 := by
        have : 10 ^ (g + 1) ≤ 10 ^ 9 := Nat.pow_le_pow_right (by omega) hf
        omega
      have k1 : (0 : Int) < (k : Int) := by omega
      have e1 : (k : Int) % 10 = ((k % 10 : Nat) : Int) := by omega
      have e2 : (k : Int) / 10 = ((k / 10 : Nat) : Int) := by omega
      have e3 : (k : Int).tmod 10 = ((k % 10 : Nat) : Int) := by rw [Int.tmod_eq_emod_of_nonneg (by omega)]; omega
      have e4 : (k : Int).tdiv 10 = ((k / 10 : Nat) : Int) := by rw [Int.tdiv_eq_ediv_of_nonneg (by omega)]; omega
      have d10 : k % 10 < 10 := by omega
      have dk : k / 10 < k := by omega
      have hC : (strOfNums [48 + ((k % 10 : Nat) : Int)]).size = 1 := strOfNums_size _
      have hcv := conv_m wr (48 + ((k % 10 : Nat) : Int))
      generalize k % 10 = d at *
      generalize k / 10 = q at *
      generalize strOfNums [48 + (d : Int)] = T at *
      have q1 : ¬ 9223372036854775807 < T.size + out.size := by omega
      have HDk := hid_intro dk
      clear dk hk HD
      go_wp2_with fail
      go_roundw
      case rel => exact ⟨g, q, T ++ out, rfl, rfl, hk2, by omega, HD2, by rw [ByteArray.size_append]; omega, hid_intro (HB.out.alloc HB.out.size _)⟩
      case measure => simp [intOf]; have := HDk.out; omega
end MarkR
end Go.Proofs.YtakeiankhfdjdaaGreatDoor
namespace Go.Proofs.YtakeiankhfdjdaaGreatDoor
open Go.ChangeShapes Go.WideShapes Go.ChangeAt Go.RowKit
set_option linter.unusedVariables false
namespace LinR
open RowG
open EvtR (Pt)
open MarkR (mk mT mark_any)
/-- A marked line. -/
def mN (k : Nat) : N := ⟨mT k, ((k + 1 : Nat) : Int)⟩
/-- The cells of marked lines. -/
def mC (o : Nat) : Option Value := (mN (1 + 2 * (o / 2))).cells[o % 2]?
theorem mC_at (i x : Nat) (hx : x < 2) : mC (i * 2 + x) = (mN (1 + 2 * i)).cells[x]? := by
  have e1 : (i * 2 + x) / 2 = i := by omega
  have e2 : (i * 2 + x) % 2 = x := by omega
  unfold mC
  rw [e1, e2]
theorem rgrown {w w' : World} (hb : Below w.heap.size w w') (row : Option Nat) : w.grownBy w' row := ⟨hb.os, hb.tape, hb.output, hb.size, fun k hk _ => hb.block k hk⟩
theorem gtrans {w w1 w2 : World} {g : Option Nat} (h1 : w.grownBy w1 g) (h2 : w1.grownBy w2 g) : w.grownBy w2 g :=
  ⟨h2.os.trans h1.os, h2.tape.trans h1.tape, h2.output.trans h1.output, Nat.le_trans h1.size h2.size, fun k hk hne => (h2.block k (by have := h1.size; omega) hne).trans (h1.block k hk hne)⟩
/-- One more cell marked. -/
theorem mark_step {g m i : Nat} {w0 w : World} (hp : Pt g m w) (x : Nat) (hm : Wr mC (i * 2 + x) g w) (hg : w0.grownBy w (some g)) (hx : x < 2) (hj : i * 2 + x < m) (v : Value) (hv : (mN (1 + 2 * i)).cells[x]? = some v) :
    Pt g m (w.setCell ⟨g, i * 2 + x, none⟩ v) ∧ Wr mC (i * 2 + (x + 1)) g (w.setCell ⟨g, i * 2 + x, none⟩ v) ∧ w0.grownBy (w.setCell ⟨g, i * 2 + x, none⟩ v) (some g) :=
  ⟨hp.set _ _, hm.more hp hj v ((mC_at i x hx).trans hv), gtrans hg (grown_set _ g _ _)⟩
set_option maxRecDepth 100000 in
set_option maxHeartbeats 4000000 in
theorem marks_any (g n cap : Nat) (w : World) (hn : n ≤ 1048576) (h0 : Pt g (n * 2) w) :
    Calls Tryz.prog 14 #[.slice (some ⟨g, 0, none⟩) n cap, .int .i64 1] w fun e w' => e = .returned (.int .i64 (1 + 2 * n : Nat)) ∧ Pt g (n * 2) w' ∧ Wr mC (n * 2) g w' ∧ w.grownBy w' (some g) := by
  have HP := hid_intro h0
  have HT : Hid (∀ (z : Int) (K : Nat), z = K → 1 ≤ K → K < 100000000 → ∀ w, Calls Tryz.prog 36 #[.int .i64 z] w fun e w' => e = .returned (.string (mT K)) ∧ Below w.heap.size w w') := hid_intro (fun z K e h0 h w => by subst e; exact mark_any K h0 h w)
  clear h0
  go_enter Tryz.func14, Tryz.ntmps14
  go_wp2_with fail
  go_loopw [5, 1] (fun x z wr => ∃ i : Nat, x = .int .i64 (i : Int) ∧ z = .int .i64 (1 + 2 * (i : Int)) ∧ i ≤ n ∧ Hid (Pt g (n * 2) wr) ∧ Hid (Wr mC (i * 2) g wr) ∧ Hid (w.grownBy wr (some g))) (fun x _ _ => n - (intOf x).toNat)
  case atStart => exact ⟨0, rfl, rfl, by omega, HP, hid_intro (fun o ho => absurd ho (by omega)), hid_intro ⟨rfl, rfl, rfl, Nat.le_refl _, fun _ _ _ => rfl⟩⟩
  case round =>
    obtain ⟨i, rfl, rfl, hi, HP, HM, HG⟩ := hrel
    by_cases hin : i = n
    · subst hin
      go_wp2_with fail
      go_ret
      exact ⟨by go_num, HP.out, HM.out, HG.out⟩
    · have h1 : (i : Int) < (n : Int) := by omega
      go_wp2_with fail
      refine (HT.out _ (1 + 2 * i) (by push_cast; omega) (by omega) (by omega) _).mono ?_
      rintro e w1 ⟨rfl, hb⟩
      have HP1 := hid_intro (HP.out.below hb)
      have HM1 := hid_intro (HM.out.below HP.out hb)
      have HG1 := hid_intro (gtrans HG.out (rgrown hb _))
      obtain ⟨v0, c0⟩ := HP1.out.has (i * 2) (by omega)
      have f0 := HP1.out.free (i * 2) (by omega)
      obtain ⟨v1, c1⟩ := HP1.out.has (i * 2 + 1) (by omega)
      have f1 := HP1.out.free (i * 2 + 1) (by omega)
      have HS := hid_intro (mark_step (i := i) HP1.out 0 HM1.out HG1.out (by omega) (by omega) (.string (mT (1 + 2 * i))) rfl)
      have HS2 := hid_intro (mark_step (i := i) HS.out.1 1 HS.out.2.1 HS.out.2.2 (by omega) (by omega) (.int .i64 (1 + 2 * (i : Int) + 1)) (by simp [mN, N.cells]))
      clear hb HP HM HG HP1 HM1 HG1 HS
      go_wp2_with fail
      go_roundw
      case rel => exact ⟨i + 1, by go_num, by go_num, by omega, hid_intro HS2.out.1, hid_intro (by have := HS2.out.2.1; rw [show (i + 1) * 2 = i * 2 + (1 + 1) by omega]; exact this), hid_intro HS2.out.2.2⟩
      case measure => simp [intOf]; omega
theorem mC_cell {n i g : Nat} {w : World} (h : Wr mC (n * 2) g w) (hi : i < n) (x : Nat) (hx : x < 2) : w.cell? ⟨g, i * 2 + x, none⟩ = (mN (1 + 2 * i)).cells[x]? :=
  (h (i * 2 + x) (by omega)).trans (mC_at i x hx)
/-- One line's marks, in a world grown. -/
def BoxM (w : World) (g o : Nat) (t0 : ByteArray) (n : Int) (w' : World) : Prop := Below w.heap.size w w' ∧ g < w'.heap.size ∧ w'.cell? ⟨g, o, none⟩ = some (.string t0) ∧ w'.cell? ⟨g, o + 1, none⟩ = some (.int .i64 n)
theorem BoxM.below {w w1 w2 : World} {g o : Nat} {t0 : ByteArray} {n : Int} (h : BoxM w g o t0 n w1) (hb : Below w1.heap.size w1 w2) : BoxM w g o t0 n w2 := by
  obtain ⟨h0, hl, c0, c1⟩ := h
  have c := fun x => hb.cell (p := ⟨g, x, none⟩) hl
  exact ⟨h0.trans (hb.mono h0.size), by have := hb.size; omega, (c _).trans c0, (c _).trans c1⟩
theorem BoxM.drew {w w1 : World} {g o : Nat} {t0 : ByteArray} {n : Int} (h : BoxM w g o t0 n w1) : BoxM w g o t0 n w1.drew := ⟨h.1.drew, h.2⟩
set_option maxRecDepth 100000 in
set_option maxHeartbeats 4000000 in
theorem held_any (g n cap : Nat) (w : World) (hn : n ≤ 1048576) (h0 : Pt g (n * 2) w) (hm : Wr mC (n * 2) g w) :
    Calls Tryz.prog 60 #[.slice (some ⟨g, 0, none⟩) n cap, .int .i64 1] w fun e w' => e = .returned (.int .i64 (1 + 2 * n : Nat)) ∧ Below w.heap.size w w' := by
  have HP := hid_intro h0
  have HM := hid_intro hm
  clear h0 hm
  go_enter Tryz.func60, Tryz.ntmps60
  go_wp2_with fail
  go_loopw [5, 1] (fun x z wr => ∃ i : Nat, x = .int .i64 (i : Int) ∧ z = .int .i64 (1 + 2 * (i : Int)) ∧ i ≤ n ∧ Hid (Below w.heap.size w wr)) (fun x _ _ => n - (intOf x).toNat)
  case atStart => exact ⟨0, rfl, rfl, by omega, hid_intro (Below.refl _ _)⟩
  case round =>
    obtain ⟨i, rfl, rfl, hi, HB⟩ := hrel
    by_cases hin : i = n
    · subst hin
      go_wp2_with fail
      go_ret
      exact ⟨by go_num, HB.out⟩
    · have h1 : (i : Int) < (n : Int) := by omega
      have HC : Hid (∀ x, x < 2 → wr.cell? ⟨g, i * 2 + x, none⟩ = (mN (1 + 2 * i)).cells[x]?) := hid_intro (fun x hx => (HB.out.cell (p := ⟨g, i * 2 + x, none⟩) HP.out.lt).trans (mC_cell HM.out (by omega) x hx))
      have q0 : wr.cell? ⟨g, i * 2, none⟩ = some (.string (mT (1 + 2 * i))) := HC.out 0 (by omega)
      have q1 : wr.cell? ⟨g, i * 2 + 1, none⟩ = some (.int .i64 (1 + 2 * (i : Int) + 1)) := (HC.out 1 (by omega)).trans (by simp [mN, N.cells])
      have HT0 : Hid (∀ w, Calls Tryz.prog 36 #[.int .i64 (1 + 2 * (i : Int))] w fun e w' => e = .returned (.string (mT (1 + 2 * i))) ∧ Below w.heap.size w w') := hid_intro (fun w => by have := mark_any (1 + 2 * i) (by omega) (by omega) w; rw [show ((1 + 2 * i : Nat) : Int) = 1 + 2 * (i : Int) by omega] at this; exact this)
      clear HC
      generalize mT (1 + 2 * i) = T0 at *
      have HS0 : Hid (BoxM w g (i * 2) T0 (1 + 2 * (i : Int) + 1) wr) := hid_intro ⟨HB.out, by have := HB.out.size; have := HP.out.lt; omega, q0, q1⟩
      have HS1 := hid_intro HS0.out.drew
      go_wp2_with fail
      go_region_held3 (fun w' => Below w.heap.size w w' ∧ g < w'.heap.size ∧ w'.cell? ⟨g, i * 2, none⟩ = some (.string T0) ∧ w'.cell? ⟨g, i * 2 + 1, none⟩ = some (.int .i64 (1 + 2 * (i : Int) + 1))) (first | assumption | (exact HS0.out) | (exact HS1.out) | (exact BoxM.below (w := w) (g := g) (o := i * 2) (t0 := T0) (n := 1 + 2 * (i : Int) + 1) (by assumption) hb))
        (first | (go_at_call 36; refine (HT0.out _).mono ?_; rintro e w' ⟨rfl, hb⟩))
      rename_i hS
      replace HS0 := hid_intro hS
      have q0 := HS0.out.2.2.1
      have q1 := HS0.out.2.2.2
      clear hS HS1
      have HB2 := hid_intro HS0.out.1
      go_wp2_with fail
      go_roundw
      case rel => exact ⟨i + 1, by go_num, by go_num, by omega, HB2⟩
      case measure => simp [intOf]; omega
set_option maxHeartbeats 4000000 in
theorem marks_nil (ao : Option Addr) (cap : Nat) (w : World) : Calls Tryz.prog 14 #[.slice ao 0 cap, .int .i64 1] w fun e w' => e = .returned (.int .i64 1) ∧ Below w.heap.size w w' := by
  go_enter Tryz.func14, Tryz.ntmps14
  go_wp2_with fail
  go_loopw [5, 1] (fun x z wr => x = .int .i64 0 ∧ z = .int .i64 1 ∧ Hid (Below w.heap.size w wr)) (fun x _ _ => 0)
  case atStart => exact ⟨rfl, rfl, hid_intro (Below.refl _ _)⟩
  case round =>
    obtain ⟨rfl, rfl, HB⟩ := hrel
    go_wp2_with fail
    go_ret
    exact ⟨rfl, HB.out⟩
set_option maxHeartbeats 4000000 in
theorem held_nil (ao : Option Addr) (cap : Nat) (w : World) : Calls Tryz.prog 60 #[.slice ao 0 cap, .int .i64 1] w fun e w' => e = .returned (.int .i64 1) ∧ Below w.heap.size w w' := by
  go_enter Tryz.func60, Tryz.ntmps60
  go_wp2_with fail
  go_loopw [5, 1] (fun x z wr => x = .int .i64 0 ∧ z = .int .i64 1 ∧ Hid (Below w.heap.size w wr)) (fun x _ _ => 0)
  case atStart => exact ⟨rfl, rfl, hid_intro (Below.refl _ _)⟩
  case round =>
    obtain ⟨rfl, rfl, HB⟩ := hrel
    go_wp2_with fail
    go_ret
    exact ⟨rfl, HB.out⟩
/-- The marks stand in the list. -/
def Mkd (ao : Option Addr) (n : Nat) (w : World) : Prop := n = 0 ∨ ∃ g, ao = some ⟨g, 0, none⟩ ∧ Pt g (n * 2) w ∧ Wr mC (n * 2) g w
theorem Mkd.below {ao : Option Addr} {n : Nat} {w w' : World} (h : Mkd ao n w) (hb : Below w.heap.size w w') : Mkd ao n w' := by
  rcases h with h | ⟨g, rfl, hp, hm⟩
  · exact .inl h
  · exact .inr ⟨g, rfl, hp.below hb, hm.below hp hb⟩
theorem heldL (ao : Option Addr) (n cap : Nat) (w : World) (hn : n ≤ 1048576) (h : Mkd ao n w) :
    Calls Tryz.prog 60 #[.slice ao n cap, .int .i64 1] w fun e w' => e = .returned (.int .i64 (1 + 2 * n : Nat)) ∧ Below w.heap.size w w' := by
  rcases h with rfl | ⟨g, rfl, hp, hm⟩
  · exact held_nil ao cap w
  · exact held_any g n cap w hn hp hm
theorem markL (base : Nat) (ao : Option Addr) (l : List N) (cap : Nat) (w : World) (top : Nat) (hn : l.length ≤ 1048576) (h : MadeG 2 N.cells N.zero base ao l w) (ht : l.length = 0 ∨ ∀ g, ao = some ⟨g, 0, none⟩ → g < top) :
    Calls Tryz.prog 14 #[.slice ao l.length cap, .int .i64 1] w fun e w' => e = .returned (.int .i64 (1 + 2 * l.length : Nat)) ∧ Mkd ao l.length w' ∧ ∃ g, w.grownBy w' g ∧ ∀ x, g = some x → base ≤ x ∧ x < top := by
  rcases Nat.eq_zero_or_pos l.length with h0 | h0
  · rw [h0]
    exact (marks_nil ao cap w).mono fun e w' h => ⟨h.1, .inl rfl, none, rgrown h.2 _, by simp⟩
  · obtain ⟨g, rfl, hg, hp⟩ := h.own.resolve_left (by omega)
    have htp := ht.resolve_left (by omega) g rfl
    exact (marks_any g l.length cap w hn hp).mono fun e w' h => ⟨h.1, .inr ⟨g, rfl, h.2.1, h.2.2.1⟩, some g, h.2.2.2, fun x hx => by cases hx; exact ⟨hg, htp⟩⟩
end LinR
end Go.Proofs.YtakeiankhfdjdaaGreatDoor
namespace Go.Proofs.YtakeiankhfdjdaaGreatDoor
open Go.ChangeShapes Go.WideShapes Go.ChangeAt Go.RowKit
set_option linter.unusedVariables false
namespace LinR
open RowG
open EvtR (Pt)
open MarkR (mk mT mark_any)
/-- What is left of a size. -/
def szH (lf : Int) (es : List N) : Int := if (es.length : Int) + szL es ≤ lf then lf - (es.length : Int) - szL es else -1
theorem szH_small {lf : Int} {es : List N} (h1 : lf ≤ 1048576) (h : ¬ szH lf es < 0) : es.length ≤ 1048576 ∧ (∀ e ∈ es, e.i.size ≤ 1048576) ∧ 0 ≤ szH lf es ∧ szH lf es ≤ 1048576 := by
  unfold szH at *
  have hn := szL_nn es
  by_cases q : (es.length : Int) + szL es ≤ lf
  · rw [if_pos q]
    exact ⟨by omega, fun e he => by have := szL_mem he; omega, by omega, by omega⟩
  · rw [if_neg q] at h
    exact absurd (by omega) h
set_option maxHeartbeats 4000000 in
theorem szs_left (lf : Int) (h0 : 0 ≤ lf) (h1 : lf ≤ 1048576) (ao : Option Addr) (cap : Nat) (es : List N) (w : World) (hm : es.length ≤ maxLen) (hI : Lis ao es w) (hw : ∀ e ∈ es, e.i.size ≤ maxLen) :
    Calls Tryz.prog 5 #[.slice ao es.length cap, .int .i64 lf] w fun e w' => e = .returned (.int .i64 (szH lf es)) ∧ Below w.heap.size w w' := by
  obtain ⟨len, hlen⟩ : ∃ len, len = es.length := ⟨_, rfl⟩
  rw [← hlen] at hm ⊢
  have HZ := hid_intro hlen
  have HI := hid_intro hI
  have HW := hid_intro hw
  have HR : Hid (szH lf es = if (es.length : Int) + szL es ≤ lf then lf - (es.length : Int) - szL es else -1) := rfl
  generalize szH lf es = R at *
  unfold maxLen at hm
  clear hI hw hlen
  by_cases hbig : lf < (len : Int)
  · have hl2 : lf - (len : Int) < 0 := by omega
    have HN : Hid (R = -1) := hid_intro (by rw [HR.out, if_neg]; have := szL_nn es; have := HZ.out; omega)
    go_enter Tryz.func5, Tryz.ntmps5
    go_wp2_with fail
    go_ret
    exact ⟨ret_int HN.out.symm, Below.refl _ _⟩
  have hl : (len : Int) ≤ 1048576 := by omega
  have hll : (len : Int) ≤ lf := by omega
  have hl2 : ¬ lf - (len : Int) < 0 := by omega
  go_enter Tryz.func5, Tryz.ntmps5
  go_wp2_with fail
  go_loopw [5, 1] (fun x y w' => ∃ (j : Nat) (L : Int), j ≤ len ∧ x = .int .i64 j ∧ y = .int .i64 L ∧ 0 ≤ L ∧ L ≤ 1048576 ∧ Hid (L = lf - (len : Int) - szL (es.take j)) ∧ Hid (Below w.heap.size w w')) (fun x y w' => len - (intOf x).toNat)
  case atStart => exact ⟨0, lf - (len : Int), Nat.zero_le _, rfl, rfl, by omega, by omega, hid_intro (by simp [szL]), hid_intro (Below.refl _ _)⟩
  case round =>
    obtain ⟨j, L, hj, rfl, rfl, l0, l1, HL, HB⟩ := hrel
    by_cases hlt : j < len
    · obtain ⟨b, off, rfl, hbl, c0, c1⟩ := (HI.out.below HB.out).at j (by have := HZ.out; omega)
      have HS := hid_intro (szL_take es j (by have := HZ.out; omega))
      have q1 := HW.out _ (getD_mem (z := N.zero) es j (by have := HZ.out; omega))
      generalize es.getD j N.zero = E1 at *
      obtain ⟨i, n⟩ := E1
      have HS : Hid (szL (es.take (j + 1)) = szL (es.take j) + (i.size : Int)) := HS
      have HC := hid_intro (fun w => sz_any i n L q1 l0 l1 w)
      have hlt2 : (j : Int) < (len : Int) := by omega
      clear q1
      by_cases hs : (i.size : Int) ≤ L
      · rw [if_pos hs] at HC
        have HN : Hid (L - (i.size : Int) = lf - (len : Int) - szL (es.take (j + 1))) := hid_intro (by rw [HS.out, HL.out]; omega)
        have r0 : 0 ≤ L - (i.size : Int) := by omega
        have r1 : L - (i.size : Int) ≤ 1048576 := by omega
        generalize L - (i.size : Int) = L2 at *
        clear hs
        go_wp2_with fail
        refine (HC.out _).mono ?_
        rintro e w1 ⟨rfl, hb⟩
        have HB1 := hid_intro (HB.out.trans (hb.mono HB.out.size))
        clear hb HB c0 c1
        have r2 : ¬ L2 < 0 := by omega
        go_wp2_with fail
        go_roundw
        case rel => exact ⟨j + 1, L2, by omega, by go_num, rfl, r0, r1, HN, HB1⟩
        case measure => simp [intOf]; omega
      · rw [if_neg hs] at HC
        have HN : Hid (R = -1) := hid_intro (by rw [HR.out, if_neg]; have := szL_le es (j + 1); have := HS.out; have := HL.out; have := HZ.out; omega)
        go_wp2_with fail
        refine (HC.out _).mono ?_
        rintro e w1 ⟨rfl, hb⟩
        have HB1 := hid_intro (HB.out.trans (hb.mono HB.out.size))
        clear hb HB c0 c1
        go_wp2_with fail
        go_ret
        exact ⟨ret_int HN.out.symm, HB1.out⟩
    · obtain rfl : j = len := by omega
      have HN : Hid (R = L) := hid_intro (by
        have e := HL.out
        rw [List.take_of_length_le (by have := HZ.out; omega)] at e
        rw [HR.out, if_pos (by have := HZ.out; omega)]; have := HZ.out; omega)
      go_wp2_with fail
      go_ret
      exact ⟨ret_int HN.out.symm, HB.out⟩
set_option maxRecDepth 100000 in
set_option maxHeartbeats 4000000 in
theorem marksK (K : Nat) (hK0 : 1 ≤ K) (hK : K ≤ 6000000) (g n cap : Nat) (w : World) (hn : n ≤ 1048576) (h0 : Pt g (n * 2) w) :
    Calls Tryz.prog 14 #[.slice (some ⟨g, 0, none⟩) n cap, .int .i64 K] w fun e w' => e = .returned (.int .i64 (K + 2 * n : Nat)) ∧ w.grownBy w' (some g) ∧ ∀ n', Pt g n' w → Pt g n' w' := by
  have HP := hid_intro h0
  have HT : Hid (∀ (z : Int) (K : Nat), z = K → 1 ≤ K → K < 100000000 → ∀ w, Calls Tryz.prog 36 #[.int .i64 z] w fun e w' => e = .returned (.string (mT K)) ∧ Below w.heap.size w w') := hid_intro (fun z K e h0 h w => by subst e; exact mark_any K h0 h w)
  clear h0
  go_enter Tryz.func14, Tryz.ntmps14
  go_wp2_with fail
  go_loopw [5, 1] (fun x z wr => ∃ i : Nat, x = .int .i64 (i : Int) ∧ z = .int .i64 ((K : Int) + 2 * (i : Int)) ∧ i ≤ n ∧ Hid (Pt g (n * 2) wr) ∧ Hid (w.grownBy wr (some g)) ∧ Hid (∀ n', Pt g n' w → Pt g n' wr)) (fun x _ _ => n - (intOf x).toNat)
  case atStart => exact ⟨0, rfl, by go_num, by omega, HP, hid_intro ⟨rfl, rfl, rfl, Nat.le_refl _, fun _ _ _ => rfl⟩, hid_intro (fun _ h => h)⟩
  case round =>
    obtain ⟨i, rfl, rfl, hi, HP, HG, HA⟩ := hrel
    by_cases hin : i = n
    · subst hin
      go_wp2_with fail
      go_ret
      exact ⟨by go_num, HG.out, HA.out⟩
    · have h1 : (i : Int) < (n : Int) := by omega
      go_wp2_with fail
      refine (HT.out _ (K + 2 * i) (by push_cast; omega) (by omega) (by omega) _).mono ?_
      rintro e w1 ⟨rfl, hb⟩
      have HP1 := hid_intro (HP.out.below hb)
      have HG1 := hid_intro (gtrans HG.out (rgrown hb _))
      have HA2 : Hid (∀ n', Pt g n' w → Pt g n' ((w1.setCell ⟨g, i * 2, none⟩ (.string (mT (K + 2 * i)))).setCell ⟨g, i * 2 + 1, none⟩ (.int .i64 ((K : Int) + 2 * (i : Int) + 1)))) := hid_intro (fun n' h => (((HA.out n' h).below hb).set _ _).set _ _)
      obtain ⟨v0, c0⟩ := HP1.out.has (i * 2) (by omega)
      have f0 := HP1.out.free (i * 2) (by omega)
      obtain ⟨v1, c1⟩ := HP1.out.has (i * 2 + 1) (by omega)
      have f1 := HP1.out.free (i * 2 + 1) (by omega)
      have HS := hid_intro (gtrans (gtrans HG1.out (grown_set _ g (i * 2) (.string (mT (K + 2 * i))))) (grown_set _ g (i * 2 + 1) (.int .i64 ((K : Int) + 2 * (i : Int) + 1))))
      have HP2 := hid_intro ((HP1.out.set (i * 2) (.string (mT (K + 2 * i)))).set (i * 2 + 1) (.int .i64 ((K : Int) + 2 * (i : Int) + 1)))
      clear hb HP HG HG1 HP1 HA
      go_wp2_with fail
      go_roundw
      case rel => exact ⟨i + 1, by go_num, by go_num, by omega, HP2, HS, HA2⟩
      case measure => simp [intOf]; omega
set_option maxHeartbeats 4000000 in
theorem marks0K (K : Int) (ao : Option Addr) (cap : Nat) (w : World) : Calls Tryz.prog 14 #[.slice ao 0 cap, .int .i64 K] w fun e w' => e = .returned (.int .i64 K) ∧ Below w.heap.size w w' := by
  go_enter Tryz.func14, Tryz.ntmps14
  go_wp2_with fail
  go_loopw [5, 1] (fun x z wr => x = .int .i64 0 ∧ z = .int .i64 K ∧ Hid (Below w.heap.size w wr)) (fun x _ _ => 0)
  case atStart => exact ⟨rfl, rfl, hid_intro (Below.refl _ _)⟩
  case round =>
    obtain ⟨rfl, rfl, HB⟩ := hrel
    go_wp2_with fail
    go_ret
    exact ⟨rfl, HB.out⟩
theorem pt_far {p q n : Nat} {W W' : World} (h : Pt p n W) (hg : W.grownBy W' (some q)) (hne : p ≠ q) : Pt p n W' := by
  have e := hg.block p h.lt (by simp; omega)
  exact ⟨by have := hg.size; have := h.lt; omega, fun o ho => by obtain ⟨v, hv⟩ := h.has o ho; exact ⟨v, (World.cell?_of_block (a := ⟨p, o, none⟩) e).trans hv⟩, fun o ho => (World.frozen?_of_block (a := ⟨p, o, none⟩) e).trans (h.free o ho)⟩
theorem made_far {base x : Nat} {bo : Option Addr} {D : List N} {w w' : World} (h : MadeG 2 N.cells N.zero base bo D w) (hg : w.grownBy w' (some x)) (hx : x < base) : MadeG 2 N.cells N.zero base bo D w' :=
  ⟨Rws.grown h.rws hg (h.own.imp id (fun ⟨g, h1, h2, h3⟩ b' off' e hr => by
      rw [h1] at e
      simp only [Option.some.injEq, Addr.mk.injEq] at e
      cases hr
      omega)), h.own.imp id (fun ⟨g, h1, h2, h3⟩ => ⟨g, h1, h2, pt_far h3 hg (by omega)⟩)⟩
theorem lis_far {ao : Option Addr} {es : List N} {w0 w w' : World} {row : Option Nat} (h0 : Lis ao es w0) (h : Lis ao es w) (hg : w.grownBy w' row) (hb : ∀ x, row = some x → w0.heap.size ≤ x) : Lis ao es w' := by
  refine Rws.grown h hg ?_
  rcases h0 with h1 | ⟨b, off, rfl, hl, _⟩
  · exact .inl h1
  · refine .inr (fun b' off' e hr => ?_)
    have := hb b' hr.symm
    simp only [Option.some.injEq, Addr.mk.injEq] at e
    omega
theorem made_top {base : Nat} {ao : Option Addr} {l : List N} {w : World} (h : MadeG 2 N.cells N.zero base ao l w) : l.length = 0 ∨ ∀ g, ao = some ⟨g, 0, none⟩ → g < w.heap.size :=
  h.own.imp id (fun ⟨g, h1, h2, h3⟩ g' e => by rw [h1] at e; cases e; exact h3.lt)
end LinR
end Go.Proofs.YtakeiankhfdjdaaGreatDoor
namespace Go.Proofs.YtakeiankhfdjdaaGreatDoor
open Go.ChangeShapes Go.WideShapes Go.ChangeAt Go.RowKit
set_option linter.unusedVariables false
namespace LinR
open RowG
open EvtR (Pt cell_put cell_far)
open MarkR (mk mT mark_any)
/-- The marks from K on stand in the first lines of a block. -/
def LM (K n g : Nat) (w : World) : Prop := g < w.heap.size ∧ ∀ i, i < n → w.cell? ⟨g, i * 2, none⟩ = some (.string (mT (K + 2 * i))) ∧ w.cell? ⟨g, i * 2 + 1, none⟩ = some (.int .i64 ((K : Int) + 2 * (i : Int) + 1))
theorem LM.block {K n g : Nat} {w w' : World} (h : LM K n g w) (hs : w.heap.size ≤ w'.heap.size) (hb : w'.heap[g]? = w.heap[g]?) : LM K n g w' :=
  ⟨Nat.lt_of_lt_of_le h.1 hs, fun i hi => ⟨(World.cell?_of_block (a := ⟨g, i * 2, none⟩) hb).trans (h.2 i hi).1, (World.cell?_of_block (a := ⟨g, i * 2 + 1, none⟩) hb).trans (h.2 i hi).2⟩⟩
theorem LM.below {K n g : Nat} {w w' : World} (h : LM K n g w) (hb : Below w.heap.size w w') : LM K n g w' := h.block hb.size (hb.block g h.1)
theorem LM.more {K i g m : Nat} {w : World} (h : LM K i g w) (hp : Pt g m w) (hm : i * 2 + 1 < m) : LM K (i + 1) g ((w.setCell ⟨g, i * 2, none⟩ (.string (mT (K + 2 * i)))).setCell ⟨g, i * 2 + 1, none⟩ (.int .i64 ((K : Int) + 2 * (i : Int) + 1))) := by
  have p1 := hp.set (i * 2) (.string (mT (K + 2 * i)))
  refine ⟨by have := h.1; simpa using this, fun j hj => ?_⟩
  by_cases e : j = i
  · subst e
    exact ⟨by rw [cell_far _ _ (by omega), cell_put hp _ (by omega)], cell_put p1 _ hm _⟩
  · obtain ⟨h1, h2⟩ := h.2 j (by omega)
    exact ⟨by rw [cell_far _ _ (by omega), cell_far _ _ (by omega)]; exact h1, by rw [cell_far _ _ (by omega), cell_far _ _ (by omega)]; exact h2⟩
set_option maxRecDepth 100000 in
set_option maxHeartbeats 4000000 in
theorem marksM (K : Nat) (hK0 : 1 ≤ K) (hK : K ≤ 6000000) (g n cap : Nat) (w : World) (hn : n ≤ 1048576) (h0 : Pt g (n * 2) w) :
    Calls Tryz.prog 14 #[.slice (some ⟨g, 0, none⟩) n cap, .int .i64 K] w fun e w' => e = .returned (.int .i64 (K + 2 * n : Nat)) ∧ w.grownBy w' (some g) ∧ (∀ n', Pt g n' w → Pt g n' w') ∧ LM K n g w' := by
  have HP := hid_intro h0
  have HT : Hid (∀ (z : Int) (K : Nat), z = K → 1 ≤ K → K < 100000000 → ∀ w, Calls Tryz.prog 36 #[.int .i64 z] w fun e w' => e = .returned (.string (mT K)) ∧ Below w.heap.size w w') := hid_intro (fun z K e h0 h w => by subst e; exact mark_any K h0 h w)
  have HM0 : Hid (LM K 0 g w) := hid_intro ⟨h0.lt, fun i hi => absurd hi (by omega)⟩
  clear h0
  go_enter Tryz.func14, Tryz.ntmps14
  go_wp2_with fail
  go_loopw [5, 1] (fun x z wr => ∃ i : Nat, x = .int .i64 (i : Int) ∧ z = .int .i64 ((K : Int) + 2 * (i : Int)) ∧ i ≤ n ∧ Hid (Pt g (n * 2) wr) ∧ Hid (w.grownBy wr (some g)) ∧ Hid (∀ n', Pt g n' w → Pt g n' wr) ∧ Hid (LM K i g wr)) (fun x _ _ => n - (intOf x).toNat)
  case atStart => exact ⟨0, rfl, by go_num, by omega, HP, hid_intro ⟨rfl, rfl, rfl, Nat.le_refl _, fun _ _ _ => rfl⟩, hid_intro (fun _ h => h), HM0⟩
  case round =>
    clear HM0
    obtain ⟨i, rfl, rfl, hi, HP, HG, HA, HM⟩ := hrel
    by_cases hin : i = n
    · subst hin
      go_wp2_with fail
      go_ret
      exact ⟨by go_num, HG.out, HA.out, HM.out⟩
    · have h1 : (i : Int) < (n : Int) := by omega
      go_wp2_with fail
      refine (HT.out _ (K + 2 * i) (by push_cast; omega) (by omega) (by omega) _).mono ?_
      rintro e w1 ⟨rfl, hb⟩
      have HP1 := hid_intro (HP.out.below hb)
      have HG1 := hid_intro (gtrans HG.out (rgrown hb _))
      have HA2 : Hid (∀ n', Pt g n' w → Pt g n' ((w1.setCell ⟨g, i * 2, none⟩ (.string (mT (K + 2 * i)))).setCell ⟨g, i * 2 + 1, none⟩ (.int .i64 ((K : Int) + 2 * (i : Int) + 1)))) := hid_intro (fun n' h => (((HA.out n' h).below hb).set _ _).set _ _)
      have HM2 := hid_intro ((HM.out.below hb).more HP1.out (by omega))
      obtain ⟨v0, c0⟩ := HP1.out.has (i * 2) (by omega)
      have f0 := HP1.out.free (i * 2) (by omega)
      obtain ⟨v1, c1⟩ := HP1.out.has (i * 2 + 1) (by omega)
      have f1 := HP1.out.free (i * 2 + 1) (by omega)
      have HS := hid_intro (gtrans (gtrans HG1.out (grown_set _ g (i * 2) (.string (mT (K + 2 * i))))) (grown_set _ g (i * 2 + 1) (.int .i64 ((K : Int) + 2 * (i : Int) + 1))))
      have HP2 := hid_intro ((HP1.out.set (i * 2) (.string (mT (K + 2 * i)))).set (i * 2 + 1) (.int .i64 ((K : Int) + 2 * (i : Int) + 1)))
      clear hb HP HG HG1 HP1 HA HM
      go_wp2_with fail
      go_roundw
      case rel => exact ⟨i + 1, by go_num, by go_num, by omega, HP2, HS, HA2, HM2⟩
      case measure => simp [intOf]; omega
set_option maxRecDepth 100000 in
set_option maxHeartbeats 4000000 in
theorem heldM (K : Nat) (hK0 : 1 ≤ K) (hK : K ≤ 6000000) (g n cap : Nat) (w : World) (hn : n ≤ 1048576) (hm : LM K n g w) :
    Calls Tryz.prog 60 #[.slice (some ⟨g, 0, none⟩) n cap, .int .i64 K] w fun e w' => e = .returned (.int .i64 (K + 2 * n : Nat)) ∧ Below w.heap.size w w' := by
  have HM := hid_intro hm
  have HT : Hid (∀ (z : Int) (K : Nat), z = K → 1 ≤ K → K < 100000000 → ∀ w, Calls Tryz.prog 36 #[.int .i64 z] w fun e w' => e = .returned (.string (mT K)) ∧ Below w.heap.size w w') := hid_intro (fun z K e h0 h w => by subst e; exact mark_any K h0 h w)
  clear hm
  go_enter Tryz.func60, Tryz.ntmps60
  go_wp2_with fail
  go_loopw [5, 1] (fun x z wr => ∃ i : Nat, x = .int .i64 (i : Int) ∧ z = .int .i64 ((K : Int) + 2 * (i : Int)) ∧ i ≤ n ∧ Hid (Below w.heap.size w wr)) (fun x _ _ => n - (intOf x).toNat)
  case atStart => exact ⟨0, rfl, by go_num, by omega, hid_intro (Below.refl _ _)⟩
  case round =>
    obtain ⟨i, rfl, rfl, hi, HB⟩ := hrel
    by_cases hin : i = n
    · subst hin
      go_wp2_with fail
      go_ret
      exact ⟨by go_num, HB.out⟩
    · have h1 : (i : Int) < (n : Int) := by omega
      obtain ⟨q0, q1⟩ := (HM.out.below HB.out).2 i (by omega)
      have HT0 := hid_intro (fun w => HT.out ((K : Int) + 2 * (i : Int)) (K + 2 * i) (by push_cast; omega) (by omega) (by omega) w)
      generalize mT (K + 2 * i) = T0 at *
      have HS0 : Hid (BoxM w g (i * 2) T0 ((K : Int) + 2 * (i : Int) + 1) wr) := hid_intro ⟨HB.out, by have := HB.out.size; have := HM.out.1; omega, q0, q1⟩
      have HS1 := hid_intro HS0.out.drew
      go_wp2_with fail
      go_region_held3 (fun w' => Below w.heap.size w w' ∧ g < w'.heap.size ∧ w'.cell? ⟨g, i * 2, none⟩ = some (.string T0) ∧ w'.cell? ⟨g, i * 2 + 1, none⟩ = some (.int .i64 ((K : Int) + 2 * (i : Int) + 1))) (first | assumption | (exact HS0.out) | (exact HS1.out) | (exact BoxM.below (w := w) (g := g) (o := i * 2) (t0 := T0) (n := (K : Int) + 2 * (i : Int) + 1) (by assumption) hb))
        (first | (go_at_call 36; refine (HT0.out _).mono ?_; rintro e w' ⟨rfl, hb⟩))
      rename_i hS
      replace HS0 := hid_intro hS
      have q0 := HS0.out.2.2.1
      have q1 := HS0.out.2.2.2
      clear hS HS1
      have HB2 := hid_intro HS0.out.1
      go_wp2_with fail
      go_roundw
      case rel => exact ⟨i + 1, by go_num, by go_num, by omega, HB2⟩
      case measure => simp [intOf]; omega
set_option maxHeartbeats 4000000 in
theorem held0K (K : Int) (ao : Option Addr) (cap : Nat) (w : World) : Calls Tryz.prog 60 #[.slice ao 0 cap, .int .i64 K] w fun e w' => e = .returned (.int .i64 K) ∧ Below w.heap.size w w' := by
  go_enter Tryz.func60, Tryz.ntmps60
  go_wp2_with fail
  go_loopw [5, 1] (fun x z wr => x = .int .i64 0 ∧ z = .int .i64 K ∧ Hid (Below w.heap.size w wr)) (fun x _ _ => 0)
  case atStart => exact ⟨rfl, rfl, hid_intro (Below.refl _ _)⟩
  case round =>
    obtain ⟨rfl, rfl, HB⟩ := hrel
    go_wp2_with fail
    go_ret
    exact ⟨rfl, HB.out⟩
end LinR
end Go.Proofs.YtakeiankhfdjdaaGreatDoor
namespace Go.Proofs.YtakeiankhfdjdaaGreatDoor
open Go.ChangeShapes Go.WideShapes Go.ChangeAt Go.RowKit
set_option linter.unusedVariables false
namespace ChG
open EvtR (Pt)
/-- Only blocks of S have changed. -/
structure Chg (S : Nat → Prop) (w w' : World) : Prop where
  os : w'.os = w.os
  tape : w'.tape = w.tape
  output : w'.output = w.output
  size : w.heap.size ≤ w'.heap.size
  block : ∀ b, b < w.heap.size → ¬ S b → w'.heap[b]? = w.heap[b]?
theorem Chg.refl (S : Nat → Prop) (w : World) : Chg S w w := ⟨rfl, rfl, rfl, Nat.le_refl _, fun _ _ _ => rfl⟩
theorem Chg.below {S : Nat → Prop} {w w1 w2 : World} (h : Chg S w w1) (hb : Below w1.heap.size w1 w2) : Chg S w w2 :=
  ⟨hb.os.trans h.os, hb.tape.trans h.tape, hb.output.trans h.output, Nat.le_trans h.size hb.size, fun b h1 h2 => (hb.block b (by have := h.size; omega)).trans (h.block b h1 h2)⟩
theorem Chg.grown {S : Nat → Prop} {x : Nat} {w w1 w2 : World} (h : Chg S w w1) (hg : w1.grownBy w2 (some x)) (hx : S x) : Chg S w w2 :=
  ⟨hg.os.trans h.os, hg.tape.trans h.tape, hg.output.trans h.output, Nat.le_trans h.size hg.size, fun b h1 h2 => (hg.block b (by have := h.size; omega) (by intro e; simp only [Option.some.injEq] at e; subst e; exact h2 hx)).trans (h.block b h1 h2)⟩
theorem Chg.trans {S : Nat → Prop} {w w1 w2 : World} (h : Chg S w w1) (h2 : Chg S w1 w2) : Chg S w w2 :=
  ⟨h2.os.trans h.os, h2.tape.trans h.tape, h2.output.trans h.output, Nat.le_trans h.size h2.size, fun b h1 hs => (h2.block b (by have := h.size; omega) hs).trans (h.block b h1 hs)⟩
theorem Chg.wide {S S' : Nat → Prop} {w w' : World} (h : Chg S w w') (hs : ∀ b, S b → S' b) : Chg S' w w' :=
  ⟨h.os, h.tape, h.output, h.size, fun b h1 h2 => h.block b h1 (fun q => h2 (hs b q))⟩
theorem Chg.of_below {S : Nat → Prop} {w w' : World} (hb : Below w.heap.size w w') : Chg S w w' := (Chg.refl S w).below hb
/-- Nothing below the blocks of S has changed. -/
theorem Chg.out {S : Nat → Prop} {B : Nat} {a w w' : World} (h : Chg S w w') (hb : Below B a w) (hB : ∀ b, S b → B ≤ b) (ha : B ≤ a.heap.size) : Below B a w' :=
  ⟨h.os.trans hb.os, h.tape.trans hb.tape, h.output.trans hb.output, Nat.le_trans hb.size h.size, fun k hk => (h.block k (by have := hb.size; omega) (fun q => by have := hB k q; omega)).trans (hb.block k hk)⟩
theorem pt_block {p n : Nat} {W W' : World} (h : Pt p n W) (hs : W.heap.size ≤ W'.heap.size) (e : W'.heap[p]? = W.heap[p]?) : Pt p n W' :=
  ⟨by have := h.lt; omega, fun o ho => by obtain ⟨v, hv⟩ := h.has o ho; exact ⟨v, (World.cell?_of_block (a := ⟨p, o, none⟩) e).trans hv⟩, fun o ho => (World.frozen?_of_block (a := ⟨p, o, none⟩) e).trans (h.free o ho)⟩
theorem Chg.pt {S : Nat → Prop} {p n : Nat} {W W' : World} (h : Chg S W W') (hp : Pt p n W) (hn : ¬ S p) : Pt p n W' := pt_block hp h.size (h.block p hp.lt hn)
end ChG
end Go.Proofs.YtakeiankhfdjdaaGreatDoor
namespace Go.Proofs.YtakeiankhfdjdaaGreatDoor
open Go.ChangeShapes Go.WideShapes Go.ChangeAt Go.RowKit Go.Deep
set_option linter.unusedVariables false
namespace LedR
open LinR RowG LtR NetR DocR
open EvtR (Pt cell_put cell_far)
open MarkR (mk mT mark_any)
/-- How many lines there are, and how many marks. -/
def lns (ds : List D) : Nat := (ds.map (fun d => d.ls.length)).sum
def tot (ds : List D) : Nat := (ds.map (fun d => 3 + 2 * d.ls.length)).sum
theorem tot_eq (ds : List D) : tot ds = 3 * ds.length + 2 * lns ds := by
  unfold tot lns
  induction ds with
  | nil => rfl
  | cons d ds ih => simp only [List.map_cons, List.sum_cons, List.length_cons]; omega
theorem tot_more (ds : List D) (k : Nat) (h : k < ds.length) : tot (ds.take (k + 1)) = tot (ds.take k) + (3 + 2 * (ds.getD k D.zero).ls.length) := by
  unfold tot
  rw [take_more (z := D.zero) ds k h, List.map_append, List.sum_append]
  simp
theorem tot_le (ds : List D) (k : Nat) : tot (ds.take k) ≤ tot ds := by
  have e : tot ds = tot (ds.take k) + tot (ds.drop k) := by
    unfold tot
    rw [← List.sum_append, ← List.map_append, List.take_append_drop]
  omega
theorem dsz_le {l : Int} {x : D} (h : ¬ dszR l x < 0) : dszR l x ≤ l - (x.ls.length : Int) := by
  unfold dszR LinR.szF at *
  have := szL_nn x.ls
  split at h
  · split at h
    · rename_i h1 h2
      rw [if_pos h1, if_pos h2]
      omega
    · exact absurd (by omega) h
  · exact absurd (by omega) h
theorem lns_le : ∀ {ds : List D} {l : Int}, ¬ dsS l ds < 0 → (lns ds : Int) ≤ l
  | [], l, h => by simp only [dsS] at h; simp [lns]; omega
  | x :: ds, l, h => by
    rw [dsS] at h
    by_cases q : dszR l x < 0
    · rw [if_pos q] at h; exact absurd (by omega) h
    · rw [if_neg q] at h
      have h1 := dsz_le q
      have h2 := lns_le h
      have e : lns (x :: ds) = x.ls.length + lns ds := by simp [lns]
      rw [e]
      omega
theorem tot_small {ds : List D} (h : ¬ szDR ds < 0) : tot ds ≤ 5300000 := by
  have hl := (szDR_small h).1
  unfold szDR at h
  rw [tot_eq]
  split at h
  · exact absurd (by omega) h
  · have := lns_le h
    omega
/-- Nothing outside has changed. -/
structure Ot (g top : Nat) (w w' : World) : Prop where
  os : w'.os = w.os
  tape : w'.tape = w.tape
  output : w'.output = w.output
  size : w.heap.size ≤ w'.heap.size
  block : ∀ b, b < w.heap.size → (b < g ∨ top ≤ b) → w'.heap[b]? = w.heap[b]?
theorem Ot.refl (g top : Nat) (w : World) : Ot g top w w := ⟨rfl, rfl, rfl, Nat.le_refl _, fun _ _ _ => rfl⟩
theorem Ot.below {g top : Nat} {w w1 w2 : World} (h : Ot g top w w1) (hb : Below w1.heap.size w1 w2) : Ot g top w w2 :=
  ⟨hb.os.trans h.os, hb.tape.trans h.tape, hb.output.trans h.output, Nat.le_trans h.size hb.size, fun b h1 h2 => (hb.block b (by have := h.size; omega)).trans (h.block b h1 h2)⟩
theorem Ot.grown {g top x : Nat} {w w1 w2 : World} (h : Ot g top w w1) (hg : w1.grownBy w2 (some x)) (hx : g ≤ x ∧ x < top) : Ot g top w w2 :=
  ⟨hg.os.trans h.os, hg.tape.trans h.tape, hg.output.trans h.output, Nat.le_trans h.size hg.size, fun b h1 h2 => (hg.block b (by have := h.size; omega) (by simp; omega)).trans (h.block b h1 h2)⟩
theorem Ot.lis {g top : Nat} {w0 w w' : World} {ao : Option Addr} {es : List N} (h : Ot g top w w') (h0 : Lis ao es w0) (hI : Lis ao es w) (hg : w0.heap.size ≤ g) (hs : w0.heap.size ≤ w.heap.size) : Lis ao es w' := by
  rcases hI with h1 | ⟨b, off, rfl, hl, hc⟩
  · exact .inl h1
  · rcases h0 with h1 | ⟨b0, off0, e, hl0, _⟩
    · exact .inl h1
    · simp only [Option.some.injEq, Addr.mk.injEq, and_true] at e
      obtain ⟨rfl, rfl⟩ := e
      have eb := h.block b hl (.inl (by omega))
      exact .inr ⟨b, off, rfl, by have := h.size; omega, fun j hj i hi => (World.cell?_of_block (a := ⟨b, off + j * 2 + i, none⟩) eb).trans (hc j hj i hi)⟩
theorem Ot.made {g top base : Nat} {w w' : World} {bo : Option Addr} {l : List N} (h : Ot g top w w') (hm : MadeG 2 N.cells N.zero base bo l w) (hb : top ≤ base) : MadeG 2 N.cells N.zero base bo l w' := by
  rcases hm.own with h0 | ⟨x, rfl, hx, hp⟩
  · obtain rfl : l = [] := List.length_eq_zero_iff.1 h0
    exact made_nil _ _ _
  · have eb := h.block x hp.lt (.inr (by omega))
    refine ⟨?_, .inr ⟨x, rfl, hx, by have := h.size; have := hp.lt; omega, fun o ho => by obtain ⟨v, hv⟩ := hp.has o ho; exact ⟨v, (World.cell?_of_block (a := ⟨x, o, none⟩) eb).trans hv⟩, fun o ho => (World.frozen?_of_block (a := ⟨x, o, none⟩) eb).trans (hp.free o ho)⟩⟩
    rcases hm.rws with h1 | ⟨b, off, e, hl, hc⟩
    · exact .inl h1
    · simp only [Option.some.injEq, Addr.mk.injEq, and_true] at e
      obtain ⟨rfl, rfl⟩ := e
      exact .inr ⟨x, 0, rfl, by have := h.size; omega, fun j hj i hi => (World.cell?_of_block (a := ⟨x, 0 + j * 2 + i, none⟩) eb).trans (hc j hj i hi)⟩
theorem Ot.out {g top B : Nat} {a w w' : World} (h : Ot g top w w') (hb : Below B a w) (hB : B ≤ g) (ha : B ≤ a.heap.size) : Below B a w' :=
  ⟨h.os.trans hb.os, h.tape.trans hb.tape, h.output.trans hb.output, Nat.le_trans hb.size h.size, fun k hk => (h.block k (by have := hb.size; omega) (.inl (by omega))).trans (hb.block k hk)⟩
/-- What is marked yet to be. -/
def DX (g top k : Nat) (ds : List D) (W : World) : Prop := ∀ j, j < k → ∃ la lc, W.cell? ⟨g, j * 4 + 3, none⟩ = some (.slice la (ds.getD j D.zero).ls.length lc) ∧ ((ds.getD j D.zero).ls.length = 0 ∨ ∃ g', la = some ⟨g', 0, none⟩ ∧ g < g' ∧ g' < top ∧ Pt g' ((ds.getD j D.zero).ls.length * 2) W)
theorem DW.dx {g k : Nat} {ds : List D} {W : World} (h : DW g k ds W) : DX g W.heap.size k ds W := fun j hj => by
  obtain ⟨la, lc, _, _, _, c3, _, hn⟩ := h j hj
  exact ⟨la, lc, c3, hn⟩
theorem DX.below {g top k : Nat} {ds : List D} {W W' : World} (h : DX g top k ds W) (hg : g < W.heap.size) (hb : Below W.heap.size W W') : DX g top k ds W' := fun j hj => by
  obtain ⟨la, lc, c3, hn⟩ := h j hj
  exact ⟨la, lc, (hb.cell (p := ⟨g, j * 4 + 3, none⟩) hg).trans c3, hn.imp id (fun ⟨g', e1, e2, e3, e4⟩ => ⟨g', e1, e2, e3, e4.below hb⟩)⟩
theorem DX.put {g top k o : Nat} {ds : List D} {W : World} (h : DX g top k ds W) (ho : o % 4 ≠ 3) (v : Value) : DX g top k ds (W.setCell ⟨g, o, none⟩ v) := fun j hj => by
  obtain ⟨la, lc, c3, hn⟩ := h j hj
  exact ⟨la, lc, (cell_far _ _ (by omega) v).trans c3, hn.imp id (fun ⟨g', e1, e2, e3, e4⟩ => ⟨g', e1, e2, e3, pt_any e4⟩)⟩
theorem DX.grown {g top k x : Nat} {ds : List D} {W W' : World} (h : DX g top k ds W) (hgl : g < W.heap.size) (hg : W.grownBy W' (some x)) (hx : g < x) (ha : ∀ n', Pt x n' W → Pt x n' W') : DX g top k ds W' := fun j hj => by
  obtain ⟨la, lc, c3, hn⟩ := h j hj
  have eb := hg.block g hgl (by simp; omega)
  refine ⟨la, lc, (World.cell?_of_block (a := ⟨g, j * 4 + 3, none⟩) eb).trans c3, hn.imp id (fun ⟨g', e1, e2, e3, e4⟩ => ⟨g', e1, e2, e3, ?_⟩)⟩
  by_cases e : g' = x
  · subst e; exact ha _ e4
  · exact pt_far e4 hg e
set_option maxRecDepth 100000 in
set_option maxHeartbeats 8000000 in
theorem markDs (g top cap : Nat) (ds : List D) (w : World) (hlen : ds.length ≤ 1048576) (hSm : ∀ d ∈ ds, d.Sm) (ht : tot ds ≤ 5300000) (htop : g < top) (hP : Pt g (ds.length * 4) w) (hD : DX g top ds.length ds w) :
    Calls Tryz.prog 13 #[.slice (some ⟨g, 0, none⟩) ds.length cap, .int .i64 1] w fun e w' => e = .returned (.int .i64 (1 + tot ds : Nat)) ∧ Ot g top w w' := by
  have HSm := hid_intro hSm
  have HT : Hid (∀ (z : Int) (K : Nat), z = K → 1 ≤ K → K < 100000000 → ∀ w, Calls Tryz.prog 36 #[.int .i64 z] w fun e w' => e = .returned (.string (mT K)) ∧ Below w.heap.size w w') := hid_intro (fun z K e h0 h w => by subst e; exact mark_any K h0 h w)
  have HTL := hid_intro (fun k => tot_le ds k)
  obtain ⟨len, hl⟩ : ∃ len, len = ds.length := ⟨_, rfl⟩
  have HEND : Hid (tot (ds.take len) = tot ds) := hid_intro (by rw [hl, List.take_length])
  rw [← hl] at hlen hP hD ⊢
  have HP := hid_intro hP
  have HD := hid_intro hD
  have HL := hid_intro hl
  clear hP hD hl hSm
  go_enter Tryz.func13, Tryz.ntmps13
  go_wp2_with fail
  go_loopw [5, 1] (fun x z wr => ∃ (i K : Nat), x = .int .i64 (i : Int) ∧ z = .int .i64 (K : Int) ∧ i ≤ len ∧ 1 ≤ K ∧ K ≤ 5300001 ∧ Hid (K = 1 + tot (ds.take i)) ∧ Hid (Pt g (len * 4) wr) ∧ Hid (DX g top len ds wr) ∧ Hid (Ot g top w wr)) (fun x _ _ => len - (intOf x).toNat)
  case atStart => exact ⟨0, 1, rfl, rfl, by omega, by omega, by omega, hid_intro (by simp [tot]), HP, HD, hid_intro (Ot.refl _ _ _)⟩
  case round =>
    obtain ⟨i, K, rfl, rfl, hi, k0, k1, HK, HP, HD, HO⟩ := hrel
    by_cases hin : i = len
    · subst hin
      have HE : Hid (K = 1 + tot ds) := hid_intro (by rw [HK.out, HEND.out])
      go_wp2_with fail
      go_ret
      exact ⟨by rw [HE.out]; rfl, HO.out⟩
    · have h1 : (i : Int) < (len : Int) := by omega
      have hil : i < ds.length := by have := HL.out; omega
      have HTM := hid_intro (tot_more ds i hil)
      have hk2 : K + (3 + 2 * (ds.getD i D.zero).ls.length) ≤ 5300001 := by have := HTM.out; have := HTL.out (i + 1); have := HK.out; omega
      have hgl := HP.out.lt
      go_wp2_with fail
      refine (HT.out _ K rfl (by omega) (by omega) _).mono ?_
      rintro e w1 ⟨rfl, hb⟩
      replace HD := hid_intro (HD.out.below hgl hb)
      replace HP := hid_intro (HP.out.below hb)
      replace HO := hid_intro (HO.out.below hb)
      clear hb hgl
      obtain ⟨v0, c0⟩ := HP.out.has (i * 4) (by omega)
      have f0 := HP.out.free (i * 4) (by omega)
      obtain ⟨v1, c1⟩ := HP.out.has (i * 4 + 1) (by omega)
      have f1 := HP.out.free (i * 4 + 1) (by omega)
      obtain ⟨v2, c2⟩ := HP.out.has (i * 4 + 2) (by omega)
      have f2 := HP.out.free (i * 4 + 2) (by omega)
      obtain ⟨la, lc, c3, hn⟩ := HD.out i (by omega)
      have HNL := hid_intro hn
      have hgl := HP.out.lt
      obtain ⟨W3, hW3⟩ : ∃ W3, W3 = ((w1.setCell ⟨g, i * 4, none⟩ (.string (mT K))).setCell ⟨g, i * 4 + 1, none⟩ (.int .i64 ((K : Int) + 1))).setCell ⟨g, i * 4 + 2, none⟩ (.int .i64 ((K : Int) + 1 + 1)) := ⟨_, rfl⟩
      have HD3 : Hid (DX g top len ds W3) := hid_intro (by rw [hW3]; exact ((HD.out.put (by omega) _).put (by omega) _).put (by omega) _)
      have HP3 : Hid (Pt g (len * 4) W3) := hid_intro (by rw [hW3]; exact ((HP.out.set _ _).set _ _).set _ _)
      have HO3 : Hid (Ot g top w W3) := hid_intro (by rw [hW3]; exact ((HO.out.grown (grown_set _ g _ _) ⟨Nat.le_refl _, htop⟩).grown (grown_set _ g _ _) ⟨Nat.le_refl _, htop⟩).grown (grown_set _ g _ _) ⟨Nat.le_refl _, htop⟩)
      have HN3 : Hid ((ds.getD i D.zero).ls.length = 0 ∨ ∃ g', la = some ⟨g', 0, none⟩ ∧ g < g' ∧ g' < top ∧ Pt g' ((ds.getD i D.zero).ls.length * 2) W3) := hid_intro (by rw [hW3]; exact hn.imp id (fun ⟨g', e1, e2, e3, e4⟩ => ⟨g', e1, e2, e3, pt_any (pt_any (pt_any e4))⟩))
      have hln := (HSm.out _ (getD_mem (z := D.zero) ds i hil)).2.1
      generalize hll : (ds.getD i D.zero).ls.length = ll at *
      generalize mT K = T0 at *
      clear hn HNL HD HP HO
      rcases HN3.out with h0 | ⟨g', rfl, e2, e3, e4⟩
      · subst h0
        have HMK := hid_intro (fun z => marks0K z la lc W3)
        go_wp2_with fail
        rw [← hW3]
        refine (HMK.out _).mono ?_
        rintro e w4 ⟨rfl, hb⟩
        replace HD3 := hid_intro (HD3.out.below HP3.out.lt hb)
        replace HP3 := hid_intro (HP3.out.below hb)
        replace HO3 := hid_intro (HO3.out.below hb)
        clear hb hW3
        go_wp2_with fail
        go_roundw
        case rel => exact ⟨i + 1, K + 3, by go_num, by go_num, by omega, by omega, by omega, hid_intro (by rw [HTM.out, HK.out]; omega), HP3, HD3, HO3⟩
        case measure => simp [intOf]; omega
      · have HMK : Hid (∀ z : Int, z = ((K + 3 : Nat) : Int) → Calls Tryz.prog 14 #[.slice (some ⟨g', 0, none⟩) ll lc, .int .i64 z] W3 fun e w' => e = .returned (.int .i64 ((K + 3) + 2 * ll : Nat)) ∧ W3.grownBy w' (some g') ∧ ∀ n', Pt g' n' W3 → Pt g' n' w') := hid_intro (fun z hz => by subst hz; exact marksK (K + 3) (by omega) (by omega) g' ll lc W3 hln e4)
        have HE4 := hid_intro (show g < g' ∧ g' < top from ⟨e2, e3⟩)
        clear e4
        go_wp2_with fail
        rw [← hW3]
        refine (HMK.out _ (by push_cast; omega)).mono ?_
        rintro e w4 ⟨rfl, hg4, ha4⟩
        have hgl3 := HP3.out.lt
        replace HD3 := hid_intro (HD3.out.grown hgl3 hg4 e2 ha4)
        replace HP3 := hid_intro (pt_far HP3.out hg4 (by omega))
        replace HO3 := hid_intro (HO3.out.grown hg4 ⟨by omega, e3⟩)
        clear hg4 ha4 hW3
        go_wp2_with fail
        go_roundw
        case rel => exact ⟨i + 1, K + 3 + 2 * ll, by go_num, by go_num, by omega, by omega, by omega, hid_intro (by rw [HTM.out, HK.out]; omega), HP3, HD3, HO3⟩
        case measure => simp [intOf]; omega
end LedR
end Go.Proofs.YtakeiankhfdjdaaGreatDoor
namespace Go.Proofs.YtakeiankhfdjdaaGreatDoor
open Go.ChangeShapes Go.WideShapes Go.ChangeAt Go.RowKit
set_option linter.unusedVariables false
namespace LedR
open LinR RowG DocR ChG
open EvtR (Pt cell_put cell_far)
open MarkR (mk mT mark_any)
/-- Documents whose blocks may be written, each once. -/
structure DsB (base g n : Nat) (la : Nat → Option Addr) (ln lc lb : Nat → Nat) (w : World) : Prop where
  low : base ≤ g
  pt : Pt g (n * 4) w
  cell : ∀ j, j < n → w.cell? ⟨g, j * 4 + 3, none⟩ = some (.slice (la j) (ln j) (lc j))
  own : ∀ j, j < n → ln j = 0 ∨ (la j = some ⟨lb j, 0, none⟩ ∧ base ≤ lb j ∧ lb j ≠ g ∧ Pt (lb j) (ln j * 2) w)
  apart : ∀ i j, i < n → j < n → i ≠ j → ln i ≠ 0 → ln j ≠ 0 → lb i ≠ lb j
/-- The blocks of documents. -/
def FtB (g n : Nat) (ln lb : Nat → Nat) (b : Nat) : Prop := b = g ∨ ∃ j, j < n ∧ ln j ≠ 0 ∧ b = lb j
/-- The first documents are marked. -/
def MkB (g n : Nat) (la : Nat → Option Addr) (ln lc lb Kx : Nat → Nat) (w : World) : Prop := g < w.heap.size ∧ ∀ j, j < n → w.cell? ⟨g, j * 4, none⟩ = some (.string (mT (Kx j))) ∧ w.cell? ⟨g, j * 4 + 1, none⟩ = some (.int .i64 ((Kx j : Int) + 1)) ∧ w.cell? ⟨g, j * 4 + 2, none⟩ = some (.int .i64 ((Kx j : Int) + 1 + 1)) ∧ w.cell? ⟨g, j * 4 + 3, none⟩ = some (.slice (la j) (ln j) (lc j)) ∧ (ln j = 0 ∨ (la j = some ⟨lb j, 0, none⟩ ∧ LM (Kx j + 3) (ln j) (lb j) w))
section
variable {base g n : Nat} {la : Nat → Option Addr} {ln lc lb Kx : Nat → Nat} {W W' : World}
theorem DsB.below (h : DsB base g n la ln lc lb W) (hb : Below W.heap.size W W') : DsB base g n la ln lc lb W' :=
  ⟨h.low, h.pt.below hb, fun j hj => (hb.cell (p := ⟨g, j * 4 + 3, none⟩) h.pt.lt).trans (h.cell j hj), fun j hj => (h.own j hj).imp id (fun ⟨e1, e2, e3, e4⟩ => ⟨e1, e2, e3, e4.below hb⟩), h.apart⟩
theorem DsB.put (h : DsB base g n la ln lc lb W) (o : Nat) (ho : o % 4 ≠ 3) (v : Value) : DsB base g n la ln lc lb (W.setCell ⟨g, o, none⟩ v) :=
  ⟨h.low, h.pt.set _ _, fun j hj => (cell_far _ _ (by omega) v).trans (h.cell j hj), fun j hj => (h.own j hj).imp id (fun ⟨e1, e2, e3, e4⟩ => ⟨e1, e2, e3, pt_any e4⟩), h.apart⟩
theorem DsB.grown (h : DsB base g n la ln lc lb W) {x : Nat} (hg : W.grownBy W' (some x)) (hx : x ≠ g) (ha : ∀ n', Pt x n' W → Pt x n' W') : DsB base g n la ln lc lb W' := by
  have eb := hg.block g h.pt.lt (by simp; exact fun e => hx e.symm)
  refine ⟨h.low, OwG.pt_row h.pt hg (by simp; exact fun e => hx e.symm), fun j hj => (World.cell?_of_block (a := ⟨g, j * 4 + 3, none⟩) eb).trans (h.cell j hj), fun j hj => (h.own j hj).imp id (fun ⟨e1, e2, e3, e4⟩ => ⟨e1, e2, e3, ?_⟩), h.apart⟩
  by_cases e : lb j = x
  · subst e; exact ha _ e4
  · exact OwG.pt_row e4 hg (by simp; exact e)
theorem MkB.below (h : MkB g n la ln lc lb Kx W) (hb : Below W.heap.size W W') : MkB g n la ln lc lb Kx W' := by
  refine ⟨by have := hb.size; have := h.1; omega, fun j hj => ?_⟩
  obtain ⟨h0, h1, h2, h3, h4⟩ := h.2 j hj
  have f := fun o => hb.cell (p := ⟨g, o, none⟩) h.1
  exact ⟨(f _).trans h0, (f _).trans h1, (f _).trans h2, (f _).trans h3, h4.imp id (fun ⟨e1, e2⟩ => ⟨e1, e2.below hb⟩)⟩
theorem MkB.chg {S : Nat → Prop} (h : MkB g n la ln lc lb Kx W) (hc : Chg S W W') (hg : ¬ S g) (hl : ∀ j, j < n → ln j ≠ 0 → ¬ S (lb j)) : MkB g n la ln lc lb Kx W' := by
  refine ⟨by have := hc.size; have := h.1; omega, fun j hj => ?_⟩
  obtain ⟨h0, h1, h2, h3, h4⟩ := h.2 j hj
  have eb := hc.block g h.1 hg
  have f := fun o => World.cell?_of_block (a := ⟨g, o, none⟩) eb
  refine ⟨(f _).trans h0, (f _).trans h1, (f _).trans h2, (f _).trans h3, ?_⟩
  by_cases e0 : ln j = 0
  · exact .inl e0
  · rcases h4 with h4 | ⟨e1, e2⟩
    · exact absurd h4 e0
    · exact .inr ⟨e1, e2.block hc.size (hc.block _ e2.1 (hl j hj e0))⟩
theorem MkB.put (h : MkB g n la ln lc lb Kx W) (hlb : ∀ j, j < n → ln j ≠ 0 → lb j ≠ g) (o : Nat) (ho : n * 4 ≤ o) (v : Value) : MkB g n la ln lc lb Kx (W.setCell ⟨g, o, none⟩ v) := by
  refine ⟨by have := h.1; simpa using this, fun j hj => ?_⟩
  obtain ⟨h0, h1, h2, h3, h4⟩ := h.2 j hj
  refine ⟨(cell_far _ _ (by omega) v).trans h0, (cell_far _ _ (by omega) v).trans h1, (cell_far _ _ (by omega) v).trans h2, (cell_far _ _ (by omega) v).trans h3, ?_⟩
  by_cases e0 : ln j = 0
  · exact .inl e0
  · rcases h4 with h4 | ⟨e1, e2⟩
    · exact absurd h4 e0
    · have eb := (grown_set W g o v).block (lb j) e2.1 (by simp; exact hlb j hj e0)
      exact .inr ⟨e1, e2.block (by simp) eb⟩
end
set_option maxRecDepth 100000 in
set_option maxHeartbeats 8000000 in
theorem markB (base g n cap : Nat) (la : Nat → Option Addr) (ln lc lb Kx : Nat → Nat) (w : World) (hn : n ≤ 1048576) (hK0 : 1 ≤ Kx 0) (hKM : ∀ j, j < n → Kx (j + 1) = Kx j + 3 + 2 * ln j) (hK : ∀ j, j ≤ n → 1 ≤ Kx j ∧ Kx j ≤ 5300001) (hln : ∀ j, j < n → ln j ≤ 1048576) (hD : DsB base g n la ln lc lb w) :
    Calls Tryz.prog 13 #[.slice (some ⟨g, 0, none⟩) n cap, .int .i64 (Kx 0 : Nat)] w fun e w' => e = .returned (.int .i64 (Kx n : Nat)) ∧ MkB g n la ln lc lb Kx w' ∧ Chg (FtB g n ln lb) w w' := by
  have HT : Hid (∀ (z : Int) (K : Nat), z = K → 1 ≤ K → K < 100000000 → ∀ w, Calls Tryz.prog 36 #[.int .i64 z] w fun e w' => e = .returned (.string (mT K)) ∧ Below w.heap.size w w') := hid_intro (fun z K e h0 h w => by subst e; exact mark_any K h0 h w)
  have HKM := hid_intro hKM
  have HK := hid_intro hK
  have HLN := hid_intro hln
  have HD := hid_intro hD
  have HM0 : Hid (MkB g 0 la ln lc lb Kx w) := hid_intro ⟨hD.pt.lt, fun j hj => absurd hj (by omega)⟩
  clear hKM hK hln hD hK0
  go_enter Tryz.func13, Tryz.ntmps13
  go_wp2_with fail
  go_loopw [5, 1] (fun x z wr => ∃ (i : Nat), x = .int .i64 (i : Int) ∧ z = .int .i64 ((Kx i : Nat) : Int) ∧ i ≤ n ∧ Hid (DsB base g n la ln lc lb wr) ∧ Hid (MkB g i la ln lc lb Kx wr) ∧ Hid (Chg (FtB g n ln lb) w wr)) (fun x _ _ => n - (intOf x).toNat)
  case atStart => exact ⟨0, rfl, rfl, by omega, HD, HM0, hid_intro (Chg.refl _ _)⟩
  case round =>
    clear HD HM0
    obtain ⟨i, rfl, rfl, hi, HD, HM, HC⟩ := hrel
    by_cases hin : i = n
    · subst hin
      go_wp2_with fail
      go_ret
      exact ⟨rfl, HM.out, HC.out⟩
    · have h1 : (i : Int) < (n : Int) := by omega
      have hil : i < n := by omega
      obtain ⟨k0, k1⟩ := HK.out i (by omega)
      have k2 := (HK.out (i + 1) (by omega)).2
      have km := HKM.out i hil
      have hll := HLN.out i hil
      have hgl := HD.out.pt.lt
      have HLB : Hid (∀ j, j < i → ln j ≠ 0 → lb j ≠ g) := hid_intro (fun j hj e0 => by
        rcases HD.out.own j (by omega) with h | ⟨_, _, h, _⟩
        · exact absurd h e0
        · exact h)
      go_wp2_with fail
      refine (HT.out _ (Kx i) rfl (by omega) (by omega) _).mono ?_
      rintro e w1 ⟨rfl, hb⟩
      replace HD := hid_intro (HD.out.below hb)
      replace HM := hid_intro (HM.out.below hb)
      replace HC := hid_intro (HC.out.below hb)
      clear hb hgl
      obtain ⟨v0, c0⟩ := HD.out.pt.has (i * 4) (by omega)
      have f0 := HD.out.pt.free (i * 4) (by omega)
      obtain ⟨v1, c1⟩ := HD.out.pt.has (i * 4 + 1) (by omega)
      have f1 := HD.out.pt.free (i * 4 + 1) (by omega)
      obtain ⟨v2, c2⟩ := HD.out.pt.has (i * 4 + 2) (by omega)
      have f2 := HD.out.pt.free (i * 4 + 2) (by omega)
      have c3 := HD.out.cell i hil
      have hgl := HD.out.pt.lt
      have hSg : FtB g n ln lb g := .inl rfl
      generalize hKi : Kx i = K at *
      obtain ⟨W3, hW3⟩ : ∃ W3, W3 = ((w1.setCell ⟨g, i * 4, none⟩ (.string (mT K))).setCell ⟨g, i * 4 + 1, none⟩ (.int .i64 ((K : Int) + 1))).setCell ⟨g, i * 4 + 2, none⟩ (.int .i64 ((K : Int) + 1 + 1)) := ⟨_, rfl⟩
      have HD3 : Hid (DsB base g n la ln lc lb W3) := hid_intro (by rw [hW3]; exact ((HD.out.put _ (by omega) _).put _ (by omega) _).put _ (by omega) _)
      have HM3 : Hid (MkB g i la ln lc lb Kx W3) := hid_intro (by rw [hW3]; exact ((HM.out.put HLB.out _ (by omega) _).put HLB.out _ (by omega) _).put HLB.out _ (by omega) _)
      have HC3 : Hid (Chg (FtB g n ln lb) w W3) := hid_intro (by rw [hW3]; exact ((HC.out.grown (grown_set _ g _ _) hSg).grown (grown_set _ g _ _) hSg).grown (grown_set _ g _ _) hSg)
      have p0 := HD.out.pt
      have p1 := p0.set (i * 4) (.string (mT K))
      have p2 := p1.set (i * 4 + 1) (.int .i64 ((K : Int) + 1))
      have HX3 : Hid (W3.cell? ⟨g, i * 4, none⟩ = some (.string (mT K)) ∧ W3.cell? ⟨g, i * 4 + 1, none⟩ = some (.int .i64 ((K : Int) + 1)) ∧ W3.cell? ⟨g, i * 4 + 2, none⟩ = some (.int .i64 ((K : Int) + 1 + 1))) := hid_intro (by
        rw [hW3]
        refine ⟨?_, ?_, cell_put p2 _ (by omega) _⟩
        · rw [cell_far _ _ (by omega), cell_far _ _ (by omega), cell_put p0 _ (by omega)]
        · rw [cell_far _ _ (by omega), cell_put p1 _ (by omega)])
      clear p0 p1 p2
      have HTK : Hid (mT (Kx i) = mT K) := hid_intro (by rw [hKi])
      have HKi := hid_intro hKi
      generalize mT K = T0 at *
      clear HD HM HC hKi
      rcases HD3.out.own i hil with h0 | ⟨e1, e2, e3, e4⟩
      · rw [h0] at c3
        have HMK := hid_intro (fun z => marks0K z (la i) (lc i) W3)
        have HL0 := hid_intro h0
        go_wp2_with fail
        rw [← hW3]
        refine (HMK.out _).mono ?_
        rintro e w4 ⟨rfl, hb⟩
        have HX4 := hid_intro (show MkB g (i + 1) la ln lc lb Kx w4 from ⟨by have := hb.size; have := HD3.out.pt.lt; omega, fun j hj => by
          by_cases e : j = i
          · subst e
            have f := fun o => hb.cell (p := ⟨g, o, none⟩) HD3.out.pt.lt
            rw [HTK.out, HKi.out]
            exact ⟨(f _).trans HX3.out.1, (f _).trans HX3.out.2.1, (f _).trans HX3.out.2.2, (f _).trans (HD3.out.cell j hil), .inl HL0.out⟩
          · exact (HM3.out.below hb).2 j (by omega)⟩)
        replace HD3 := hid_intro (HD3.out.below hb)
        replace HC3 := hid_intro (HC3.out.below hb)
        have hkk : ((Kx (i + 1) : Nat) : Int) = (K : Int) + 1 + 1 + 1 := by rw [km, h0]; omega
        clear hb hW3
        go_wp2_with fail
        go_roundw
        case rel => exact ⟨i + 1, by go_num, by rw [hkk], by omega, HD3, HX4, HC3⟩
        case measure => simp [intOf]; omega
      · have HMK : Hid (∀ z : Int, z = ((K + 3 : Nat) : Int) → Calls Tryz.prog 14 #[.slice (some ⟨lb i, 0, none⟩) (ln i) (lc i), .int .i64 z] W3 fun e w' => e = .returned (.int .i64 ((K + 3) + 2 * ln i : Nat)) ∧ W3.grownBy w' (some (lb i)) ∧ (∀ n', Pt (lb i) n' W3 → Pt (lb i) n' w') ∧ LM (K + 3) (ln i) (lb i) w') := hid_intro (fun z hz => by subst hz; exact marksM (K + 3) (by omega) (by omega) (lb i) (ln i) (lc i) W3 hll e4)
        have HE1 := hid_intro e1
        have HE3 := hid_intro e3
        have hSl : ln i ≠ 0 → FtB g n ln lb (lb i) := fun h => .inr ⟨i, hil, h, rfl⟩
        have HSl := hid_intro hSl
        have HC3' : Hid (ln i = 0 ∨ FtB g n ln lb (lb i)) := hid_intro (by by_cases h : ln i = 0; exact .inl h; exact .inr (hSl h))
        rw [e1] at c3
        clear e4 hSl e1
        by_cases hz : ln i = 0
        · rw [hz] at c3
          have HMK0 := hid_intro (fun z => marks0K z (some ⟨lb i, 0, none⟩) (lc i) W3)
          have HL0 := hid_intro hz
          go_wp2_with fail
          rw [← hW3]
          refine (HMK0.out _).mono ?_
          rintro e w4 ⟨rfl, hb⟩
          have HX4 := hid_intro (show MkB g (i + 1) la ln lc lb Kx w4 from ⟨by have := hb.size; have := HD3.out.pt.lt; omega, fun j hj => by
            by_cases e : j = i
            · subst e
              have f := fun o => hb.cell (p := ⟨g, o, none⟩) HD3.out.pt.lt
              rw [HTK.out, HKi.out]
              exact ⟨(f _).trans HX3.out.1, (f _).trans HX3.out.2.1, (f _).trans HX3.out.2.2, (f _).trans (HD3.out.cell j hil), .inl HL0.out⟩
            · exact (HM3.out.below hb).2 j (by omega)⟩)
          replace HD3 := hid_intro (HD3.out.below hb)
          replace HC3 := hid_intro (HC3.out.below hb)
          have hkk : ((Kx (i + 1) : Nat) : Int) = (K : Int) + 1 + 1 + 1 := by rw [km, hz]; omega
          clear hb hW3
          go_wp2_with fail
          go_roundw
          case rel => exact ⟨i + 1, by go_num, by rw [hkk], by omega, HD3, HX4, HC3⟩
          case measure => simp [intOf]; omega
        · go_wp2_with fail
          rw [← hW3]
          refine (HMK.out _ (by push_cast; omega)).mono ?_
          rintro e w4 ⟨rfl, hg4, ha4, hm4⟩
          have HX4 := hid_intro (show MkB g (i + 1) la ln lc lb Kx w4 from ⟨by have := hg4.size; have := HD3.out.pt.lt; omega, fun j hj => by
            by_cases e : j = i
            · subst e
              have eb := hg4.block g HD3.out.pt.lt (by simp; exact fun e => HE3.out e.symm)
              have f := fun o => World.cell?_of_block (a := ⟨g, o, none⟩) eb
              rw [HTK.out, HKi.out]
              exact ⟨(f _).trans HX3.out.1, (f _).trans HX3.out.2.1, (f _).trans HX3.out.2.2, (f _).trans (HD3.out.cell j hil), .inr ⟨HE1.out, hm4⟩⟩
            · have hc : Chg (fun b => b = lb i) W3 w4 := (Chg.refl _ _).grown hg4 rfl
              exact (HM3.out.chg hc (fun q => HE3.out q.symm) (fun j2 hj2 hn2 q => HD3.out.apart j2 i (by omega) hil (by omega) hn2 hz q)).2 j (by omega)⟩)
          replace HD3 := hid_intro (HD3.out.grown hg4 HE3.out ha4)
          replace HC3 := hid_intro (HC3.out.grown hg4 (HSl.out hz))
          have hkk : ((Kx (i + 1) : Nat) : Int) = ((K + 3 + 2 * ln i : Nat) : Int) := by rw [km]
          clear hg4 ha4 hm4 hW3
          go_wp2_with fail
          go_roundw
          case rel => exact ⟨i + 1, by go_num, by rw [hkk]; go_num, by omega, HD3, HX4, HC3⟩
          case measure => simp [intOf]; omega
/-- One document's marks, in a world grown. -/
def BoxD (w : World) (g o : Nat) (t0 : ByteArray) (n1 n2 : Int) (v : Value) (w' : World) : Prop := Below w.heap.size w w' ∧ g < w'.heap.size ∧ w'.cell? ⟨g, o, none⟩ = some (.string t0) ∧ w'.cell? ⟨g, o + 1, none⟩ = some (.int .i64 n1) ∧ w'.cell? ⟨g, o + 2, none⟩ = some (.int .i64 n2) ∧ w'.cell? ⟨g, o + 3, none⟩ = some v
theorem BoxD.below {w w1 w2 : World} {g o : Nat} {t0 : ByteArray} {n1 n2 : Int} {v : Value} (h : BoxD w g o t0 n1 n2 v w1) (hb : Below w1.heap.size w1 w2) : BoxD w g o t0 n1 n2 v w2 := by
  obtain ⟨h0, hl, c0, c1, c2, c3⟩ := h
  have c := fun x => hb.cell (p := ⟨g, x, none⟩) hl
  exact ⟨h0.trans (hb.mono h0.size), by have := hb.size; omega, (c _).trans c0, (c _).trans c1, (c _).trans c2, (c _).trans c3⟩
theorem BoxD.drew {w w1 : World} {g o : Nat} {t0 : ByteArray} {n1 n2 : Int} {v : Value} (h : BoxD w g o t0 n1 n2 v w1) : BoxD w g o t0 n1 n2 v w1.drew := ⟨h.1.drew, h.2⟩
theorem bd_below {w wr w1 w2 : World} {g o : Nat} {t0 : ByteArray} {n1 n2 : Int} {v : Value} (h : Below wr.heap.size wr w1 ∧ BoxD w g o t0 n1 n2 v w1) (hb : Below w1.heap.size w1 w2) : Below wr.heap.size wr w2 ∧ BoxD w g o t0 n1 n2 v w2 := ⟨h.1.trans (hb.mono h.1.size), h.2.below hb⟩
set_option maxRecDepth 100000 in
set_option maxHeartbeats 8000000 in
theorem heldB (g n cap : Nat) (la : Nat → Option Addr) (ln lc lb Kx : Nat → Nat) (w : World) (hn : n ≤ 1048576) (hKM : ∀ j, j < n → Kx (j + 1) = Kx j + 3 + 2 * ln j) (hK : ∀ j, j ≤ n → 1 ≤ Kx j ∧ Kx j ≤ 5300001) (hln : ∀ j, j < n → ln j ≤ 1048576) (hM : MkB g n la ln lc lb Kx w) :
    Calls Tryz.prog 38 #[.slice (some ⟨g, 0, none⟩) n cap, .int .i64 (Kx 0 : Nat)] w fun e w' => e = .returned (.int .i64 (Kx n : Nat)) ∧ Below w.heap.size w w' := by
  have HT : Hid (∀ (z : Int) (K : Nat), z = K → 1 ≤ K → K < 100000000 → ∀ w, Calls Tryz.prog 36 #[.int .i64 z] w fun e w' => e = .returned (.string (mT K)) ∧ Below w.heap.size w w') := hid_intro (fun z K e h0 h w => by subst e; exact mark_any K h0 h w)
  have HKM := hid_intro hKM
  have HK := hid_intro hK
  have HLN := hid_intro hln
  have HM := hid_intro hM
  clear hKM hK hln hM
  go_enter Tryz.func38, Tryz.ntmps38
  go_wp2_with fail
  go_loopw [5, 1] (fun x z wr => ∃ (i : Nat), x = .int .i64 (i : Int) ∧ z = .int .i64 ((Kx i : Nat) : Int) ∧ i ≤ n ∧ Hid (Below w.heap.size w wr)) (fun x _ _ => n - (intOf x).toNat)
  case atStart => exact ⟨0, rfl, rfl, by omega, hid_intro (Below.refl _ _)⟩
  case round =>
    obtain ⟨i, rfl, rfl, hi, HB⟩ := hrel
    by_cases hin : i = n
    · subst hin
      go_wp2_with fail
      go_ret
      exact ⟨rfl, HB.out⟩
    · have h1 : (i : Int) < (n : Int) := by omega
      have hil : i < n := by omega
      obtain ⟨k0, k1⟩ := HK.out i (by omega)
      have k2 := (HK.out (i + 1) (by omega)).2
      have km := HKM.out i hil
      have hll := HLN.out i hil
      have HMW := hid_intro (HM.out.below HB.out)
      have hgl := HMW.out.1
      obtain ⟨c0, c1, c2, c3, hL⟩ := HMW.out.2 i hil
      have HT0 := hid_intro (fun w => HT.out ((Kx i : Nat) : Int) (Kx i) rfl (by omega) (by omega) w)
      have HLW : Hid (∀ W, Below wr.heap.size wr W → (ln i = 0 ∨ (la i = some ⟨lb i, 0, none⟩ ∧ LM (Kx i + 3) (ln i) (lb i) W))) := hid_intro (fun W hW => hL.imp id (fun ⟨e1, e2⟩ => ⟨e1, e2.below hW⟩))
      clear hL HMW
      generalize Kx i = K at *
      have hk1 : (((K : Int) + 1) == ((K : Int) + 1)) = true := by simp
      generalize mT K = T0 at *
      have HS0 : Hid (BoxD w g (i * 4) T0 ((K : Int) + 1) ((K : Int) + 1 + 1) (.slice (la i) (ln i) (lc i)) wr) := hid_intro ⟨HB.out, hgl, c0, c1, c2, c3⟩
      have HS1 := hid_intro HS0.out.drew
      obtain ⟨Wo, hWo⟩ : ∃ Wo, Wo = wr := ⟨_, rfl⟩
      have HS2 : Hid (Below wr.heap.size wr wr ∧ BoxD w g (i * 4) T0 ((K : Int) + 1) ((K : Int) + 1 + 1) (.slice (la i) (ln i) (lc i)) wr) := hid_intro ⟨Below.refl _ _, HS0.out⟩
      have HS3 : Hid (Below wr.heap.size wr wr.drew ∧ BoxD w g (i * 4) T0 ((K : Int) + 1) ((K : Int) + 1 + 1) (.slice (la i) (ln i) (lc i)) wr.drew) := hid_intro ⟨(Below.refl _ _).drew, HS1.out⟩
      clear hk1 hWo
      go_wp2_with fail
      go_region_held3 (fun w' => Below wr.heap.size wr w' ∧ Below w.heap.size w w' ∧ g < w'.heap.size ∧ w'.cell? ⟨g, i * 4, none⟩ = some (.string T0) ∧ w'.cell? ⟨g, i * 4 + 1, none⟩ = some (.int .i64 ((K : Int) + 1)) ∧ w'.cell? ⟨g, i * 4 + 2, none⟩ = some (.int .i64 ((K : Int) + 1 + 1)) ∧ w'.cell? ⟨g, i * 4 + 3, none⟩ = some (.slice (la i) (ln i) (lc i))) (first | assumption | (exact HS2.out) | (exact HS3.out) | (exact bd_below (by assumption) hb))
        (first | (go_at_call 36; refine (HT0.out _).mono ?_; rintro e w' ⟨rfl, hb⟩))
      rename_i hS
      have HBW := hid_intro hS.1
      have HB2 := hid_intro hS.2.1
      have HLX := hid_intro (HLW.out _ hS.1)
      obtain ⟨_, _, gl2, d0, d1, d2, d3⟩ := hS
      clear HS0 HS1 HS2 HS3 c0 c1 c2 c3 hgl HLW
      by_cases h0 : ln i = 0
      · rw [h0] at d3
        have HMK := hid_intro (fun z W => held0K z (la i) (lc i) W)
        have hkk : ((Kx (i + 1) : Nat) : Int) = (K : Int) + 1 + 1 + 1 := by rw [km, h0]; omega
        have hkn : ¬ (K : Int) + 1 + 1 + 1 < 0 := by omega
        go_wp2_with fail
        refine (HMK.out _ _).mono ?_
        rintro e w4 ⟨rfl, hb⟩
        replace HB2 := hid_intro (HB2.out.trans (hb.mono HB2.out.size))
        clear hb
        go_wp2_with fail
        go_roundw
        case rel => exact ⟨i + 1, by go_num, by rw [hkk], by omega, HB2⟩
        case measure => simp [intOf]; omega
      · rcases HLX.out with q | ⟨e1, e2⟩
        · exact absurd q h0
        rw [e1] at d3
        have HMK := hid_intro (fun (z : Int) (hz : z = ((K + 3 : Nat) : Int)) => by subst hz; exact heldM (K + 3) (by omega) (by omega) (lb i) (ln i) (lc i) _ hll e2)
        have hkk : ((Kx (i + 1) : Nat) : Int) = ((K + 3 + 2 * ln i : Nat) : Int) := by rw [km]
        have hkn : ¬ ((K + 3 + 2 * ln i : Nat) : Int) < 0 := by omega
        clear e2 HLX
        go_wp2_with fail
        refine (HMK.out ((K : Int) + 1 + 1 + 1) (by push_cast; omega)).mono ?_
        rintro e w4 ⟨rfl, hb⟩
        replace HB2 := hid_intro (HB2.out.trans (hb.mono HB2.out.size))
        clear hb
        generalize ((K + 3 + 2 * ln i : Nat) : Int) = Z at *
        go_wp2_with fail
        go_roundw
        case rel => exact ⟨i + 1, by go_num, by rw [hkk], by omega, HB2⟩
        case measure => simp [intOf]; omega
end LedR
end Go.Proofs.YtakeiankhfdjdaaGreatDoor
namespace Go.Proofs.YtakeiankhfdjdaaGreatDoor
open Go.ChangeShapes Go.WideShapes Go.ChangeAt Go.RowKit
set_option linter.unusedVariables false
namespace LedR
open LinR RowG DocR ChG
open EvtR (Pt cell_put cell_far)
open CatR (Blk Blk.new)
/-- An answer that reads so. -/
def LoR (v : Value) (ds : List D) (x : D) (cd : Int) (W : World) : Prop := ∃ ao cap la lc, v = .agg #[.slice ao ds.length cap, .string x.a, .int .i64 x.mo, .int .i64 x.sq, .slice la x.ls.length lc, .int .i64 cd] ∧ Dcs ao ds W ∧ Lis la x.ls W
theorem LoR.below {v : Value} {ds : List D} {x : D} {cd : Int} {W W' : World} (h : LoR v ds x cd W) (hb : Below W.heap.size W W') : LoR v ds x cd W' := by
  obtain ⟨ao, cap, la, lc, rfl, h1, h2⟩ := h
  exact ⟨ao, cap, la, lc, rfl, h1.below hb, h2.below hb⟩
/-- An answer of one's own. -/
def LoO (base : Nat) (v : Value) (ds : List D) (x : D) (cd : Int) (W : World) : Prop := ∃ (vd : Value) (xs : List DA) (la : Option Addr) (lc : Nat), v = .agg #[vd, .string x.a, .int .i64 x.mo, .int .i64 x.sq, .slice la x.ls.length lc, .int .i64 cd] ∧ xs.map DA.d = ds ∧ W.ownsRow base 29 4 vd ds.length (cellsAll DA.cells xs) ∧ (∀ y ∈ xs, LnO base y W) ∧ xs.Pairwise Apt ∧ LnO base ⟨x, la, lc⟩ W ∧ ∀ y ∈ xs, Apt y ⟨x, la, lc⟩
theorem LoO.reads {base : Nat} {v : Value} {ds : List D} {x : D} {cd : Int} {W : World} (h : LoO base v ds x cd W) : LoR v ds x cd W := by
  obtain ⟨vd, xs, la, lc, rfl, h1, h2, h3, h4, h5, _⟩ := h
  obtain ⟨ao, cap, rfl, hd⟩ := DsO.dcs (⟨xs, h1, h2, h3, h4⟩ : DsO base vd ds W)
  obtain ⟨ao', cap', e', hm'⟩ := RowG.own_made (z := N.zero) N.len h5
  unfold DA.v at e'
  cases e'
  exact ⟨ao, cap, la, lc, rfl, hd, hm'.rws⟩
theorem LoO.below {base : Nat} {v : Value} {ds : List D} {x : D} {cd : Int} {W W' : World} (h : LoO base v ds x cd W) (hb : Below W.heap.size W W') : LoO base v ds x cd W' := by
  obtain ⟨vd, xs, la, lc, rfl, h1, h2, h3, h4, h5, h6⟩ := h
  exact ⟨vd, xs, la, lc, rfl, h1, RowG.own_below h2 hb, fun y hy => RowG.own_below (h3 y hy) hb, h4, RowG.own_below h5 hb, h6⟩
theorem loO_of {base : Nat} {vd : Value} {ds : List D} {cd : Int} {W : World} (h : DsO base vd ds W) : LoO base (.agg #[vd, .string ⟨#[]⟩, .int .i64 0, .int .i64 0, .slice none 0 0, .int .i64 cd]) ds D.zero cd W := by
  obtain ⟨xs, h1, h2, h3, h4⟩ := h
  exact ⟨vd, xs, none, 0, rfl, h1, h2, h3, h4, World.ownsRow_nil _ _ _ _, fun y _ b h1 h2 => by simp [DA.v, Value.ownBlock] at h2⟩
/-- The places of the documents' blocks. -/
theorem dsB_of {base : Nat} {v : Value} {xs : List DA} {W : World} (h2 : W.ownsRow base 29 4 v xs.length (cellsAll DA.cells xs)) (h3 : ∀ x ∈ xs, LnO base x W) (h4 : xs.Pairwise Apt) (h0 : xs.length ≠ 0) : ∃ g cap lb, v = .slice (some ⟨g, 0, none⟩) xs.length cap ∧ v.ownBlock = some g ∧ (∀ j, j < xs.length → (xs.getD j DA.zero).d.ls.length ≠ 0 → (xs.getD j DA.zero).v.ownBlock = some (lb j)) ∧ DsB base g xs.length (fun j => (xs.getD j DA.zero).la) (fun j => (xs.getD j DA.zero).d.ls.length) (fun j => (xs.getD j DA.zero).lc) lb W := by
  have hap := fun j (hj : j < xs.length) => OwG.own_apart (h3 _ (RowG.getD_mem (z := DA.zero) xs j hj)) h2 (by decide)
  obtain ⟨ao, cap, rfl, hm⟩ := RowG.own_made (z := DA.zero) DA.len h2
  rcases hm.own with q | ⟨g, rfl, hg, hp⟩
  · exact absurd q h0
  have hl : ∀ j, j < xs.length → (xs.getD j DA.zero).d.ls.length = 0 ∨ ∃ b, (xs.getD j DA.zero).la = some ⟨b, 0, none⟩ ∧ base ≤ b ∧ Pt b ((xs.getD j DA.zero).d.ls.length * 2) W := by
    intro j hj
    have h := h3 _ (RowG.getD_mem (z := DA.zero) xs j hj)
    obtain ⟨ao', cap', e', hm'⟩ := RowG.own_made (z := N.zero) N.len h
    unfold DA.v at e'
    cases e'
    exact hm'.own
  refine ⟨g, cap, fun j => match (xs.getD j DA.zero).la with | some a => a.block | none => 0, rfl, rfl, ?_, hg, hp, ?_, ?_, ?_⟩
  · intro j hj hn
    rcases hl j hj with q | ⟨b, e1, _⟩
    · exact absurd q hn
    · dsimp only
      unfold DA.v
      rw [e1]
      rfl
  · intro j hj
    rcases hm.rws with q | ⟨b, off, e, hb, hc⟩
    · exact absurd q h0
    · simp only [Option.some.injEq, Addr.mk.injEq, and_true] at e
      obtain ⟨rfl, rfl⟩ := e
      have := hc j hj 3 (by omega)
      rw [Nat.zero_add] at this
      exact this
  · intro j hj
    rcases hl j hj with q | ⟨b, e1, e2, e3⟩
    · exact .inl q
    · by_cases hn : (xs.getD j DA.zero).d.ls.length = 0
      · exact .inl hn
      refine .inr ?_
      rw [e1]
      refine ⟨rfl, e2, ?_, e3⟩
      have := hap j hj b (by unfold DA.v; rw [e1]; rfl)
      simp [Value.ownBlock] at this
      exact this
  · intro i j hi hj hne n1 n2 q
    rcases hl i hi with q1 | ⟨b1, e1, _⟩
    · exact n1 q1
    rcases hl j hj with q2 | ⟨b2, e2, _⟩
    · exact n2 q2
    rw [e1, e2] at q
    have q3 : b1 = b2 := q
    subst q3
    have eb1 : (xs.getD i DA.zero).v.ownBlock = some b1 := by unfold DA.v; rw [e1]; rfl
    have eb2 : (xs.getD j DA.zero).v.ownBlock = some b1 := by unfold DA.v; rw [e2]; rfl
    have gi : xs.getD i DA.zero = xs[i] := by simp [List.getD, hi]
    have gj : xs.getD j DA.zero = xs[j] := by simp [List.getD, hj]
    rw [gi] at eb1
    rw [gj] at eb2
    rcases Nat.lt_or_gt_of_ne hne with lt | gt
    · exact List.pairwise_iff_getElem.1 h4 i j hi hj lt b1 eb1 eb2
    · exact List.pairwise_iff_getElem.1 h4 j i hj hi gt b1 eb2 eb1
set_option maxHeartbeats 4000000 in
theorem eqO (v v' : Value) (ds : List D) (x : D) (cd : Int) (w : World) (hlen : ds.length ≤ 1048576) (hSm : ∀ d ∈ ds, d.Sm) (hx : x.ls.length ≤ 1048576) (h : LoR v ds x cd w) (h' : LoR v' ds x cd w) :
    Calls Tryz.prog 10 #[v, v'] w fun e w' => e = .returned (.bool true) ∧ Below w.heap.size w w' := by
  obtain ⟨ao, cap, la, lc, rfl, h1, h2⟩ := h
  obtain ⟨ao', cap', la', lc', rfl, h1', h2'⟩ := h'
  have HE := hid_intro (fun W (hW : Below w.heap.size w W) => eqDs ao ao' cap cap' ds W hlen hSm (h1.below hW) (h1'.below hW))
  have HD : Hid (∀ W (hW : Below w.heap.size w W), Calls Tryz.prog 34 #[.agg #[.string x.a, .int .i64 x.mo, .int .i64 x.sq, .slice la x.ls.length lc], .agg #[.string x.a, .int .i64 x.mo, .int .i64 x.sq, .slice la' x.ls.length lc']] W fun e w' => e = .returned (.bool true) ∧ Below W.heap.size W w') := hid_intro (fun W hW => eqD_any _ _ x W hx ⟨la, lc, rfl, h2.below hW⟩ ⟨la', lc', rfl, h2'.below hW⟩)
  clear h1 h2 h1' h2' hSm hx
  generalize ds.length = n at *
  generalize x.a = a at *
  generalize x.mo = mo at *
  generalize x.sq = sq at *
  generalize x.ls.length = ll at *
  obtain ⟨W0, hW0⟩ : ∃ W0, W0 = (w.alloc (.cells #[.slice ao n cap, .string a, .int .i64 mo, .int .i64 sq, .slice la ll lc, .int .i64 cd] 31)).alloc (.cells #[.slice ao' n cap', .string a, .int .i64 mo, .int .i64 sq, .slice la' ll lc', .int .i64 cd] 31) := ⟨_, rfl⟩
  have HB : Hid (Below w.heap.size w W0) := hid_intro (by rw [hW0]; exact ((Below.refl _ _).alloc (Nat.le_refl _) _).alloc (by simp) _)
  have HX : Hid (Blk w.heap.size [.slice ao n cap, .string a, .int .i64 mo, .int .i64 sq, .slice la ll lc, .int .i64 cd] W0) := hid_intro (by rw [hW0]; exact (Blk.new w [.slice ao n cap, .string a, .int .i64 mo, .int .i64 sq, .slice la ll lc, .int .i64 cd] 31).below ((Below.refl _ _).alloc (Nat.le_refl _) _))
  have HY : Hid (Blk (w.heap.size + 1) [.slice ao' n cap', .string a, .int .i64 mo, .int .i64 sq, .slice la' ll lc', .int .i64 cd] W0) := hid_intro (by
    rw [hW0]
    obtain ⟨X, hX⟩ : ∃ X, X = w.alloc (.cells #[.slice ao n cap, .string a, .int .i64 mo, .int .i64 sq, .slice la ll lc, .int .i64 cd] 31) := ⟨_, rfl⟩
    have e : X.heap.size = w.heap.size + 1 := by rw [hX]; simp
    rw [← hX, ← e]
    exact Blk.new X [.slice ao' n cap', .string a, .int .i64 mo, .int .i64 sq, .slice la' ll lc', .int .i64 cd] 31)
  have HW := hid_intro hW0
  clear hW0
  go_enter Tryz.func10, Tryz.ntmps10
  go_wp2_with fail
  rw [← HW.out]
  clear HW
  refine (HE.out _ HB.out).mono ?_
  rintro e w1 ⟨rfl, hb1⟩
  have HB1 := hid_intro (HB.out.trans (hb1.mono HB.out.size))
  have HX1 := hid_intro (HX.out.below hb1)
  have HY1 := hid_intro (HY.out.below hb1)
  have xl := HX1.out.1
  have yl := HY1.out.1
  have x1 : w1.cell? ⟨w.heap.size, 1, none⟩ = some (.string a) := HX1.out.2 1 (by simp)
  have x2 : w1.cell? ⟨w.heap.size, 2, none⟩ = some (.int .i64 mo) := HX1.out.2 2 (by simp)
  have x3 : w1.cell? ⟨w.heap.size, 3, none⟩ = some (.int .i64 sq) := HX1.out.2 3 (by simp)
  have x4 : w1.cell? ⟨w.heap.size, 4, none⟩ = some (.slice la ll lc) := HX1.out.2 4 (by simp)
  have y1 : w1.cell? ⟨w.heap.size + 1, 1, none⟩ = some (.string a) := HY1.out.2 1 (by simp)
  have y2 : w1.cell? ⟨w.heap.size + 1, 2, none⟩ = some (.int .i64 mo) := HY1.out.2 2 (by simp)
  have y3 : w1.cell? ⟨w.heap.size + 1, 3, none⟩ = some (.int .i64 sq) := HY1.out.2 3 (by simp)
  have y4 : w1.cell? ⟨w.heap.size + 1, 4, none⟩ = some (.slice la' ll lc') := HY1.out.2 4 (by simp)
  clear hb1 HB HX HY
  go_wp2_with fail
  refine (HD.out _ HB1.out).mono ?_
  rintro e w2 ⟨rfl, hb2⟩
  have HB2 := hid_intro (HB1.out.trans (hb2.mono HB1.out.size))
  have HX2 := hid_intro (HX1.out.below hb2)
  have HY2 := hid_intro (HY1.out.below hb2)
  have xl2 := HX2.out.1
  have yl2 := HY2.out.1
  have x5 : w2.cell? ⟨w.heap.size, 5, none⟩ = some (.int .i64 cd) := HX2.out.2 5 (by simp)
  have y5 : w2.cell? ⟨w.heap.size + 1, 5, none⟩ = some (.int .i64 cd) := HY2.out.2 5 (by simp)
  clear hb2 x1 x2 x3 x4 y1 y2 y3 y4 xl yl HX1 HY1 HB1
  go_wp2_with fail
  go_ret
  exact ⟨rfl, HB2.out⟩
/-- From where on the documents are marked. -/
def KxO (xs : List DA) (j : Nat) : Nat := 1 + tot ((xs.take j).map DA.d)
theorem kxO_more (xs : List DA) (j : Nat) (h : j < xs.length) : KxO xs (j + 1) = KxO xs j + 3 + 2 * (xs.getD j DA.zero).d.ls.length := by
  unfold KxO
  have e : (xs.take (j + 1)).map DA.d = (xs.take j).map DA.d ++ [(xs.getD j DA.zero).d] := by
    rw [RowG.take_more (z := DA.zero) xs j h, List.map_append]
    rfl
  rw [e]
  simp only [tot, List.map_append, List.sum_append, List.map_cons, List.map_nil, List.sum_cons, List.sum_nil]
  omega
theorem kxO_le (xs : List DA) (j : Nat) : KxO xs j ≤ 1 + tot (xs.map DA.d) := by
  unfold KxO
  have h := tot_le (xs.map DA.d) j
  rw [← List.map_take] at h
  omega
set_option maxHeartbeats 4000000 in
theorem markD0 (K : Int) (ao : Option Addr) (cap : Nat) (w : World) : Calls Tryz.prog 13 #[.slice ao 0 cap, .int .i64 K] w fun e w' => e = .returned (.int .i64 K) ∧ Below w.heap.size w w' := by
  go_enter Tryz.func13, Tryz.ntmps13
  go_wp2_with fail
  go_loopw [5, 1] (fun x z wr => x = .int .i64 0 ∧ z = .int .i64 K ∧ Hid (Below w.heap.size w wr)) (fun x _ _ => 0)
  case atStart => exact ⟨rfl, rfl, hid_intro (Below.refl _ _)⟩
  case round =>
    obtain ⟨rfl, rfl, HB⟩ := hrel
    go_wp2_with fail
    go_ret
    exact ⟨rfl, HB.out⟩
set_option maxHeartbeats 4000000 in
theorem heldD0 (K : Int) (ao : Option Addr) (cap : Nat) (w : World) : Calls Tryz.prog 38 #[.slice ao 0 cap, .int .i64 K] w fun e w' => e = .returned (.int .i64 K) ∧ Below w.heap.size w w' := by
  go_enter Tryz.func38, Tryz.ntmps38
  go_wp2_with fail
  go_loopw [5, 1] (fun x z wr => x = .int .i64 0 ∧ z = .int .i64 K ∧ Hid (Below w.heap.size w wr)) (fun x _ _ => 0)
  case atStart => exact ⟨rfl, rfl, hid_intro (Below.refl _ _)⟩
  case round =>
    obtain ⟨rfl, rfl, HB⟩ := hrel
    go_wp2_with fail
    go_ret
    exact ⟨rfl, HB.out⟩
/-- The documents of an answer, marked: how far, and what reading them answers later on. -/
theorem markDsO (base : Nat) (vd : Value) (xs : List DA) (w : World) (hlen : xs.length ≤ 1048576) (hln : ∀ y ∈ xs, y.d.ls.length ≤ 1048576) (ht : tot (xs.map DA.d) ≤ 5300000) (h2 : w.ownsRow base 29 4 vd xs.length (cellsAll DA.cells xs)) (h3 : ∀ x ∈ xs, LnO base x w) (h4 : xs.Pairwise Apt) :
    Calls Tryz.prog 13 #[vd, .int .i64 1] w fun e w' => e = .returned (.int .i64 (1 + tot (xs.map DA.d) : Nat)) ∧ (∃ S : Nat → Prop, Chg S w w' ∧ (∀ b, S b → base ≤ b ∧ (vd.ownBlock = some b ∨ ∃ y ∈ xs, y.v.ownBlock = some b)) ∧
      (∀ (S' : Nat → Prop) w2, Chg S' w' w2 → (∀ b, S' b → ¬ S b) → Calls Tryz.prog 38 #[vd, .int .i64 1] w2 fun e w3 => e = .returned (.int .i64 (1 + tot (xs.map DA.d) : Nat)) ∧ Below w2.heap.size w2 w3)) := by
  by_cases h0 : xs.length = 0
  · obtain rfl : xs = [] := List.length_eq_zero_iff.1 h0
    obtain ⟨ao, cap, rfl, hm⟩ := RowG.own_made (z := DA.zero) DA.len h2
    refine (markD0 1 ao cap w).mono ?_
    rintro e w' ⟨rfl, hb⟩
    refine ⟨rfl, fun _ => False, Chg.of_below hb, fun b q => q.elim, fun S' w2 _ _ => ?_⟩
    exact heldD0 1 ao cap w2
  · obtain ⟨g, cap, lb, rfl, hob, hlb, hD⟩ := dsB_of h2 h3 h4 h0
    have hK : ∀ j, j ≤ xs.length → 1 ≤ KxO xs j ∧ KxO xs j ≤ 5300001 := fun j _ => ⟨by unfold KxO; omega, by have := kxO_le xs j; omega⟩
    have hL : ∀ j, j < xs.length → (xs.getD j DA.zero).d.ls.length ≤ 1048576 := fun j hj => hln _ (RowG.getD_mem (z := DA.zero) xs j hj)
    have hz : KxO xs 0 = 1 := by simp [KxO, tot]
    have hN : KxO xs xs.length = 1 + tot (xs.map DA.d) := by unfold KxO; rw [List.take_length]
    have hm := markB base g xs.length cap _ _ _ lb (KxO xs) w hlen (by omega) (fun j hj => kxO_more xs j hj) hK hL hD
    rw [hz, hN] at hm
    refine hm.mono ?_
    rintro e w' ⟨rfl, hM, hC⟩
    refine ⟨rfl, _, hC, ?_, ?_⟩
    · rintro b (rfl | ⟨j, hj, hn, rfl⟩)
      · exact ⟨hD.low, .inl hob⟩
      · refine ⟨?_, .inr ⟨_, RowG.getD_mem (z := DA.zero) xs j hj, hlb j hj hn⟩⟩
        rcases hD.own j hj with q | ⟨_, q, _⟩
        · exact absurd q hn
        · exact q
    · intro S' w2 hc hS
      have hM2 := hM.chg hc (fun q => hS g q (.inl rfl)) (fun j hj hn q => hS _ q (.inr ⟨j, hj, hn, rfl⟩))
      have hh := heldB g xs.length cap _ _ _ lb (KxO xs) w2 hlen (fun j hj => kxO_more xs j hj) hK hL hM2
      rw [hz, hN] at hh
      exact hh
end LedR
end Go.Proofs.YtakeiankhfdjdaaGreatDoor
namespace Go.Proofs.YtakeiankhfdjdaaGreatDoor
open Go.ChangeShapes Go.WideShapes Go.ChangeAt Go.RowKit
set_option linter.unusedVariables false
namespace LedR
open LinR RowG LtR NetR DocR
theorem blk_add {b : Nat} {cs : List Value} {W : World} (h : BlkW b cs W) : ∀ j u, cs[j]? = some u → W.cell? ((⟨b, 0, none⟩ : Addr).add j) = some u := by
  intro j u hj
  have hl := (List.getElem?_eq_some_iff.1 hj).1
  rw [Addr.add_lit, Nat.zero_add, h.1.2 j hl]
  exact hj
theorem lo_fin {wb base : Nat} {vd : Value} {ds : List D} {d : D} {xs : List DA} {co : Option Addr} {cc2 : Nat} {q0 q WF : World} (hlw : wb < base) (a1 : xs.map DA.d = ds) (a2 : q0.ownsRow base 29 4 vd ds.length (cellsAll DA.cells xs)) (a3 : ∀ y ∈ xs, LnO base y q0) (a4 : xs.Pairwise Apt) (hq : Below q0.heap.size q0 q) (hcp : q.ownsRow q0.heap.size 53 2 (.slice co d.ls.length cc2) d.ls.length (cellsAll N.cells d.ls)) (hb : base ≤ q0.heap.size) (hgr : q.grownBy WF (some wb)) :
    LoO wb (.agg #[vd, .string d.a, .int .i64 d.mo, .int .i64 d.sq, .slice co d.ls.length cc2, .int .i64 0]) ds d 0 WF := by
  have hw : wb ≤ base := Nat.le_of_lt hlw
  refine ⟨vd, xs, co, cc2, rfl, a1, OwG.own_low (OwG.own_keepG (own_below a2 hq) hgr hlw) hw, fun y hy => OwG.own_low (OwG.own_keepG (own_below (a3 y hy) hq) hgr hlw) hw, a4, OwG.own_low (OwG.own_keepG hcp hgr (Nat.lt_of_lt_of_le hlw hb)) (Nat.le_trans hw hb), fun y hy b h1 h2 => ?_⟩
  have p1 := ((a3 y hy).lt b h1).2
  have p2 := (hcp.lt b h2).1
  omega
theorem clL_len (G : List N) : (clL G).length ≤ G.length := by unfold clL; cases ovB G; exact Nat.zero_le _; exact List.length_filter_le _ _
set_option maxRecDepth 100000 in
set_option maxHeartbeats 8000000 in
theorem sissue0 (ao : Option Addr) (bb boff cap capb : Nat) (ds : List D) (a : ByteArray) (m : Int) (bl : List N) (w : World) (hlr : LRight ds) (hsr : SRight bl) (hbig : ¬ (400 < ds.length ∨ 8000 < a.size ∨ 400 < bl.length)) (hform : isFormB ds a m bl = true) (hdl : ∀ d ∈ ds, d.ls.length ≤ 1048576) (hI : Dcs ao ds w) (hL : Lis (some ⟨bb, boff, none⟩) bl w) :
    Calls Tryz.prog 23 #[.slice ao ds.length cap, .string a, .int .i64 m, .slice (some ⟨bb, boff, none⟩) bl.length capb] w fun e w' => ∃ v, e = .returned v ∧ LoO w.heap.size v (isD ds a m bl) (isX ds a m bl) (isC ds a m bl) w' ∧ Below w.heap.size w w' := by
  obtain ⟨i0, hi, hz0, hz1, hz2⟩ := info_parts infoD
  have HGo := hid_intro (isGo ds a m bl hbig hform)
  have hnF : (net ds a m).length ≤ 180 := by
    have h1 := (net_facts (ds := ds) ds.length (Nat.le_refl _) hlr.2.1 a m).2.1
    rw [List.take_length] at h1
    have h2 := hlr.1
    omega
  have hfl := List.length_filter_le nz (net ds a m)
  have hfe : ∀ e ∈ (net ds a m).filter nz, -1000000000000000 ≤ e.n ∧ e.n ≤ 1000000000000000 := fun e he => by
    have h1 := ov_net hlr a m
    unfold ovB at h1
    rw [List.all_eq_true] at h1
    have := h1 e (List.mem_filter.1 he).1
    unfold nOk at this
    exact of_decide_eq_true this
  have hcl : clL (net ds a m) = (net ds a m).filter nz := by unfold clL; rw [ov_net hlr a m]; rfl
  have HLG : Hid ((moreG ds a m bl).length ≤ 1000) := hid_intro (by
    have h2 := all_len bl ((net ds a m).filter nz) (-1)
    have h4 := hsr.1
    unfold moreG at *
    omega)
  have HGE : Hid (moreG ds a m bl = all bl ((net ds a m).filter nz) (-1)) := hid_intro rfl
  have hds30 := hlr.1
  obtain ⟨W0, hW0⟩ : ∃ W0, W0 = w.alloc (.cells #[.slice none 0 0, .string ⟨#[]⟩, .int .i64 0, .int .i64 0, .slice none 0 0, .int .i64 0] 31) := ⟨_, rfl⟩
  have HB0 : Hid (Below w.heap.size w W0) := hid_intro (by rw [hW0]; exact (Below.refl _ _).alloc (Nat.le_refl _) _)
  have HR0 : Hid (BlkW w.heap.size [.slice none 0 0, .string ⟨#[]⟩, .int .i64 0, .int .i64 0, .slice none 0 0, .int .i64 0] W0) := hid_intro (by rw [hW0]; exact BlkW.new w [.slice none 0 0, .string ⟨#[]⟩, .int .i64 0, .int .i64 0, .slice none 0 0, .int .i64 0] 31)
  have HLW0 : Hid (w.heap.size < W0.heap.size) := hid_intro HR0.out.1.1
  have HW := hid_intro hW0
  have HNT := hid_intro (snet ao cap ds a m W0 hlr (hI.below HB0.out))
  rw [hcl] at HNT
  have HAD := hid_intro (fun W (hb : Below W0.heap.size W0 W) bo2 capn (h : Lis bo2 ((net ds a m).filter nz) W) => sadd bb boff capb bl bo2 capn ((net ds a m).filter nz) (-1) 1000000000000000 W (.inr rfl) (by omega) hfe (right_rise hsr) (by have := hsr.1; omega) (by omega) (right_bd hsr) (hL.below (HB0.out.trans (hb.mono HB0.out.size))) h)
  have HCT := hid_intro (fun W (hb : Below W0.heap.size W0 W) => scount ao cap ds ds.length a m W (Nat.le_refl _) (by omega) (hI.below (HB0.out.trans (hb.mono HB0.out.size))))
  have HCP := hid_intro (fun W (hb : Below W0.heap.size W0 W) => scopy ao cap ds W (by omega) hdl (hI.below (HB0.out.trans (hb.mono HB0.out.size))))
  rw [← HGE.out] at HAD
  rw [List.take_length] at HCT
  obtain ⟨F, hF⟩ : ∃ F, F = (net ds a m).filter nz := ⟨_, rfl⟩
  rw [← hF] at HNT HAD
  generalize hcc : cnt ds a m = cc at *
  have hc30 : cc ≤ 30 := by rw [← hcc]; have := cnt_le ds a m; omega
  generalize hG0 : moreG ds a m bl = G at *
  obtain ⟨len, hl⟩ : ∃ len, len = ds.length := ⟨_, rfl⟩
  rw [← hl] at HNT HCT HCP HGo hds30 ⊢
  have HLN := hid_intro hl
  generalize bl.length = lb at *
  generalize hfn : F.length = nf at *
  clear hI hL hlr hsr hbig hform hdl hnF hfl hfe hcl hF hW0 hl
  go_enter Tryz.func23, Tryz.ntmps23
  go_wp2_with fail
  rw [← HW.out]
  refine HNT.out.mono ?_
  rintro e w1 ⟨v, rfl, hv, hb1⟩
  have HB1 := hid_intro hb1
  have HR1 := hid_intro (HR0.out.below hb1)
  obtain ⟨g1, c1, rfl, -, -, -, -, hL1⟩ := hv.open
  have HA1 := hid_intro (HAD.out w1 hb1 _ c1 hL1)
  rw [hfn]
  clear hv hb1 hL1 HNT HAD HW HR0
  go_wp2_with fail
  refine HA1.out.mono ?_
  rintro e w2 ⟨v, rfl, hv, hb2⟩
  have HB2 := hid_intro (HB1.out.trans (hb2.mono HB1.out.size))
  have HR2 := hid_intro (HR1.out.below hb2)
  obtain ⟨g2, c2, rfl, -, -, -, -, hL2⟩ := hv.open
  have HC2 := hid_intro (sclean (some ⟨g2, 0, none⟩) c2 G w2 (by have := HLG.out; omega) hL2)
  generalize hgn : G.length = ng at *
  clear hv hb2 hL2 HA1 HB1 HR1
  go_wp2_with fail
  refine HC2.out.mono ?_
  rintro e w3 ⟨v, rfl, hv, hb3⟩
  have HB3 := hid_intro (HB2.out.trans (hb3.mono HB2.out.size))
  have HR3 := hid_intro (HR2.out.below hb3)
  obtain ⟨g3, lc1, rfl, -, -, -, -, -⟩ := hv.open
  have HO3 := hid_intro (own_low hv.1 HB2.out.size)
  have HCT3 := hid_intro (HCT.out w3 HB3.out)
  obtain ⟨la1, hla1⟩ : ∃ la1 : Option Addr, la1 = some ⟨g3, 0, none⟩ := ⟨_, rfl⟩
  rw [← hla1] at HO3 ⊢
  have HK1 : Hid ((clL G).length ≤ 1000) := hid_intro (by have := clL_len G; have := HLG.out; omega)
  have HNil : Hid (clL G = [] ↔ (clL G).length = 0) := hid_intro List.length_eq_zero_iff.symm
  obtain ⟨n1, hn1⟩ : ∃ n1, n1 = (clL G).length := ⟨_, rfl⟩
  rw [← hn1] at HO3 HK1 HNil ⊢
  have HN1 := hid_intro hn1
  obtain ⟨r, hr⟩ : ∃ r, r = ovB G := ⟨_, rfl⟩
  rw [← hr] at HGo ⊢
  clear hv hb3 HC2 HB2 HR2 HCT hla1 hn1 hr
  go_wp2_with fail
  refine HCT3.out.mono ?_
  rintro e w4 ⟨rfl, hb4⟩
  have HB4 := hid_intro (HB3.out.trans (hb4.mono HB3.out.size))
  have HR4 := hid_intro (HR3.out.below hb4)
  have HO4 := hid_intro (own_below HO3.out hb4)
  have HBw := hid_intro (HB0.out.trans (HB4.out.mono HB0.out.size))
  have hn1k := HK1.out
  clear hb4 HCT3 HB3 HR3 HO3
  cases r
  · have HE := hid_intro (HGo.out.1 rfl)
    obtain ⟨⟨rl, rk⟩, rf⟩ := HR4.out
    have p0 : w4.cell? ⟨w.heap.size, 0, none⟩ = some (.slice none 0 0) := rk 0 (by simp)
    have f0 : w4.frozen? ⟨w.heap.size, 0, none⟩ = false := rf 0 (by simp)
    have p1 : w4.cell? ⟨w.heap.size, 1, none⟩ = some (.string ⟨#[]⟩) := rk 1 (by simp)
    have f1 : w4.frozen? ⟨w.heap.size, 1, none⟩ = false := rf 1 (by simp)
    have p2 : w4.cell? ⟨w.heap.size, 2, none⟩ = some (.int .i64 0) := rk 2 (by simp)
    have f2 : w4.frozen? ⟨w.heap.size, 2, none⟩ = false := rf 2 (by simp)
    have p3 : w4.cell? ⟨w.heap.size, 3, none⟩ = some (.int .i64 0) := rk 3 (by simp)
    have f3 : w4.frozen? ⟨w.heap.size, 3, none⟩ = false := rf 3 (by simp)
    have p4 : w4.cell? ⟨w.heap.size, 4, none⟩ = some (.slice none 0 0) := rk 4 (by simp)
    have f4 : w4.frozen? ⟨w.heap.size, 4, none⟩ = false := rf 4 (by simp)
    have p5 : w4.cell? ⟨w.heap.size, 5, none⟩ = some (.int .i64 0) := rk 5 (by simp)
    have f5 : w4.frozen? ⟨w.heap.size, 5, none⟩ = false := rf 5 (by simp)
    have hg := StR.stL_grown w.heap.size [.slice none 0 0, .string ⟨#[]⟩, .int .i64 0, .int .i64 0, .slice none 0 0, .int .i64 12] 0 w4
    have HBF := hid_intro (HBw.out.grown hg HBw.out.size (fun k e => by simp only [Option.some.injEq] at e; omega))
    simp only [StR.stL, Nat.zero_add, Nat.reduceAdd] at HBF
    clear hg rk rf
    go_wp2_with fail
    refine bodyPost_ret (v := .agg #[.slice none 0 0, .string ⟨#[]⟩, .int .i64 0, .int .i64 0, .slice none 0 0, .int .i64 12]) (by simp [results, Tryz.results23, go_sem, p0, p1, p2, p3, p4, p5]) rfl ⟨_, rfl, by rw [HE.out.1, HE.out.2.1, HE.out.2.2]; exact loO_of (dso_nil _ _), HBF.out⟩
  by_cases hz : n1 = 0 ∧ 0 < cc
  · have hz1 : ((n1 : Int) == 0) = true := by simp; omega
    have hz2 : (0 : Int) < (cc : Int) := by omega
    have hz0 : n1 = 0 := hz.1
    have HE := hid_intro (HGo.out.2.1 rfl (HNil.out.2 hz.1) hz.2)
    clear hz
    obtain ⟨⟨rl, rk⟩, rf⟩ := HR4.out
    have p0 : w4.cell? ⟨w.heap.size, 0, none⟩ = some (.slice none 0 0) := rk 0 (by simp)
    have f0 : w4.frozen? ⟨w.heap.size, 0, none⟩ = false := rf 0 (by simp)
    have p1 : w4.cell? ⟨w.heap.size, 1, none⟩ = some (.string ⟨#[]⟩) := rk 1 (by simp)
    have f1 : w4.frozen? ⟨w.heap.size, 1, none⟩ = false := rf 1 (by simp)
    have p2 : w4.cell? ⟨w.heap.size, 2, none⟩ = some (.int .i64 0) := rk 2 (by simp)
    have f2 : w4.frozen? ⟨w.heap.size, 2, none⟩ = false := rf 2 (by simp)
    have p3 : w4.cell? ⟨w.heap.size, 3, none⟩ = some (.int .i64 0) := rk 3 (by simp)
    have f3 : w4.frozen? ⟨w.heap.size, 3, none⟩ = false := rf 3 (by simp)
    have p4 : w4.cell? ⟨w.heap.size, 4, none⟩ = some (.slice none 0 0) := rk 4 (by simp)
    have f4 : w4.frozen? ⟨w.heap.size, 4, none⟩ = false := rf 4 (by simp)
    have p5 : w4.cell? ⟨w.heap.size, 5, none⟩ = some (.int .i64 0) := rk 5 (by simp)
    have f5 : w4.frozen? ⟨w.heap.size, 5, none⟩ = false := rf 5 (by simp)
    have hg := StR.stL_grown w.heap.size [.slice none 0 0, .string ⟨#[]⟩, .int .i64 0, .int .i64 0, .slice none 0 0, .int .i64 7] 0 w4
    have HBF := hid_intro (HBw.out.grown hg HBw.out.size (fun k e => by simp only [Option.some.injEq] at e; omega))
    simp only [StR.stL, Nat.zero_add, Nat.reduceAdd] at HBF
    clear hg rk rf
    go_wp2_with fail
    refine bodyPost_ret (v := .agg #[.slice none 0 0, .string ⟨#[]⟩, .int .i64 0, .int .i64 0, .slice none 0 0, .int .i64 7]) (by simp [results, Tryz.results23, go_sem, p0, p1, p2, p3, p4, p5]) rfl ⟨_, rfl, by rw [HE.out.1, HE.out.2.1, HE.out.2.2]; exact loO_of (dso_nil _ _), HBF.out⟩
  have hzz : ¬ (clL G = [] ∧ 0 < cc) := fun h => hz ⟨HNil.out.1 h.1, h.2⟩
  have HWY : Hid ((((n1 : Int) == 0) = true ∧ ¬ (0 : Int) < (cc : Int)) ∨ ((n1 : Int) == 0) = false) := hid_intro (by
    by_cases h : n1 = 0
    · exact .inl ⟨by simp; omega, by omega⟩
    · exact .inr (by simp; omega))
  by_cases h30 : 30 ≤ len
  · have HE := hid_intro (HGo.out.2.2.1 rfl hzz h30)
    have h30' : (30 : Int) ≤ (len : Int) := by omega
    rcases HWY.out with ⟨q1, q2⟩ | q1
    · obtain ⟨⟨rl, rk⟩, rf⟩ := HR4.out
      have p0 : w4.cell? ⟨w.heap.size, 0, none⟩ = some (.slice none 0 0) := rk 0 (by simp)
      have f0 : w4.frozen? ⟨w.heap.size, 0, none⟩ = false := rf 0 (by simp)
      have p1 : w4.cell? ⟨w.heap.size, 1, none⟩ = some (.string ⟨#[]⟩) := rk 1 (by simp)
      have f1 : w4.frozen? ⟨w.heap.size, 1, none⟩ = false := rf 1 (by simp)
      have p2 : w4.cell? ⟨w.heap.size, 2, none⟩ = some (.int .i64 0) := rk 2 (by simp)
      have f2 : w4.frozen? ⟨w.heap.size, 2, none⟩ = false := rf 2 (by simp)
      have p3 : w4.cell? ⟨w.heap.size, 3, none⟩ = some (.int .i64 0) := rk 3 (by simp)
      have f3 : w4.frozen? ⟨w.heap.size, 3, none⟩ = false := rf 3 (by simp)
      have p4 : w4.cell? ⟨w.heap.size, 4, none⟩ = some (.slice none 0 0) := rk 4 (by simp)
      have f4 : w4.frozen? ⟨w.heap.size, 4, none⟩ = false := rf 4 (by simp)
      have p5 : w4.cell? ⟨w.heap.size, 5, none⟩ = some (.int .i64 0) := rk 5 (by simp)
      have f5 : w4.frozen? ⟨w.heap.size, 5, none⟩ = false := rf 5 (by simp)
      have hg := StR.stL_grown w.heap.size [.slice none 0 0, .string ⟨#[]⟩, .int .i64 0, .int .i64 0, .slice none 0 0, .int .i64 9] 0 w4
      have HBF := hid_intro (HBw.out.grown hg HBw.out.size (fun k e => by simp only [Option.some.injEq] at e; omega))
      simp only [StR.stL, Nat.zero_add, Nat.reduceAdd] at HBF
      clear hg rk rf
      go_wp2_with fail
      refine bodyPost_ret (v := .agg #[.slice none 0 0, .string ⟨#[]⟩, .int .i64 0, .int .i64 0, .slice none 0 0, .int .i64 9]) (by simp [results, Tryz.results23, go_sem, p0, p1, p2, p3, p4, p5]) rfl ⟨_, rfl, by rw [HE.out.1, HE.out.2.1, HE.out.2.2]; exact loO_of (dso_nil _ _), HBF.out⟩
    · obtain ⟨⟨rl, rk⟩, rf⟩ := HR4.out
      have p0 : w4.cell? ⟨w.heap.size, 0, none⟩ = some (.slice none 0 0) := rk 0 (by simp)
      have f0 : w4.frozen? ⟨w.heap.size, 0, none⟩ = false := rf 0 (by simp)
      have p1 : w4.cell? ⟨w.heap.size, 1, none⟩ = some (.string ⟨#[]⟩) := rk 1 (by simp)
      have f1 : w4.frozen? ⟨w.heap.size, 1, none⟩ = false := rf 1 (by simp)
      have p2 : w4.cell? ⟨w.heap.size, 2, none⟩ = some (.int .i64 0) := rk 2 (by simp)
      have f2 : w4.frozen? ⟨w.heap.size, 2, none⟩ = false := rf 2 (by simp)
      have p3 : w4.cell? ⟨w.heap.size, 3, none⟩ = some (.int .i64 0) := rk 3 (by simp)
      have f3 : w4.frozen? ⟨w.heap.size, 3, none⟩ = false := rf 3 (by simp)
      have p4 : w4.cell? ⟨w.heap.size, 4, none⟩ = some (.slice none 0 0) := rk 4 (by simp)
      have f4 : w4.frozen? ⟨w.heap.size, 4, none⟩ = false := rf 4 (by simp)
      have p5 : w4.cell? ⟨w.heap.size, 5, none⟩ = some (.int .i64 0) := rk 5 (by simp)
      have f5 : w4.frozen? ⟨w.heap.size, 5, none⟩ = false := rf 5 (by simp)
      have hg := StR.stL_grown w.heap.size [.slice none 0 0, .string ⟨#[]⟩, .int .i64 0, .int .i64 0, .slice none 0 0, .int .i64 9] 0 w4
      have HBF := hid_intro (HBw.out.grown hg HBw.out.size (fun k e => by simp only [Option.some.injEq] at e; omega))
      simp only [StR.stL, Nat.zero_add, Nat.reduceAdd] at HBF
      clear hg rk rf
      go_wp2_with fail
      refine bodyPost_ret (v := .agg #[.slice none 0 0, .string ⟨#[]⟩, .int .i64 0, .int .i64 0, .slice none 0 0, .int .i64 9]) (by simp [results, Tryz.results23, go_sem, p0, p1, p2, p3, p4, p5]) rfl ⟨_, rfl, by rw [HE.out.1, HE.out.2.1, HE.out.2.2]; exact loO_of (dso_nil _ _), HBF.out⟩
  have HE := hid_intro (HGo.out.2.2.2 rfl hzz (by omega))
  have h30' : ¬ (30 : Int) ≤ (len : Int) := by omega
  have HNW : Hid (newD ds a m bl = (⟨a, m, (cc : Nat), clL G⟩ : D)) := hid_intro (by unfold newD; rw [hcc, hG0])
  rw [HNW.out] at HE
  obtain ⟨dB, hdB⟩ : ∃ z, z = w4.heap.size := ⟨_, rfl⟩
  have HD5 := BlkW.new w4 [.string a, .int .i64 m, .int .i64 (cc : Nat), .slice la1 n1 lc1] 29
  have HB5 : Below w4.heap.size w4 (w4.alloc (.cells #[.string a, .int .i64 m, .int .i64 (cc : Nat), .slice la1 n1 lc1] 29)) := (Below.refl _ _).alloc (Nat.le_refl _) _
  rw [← hdB] at HD5 HB5
  have HDB := hid_intro hdB
  replace HD5 := hid_intro HD5
  replace HB5 := hid_intro HB5
  clear hz hzz hdB
  rcases HWY.out with ⟨q1, q2⟩ | q1
  · have HLW : Hid (w.heap.size < W0.heap.size) := HLW0
    have HDW : Hid (¬ dB = w.heap.size) := hid_intro (by have := HR4.out.1.1; have := HDB.out; omega)
    have gsz4 : Hid (0 < 4) := hid_intro (by omega)
    have HDO : Hid (∀ u ∈ ([.string a, .int .i64 m, .int .i64 (cc : Nat), .slice la1 n1 lc1] : List Value), u.oneCell' = true) := hid_intro (by intro u hu; simp at hu; rcases hu with rfl | rfl | rfl | rfl <;> rfl)
    have sz1 : len + 1 ≤ maxLen := by unfold maxLen; omega
    have sz2 : (len + 1) * 56 ≤ 140737488355328 := by omega
    go_wp2_with fail
    rw [← HDB.out]
    obtain ⟨W5, hW5⟩ : ∃ z, z = w4.alloc (Obj.cells #[.string a, .int .i64 m, .int .i64 (cc : Nat), .slice la1 n1 lc1] 29) := ⟨_, rfl⟩
    have HD5 : Hid (BlkW dB [.string a, .int .i64 m, .int .i64 (cc : Nat), .slice la1 n1 lc1] W5) := hid_intro (by rw [hW5]; exact HD5.out)
    have HB5 : Hid (Below dB w4 W5) := hid_intro (by rw [hW5]; exact HB5.out)
    rw [← hW5]
    clear hW5
    have hb0 := (Below.refl W5.heap.size W5).drew
    have hB5 : Below w4.heap.size w4 W5 := by have := HB5.out; rw [HDB.out] at this; exact this
    have hB0 := (HB4.out.trans (hB5.mono HB4.out.size)).trans (hb0.mono (HB4.out.trans (hB5.mono HB4.out.size)).size)
    have hR0 := (HR4.out.below hB5).below hb0
    have hD0 := HD5.out.below hb0
    have hO0 := own_below (own_below HO4.out hB5) hb0
    have hlw : w.heap.size < W0.heap.size := HLW.out
    have HSD : Hid (∀ W, BlkW dB [.string a, .int .i64 m, .int .i64 (cc : Nat), .slice la1 n1 lc1] W → (fun W => dB < W.heap.size ∧ W.cell? ⟨dB, 0, none⟩ = some (.string a) ∧ W.cell? ⟨dB, 1, none⟩ = some (.int .i64 m) ∧ W.cell? ⟨dB, 2, none⟩ = some (.int .i64 (cc : Nat)) ∧ W.cell? ⟨dB, 3, none⟩ = some (.slice la1 n1 lc1)) W) := hid_intro (fun W h => ⟨h.1.1, h.1.2 0 (by simp), h.1.2 1 (by simp), h.1.2 2 (by simp), h.1.2 3 (by simp)⟩)
    clear hb0 hB5 HB4 HR4 HD5 HB5 HO4 HBw HWY HGo
    refine wp_region_held_drew (S := (fun W => dB < W.heap.size ∧ W.cell? ⟨dB, 0, none⟩ = some (.string a) ∧ W.cell? ⟨dB, 1, none⟩ = some (.int .i64 m) ∧ W.cell? ⟨dB, 2, none⟩ = some (.int .i64 (cc : Nat)) ∧ W.cell? ⟨dB, 3, none⟩ = some (.slice la1 n1 lc1))) (by kernel_rfl) (HSD.out _ hD0) (fun hHeld => ?_)
    generalize W5.drew = kd at *
    refine wpAnyH_take (i := 0) (oi := { dst := some 49, op := Op.move (Operand.tmp 0), type := 26, pos := "l09_ledger.go:135", after := #[], guard := none }) (v := ?_) rfl (by kernel_rfl) (by kernel_rfl) (by kernel_rfl) (fun _ _ _ h => h) (Or.inl ⟨by rfl, ?_⟩) (by assumption) ?_
    rotate_left
    · (intro w hSw; (try dsimp only at hSw); go_simp) <;> with_reducible rfl
    try simp only [Act.put, List.setIfInBounds_toArray, List.set_cons_zero, List.set_cons_succ]
    refine wpAnyH_take (i := 2) (oi := { dst := some 51, op := Op.load 29 (Operand.tmp 12), type := 29, pos := "l09_ledger.go:135", after := #[], guard := none }) (v := ?_) rfl (by kernel_rfl) (by kernel_rfl) (by kernel_rfl) (fun _ _ _ h => h) (Or.inl ⟨by rfl, ?_⟩) (by assumption) ?_
    rotate_left
    · (intro w hSw; (try dsimp only at hSw); go_simp) <;> with_reducible rfl
    try simp only [Act.put, List.setIfInBounds_toArray, List.set_cons_zero, List.set_cons_succ]
    refine wpAnyH_take (i := 5) (oi := { dst := some 54, op := Op.load 29 (Operand.tmp 12), type := 29, pos := "l09_ledger.go:135", after := #[], guard := none }) (v := ?_) rfl (by kernel_rfl) (by kernel_rfl) (by kernel_rfl) (fun _ _ _ h => h) (Or.inl ⟨by rfl, ?_⟩) (by assumption) ?_
    rotate_left
    · (intro w hSw; (try dsimp only at hSw); go_simp) <;> with_reducible rfl
    try simp only [Act.put, List.setIfInBounds_toArray, List.set_cons_zero, List.set_cons_succ]
    refine wpAnyH_ready (rs := [1, 3]) (by kernel_rfl) (by simp) ?_
    refine AllReadyH.cons (o := { dst := some 50, op := Op.call { callee := Callee.value (Operand.func 48), args := #[Operand.tmp 49], argTypes := #[26] }, type := 26, pos := "l09_ledger.go:135", after := #[{ on := 0, ground := Ground.data }], guard := none }) rfl (fun K hK => ?_) (AllReadyH.cons (o := { dst := some 52, op := Op.buildSlice 26 1 #[(0, Operand.tmp 51)], type := 26, pos := "l09_ledger.go:135", after := #[{ on := 2, ground := Ground.data }], guard := none }) rfl (fun K hK => ?_) AllReadyH.nil)
    · go_simp
      go_at_call 48
      refine (HCP.out _ hB0).mono ?_
      rintro e q1 ⟨vC, rfl, hds, hq1⟩
      try go_wp2_with fail
      have hlC : W0.heap.size ≤ kd.heap.size := hB0.size
      have hlR : w.heap.size < kd.heap.size := hR0.1.1
      have hlD : dB < kd.heap.size := hD0.1.1
      have hAp := hO0
      have hB1 := hB0.trans (hq1.mono hB0.size)
      have hR1 := hR0.below hq1
      have hD1 := hD0.below hq1
      have hO1 := own_below hO0 hq1
      obtain ⟨xs, x1, x2, x3, x4⟩ := hds
      have hap : ∀ x ∈ xs, Apt x ⟨(⟨a, m, (cc : Nat), clL G⟩ : D), la1, lc1⟩ := fun x hx b h1 h2 => by
        have p1 := ((x3 x hx).lt b h1).1
        have p2 := (hAp.lt b (show (Value.slice la1 n1 lc1).ownBlock = some b by rw [HN1.out]; exact h2)).2
        omega
      have hcb := fun k e => (x2.lt k e).1
      have hX1 := OwG.own_low x2 hlC
      have hY1 := fun x hx => OwG.own_low (x3 x hx) hlC
      clear hAp x2 x3
      have hk1 := HSD.out _ hD1
      refine hK.out _ _ hk1 (fun _ => ?_)
      clear hK K
      try simp only [Act.put, List.setIfInBounds_toArray, List.set_cons_zero, List.set_cons_succ]
      refine wpAnyH_ready (rs := [3]) (by kernel_rfl) (by simp) ?_
      refine AllReadyH.cons (o := { dst := some 52, op := Op.buildSlice 26 1 #[(0, Operand.tmp 51)], type := 26, pos := "l09_ledger.go:135", after := #[{ on := 2, ground := Ground.data }], guard := none }) rfl (fun K hK => ?_) AllReadyH.nil
      go_simp
      try go_wp2_with fail
      have hq2 : Below q1.heap.size q1 (q1.alloc (.cells #[.string a, .int .i64 m, .int .i64 (cc : Nat), .slice la1 n1 lc1] 29)) := (Below.refl _ _).alloc (Nat.le_refl _) _
      have hB2 := hB1.trans (hq2.mono hB1.size)
      have hR2 := hR1.below hq2
      have hD2 := hD1.below hq2
      have hO2 := own_below hO1 hq2
      have hX2 := own_below hX1 hq2
      have hY2 := fun x hx => own_below (hY1 x hx) hq2
      have hN2 := BlkW.new q1 [.string a, .int .i64 m, .int .i64 (cc : Nat), .slice la1 n1 lc1] 29
      have hk2 := HSD.out _ hD2
      refine hK.out _ _ hk2 (fun _ => ?_)
      clear hK K
      try simp only [Act.put, List.setIfInBounds_toArray, List.set_cons_zero, List.set_cons_succ]
      obtain ⟨nb, hnb⟩ : ∃ z, z = q1.heap.size := ⟨_, rfl⟩
      obtain ⟨k2, hke2⟩ : ∃ z, z = q1.alloc (Obj.cells #[.string a, .int .i64 m, .int .i64 (cc : Nat), .slice la1 n1 lc1] 29) := ⟨_, rfl⟩
      rw [← hnb] at hN2 ⊢
      have hlq : nb < k2.heap.size := by rw [hke2]; exact hN2.1.1
      rw [← hke2] at hB2
      rw [← hke2] at hR2
      rw [← hke2] at hD2
      rw [← hke2] at hO2
      rw [← hke2] at hN2
      rw [← hke2] at hk2
      rw [← hke2] at hX2
      simp only [← hke2] at hY2
      rw [← hke2]
      clear hq2 hke2 hnb
      refine wpAnyH_ready (rs := [4]) (by kernel_rfl) (by simp) ?_
      refine AllReadyH.cons (o := { dst := some 53, op := Op.call { callee := Callee.builtin Builtin.append, args := #[Operand.tmp 50, Operand.tmp 52], argTypes := #[26, 26] }, type := 26, pos := "l09_ledger.go:135", after := #[{ on := 1, ground := Ground.data }, { on := 3, ground := Ground.data }, { on := 1, ground := Ground.chain }], guard := none }) rfl (fun K hK => ?_) AllReadyH.nil
      have hnw := blk_add hN2
      have hx' := hX2
      rw [← HLN.out] at hx'
      refine LinR.step_append_own rfl _ _ 26 rfl W0.heap.size 29 i0 (.agg #[.string ⟨#[]⟩, .int .i64 0, .int .i64 0, .slice none 0 0]) 4 56 Tryz.underlying26 hi hz0 hz1 hz2 rfl gsz4.out _ _ _ rfl hx' ⟨nb, 0, none⟩ 1 1 [.string a, .int .i64 m, .int .i64 (cc : Nat), .slice la1 n1 lc1] rfl rfl hnw HDO.out sz1 sz2 (hB2.size) ?_
      intro v' q3 hown hgrow hne
      have hs := dso_snoc (d := (⟨a, m, (cc : Nat), clL G⟩ : D)) (la := la1) (lc := lc1) x1 hY2 x4 (by have := hO2; rw [HN1.out] at this; exact this) hap hX2 hgrow (by rw [← HLN.out, ← HN1.out]; exact hown)
      have hB3 := hB2.grown hgrow hB2.size (fun k e => (hX2.lt k e).1)
      have hR3 := OwG.blkW_grown hR2 hgrow (fun e => by have := hcb _ e.symm; omega)
      have hD3 := OwG.blkW_grown hD2 hgrow (fun e => by have := hcb _ e.symm; omega)
      obtain ⟨vo, vc, rfl, -⟩ := DsO.dcs (⟨_, hs.1, hs.2.1, hs.2.2.1, hs.2.2.2⟩ : DsO W0.heap.size v' (ds ++ [(⟨a, m, (cc : Nat), clL G⟩ : D)]) q3)
      obtain ⟨nd, hnd⟩ : ∃ z, z = (ds ++ [(⟨a, m, (cc : Nat), clL G⟩ : D)]).length := ⟨_, rfl⟩
      rw [← hnd] at hs ⊢
      have HND := hid_intro hnd
      clear hnd hown hgrow hne
      have hk3 := HSD.out _ hD3
      refine hK.out _ _ hk3 (fun _ => ?_)
      clear hK K
      try simp only [Act.put, List.setIfInBounds_toArray, List.set_cons_zero, List.set_cons_succ]
      refine wpAnyH_ready (rs := [6]) (by kernel_rfl) (by simp) ?_
      refine AllReadyH.cons (o := { dst := some 55, op := Op.call { callee := Callee.value (Operand.func 49), args := #[Operand.tmp 54], argTypes := #[29] }, type := 29, pos := "l09_ledger.go:135", after := #[{ on := 5, ground := Ground.data }, { on := 4, ground := Ground.chain }], guard := none }) rfl (fun K hK => ?_) AllReadyH.nil
      go_simp
      have hLi : Lis la1 (clL G) q3 := by
        have h := hs.2.2.1 ⟨(⟨a, m, (cc : Nat), clL G⟩ : D), la1, lc1⟩ (by simp)
        obtain ⟨_, _, e', hm⟩ := own_made (z := N.zero) N.len h
        cases e'
        exact hm.rws
      have HSC := hid_intro (sdoc (⟨a, m, (cc : Nat), clL G⟩ : D) la1 lc1 q3 (by have := HN1.out; dsimp only; omega) hLi)
      rw [show (⟨a, m, (cc : Nat), clL G⟩ : D).ls.length = n1 from HN1.out.symm] at HSC
      go_at_call 49
      refine HSC.out.mono ?_
      rintro e q4 ⟨co, cc2, rfl, hcp, hq4⟩
      try go_wp2_with fail
      have hB4 := hB3.trans (hq4.mono hB3.size)
      have hR4 := hR3.below hq4
      have hD4 := hD3.below hq4
      have hlq0 : W0.heap.size ≤ q3.heap.size := hB3.size
      have hk4 := HSD.out _ hD4
      refine hK.out _ _ hk4 (fun _ => ?_)
      clear hK K
      try simp only [Act.put, List.setIfInBounds_toArray, List.set_cons_zero, List.set_cons_succ]
      refine wpAnyH_take (i := 7) (oi := { dst := some 56, op := Op.build 31 #[(0, Operand.tmp 53), (1, Operand.tmp 55)], type := 31, pos := "l09_ledger.go:135", after := #[{ on := 4, ground := Ground.data }, { on := 6, ground := Ground.data }], guard := none }) (v := ?_) rfl (by kernel_rfl) (by kernel_rfl) (by kernel_rfl) (fun _ _ _ h => h) (Or.inl ⟨by rfl, ?_⟩) (by assumption) ?_
      rotate_left
      · (intro w hSw; (try dsimp only at hSw); go_simp) <;> with_reducible rfl
      try simp only [Act.put, List.setIfInBounds_toArray, List.set_cons_zero, List.set_cons_succ]
      refine wpAnyH_ready (rs := [8]) (by kernel_rfl) (by simp) ?_
      refine AllReadyH.cons (o := { dst := none, op := Op.store 31 (Operand.tmp 8) (Operand.tmp 56), type := 0, pos := "l09_ledger.go:135", after := #[{ on := 7, ground := Ground.data }, { on := 6, ground := Ground.chain }, { on := 0, ground := Ground.phase }, { on := 1, ground := Ground.phase }, { on := 2, ground := Ground.phase }, { on := 3, ground := Ground.phase }, { on := 4, ground := Ground.phase }, { on := 5, ground := Ground.phase }, { on := 6, ground := Ground.phase }, { on := 7, ground := Ground.phase }], guard := none }) rfl (fun K hK => ?_) AllReadyH.nil
      have hRx := hR4
      obtain ⟨⟨rl, rk⟩, rf⟩ := hRx
      have p0 : q4.cell? ⟨w.heap.size, 0, none⟩ = some (.slice none 0 0) := rk 0 (by simp)
      have f0 : q4.frozen? ⟨w.heap.size, 0, none⟩ = false := rf 0 (by simp)
      have p1 : q4.cell? ⟨w.heap.size, 1, none⟩ = some (.string ⟨#[]⟩) := rk 1 (by simp)
      have f1 : q4.frozen? ⟨w.heap.size, 1, none⟩ = false := rf 1 (by simp)
      have p2 : q4.cell? ⟨w.heap.size, 2, none⟩ = some (.int .i64 0) := rk 2 (by simp)
      have f2 : q4.frozen? ⟨w.heap.size, 2, none⟩ = false := rf 2 (by simp)
      have p3 : q4.cell? ⟨w.heap.size, 3, none⟩ = some (.int .i64 0) := rk 3 (by simp)
      have f3 : q4.frozen? ⟨w.heap.size, 3, none⟩ = false := rf 3 (by simp)
      have p4 : q4.cell? ⟨w.heap.size, 4, none⟩ = some (.slice none 0 0) := rk 4 (by simp)
      have f4 : q4.frozen? ⟨w.heap.size, 4, none⟩ = false := rf 4 (by simp)
      have p5 : q4.cell? ⟨w.heap.size, 5, none⟩ = some (.int .i64 0) := rk 5 (by simp)
      have f5 : q4.frozen? ⟨w.heap.size, 5, none⟩ = false := rf 5 (by simp)
      clear rk rf
      go_simp
      try go_wp2_with fail
      have hgr := StR.stL_grown w.heap.size [.slice vo nd vc, .string a, .int .i64 m, .int .i64 (cc : Nat), .slice co n1 cc2, .int .i64 0] 0 q4
      have hBF := (HB0.out.trans (hB4.mono HB0.out.size)).grown hgr (HB0.out.trans (hB4.mono HB0.out.size)).size (fun k e => by simp only [Option.some.injEq] at e; omega)
      have hDF := OwG.blkW_grown hD4 hgr (by simp; exact HDW.out)
      have hRF := OwG.stL_blkW hR4 (show ([.slice none 0 0, .string ⟨#[]⟩, .int .i64 0, .int .i64 0, .slice none 0 0, .int .i64 0] : List Value).length = [.slice vo nd vc, .string a, .int .i64 m, .int .i64 (cc : Nat), .slice co n1 cc2, .int .i64 0].length from rfl)
      simp only [StR.stL, Nat.zero_add, Nat.reduceAdd] at hBF hDF hRF hgr
      have hk5 := HSD.out _ hDF
      refine hK.out _ _ hk5 (fun _ => ?_)
      clear hK K
      try simp only [Act.put, List.setIfInBounds_toArray, List.set_cons_zero, List.set_cons_succ]
      refine wpAnyH_done (by kernel_rfl) ?_ _
      have HLo : Hid (LoO w.heap.size (.agg #[.slice vo nd vc, .string a, .int .i64 m, .int .i64 (cc : Nat), .slice co n1 cc2, .int .i64 0]) (ds ++ [(⟨a, m, (cc : Nat), clL G⟩ : D)]) (⟨a, m, (cc : Nat), clL G⟩ : D) 0 ((((((q4.setCell ⟨w.heap.size, 0, none⟩ (.slice vo nd vc)).setCell ⟨w.heap.size, 1, none⟩ (.string a)).setCell ⟨w.heap.size, 2, none⟩ (.int .i64 m)).setCell ⟨w.heap.size, 3, none⟩ (.int .i64 (cc : Nat))).setCell ⟨w.heap.size, 4, none⟩ (.slice co n1 cc2)).setCell ⟨w.heap.size, 5, none⟩ (.int .i64 0))) := hid_intro (by
        have e1 := HN1.out
        have e2 := HND.out
        subst e1
        subst e2
        exact lo_fin (d := (⟨a, m, (cc : Nat), clL G⟩ : D)) hlw hs.1 hs.2.1 hs.2.2.1 hs.2.2.2 hq4 hcp hlq0 hgr)
      have HBF := hid_intro hBF
      obtain ⟨⟨zl, zk⟩, -⟩ := hRF
      clear hgr hs hcp hBF hDF
      generalize ((((((q4.setCell ⟨w.heap.size, 0, none⟩ (.slice vo nd vc)).setCell ⟨w.heap.size, 1, none⟩ (.string a)).setCell ⟨w.heap.size, 2, none⟩ (.int .i64 m)).setCell ⟨w.heap.size, 3, none⟩ (.int .i64 (cc : Nat))).setCell ⟨w.heap.size, 4, none⟩ (.slice co n1 cc2)).setCell ⟨w.heap.size, 5, none⟩ (.int .i64 0)) = WF at *
      have z0 : WF.cell? ⟨w.heap.size, 0, none⟩ = some (.slice vo nd vc) := zk 0 (by simp)
      have z1 : WF.cell? ⟨w.heap.size, 1, none⟩ = some (.string a) := zk 1 (by simp)
      have z2 : WF.cell? ⟨w.heap.size, 2, none⟩ = some (.int .i64 m) := zk 2 (by simp)
      have z3 : WF.cell? ⟨w.heap.size, 3, none⟩ = some (.int .i64 (cc : Nat)) := zk 3 (by simp)
      have z4 : WF.cell? ⟨w.heap.size, 4, none⟩ = some (.slice co n1 cc2) := zk 4 (by simp)
      have z5 : WF.cell? ⟨w.heap.size, 5, none⟩ = some (.int .i64 0) := zk 5 (by simp)
      clear zk
      go_wp2_with fail
      refine bodyPost_ret (v := .agg #[.slice vo nd vc, .string a, .int .i64 m, .int .i64 (cc : Nat), .slice co n1 cc2, .int .i64 0]) (by simp [results, Tryz.results23, go_sem, z0, z1, z2, z3, z4, z5]) rfl ⟨_, rfl, by rw [HE.out.1, HE.out.2.1, HE.out.2.2]; exact HLo.out, HBF.out⟩
    · go_simp
      try go_wp2_with fail
      have hq1 : Below kd.heap.size kd (kd.alloc (.cells #[.string a, .int .i64 m, .int .i64 (cc : Nat), .slice la1 n1 lc1] 29)) := (Below.refl _ _).alloc (Nat.le_refl _) _
      have hB1 := hB0.trans (hq1.mono hB0.size)
      have hR1 := hR0.below hq1
      have hD1 := hD0.below hq1
      have hO1 := own_below hO0 hq1
      have hN1 := BlkW.new kd [.string a, .int .i64 m, .int .i64 (cc : Nat), .slice la1 n1 lc1] 29
      have hk1 := HSD.out _ hD1
      refine hK.out _ _ hk1 (fun _ => ?_)
      clear hK K
      try simp only [Act.put, List.setIfInBounds_toArray, List.set_cons_zero, List.set_cons_succ]
      obtain ⟨nb, hnb⟩ : ∃ z, z = kd.heap.size := ⟨_, rfl⟩
      obtain ⟨k1, hke1⟩ : ∃ z, z = kd.alloc (Obj.cells #[.string a, .int .i64 m, .int .i64 (cc : Nat), .slice la1 n1 lc1] 29) := ⟨_, rfl⟩
      rw [← hnb] at hN1 ⊢
      have hlq : nb < k1.heap.size := by rw [hke1]; exact hN1.1.1
      rw [← hke1] at hB1
      rw [← hke1] at hR1
      rw [← hke1] at hD1
      rw [← hke1] at hO1
      rw [← hke1] at hN1
      rw [← hke1] at hk1
      rw [← hke1]
      clear hq1 hke1 hnb
      refine wpAnyH_ready (rs := [1]) (by kernel_rfl) (by simp) ?_
      refine AllReadyH.cons (o := { dst := some 50, op := Op.call { callee := Callee.value (Operand.func 48), args := #[Operand.tmp 49], argTypes := #[26] }, type := 26, pos := "l09_ledger.go:135", after := #[{ on := 0, ground := Ground.data }], guard := none }) rfl (fun K hK => ?_) AllReadyH.nil
      go_simp
      go_at_call 48
      refine (HCP.out _ hB1).mono ?_
      rintro e q2 ⟨vC, rfl, hds, hq2⟩
      try go_wp2_with fail
      have hlC : W0.heap.size ≤ k1.heap.size := hB1.size
      have hlR : w.heap.size < k1.heap.size := hR1.1.1
      have hlD : dB < k1.heap.size := hD1.1.1
      have hAp := hO1
      have hlN : nb < k1.heap.size := hN1.1.1
      have hB2 := hB1.trans (hq2.mono hB1.size)
      have hR2 := hR1.below hq2
      have hD2 := hD1.below hq2
      have hO2 := own_below hO1 hq2
      have hN2 := hN1.below hq2
      obtain ⟨xs, x1, x2, x3, x4⟩ := hds
      have hap : ∀ x ∈ xs, Apt x ⟨(⟨a, m, (cc : Nat), clL G⟩ : D), la1, lc1⟩ := fun x hx b h1 h2 => by
        have p1 := ((x3 x hx).lt b h1).1
        have p2 := (hAp.lt b (show (Value.slice la1 n1 lc1).ownBlock = some b by rw [HN1.out]; exact h2)).2
        omega
      have hcb := fun k e => (x2.lt k e).1
      have hX2 := OwG.own_low x2 hlC
      have hY2 := fun x hx => OwG.own_low (x3 x hx) hlC
      clear hAp x2 x3
      have hk2 := HSD.out _ hD2
      refine hK.out _ _ hk2 (fun _ => ?_)
      clear hK K
      try simp only [Act.put, List.setIfInBounds_toArray, List.set_cons_zero, List.set_cons_succ]
      refine wpAnyH_ready (rs := [4]) (by kernel_rfl) (by simp) ?_
      refine AllReadyH.cons (o := { dst := some 53, op := Op.call { callee := Callee.builtin Builtin.append, args := #[Operand.tmp 50, Operand.tmp 52], argTypes := #[26, 26] }, type := 26, pos := "l09_ledger.go:135", after := #[{ on := 1, ground := Ground.data }, { on := 3, ground := Ground.data }, { on := 1, ground := Ground.chain }], guard := none }) rfl (fun K hK => ?_) AllReadyH.nil
      have hnw := blk_add hN2
      have hx' := hX2
      rw [← HLN.out] at hx'
      refine LinR.step_append_own rfl _ _ 26 rfl W0.heap.size 29 i0 (.agg #[.string ⟨#[]⟩, .int .i64 0, .int .i64 0, .slice none 0 0]) 4 56 Tryz.underlying26 hi hz0 hz1 hz2 rfl gsz4.out _ _ _ rfl hx' ⟨nb, 0, none⟩ 1 1 [.string a, .int .i64 m, .int .i64 (cc : Nat), .slice la1 n1 lc1] rfl rfl hnw HDO.out sz1 sz2 (hB2.size) ?_
      intro v' q3 hown hgrow hne
      have hs := dso_snoc (d := (⟨a, m, (cc : Nat), clL G⟩ : D)) (la := la1) (lc := lc1) x1 hY2 x4 (by have := hO2; rw [HN1.out] at this; exact this) hap hX2 hgrow (by rw [← HLN.out, ← HN1.out]; exact hown)
      have hB3 := hB2.grown hgrow hB2.size (fun k e => (hX2.lt k e).1)
      have hR3 := OwG.blkW_grown hR2 hgrow (fun e => by have := hcb _ e.symm; omega)
      have hD3 := OwG.blkW_grown hD2 hgrow (fun e => by have := hcb _ e.symm; omega)
      obtain ⟨vo, vc, rfl, -⟩ := DsO.dcs (⟨_, hs.1, hs.2.1, hs.2.2.1, hs.2.2.2⟩ : DsO W0.heap.size v' (ds ++ [(⟨a, m, (cc : Nat), clL G⟩ : D)]) q3)
      obtain ⟨nd, hnd⟩ : ∃ z, z = (ds ++ [(⟨a, m, (cc : Nat), clL G⟩ : D)]).length := ⟨_, rfl⟩
      rw [← hnd] at hs ⊢
      have HND := hid_intro hnd
      clear hnd hown hgrow hne
      have hk3 := HSD.out _ hD3
      refine hK.out _ _ hk3 (fun _ => ?_)
      clear hK K
      try simp only [Act.put, List.setIfInBounds_toArray, List.set_cons_zero, List.set_cons_succ]
      refine wpAnyH_ready (rs := [6]) (by kernel_rfl) (by simp) ?_
      refine AllReadyH.cons (o := { dst := some 55, op := Op.call { callee := Callee.value (Operand.func 49), args := #[Operand.tmp 54], argTypes := #[29] }, type := 29, pos := "l09_ledger.go:135", after := #[{ on := 5, ground := Ground.data }, { on := 4, ground := Ground.chain }], guard := none }) rfl (fun K hK => ?_) AllReadyH.nil
      go_simp
      have hLi : Lis la1 (clL G) q3 := by
        have h := hs.2.2.1 ⟨(⟨a, m, (cc : Nat), clL G⟩ : D), la1, lc1⟩ (by simp)
        obtain ⟨_, _, e', hm⟩ := own_made (z := N.zero) N.len h
        cases e'
        exact hm.rws
      have HSC := hid_intro (sdoc (⟨a, m, (cc : Nat), clL G⟩ : D) la1 lc1 q3 (by have := HN1.out; dsimp only; omega) hLi)
      rw [show (⟨a, m, (cc : Nat), clL G⟩ : D).ls.length = n1 from HN1.out.symm] at HSC
      go_at_call 49
      refine HSC.out.mono ?_
      rintro e q4 ⟨co, cc2, rfl, hcp, hq4⟩
      try go_wp2_with fail
      have hB4 := hB3.trans (hq4.mono hB3.size)
      have hR4 := hR3.below hq4
      have hD4 := hD3.below hq4
      have hlq0 : W0.heap.size ≤ q3.heap.size := hB3.size
      have hk4 := HSD.out _ hD4
      refine hK.out _ _ hk4 (fun _ => ?_)
      clear hK K
      try simp only [Act.put, List.setIfInBounds_toArray, List.set_cons_zero, List.set_cons_succ]
      refine wpAnyH_take (i := 7) (oi := { dst := some 56, op := Op.build 31 #[(0, Operand.tmp 53), (1, Operand.tmp 55)], type := 31, pos := "l09_ledger.go:135", after := #[{ on := 4, ground := Ground.data }, { on := 6, ground := Ground.data }], guard := none }) (v := ?_) rfl (by kernel_rfl) (by kernel_rfl) (by kernel_rfl) (fun _ _ _ h => h) (Or.inl ⟨by rfl, ?_⟩) (by assumption) ?_
      rotate_left
      · (intro w hSw; (try dsimp only at hSw); go_simp) <;> with_reducible rfl
      try simp only [Act.put, List.setIfInBounds_toArray, List.set_cons_zero, List.set_cons_succ]
      refine wpAnyH_ready (rs := [8]) (by kernel_rfl) (by simp) ?_
      refine AllReadyH.cons (o := { dst := none, op := Op.store 31 (Operand.tmp 8) (Operand.tmp 56), type := 0, pos := "l09_ledger.go:135", after := #[{ on := 7, ground := Ground.data }, { on := 6, ground := Ground.chain }, { on := 0, ground := Ground.phase }, { on := 1, ground := Ground.phase }, { on := 2, ground := Ground.phase }, { on := 3, ground := Ground.phase }, { on := 4, ground := Ground.phase }, { on := 5, ground := Ground.phase }, { on := 6, ground := Ground.phase }, { on := 7, ground := Ground.phase }], guard := none }) rfl (fun K hK => ?_) AllReadyH.nil
      have hRx := hR4
      obtain ⟨⟨rl, rk⟩, rf⟩ := hRx
      have p0 : q4.cell? ⟨w.heap.size, 0, none⟩ = some (.slice none 0 0) := rk 0 (by simp)
      have f0 : q4.frozen? ⟨w.heap.size, 0, none⟩ = false := rf 0 (by simp)
      have p1 : q4.cell? ⟨w.heap.size, 1, none⟩ = some (.string ⟨#[]⟩) := rk 1 (by simp)
      have f1 : q4.frozen? ⟨w.heap.size, 1, none⟩ = false := rf 1 (by simp)
      have p2 : q4.cell? ⟨w.heap.size, 2, none⟩ = some (.int .i64 0) := rk 2 (by simp)
      have f2 : q4.frozen? ⟨w.heap.size, 2, none⟩ = false := rf 2 (by simp)
      have p3 : q4.cell? ⟨w.heap.size, 3, none⟩ = some (.int .i64 0) := rk 3 (by simp)
      have f3 : q4.frozen? ⟨w.heap.size, 3, none⟩ = false := rf 3 (by simp)
      have p4 : q4.cell? ⟨w.heap.size, 4, none⟩ = some (.slice none 0 0) := rk 4 (by simp)
      have f4 : q4.frozen? ⟨w.heap.size, 4, none⟩ = false := rf 4 (by simp)
      have p5 : q4.cell? ⟨w.heap.size, 5, none⟩ = some (.int .i64 0) := rk 5 (by simp)
      have f5 : q4.frozen? ⟨w.heap.size, 5, none⟩ = false := rf 5 (by simp)
      clear rk rf
      go_simp
      try go_wp2_with fail
      have hgr := StR.stL_grown w.heap.size [.slice vo nd vc, .string a, .int .i64 m, .int .i64 (cc : Nat), .slice co n1 cc2, .int .i64 0] 0 q4
      have hBF := (HB0.out.trans (hB4.mono HB0.out.size)).grown hgr (HB0.out.trans (hB4.mono HB0.out.size)).size (fun k e => by simp only [Option.some.injEq] at e; omega)
      have hDF := OwG.blkW_grown hD4 hgr (by simp; exact HDW.out)
      have hRF := OwG.stL_blkW hR4 (show ([.slice none 0 0, .string ⟨#[]⟩, .int .i64 0, .int .i64 0, .slice none 0 0, .int .i64 0] : List Value).length = [.slice vo nd vc, .string a, .int .i64 m, .int .i64 (cc : Nat), .slice co n1 cc2, .int .i64 0].length from rfl)
      simp only [StR.stL, Nat.zero_add, Nat.reduceAdd] at hBF hDF hRF hgr
      have hk5 := HSD.out _ hDF
      refine hK.out _ _ hk5 (fun _ => ?_)
      clear hK K
      try simp only [Act.put, List.setIfInBounds_toArray, List.set_cons_zero, List.set_cons_succ]
      refine wpAnyH_done (by kernel_rfl) ?_ _
      have HLo : Hid (LoO w.heap.size (.agg #[.slice vo nd vc, .string a, .int .i64 m, .int .i64 (cc : Nat), .slice co n1 cc2, .int .i64 0]) (ds ++ [(⟨a, m, (cc : Nat), clL G⟩ : D)]) (⟨a, m, (cc : Nat), clL G⟩ : D) 0 ((((((q4.setCell ⟨w.heap.size, 0, none⟩ (.slice vo nd vc)).setCell ⟨w.heap.size, 1, none⟩ (.string a)).setCell ⟨w.heap.size, 2, none⟩ (.int .i64 m)).setCell ⟨w.heap.size, 3, none⟩ (.int .i64 (cc : Nat))).setCell ⟨w.heap.size, 4, none⟩ (.slice co n1 cc2)).setCell ⟨w.heap.size, 5, none⟩ (.int .i64 0))) := hid_intro (by
        have e1 := HN1.out
        have e2 := HND.out
        subst e1
        subst e2
        exact lo_fin (d := (⟨a, m, (cc : Nat), clL G⟩ : D)) hlw hs.1 hs.2.1 hs.2.2.1 hs.2.2.2 hq4 hcp hlq0 hgr)
      have HBF := hid_intro hBF
      obtain ⟨⟨zl, zk⟩, -⟩ := hRF
      clear hgr hs hcp hBF hDF
      generalize ((((((q4.setCell ⟨w.heap.size, 0, none⟩ (.slice vo nd vc)).setCell ⟨w.heap.size, 1, none⟩ (.string a)).setCell ⟨w.heap.size, 2, none⟩ (.int .i64 m)).setCell ⟨w.heap.size, 3, none⟩ (.int .i64 (cc : Nat))).setCell ⟨w.heap.size, 4, none⟩ (.slice co n1 cc2)).setCell ⟨w.heap.size, 5, none⟩ (.int .i64 0)) = WF at *
      have z0 : WF.cell? ⟨w.heap.size, 0, none⟩ = some (.slice vo nd vc) := zk 0 (by simp)
      have z1 : WF.cell? ⟨w.heap.size, 1, none⟩ = some (.string a) := zk 1 (by simp)
      have z2 : WF.cell? ⟨w.heap.size, 2, none⟩ = some (.int .i64 m) := zk 2 (by simp)
      have z3 : WF.cell? ⟨w.heap.size, 3, none⟩ = some (.int .i64 (cc : Nat)) := zk 3 (by simp)
      have z4 : WF.cell? ⟨w.heap.size, 4, none⟩ = some (.slice co n1 cc2) := zk 4 (by simp)
      have z5 : WF.cell? ⟨w.heap.size, 5, none⟩ = some (.int .i64 0) := zk 5 (by simp)
      clear zk
      go_wp2_with fail
      refine bodyPost_ret (v := .agg #[.slice vo nd vc, .string a, .int .i64 m, .int .i64 (cc : Nat), .slice co n1 cc2, .int .i64 0]) (by simp [results, Tryz.results23, go_sem, z0, z1, z2, z3, z4, z5]) rfl ⟨_, rfl, by rw [HE.out.1, HE.out.2.1, HE.out.2.2]; exact HLo.out, HBF.out⟩
  · have HLW : Hid (w.heap.size < W0.heap.size) := HLW0
    have HDW : Hid (¬ dB = w.heap.size) := hid_intro (by have := HR4.out.1.1; have := HDB.out; omega)
    have gsz4 : Hid (0 < 4) := hid_intro (by omega)
    have HDO : Hid (∀ u ∈ ([.string a, .int .i64 m, .int .i64 (cc : Nat), .slice la1 n1 lc1] : List Value), u.oneCell' = true) := hid_intro (by intro u hu; simp at hu; rcases hu with rfl | rfl | rfl | rfl <;> rfl)
    have sz1 : len + 1 ≤ maxLen := by unfold maxLen; omega
    have sz2 : (len + 1) * 56 ≤ 140737488355328 := by omega
    go_wp2_with fail
    rw [← HDB.out]
    obtain ⟨W5, hW5⟩ : ∃ z, z = w4.alloc (Obj.cells #[.string a, .int .i64 m, .int .i64 (cc : Nat), .slice la1 n1 lc1] 29) := ⟨_, rfl⟩
    have HD5 : Hid (BlkW dB [.string a, .int .i64 m, .int .i64 (cc : Nat), .slice la1 n1 lc1] W5) := hid_intro (by rw [hW5]; exact HD5.out)
    have HB5 : Hid (Below dB w4 W5) := hid_intro (by rw [hW5]; exact HB5.out)
    rw [← hW5]
    clear hW5
    have hb0 := (Below.refl W5.heap.size W5).drew
    have hB5 : Below w4.heap.size w4 W5 := by have := HB5.out; rw [HDB.out] at this; exact this
    have hB0 := (HB4.out.trans (hB5.mono HB4.out.size)).trans (hb0.mono (HB4.out.trans (hB5.mono HB4.out.size)).size)
    have hR0 := (HR4.out.below hB5).below hb0
    have hD0 := HD5.out.below hb0
    have hO0 := own_below (own_below HO4.out hB5) hb0
    have hlw : w.heap.size < W0.heap.size := HLW.out
    have HSD : Hid (∀ W, BlkW dB [.string a, .int .i64 m, .int .i64 (cc : Nat), .slice la1 n1 lc1] W → (fun W => dB < W.heap.size ∧ W.cell? ⟨dB, 0, none⟩ = some (.string a) ∧ W.cell? ⟨dB, 1, none⟩ = some (.int .i64 m) ∧ W.cell? ⟨dB, 2, none⟩ = some (.int .i64 (cc : Nat)) ∧ W.cell? ⟨dB, 3, none⟩ = some (.slice la1 n1 lc1)) W) := hid_intro (fun W h => ⟨h.1.1, h.1.2 0 (by simp), h.1.2 1 (by simp), h.1.2 2 (by simp), h.1.2 3 (by simp)⟩)
    clear hb0 hB5 HB4 HR4 HD5 HB5 HO4 HBw HWY HGo
    refine wp_region_held_drew (S := (fun W => dB < W.heap.size ∧ W.cell? ⟨dB, 0, none⟩ = some (.string a) ∧ W.cell? ⟨dB, 1, none⟩ = some (.int .i64 m) ∧ W.cell? ⟨dB, 2, none⟩ = some (.int .i64 (cc : Nat)) ∧ W.cell? ⟨dB, 3, none⟩ = some (.slice la1 n1 lc1))) (by kernel_rfl) (HSD.out _ hD0) (fun hHeld => ?_)
    generalize W5.drew = kd at *
    refine wpAnyH_take (i := 0) (oi := { dst := some 49, op := Op.move (Operand.tmp 0), type := 26, pos := "l09_ledger.go:135", after := #[], guard := none }) (v := ?_) rfl (by kernel_rfl) (by kernel_rfl) (by kernel_rfl) (fun _ _ _ h => h) (Or.inl ⟨by rfl, ?_⟩) (by assumption) ?_
    rotate_left
    · (intro w hSw; (try dsimp only at hSw); go_simp) <;> with_reducible rfl
    try simp only [Act.put, List.setIfInBounds_toArray, List.set_cons_zero, List.set_cons_succ]
    refine wpAnyH_take (i := 2) (oi := { dst := some 51, op := Op.load 29 (Operand.tmp 12), type := 29, pos := "l09_ledger.go:135", after := #[], guard := none }) (v := ?_) rfl (by kernel_rfl) (by kernel_rfl) (by kernel_rfl) (fun _ _ _ h => h) (Or.inl ⟨by rfl, ?_⟩) (by assumption) ?_
    rotate_left
    · (intro w hSw; (try dsimp only at hSw); go_simp) <;> with_reducible rfl
    try simp only [Act.put, List.setIfInBounds_toArray, List.set_cons_zero, List.set_cons_succ]
    refine wpAnyH_take (i := 5) (oi := { dst := some 54, op := Op.load 29 (Operand.tmp 12), type := 29, pos := "l09_ledger.go:135", after := #[], guard := none }) (v := ?_) rfl (by kernel_rfl) (by kernel_rfl) (by kernel_rfl) (fun _ _ _ h => h) (Or.inl ⟨by rfl, ?_⟩) (by assumption) ?_
    rotate_left
    · (intro w hSw; (try dsimp only at hSw); go_simp) <;> with_reducible rfl
    try simp only [Act.put, List.setIfInBounds_toArray, List.set_cons_zero, List.set_cons_succ]
    refine wpAnyH_ready (rs := [1, 3]) (by kernel_rfl) (by simp) ?_
    refine AllReadyH.cons (o := { dst := some 50, op := Op.call { callee := Callee.value (Operand.func 48), args := #[Operand.tmp 49], argTypes := #[26] }, type := 26, pos := "l09_ledger.go:135", after := #[{ on := 0, ground := Ground.data }], guard := none }) rfl (fun K hK => ?_) (AllReadyH.cons (o := { dst := some 52, op := Op.buildSlice 26 1 #[(0, Operand.tmp 51)], type := 26, pos := "l09_ledger.go:135", after := #[{ on := 2, ground := Ground.data }], guard := none }) rfl (fun K hK => ?_) AllReadyH.nil)
    · go_simp
      go_at_call 48
      refine (HCP.out _ hB0).mono ?_
      rintro e q1 ⟨vC, rfl, hds, hq1⟩
      try go_wp2_with fail
      have hlC : W0.heap.size ≤ kd.heap.size := hB0.size
      have hlR : w.heap.size < kd.heap.size := hR0.1.1
      have hlD : dB < kd.heap.size := hD0.1.1
      have hAp := hO0
      have hB1 := hB0.trans (hq1.mono hB0.size)
      have hR1 := hR0.below hq1
      have hD1 := hD0.below hq1
      have hO1 := own_below hO0 hq1
      obtain ⟨xs, x1, x2, x3, x4⟩ := hds
      have hap : ∀ x ∈ xs, Apt x ⟨(⟨a, m, (cc : Nat), clL G⟩ : D), la1, lc1⟩ := fun x hx b h1 h2 => by
        have p1 := ((x3 x hx).lt b h1).1
        have p2 := (hAp.lt b (show (Value.slice la1 n1 lc1).ownBlock = some b by rw [HN1.out]; exact h2)).2
        omega
      have hcb := fun k e => (x2.lt k e).1
      have hX1 := OwG.own_low x2 hlC
      have hY1 := fun x hx => OwG.own_low (x3 x hx) hlC
      clear hAp x2 x3
      have hk1 := HSD.out _ hD1
      refine hK.out _ _ hk1 (fun _ => ?_)
      clear hK K
      try simp only [Act.put, List.setIfInBounds_toArray, List.set_cons_zero, List.set_cons_succ]
      refine wpAnyH_ready (rs := [3]) (by kernel_rfl) (by simp) ?_
      refine AllReadyH.cons (o := { dst := some 52, op := Op.buildSlice 26 1 #[(0, Operand.tmp 51)], type := 26, pos := "l09_ledger.go:135", after := #[{ on := 2, ground := Ground.data }], guard := none }) rfl (fun K hK => ?_) AllReadyH.nil
      go_simp
      try go_wp2_with fail
      have hq2 : Below q1.heap.size q1 (q1.alloc (.cells #[.string a, .int .i64 m, .int .i64 (cc : Nat), .slice la1 n1 lc1] 29)) := (Below.refl _ _).alloc (Nat.le_refl _) _
      have hB2 := hB1.trans (hq2.mono hB1.size)
      have hR2 := hR1.below hq2
      have hD2 := hD1.below hq2
      have hO2 := own_below hO1 hq2
      have hX2 := own_below hX1 hq2
      have hY2 := fun x hx => own_below (hY1 x hx) hq2
      have hN2 := BlkW.new q1 [.string a, .int .i64 m, .int .i64 (cc : Nat), .slice la1 n1 lc1] 29
      have hk2 := HSD.out _ hD2
      refine hK.out _ _ hk2 (fun _ => ?_)
      clear hK K
      try simp only [Act.put, List.setIfInBounds_toArray, List.set_cons_zero, List.set_cons_succ]
      obtain ⟨nb, hnb⟩ : ∃ z, z = q1.heap.size := ⟨_, rfl⟩
      obtain ⟨k2, hke2⟩ : ∃ z, z = q1.alloc (Obj.cells #[.string a, .int .i64 m, .int .i64 (cc : Nat), .slice la1 n1 lc1] 29) := ⟨_, rfl⟩
      rw [← hnb] at hN2 ⊢
      have hlq : nb < k2.heap.size := by rw [hke2]; exact hN2.1.1
      rw [← hke2] at hB2
      rw [← hke2] at hR2
      rw [← hke2] at hD2
      rw [← hke2] at hO2
      rw [← hke2] at hN2
      rw [← hke2] at hk2
      rw [← hke2] at hX2
      simp only [← hke2] at hY2
      rw [← hke2]
      clear hq2 hke2 hnb
      refine wpAnyH_ready (rs := [4]) (by kernel_rfl) (by simp) ?_
      refine AllReadyH.cons (o := { dst := some 53, op := Op.call { callee := Callee.builtin Builtin.append, args := #[Operand.tmp 50, Operand.tmp 52], argTypes := #[26, 26] }, type := 26, pos := "l09_ledger.go:135", after := #[{ on := 1, ground := Ground.data }, { on := 3, ground := Ground.data }, { on := 1, ground := Ground.chain }], guard := none }) rfl (fun K hK => ?_) AllReadyH.nil
      have hnw := blk_add hN2
      have hx' := hX2
      rw [← HLN.out] at hx'
      refine LinR.step_append_own rfl _ _ 26 rfl W0.heap.size 29 i0 (.agg #[.string ⟨#[]⟩, .int .i64 0, .int .i64 0, .slice none 0 0]) 4 56 Tryz.underlying26 hi hz0 hz1 hz2 rfl gsz4.out _ _ _ rfl hx' ⟨nb, 0, none⟩ 1 1 [.string a, .int .i64 m, .int .i64 (cc : Nat), .slice la1 n1 lc1] rfl rfl hnw HDO.out sz1 sz2 (hB2.size) ?_
      intro v' q3 hown hgrow hne
      have hs := dso_snoc (d := (⟨a, m, (cc : Nat), clL G⟩ : D)) (la := la1) (lc := lc1) x1 hY2 x4 (by have := hO2; rw [HN1.out] at this; exact this) hap hX2 hgrow (by rw [← HLN.out, ← HN1.out]; exact hown)
      have hB3 := hB2.grown hgrow hB2.size (fun k e => (hX2.lt k e).1)
      have hR3 := OwG.blkW_grown hR2 hgrow (fun e => by have := hcb _ e.symm; omega)
      have hD3 := OwG.blkW_grown hD2 hgrow (fun e => by have := hcb _ e.symm; omega)
      obtain ⟨vo, vc, rfl, -⟩ := DsO.dcs (⟨_, hs.1, hs.2.1, hs.2.2.1, hs.2.2.2⟩ : DsO W0.heap.size v' (ds ++ [(⟨a, m, (cc : Nat), clL G⟩ : D)]) q3)
      obtain ⟨nd, hnd⟩ : ∃ z, z = (ds ++ [(⟨a, m, (cc : Nat), clL G⟩ : D)]).length := ⟨_, rfl⟩
      rw [← hnd] at hs ⊢
      have HND := hid_intro hnd
      clear hnd hown hgrow hne
      have hk3 := HSD.out _ hD3
      refine hK.out _ _ hk3 (fun _ => ?_)
      clear hK K
      try simp only [Act.put, List.setIfInBounds_toArray, List.set_cons_zero, List.set_cons_succ]
      refine wpAnyH_ready (rs := [6]) (by kernel_rfl) (by simp) ?_
      refine AllReadyH.cons (o := { dst := some 55, op := Op.call { callee := Callee.value (Operand.func 49), args := #[Operand.tmp 54], argTypes := #[29] }, type := 29, pos := "l09_ledger.go:135", after := #[{ on := 5, ground := Ground.data }, { on := 4, ground := Ground.chain }], guard := none }) rfl (fun K hK => ?_) AllReadyH.nil
      go_simp
      have hLi : Lis la1 (clL G) q3 := by
        have h := hs.2.2.1 ⟨(⟨a, m, (cc : Nat), clL G⟩ : D), la1, lc1⟩ (by simp)
        obtain ⟨_, _, e', hm⟩ := own_made (z := N.zero) N.len h
        cases e'
        exact hm.rws
      have HSC := hid_intro (sdoc (⟨a, m, (cc : Nat), clL G⟩ : D) la1 lc1 q3 (by have := HN1.out; dsimp only; omega) hLi)
      rw [show (⟨a, m, (cc : Nat), clL G⟩ : D).ls.length = n1 from HN1.out.symm] at HSC
      go_at_call 49
      refine HSC.out.mono ?_
      rintro e q4 ⟨co, cc2, rfl, hcp, hq4⟩
      try go_wp2_with fail
      have hB4 := hB3.trans (hq4.mono hB3.size)
      have hR4 := hR3.below hq4
      have hD4 := hD3.below hq4
      have hlq0 : W0.heap.size ≤ q3.heap.size := hB3.size
      have hk4 := HSD.out _ hD4
      refine hK.out _ _ hk4 (fun _ => ?_)
      clear hK K
      try simp only [Act.put, List.setIfInBounds_toArray, List.set_cons_zero, List.set_cons_succ]
      refine wpAnyH_take (i := 7) (oi := { dst := some 56, op := Op.build 31 #[(0, Operand.tmp 53), (1, Operand.tmp 55)], type := 31, pos := "l09_ledger.go:135", after := #[{ on := 4, ground := Ground.data }, { on := 6, ground := Ground.data }], guard := none }) (v := ?_) rfl (by kernel_rfl) (by kernel_rfl) (by kernel_rfl) (fun _ _ _ h => h) (Or.inl ⟨by rfl, ?_⟩) (by assumption) ?_
      rotate_left
      · (intro w hSw; (try dsimp only at hSw); go_simp) <;> with_reducible rfl
      try simp only [Act.put, List.setIfInBounds_toArray, List.set_cons_zero, List.set_cons_succ]
      refine wpAnyH_ready (rs := [8]) (by kernel_rfl) (by simp) ?_
      refine AllReadyH.cons (o := { dst := none, op := Op.store 31 (Operand.tmp 8) (Operand.tmp 56), type := 0, pos := "l09_ledger.go:135", after := #[{ on := 7, ground := Ground.data }, { on := 6, ground := Ground.chain }, { on := 0, ground := Ground.phase }, { on := 1, ground := Ground.phase }, { on := 2, ground := Ground.phase }, { on := 3, ground := Ground.phase }, { on := 4, ground := Ground.phase }, { on := 5, ground := Ground.phase }, { on := 6, ground := Ground.phase }, { on := 7, ground := Ground.phase }], guard := none }) rfl (fun K hK => ?_) AllReadyH.nil
      have hRx := hR4
      obtain ⟨⟨rl, rk⟩, rf⟩ := hRx
      have p0 : q4.cell? ⟨w.heap.size, 0, none⟩ = some (.slice none 0 0) := rk 0 (by simp)
      have f0 : q4.frozen? ⟨w.heap.size, 0, none⟩ = false := rf 0 (by simp)
      have p1 : q4.cell? ⟨w.heap.size, 1, none⟩ = some (.string ⟨#[]⟩) := rk 1 (by simp)
      have f1 : q4.frozen? ⟨w.heap.size, 1, none⟩ = false := rf 1 (by simp)
      have p2 : q4.cell? ⟨w.heap.size, 2, none⟩ = some (.int .i64 0) := rk 2 (by simp)
      have f2 : q4.frozen? ⟨w.heap.size, 2, none⟩ = false := rf 2 (by simp)
      have p3 : q4.cell? ⟨w.heap.size, 3, none⟩ = some (.int .i64 0) := rk 3 (by simp)
      have f3 : q4.frozen? ⟨w.heap.size, 3, none⟩ = false := rf 3 (by simp)
      have p4 : q4.cell? ⟨w.heap.size, 4, none⟩ = some (.slice none 0 0) := rk 4 (by simp)
      have f4 : q4.frozen? ⟨w.heap.size, 4, none⟩ = false := rf 4 (by simp)
      have p5 : q4.cell? ⟨w.heap.size, 5, none⟩ = some (.int .i64 0) := rk 5 (by simp)
      have f5 : q4.frozen? ⟨w.heap.size, 5, none⟩ = false := rf 5 (by simp)
      clear rk rf
      go_simp
      try go_wp2_with fail
      have hgr := StR.stL_grown w.heap.size [.slice vo nd vc, .string a, .int .i64 m, .int .i64 (cc : Nat), .slice co n1 cc2, .int .i64 0] 0 q4
      have hBF := (HB0.out.trans (hB4.mono HB0.out.size)).grown hgr (HB0.out.trans (hB4.mono HB0.out.size)).size (fun k e => by simp only [Option.some.injEq] at e; omega)
      have hDF := OwG.blkW_grown hD4 hgr (by simp; exact HDW.out)
      have hRF := OwG.stL_blkW hR4 (show ([.slice none 0 0, .string ⟨#[]⟩, .int .i64 0, .int .i64 0, .slice none 0 0, .int .i64 0] : List Value).length = [.slice vo nd vc, .string a, .int .i64 m, .int .i64 (cc : Nat), .slice co n1 cc2, .int .i64 0].length from rfl)
      simp only [StR.stL, Nat.zero_add, Nat.reduceAdd] at hBF hDF hRF hgr
      have hk5 := HSD.out _ hDF
      refine hK.out _ _ hk5 (fun _ => ?_)
      clear hK K
      try simp only [Act.put, List.setIfInBounds_toArray, List.set_cons_zero, List.set_cons_succ]
      refine wpAnyH_done (by kernel_rfl) ?_ _
      have HLo : Hid (LoO w.heap.size (.agg #[.slice vo nd vc, .string a, .int .i64 m, .int .i64 (cc : Nat), .slice co n1 cc2, .int .i64 0]) (ds ++ [(⟨a, m, (cc : Nat), clL G⟩ : D)]) (⟨a, m, (cc : Nat), clL G⟩ : D) 0 ((((((q4.setCell ⟨w.heap.size, 0, none⟩ (.slice vo nd vc)).setCell ⟨w.heap.size, 1, none⟩ (.string a)).setCell ⟨w.heap.size, 2, none⟩ (.int .i64 m)).setCell ⟨w.heap.size, 3, none⟩ (.int .i64 (cc : Nat))).setCell ⟨w.heap.size, 4, none⟩ (.slice co n1 cc2)).setCell ⟨w.heap.size, 5, none⟩ (.int .i64 0))) := hid_intro (by
        have e1 := HN1.out
        have e2 := HND.out
        subst e1
        subst e2
        exact lo_fin (d := (⟨a, m, (cc : Nat), clL G⟩ : D)) hlw hs.1 hs.2.1 hs.2.2.1 hs.2.2.2 hq4 hcp hlq0 hgr)
      have HBF := hid_intro hBF
      obtain ⟨⟨zl, zk⟩, -⟩ := hRF
      clear hgr hs hcp hBF hDF
      generalize ((((((q4.setCell ⟨w.heap.size, 0, none⟩ (.slice vo nd vc)).setCell ⟨w.heap.size, 1, none⟩ (.string a)).setCell ⟨w.heap.size, 2, none⟩ (.int .i64 m)).setCell ⟨w.heap.size, 3, none⟩ (.int .i64 (cc : Nat))).setCell ⟨w.heap.size, 4, none⟩ (.slice co n1 cc2)).setCell ⟨w.heap.size, 5, none⟩ (.int .i64 0)) = WF at *
      have z0 : WF.cell? ⟨w.heap.size, 0, none⟩ = some (.slice vo nd vc) := zk 0 (by simp)
      have z1 : WF.cell? ⟨w.heap.size, 1, none⟩ = some (.string a) := zk 1 (by simp)
      have z2 : WF.cell? ⟨w.heap.size, 2, none⟩ = some (.int .i64 m) := zk 2 (by simp)
      have z3 : WF.cell? ⟨w.heap.size, 3, none⟩ = some (.int .i64 (cc : Nat)) := zk 3 (by simp)
      have z4 : WF.cell? ⟨w.heap.size, 4, none⟩ = some (.slice co n1 cc2) := zk 4 (by simp)
      have z5 : WF.cell? ⟨w.heap.size, 5, none⟩ = some (.int .i64 0) := zk 5 (by simp)
      clear zk
      go_wp2_with fail
      refine bodyPost_ret (v := .agg #[.slice vo nd vc, .string a, .int .i64 m, .int .i64 (cc : Nat), .slice co n1 cc2, .int .i64 0]) (by simp [results, Tryz.results23, go_sem, z0, z1, z2, z3, z4, z5]) rfl ⟨_, rfl, by rw [HE.out.1, HE.out.2.1, HE.out.2.2]; exact HLo.out, HBF.out⟩
    · go_simp
      try go_wp2_with fail
      have hq1 : Below kd.heap.size kd (kd.alloc (.cells #[.string a, .int .i64 m, .int .i64 (cc : Nat), .slice la1 n1 lc1] 29)) := (Below.refl _ _).alloc (Nat.le_refl _) _
      have hB1 := hB0.trans (hq1.mono hB0.size)
      have hR1 := hR0.below hq1
      have hD1 := hD0.below hq1
      have hO1 := own_below hO0 hq1
      have hN1 := BlkW.new kd [.string a, .int .i64 m, .int .i64 (cc : Nat), .slice la1 n1 lc1] 29
      have hk1 := HSD.out _ hD1
      refine hK.out _ _ hk1 (fun _ => ?_)
      clear hK K
      try simp only [Act.put, List.setIfInBounds_toArray, List.set_cons_zero, List.set_cons_succ]
      obtain ⟨nb, hnb⟩ : ∃ z, z = kd.heap.size := ⟨_, rfl⟩
      obtain ⟨k1, hke1⟩ : ∃ z, z = kd.alloc (Obj.cells #[.string a, .int .i64 m, .int .i64 (cc : Nat), .slice la1 n1 lc1] 29) := ⟨_, rfl⟩
      rw [← hnb] at hN1 ⊢
      have hlq : nb < k1.heap.size := by rw [hke1]; exact hN1.1.1
      rw [← hke1] at hB1
      rw [← hke1] at hR1
      rw [← hke1] at hD1
      rw [← hke1] at hO1
      rw [← hke1] at hN1
      rw [← hke1] at hk1
      rw [← hke1]
      clear hq1 hke1 hnb
      refine wpAnyH_ready (rs := [1]) (by kernel_rfl) (by simp) ?_
      refine AllReadyH.cons (o := { dst := some 50, op := Op.call { callee := Callee.value (Operand.func 48), args := #[Operand.tmp 49], argTypes := #[26] }, type := 26, pos := "l09_ledger.go:135", after := #[{ on := 0, ground := Ground.data }], guard := none }) rfl (fun K hK => ?_) AllReadyH.nil
      go_simp
      go_at_call 48
      refine (HCP.out _ hB1).mono ?_
      rintro e q2 ⟨vC, rfl, hds, hq2⟩
      try go_wp2_with fail
      have hlC : W0.heap.size ≤ k1.heap.size := hB1.size
      have hlR : w.heap.size < k1.heap.size := hR1.1.1
      have hlD : dB < k1.heap.size := hD1.1.1
      have hAp := hO1
      have hlN : nb < k1.heap.size := hN1.1.1
      have hB2 := hB1.trans (hq2.mono hB1.size)
      have hR2 := hR1.below hq2
      have hD2 := hD1.below hq2
      have hO2 := own_below hO1 hq2
      have hN2 := hN1.below hq2
      obtain ⟨xs, x1, x2, x3, x4⟩ := hds
      have hap : ∀ x ∈ xs, Apt x ⟨(⟨a, m, (cc : Nat), clL G⟩ : D), la1, lc1⟩ := fun x hx b h1 h2 => by
        have p1 := ((x3 x hx).lt b h1).1
        have p2 := (hAp.lt b (show (Value.slice la1 n1 lc1).ownBlock = some b by rw [HN1.out]; exact h2)).2
        omega
      have hcb := fun k e => (x2.lt k e).1
      have hX2 := OwG.own_low x2 hlC
      have hY2 := fun x hx => OwG.own_low (x3 x hx) hlC
      clear hAp x2 x3
      have hk2 := HSD.out _ hD2
      refine hK.out _ _ hk2 (fun _ => ?_)
      clear hK K
      try simp only [Act.put, List.setIfInBounds_toArray, List.set_cons_zero, List.set_cons_succ]
      refine wpAnyH_ready (rs := [4]) (by kernel_rfl) (by simp) ?_
      refine AllReadyH.cons (o := { dst := some 53, op := Op.call { callee := Callee.builtin Builtin.append, args := #[Operand.tmp 50, Operand.tmp 52], argTypes := #[26, 26] }, type := 26, pos := "l09_ledger.go:135", after := #[{ on := 1, ground := Ground.data }, { on := 3, ground := Ground.data }, { on := 1, ground := Ground.chain }], guard := none }) rfl (fun K hK => ?_) AllReadyH.nil
      have hnw := blk_add hN2
      have hx' := hX2
      rw [← HLN.out] at hx'
      refine LinR.step_append_own rfl _ _ 26 rfl W0.heap.size 29 i0 (.agg #[.string ⟨#[]⟩, .int .i64 0, .int .i64 0, .slice none 0 0]) 4 56 Tryz.underlying26 hi hz0 hz1 hz2 rfl gsz4.out _ _ _ rfl hx' ⟨nb, 0, none⟩ 1 1 [.string a, .int .i64 m, .int .i64 (cc : Nat), .slice la1 n1 lc1] rfl rfl hnw HDO.out sz1 sz2 (hB2.size) ?_
      intro v' q3 hown hgrow hne
      have hs := dso_snoc (d := (⟨a, m, (cc : Nat), clL G⟩ : D)) (la := la1) (lc := lc1) x1 hY2 x4 (by have := hO2; rw [HN1.out] at this; exact this) hap hX2 hgrow (by rw [← HLN.out, ← HN1.out]; exact hown)
      have hB3 := hB2.grown hgrow hB2.size (fun k e => (hX2.lt k e).1)
      have hR3 := OwG.blkW_grown hR2 hgrow (fun e => by have := hcb _ e.symm; omega)
      have hD3 := OwG.blkW_grown hD2 hgrow (fun e => by have := hcb _ e.symm; omega)
      obtain ⟨vo, vc, rfl, -⟩ := DsO.dcs (⟨_, hs.1, hs.2.1, hs.2.2.1, hs.2.2.2⟩ : DsO W0.heap.size v' (ds ++ [(⟨a, m, (cc : Nat), clL G⟩ : D)]) q3)
      obtain ⟨nd, hnd⟩ : ∃ z, z = (ds ++ [(⟨a, m, (cc : Nat), clL G⟩ : D)]).length := ⟨_, rfl⟩
      rw [← hnd] at hs ⊢
      have HND := hid_intro hnd
      clear hnd hown hgrow hne
      have hk3 := HSD.out _ hD3
      refine hK.out _ _ hk3 (fun _ => ?_)
      clear hK K
      try simp only [Act.put, List.setIfInBounds_toArray, List.set_cons_zero, List.set_cons_succ]
      refine wpAnyH_ready (rs := [6]) (by kernel_rfl) (by simp) ?_
      refine AllReadyH.cons (o := { dst := some 55, op := Op.call { callee := Callee.value (Operand.func 49), args := #[Operand.tmp 54], argTypes := #[29] }, type := 29, pos := "l09_ledger.go:135", after := #[{ on := 5, ground := Ground.data }, { on := 4, ground := Ground.chain }], guard := none }) rfl (fun K hK => ?_) AllReadyH.nil
      go_simp
      have hLi : Lis la1 (clL G) q3 := by
        have h := hs.2.2.1 ⟨(⟨a, m, (cc : Nat), clL G⟩ : D), la1, lc1⟩ (by simp)
        obtain ⟨_, _, e', hm⟩ := own_made (z := N.zero) N.len h
        cases e'
        exact hm.rws
      have HSC := hid_intro (sdoc (⟨a, m, (cc : Nat), clL G⟩ : D) la1 lc1 q3 (by have := HN1.out; dsimp only; omega) hLi)
      rw [show (⟨a, m, (cc : Nat), clL G⟩ : D).ls.length = n1 from HN1.out.symm] at HSC
      go_at_call 49
      refine HSC.out.mono ?_
      rintro e q4 ⟨co, cc2, rfl, hcp, hq4⟩
      try go_wp2_with fail
      have hB4 := hB3.trans (hq4.mono hB3.size)
      have hR4 := hR3.below hq4
      have hD4 := hD3.below hq4
      have hlq0 : W0.heap.size ≤ q3.heap.size := hB3.size
      have hk4 := HSD.out _ hD4
      refine hK.out _ _ hk4 (fun _ => ?_)
      clear hK K
      try simp only [Act.put, List.setIfInBounds_toArray, List.set_cons_zero, List.set_cons_succ]
      refine wpAnyH_take (i := 7) (oi := { dst := some 56, op := Op.build 31 #[(0, Operand.tmp 53), (1, Operand.tmp 55)], type := 31, pos := "l09_ledger.go:135", after := #[{ on := 4, ground := Ground.data }, { on := 6, ground := Ground.data }], guard := none }) (v := ?_) rfl (by kernel_rfl) (by kernel_rfl) (by kernel_rfl) (fun _ _ _ h => h) (Or.inl ⟨by rfl, ?_⟩) (by assumption) ?_
      rotate_left
      · (intro w hSw; (try dsimp only at hSw); go_simp) <;> with_reducible rfl
      try simp only [Act.put, List.setIfInBounds_toArray, List.set_cons_zero, List.set_cons_succ]
      refine wpAnyH_ready (rs := [8]) (by kernel_rfl) (by simp) ?_
      refine AllReadyH.cons (o := { dst := none, op := Op.store 31 (Operand.tmp 8) (Operand.tmp 56), type := 0, pos := "l09_ledger.go:135", after := #[{ on := 7, ground := Ground.data }, { on := 6, ground := Ground.chain }, { on := 0, ground := Ground.phase }, { on := 1, ground := Ground.phase }, { on := 2, ground := Ground.phase }, { on := 3, ground := Ground.phase }, { on := 4, ground := Ground.phase }, { on := 5, ground := Ground.phase }, { on := 6, ground := Ground.phase }, { on := 7, ground := Ground.phase }], guard := none }) rfl (fun K hK => ?_) AllReadyH.nil
      have hRx := hR4
      obtain ⟨⟨rl, rk⟩, rf⟩ := hRx
      have p0 : q4.cell? ⟨w.heap.size, 0, none⟩ = some (.slice none 0 0) := rk 0 (by simp)
      have f0 : q4.frozen? ⟨w.heap.size, 0, none⟩ = false := rf 0 (by simp)
      have p1 : q4.cell? ⟨w.heap.size, 1, none⟩ = some (.string ⟨#[]⟩) := rk 1 (by simp)
      have f1 : q4.frozen? ⟨w.heap.size, 1, none⟩ = false := rf 1 (by simp)
      have p2 : q4.cell? ⟨w.heap.size, 2, none⟩ = some (.int .i64 0) := rk 2 (by simp)
      have f2 : q4.frozen? ⟨w.heap.size, 2, none⟩ = false := rf 2 (by simp)
      have p3 : q4.cell? ⟨w.heap.size, 3, none⟩ = some (.int .i64 0) := rk 3 (by simp)
      have f3 : q4.frozen? ⟨w.heap.size, 3, none⟩ = false := rf 3 (by simp)
      have p4 : q4.cell? ⟨w.heap.size, 4, none⟩ = some (.slice none 0 0) := rk 4 (by simp)
      have f4 : q4.frozen? ⟨w.heap.size, 4, none⟩ = false := rf 4 (by simp)
      have p5 : q4.cell? ⟨w.heap.size, 5, none⟩ = some (.int .i64 0) := rk 5 (by simp)
      have f5 : q4.frozen? ⟨w.heap.size, 5, none⟩ = false := rf 5 (by simp)
      clear rk rf
      go_simp
      try go_wp2_with fail
      have hgr := StR.stL_grown w.heap.size [.slice vo nd vc, .string a, .int .i64 m, .int .i64 (cc : Nat), .slice co n1 cc2, .int .i64 0] 0 q4
      have hBF := (HB0.out.trans (hB4.mono HB0.out.size)).grown hgr (HB0.out.trans (hB4.mono HB0.out.size)).size (fun k e => by simp only [Option.some.injEq] at e; omega)
      have hDF := OwG.blkW_grown hD4 hgr (by simp; exact HDW.out)
      have hRF := OwG.stL_blkW hR4 (show ([.slice none 0 0, .string ⟨#[]⟩, .int .i64 0, .int .i64 0, .slice none 0 0, .int .i64 0] : List Value).length = [.slice vo nd vc, .string a, .int .i64 m, .int .i64 (cc : Nat), .slice co n1 cc2, .int .i64 0].length from rfl)
      simp only [StR.stL, Nat.zero_add, Nat.reduceAdd] at hBF hDF hRF hgr
      have hk5 := HSD.out _ hDF
      refine hK.out _ _ hk5 (fun _ => ?_)
      clear hK K
      try simp only [Act.put, List.setIfInBounds_toArray, List.set_cons_zero, List.set_cons_succ]
      refine wpAnyH_done (by kernel_rfl) ?_ _
      have HLo : Hid (LoO w.heap.size (.agg #[.slice vo nd vc, .string a, .int .i64 m, .int .i64 (cc : Nat), .slice co n1 cc2, .int .i64 0]) (ds ++ [(⟨a, m, (cc : Nat), clL G⟩ : D)]) (⟨a, m, (cc : Nat), clL G⟩ : D) 0 ((((((q4.setCell ⟨w.heap.size, 0, none⟩ (.slice vo nd vc)).setCell ⟨w.heap.size, 1, none⟩ (.string a)).setCell ⟨w.heap.size, 2, none⟩ (.int .i64 m)).setCell ⟨w.heap.size, 3, none⟩ (.int .i64 (cc : Nat))).setCell ⟨w.heap.size, 4, none⟩ (.slice co n1 cc2)).setCell ⟨w.heap.size, 5, none⟩ (.int .i64 0))) := hid_intro (by
        have e1 := HN1.out
        have e2 := HND.out
        subst e1
        subst e2
        exact lo_fin (d := (⟨a, m, (cc : Nat), clL G⟩ : D)) hlw hs.1 hs.2.1 hs.2.2.1 hs.2.2.2 hq4 hcp hlq0 hgr)
      have HBF := hid_intro hBF
      obtain ⟨⟨zl, zk⟩, -⟩ := hRF
      clear hgr hs hcp hBF hDF
      generalize ((((((q4.setCell ⟨w.heap.size, 0, none⟩ (.slice vo nd vc)).setCell ⟨w.heap.size, 1, none⟩ (.string a)).setCell ⟨w.heap.size, 2, none⟩ (.int .i64 m)).setCell ⟨w.heap.size, 3, none⟩ (.int .i64 (cc : Nat))).setCell ⟨w.heap.size, 4, none⟩ (.slice co n1 cc2)).setCell ⟨w.heap.size, 5, none⟩ (.int .i64 0)) = WF at *
      have z0 : WF.cell? ⟨w.heap.size, 0, none⟩ = some (.slice vo nd vc) := zk 0 (by simp)
      have z1 : WF.cell? ⟨w.heap.size, 1, none⟩ = some (.string a) := zk 1 (by simp)
      have z2 : WF.cell? ⟨w.heap.size, 2, none⟩ = some (.int .i64 m) := zk 2 (by simp)
      have z3 : WF.cell? ⟨w.heap.size, 3, none⟩ = some (.int .i64 (cc : Nat)) := zk 3 (by simp)
      have z4 : WF.cell? ⟨w.heap.size, 4, none⟩ = some (.slice co n1 cc2) := zk 4 (by simp)
      have z5 : WF.cell? ⟨w.heap.size, 5, none⟩ = some (.int .i64 0) := zk 5 (by simp)
      clear zk
      go_wp2_with fail
      refine bodyPost_ret (v := .agg #[.slice vo nd vc, .string a, .int .i64 m, .int .i64 (cc : Nat), .slice co n1 cc2, .int .i64 0]) (by simp [results, Tryz.results23, go_sem, z0, z1, z2, z3, z4, z5]) rfl ⟨_, rfl, by rw [HE.out.1, HE.out.2.1, HE.out.2.2]; exact HLo.out, HBF.out⟩
end LedR
end Go.Proofs.YtakeiankhfdjdaaGreatDoor
namespace Go.Proofs.YtakeiankhfdjdaaGreatDoor
open Go.ChangeShapes Go.WideShapes Go.ChangeAt Go.RowKit
set_option linter.unusedVariables false
namespace LedR
open LinR RowG LtR NetR DocR
open NameR (nameB)
theorem LoO.far {base g : Nat} {v : Value} {ds : List D} {x : D} {cd : Int} {W W' : World} (h : LoO base v ds x cd W) (hg : W.grownBy W' (some g)) (hlt : g < base) : LoO base v ds x cd W' := by
  obtain ⟨vd, xs, la, lc, rfl, h1, h2, h3, h4, h5, h6⟩ := h
  exact ⟨vd, xs, la, lc, rfl, h1, OwG.own_keepG h2 hg hlt, fun y hy => OwG.own_keepG (h3 y hy) hg hlt, h4, OwG.own_keepG h5 hg hlt, h6⟩
theorem LoO.low {base base' : Nat} {v : Value} {ds : List D} {x : D} {cd : Int} {W : World} (h : LoO base v ds x cd W) (hb : base' ≤ base) : LoO base' v ds x cd W := by
  obtain ⟨vd, xs, la, lc, rfl, h1, h2, h3, h4, h5, h6⟩ := h
  exact ⟨vd, xs, la, lc, rfl, h1, OwG.own_low h2 hb, fun y hy => OwG.own_low (h3 y hy) hb, h4, OwG.own_low h5 hb, h6⟩
set_option maxRecDepth 100000 in
set_option maxHeartbeats 8000000 in
theorem sissue (ao : Option Addr) (bb boff cap capb : Nat) (ds : List D) (a : ByteArray) (m : Int) (bl : List N) (w : World) (hlen : ds.length ≤ 1048576) (hSm : ∀ d ∈ ds, d.Sm) (ha : a.size ≤ 1048576) (hlb : bl.length ≤ 1048576) (hsb : ∀ e ∈ bl, e.i.size ≤ 1048576) (hI : Dcs ao ds w) (hL : Lis (some ⟨bb, boff, none⟩) bl w) :
    Calls Tryz.prog 6 #[.slice ao ds.length cap, .string a, .int .i64 m, .slice (some ⟨bb, boff, none⟩) bl.length capb] w fun e w' => ∃ v, e = .returned v ∧ LoO w.heap.size v (isD ds a m bl) (isX ds a m bl) (isC ds a m bl) w' ∧ Below w.heap.size w w' := by
  have HRO := hid_intro (fun W (hb : Below w.heap.size w W) => spec_ledger ao cap ds W (by omega) hSm (hI.below hb))
  have HNR := hid_intro (fun W => NameR.spec_any a W ha)
  have HMO := hid_intro (fun W => sMon m W)
  have HLR := hid_intro (fun W (hb : Below w.heap.size w W) => spec_lines (some ⟨bb, boff, none⟩) capb bl W hlb hsb (hL.below hb))
  have HGO := hid_intro (fun W (hb : Below w.heap.size w W) h1 h2 h3 h4 => sissue0 ao bb boff cap capb ds a m bl W h1 h2 h3 h4 (fun d hd => (hSm d hd).2.1) (hI.below hb) (hL.below hb))
  have HBg := hid_intro (isBig ds a m bl)
  have HFm := hid_intro (isForm ds a m bl)
  have HFB : Hid (isFormB ds a m bl = (lB ds && (nameB a && (decide (0 ≤ m ∧ m ≤ 2760) && sB bl)))) := hid_intro rfl
  have HLI : Hid (lB ds = true → LRight ds) := hid_intro lB_iff.1
  have HSI2 : Hid (sB bl = true → SRight bl) := hid_intro sB_iff.1
  generalize isFormB ds a m bl = fb at *
  generalize isD ds a m bl = RD at *
  generalize isX ds a m bl = RX at *
  generalize isC ds a m bl = RC at *
  generalize lB ds = b1 at *
  generalize nameB a = b2 at *
  generalize decide (0 ≤ m ∧ m ≤ 2760) = b3 at *
  generalize sB bl = b4 at *
  generalize ds.length = len at *
  generalize bl.length = lb at *
  obtain ⟨W0, hW0⟩ : ∃ W0, W0 = w.alloc (.cells #[.slice none 0 0, .string ⟨#[]⟩, .int .i64 0, .int .i64 0, .slice none 0 0, .int .i64 0] 31) := ⟨_, rfl⟩
  have HB0 : Hid (Below w.heap.size w W0) := hid_intro (by rw [hW0]; exact (Below.refl _ _).alloc (Nat.le_refl _) _)
  have HR0 : Hid (BlkW w.heap.size [.slice none 0 0, .string ⟨#[]⟩, .int .i64 0, .int .i64 0, .slice none 0 0, .int .i64 0] W0) := hid_intro (by rw [hW0]; exact BlkW.new w [.slice none 0 0, .string ⟨#[]⟩, .int .i64 0, .int .i64 0, .slice none 0 0, .int .i64 0] 31)
  have HW := hid_intro hW0
  clear hI hL hsb hSm hW0
  by_cases hbig : 400 < len ∨ 8000 < a.size ∨ 400 < lb
  · have HE := hid_intro (HBg.out hbig)
    clear HRO HNR HMO HLR HGO HBg HFm
    go_enter Tryz.func6, Tryz.ntmps6
    by_cases h1 : 400 < len
    · have h1' : (400 : Int) < (len : Int) := by omega
      go_wp2_with fail
      refine bodyPost_ret (v := .agg #[.slice none 0 0, .string ⟨#[]⟩, .int .i64 0, .int .i64 0, .slice none 0 0, .int .i64 2]) (by simp [results, Tryz.results6, go_sem]) rfl ⟨_, rfl, by rw [HE.out.1, HE.out.2.1, HE.out.2.2]; exact loO_of (dso_nil _ _), (Below.refl _ _).alloc (Nat.le_refl _) _⟩
    have h1' : ¬ (400 : Int) < (len : Int) := by omega
    by_cases h2 : 8000 < a.size
    · have h2' : (8000 : Int) < (a.size : Int) := by omega
      go_wp2_with fail
      refine bodyPost_ret (v := .agg #[.slice none 0 0, .string ⟨#[]⟩, .int .i64 0, .int .i64 0, .slice none 0 0, .int .i64 2]) (by simp [results, Tryz.results6, go_sem]) rfl ⟨_, rfl, by rw [HE.out.1, HE.out.2.1, HE.out.2.2]; exact loO_of (dso_nil _ _), (Below.refl _ _).alloc (Nat.le_refl _) _⟩
    have h2' : ¬ (8000 : Int) < (a.size : Int) := by omega
    have h3' : (400 : Int) < (lb : Int) := by omega
    go_wp2_with fail
    refine bodyPost_ret (v := .agg #[.slice none 0 0, .string ⟨#[]⟩, .int .i64 0, .int .i64 0, .slice none 0 0, .int .i64 2]) (by simp [results, Tryz.results6, go_sem]) rfl ⟨_, rfl, by rw [HE.out.1, HE.out.2.1, HE.out.2.2]; exact loO_of (dso_nil _ _), (Below.refl _ _).alloc (Nat.le_refl _) _⟩
  have hb1 : ¬ (400 : Int) < (len : Int) := by omega
  have hb2 : ¬ (8000 : Int) < (a.size : Int) := by omega
  have hb3 : ¬ (400 : Int) < (lb : Int) := by omega
  replace HFm := hid_intro (HFm.out hbig)
  have HGB := hid_intro hbig
  clear hbig
  go_enter Tryz.func6, Tryz.ntmps6
  go_wp2_with fail
  rw [← HW.out]
  refine (HRO.out _ HB0.out).mono ?_
  rintro e w1 ⟨rfl, hb⟩
  have HB1 := hid_intro (HB0.out.trans (hb.mono HB0.out.size))
  have HR1 := hid_intro (HR0.out.below hb)
  clear hb HB0 HR0 HW
  cases b1
  · have HE := hid_intro (HFm.out (by rw [HFB.out]; rfl))
    obtain ⟨⟨rl, rk⟩, rf⟩ := HR1.out
    have p0 : w1.cell? ⟨w.heap.size, 0, none⟩ = some (.slice none 0 0) := rk 0 (by simp)
    have f0 : w1.frozen? ⟨w.heap.size, 0, none⟩ = false := rf 0 (by simp)
    have p1 : w1.cell? ⟨w.heap.size, 1, none⟩ = some (.string ⟨#[]⟩) := rk 1 (by simp)
    have f1 : w1.frozen? ⟨w.heap.size, 1, none⟩ = false := rf 1 (by simp)
    have p2 : w1.cell? ⟨w.heap.size, 2, none⟩ = some (.int .i64 0) := rk 2 (by simp)
    have f2 : w1.frozen? ⟨w.heap.size, 2, none⟩ = false := rf 2 (by simp)
    have p3 : w1.cell? ⟨w.heap.size, 3, none⟩ = some (.int .i64 0) := rk 3 (by simp)
    have f3 : w1.frozen? ⟨w.heap.size, 3, none⟩ = false := rf 3 (by simp)
    have p4 : w1.cell? ⟨w.heap.size, 4, none⟩ = some (.slice none 0 0) := rk 4 (by simp)
    have f4 : w1.frozen? ⟨w.heap.size, 4, none⟩ = false := rf 4 (by simp)
    have p5 : w1.cell? ⟨w.heap.size, 5, none⟩ = some (.int .i64 0) := rk 5 (by simp)
    have f5 : w1.frozen? ⟨w.heap.size, 5, none⟩ = false := rf 5 (by simp)
    have hg := StR.stL_grown w.heap.size [.slice none 0 0, .string ⟨#[]⟩, .int .i64 0, .int .i64 0, .slice none 0 0, .int .i64 1] 0 w1
    have HBF := hid_intro (HB1.out.grown hg HB1.out.size (fun k e => by simp only [Option.some.injEq] at e; omega))
    simp only [StR.stL, Nat.zero_add, Nat.reduceAdd] at HBF
    clear hg rk rf
    go_wp2_with fail
    refine bodyPost_ret (v := .agg #[.slice none 0 0, .string ⟨#[]⟩, .int .i64 0, .int .i64 0, .slice none 0 0, .int .i64 1]) (by simp [results, Tryz.results6, go_sem, p0, p1, p2, p3, p4, p5]) rfl ⟨_, rfl, by rw [HE.out.1, HE.out.2.1, HE.out.2.2]; exact loO_of (dso_nil _ _), HBF.out⟩
  go_wp2_with fail
  refine (HNR.out _).mono ?_
  rintro e w2 ⟨rfl, hb⟩
  subst hb
  have HB2 := HB1
  have HR2 := HR1
  clear HB1 HR1
  cases b2
  · have HE := hid_intro (HFm.out (by rw [HFB.out]; rfl))
    obtain ⟨⟨rl, rk⟩, rf⟩ := HR2.out
    have p0 : w2.cell? ⟨w.heap.size, 0, none⟩ = some (.slice none 0 0) := rk 0 (by simp)
    have f0 : w2.frozen? ⟨w.heap.size, 0, none⟩ = false := rf 0 (by simp)
    have p1 : w2.cell? ⟨w.heap.size, 1, none⟩ = some (.string ⟨#[]⟩) := rk 1 (by simp)
    have f1 : w2.frozen? ⟨w.heap.size, 1, none⟩ = false := rf 1 (by simp)
    have p2 : w2.cell? ⟨w.heap.size, 2, none⟩ = some (.int .i64 0) := rk 2 (by simp)
    have f2 : w2.frozen? ⟨w.heap.size, 2, none⟩ = false := rf 2 (by simp)
    have p3 : w2.cell? ⟨w.heap.size, 3, none⟩ = some (.int .i64 0) := rk 3 (by simp)
    have f3 : w2.frozen? ⟨w.heap.size, 3, none⟩ = false := rf 3 (by simp)
    have p4 : w2.cell? ⟨w.heap.size, 4, none⟩ = some (.slice none 0 0) := rk 4 (by simp)
    have f4 : w2.frozen? ⟨w.heap.size, 4, none⟩ = false := rf 4 (by simp)
    have p5 : w2.cell? ⟨w.heap.size, 5, none⟩ = some (.int .i64 0) := rk 5 (by simp)
    have f5 : w2.frozen? ⟨w.heap.size, 5, none⟩ = false := rf 5 (by simp)
    have hg := StR.stL_grown w.heap.size [.slice none 0 0, .string ⟨#[]⟩, .int .i64 0, .int .i64 0, .slice none 0 0, .int .i64 1] 0 w2
    have HBF := hid_intro (HB2.out.grown hg HB2.out.size (fun k e => by simp only [Option.some.injEq] at e; omega))
    simp only [StR.stL, Nat.zero_add, Nat.reduceAdd] at HBF
    clear hg rk rf
    go_wp2_with fail
    refine bodyPost_ret (v := .agg #[.slice none 0 0, .string ⟨#[]⟩, .int .i64 0, .int .i64 0, .slice none 0 0, .int .i64 1]) (by simp [results, Tryz.results6, go_sem, p0, p1, p2, p3, p4, p5]) rfl ⟨_, rfl, by rw [HE.out.1, HE.out.2.1, HE.out.2.2]; exact loO_of (dso_nil _ _), HBF.out⟩
  go_wp2_with fail
  refine (HMO.out _).mono ?_
  rintro e w3 ⟨rfl, hb⟩
  subst hb
  have HB3 := HB2
  have HR3 := HR2
  clear HB2 HR2
  cases b3
  · have HE := hid_intro (HFm.out (by rw [HFB.out]; rfl))
    obtain ⟨⟨rl, rk⟩, rf⟩ := HR3.out
    have p0 : w3.cell? ⟨w.heap.size, 0, none⟩ = some (.slice none 0 0) := rk 0 (by simp)
    have f0 : w3.frozen? ⟨w.heap.size, 0, none⟩ = false := rf 0 (by simp)
    have p1 : w3.cell? ⟨w.heap.size, 1, none⟩ = some (.string ⟨#[]⟩) := rk 1 (by simp)
    have f1 : w3.frozen? ⟨w.heap.size, 1, none⟩ = false := rf 1 (by simp)
    have p2 : w3.cell? ⟨w.heap.size, 2, none⟩ = some (.int .i64 0) := rk 2 (by simp)
    have f2 : w3.frozen? ⟨w.heap.size, 2, none⟩ = false := rf 2 (by simp)
    have p3 : w3.cell? ⟨w.heap.size, 3, none⟩ = some (.int .i64 0) := rk 3 (by simp)
    have f3 : w3.frozen? ⟨w.heap.size, 3, none⟩ = false := rf 3 (by simp)
    have p4 : w3.cell? ⟨w.heap.size, 4, none⟩ = some (.slice none 0 0) := rk 4 (by simp)
    have f4 : w3.frozen? ⟨w.heap.size, 4, none⟩ = false := rf 4 (by simp)
    have p5 : w3.cell? ⟨w.heap.size, 5, none⟩ = some (.int .i64 0) := rk 5 (by simp)
    have f5 : w3.frozen? ⟨w.heap.size, 5, none⟩ = false := rf 5 (by simp)
    have hg := StR.stL_grown w.heap.size [.slice none 0 0, .string ⟨#[]⟩, .int .i64 0, .int .i64 0, .slice none 0 0, .int .i64 1] 0 w3
    have HBF := hid_intro (HB3.out.grown hg HB3.out.size (fun k e => by simp only [Option.some.injEq] at e; omega))
    simp only [StR.stL, Nat.zero_add, Nat.reduceAdd] at HBF
    clear hg rk rf
    go_wp2_with fail
    refine bodyPost_ret (v := .agg #[.slice none 0 0, .string ⟨#[]⟩, .int .i64 0, .int .i64 0, .slice none 0 0, .int .i64 1]) (by simp [results, Tryz.results6, go_sem, p0, p1, p2, p3, p4, p5]) rfl ⟨_, rfl, by rw [HE.out.1, HE.out.2.1, HE.out.2.2]; exact loO_of (dso_nil _ _), HBF.out⟩
  go_wp2_with fail
  refine (HLR.out _ HB3.out).mono ?_
  rintro e w4 ⟨rfl, hb⟩
  have HB4 := hid_intro (HB3.out.trans (hb.mono HB3.out.size))
  have HR4 := hid_intro (HR3.out.below hb)
  clear hb HB3 HR3
  cases b4
  · have HE := hid_intro (HFm.out (by rw [HFB.out]; rfl))
    obtain ⟨⟨rl, rk⟩, rf⟩ := HR4.out
    have p0 : w4.cell? ⟨w.heap.size, 0, none⟩ = some (.slice none 0 0) := rk 0 (by simp)
    have f0 : w4.frozen? ⟨w.heap.size, 0, none⟩ = false := rf 0 (by simp)
    have p1 : w4.cell? ⟨w.heap.size, 1, none⟩ = some (.string ⟨#[]⟩) := rk 1 (by simp)
    have f1 : w4.frozen? ⟨w.heap.size, 1, none⟩ = false := rf 1 (by simp)
    have p2 : w4.cell? ⟨w.heap.size, 2, none⟩ = some (.int .i64 0) := rk 2 (by simp)
    have f2 : w4.frozen? ⟨w.heap.size, 2, none⟩ = false := rf 2 (by simp)
    have p3 : w4.cell? ⟨w.heap.size, 3, none⟩ = some (.int .i64 0) := rk 3 (by simp)
    have f3 : w4.frozen? ⟨w.heap.size, 3, none⟩ = false := rf 3 (by simp)
    have p4 : w4.cell? ⟨w.heap.size, 4, none⟩ = some (.slice none 0 0) := rk 4 (by simp)
    have f4 : w4.frozen? ⟨w.heap.size, 4, none⟩ = false := rf 4 (by simp)
    have p5 : w4.cell? ⟨w.heap.size, 5, none⟩ = some (.int .i64 0) := rk 5 (by simp)
    have f5 : w4.frozen? ⟨w.heap.size, 5, none⟩ = false := rf 5 (by simp)
    have hg := StR.stL_grown w.heap.size [.slice none 0 0, .string ⟨#[]⟩, .int .i64 0, .int .i64 0, .slice none 0 0, .int .i64 1] 0 w4
    have HBF := hid_intro (HB4.out.grown hg HB4.out.size (fun k e => by simp only [Option.some.injEq] at e; omega))
    simp only [StR.stL, Nat.zero_add, Nat.reduceAdd] at HBF
    clear hg rk rf
    go_wp2_with fail
    refine bodyPost_ret (v := .agg #[.slice none 0 0, .string ⟨#[]⟩, .int .i64 0, .int .i64 0, .slice none 0 0, .int .i64 1]) (by simp [results, Tryz.results6, go_sem, p0, p1, p2, p3, p4, p5]) rfl ⟨_, rfl, by rw [HE.out.1, HE.out.2.1, HE.out.2.2]; exact loO_of (dso_nil _ _), HBF.out⟩
  have HC := hid_intro (HGO.out w4 HB4.out (HLI.out (by trivial)) (HSI2.out (by trivial)) HGB.out (by rw [HFB.out]; rfl))
  go_wp2_with fail
  refine HC.out.mono ?_
  rintro e w5 ⟨v, rfl, hlo, hb⟩
  have HB5 := hid_intro (HB4.out.trans (hb.mono HB4.out.size))
  have HR5 := hid_intro (HR4.out.below hb)
  have HLT : Hid (w.heap.size < w4.heap.size) := hid_intro HR4.out.1.1
  have HLO := hid_intro hlo
  obtain ⟨vo, vc, la, lc, rfl, -, -⟩ := hlo.reads
  clear hb hlo HC HB4 HR4
  generalize RD.length = nd at *
  generalize RX.a = xa at *
  generalize RX.mo = xm at *
  generalize RX.sq = xq at *
  generalize RX.ls.length = nl at *
  obtain ⟨⟨rl, rk⟩, rf⟩ := HR5.out
  have p0 : w5.cell? ⟨w.heap.size, 0, none⟩ = some (.slice none 0 0) := rk 0 (by simp)
  have f0 : w5.frozen? ⟨w.heap.size, 0, none⟩ = false := rf 0 (by simp)
  have p1 : w5.cell? ⟨w.heap.size, 1, none⟩ = some (.string ⟨#[]⟩) := rk 1 (by simp)
  have f1 : w5.frozen? ⟨w.heap.size, 1, none⟩ = false := rf 1 (by simp)
  have p2 : w5.cell? ⟨w.heap.size, 2, none⟩ = some (.int .i64 0) := rk 2 (by simp)
  have f2 : w5.frozen? ⟨w.heap.size, 2, none⟩ = false := rf 2 (by simp)
  have p3 : w5.cell? ⟨w.heap.size, 3, none⟩ = some (.int .i64 0) := rk 3 (by simp)
  have f3 : w5.frozen? ⟨w.heap.size, 3, none⟩ = false := rf 3 (by simp)
  have p4 : w5.cell? ⟨w.heap.size, 4, none⟩ = some (.slice none 0 0) := rk 4 (by simp)
  have f4 : w5.frozen? ⟨w.heap.size, 4, none⟩ = false := rf 4 (by simp)
  have p5 : w5.cell? ⟨w.heap.size, 5, none⟩ = some (.int .i64 0) := rk 5 (by simp)
  have f5 : w5.frozen? ⟨w.heap.size, 5, none⟩ = false := rf 5 (by simp)
  have hg := StR.stL_grown w.heap.size [.slice vo nd vc, .string xa, .int .i64 xm, .int .i64 xq, .slice la nl lc, .int .i64 RC] 0 w5
  have HBF := hid_intro (HB5.out.grown hg HB5.out.size (fun k e => by simp only [Option.some.injEq] at e; omega))
  have HLF := hid_intro ((HLO.out.far hg HLT.out).low (Nat.le_of_lt HLT.out))
  have HRF := hid_intro (OwG.stL_blkW HR5.out (show ([.slice none 0 0, .string ⟨#[]⟩, .int .i64 0, .int .i64 0, .slice none 0 0, .int .i64 0] : List Value).length = [.slice vo nd vc, .string xa, .int .i64 xm, .int .i64 xq, .slice la nl lc, .int .i64 RC].length from rfl))
  simp only [StR.stL, Nat.zero_add, Nat.reduceAdd] at HBF HLF HRF
  clear hg rk rf HLO HR5 HB5
  go_wp2_with fail
  refine bodyPost_ret (v := .agg #[.slice vo nd vc, .string xa, .int .i64 xm, .int .i64 xq, .slice la nl lc, .int .i64 RC]) (by simp [results, Tryz.results6, go_sem, p0, p1, p2, p3, p4, p5]) rfl ⟨_, rfl, HLF.out, HBF.out⟩
end LedR
end Go.Proofs.YtakeiankhfdjdaaGreatDoor
namespace Go.Proofs.YtakeiankhfdjdaaGreatDoor
open Go.ChangeShapes Go.WideShapes Go.ChangeAt Go.RowKit
set_option linter.unusedVariables false
namespace LedR
open LinR DocR
open RowG (cellsAll hid_intro)
set_option maxRecDepth 100000 in
set_option maxHeartbeats 4000000 in
theorem icopy (d : D) (la : Option Addr) (lc : Nat) (w : World) (ha : d.a.size ≤ 1048576) (hlen : d.ls.length ≤ 1048576) (hS : ∀ e ∈ d.ls, e.i.size ≤ 1048576) (hI : Lis la d.ls w) :
    Calls Tryz.prog 33 #[.agg #[.string d.a, .int .i64 d.mo, .int .i64 d.sq, .slice la d.ls.length lc]] w fun e w' => ∃ v, e = .returned (.agg #[.string d.a, .int .i64 d.mo, .int .i64 d.sq, v]) ∧ w'.ownsRow w.heap.size 53 2 v (d.ls.filter nz).length (cellsAll N.cells (d.ls.filter nz)) ∧ Below w.heap.size w w' := by
  obtain ⟨a, mo, sq, ls⟩ := d
  dsimp only at *
  have HCL := hid_intro (fun w => CloneR.clone_any a w (by omega))
  have HPL := hid_intro (fun w' (hI' : Lis la ls w') => put_any la lc ls w' hlen hS hI')
  have HI := hid_intro hI
  obtain ⟨len, hl⟩ : ∃ len, len = ls.length := ⟨_, rfl⟩
  rw [← hl] at HPL ⊢
  obtain ⟨W0, hW0⟩ : ∃ W0, W0 = (w.alloc (.cells #[.string a, .int .i64 mo, .int .i64 sq, .slice la len lc] 29)).alloc (.cells #[.string ⟨#[]⟩, .int .i64 0, .int .i64 0, .slice none 0 0] 29) := ⟨_, rfl⟩
  have HB0 : Hid (Below w.heap.size w W0) := hid_intro (by rw [hW0]; exact ((Below.refl _ _).alloc (Nat.le_refl _) _).alloc (by simp) _)
  have HV0 : Hid (BlkW w.heap.size [.string a, .int .i64 mo, .int .i64 sq, .slice la len lc] W0) := hid_intro (by rw [hW0]; exact (BlkW.new w [.string a, .int .i64 mo, .int .i64 sq, .slice la len lc] 29).below ((Below.refl _ _).alloc (Nat.le_refl _) _))
  have HR0 : Hid (BlkW (w.heap.size + 1) [.string ⟨#[]⟩, .int .i64 0, .int .i64 0, .slice none 0 0] W0) := hid_intro (by
    rw [hW0]
    have := BlkW.new (w.alloc (.cells #[.string a, .int .i64 mo, .int .i64 sq, .slice la len lc] 29)) [.string ⟨#[]⟩, .int .i64 0, .int .i64 0, .slice none 0 0] 29
    simpa using this)
  have HW := hid_intro hW0
  clear hI hS hl hW0
  go_enter Tryz.func33, Tryz.ntmps33
  have c0 : W0.cell? ⟨w.heap.size, 0, none⟩ = some (.string a) := HV0.out.1.2 0 (by simp)
  go_wp2_with fail
  refine (HCL.out _).mono ?_
  rw [← HW.out]
  rintro e w1 ⟨rfl, hb1⟩
  have HB1 := hid_intro (HB0.out.trans (hb1.mono HB0.out.size))
  have HV1 := hid_intro (HV0.out.below hb1)
  have HR1 := hid_intro (HR0.out.below hb1)
  have l1 := HV1.out.1.1
  have f0 := HV1.out.2 0 (by simp)
  have c0 := HV1.out.1.2 0 (by simp)
  have c3 := HV1.out.1.2 3 (by simp)
  simp only [List.getElem?_cons_zero, List.getElem?_cons_succ] at c0 c3
  clear hb1 HW HB0 HV0 HR0
  go_wp2_with fail
  have HB2 := hid_intro (HB1.out.setCell (p := ⟨w.heap.size, 0, none⟩) (Nat.le_refl _) (.string a))
  have HV2 := hid_intro (HV1.out.set 0 (.string a) (by simp))
  have HR2 := hid_intro (HR1.out.other w.heap.size 0 (.string a) (by omega))
  simp only [List.set_cons_zero] at HV2
  clear HB1 HV1 HR1 l1 f0 c0 c3
  generalize (w1.setCell { block := w.heap.size, off := 0 } (Value.string a)) = W2 at *
  refine (HPL.out _ (HI.out.below HB2.out)).mono ?_
  rintro e w3 ⟨v, rfl, ho, hb3⟩
  have HB3 := hid_intro (HB2.out.trans (hb3.mono HB2.out.size))
  have HV3 := hid_intro (HV2.out.below hb3)
  have HR3 := hid_intro (HR2.out.below hb3)
  have hlw := HR2.out.1.1
  obtain ⟨ao, cap, rfl, hm⟩ := RowG.own_made (z := N.zero) N.len ho
  generalize hnf : (ls.filter nz).length = nf at *
  have HOF := hid_intro (own_low (OwG.own_keepG (OwG.own_keepG ho (RowG.grown_set w3 w.heap.size 3 (.slice ao nf cap)) (by omega)) (StR.stL_grown (w.heap.size + 1) [.string a, .int .i64 mo, .int .i64 sq, .slice ao nf cap] 0 _) (by omega)) HB2.out.size)
  have HBF := hid_intro ((HB3.out.setCell (p := ⟨w.heap.size, 3, none⟩) (Nat.le_refl _) (.slice ao nf cap)).grown (StR.stL_grown (w.heap.size + 1) [.string a, .int .i64 mo, .int .i64 sq, .slice ao nf cap] 0 _) (by have := HB3.out.size; simpa using this) (fun k h => by cases h; omega))
  simp only [StR.stL, Nat.zero_add, Nat.reduceAdd] at HOF HBF
  have l1 := HV3.out.1.1
  have l2 := HR3.out.1.1
  have f3 := HV3.out.2 3 (by simp)
  have c0 := HV3.out.1.2 0 (by simp)
  have c1 := HV3.out.1.2 1 (by simp)
  have c2 := HV3.out.1.2 2 (by simp)
  have c3 := HV3.out.1.2 3 (by simp)
  have r0 := HR3.out.1.2 0 (by simp)
  have r1 := HR3.out.1.2 1 (by simp)
  have r2 := HR3.out.1.2 2 (by simp)
  have r3 := HR3.out.1.2 3 (by simp)
  have g0 := HR3.out.2 0 (by simp)
  have g1 := HR3.out.2 1 (by simp)
  have g2 := HR3.out.2 2 (by simp)
  have g3 := HR3.out.2 3 (by simp)
  simp only [List.getElem?_cons_zero, List.getElem?_cons_succ] at c0 c1 c2 c3 r0 r1 r2 r3
  clear ho hb3 hm
  go_wp2_with fail
  refine bodyPost_ret (v := .agg #[.string a, .int .i64 mo, .int .i64 sq, .slice ao nf cap]) (by simp [results, Tryz.results33, go_sem, r0, r1, r2, r3]) rfl ⟨_, rfl, by rw [hnf]; exact HOF.out, HBF.out⟩
end LedR
end Go.Proofs.YtakeiankhfdjdaaGreatDoor
namespace Go.Proofs.YtakeiankhfdjdaaGreatDoor
open Go.ChangeShapes Go.WideShapes Go.ChangeAt Go.RowKit
set_option linter.unusedVariables false
namespace LedR
open LinR DocR OwG
open RowG (cellsAll hid_intro)
theorem own_wr {w : World} {base e size n g cap : Nat} {xs : List Value} (h : w.ownsRow base e size (.slice (some ⟨g, 0, none⟩) n cap) n xs) (o : Nat) (u : Value) (ho : o < xs.length) : (w.setCell ⟨g, o, none⟩ u).ownsRow base e size (.slice (some ⟨g, 0, none⟩) n cap) n (xs.set o u) := by
  obtain ⟨h1, h2⟩ := h
  refine ⟨by rw [List.length_set]; exact h1, .inr ?_⟩
  rcases h2 with ⟨h0, _⟩ | ⟨g', cap', cur, hv, hg, hh, hc, hm, hz, hcur⟩
  · cases h0
  · cases hv
    refine ⟨g, cap, cur.setIfInBounds o u, rfl, hg, ?_, hc, hm, by simpa using hz, ?_⟩
    · have hlt : g < w.heap.size := by
        rcases Nat.lt_or_ge g w.heap.size with h | h
        · exact h
        · rw [Array.getElem?_eq_none h] at hh; cases hh
      simp only [World.setCell]
      rw [Array.getElem?_modify]
      simp [hh]
    · rw [Array.toList_setIfInBounds, List.take_set, hcur]
theorem set4 (ys zs : List DA) (x y : DA) : ((((cellsAll DA.cells (ys ++ x :: zs)).set (ys.length * 4) (.string y.d.a)).set (ys.length * 4 + 1) (.int .i64 y.d.mo)).set (ys.length * 4 + 2) (.int .i64 y.d.sq)).set (ys.length * 4 + 3) y.v = cellsAll DA.cells (ys ++ y :: zs) := by
  have hl := RowG.cellsAll_len DA.len ys
  have e : ∀ x : DA, cellsAll DA.cells (ys ++ x :: zs) = cellsAll DA.cells ys ++ (x.cells ++ cellsAll DA.cells zs) := fun x => by simp [cellsAll]
  rw [e x, e y]
  generalize cellsAll DA.cells ys = A at *
  generalize cellsAll DA.cells zs = B at *
  rw [← hl]
  simp [DA.cells, List.set_append_right]
/-- The four cells of a place are written. -/
theorem own_put4 {w : World} {base e n g cap : Nat} {ys zs : List DA} {x : DA} (h : w.ownsRow base e 4 (.slice (some ⟨g, 0, none⟩) n cap) n (cellsAll DA.cells (ys ++ x :: zs))) (y : DA) :
    (StR.stL w g (ys.length * 4) [.string y.d.a, .int .i64 y.d.mo, .int .i64 y.d.sq, y.v]).ownsRow base e 4 (.slice (some ⟨g, 0, none⟩) n cap) n (cellsAll DA.cells (ys ++ y :: zs)) := by
  have hl : (cellsAll DA.cells (ys ++ x :: zs)).length = ys.length * 4 + 4 + zs.length * 4 := by rw [RowG.cellsAll_len DA.len]; simp; omega
  rw [← set4 ys zs x y]
  simp only [StR.stL]
  refine own_wr (own_wr (own_wr (own_wr h _ _ (by omega)) _ _ ?_) _ _ ?_) _ _ ?_
  all_goals simp only [List.length_set]; omega
theorem dcs_da {ao : Option Addr} {ds : List D} {w : World} (h : Dcs ao ds w) : ∃ xs : List DA, xs.map DA.d = ds ∧ (∀ x ∈ xs, Lis x.la x.d.ls w) ∧ ∀ W, Below w.heap.size w W → ∀ b, ao = some b → ∀ j u, (cellsAll DA.cells xs)[j]? = some u → W.cell? (b.add j) = some u := by
  rcases h with h0 | ⟨b, off, rfl, hl, h⟩
  · obtain rfl : ds = [] := List.length_eq_zero_iff.1 h0
    exact ⟨[], rfl, (fun x h => by cases h), (fun W _ b _ j u h => by simp [cellsAll] at h)⟩
  · have h' : ∀ j : Fin ds.length, ∃ x : DA, x.d = ds.getD j D.zero ∧ Lis x.la x.d.ls w ∧ ∀ i, i < 4 → w.cell? ⟨b, off + j * 4 + i, none⟩ = x.cells[i]? := fun j => by
      obtain ⟨la, lc, c0, c1, c2, c3, hL⟩ := h j.1 j.2
      refine ⟨⟨_, la, lc⟩, rfl, hL, fun i hi => ?_⟩
      match i, hi with
      | 0, _ => exact c0
      | 1, _ => exact c1
      | 2, _ => exact c2
      | 3, _ => exact c3
    have hx := Classical.axiomOfChoice h'
    obtain ⟨f, hf⟩ := hx
    refine ⟨List.ofFn f, ?_, ?_, ?_⟩
    · apply List.ext_getElem
      · simp
      · intro i h1 h2
        simp at h1
        have := (hf ⟨i, h1⟩).1
        simp [this, List.getD, h1]
    · intro x hx
      rw [List.mem_ofFn] at hx
      obtain ⟨j, rfl⟩ := hx
      exact (hf j).2.1
    · intro W hW b' e j u hu
      cases e
      have hlt : j < (cellsAll DA.cells (List.ofFn f)).length := by
        rcases Nat.lt_or_ge j (cellsAll DA.cells (List.ofFn f)).length with h | h
        · exact h
        · rw [List.getElem?_eq_none h] at hu; cases hu
      rw [RowG.cellsAll_len DA.len, List.length_ofFn] at hlt
      have h4 : j / 4 < ds.length := by omega
      have e4 : j = j / 4 * 4 + j % 4 := by omega
      rw [e4, RowG.cellsAll_get (z := DA.zero) DA.len _ (j / 4) (j % 4) (by simpa using h4) (by omega)] at hu
      have hz := (hf ⟨j / 4, h4⟩).2.2 (j % 4) (by omega)
      have e5 : (List.ofFn f).getD (j / 4) DA.zero = f ⟨j / 4, h4⟩ := by simp [List.getD, h4]
      rw [e5] at hu
      dsimp only at hz
      rw [Addr.add_lit, e4, ← hu, ← hz, Nat.add_assoc]
      exact hW.cell (p := ⟨b, _, none⟩) hl
set_option maxRecDepth 100000 in
theorem slice3 (ao : Option Addr) (len cap : Nat) (w : World) (hc : len ≤ cap) (hao : ao = none ∨ ∃ b off, ao = some ⟨b, off, none⟩) : (Instr.slice 26 (.slice ao len cap) none (some (.int .i64 len)) (some (.int .i64 len))).run Tryz.prog w = .ok (.slice ao len len) w := by
  obtain ⟨i0, hi, hz0, hz1, hz2⟩ := info_parts infoD
  have he : Tryz.prog.elem 26 = 29 := by kernel_rfl
  have hs : (sizeOf (Tryz.prog.elem 26)).run Tryz.prog w = .ok 4 w := by rw [he]; simp [sizeOf, typeInfo, hi, hz1]
  rw [run_slice_any (P := Tryz.prog) w 26 ao len cap Tryz.underlying26]
  simp [Instr.sliceBounds, run_sliceBound, hc, hs, Result.andThen, sliced]
  rcases hao with rfl | ⟨b, off, rfl⟩
  · intro _; rfl
  · intro _; rw [Option.map_some, Addr.add_lit, Nat.add_zero]
def BM4 (w : World) (B : Nat) (a0 a1 a2 a3 : Value) (W : World) : Prop := Below w.heap.size w W ∧ B < W.heap.size ∧ W.cell? ⟨B, 0, none⟩ = some a0 ∧ W.cell? ⟨B, 1, none⟩ = some a1 ∧ W.cell? ⟨B, 2, none⟩ = some a2 ∧ W.cell? ⟨B, 3, none⟩ = some a3
theorem BM4.below {w : World} {B : Nat} {a0 a1 a2 a3 : Value} {W W' : World} (h : BM4 w B a0 a1 a2 a3 W) (hb : Below W.heap.size W W') : BM4 w B a0 a1 a2 a3 W' := by
  obtain ⟨h0, h1, c0, c1, c2, c3⟩ := h
  have f := fun x => hb.cell (p := ⟨B, x, none⟩) h1
  exact ⟨h0.trans (hb.mono h0.size), by have := hb.size; omega, (f 0).trans c0, (f 1).trans c1, (f 2).trans c2, (f 3).trans c3⟩
theorem BM4.drew {w : World} {B : Nat} {a0 a1 a2 a3 : Value} {W : World} (h : BM4 w B a0 a1 a2 a3 W) : BM4 w B a0 a1 a2 a3 W.drew := ⟨h.1.drew, h.2⟩
theorem BM4.fst {w : World} {B : Nat} {a0 a1 a2 a3 : Value} {W : World} (h : BM4 w B a0 a1 a2 a3 W) : Below w.heap.size w W := h.1
theorem grow_below {W W' : World} (hg : W.grownBy W' none) : Below W.heap.size W W' := (Below.refl _ _).grown hg (Nat.le_refl _) (fun k h => by cases h)
theorem BM4.grown {w : World} {B : Nat} {a0 a1 a2 a3 : Value} {W W' : World} (h : BM4 w B a0 a1 a2 a3 W) (hg : W.grownBy W' none) : BM4 w B a0 a1 a2 a3 W' := h.below (grow_below hg)
set_option maxRecDepth 100000 in
set_option maxHeartbeats 4000000 in
theorem iwith (ao : Option Addr) (cap : Nat) (ds : List D) (d : D) (la : Option Addr) (lc : Nat) (w : World) (hlen : ds.length ≤ 1048575) (hcap : ds.length ≤ cap) (hao : (ao = none ∧ ds.length = 0) ∨ ∃ b off, ao = some ⟨b, off, none⟩) (hSm : ∀ x ∈ ds ++ [d], x.Sm) (hN : ∀ x ∈ ds ++ [d], x.ls.filter nz = x.ls) (hI : Dcs ao ds w) (hL : Lis la d.ls w) :
    Calls Tryz.prog 32 #[.slice ao ds.length cap, .agg #[.string d.a, .int .i64 d.mo, .int .i64 d.sq, .slice la d.ls.length lc]] w fun e w' => ∃ v, e = .returned v ∧ DsO w.heap.size v (ds ++ [d]) w' ∧ Below w.heap.size w w' := by
  obtain ⟨i0, hi, hz0, hz1, hz2⟩ := info_parts infoD
  obtain ⟨xs0, hx1, hx2, hx3⟩ := dcs_da hI
  have hxl : xs0.length = ds.length := by rw [← hx1]; simp
  have hlo : (cellsAll DA.cells xs0).length = ds.length * 4 := by rw [RowG.cellsAll_len DA.len, hxl]
  obtain ⟨len, hl⟩ : ∃ len, len = ds.length := ⟨_, rfl⟩
  rw [← hl] at hlen hao hcap hxl hlo ⊢
  have hsl := fun W => slice3 ao len cap W hcap (by rcases hao with h | h; exact .inl h.1; exact .inr h)
  have HSM := hid_intro hSm
  have HN := hid_intro hN
  have HX1 := hid_intro hx1
  have HX2 := hid_intro hx2
  have HX3 := hid_intro hx3
  have HL := hid_intro hL
  have HAO : Hid (ao = none → len = 0 ∧ len = 0) := hid_intro (fun e => by rcases hao with h | ⟨b, off, h⟩; exact ⟨h.2, h.2⟩; rw [e] at h; cases h)
  have HLL := hid_intro hl
  have HLO := hid_intro hlo
  have HXL := hid_intro hxl
  clear hI hSm hN hx1 hx2 hx3 hL hao hl hlo hxl
  obtain ⟨dl, hdl⟩ : ∃ dl, dl = d.ls.length := ⟨_, rfl⟩
  have HDL := hid_intro hdl
  have HDO := hid_intro (doc_one d la lc)
  rw [← hdl] at HDO ⊢
  clear hdl
  obtain ⟨W0, hW0⟩ : ∃ W0, W0 = w.alloc (.cells #[.string d.a, .int .i64 d.mo, .int .i64 d.sq, .slice la dl lc] 29) := ⟨_, rfl⟩
  have HW := hid_intro hW0
  have HS0 : Hid (BM4 w w.heap.size (.string d.a) (.int .i64 d.mo) (.int .i64 d.sq) (.slice la dl lc) W0) := hid_intro (by rw [hW0]; exact ⟨(Below.refl _ _).alloc (Nat.le_refl _) _, by simp, by simp [go_sem], by simp [go_sem], by simp [go_sem], by simp [go_sem]⟩)
  have HSd := hid_intro HS0.out.drew
  clear hW0
  have sz1 : len + 1 ≤ maxLen := by unfold maxLen; omega
  have sz2 : (len + 1) * 56 ≤ 140737488355328 := by omega
  go_enter Tryz.func32, Tryz.ntmps32
  go_wp2_with fail
  rw [← HW.out]
  go_region_held3 (fun W => Below w.heap.size w W ∧ w.heap.size < W.heap.size ∧ W.cell? ⟨w.heap.size, 0, none⟩ = some (.string d.a) ∧ W.cell? ⟨w.heap.size, 1, none⟩ = some (.int .i64 d.mo) ∧ W.cell? ⟨w.heap.size, 2, none⟩ = some (.int .i64 d.sq) ∧ W.cell? ⟨w.heap.size, 3, none⟩ = some (.slice la dl lc))
    (first | assumption | (exact HS0.out) | (exact HSd.out) | (exact BM4.below (w := w) (B := w.heap.size) (by assumption) ((Below.refl _ _).alloc (Nat.le_refl _) _)) | (exact BM4.grown (w := w) (B := w.heap.size) (by assumption) hgrow))
    (first | (refine step_append_grows rfl _ _ 26 rfl 29 i0 (.agg #[.string ⟨#[]⟩, .int .i64 0, .int .i64 0, .slice none 0 0]) 4 56 Tryz.underlying26 hi hz0 hz1 hz2 rfl (by decide) ao len len (cellsAll DA.cells xs0) rfl HAO.out HLO.out (HX3.out _ (BM4.fst (w := w) (B := w.heap.size) (a0 := .string d.a) (a1 := .int .i64 d.mo) (a2 := .int .i64 d.sq) (a3 := .slice la dl lc) (by assumption))) ⟨_, 0, none⟩ 1 1 [.string d.a, .int .i64 d.mo, .int .i64 d.sq, .slice la dl lc] rfl rfl (new_cells _ _ _) HDO.out (Nat.lt_succ_self _) sz1 sz2 ?_; intro v1 w1 hown hgrow))
  rename_i hS
  obtain ⟨xs, hxs⟩ : ∃ xs, xs = xs0 ++ [⟨d, la, lc⟩] := ⟨_, rfl⟩
  have HB1 := hid_intro hS.1
  have hn : xs.length = len + 1 := by rw [hxs, List.length_append, HXL.out]; rfl
  have hmd : xs.map DA.d = ds ++ [d] := by rw [hxs, List.map_append, HX1.out]; rfl
  have HLX : Hid (∀ x ∈ xs, Lis x.la x.d.ls w) := hid_intro (fun x hx => by
    rw [hxs] at hx
    rcases List.mem_append.1 hx with h | h
    · exact HX2.out x h
    · rw [List.mem_singleton] at h; subst h; exact HL.out)
  have HSX : Hid (∀ x ∈ xs, x.d.Sm ∧ x.d.ls.filter nz = x.d.ls) := hid_intro (fun x hx => by
    have : x.d ∈ ds ++ [d] := by rw [← hmd]; exact List.mem_map_of_mem hx
    exact ⟨HSM.out _ this, HN.out _ this⟩)
  have ho1 : w1.ownsRow w.heap.size 29 4 v1 (len + 1) (cellsAll DA.cells xs) := by
    rw [hxs, cellsAll_snoc]
    have e : (DA.mk d la lc).cells = [.string d.a, .int .i64 d.mo, .int .i64 d.sq, .slice la dl lc] := by rw [HDL.out]; rfl
    rw [e]
    refine OwG.own_low hown ?_
    have := HS0.out.1.size
    simp
    omega
  have HMD := hid_intro hmd
  have HNN := hid_intro hn
  clear hxs hmd hn hown hgrow hS HW HS0 HSd HDO HDL HLO HAO HXL HX1 HX2 HX3 HL HSM HN hsl hcap
  obtain ⟨g, c, rfl⟩ := own_form ho1
  have hgl := ho1.lt g rfl
  have HO1 := hid_intro ho1
  clear ho1
  obtain ⟨n, hn2⟩ : ∃ n, n = len + 1 := ⟨_, rfl⟩
  rw [← hn2] at HO1 HNN sz1 sz2
  have hn3 : n ≤ 1048576 := by omega
  have HN2 := hid_intro hn2
  have HN4 : Hid ((n : Int) = (len : Int) + 1) := hid_intro (by omega)
  clear hn2
  go_wp2_with fail
  rw [← HN2.out]
  go_loopw [18] (fun z wr => ∃ (k : Nat) (ys : List DA), k ≤ n ∧ z = .int .i64 k ∧ ys.length = k ∧ Hid (ys.map DA.d = (xs.take k).map DA.d) ∧ Hid (wr.ownsRow w.heap.size 29 4 (.slice (some ⟨g, 0, none⟩) n c) n (cellsAll DA.cells (ys ++ xs.drop k))) ∧ Hid (∀ y ∈ ys, LnO w.heap.size y wr) ∧ Hid (ys.Pairwise Apt) ∧ Hid (Below w.heap.size w wr)) (fun z _ => n - (intOf z).toNat)
  case atStart => exact ⟨0, [], by omega, rfl, rfl, hid_intro rfl, HO1, hid_intro (fun y h => by cases h), hid_intro List.Pairwise.nil, HB1⟩
  case round =>
    clear HB1 HO1
    obtain ⟨k, ys, hk, rfl, hyl, HM, HO, HY, HP, HB⟩ := hrel
    by_cases hlt : k < n
    · have hlt2 : (k : Int) < (n : Int) := by omega
      have hkx : k < xs.length := by have := HNN.out; omega
      have hdr := List.drop_eq_getElem_cons hkx
      have hmem := List.getElem_mem hkx
      have htk : xs.take (k + 1) = xs.take k ++ [xs[k]] := by rw [List.take_succ_eq_append_getElem hkx]
      have HTK := hid_intro htk
      rw [hdr] at HO
      obtain ⟨zs, hzs⟩ : ∃ zs, zs = xs.drop (k + 1) := ⟨_, rfl⟩
      rw [← hzs] at HO
      have HZS := hid_intro hzs
      have hLi := HLX.out _ hmem
      obtain ⟨⟨hs1, hs2, hs3⟩, hnz⟩ := HSX.out _ hmem
      generalize xs[k] = X at *
      clear hdr hmem htk hzs
      have HCP := hid_intro (icopy X.d X.la X.lc wr hs1 hs2 hs3 (hLi.below HB.out))
      rw [hnz] at HCP
      have hll : (ys ++ X :: zs).length = n := by
        have := HO.out.1
        rw [RowG.cellsAll_len DA.len] at this
        omega
      have ho := HO.out
      rw [← hll] at ho
      obtain ⟨ao', cp', e', hm⟩ := RowG.own_made (z := DA.zero) DA.len ho
      cases e'
      obtain ⟨b', off', e', hb', hat⟩ := RowG.Rws.at hm.rws k (by rw [hll]; exact hlt)
      cases e'
      have eX : (ys ++ X :: zs).getD k DA.zero = X := by simp [List.getD, ← hyl]
      rw [eX] at hat
      have c0 := hat 0 (by omega)
      have c1 := hat 1 (by omega)
      have c2 := hat 2 (by omega)
      have c3 := hat 3 (by omega)
      simp only [DA.cells, DA.v, List.getElem?_cons_zero, List.getElem?_cons_succ, Nat.zero_add, Nat.add_zero] at c0 c1 c2 c3
      have HPT : Hid (EvtR.Pt g (n * 4) wr) := hid_intro (by
        rcases hm.2 with h0 | ⟨g', e, _, hgl2, hp, hf⟩
        · rw [List.length_eq_zero_iff.1 h0] at hll
          simp at hll
          omega
        · cases e
          rw [hll] at hp hf
          exact ⟨hgl2, hp, hf⟩)
      obtain ⟨⟨a, mo, sq, ls⟩, la1, lc1⟩ := X
      dsimp only at *
      obtain ⟨ll, hl1⟩ : ∃ ll, ll = ls.length := ⟨_, rfl⟩
      rw [← hl1] at HCP c3
      have HLL1 := hid_intro hl1
      have hlt3 : (k : Int) < (len : Int) + 1 := by have := HN4.out; omega
      clear hat hm ho eX hLi hs1 hs2 hs3 hnz hl1
      go_wp2_with fail
      refine HCP.out.mono ?_
      rintro e w2 ⟨v, rfl, hov, hb2⟩
      have HPT2 := hid_intro (HPT.out.below hb2)
      have HO2 := hid_intro (RowG.own_below HO.out hb2)
      have HY2 : Hid (∀ y ∈ ys, LnO w.heap.size y w2) := hid_intro (fun y hy => RowG.own_below (HY.out y hy) hb2)
      have HBB := hid_intro hb2.size
      have HB2 := hid_intro (HB.out.trans (hb2.mono HB.out.size))
      have HG2 := hid_intro hb'
      rw [HLL1.out] at hov
      obtain ⟨la2, lc2, rfl, _⟩ := RowG.own_made (z := N.zero) N.len hov
      have HOV := hid_intro hov
      have d0 := (hb2.cell (p := ⟨g, k * 4, none⟩) hb').trans c0
      have d1 := (hb2.cell (p := ⟨g, k * 4 + 1, none⟩) hb').trans c1
      have d2 := (hb2.cell (p := ⟨g, k * 4 + 2, none⟩) hb').trans c2
      have d3 := (hb2.cell (p := ⟨g, k * 4 + 3, none⟩) hb').trans c3
      have f0 := HPT2.out.free (k * 4) (by omega)
      have f1 := HPT2.out.free (k * 4 + 1) (by omega)
      have f2 := HPT2.out.free (k * 4 + 2) (by omega)
      have f3 := HPT2.out.free (k * 4 + 3) (by omega)
      clear hov hb2 c0 c1 c2 c3 HO HB HCP HPT
      go_wp2_with fail
      have HGR := hid_intro (StR.stL_grown g [.string a, .int .i64 mo, .int .i64 sq, .slice la2 ls.length lc2] (k * 4) w2)
      have HOF := hid_intro (own_put4 HO2.out (⟨⟨a, mo, sq, ls⟩, la2, lc2⟩ : DA))
      rw [hyl] at HOF
      have HYF : Hid (∀ y ∈ ys ++ [(⟨⟨a, mo, sq, ls⟩, la2, lc2⟩ : DA)], LnO w.heap.size y (StR.stL w2 g (k * 4) [.string a, .int .i64 mo, .int .i64 sq, .slice la2 ls.length lc2])) := hid_intro (fun y hy => by
        rcases List.mem_append.1 hy with h | h
        · exact (HY2.out y h).grown HGR.out (own_apart (HY2.out y h) HO2.out (by decide))
        · rw [List.mem_singleton] at h
          subst h
          exact OwG.own_low (own_keepG HOV.out HGR.out HG2.out) (by have := hgl.1; have := HG2.out; omega))
      have HPF : Hid ((ys ++ [(⟨⟨a, mo, sq, ls⟩, la2, lc2⟩ : DA)]).Pairwise Apt) := hid_intro (List.pairwise_append.2 ⟨HP.out, List.pairwise_singleton _ _, fun x hx y hy => by
        rw [List.mem_singleton] at hy
        subst hy
        intro b h1 h2
        have p1 := (HY.out x hx).lt b h1
        have p2 := HOV.out.lt b h2
        omega⟩)
      have HBF := hid_intro (HB2.out.grown HGR.out HB2.out.size (fun k h => by cases h; exact hgl.1))
      simp only [StR.stL, DA.v] at HOF HYF HBF
      go_roundw
      case rel =>
        refine ⟨k + 1, ys ++ [⟨⟨a, mo, sq, ls⟩, la2, lc2⟩], by omega, by go_num, by simp [hyl], hid_intro (by rw [HTK.out, List.map_append, List.map_append, HM.out]; rfl), ?_, HYF, HPF, HBF⟩
        rw [← HZS.out, List.append_assoc]
        exact HOF
      case measure => simp [intOf]; omega
    · have hlt3 : ¬ (k : Int) < (len : Int) + 1 := by have := HN4.out; omega
      obtain rfl : k = n := by omega
      have HOF : Hid (DsO w.heap.size (.slice (some ⟨g, 0, none⟩) k c) (ds ++ [d]) wr) := hid_intro (by
        refine ⟨ys, ?_, ?_, HY.out, HP.out⟩
        · rw [HM.out, List.take_of_length_le (by have := HNN.out; omega), HMD.out]
        · have h := HO.out
          rw [List.drop_eq_nil_of_le (by have := HNN.out; omega), List.append_nil] at h
          rw [← HMD.out, List.length_map, HNN.out]
          exact h)
      go_wp2_with fail
      go_ret
      exact ⟨_, rfl, HOF.out, HB.out⟩
end LedR
end Go.Proofs.YtakeiankhfdjdaaGreatDoor
