/-
  The model's Issue: spec.l09Issue, spec.Issue. The conditions: sizes of at most 1048576, the bill at a place.
  The model's Issue: spec.Issue. The conditions: sizes of at most 1048576, the bill at a place.
  Documents that are drawn: (*l01Src).l09Docs. No condition but the source.
  PutNum: what the model and the program hand back is one text, the digits of the folded number. No condition but that the number is of int64.
  joinTexts: called with a list of texts (at least one) it hands back the texts one behind the other, in new memory; nothing that was there is written. The condition: they have together at most 2^40 bytes, and the list at most 1000 texts.
  A text's bytes: both sides put the same. No condition but the length.
  Lists of texts of one's own that grow by append, and texts that are joined. No condition.
  The program's bytes of a document. The condition: it is right.
  The bytes of a ledger, on both sides. The conditions: documents that are small, their months numbers of 64 bits.
  The draws of the law on ledgers: spec.DrawLedgerBytes, spec.DrawLedgerRead. The condition: at most 1048576 bytes to draw from.
-/
import Derived.Deep.RegionHeld
import Derived.Laws.BytesArg
import Derived.Laws.CopyOwn
import Derived.Lib.BufferRead
import Derived.OwnWalk
import Derived.Deep.RegionHeld3
import Derived.Test.YtbecgngmpjajaaaG2
namespace Go.Proofs.Ytbecgngmpjajaaa
open Go.ChangeShapes Go.WideShapes Go.ChangeAt Go.RowKit
set_option linter.unusedVariables false
namespace LedR
open LinR RowG LtR NetR DocR
theorem blk_add {b : Nat} {cs : List Value} {W : World} (h : BlkW b cs W) : ∀ j u, cs[j]? = some u → W.cell? ((⟨b, 0, none⟩ : Addr).add j) = some u := by
  intro j u hj
  have hl := (List.getElem?_eq_some_iff.1 hj).1
  rw [Addr.add_lit, Nat.zero_add, h.1.2 j hl]
  exact hj
theorem lo_fin {wb base : Nat} {vd : Value} {ds : List D} {d : D} {xs : List DA} {co : Option Addr} {cc2 : Nat} {q0 q WF : World} (hlw : wb < base) (a1 : xs.map DA.d = ds) (a2 : q0.ownsRow base 29 4 vd ds.length (cellsAll DA.cells xs)) (a3 : ∀ y ∈ xs, LnO base y q0) (a4 : xs.Pairwise Apt) (hq : Below q0.heap.size q0 q) (hcp : q.ownsRow q0.heap.size 54 2 (.slice co d.ls.length cc2) d.ls.length (cellsAll N.cells d.ls)) (hb : base ≤ q0.heap.size) (hgr : q.grownBy WF (some wb)) :
    LoO wb (.agg #[vd, .string d.a, .int .i64 d.mo, .int .i64 d.sq, .slice co d.ls.length cc2, .int .i64 0]) ds d 0 WF := by
  have hw : wb ≤ base := Nat.le_of_lt hlw
  refine ⟨vd, xs, co, cc2, rfl, a1, OwG.own_low (OwG.own_keepG (RowG.own_below a2 hq) hgr hlw) hw, fun y hy => OwG.own_low (OwG.own_keepG (RowG.own_below (a3 y hy) hq) hgr hlw) hw, a4, OwG.own_low (OwG.own_keepG hcp hgr (Nat.lt_of_lt_of_le hlw hb)) (Nat.le_trans hw hb), fun y hy b h1 h2 => ?_⟩
  have p1 := ((a3 y hy).lt b h1).2
  have p2 := (hcp.lt b h2).1
  omega
theorem clL_len (G : List N) : (clL G).length ≤ G.length := by unfold clL; cases ovB G; exact Nat.zero_le _; exact List.length_filter_le _ _
set_option maxRecDepth 100000 in
set_option maxHeartbeats 8000000 in
theorem sissue0 (ao : Option Addr) (bb boff cap capb : Nat) (ds : List D) (a : ByteArray) (m : Int) (bl : List N) (w : World) (hlr : LRight ds) (hsr : SRight bl) (hbig : ¬ (400 < ds.length ∨ 8000 < a.size ∨ 400 < bl.length)) (hform : isFormB ds a m bl = true) (hdl : ∀ d ∈ ds, d.ls.length ≤ 1048576) (hI : Dcs ao ds w) (hL : Lis (some ⟨bb, boff, none⟩) bl w) :
    Calls Try.prog 52 #[.slice ao ds.length cap, .string a, .int .i64 m, .slice (some ⟨bb, boff, none⟩) bl.length capb] w fun e w' => ∃ v, e = .returned v ∧ LoO w.heap.size v (isD ds a m bl) (isX ds a m bl) (isC ds a m bl) w' ∧ Below w.heap.size w w' := by
  obtain ⟨i0, hi, hz0, hz1, hz2⟩ := info_parts infoD
  have HGo := hid_intro (isGo ds a m bl hbig hform)
  have hnF : (net ds a m).length ≤ 180 := by
    have h1 := (net_facts (ds := ds) ds.length (Nat.le_refl _) hlr.2.1 a m).2.1
    rw [List.take_length] at h1
    have h2 := hlr.1
    omega
  have hfl := List.length_filter_le nz (net ds a m)
  have hfe : ∀ e ∈ (net ds a m).filter nz, -1000000000000000 ≤ e.n ∧ e.n ≤ 1000000000000000 := fun e he => by
    have h1 := ov_net hlr a m
    unfold ovB at h1
    rw [List.all_eq_true] at h1
    have := h1 e (List.mem_filter.1 he).1
    unfold nOk at this
    exact of_decide_eq_true this
  have hcl : clL (net ds a m) = (net ds a m).filter nz := by unfold clL; rw [ov_net hlr a m]; rfl
  have HLG : Hid ((moreG ds a m bl).length ≤ 1000) := hid_intro (by
    have h2 := all_len bl ((net ds a m).filter nz) (-1)
    have h4 := hsr.1
    unfold moreG at *
    omega)
  have HGE : Hid (moreG ds a m bl = all bl ((net ds a m).filter nz) (-1)) := hid_intro rfl
  have hds30 := hlr.1
  obtain ⟨W0, hW0⟩ : ∃ W0, W0 = w.alloc (.cells #[.slice none 0 0, .string ⟨#[]⟩, .int .i64 0, .int .i64 0, .slice none 0 0, .int .i64 0] 31) := ⟨_, rfl⟩
  have HB0 : Hid (Below w.heap.size w W0) := hid_intro (by rw [hW0]; exact (Below.refl _ _).alloc (Nat.le_refl _) _)
  have HR0 : Hid (BlkW w.heap.size [.slice none 0 0, .string ⟨#[]⟩, .int .i64 0, .int .i64 0, .slice none 0 0, .int .i64 0] W0) := hid_intro (by rw [hW0]; exact BlkW.new w [.slice none 0 0, .string ⟨#[]⟩, .int .i64 0, .int .i64 0, .slice none 0 0, .int .i64 0] 31)
  have HLW0 : Hid (w.heap.size < W0.heap.size) := hid_intro HR0.out.1.1
  have HW := hid_intro hW0
  have HNT := hid_intro (snet ao cap ds a m W0 hlr (hI.below HB0.out))
  rw [hcl] at HNT
  have HAD := hid_intro (fun W (hb : Below W0.heap.size W0 W) bo2 capn (h : Lis bo2 ((net ds a m).filter nz) W) => sadd bb boff capb bl bo2 capn ((net ds a m).filter nz) (-1) 1000000000000000 W (.inr rfl) (by omega) hfe (right_rise hsr) (by have := hsr.1; omega) (by omega) (right_bd hsr) (hL.below (HB0.out.trans (hb.mono HB0.out.size))) h)
  have HCT := hid_intro (fun W (hb : Below W0.heap.size W0 W) => scount ao cap ds ds.length a m W (Nat.le_refl _) (by omega) (hI.below (HB0.out.trans (hb.mono HB0.out.size))))
  have HCP := hid_intro (fun W (hb : Below W0.heap.size W0 W) => scopy ao cap ds W (by omega) hdl (hI.below (HB0.out.trans (hb.mono HB0.out.size))))
  rw [← HGE.out] at HAD
  rw [List.take_length] at HCT
  obtain ⟨F, hF⟩ : ∃ F, F = (net ds a m).filter nz := ⟨_, rfl⟩
  rw [← hF] at HNT HAD
  generalize hcc : cnt ds a m = cc at *
  have hc30 : cc ≤ 30 := by rw [← hcc]; have := cnt_le ds a m; omega
  generalize hG0 : moreG ds a m bl = G at *
  obtain ⟨len, hl⟩ : ∃ len, len = ds.length := ⟨_, rfl⟩
  rw [← hl] at HNT HCT HCP HGo hds30 ⊢
  have HLN := hid_intro hl
  generalize bl.length = lb at *
  generalize hfn : F.length = nf at *
  clear hI hL hlr hsr hbig hform hdl hnF hfl hfe hcl hF hW0 hl
  go_enter Try.func52, Try.ntmps52
  go_wp2_with fail
  rw [← HW.out]
  refine HNT.out.mono ?_
  rintro e w1 ⟨v, rfl, hv, hb1⟩
  have HB1 := hid_intro hb1
  have HR1 := hid_intro (HR0.out.below hb1)
  obtain ⟨g1, c1, rfl, -, -, -, -, hL1⟩ := hv.open
  have HA1 := hid_intro (HAD.out w1 hb1 _ c1 hL1)
  rw [hfn]
  clear hv hb1 hL1 HNT HAD HW HR0
  go_wp2_with fail
  refine HA1.out.mono ?_
  rintro e w2 ⟨v, rfl, hv, hb2⟩
  have HB2 := hid_intro (HB1.out.trans (hb2.mono HB1.out.size))
  have HR2 := hid_intro (HR1.out.below hb2)
  obtain ⟨g2, c2, rfl, -, -, -, -, hL2⟩ := hv.open
  have HC2 := hid_intro (sclean (some ⟨g2, 0, none⟩) c2 G w2 (by have := HLG.out; omega) hL2)
  generalize hgn : G.length = ng at *
  clear hv hb2 hL2 HA1 HB1 HR1
  go_wp2_with fail
  refine HC2.out.mono ?_
  rintro e w3 ⟨v, rfl, hv, hb3⟩
  have HB3 := hid_intro (HB2.out.trans (hb3.mono HB2.out.size))
  have HR3 := hid_intro (HR2.out.below hb3)
  obtain ⟨g3, lc1, rfl, -, -, -, -, -⟩ := hv.open
  have HO3 := hid_intro (own_low hv.1 HB2.out.size)
  have HCT3 := hid_intro (HCT.out w3 HB3.out)
  obtain ⟨la1, hla1⟩ : ∃ la1 : Option Addr, la1 = some ⟨g3, 0, none⟩ := ⟨_, rfl⟩
  rw [← hla1] at HO3 ⊢
  have HK1 : Hid ((clL G).length ≤ 1000) := hid_intro (by have := clL_len G; have := HLG.out; omega)
  have HNil : Hid (clL G = [] ↔ (clL G).length = 0) := hid_intro List.length_eq_zero_iff.symm
  obtain ⟨n1, hn1⟩ : ∃ n1, n1 = (clL G).length := ⟨_, rfl⟩
  rw [← hn1] at HO3 HK1 HNil ⊢
  have HN1 := hid_intro hn1
  obtain ⟨r, hr⟩ : ∃ r, r = ovB G := ⟨_, rfl⟩
  rw [← hr] at HGo ⊢
  clear hv hb3 HC2 HB2 HR2 HCT hla1 hn1 hr
  go_wp2_with fail
  refine HCT3.out.mono ?_
  rintro e w4 ⟨rfl, hb4⟩
  have HB4 := hid_intro (HB3.out.trans (hb4.mono HB3.out.size))
  have HR4 := hid_intro (HR3.out.below hb4)
  have HO4 := hid_intro (RowG.own_below HO3.out hb4)
  have HBw := hid_intro (HB0.out.trans (HB4.out.mono HB0.out.size))
  have hn1k := HK1.out
  clear hb4 HCT3 HB3 HR3 HO3
  cases r
  · have HE := hid_intro (HGo.out.1 rfl)
    obtain ⟨⟨rl, rk⟩, rf⟩ := HR4.out
    have p0 : w4.cell? ⟨w.heap.size, 0, none⟩ = some (.slice none 0 0) := rk 0 (by simp)
    have f0 : w4.frozen? ⟨w.heap.size, 0, none⟩ = false := rf 0 (by simp)
    have p1 : w4.cell? ⟨w.heap.size, 1, none⟩ = some (.string ⟨#[]⟩) := rk 1 (by simp)
    have f1 : w4.frozen? ⟨w.heap.size, 1, none⟩ = false := rf 1 (by simp)
    have p2 : w4.cell? ⟨w.heap.size, 2, none⟩ = some (.int .i64 0) := rk 2 (by simp)
    have f2 : w4.frozen? ⟨w.heap.size, 2, none⟩ = false := rf 2 (by simp)
    have p3 : w4.cell? ⟨w.heap.size, 3, none⟩ = some (.int .i64 0) := rk 3 (by simp)
    have f3 : w4.frozen? ⟨w.heap.size, 3, none⟩ = false := rf 3 (by simp)
    have p4 : w4.cell? ⟨w.heap.size, 4, none⟩ = some (.slice none 0 0) := rk 4 (by simp)
    have f4 : w4.frozen? ⟨w.heap.size, 4, none⟩ = false := rf 4 (by simp)
    have p5 : w4.cell? ⟨w.heap.size, 5, none⟩ = some (.int .i64 0) := rk 5 (by simp)
    have f5 : w4.frozen? ⟨w.heap.size, 5, none⟩ = false := rf 5 (by simp)
    have hg := StR.stL_grown w.heap.size [.slice none 0 0, .string ⟨#[]⟩, .int .i64 0, .int .i64 0, .slice none 0 0, .int .i64 12] 0 w4
    have HBF := hid_intro (HBw.out.grown hg HBw.out.size (fun k e => by simp only [Option.some.injEq] at e; omega))
    simp only [StR.stL, Nat.zero_add, Nat.reduceAdd] at HBF
    clear hg rk rf
    go_wp2_with fail
    refine bodyPost_ret (v := .agg #[.slice none 0 0, .string ⟨#[]⟩, .int .i64 0, .int .i64 0, .slice none 0 0, .int .i64 12]) (by simp [results, Try.results52, go_sem, p0, p1, p2, p3, p4, p5]) rfl ⟨_, rfl, by rw [HE.out.1, HE.out.2.1, HE.out.2.2]; exact loO_of (dso_nil _ _), HBF.out⟩
  by_cases hz : n1 = 0 ∧ 0 < cc
  · have hz1 : ((n1 : Int) == 0) = true := by simp; omega
    have hz2 : (0 : Int) < (cc : Int) := by omega
    have hz0 : n1 = 0 := hz.1
    have HE := hid_intro (HGo.out.2.1 rfl (HNil.out.2 hz.1) hz.2)
    clear hz
    obtain ⟨⟨rl, rk⟩, rf⟩ := HR4.out
    have p0 : w4.cell? ⟨w.heap.size, 0, none⟩ = some (.slice none 0 0) := rk 0 (by simp)
    have f0 : w4.frozen? ⟨w.heap.size, 0, none⟩ = false := rf 0 (by simp)
    have p1 : w4.cell? ⟨w.heap.size, 1, none⟩ = some (.string ⟨#[]⟩) := rk 1 (by simp)
    have f1 : w4.frozen? ⟨w.heap.size, 1, none⟩ = false := rf 1 (by simp)
    have p2 : w4.cell? ⟨w.heap.size, 2, none⟩ = some (.int .i64 0) := rk 2 (by simp)
    have f2 : w4.frozen? ⟨w.heap.size, 2, none⟩ = false := rf 2 (by simp)
    have p3 : w4.cell? ⟨w.heap.size, 3, none⟩ = some (.int .i64 0) := rk 3 (by simp)
    have f3 : w4.frozen? ⟨w.heap.size, 3, none⟩ = false := rf 3 (by simp)
    have p4 : w4.cell? ⟨w.heap.size, 4, none⟩ = some (.slice none 0 0) := rk 4 (by simp)
    have f4 : w4.frozen? ⟨w.heap.size, 4, none⟩ = false := rf 4 (by simp)
    have p5 : w4.cell? ⟨w.heap.size, 5, none⟩ = some (.int .i64 0) := rk 5 (by simp)
    have f5 : w4.frozen? ⟨w.heap.size, 5, none⟩ = false := rf 5 (by simp)
    have hg := StR.stL_grown w.heap.size [.slice none 0 0, .string ⟨#[]⟩, .int .i64 0, .int .i64 0, .slice none 0 0, .int .i64 7] 0 w4
    have HBF := hid_intro (HBw.out.grown hg HBw.out.size (fun k e => by simp only [Option.some.injEq] at e; omega))
    simp only [StR.stL, Nat.zero_add, Nat.reduceAdd] at HBF
    clear hg rk rf
    go_wp2_with fail
    refine bodyPost_ret (v := .agg #[.slice none 0 0, .string ⟨#[]⟩, .int .i64 0, .int .i64 0, .slice none 0 0, .int .i64 7]) (by simp [results, Try.results52, go_sem, p0, p1, p2, p3, p4, p5]) rfl ⟨_, rfl, by rw [HE.out.1, HE.out.2.1, HE.out.2.2]; exact loO_of (dso_nil _ _), HBF.out⟩
  have hzz : ¬ (clL G = [] ∧ 0 < cc) := fun h => hz ⟨HNil.out.1 h.1, h.2⟩
  have HWY : Hid ((((n1 : Int) == 0) = true ∧ ¬ (0 : Int) < (cc : Int)) ∨ ((n1 : Int) == 0) = false) := hid_intro (by
    by_cases h : n1 = 0
    · exact .inl ⟨by simp; omega, by omega⟩
    · exact .inr (by simp; omega))
  by_cases h30 : 30 ≤ len
  · have HE := hid_intro (HGo.out.2.2.1 rfl hzz h30)
    have h30' : (30 : Int) ≤ (len : Int) := by omega
    rcases HWY.out with ⟨q1, q2⟩ | q1
    · obtain ⟨⟨rl, rk⟩, rf⟩ := HR4.out
      have p0 : w4.cell? ⟨w.heap.size, 0, none⟩ = some (.slice none 0 0) := rk 0 (by simp)
      have f0 : w4.frozen? ⟨w.heap.size, 0, none⟩ = false := rf 0 (by simp)
      have p1 : w4.cell? ⟨w.heap.size, 1, none⟩ = some (.string ⟨#[]⟩) := rk 1 (by simp)
      have f1 : w4.frozen? ⟨w.heap.size, 1, none⟩ = false := rf 1 (by simp)
      have p2 : w4.cell? ⟨w.heap.size, 2, none⟩ = some (.int .i64 0) := rk 2 (by simp)
      have f2 : w4.frozen? ⟨w.heap.size, 2, none⟩ = false := rf 2 (by simp)
      have p3 : w4.cell? ⟨w.heap.size, 3, none⟩ = some (.int .i64 0) := rk 3 (by simp)
      have f3 : w4.frozen? ⟨w.heap.size, 3, none⟩ = false := rf 3 (by simp)
      have p4 : w4.cell? ⟨w.heap.size, 4, none⟩ = some (.slice none 0 0) := rk 4 (by simp)
      have f4 : w4.frozen? ⟨w.heap.size, 4, none⟩ = false := rf 4 (by simp)
      have p5 : w4.cell? ⟨w.heap.size, 5, none⟩ = some (.int .i64 0) := rk 5 (by simp)
      have f5 : w4.frozen? ⟨w.heap.size, 5, none⟩ = false := rf 5 (by simp)
      have hg := StR.stL_grown w.heap.size [.slice none 0 0, .string ⟨#[]⟩, .int .i64 0, .int .i64 0, .slice none 0 0, .int .i64 9] 0 w4
      have HBF := hid_intro (HBw.out.grown hg HBw.out.size (fun k e => by simp only [Option.some.injEq] at e; omega))
      simp only [StR.stL, Nat.zero_add, Nat.reduceAdd] at HBF
      clear hg rk rf
      go_wp2_with fail
      refine bodyPost_ret (v := .agg #[.slice none 0 0, .string ⟨#[]⟩, .int .i64 0, .int .i64 0, .slice none 0 0, .int .i64 9]) (by simp [results, Try.results52, go_sem, p0, p1, p2, p3, p4, p5]) rfl ⟨_, rfl, by rw [HE.out.1, HE.out.2.1, HE.out.2.2]; exact loO_of (dso_nil _ _), HBF.out⟩
    · obtain ⟨⟨rl, rk⟩, rf⟩ := HR4.out
      have p0 : w4.cell? ⟨w.heap.size, 0, none⟩ = some (.slice none 0 0) := rk 0 (by simp)
      have f0 : w4.frozen? ⟨w.heap.size, 0, none⟩ = false := rf 0 (by simp)
      have p1 : w4.cell? ⟨w.heap.size, 1, none⟩ = some (.string ⟨#[]⟩) := rk 1 (by simp)
      have f1 : w4.frozen? ⟨w.heap.size, 1, none⟩ = false := rf 1 (by simp)
      have p2 : w4.cell? ⟨w.heap.size, 2, none⟩ = some (.int .i64 0) := rk 2 (by simp)
      have f2 : w4.frozen? ⟨w.heap.size, 2, none⟩ = false := rf 2 (by simp)
      have p3 : w4.cell? ⟨w.heap.size, 3, none⟩ = some (.int .i64 0) := rk 3 (by simp)
      have f3 : w4.frozen? ⟨w.heap.size, 3, none⟩ = false := rf 3 (by simp)
      have p4 : w4.cell? ⟨w.heap.size, 4, none⟩ = some (.slice none 0 0) := rk 4 (by simp)
      have f4 : w4.frozen? ⟨w.heap.size, 4, none⟩ = false := rf 4 (by simp)
      have p5 : w4.cell? ⟨w.heap.size, 5, none⟩ = some (.int .i64 0) := rk 5 (by simp)
      have f5 : w4.frozen? ⟨w.heap.size, 5, none⟩ = false := rf 5 (by simp)
      have hg := StR.stL_grown w.heap.size [.slice none 0 0, .string ⟨#[]⟩, .int .i64 0, .int .i64 0, .slice none 0 0, .int .i64 9] 0 w4
      have HBF := hid_intro (HBw.out.grown hg HBw.out.size (fun k e => by simp only [Option.some.injEq] at e; omega))
      simp only [StR.stL, Nat.zero_add, Nat.reduceAdd] at HBF
      clear hg rk rf
      go_wp2_with fail
      refine bodyPost_ret (v := .agg #[.slice none 0 0, .string ⟨#[]⟩, .int .i64 0, .int .i64 0, .slice none 0 0, .int .i64 9]) (by simp [results, Try.results52, go_sem, p0, p1, p2, p3, p4, p5]) rfl ⟨_, rfl, by rw [HE.out.1, HE.out.2.1, HE.out.2.2]; exact loO_of (dso_nil _ _), HBF.out⟩
  have HE := hid_intro (HGo.out.2.2.2 rfl hzz (by omega))
  have h30' : ¬ (30 : Int) ≤ (len : Int) := by omega
  have HNW : Hid (newD ds a m bl = (⟨a, m, (cc : Nat), clL G⟩ : D)) := hid_intro (by unfold newD; rw [hcc, hG0])
  rw [HNW.out] at HE
  obtain ⟨dB, hdB⟩ : ∃ z, z = w4.heap.size := ⟨_, rfl⟩
  have HD5 := BlkW.new w4 [.string a, .int .i64 m, .int .i64 (cc : Nat), .slice la1 n1 lc1] 29
  have HB5 : Below w4.heap.size w4 (w4.alloc (.cells #[.string a, .int .i64 m, .int .i64 (cc : Nat), .slice la1 n1 lc1] 29)) := (Below.refl _ _).alloc (Nat.le_refl _) _
  rw [← hdB] at HD5 HB5
  have HDB := hid_intro hdB
  replace HD5 := hid_intro HD5
  replace HB5 := hid_intro HB5
  clear hz hzz hdB
  rcases HWY.out with ⟨q1, q2⟩ | q1
  · have HLW : Hid (w.heap.size < W0.heap.size) := HLW0
    have HDW : Hid (¬ dB = w.heap.size) := hid_intro (by have := HR4.out.1.1; have := HDB.out; omega)
    have gsz4 : Hid (0 < 4) := hid_intro (by omega)
    have HDO : Hid (∀ u ∈ ([.string a, .int .i64 m, .int .i64 (cc : Nat), .slice la1 n1 lc1] : List Value), u.oneCell' = true) := hid_intro (by intro u hu; simp at hu; rcases hu with rfl | rfl | rfl | rfl <;> rfl)
    have sz1 : len + 1 ≤ maxLen := by unfold maxLen; omega
    have sz2 : (len + 1) * 56 ≤ 140737488355328 := by omega
    go_wp2_with fail
    rw [← HDB.out]
    obtain ⟨W5, hW5⟩ : ∃ z, z = w4.alloc (Obj.cells #[.string a, .int .i64 m, .int .i64 (cc : Nat), .slice la1 n1 lc1] 29) := ⟨_, rfl⟩
    have HD5 : Hid (BlkW dB [.string a, .int .i64 m, .int .i64 (cc : Nat), .slice la1 n1 lc1] W5) := hid_intro (by rw [hW5]; exact HD5.out)
    have HB5 : Hid (Below dB w4 W5) := hid_intro (by rw [hW5]; exact HB5.out)
    rw [← hW5]
    clear hW5
    have hb0 := (Below.refl W5.heap.size W5).drew
    have hB5 : Below w4.heap.size w4 W5 := by have := HB5.out; rw [HDB.out] at this; exact this
    have hB0 := (HB4.out.trans (hB5.mono HB4.out.size)).trans (hb0.mono (HB4.out.trans (hB5.mono HB4.out.size)).size)
    have hR0 := (HR4.out.below hB5).below hb0
    have hD0 := HD5.out.below hb0
    have hO0 := RowG.own_below (RowG.own_below HO4.out hB5) hb0
    have hlw : w.heap.size < W0.heap.size := HLW.out
    have HSD : Hid (∀ W, BlkW dB [.string a, .int .i64 m, .int .i64 (cc : Nat), .slice la1 n1 lc1] W → (fun W => dB < W.heap.size ∧ W.cell? ⟨dB, 0, none⟩ = some (.string a) ∧ W.cell? ⟨dB, 1, none⟩ = some (.int .i64 m) ∧ W.cell? ⟨dB, 2, none⟩ = some (.int .i64 (cc : Nat)) ∧ W.cell? ⟨dB, 3, none⟩ = some (.slice la1 n1 lc1)) W) := hid_intro (fun W h => ⟨h.1.1, h.1.2 0 (by simp), h.1.2 1 (by simp), h.1.2 2 (by simp), h.1.2 3 (by simp)⟩)
    clear hb0 hB5 HB4 HR4 HD5 HB5 HO4 HBw HWY HGo
    refine wp_region_held_drew (S := (fun W => dB < W.heap.size ∧ W.cell? ⟨dB, 0, none⟩ = some (.string a) ∧ W.cell? ⟨dB, 1, none⟩ = some (.int .i64 m) ∧ W.cell? ⟨dB, 2, none⟩ = some (.int .i64 (cc : Nat)) ∧ W.cell? ⟨dB, 3, none⟩ = some (.slice la1 n1 lc1))) (by kernel_rfl) (HSD.out _ hD0) (fun hHeld => ?_)
    generalize W5.drew = kd at *
    refine wpAnyH_take (i := 0) (oi := { dst := some 49, op := Op.move (Operand.tmp 0), type := 23, pos := "l09_ledger.go:135", after := #[], guard := none }) (v := ?_) rfl (by kernel_rfl) (by kernel_rfl) (by kernel_rfl) (fun _ _ _ h => h) (Or.inl ⟨by rfl, ?_⟩) (by assumption) ?_
    rotate_left
    · (intro w hSw; (try dsimp only at hSw); go_simp) <;> with_reducible rfl
    try simp only [Act.put, List.setIfInBounds_toArray, List.set_cons_zero, List.set_cons_succ]
    refine wpAnyH_take (i := 2) (oi := { dst := some 51, op := Op.load 29 (Operand.tmp 12), type := 29, pos := "l09_ledger.go:135", after := #[], guard := none }) (v := ?_) rfl (by kernel_rfl) (by kernel_rfl) (by kernel_rfl) (fun _ _ _ h => h) (Or.inl ⟨by rfl, ?_⟩) (by assumption) ?_
    rotate_left
    · (intro w hSw; (try dsimp only at hSw); go_simp) <;> with_reducible rfl
    try simp only [Act.put, List.setIfInBounds_toArray, List.set_cons_zero, List.set_cons_succ]
    refine wpAnyH_take (i := 5) (oi := { dst := some 54, op := Op.load 29 (Operand.tmp 12), type := 29, pos := "l09_ledger.go:135", after := #[], guard := none }) (v := ?_) rfl (by kernel_rfl) (by kernel_rfl) (by kernel_rfl) (fun _ _ _ h => h) (Or.inl ⟨by rfl, ?_⟩) (by assumption) ?_
    rotate_left
    · (intro w hSw; (try dsimp only at hSw); go_simp) <;> with_reducible rfl
    try simp only [Act.put, List.setIfInBounds_toArray, List.set_cons_zero, List.set_cons_succ]
    refine wpAnyH_ready (rs := [1, 3]) (by kernel_rfl) (by simp) ?_
    refine AllReadyH.cons (o := { dst := some 50, op := Op.call { callee := Callee.value (Operand.func 62), args := #[Operand.tmp 49], argTypes := #[23] }, type := 23, pos := "l09_ledger.go:135", after := #[{ on := 0, ground := Ground.data }], guard := none }) rfl (fun K hK => ?_) (AllReadyH.cons (o := { dst := some 52, op := Op.buildSlice 23 1 #[(0, Operand.tmp 51)], type := 23, pos := "l09_ledger.go:135", after := #[{ on := 2, ground := Ground.data }], guard := none }) rfl (fun K hK => ?_) AllReadyH.nil)
    · go_simp
      go_at_call 62
      refine (HCP.out _ hB0).mono ?_
      rintro e q1 ⟨vC, rfl, hds, hq1⟩
      try go_wp2_with fail
      have hlC : W0.heap.size ≤ kd.heap.size := hB0.size
      have hlR : w.heap.size < kd.heap.size := hR0.1.1
      have hlD : dB < kd.heap.size := hD0.1.1
      have hAp := hO0
      have hB1 := hB0.trans (hq1.mono hB0.size)
      have hR1 := hR0.below hq1
      have hD1 := hD0.below hq1
      have hO1 := RowG.own_below hO0 hq1
      obtain ⟨xs, x1, x2, x3, x4⟩ := hds
      have hap : ∀ x ∈ xs, Apt x ⟨(⟨a, m, (cc : Nat), clL G⟩ : D), la1, lc1⟩ := fun x hx b h1 h2 => by
        have p1 := ((x3 x hx).lt b h1).1
        have p2 := (hAp.lt b (show (Value.slice la1 n1 lc1).ownBlock = some b by rw [HN1.out]; exact h2)).2
        omega
      have hcb := fun k e => (x2.lt k e).1
      have hX1 := OwG.own_low x2 hlC
      have hY1 := fun x hx => OwG.own_low (x3 x hx) hlC
      clear hAp x2 x3
      have hk1 := HSD.out _ hD1
      refine hK.out _ _ hk1 (fun _ => ?_)
      clear hK K
      try simp only [Act.put, List.setIfInBounds_toArray, List.set_cons_zero, List.set_cons_succ]
      refine wpAnyH_ready (rs := [3]) (by kernel_rfl) (by simp) ?_
      refine AllReadyH.cons (o := { dst := some 52, op := Op.buildSlice 23 1 #[(0, Operand.tmp 51)], type := 23, pos := "l09_ledger.go:135", after := #[{ on := 2, ground := Ground.data }], guard := none }) rfl (fun K hK => ?_) AllReadyH.nil
      go_simp
      try go_wp2_with fail
      have hq2 : Below q1.heap.size q1 (q1.alloc (.cells #[.string a, .int .i64 m, .int .i64 (cc : Nat), .slice la1 n1 lc1] 29)) := (Below.refl _ _).alloc (Nat.le_refl _) _
      have hB2 := hB1.trans (hq2.mono hB1.size)
      have hR2 := hR1.below hq2
      have hD2 := hD1.below hq2
      have hO2 := RowG.own_below hO1 hq2
      have hX2 := RowG.own_below hX1 hq2
      have hY2 := fun x hx => RowG.own_below (hY1 x hx) hq2
      have hN2 := BlkW.new q1 [.string a, .int .i64 m, .int .i64 (cc : Nat), .slice la1 n1 lc1] 29
      have hk2 := HSD.out _ hD2
      refine hK.out _ _ hk2 (fun _ => ?_)
      clear hK K
      try simp only [Act.put, List.setIfInBounds_toArray, List.set_cons_zero, List.set_cons_succ]
      obtain ⟨nb, hnb⟩ : ∃ z, z = q1.heap.size := ⟨_, rfl⟩
      obtain ⟨k2, hke2⟩ : ∃ z, z = q1.alloc (Obj.cells #[.string a, .int .i64 m, .int .i64 (cc : Nat), .slice la1 n1 lc1] 29) := ⟨_, rfl⟩
      rw [← hnb] at hN2 ⊢
      have hlq : nb < k2.heap.size := by rw [hke2]; exact hN2.1.1
      rw [← hke2] at hB2
      rw [← hke2] at hR2
      rw [← hke2] at hD2
      rw [← hke2] at hO2
      rw [← hke2] at hN2
      rw [← hke2] at hk2
      rw [← hke2] at hX2
      simp only [← hke2] at hY2
      rw [← hke2]
      clear hq2 hke2 hnb
      refine wpAnyH_ready (rs := [4]) (by kernel_rfl) (by simp) ?_
      refine AllReadyH.cons (o := { dst := some 53, op := Op.call { callee := Callee.builtin Builtin.append, args := #[Operand.tmp 50, Operand.tmp 52], argTypes := #[23, 23] }, type := 23, pos := "l09_ledger.go:135", after := #[{ on := 1, ground := Ground.data }, { on := 3, ground := Ground.data }, { on := 1, ground := Ground.chain }], guard := none }) rfl (fun K hK => ?_) AllReadyH.nil
      have hnw := blk_add hN2
      have hx' := hX2
      rw [← HLN.out] at hx'
      refine LinR.step_append_own rfl _ _ 23 rfl W0.heap.size 29 i0 (.agg #[.string ⟨#[]⟩, .int .i64 0, .int .i64 0, .slice none 0 0]) 4 56 Try.underlying23 hi hz0 hz1 hz2 rfl gsz4.out _ _ _ rfl hx' ⟨nb, 0, none⟩ 1 1 [.string a, .int .i64 m, .int .i64 (cc : Nat), .slice la1 n1 lc1] rfl rfl hnw HDO.out sz1 sz2 (hB2.size) ?_
      intro v' q3 hown hgrow hne
      have hs := dso_snoc (d := (⟨a, m, (cc : Nat), clL G⟩ : D)) (la := la1) (lc := lc1) x1 hY2 x4 (by have := hO2; rw [HN1.out] at this; exact this) hap hX2 hgrow (by rw [← HLN.out, ← HN1.out]; exact hown)
      have hB3 := hB2.grown hgrow hB2.size (fun k e => (hX2.lt k e).1)
      have hR3 := OwG.blkW_grown hR2 hgrow (fun e => by have := hcb _ e.symm; omega)
      have hD3 := OwG.blkW_grown hD2 hgrow (fun e => by have := hcb _ e.symm; omega)
      obtain ⟨vo, vc, rfl, -⟩ := DsO.dcs (⟨_, hs.1, hs.2.1, hs.2.2.1, hs.2.2.2⟩ : DsO W0.heap.size v' (ds ++ [(⟨a, m, (cc : Nat), clL G⟩ : D)]) q3)
      obtain ⟨nd, hnd⟩ : ∃ z, z = (ds ++ [(⟨a, m, (cc : Nat), clL G⟩ : D)]).length := ⟨_, rfl⟩
      rw [← hnd] at hs ⊢
      have HND := hid_intro hnd
      clear hnd hown hgrow hne
      have hk3 := HSD.out _ hD3
      refine hK.out _ _ hk3 (fun _ => ?_)
      clear hK K
      try simp only [Act.put, List.setIfInBounds_toArray, List.set_cons_zero, List.set_cons_succ]
      refine wpAnyH_ready (rs := [6]) (by kernel_rfl) (by simp) ?_
      refine AllReadyH.cons (o := { dst := some 55, op := Op.call { callee := Callee.value (Operand.func 63), args := #[Operand.tmp 54], argTypes := #[29] }, type := 29, pos := "l09_ledger.go:135", after := #[{ on := 5, ground := Ground.data }, { on := 4, ground := Ground.chain }], guard := none }) rfl (fun K hK => ?_) AllReadyH.nil
      go_simp
      have hLi : Lis la1 (clL G) q3 := by
        have h := hs.2.2.1 ⟨(⟨a, m, (cc : Nat), clL G⟩ : D), la1, lc1⟩ (by simp)
        obtain ⟨_, _, e', hm⟩ := own_made (z := N.zero) N.len h
        cases e'
        exact hm.rws
      have HSC := hid_intro (sdoc (⟨a, m, (cc : Nat), clL G⟩ : D) la1 lc1 q3 (by have := HN1.out; dsimp only; omega) hLi)
      rw [show (⟨a, m, (cc : Nat), clL G⟩ : D).ls.length = n1 from HN1.out.symm] at HSC
      go_at_call 63
      refine HSC.out.mono ?_
      rintro e q4 ⟨co, cc2, rfl, hcp, hq4⟩
      try go_wp2_with fail
      have hB4 := hB3.trans (hq4.mono hB3.size)
      have hR4 := hR3.below hq4
      have hD4 := hD3.below hq4
      have hlq0 : W0.heap.size ≤ q3.heap.size := hB3.size
      have hk4 := HSD.out _ hD4
      refine hK.out _ _ hk4 (fun _ => ?_)
      clear hK K
      try simp only [Act.put, List.setIfInBounds_toArray, List.set_cons_zero, List.set_cons_succ]
      refine wpAnyH_take (i := 7) (oi := { dst := some 56, op := Op.build 31 #[(0, Operand.tmp 53), (1, Operand.tmp 55)], type := 31, pos := "l09_ledger.go:135", after := #[{ on := 4, ground := Ground.data }, { on := 6, ground := Ground.data }], guard := none }) (v := ?_) rfl (by kernel_rfl) (by kernel_rfl) (by kernel_rfl) (fun _ _ _ h => h) (Or.inl ⟨by rfl, ?_⟩) (by assumption) ?_
      rotate_left
      · (intro w hSw; (try dsimp only at hSw); go_simp) <;> with_reducible rfl
      try simp only [Act.put, List.setIfInBounds_toArray, List.set_cons_zero, List.set_cons_succ]
      refine wpAnyH_ready (rs := [8]) (by kernel_rfl) (by simp) ?_
      refine AllReadyH.cons (o := { dst := none, op := Op.store 31 (Operand.tmp 8) (Operand.tmp 56), type := 0, pos := "l09_ledger.go:135", after := #[{ on := 7, ground := Ground.data }, { on := 6, ground := Ground.chain }, { on := 0, ground := Ground.phase }, { on := 1, ground := Ground.phase }, { on := 2, ground := Ground.phase }, { on := 3, ground := Ground.phase }, { on := 4, ground := Ground.phase }, { on := 5, ground := Ground.phase }, { on := 6, ground := Ground.phase }, { on := 7, ground := Ground.phase }], guard := none }) rfl (fun K hK => ?_) AllReadyH.nil
      have hRx := hR4
      obtain ⟨⟨rl, rk⟩, rf⟩ := hRx
      have p0 : q4.cell? ⟨w.heap.size, 0, none⟩ = some (.slice none 0 0) := rk 0 (by simp)
      have f0 : q4.frozen? ⟨w.heap.size, 0, none⟩ = false := rf 0 (by simp)
      have p1 : q4.cell? ⟨w.heap.size, 1, none⟩ = some (.string ⟨#[]⟩) := rk 1 (by simp)
      have f1 : q4.frozen? ⟨w.heap.size, 1, none⟩ = false := rf 1 (by simp)
      have p2 : q4.cell? ⟨w.heap.size, 2, none⟩ = some (.int .i64 0) := rk 2 (by simp)
      have f2 : q4.frozen? ⟨w.heap.size, 2, none⟩ = false := rf 2 (by simp)
      have p3 : q4.cell? ⟨w.heap.size, 3, none⟩ = some (.int .i64 0) := rk 3 (by simp)
      have f3 : q4.frozen? ⟨w.heap.size, 3, none⟩ = false := rf 3 (by simp)
      have p4 : q4.cell? ⟨w.heap.size, 4, none⟩ = some (.slice none 0 0) := rk 4 (by simp)
      have f4 : q4.frozen? ⟨w.heap.size, 4, none⟩ = false := rf 4 (by simp)
      have p5 : q4.cell? ⟨w.heap.size, 5, none⟩ = some (.int .i64 0) := rk 5 (by simp)
      have f5 : q4.frozen? ⟨w.heap.size, 5, none⟩ = false := rf 5 (by simp)
      clear rk rf
      go_simp
      try go_wp2_with fail
      have hgr := StR.stL_grown w.heap.size [.slice vo nd vc, .string a, .int .i64 m, .int .i64 (cc : Nat), .slice co n1 cc2, .int .i64 0] 0 q4
      have hBF := (HB0.out.trans (hB4.mono HB0.out.size)).grown hgr (HB0.out.trans (hB4.mono HB0.out.size)).size (fun k e => by simp only [Option.some.injEq] at e; omega)
      have hDF := OwG.blkW_grown hD4 hgr (by simp; exact HDW.out)
      have hRF := OwG.stL_blkW hR4 (show ([.slice none 0 0, .string ⟨#[]⟩, .int .i64 0, .int .i64 0, .slice none 0 0, .int .i64 0] : List Value).length = [.slice vo nd vc, .string a, .int .i64 m, .int .i64 (cc : Nat), .slice co n1 cc2, .int .i64 0].length from rfl)
      simp only [StR.stL, Nat.zero_add, Nat.reduceAdd] at hBF hDF hRF hgr
      have hk5 := HSD.out _ hDF
      refine hK.out _ _ hk5 (fun _ => ?_)
      clear hK K
      try simp only [Act.put, List.setIfInBounds_toArray, List.set_cons_zero, List.set_cons_succ]
      refine wpAnyH_done (by kernel_rfl) ?_ _
      have HLo : Hid (LoO w.heap.size (.agg #[.slice vo nd vc, .string a, .int .i64 m, .int .i64 (cc : Nat), .slice co n1 cc2, .int .i64 0]) (ds ++ [(⟨a, m, (cc : Nat), clL G⟩ : D)]) (⟨a, m, (cc : Nat), clL G⟩ : D) 0 ((((((q4.setCell ⟨w.heap.size, 0, none⟩ (.slice vo nd vc)).setCell ⟨w.heap.size, 1, none⟩ (.string a)).setCell ⟨w.heap.size, 2, none⟩ (.int .i64 m)).setCell ⟨w.heap.size, 3, none⟩ (.int .i64 (cc : Nat))).setCell ⟨w.heap.size, 4, none⟩ (.slice co n1 cc2)).setCell ⟨w.heap.size, 5, none⟩ (.int .i64 0))) := hid_intro (by
        have e1 := HN1.out
        have e2 := HND.out
        subst e1
        subst e2
        exact lo_fin (d := (⟨a, m, (cc : Nat), clL G⟩ : D)) hlw hs.1 hs.2.1 hs.2.2.1 hs.2.2.2 hq4 hcp hlq0 hgr)
      have HBF := hid_intro hBF
      obtain ⟨⟨zl, zk⟩, -⟩ := hRF
      clear hgr hs hcp hBF hDF
      generalize ((((((q4.setCell ⟨w.heap.size, 0, none⟩ (.slice vo nd vc)).setCell ⟨w.heap.size, 1, none⟩ (.string a)).setCell ⟨w.heap.size, 2, none⟩ (.int .i64 m)).setCell ⟨w.heap.size, 3, none⟩ (.int .i64 (cc : Nat))).setCell ⟨w.heap.size, 4, none⟩ (.slice co n1 cc2)).setCell ⟨w.heap.size, 5, none⟩ (.int .i64 0)) = WF at *
      have z0 : WF.cell? ⟨w.heap.size, 0, none⟩ = some (.slice vo nd vc) := zk 0 (by simp)
      have z1 : WF.cell? ⟨w.heap.size, 1, none⟩ = some (.string a) := zk 1 (by simp)
      have z2 : WF.cell? ⟨w.heap.size, 2, none⟩ = some (.int .i64 m) := zk 2 (by simp)
      have z3 : WF.cell? ⟨w.heap.size, 3, none⟩ = some (.int .i64 (cc : Nat)) := zk 3 (by simp)
      have z4 : WF.cell? ⟨w.heap.size, 4, none⟩ = some (.slice co n1 cc2) := zk 4 (by simp)
      have z5 : WF.cell? ⟨w.heap.size, 5, none⟩ = some (.int .i64 0) := zk 5 (by simp)
      clear zk
      go_wp2_with fail
      refine bodyPost_ret (v := .agg #[.slice vo nd vc, .string a, .int .i64 m, .int .i64 (cc : Nat), .slice co n1 cc2, .int .i64 0]) (by simp [results, Try.results52, go_sem, z0, z1, z2, z3, z4, z5]) rfl ⟨_, rfl, by rw [HE.out.1, HE.out.2.1, HE.out.2.2]; exact HLo.out, HBF.out⟩
    · go_simp
      try go_wp2_with fail
      have hq1 : Below kd.heap.size kd (kd.alloc (.cells #[.string a, .int .i64 m, .int .i64 (cc : Nat), .slice la1 n1 lc1] 29)) := (Below.refl _ _).alloc (Nat.le_refl _) _
      have hB1 := hB0.trans (hq1.mono hB0.size)
      have hR1 := hR0.below hq1
      have hD1 := hD0.below hq1
      have hO1 := RowG.own_below hO0 hq1
      have hN1 := BlkW.new kd [.string a, .int .i64 m, .int .i64 (cc : Nat), .slice la1 n1 lc1] 29
      have hk1 := HSD.out _ hD1
      refine hK.out _ _ hk1 (fun _ => ?_)
      clear hK K
      try simp only [Act.put, List.setIfInBounds_toArray, List.set_cons_zero, List.set_cons_succ]
      obtain ⟨nb, hnb⟩ : ∃ z, z = kd.heap.size := ⟨_, rfl⟩
      obtain ⟨k1, hke1⟩ : ∃ z, z = kd.alloc (Obj.cells #[.string a, .int .i64 m, .int .i64 (cc : Nat), .slice la1 n1 lc1] 29) := ⟨_, rfl⟩
      rw [← hnb] at hN1 ⊢
      have hlq : nb < k1.heap.size := by rw [hke1]; exact hN1.1.1
      rw [← hke1] at hB1
      rw [← hke1] at hR1
      rw [← hke1] at hD1
      rw [← hke1] at hO1
      rw [← hke1] at hN1
      rw [← hke1] at hk1
      rw [← hke1]
      clear hq1 hke1 hnb
      refine wpAnyH_ready (rs := [1]) (by kernel_rfl) (by simp) ?_
      refine AllReadyH.cons (o := { dst := some 50, op := Op.call { callee := Callee.value (Operand.func 62), args := #[Operand.tmp 49], argTypes := #[23] }, type := 23, pos := "l09_ledger.go:135", after := #[{ on := 0, ground := Ground.data }], guard := none }) rfl (fun K hK => ?_) AllReadyH.nil
      go_simp
      go_at_call 62
      refine (HCP.out _ hB1).mono ?_
      rintro e q2 ⟨vC, rfl, hds, hq2⟩
      try go_wp2_with fail
      have hlC : W0.heap.size ≤ k1.heap.size := hB1.size
      have hlR : w.heap.size < k1.heap.size := hR1.1.1
      have hlD : dB < k1.heap.size := hD1.1.1
      have hAp := hO1
      have hlN : nb < k1.heap.size := hN1.1.1
      have hB2 := hB1.trans (hq2.mono hB1.size)
      have hR2 := hR1.below hq2
      have hD2 := hD1.below hq2
      have hO2 := RowG.own_below hO1 hq2
      have hN2 := hN1.below hq2
      obtain ⟨xs, x1, x2, x3, x4⟩ := hds
      have hap : ∀ x ∈ xs, Apt x ⟨(⟨a, m, (cc : Nat), clL G⟩ : D), la1, lc1⟩ := fun x hx b h1 h2 => by
        have p1 := ((x3 x hx).lt b h1).1
        have p2 := (hAp.lt b (show (Value.slice la1 n1 lc1).ownBlock = some b by rw [HN1.out]; exact h2)).2
        omega
      have hcb := fun k e => (x2.lt k e).1
      have hX2 := OwG.own_low x2 hlC
      have hY2 := fun x hx => OwG.own_low (x3 x hx) hlC
      clear hAp x2 x3
      have hk2 := HSD.out _ hD2
      refine hK.out _ _ hk2 (fun _ => ?_)
      clear hK K
      try simp only [Act.put, List.setIfInBounds_toArray, List.set_cons_zero, List.set_cons_succ]
      refine wpAnyH_ready (rs := [4]) (by kernel_rfl) (by simp) ?_
      refine AllReadyH.cons (o := { dst := some 53, op := Op.call { callee := Callee.builtin Builtin.append, args := #[Operand.tmp 50, Operand.tmp 52], argTypes := #[23, 23] }, type := 23, pos := "l09_ledger.go:135", after := #[{ on := 1, ground := Ground.data }, { on := 3, ground := Ground.data }, { on := 1, ground := Ground.chain }], guard := none }) rfl (fun K hK => ?_) AllReadyH.nil
      have hnw := blk_add hN2
      have hx' := hX2
      rw [← HLN.out] at hx'
      refine LinR.step_append_own rfl _ _ 23 rfl W0.heap.size 29 i0 (.agg #[.string ⟨#[]⟩, .int .i64 0, .int .i64 0, .slice none 0 0]) 4 56 Try.underlying23 hi hz0 hz1 hz2 rfl gsz4.out _ _ _ rfl hx' ⟨nb, 0, none⟩ 1 1 [.string a, .int .i64 m, .int .i64 (cc : Nat), .slice la1 n1 lc1] rfl rfl hnw HDO.out sz1 sz2 (hB2.size) ?_
      intro v' q3 hown hgrow hne
      have hs := dso_snoc (d := (⟨a, m, (cc : Nat), clL G⟩ : D)) (la := la1) (lc := lc1) x1 hY2 x4 (by have := hO2; rw [HN1.out] at this; exact this) hap hX2 hgrow (by rw [← HLN.out, ← HN1.out]; exact hown)
      have hB3 := hB2.grown hgrow hB2.size (fun k e => (hX2.lt k e).1)
      have hR3 := OwG.blkW_grown hR2 hgrow (fun e => by have := hcb _ e.symm; omega)
      have hD3 := OwG.blkW_grown hD2 hgrow (fun e => by have := hcb _ e.symm; omega)
      obtain ⟨vo, vc, rfl, -⟩ := DsO.dcs (⟨_, hs.1, hs.2.1, hs.2.2.1, hs.2.2.2⟩ : DsO W0.heap.size v' (ds ++ [(⟨a, m, (cc : Nat), clL G⟩ : D)]) q3)
      obtain ⟨nd, hnd⟩ : ∃ z, z = (ds ++ [(⟨a, m, (cc : Nat), clL G⟩ : D)]).length := ⟨_, rfl⟩
      rw [← hnd] at hs ⊢
      have HND := hid_intro hnd
      clear hnd hown hgrow hne
      have hk3 := HSD.out _ hD3
      refine hK.out _ _ hk3 (fun _ => ?_)
      clear hK K
      try simp only [Act.put, List.setIfInBounds_toArray, List.set_cons_zero, List.set_cons_succ]
      refine wpAnyH_ready (rs := [6]) (by kernel_rfl) (by simp) ?_
      refine AllReadyH.cons (o := { dst := some 55, op := Op.call { callee := Callee.value (Operand.func 63), args := #[Operand.tmp 54], argTypes := #[29] }, type := 29, pos := "l09_ledger.go:135", after := #[{ on := 5, ground := Ground.data }, { on := 4, ground := Ground.chain }], guard := none }) rfl (fun K hK => ?_) AllReadyH.nil
      go_simp
      have hLi : Lis la1 (clL G) q3 := by
        have h := hs.2.2.1 ⟨(⟨a, m, (cc : Nat), clL G⟩ : D), la1, lc1⟩ (by simp)
        obtain ⟨_, _, e', hm⟩ := own_made (z := N.zero) N.len h
        cases e'
        exact hm.rws
      have HSC := hid_intro (sdoc (⟨a, m, (cc : Nat), clL G⟩ : D) la1 lc1 q3 (by have := HN1.out; dsimp only; omega) hLi)
      rw [show (⟨a, m, (cc : Nat), clL G⟩ : D).ls.length = n1 from HN1.out.symm] at HSC
      go_at_call 63
      refine HSC.out.mono ?_
      rintro e q4 ⟨co, cc2, rfl, hcp, hq4⟩
      try go_wp2_with fail
      have hB4 := hB3.trans (hq4.mono hB3.size)
      have hR4 := hR3.below hq4
      have hD4 := hD3.below hq4
      have hlq0 : W0.heap.size ≤ q3.heap.size := hB3.size
      have hk4 := HSD.out _ hD4
      refine hK.out _ _ hk4 (fun _ => ?_)
      clear hK K
      try simp only [Act.put, List.setIfInBounds_toArray, List.set_cons_zero, List.set_cons_succ]
      refine wpAnyH_take (i := 7) (oi := { dst := some 56, op := Op.build 31 #[(0, Operand.tmp 53), (1, Operand.tmp 55)], type := 31, pos := "l09_ledger.go:135", after := #[{ on := 4, ground := Ground.data }, { on := 6, ground := Ground.data }], guard := none }) (v := ?_) rfl (by kernel_rfl) (by kernel_rfl) (by kernel_rfl) (fun _ _ _ h => h) (Or.inl ⟨by rfl, ?_⟩) (by assumption) ?_
      rotate_left
      · (intro w hSw; (try dsimp only at hSw); go_simp) <;> with_reducible rfl
      try simp only [Act.put, List.setIfInBounds_toArray, List.set_cons_zero, List.set_cons_succ]
      refine wpAnyH_ready (rs := [8]) (by kernel_rfl) (by simp) ?_
      refine AllReadyH.cons (o := { dst := none, op := Op.store 31 (Operand.tmp 8) (Operand.tmp 56), type := 0, pos := "l09_ledger.go:135", after := #[{ on := 7, ground := Ground.data }, { on := 6, ground := Ground.chain }, { on := 0, ground := Ground.phase }, { on := 1, ground := Ground.phase }, { on := 2, ground := Ground.phase }, { on := 3, ground := Ground.phase }, { on := 4, ground := Ground.phase }, { on := 5, ground := Ground.phase }, { on := 6, ground := Ground.phase }, { on := 7, ground := Ground.phase }], guard := none }) rfl (fun K hK => ?_) AllReadyH.nil
      have hRx := hR4
      obtain ⟨⟨rl, rk⟩, rf⟩ := hRx
      have p0 : q4.cell? ⟨w.heap.size, 0, none⟩ = some (.slice none 0 0) := rk 0 (by simp)
      have f0 : q4.frozen? ⟨w.heap.size, 0, none⟩ = false := rf 0 (by simp)
      have p1 : q4.cell? ⟨w.heap.size, 1, none⟩ = some (.string ⟨#[]⟩) := rk 1 (by simp)
      have f1 : q4.frozen? ⟨w.heap.size, 1, none⟩ = false := rf 1 (by simp)
      have p2 : q4.cell? ⟨w.heap.size, 2, none⟩ = some (.int .i64 0) := rk 2 (by simp)
      have f2 : q4.frozen? ⟨w.heap.size, 2, none⟩ = false := rf 2 (by simp)
      have p3 : q4.cell? ⟨w.heap.size, 3, none⟩ = some (.int .i64 0) := rk 3 (by simp)
      have f3 : q4.frozen? ⟨w.heap.size, 3, none⟩ = false := rf 3 (by simp)
      have p4 : q4.cell? ⟨w.heap.size, 4, none⟩ = some (.slice none 0 0) := rk 4 (by simp)
      have f4 : q4.frozen? ⟨w.heap.size, 4, none⟩ = false := rf 4 (by simp)
      have p5 : q4.cell? ⟨w.heap.size, 5, none⟩ = some (.int .i64 0) := rk 5 (by simp)
      have f5 : q4.frozen? ⟨w.heap.size, 5, none⟩ = false := rf 5 (by simp)
      clear rk rf
      go_simp
      try go_wp2_with fail
      have hgr := StR.stL_grown w.heap.size [.slice vo nd vc, .string a, .int .i64 m, .int .i64 (cc : Nat), .slice co n1 cc2, .int .i64 0] 0 q4
      have hBF := (HB0.out.trans (hB4.mono HB0.out.size)).grown hgr (HB0.out.trans (hB4.mono HB0.out.size)).size (fun k e => by simp only [Option.some.injEq] at e; omega)
      have hDF := OwG.blkW_grown hD4 hgr (by simp; exact HDW.out)
      have hRF := OwG.stL_blkW hR4 (show ([.slice none 0 0, .string ⟨#[]⟩, .int .i64 0, .int .i64 0, .slice none 0 0, .int .i64 0] : List Value).length = [.slice vo nd vc, .string a, .int .i64 m, .int .i64 (cc : Nat), .slice co n1 cc2, .int .i64 0].length from rfl)
      simp only [StR.stL, Nat.zero_add, Nat.reduceAdd] at hBF hDF hRF hgr
      have hk5 := HSD.out _ hDF
      refine hK.out _ _ hk5 (fun _ => ?_)
      clear hK K
      try simp only [Act.put, List.setIfInBounds_toArray, List.set_cons_zero, List.set_cons_succ]
      refine wpAnyH_done (by kernel_rfl) ?_ _
      have HLo : Hid (LoO w.heap.size (.agg #[.slice vo nd vc, .string a, .int .i64 m, .int .i64 (cc : Nat), .slice co n1 cc2, .int .i64 0]) (ds ++ [(⟨a, m, (cc : Nat), clL G⟩ : D)]) (⟨a, m, (cc : Nat), clL G⟩ : D) 0 ((((((q4.setCell ⟨w.heap.size, 0, none⟩ (.slice vo nd vc)).setCell ⟨w.heap.size, 1, none⟩ (.string a)).setCell ⟨w.heap.size, 2, none⟩ (.int .i64 m)).setCell ⟨w.heap.size, 3, none⟩ (.int .i64 (cc : Nat))).setCell ⟨w.heap.size, 4, none⟩ (.slice co n1 cc2)).setCell ⟨w.heap.size, 5, none⟩ (.int .i64 0))) := hid_intro (by
        have e1 := HN1.out
        have e2 := HND.out
        subst e1
        subst e2
        exact lo_fin (d := (⟨a, m, (cc : Nat), clL G⟩ : D)) hlw hs.1 hs.2.1 hs.2.2.1 hs.2.2.2 hq4 hcp hlq0 hgr)
      have HBF := hid_intro hBF
      obtain ⟨⟨zl, zk⟩, -⟩ := hRF
      clear hgr hs hcp hBF hDF
      generalize ((((((q4.setCell ⟨w.heap.size, 0, none⟩ (.slice vo nd vc)).setCell ⟨w.heap.size, 1, none⟩ (.string a)).setCell ⟨w.heap.size, 2, none⟩ (.int .i64 m)).setCell ⟨w.heap.size, 3, none⟩ (.int .i64 (cc : Nat))).setCell ⟨w.heap.size, 4, none⟩ (.slice co n1 cc2)).setCell ⟨w.heap.size, 5, none⟩ (.int .i64 0)) = WF at *
      have z0 : WF.cell? ⟨w.heap.size, 0, none⟩ = some (.slice vo nd vc) := zk 0 (by simp)
      have z1 : WF.cell? ⟨w.heap.size, 1, none⟩ = some (.string a) := zk 1 (by simp)
      have z2 : WF.cell? ⟨w.heap.size, 2, none⟩ = some (.int .i64 m) := zk 2 (by simp)
      have z3 : WF.cell? ⟨w.heap.size, 3, none⟩ = some (.int .i64 (cc : Nat)) := zk 3 (by simp)
      have z4 : WF.cell? ⟨w.heap.size, 4, none⟩ = some (.slice co n1 cc2) := zk 4 (by simp)
      have z5 : WF.cell? ⟨w.heap.size, 5, none⟩ = some (.int .i64 0) := zk 5 (by simp)
      clear zk
      go_wp2_with fail
      refine bodyPost_ret (v := .agg #[.slice vo nd vc, .string a, .int .i64 m, .int .i64 (cc : Nat), .slice co n1 cc2, .int .i64 0]) (by simp [results, Try.results52, go_sem, z0, z1, z2, z3, z4, z5]) rfl ⟨_, rfl, by rw [HE.out.1, HE.out.2.1, HE.out.2.2]; exact HLo.out, HBF.out⟩
  · have HLW : Hid (w.heap.size < W0.heap.size) := HLW0
    have HDW : Hid (¬ dB = w.heap.size) := hid_intro (by have := HR4.out.1.1; have := HDB.out; omega)
    have gsz4 : Hid (0 < 4) := hid_intro (by omega)
    have HDO : Hid (∀ u ∈ ([.string a, .int .i64 m, .int .i64 (cc : Nat), .slice la1 n1 lc1] : List Value), u.oneCell' = true) := hid_intro (by intro u hu; simp at hu; rcases hu with rfl | rfl | rfl | rfl <;> rfl)
    have sz1 : len + 1 ≤ maxLen := by unfold maxLen; omega
    have sz2 : (len + 1) * 56 ≤ 140737488355328 := by omega
    go_wp2_with fail
    rw [← HDB.out]
    obtain ⟨W5, hW5⟩ : ∃ z, z = w4.alloc (Obj.cells #[.string a, .int .i64 m, .int .i64 (cc : Nat), .slice la1 n1 lc1] 29) := ⟨_, rfl⟩
    have HD5 : Hid (BlkW dB [.string a, .int .i64 m, .int .i64 (cc : Nat), .slice la1 n1 lc1] W5) := hid_intro (by rw [hW5]; exact HD5.out)
    have HB5 : Hid (Below dB w4 W5) := hid_intro (by rw [hW5]; exact HB5.out)
    rw [← hW5]
    clear hW5
    have hb0 := (Below.refl W5.heap.size W5).drew
    have hB5 : Below w4.heap.size w4 W5 := by have := HB5.out; rw [HDB.out] at this; exact this
    have hB0 := (HB4.out.trans (hB5.mono HB4.out.size)).trans (hb0.mono (HB4.out.trans (hB5.mono HB4.out.size)).size)
    have hR0 := (HR4.out.below hB5).below hb0
    have hD0 := HD5.out.below hb0
    have hO0 := RowG.own_below (RowG.own_below HO4.out hB5) hb0
    have hlw : w.heap.size < W0.heap.size := HLW.out
    have HSD : Hid (∀ W, BlkW dB [.string a, .int .i64 m, .int .i64 (cc : Nat), .slice la1 n1 lc1] W → (fun W => dB < W.heap.size ∧ W.cell? ⟨dB, 0, none⟩ = some (.string a) ∧ W.cell? ⟨dB, 1, none⟩ = some (.int .i64 m) ∧ W.cell? ⟨dB, 2, none⟩ = some (.int .i64 (cc : Nat)) ∧ W.cell? ⟨dB, 3, none⟩ = some (.slice la1 n1 lc1)) W) := hid_intro (fun W h => ⟨h.1.1, h.1.2 0 (by simp), h.1.2 1 (by simp), h.1.2 2 (by simp), h.1.2 3 (by simp)⟩)
    clear hb0 hB5 HB4 HR4 HD5 HB5 HO4 HBw HWY HGo
    refine wp_region_held_drew (S := (fun W => dB < W.heap.size ∧ W.cell? ⟨dB, 0, none⟩ = some (.string a) ∧ W.cell? ⟨dB, 1, none⟩ = some (.int .i64 m) ∧ W.cell? ⟨dB, 2, none⟩ = some (.int .i64 (cc : Nat)) ∧ W.cell? ⟨dB, 3, none⟩ = some (.slice la1 n1 lc1))) (by kernel_rfl) (HSD.out _ hD0) (fun hHeld => ?_)
    generalize W5.drew = kd at *
    refine wpAnyH_take (i := 0) (oi := { dst := some 49, op := Op.move (Operand.tmp 0), type := 23, pos := "l09_ledger.go:135", after := #[], guard := none }) (v := ?_) rfl (by kernel_rfl) (by kernel_rfl) (by kernel_rfl) (fun _ _ _ h => h) (Or.inl ⟨by rfl, ?_⟩) (by assumption) ?_
    rotate_left
    · (intro w hSw; (try dsimp only at hSw); go_simp) <;> with_reducible rfl
    try simp only [Act.put, List.setIfInBounds_toArray, List.set_cons_zero, List.set_cons_succ]
    refine wpAnyH_take (i := 2) (oi := { dst := some 51, op := Op.load 29 (Operand.tmp 12), type := 29, pos := "l09_ledger.go:135", after := #[], guard := none }) (v := ?_) rfl (by kernel_rfl) (by kernel_rfl) (by kernel_rfl) (fun _ _ _ h => h) (Or.inl ⟨by rfl, ?_⟩) (by assumption) ?_
    rotate_left
    · (intro w hSw; (try dsimp only at hSw); go_simp) <;> with_reducible rfl
    try simp only [Act.put, List.setIfInBounds_toArray, List.set_cons_zero, List.set_cons_succ]
    refine wpAnyH_take (i := 5) (oi := { dst := some 54, op := Op.load 29 (Operand.tmp 12), type := 29, pos := "l09_ledger.go:135", after := #[], guard := none }) (v := ?_) rfl (by kernel_rfl) (by kernel_rfl) (by kernel_rfl) (fun _ _ _ h => h) (Or.inl ⟨by rfl, ?_⟩) (by assumption) ?_
    rotate_left
    · (intro w hSw; (try dsimp only at hSw); go_simp) <;> with_reducible rfl
    try simp only [Act.put, List.setIfInBounds_toArray, List.set_cons_zero, List.set_cons_succ]
    refine wpAnyH_ready (rs := [1, 3]) (by kernel_rfl) (by simp) ?_
    refine AllReadyH.cons (o := { dst := some 50, op := Op.call { callee := Callee.value (Operand.func 62), args := #[Operand.tmp 49], argTypes := #[23] }, type := 23, pos := "l09_ledger.go:135", after := #[{ on := 0, ground := Ground.data }], guard := none }) rfl (fun K hK => ?_) (AllReadyH.cons (o := { dst := some 52, op := Op.buildSlice 23 1 #[(0, Operand.tmp 51)], type := 23, pos := "l09_ledger.go:135", after := #[{ on := 2, ground := Ground.data }], guard := none }) rfl (fun K hK => ?_) AllReadyH.nil)
    · go_simp
      go_at_call 62
      refine (HCP.out _ hB0).mono ?_
      rintro e q1 ⟨vC, rfl, hds, hq1⟩
      try go_wp2_with fail
      have hlC : W0.heap.size ≤ kd.heap.size := hB0.size
      have hlR : w.heap.size < kd.heap.size := hR0.1.1
      have hlD : dB < kd.heap.size := hD0.1.1
      have hAp := hO0
      have hB1 := hB0.trans (hq1.mono hB0.size)
      have hR1 := hR0.below hq1
      have hD1 := hD0.below hq1
      have hO1 := RowG.own_below hO0 hq1
      obtain ⟨xs, x1, x2, x3, x4⟩ := hds
      have hap : ∀ x ∈ xs, Apt x ⟨(⟨a, m, (cc : Nat), clL G⟩ : D), la1, lc1⟩ := fun x hx b h1 h2 => by
        have p1 := ((x3 x hx).lt b h1).1
        have p2 := (hAp.lt b (show (Value.slice la1 n1 lc1).ownBlock = some b by rw [HN1.out]; exact h2)).2
        omega
      have hcb := fun k e => (x2.lt k e).1
      have hX1 := OwG.own_low x2 hlC
      have hY1 := fun x hx => OwG.own_low (x3 x hx) hlC
      clear hAp x2 x3
      have hk1 := HSD.out _ hD1
      refine hK.out _ _ hk1 (fun _ => ?_)
      clear hK K
      try simp only [Act.put, List.setIfInBounds_toArray, List.set_cons_zero, List.set_cons_succ]
      refine wpAnyH_ready (rs := [3]) (by kernel_rfl) (by simp) ?_
      refine AllReadyH.cons (o := { dst := some 52, op := Op.buildSlice 23 1 #[(0, Operand.tmp 51)], type := 23, pos := "l09_ledger.go:135", after := #[{ on := 2, ground := Ground.data }], guard := none }) rfl (fun K hK => ?_) AllReadyH.nil
      go_simp
      try go_wp2_with fail
      have hq2 : Below q1.heap.size q1 (q1.alloc (.cells #[.string a, .int .i64 m, .int .i64 (cc : Nat), .slice la1 n1 lc1] 29)) := (Below.refl _ _).alloc (Nat.le_refl _) _
      have hB2 := hB1.trans (hq2.mono hB1.size)
      have hR2 := hR1.below hq2
      have hD2 := hD1.below hq2
      have hO2 := RowG.own_below hO1 hq2
      have hX2 := RowG.own_below hX1 hq2
      have hY2 := fun x hx => RowG.own_below (hY1 x hx) hq2
      have hN2 := BlkW.new q1 [.string a, .int .i64 m, .int .i64 (cc : Nat), .slice la1 n1 lc1] 29
      have hk2 := HSD.out _ hD2
      refine hK.out _ _ hk2 (fun _ => ?_)
      clear hK K
      try simp only [Act.put, List.setIfInBounds_toArray, List.set_cons_zero, List.set_cons_succ]
      obtain ⟨nb, hnb⟩ : ∃ z, z = q1.heap.size := ⟨_, rfl⟩
      obtain ⟨k2, hke2⟩ : ∃ z, z = q1.alloc (Obj.cells #[.string a, .int .i64 m, .int .i64 (cc : Nat), .slice la1 n1 lc1] 29) := ⟨_, rfl⟩
      rw [← hnb] at hN2 ⊢
      have hlq : nb < k2.heap.size := by rw [hke2]; exact hN2.1.1
      rw [← hke2] at hB2
      rw [← hke2] at hR2
      rw [← hke2] at hD2
      rw [← hke2] at hO2
      rw [← hke2] at hN2
      rw [← hke2] at hk2
      rw [← hke2] at hX2
      simp only [← hke2] at hY2
      rw [← hke2]
      clear hq2 hke2 hnb
      refine wpAnyH_ready (rs := [4]) (by kernel_rfl) (by simp) ?_
      refine AllReadyH.cons (o := { dst := some 53, op := Op.call { callee := Callee.builtin Builtin.append, args := #[Operand.tmp 50, Operand.tmp 52], argTypes := #[23, 23] }, type := 23, pos := "l09_ledger.go:135", after := #[{ on := 1, ground := Ground.data }, { on := 3, ground := Ground.data }, { on := 1, ground := Ground.chain }], guard := none }) rfl (fun K hK => ?_) AllReadyH.nil
      have hnw := blk_add hN2
      have hx' := hX2
      rw [← HLN.out] at hx'
      refine LinR.step_append_own rfl _ _ 23 rfl W0.heap.size 29 i0 (.agg #[.string ⟨#[]⟩, .int .i64 0, .int .i64 0, .slice none 0 0]) 4 56 Try.underlying23 hi hz0 hz1 hz2 rfl gsz4.out _ _ _ rfl hx' ⟨nb, 0, none⟩ 1 1 [.string a, .int .i64 m, .int .i64 (cc : Nat), .slice la1 n1 lc1] rfl rfl hnw HDO.out sz1 sz2 (hB2.size) ?_
      intro v' q3 hown hgrow hne
      have hs := dso_snoc (d := (⟨a, m, (cc : Nat), clL G⟩ : D)) (la := la1) (lc := lc1) x1 hY2 x4 (by have := hO2; rw [HN1.out] at this; exact this) hap hX2 hgrow (by rw [← HLN.out, ← HN1.out]; exact hown)
      have hB3 := hB2.grown hgrow hB2.size (fun k e => (hX2.lt k e).1)
      have hR3 := OwG.blkW_grown hR2 hgrow (fun e => by have := hcb _ e.symm; omega)
      have hD3 := OwG.blkW_grown hD2 hgrow (fun e => by have := hcb _ e.symm; omega)
      obtain ⟨vo, vc, rfl, -⟩ := DsO.dcs (⟨_, hs.1, hs.2.1, hs.2.2.1, hs.2.2.2⟩ : DsO W0.heap.size v' (ds ++ [(⟨a, m, (cc : Nat), clL G⟩ : D)]) q3)
      obtain ⟨nd, hnd⟩ : ∃ z, z = (ds ++ [(⟨a, m, (cc : Nat), clL G⟩ : D)]).length := ⟨_, rfl⟩
      rw [← hnd] at hs ⊢
      have HND := hid_intro hnd
      clear hnd hown hgrow hne
      have hk3 := HSD.out _ hD3
      refine hK.out _ _ hk3 (fun _ => ?_)
      clear hK K
      try simp only [Act.put, List.setIfInBounds_toArray, List.set_cons_zero, List.set_cons_succ]
      refine wpAnyH_ready (rs := [6]) (by kernel_rfl) (by simp) ?_
      refine AllReadyH.cons (o := { dst := some 55, op := Op.call { callee := Callee.value (Operand.func 63), args := #[Operand.tmp 54], argTypes := #[29] }, type := 29, pos := "l09_ledger.go:135", after := #[{ on := 5, ground := Ground.data }, { on := 4, ground := Ground.chain }], guard := none }) rfl (fun K hK => ?_) AllReadyH.nil
      go_simp
      have hLi : Lis la1 (clL G) q3 := by
        have h := hs.2.2.1 ⟨(⟨a, m, (cc : Nat), clL G⟩ : D), la1, lc1⟩ (by simp)
        obtain ⟨_, _, e', hm⟩ := own_made (z := N.zero) N.len h
        cases e'
        exact hm.rws
      have HSC := hid_intro (sdoc (⟨a, m, (cc : Nat), clL G⟩ : D) la1 lc1 q3 (by have := HN1.out; dsimp only; omega) hLi)
      rw [show (⟨a, m, (cc : Nat), clL G⟩ : D).ls.length = n1 from HN1.out.symm] at HSC
      go_at_call 63
      refine HSC.out.mono ?_
      rintro e q4 ⟨co, cc2, rfl, hcp, hq4⟩
      try go_wp2_with fail
      have hB4 := hB3.trans (hq4.mono hB3.size)
      have hR4 := hR3.below hq4
      have hD4 := hD3.below hq4
      have hlq0 : W0.heap.size ≤ q3.heap.size := hB3.size
      have hk4 := HSD.out _ hD4
      refine hK.out _ _ hk4 (fun _ => ?_)
      clear hK K
      try simp only [Act.put, List.setIfInBounds_toArray, List.set_cons_zero, List.set_cons_succ]
      refine wpAnyH_take (i := 7) (oi := { dst := some 56, op := Op.build 31 #[(0, Operand.tmp 53), (1, Operand.tmp 55)], type := 31, pos := "l09_ledger.go:135", after := #[{ on := 4, ground := Ground.data }, { on := 6, ground := Ground.data }], guard := none }) (v := ?_) rfl (by kernel_rfl) (by kernel_rfl) (by kernel_rfl) (fun _ _ _ h => h) (Or.inl ⟨by rfl, ?_⟩) (by assumption) ?_
      rotate_left
      · (intro w hSw; (try dsimp only at hSw); go_simp) <;> with_reducible rfl
      try simp only [Act.put, List.setIfInBounds_toArray, List.set_cons_zero, List.set_cons_succ]
      refine wpAnyH_ready (rs := [8]) (by kernel_rfl) (by simp) ?_
      refine AllReadyH.cons (o := { dst := none, op := Op.store 31 (Operand.tmp 8) (Operand.tmp 56), type := 0, pos := "l09_ledger.go:135", after := #[{ on := 7, ground := Ground.data }, { on := 6, ground := Ground.chain }, { on := 0, ground := Ground.phase }, { on := 1, ground := Ground.phase }, { on := 2, ground := Ground.phase }, { on := 3, ground := Ground.phase }, { on := 4, ground := Ground.phase }, { on := 5, ground := Ground.phase }, { on := 6, ground := Ground.phase }, { on := 7, ground := Ground.phase }], guard := none }) rfl (fun K hK => ?_) AllReadyH.nil
      have hRx := hR4
      obtain ⟨⟨rl, rk⟩, rf⟩ := hRx
      have p0 : q4.cell? ⟨w.heap.size, 0, none⟩ = some (.slice none 0 0) := rk 0 (by simp)
      have f0 : q4.frozen? ⟨w.heap.size, 0, none⟩ = false := rf 0 (by simp)
      have p1 : q4.cell? ⟨w.heap.size, 1, none⟩ = some (.string ⟨#[]⟩) := rk 1 (by simp)
      have f1 : q4.frozen? ⟨w.heap.size, 1, none⟩ = false := rf 1 (by simp)
      have p2 : q4.cell? ⟨w.heap.size, 2, none⟩ = some (.int .i64 0) := rk 2 (by simp)
      have f2 : q4.frozen? ⟨w.heap.size, 2, none⟩ = false := rf 2 (by simp)
      have p3 : q4.cell? ⟨w.heap.size, 3, none⟩ = some (.int .i64 0) := rk 3 (by simp)
      have f3 : q4.frozen? ⟨w.heap.size, 3, none⟩ = false := rf 3 (by simp)
      have p4 : q4.cell? ⟨w.heap.size, 4, none⟩ = some (.slice none 0 0) := rk 4 (by simp)
      have f4 : q4.frozen? ⟨w.heap.size, 4, none⟩ = false := rf 4 (by simp)
      have p5 : q4.cell? ⟨w.heap.size, 5, none⟩ = some (.int .i64 0) := rk 5 (by simp)
      have f5 : q4.frozen? ⟨w.heap.size, 5, none⟩ = false := rf 5 (by simp)
      clear rk rf
      go_simp
      try go_wp2_with fail
      have hgr := StR.stL_grown w.heap.size [.slice vo nd vc, .string a, .int .i64 m, .int .i64 (cc : Nat), .slice co n1 cc2, .int .i64 0] 0 q4
      have hBF := (HB0.out.trans (hB4.mono HB0.out.size)).grown hgr (HB0.out.trans (hB4.mono HB0.out.size)).size (fun k e => by simp only [Option.some.injEq] at e; omega)
      have hDF := OwG.blkW_grown hD4 hgr (by simp; exact HDW.out)
      have hRF := OwG.stL_blkW hR4 (show ([.slice none 0 0, .string ⟨#[]⟩, .int .i64 0, .int .i64 0, .slice none 0 0, .int .i64 0] : List Value).length = [.slice vo nd vc, .string a, .int .i64 m, .int .i64 (cc : Nat), .slice co n1 cc2, .int .i64 0].length from rfl)
      simp only [StR.stL, Nat.zero_add, Nat.reduceAdd] at hBF hDF hRF hgr
      have hk5 := HSD.out _ hDF
      refine hK.out _ _ hk5 (fun _ => ?_)
      clear hK K
      try simp only [Act.put, List.setIfInBounds_toArray, List.set_cons_zero, List.set_cons_succ]
      refine wpAnyH_done (by kernel_rfl) ?_ _
      have HLo : Hid (LoO w.heap.size (.agg #[.slice vo nd vc, .string a, .int .i64 m, .int .i64 (cc : Nat), .slice co n1 cc2, .int .i64 0]) (ds ++ [(⟨a, m, (cc : Nat), clL G⟩ : D)]) (⟨a, m, (cc : Nat), clL G⟩ : D) 0 ((((((q4.setCell ⟨w.heap.size, 0, none⟩ (.slice vo nd vc)).setCell ⟨w.heap.size, 1, none⟩ (.string a)).setCell ⟨w.heap.size, 2, none⟩ (.int .i64 m)).setCell ⟨w.heap.size, 3, none⟩ (.int .i64 (cc : Nat))).setCell ⟨w.heap.size, 4, none⟩ (.slice co n1 cc2)).setCell ⟨w.heap.size, 5, none⟩ (.int .i64 0))) := hid_intro (by
        have e1 := HN1.out
        have e2 := HND.out
        subst e1
        subst e2
        exact lo_fin (d := (⟨a, m, (cc : Nat), clL G⟩ : D)) hlw hs.1 hs.2.1 hs.2.2.1 hs.2.2.2 hq4 hcp hlq0 hgr)
      have HBF := hid_intro hBF
      obtain ⟨⟨zl, zk⟩, -⟩ := hRF
      clear hgr hs hcp hBF hDF
      generalize ((((((q4.setCell ⟨w.heap.size, 0, none⟩ (.slice vo nd vc)).setCell ⟨w.heap.size, 1, none⟩ (.string a)).setCell ⟨w.heap.size, 2, none⟩ (.int .i64 m)).setCell ⟨w.heap.size, 3, none⟩ (.int .i64 (cc : Nat))).setCell ⟨w.heap.size, 4, none⟩ (.slice co n1 cc2)).setCell ⟨w.heap.size, 5, none⟩ (.int .i64 0)) = WF at *
      have z0 : WF.cell? ⟨w.heap.size, 0, none⟩ = some (.slice vo nd vc) := zk 0 (by simp)
      have z1 : WF.cell? ⟨w.heap.size, 1, none⟩ = some (.string a) := zk 1 (by simp)
      have z2 : WF.cell? ⟨w.heap.size, 2, none⟩ = some (.int .i64 m) := zk 2 (by simp)
      have z3 : WF.cell? ⟨w.heap.size, 3, none⟩ = some (.int .i64 (cc : Nat)) := zk 3 (by simp)
      have z4 : WF.cell? ⟨w.heap.size, 4, none⟩ = some (.slice co n1 cc2) := zk 4 (by simp)
      have z5 : WF.cell? ⟨w.heap.size, 5, none⟩ = some (.int .i64 0) := zk 5 (by simp)
      clear zk
      go_wp2_with fail
      refine bodyPost_ret (v := .agg #[.slice vo nd vc, .string a, .int .i64 m, .int .i64 (cc : Nat), .slice co n1 cc2, .int .i64 0]) (by simp [results, Try.results52, go_sem, z0, z1, z2, z3, z4, z5]) rfl ⟨_, rfl, by rw [HE.out.1, HE.out.2.1, HE.out.2.2]; exact HLo.out, HBF.out⟩
    · go_simp
      try go_wp2_with fail
      have hq1 : Below kd.heap.size kd (kd.alloc (.cells #[.string a, .int .i64 m, .int .i64 (cc : Nat), .slice la1 n1 lc1] 29)) := (Below.refl _ _).alloc (Nat.le_refl _) _
      have hB1 := hB0.trans (hq1.mono hB0.size)
      have hR1 := hR0.below hq1
      have hD1 := hD0.below hq1
      have hO1 := RowG.own_below hO0 hq1
      have hN1 := BlkW.new kd [.string a, .int .i64 m, .int .i64 (cc : Nat), .slice la1 n1 lc1] 29
      have hk1 := HSD.out _ hD1
      refine hK.out _ _ hk1 (fun _ => ?_)
      clear hK K
      try simp only [Act.put, List.setIfInBounds_toArray, List.set_cons_zero, List.set_cons_succ]
      obtain ⟨nb, hnb⟩ : ∃ z, z = kd.heap.size := ⟨_, rfl⟩
      obtain ⟨k1, hke1⟩ : ∃ z, z = kd.alloc (Obj.cells #[.string a, .int .i64 m, .int .i64 (cc : Nat), .slice la1 n1 lc1] 29) := ⟨_, rfl⟩
      rw [← hnb] at hN1 ⊢
      have hlq : nb < k1.heap.size := by rw [hke1]; exact hN1.1.1
      rw [← hke1] at hB1
      rw [← hke1] at hR1
      rw [← hke1] at hD1
      rw [← hke1] at hO1
      rw [← hke1] at hN1
      rw [← hke1] at hk1
      rw [← hke1]
      clear hq1 hke1 hnb
      refine wpAnyH_ready (rs := [1]) (by kernel_rfl) (by simp) ?_
      refine AllReadyH.cons (o := { dst := some 50, op := Op.call { callee := Callee.value (Operand.func 62), args := #[Operand.tmp 49], argTypes := #[23] }, type := 23, pos := "l09_ledger.go:135", after := #[{ on := 0, ground := Ground.data }], guard := none }) rfl (fun K hK => ?_) AllReadyH.nil
      go_simp
      go_at_call 62
      refine (HCP.out _ hB1).mono ?_
      rintro e q2 ⟨vC, rfl, hds, hq2⟩
      try go_wp2_with fail
      have hlC : W0.heap.size ≤ k1.heap.size := hB1.size
      have hlR : w.heap.size < k1.heap.size := hR1.1.1
      have hlD : dB < k1.heap.size := hD1.1.1
      have hAp := hO1
      have hlN : nb < k1.heap.size := hN1.1.1
      have hB2 := hB1.trans (hq2.mono hB1.size)
      have hR2 := hR1.below hq2
      have hD2 := hD1.below hq2
      have hO2 := RowG.own_below hO1 hq2
      have hN2 := hN1.below hq2
      obtain ⟨xs, x1, x2, x3, x4⟩ := hds
      have hap : ∀ x ∈ xs, Apt x ⟨(⟨a, m, (cc : Nat), clL G⟩ : D), la1, lc1⟩ := fun x hx b h1 h2 => by
        have p1 := ((x3 x hx).lt b h1).1
        have p2 := (hAp.lt b (show (Value.slice la1 n1 lc1).ownBlock = some b by rw [HN1.out]; exact h2)).2
        omega
      have hcb := fun k e => (x2.lt k e).1
      have hX2 := OwG.own_low x2 hlC
      have hY2 := fun x hx => OwG.own_low (x3 x hx) hlC
      clear hAp x2 x3
      have hk2 := HSD.out _ hD2
      refine hK.out _ _ hk2 (fun _ => ?_)
      clear hK K
      try simp only [Act.put, List.setIfInBounds_toArray, List.set_cons_zero, List.set_cons_succ]
      refine wpAnyH_ready (rs := [4]) (by kernel_rfl) (by simp) ?_
      refine AllReadyH.cons (o := { dst := some 53, op := Op.call { callee := Callee.builtin Builtin.append, args := #[Operand.tmp 50, Operand.tmp 52], argTypes := #[23, 23] }, type := 23, pos := "l09_ledger.go:135", after := #[{ on := 1, ground := Ground.data }, { on := 3, ground := Ground.data }, { on := 1, ground := Ground.chain }], guard := none }) rfl (fun K hK => ?_) AllReadyH.nil
      have hnw := blk_add hN2
      have hx' := hX2
      rw [← HLN.out] at hx'
      refine LinR.step_append_own rfl _ _ 23 rfl W0.heap.size 29 i0 (.agg #[.string ⟨#[]⟩, .int .i64 0, .int .i64 0, .slice none 0 0]) 4 56 Try.underlying23 hi hz0 hz1 hz2 rfl gsz4.out _ _ _ rfl hx' ⟨nb, 0, none⟩ 1 1 [.string a, .int .i64 m, .int .i64 (cc : Nat), .slice la1 n1 lc1] rfl rfl hnw HDO.out sz1 sz2 (hB2.size) ?_
      intro v' q3 hown hgrow hne
      have hs := dso_snoc (d := (⟨a, m, (cc : Nat), clL G⟩ : D)) (la := la1) (lc := lc1) x1 hY2 x4 (by have := hO2; rw [HN1.out] at this; exact this) hap hX2 hgrow (by rw [← HLN.out, ← HN1.out]; exact hown)
      have hB3 := hB2.grown hgrow hB2.size (fun k e => (hX2.lt k e).1)
      have hR3 := OwG.blkW_grown hR2 hgrow (fun e => by have := hcb _ e.symm; omega)
      have hD3 := OwG.blkW_grown hD2 hgrow (fun e => by have := hcb _ e.symm; omega)
      obtain ⟨vo, vc, rfl, -⟩ := DsO.dcs (⟨_, hs.1, hs.2.1, hs.2.2.1, hs.2.2.2⟩ : DsO W0.heap.size v' (ds ++ [(⟨a, m, (cc : Nat), clL G⟩ : D)]) q3)
      obtain ⟨nd, hnd⟩ : ∃ z, z = (ds ++ [(⟨a, m, (cc : Nat), clL G⟩ : D)]).length := ⟨_, rfl⟩
      rw [← hnd] at hs ⊢
      have HND := hid_intro hnd
      clear hnd hown hgrow hne
      have hk3 := HSD.out _ hD3
      refine hK.out _ _ hk3 (fun _ => ?_)
      clear hK K
      try simp only [Act.put, List.setIfInBounds_toArray, List.set_cons_zero, List.set_cons_succ]
      refine wpAnyH_ready (rs := [6]) (by kernel_rfl) (by simp) ?_
      refine AllReadyH.cons (o := { dst := some 55, op := Op.call { callee := Callee.value (Operand.func 63), args := #[Operand.tmp 54], argTypes := #[29] }, type := 29, pos := "l09_ledger.go:135", after := #[{ on := 5, ground := Ground.data }, { on := 4, ground := Ground.chain }], guard := none }) rfl (fun K hK => ?_) AllReadyH.nil
      go_simp
      have hLi : Lis la1 (clL G) q3 := by
        have h := hs.2.2.1 ⟨(⟨a, m, (cc : Nat), clL G⟩ : D), la1, lc1⟩ (by simp)
        obtain ⟨_, _, e', hm⟩ := own_made (z := N.zero) N.len h
        cases e'
        exact hm.rws
      have HSC := hid_intro (sdoc (⟨a, m, (cc : Nat), clL G⟩ : D) la1 lc1 q3 (by have := HN1.out; dsimp only; omega) hLi)
      rw [show (⟨a, m, (cc : Nat), clL G⟩ : D).ls.length = n1 from HN1.out.symm] at HSC
      go_at_call 63
      refine HSC.out.mono ?_
      rintro e q4 ⟨co, cc2, rfl, hcp, hq4⟩
      try go_wp2_with fail
      have hB4 := hB3.trans (hq4.mono hB3.size)
      have hR4 := hR3.below hq4
      have hD4 := hD3.below hq4
      have hlq0 : W0.heap.size ≤ q3.heap.size := hB3.size
      have hk4 := HSD.out _ hD4
      refine hK.out _ _ hk4 (fun _ => ?_)
      clear hK K
      try simp only [Act.put, List.setIfInBounds_toArray, List.set_cons_zero, List.set_cons_succ]
      refine wpAnyH_take (i := 7) (oi := { dst := some 56, op := Op.build 31 #[(0, Operand.tmp 53), (1, Operand.tmp 55)], type := 31, pos := "l09_ledger.go:135", after := #[{ on := 4, ground := Ground.data }, { on := 6, ground := Ground.data }], guard := none }) (v := ?_) rfl (by kernel_rfl) (by kernel_rfl) (by kernel_rfl) (fun _ _ _ h => h) (Or.inl ⟨by rfl, ?_⟩) (by assumption) ?_
      rotate_left
      · (intro w hSw; (try dsimp only at hSw); go_simp) <;> with_reducible rfl
      try simp only [Act.put, List.setIfInBounds_toArray, List.set_cons_zero, List.set_cons_succ]
      refine wpAnyH_ready (rs := [8]) (by kernel_rfl) (by simp) ?_
      refine AllReadyH.cons (o := { dst := none, op := Op.store 31 (Operand.tmp 8) (Operand.tmp 56), type := 0, pos := "l09_ledger.go:135", after := #[{ on := 7, ground := Ground.data }, { on := 6, ground := Ground.chain }, { on := 0, ground := Ground.phase }, { on := 1, ground := Ground.phase }, { on := 2, ground := Ground.phase }, { on := 3, ground := Ground.phase }, { on := 4, ground := Ground.phase }, { on := 5, ground := Ground.phase }, { on := 6, ground := Ground.phase }, { on := 7, ground := Ground.phase }], guard := none }) rfl (fun K hK => ?_) AllReadyH.nil
      have hRx := hR4
      obtain ⟨⟨rl, rk⟩, rf⟩ := hRx
      have p0 : q4.cell? ⟨w.heap.size, 0, none⟩ = some (.slice none 0 0) := rk 0 (by simp)
      have f0 : q4.frozen? ⟨w.heap.size, 0, none⟩ = false := rf 0 (by simp)
      have p1 : q4.cell? ⟨w.heap.size, 1, none⟩ = some (.string ⟨#[]⟩) := rk 1 (by simp)
      have f1 : q4.frozen? ⟨w.heap.size, 1, none⟩ = false := rf 1 (by simp)
      have p2 : q4.cell? ⟨w.heap.size, 2, none⟩ = some (.int .i64 0) := rk 2 (by simp)
      have f2 : q4.frozen? ⟨w.heap.size, 2, none⟩ = false := rf 2 (by simp)
      have p3 : q4.cell? ⟨w.heap.size, 3, none⟩ = some (.int .i64 0) := rk 3 (by simp)
      have f3 : q4.frozen? ⟨w.heap.size, 3, none⟩ = false := rf 3 (by simp)
      have p4 : q4.cell? ⟨w.heap.size, 4, none⟩ = some (.slice none 0 0) := rk 4 (by simp)
      have f4 : q4.frozen? ⟨w.heap.size, 4, none⟩ = false := rf 4 (by simp)
      have p5 : q4.cell? ⟨w.heap.size, 5, none⟩ = some (.int .i64 0) := rk 5 (by simp)
      have f5 : q4.frozen? ⟨w.heap.size, 5, none⟩ = false := rf 5 (by simp)
      clear rk rf
      go_simp
      try go_wp2_with fail
      have hgr := StR.stL_grown w.heap.size [.slice vo nd vc, .string a, .int .i64 m, .int .i64 (cc : Nat), .slice co n1 cc2, .int .i64 0] 0 q4
      have hBF := (HB0.out.trans (hB4.mono HB0.out.size)).grown hgr (HB0.out.trans (hB4.mono HB0.out.size)).size (fun k e => by simp only [Option.some.injEq] at e; omega)
      have hDF := OwG.blkW_grown hD4 hgr (by simp; exact HDW.out)
      have hRF := OwG.stL_blkW hR4 (show ([.slice none 0 0, .string ⟨#[]⟩, .int .i64 0, .int .i64 0, .slice none 0 0, .int .i64 0] : List Value).length = [.slice vo nd vc, .string a, .int .i64 m, .int .i64 (cc : Nat), .slice co n1 cc2, .int .i64 0].length from rfl)
      simp only [StR.stL, Nat.zero_add, Nat.reduceAdd] at hBF hDF hRF hgr
      have hk5 := HSD.out _ hDF
      refine hK.out _ _ hk5 (fun _ => ?_)
      clear hK K
      try simp only [Act.put, List.setIfInBounds_toArray, List.set_cons_zero, List.set_cons_succ]
      refine wpAnyH_done (by kernel_rfl) ?_ _
      have HLo : Hid (LoO w.heap.size (.agg #[.slice vo nd vc, .string a, .int .i64 m, .int .i64 (cc : Nat), .slice co n1 cc2, .int .i64 0]) (ds ++ [(⟨a, m, (cc : Nat), clL G⟩ : D)]) (⟨a, m, (cc : Nat), clL G⟩ : D) 0 ((((((q4.setCell ⟨w.heap.size, 0, none⟩ (.slice vo nd vc)).setCell ⟨w.heap.size, 1, none⟩ (.string a)).setCell ⟨w.heap.size, 2, none⟩ (.int .i64 m)).setCell ⟨w.heap.size, 3, none⟩ (.int .i64 (cc : Nat))).setCell ⟨w.heap.size, 4, none⟩ (.slice co n1 cc2)).setCell ⟨w.heap.size, 5, none⟩ (.int .i64 0))) := hid_intro (by
        have e1 := HN1.out
        have e2 := HND.out
        subst e1
        subst e2
        exact lo_fin (d := (⟨a, m, (cc : Nat), clL G⟩ : D)) hlw hs.1 hs.2.1 hs.2.2.1 hs.2.2.2 hq4 hcp hlq0 hgr)
      have HBF := hid_intro hBF
      obtain ⟨⟨zl, zk⟩, -⟩ := hRF
      clear hgr hs hcp hBF hDF
      generalize ((((((q4.setCell ⟨w.heap.size, 0, none⟩ (.slice vo nd vc)).setCell ⟨w.heap.size, 1, none⟩ (.string a)).setCell ⟨w.heap.size, 2, none⟩ (.int .i64 m)).setCell ⟨w.heap.size, 3, none⟩ (.int .i64 (cc : Nat))).setCell ⟨w.heap.size, 4, none⟩ (.slice co n1 cc2)).setCell ⟨w.heap.size, 5, none⟩ (.int .i64 0)) = WF at *
      have z0 : WF.cell? ⟨w.heap.size, 0, none⟩ = some (.slice vo nd vc) := zk 0 (by simp)
      have z1 : WF.cell? ⟨w.heap.size, 1, none⟩ = some (.string a) := zk 1 (by simp)
      have z2 : WF.cell? ⟨w.heap.size, 2, none⟩ = some (.int .i64 m) := zk 2 (by simp)
      have z3 : WF.cell? ⟨w.heap.size, 3, none⟩ = some (.int .i64 (cc : Nat)) := zk 3 (by simp)
      have z4 : WF.cell? ⟨w.heap.size, 4, none⟩ = some (.slice co n1 cc2) := zk 4 (by simp)
      have z5 : WF.cell? ⟨w.heap.size, 5, none⟩ = some (.int .i64 0) := zk 5 (by simp)
      clear zk
      go_wp2_with fail
      refine bodyPost_ret (v := .agg #[.slice vo nd vc, .string a, .int .i64 m, .int .i64 (cc : Nat), .slice co n1 cc2, .int .i64 0]) (by simp [results, Try.results52, go_sem, z0, z1, z2, z3, z4, z5]) rfl ⟨_, rfl, by rw [HE.out.1, HE.out.2.1, HE.out.2.2]; exact HLo.out, HBF.out⟩
end LedR
end Go.Proofs.Ytbecgngmpjajaaa
namespace Go.Proofs.Ytbecgngmpjajaaa
open Go.ChangeShapes Go.WideShapes Go.ChangeAt Go.RowKit
set_option linter.unusedVariables false
namespace LedR
open LinR RowG LtR NetR DocR
open NameR (nameB)
theorem LoO.far {base g : Nat} {v : Value} {ds : List D} {x : D} {cd : Int} {W W' : World} (h : LoO base v ds x cd W) (hg : W.grownBy W' (some g)) (hlt : g < base) : LoO base v ds x cd W' := by
  obtain ⟨vd, xs, la, lc, rfl, h1, h2, h3, h4, h5, h6⟩ := h
  exact ⟨vd, xs, la, lc, rfl, h1, OwG.own_keepG h2 hg hlt, fun y hy => OwG.own_keepG (h3 y hy) hg hlt, h4, OwG.own_keepG h5 hg hlt, h6⟩
theorem LoO.low {base base' : Nat} {v : Value} {ds : List D} {x : D} {cd : Int} {W : World} (h : LoO base v ds x cd W) (hb : base' ≤ base) : LoO base' v ds x cd W := by
  obtain ⟨vd, xs, la, lc, rfl, h1, h2, h3, h4, h5, h6⟩ := h
  exact ⟨vd, xs, la, lc, rfl, h1, OwG.own_low h2 hb, fun y hy => OwG.own_low (h3 y hy) hb, h4, OwG.own_low h5 hb, h6⟩
set_option maxRecDepth 100000 in
set_option maxHeartbeats 8000000 in
theorem sissue (ao : Option Addr) (bb boff cap capb : Nat) (ds : List D) (a : ByteArray) (m : Int) (bl : List N) (w : World) (hlen : ds.length ≤ 1048576) (hSm : ∀ d ∈ ds, d.Sm) (ha : a.size ≤ 1048576) (hlb : bl.length ≤ 1048576) (hsb : ∀ e ∈ bl, e.i.size ≤ 1048576) (hI : Dcs ao ds w) (hL : Lis (some ⟨bb, boff, none⟩) bl w) :
    Calls Try.prog 31 #[.slice ao ds.length cap, .string a, .int .i64 m, .slice (some ⟨bb, boff, none⟩) bl.length capb] w fun e w' => ∃ v, e = .returned v ∧ LoO w.heap.size v (isD ds a m bl) (isX ds a m bl) (isC ds a m bl) w' ∧ Below w.heap.size w w' := by
  have HRO := hid_intro (fun W (hb : Below w.heap.size w W) => spec_ledger ao cap ds W (by omega) hSm (hI.below hb))
  have HNR := hid_intro (fun W => NameR.spec_any a W ha)
  have HMO := hid_intro (fun W => sMon m W)
  have HLR := hid_intro (fun W (hb : Below w.heap.size w W) => spec_lines (some ⟨bb, boff, none⟩) capb bl W hlb hsb (hL.below hb))
  have HGO := hid_intro (fun W (hb : Below w.heap.size w W) h1 h2 h3 h4 => sissue0 ao bb boff cap capb ds a m bl W h1 h2 h3 h4 (fun d hd => (hSm d hd).2.1) (hI.below hb) (hL.below hb))
  have HBg := hid_intro (isBig ds a m bl)
  have HFm := hid_intro (isForm ds a m bl)
  have HFB : Hid (isFormB ds a m bl = (lB ds && (nameB a && (decide (0 ≤ m ∧ m ≤ 2760) && sB bl)))) := hid_intro rfl
  have HLI : Hid (lB ds = true → LRight ds) := hid_intro lB_iff.1
  have HSI2 : Hid (sB bl = true → SRight bl) := hid_intro sB_iff.1
  generalize isFormB ds a m bl = fb at *
  generalize isD ds a m bl = RD at *
  generalize isX ds a m bl = RX at *
  generalize isC ds a m bl = RC at *
  generalize lB ds = b1 at *
  generalize nameB a = b2 at *
  generalize decide (0 ≤ m ∧ m ≤ 2760) = b3 at *
  generalize sB bl = b4 at *
  generalize ds.length = len at *
  generalize bl.length = lb at *
  obtain ⟨W0, hW0⟩ : ∃ W0, W0 = w.alloc (.cells #[.slice none 0 0, .string ⟨#[]⟩, .int .i64 0, .int .i64 0, .slice none 0 0, .int .i64 0] 31) := ⟨_, rfl⟩
  have HB0 : Hid (Below w.heap.size w W0) := hid_intro (by rw [hW0]; exact (Below.refl _ _).alloc (Nat.le_refl _) _)
  have HR0 : Hid (BlkW w.heap.size [.slice none 0 0, .string ⟨#[]⟩, .int .i64 0, .int .i64 0, .slice none 0 0, .int .i64 0] W0) := hid_intro (by rw [hW0]; exact BlkW.new w [.slice none 0 0, .string ⟨#[]⟩, .int .i64 0, .int .i64 0, .slice none 0 0, .int .i64 0] 31)
  have HW := hid_intro hW0
  clear hI hL hsb hSm hW0
  by_cases hbig : 400 < len ∨ 8000 < a.size ∨ 400 < lb
  · have HE := hid_intro (HBg.out hbig)
    clear HRO HNR HMO HLR HGO HBg HFm
    go_enter Try.func31, Try.ntmps31
    by_cases h1 : 400 < len
    · have h1' : (400 : Int) < (len : Int) := by omega
      go_wp2_with fail
      refine bodyPost_ret (v := .agg #[.slice none 0 0, .string ⟨#[]⟩, .int .i64 0, .int .i64 0, .slice none 0 0, .int .i64 2]) (by simp [results, Try.results31, go_sem]) rfl ⟨_, rfl, by rw [HE.out.1, HE.out.2.1, HE.out.2.2]; exact loO_of (dso_nil _ _), (Below.refl _ _).alloc (Nat.le_refl _) _⟩
    have h1' : ¬ (400 : Int) < (len : Int) := by omega
    by_cases h2 : 8000 < a.size
    · have h2' : (8000 : Int) < (a.size : Int) := by omega
      go_wp2_with fail
      refine bodyPost_ret (v := .agg #[.slice none 0 0, .string ⟨#[]⟩, .int .i64 0, .int .i64 0, .slice none 0 0, .int .i64 2]) (by simp [results, Try.results31, go_sem]) rfl ⟨_, rfl, by rw [HE.out.1, HE.out.2.1, HE.out.2.2]; exact loO_of (dso_nil _ _), (Below.refl _ _).alloc (Nat.le_refl _) _⟩
    have h2' : ¬ (8000 : Int) < (a.size : Int) := by omega
    have h3' : (400 : Int) < (lb : Int) := by omega
    go_wp2_with fail
    refine bodyPost_ret (v := .agg #[.slice none 0 0, .string ⟨#[]⟩, .int .i64 0, .int .i64 0, .slice none 0 0, .int .i64 2]) (by simp [results, Try.results31, go_sem]) rfl ⟨_, rfl, by rw [HE.out.1, HE.out.2.1, HE.out.2.2]; exact loO_of (dso_nil _ _), (Below.refl _ _).alloc (Nat.le_refl _) _⟩
  have hb1 : ¬ (400 : Int) < (len : Int) := by omega
  have hb2 : ¬ (8000 : Int) < (a.size : Int) := by omega
  have hb3 : ¬ (400 : Int) < (lb : Int) := by omega
  replace HFm := hid_intro (HFm.out hbig)
  have HGB := hid_intro hbig
  clear hbig
  go_enter Try.func31, Try.ntmps31
  go_wp2_with fail
  rw [← HW.out]
  refine (HRO.out _ HB0.out).mono ?_
  rintro e w1 ⟨rfl, hb⟩
  have HB1 := hid_intro (HB0.out.trans (hb.mono HB0.out.size))
  have HR1 := hid_intro (HR0.out.below hb)
  clear hb HB0 HR0 HW
  cases b1
  · have HE := hid_intro (HFm.out (by rw [HFB.out]; rfl))
    obtain ⟨⟨rl, rk⟩, rf⟩ := HR1.out
    have p0 : w1.cell? ⟨w.heap.size, 0, none⟩ = some (.slice none 0 0) := rk 0 (by simp)
    have f0 : w1.frozen? ⟨w.heap.size, 0, none⟩ = false := rf 0 (by simp)
    have p1 : w1.cell? ⟨w.heap.size, 1, none⟩ = some (.string ⟨#[]⟩) := rk 1 (by simp)
    have f1 : w1.frozen? ⟨w.heap.size, 1, none⟩ = false := rf 1 (by simp)
    have p2 : w1.cell? ⟨w.heap.size, 2, none⟩ = some (.int .i64 0) := rk 2 (by simp)
    have f2 : w1.frozen? ⟨w.heap.size, 2, none⟩ = false := rf 2 (by simp)
    have p3 : w1.cell? ⟨w.heap.size, 3, none⟩ = some (.int .i64 0) := rk 3 (by simp)
    have f3 : w1.frozen? ⟨w.heap.size, 3, none⟩ = false := rf 3 (by simp)
    have p4 : w1.cell? ⟨w.heap.size, 4, none⟩ = some (.slice none 0 0) := rk 4 (by simp)
    have f4 : w1.frozen? ⟨w.heap.size, 4, none⟩ = false := rf 4 (by simp)
    have p5 : w1.cell? ⟨w.heap.size, 5, none⟩ = some (.int .i64 0) := rk 5 (by simp)
    have f5 : w1.frozen? ⟨w.heap.size, 5, none⟩ = false := rf 5 (by simp)
    have hg := StR.stL_grown w.heap.size [.slice none 0 0, .string ⟨#[]⟩, .int .i64 0, .int .i64 0, .slice none 0 0, .int .i64 1] 0 w1
    have HBF := hid_intro (HB1.out.grown hg HB1.out.size (fun k e => by simp only [Option.some.injEq] at e; omega))
    simp only [StR.stL, Nat.zero_add, Nat.reduceAdd] at HBF
    clear hg rk rf
    go_wp2_with fail
    refine bodyPost_ret (v := .agg #[.slice none 0 0, .string ⟨#[]⟩, .int .i64 0, .int .i64 0, .slice none 0 0, .int .i64 1]) (by simp [results, Try.results31, go_sem, p0, p1, p2, p3, p4, p5]) rfl ⟨_, rfl, by rw [HE.out.1, HE.out.2.1, HE.out.2.2]; exact loO_of (dso_nil _ _), HBF.out⟩
  go_wp2_with fail
  refine (HNR.out _).mono ?_
  rintro e w2 ⟨rfl, hb⟩
  subst hb
  have HB2 := HB1
  have HR2 := HR1
  clear HB1 HR1
  cases b2
  · have HE := hid_intro (HFm.out (by rw [HFB.out]; rfl))
    obtain ⟨⟨rl, rk⟩, rf⟩ := HR2.out
    have p0 : w2.cell? ⟨w.heap.size, 0, none⟩ = some (.slice none 0 0) := rk 0 (by simp)
    have f0 : w2.frozen? ⟨w.heap.size, 0, none⟩ = false := rf 0 (by simp)
    have p1 : w2.cell? ⟨w.heap.size, 1, none⟩ = some (.string ⟨#[]⟩) := rk 1 (by simp)
    have f1 : w2.frozen? ⟨w.heap.size, 1, none⟩ = false := rf 1 (by simp)
    have p2 : w2.cell? ⟨w.heap.size, 2, none⟩ = some (.int .i64 0) := rk 2 (by simp)
    have f2 : w2.frozen? ⟨w.heap.size, 2, none⟩ = false := rf 2 (by simp)
    have p3 : w2.cell? ⟨w.heap.size, 3, none⟩ = some (.int .i64 0) := rk 3 (by simp)
    have f3 : w2.frozen? ⟨w.heap.size, 3, none⟩ = false := rf 3 (by simp)
    have p4 : w2.cell? ⟨w.heap.size, 4, none⟩ = some (.slice none 0 0) := rk 4 (by simp)
    have f4 : w2.frozen? ⟨w.heap.size, 4, none⟩ = false := rf 4 (by simp)
    have p5 : w2.cell? ⟨w.heap.size, 5, none⟩ = some (.int .i64 0) := rk 5 (by simp)
    have f5 : w2.frozen? ⟨w.heap.size, 5, none⟩ = false := rf 5 (by simp)
    have hg := StR.stL_grown w.heap.size [.slice none 0 0, .string ⟨#[]⟩, .int .i64 0, .int .i64 0, .slice none 0 0, .int .i64 1] 0 w2
    have HBF := hid_intro (HB2.out.grown hg HB2.out.size (fun k e => by simp only [Option.some.injEq] at e; omega))
    simp only [StR.stL, Nat.zero_add, Nat.reduceAdd] at HBF
    clear hg rk rf
    go_wp2_with fail
    refine bodyPost_ret (v := .agg #[.slice none 0 0, .string ⟨#[]⟩, .int .i64 0, .int .i64 0, .slice none 0 0, .int .i64 1]) (by simp [results, Try.results31, go_sem, p0, p1, p2, p3, p4, p5]) rfl ⟨_, rfl, by rw [HE.out.1, HE.out.2.1, HE.out.2.2]; exact loO_of (dso_nil _ _), HBF.out⟩
  go_wp2_with fail
  refine (HMO.out _).mono ?_
  rintro e w3 ⟨rfl, hb⟩
  subst hb
  have HB3 := HB2
  have HR3 := HR2
  clear HB2 HR2
  cases b3
  · have HE := hid_intro (HFm.out (by rw [HFB.out]; rfl))
    obtain ⟨⟨rl, rk⟩, rf⟩ := HR3.out
    have p0 : w3.cell? ⟨w.heap.size, 0, none⟩ = some (.slice none 0 0) := rk 0 (by simp)
    have f0 : w3.frozen? ⟨w.heap.size, 0, none⟩ = false := rf 0 (by simp)
    have p1 : w3.cell? ⟨w.heap.size, 1, none⟩ = some (.string ⟨#[]⟩) := rk 1 (by simp)
    have f1 : w3.frozen? ⟨w.heap.size, 1, none⟩ = false := rf 1 (by simp)
    have p2 : w3.cell? ⟨w.heap.size, 2, none⟩ = some (.int .i64 0) := rk 2 (by simp)
    have f2 : w3.frozen? ⟨w.heap.size, 2, none⟩ = false := rf 2 (by simp)
    have p3 : w3.cell? ⟨w.heap.size, 3, none⟩ = some (.int .i64 0) := rk 3 (by simp)
    have f3 : w3.frozen? ⟨w.heap.size, 3, none⟩ = false := rf 3 (by simp)
    have p4 : w3.cell? ⟨w.heap.size, 4, none⟩ = some (.slice none 0 0) := rk 4 (by simp)
    have f4 : w3.frozen? ⟨w.heap.size, 4, none⟩ = false := rf 4 (by simp)
    have p5 : w3.cell? ⟨w.heap.size, 5, none⟩ = some (.int .i64 0) := rk 5 (by simp)
    have f5 : w3.frozen? ⟨w.heap.size, 5, none⟩ = false := rf 5 (by simp)
    have hg := StR.stL_grown w.heap.size [.slice none 0 0, .string ⟨#[]⟩, .int .i64 0, .int .i64 0, .slice none 0 0, .int .i64 1] 0 w3
    have HBF := hid_intro (HB3.out.grown hg HB3.out.size (fun k e => by simp only [Option.some.injEq] at e; omega))
    simp only [StR.stL, Nat.zero_add, Nat.reduceAdd] at HBF
    clear hg rk rf
    go_wp2_with fail
    refine bodyPost_ret (v := .agg #[.slice none 0 0, .string ⟨#[]⟩, .int .i64 0, .int .i64 0, .slice none 0 0, .int .i64 1]) (by simp [results, Try.results31, go_sem, p0, p1, p2, p3, p4, p5]) rfl ⟨_, rfl, by rw [HE.out.1, HE.out.2.1, HE.out.2.2]; exact loO_of (dso_nil _ _), HBF.out⟩
  go_wp2_with fail
  refine (HLR.out _ HB3.out).mono ?_
  rintro e w4 ⟨rfl, hb⟩
  have HB4 := hid_intro (HB3.out.trans (hb.mono HB3.out.size))
  have HR4 := hid_intro (HR3.out.below hb)
  clear hb HB3 HR3
  cases b4
  · have HE := hid_intro (HFm.out (by rw [HFB.out]; rfl))
    obtain ⟨⟨rl, rk⟩, rf⟩ := HR4.out
    have p0 : w4.cell? ⟨w.heap.size, 0, none⟩ = some (.slice none 0 0) := rk 0 (by simp)
    have f0 : w4.frozen? ⟨w.heap.size, 0, none⟩ = false := rf 0 (by simp)
    have p1 : w4.cell? ⟨w.heap.size, 1, none⟩ = some (.string ⟨#[]⟩) := rk 1 (by simp)
    have f1 : w4.frozen? ⟨w.heap.size, 1, none⟩ = false := rf 1 (by simp)
    have p2 : w4.cell? ⟨w.heap.size, 2, none⟩ = some (.int .i64 0) := rk 2 (by simp)
    have f2 : w4.frozen? ⟨w.heap.size, 2, none⟩ = false := rf 2 (by simp)
    have p3 : w4.cell? ⟨w.heap.size, 3, none⟩ = some (.int .i64 0) := rk 3 (by simp)
    have f3 : w4.frozen? ⟨w.heap.size, 3, none⟩ = false := rf 3 (by simp)
    have p4 : w4.cell? ⟨w.heap.size, 4, none⟩ = some (.slice none 0 0) := rk 4 (by simp)
    have f4 : w4.frozen? ⟨w.heap.size, 4, none⟩ = false := rf 4 (by simp)
    have p5 : w4.cell? ⟨w.heap.size, 5, none⟩ = some (.int .i64 0) := rk 5 (by simp)
    have f5 : w4.frozen? ⟨w.heap.size, 5, none⟩ = false := rf 5 (by simp)
    have hg := StR.stL_grown w.heap.size [.slice none 0 0, .string ⟨#[]⟩, .int .i64 0, .int .i64 0, .slice none 0 0, .int .i64 1] 0 w4
    have HBF := hid_intro (HB4.out.grown hg HB4.out.size (fun k e => by simp only [Option.some.injEq] at e; omega))
    simp only [StR.stL, Nat.zero_add, Nat.reduceAdd] at HBF
    clear hg rk rf
    go_wp2_with fail
    refine bodyPost_ret (v := .agg #[.slice none 0 0, .string ⟨#[]⟩, .int .i64 0, .int .i64 0, .slice none 0 0, .int .i64 1]) (by simp [results, Try.results31, go_sem, p0, p1, p2, p3, p4, p5]) rfl ⟨_, rfl, by rw [HE.out.1, HE.out.2.1, HE.out.2.2]; exact loO_of (dso_nil _ _), HBF.out⟩
  have HC := hid_intro (HGO.out w4 HB4.out (HLI.out (by trivial)) (HSI2.out (by trivial)) HGB.out (by rw [HFB.out]; rfl))
  go_wp2_with fail
  refine HC.out.mono ?_
  rintro e w5 ⟨v, rfl, hlo, hb⟩
  have HB5 := hid_intro (HB4.out.trans (hb.mono HB4.out.size))
  have HR5 := hid_intro (HR4.out.below hb)
  have HLT : Hid (w.heap.size < w4.heap.size) := hid_intro HR4.out.1.1
  have HLO := hid_intro hlo
  obtain ⟨vo, vc, la, lc, rfl, -, -⟩ := hlo.reads
  clear hb hlo HC HB4 HR4
  generalize RD.length = nd at *
  generalize RX.a = xa at *
  generalize RX.mo = xm at *
  generalize RX.sq = xq at *
  generalize RX.ls.length = nl at *
  obtain ⟨⟨rl, rk⟩, rf⟩ := HR5.out
  have p0 : w5.cell? ⟨w.heap.size, 0, none⟩ = some (.slice none 0 0) := rk 0 (by simp)
  have f0 : w5.frozen? ⟨w.heap.size, 0, none⟩ = false := rf 0 (by simp)
  have p1 : w5.cell? ⟨w.heap.size, 1, none⟩ = some (.string ⟨#[]⟩) := rk 1 (by simp)
  have f1 : w5.frozen? ⟨w.heap.size, 1, none⟩ = false := rf 1 (by simp)
  have p2 : w5.cell? ⟨w.heap.size, 2, none⟩ = some (.int .i64 0) := rk 2 (by simp)
  have f2 : w5.frozen? ⟨w.heap.size, 2, none⟩ = false := rf 2 (by simp)
  have p3 : w5.cell? ⟨w.heap.size, 3, none⟩ = some (.int .i64 0) := rk 3 (by simp)
  have f3 : w5.frozen? ⟨w.heap.size, 3, none⟩ = false := rf 3 (by simp)
  have p4 : w5.cell? ⟨w.heap.size, 4, none⟩ = some (.slice none 0 0) := rk 4 (by simp)
  have f4 : w5.frozen? ⟨w.heap.size, 4, none⟩ = false := rf 4 (by simp)
  have p5 : w5.cell? ⟨w.heap.size, 5, none⟩ = some (.int .i64 0) := rk 5 (by simp)
  have f5 : w5.frozen? ⟨w.heap.size, 5, none⟩ = false := rf 5 (by simp)
  have hg := StR.stL_grown w.heap.size [.slice vo nd vc, .string xa, .int .i64 xm, .int .i64 xq, .slice la nl lc, .int .i64 RC] 0 w5
  have HBF := hid_intro (HB5.out.grown hg HB5.out.size (fun k e => by simp only [Option.some.injEq] at e; omega))
  have HLF := hid_intro ((HLO.out.far hg HLT.out).low (Nat.le_of_lt HLT.out))
  have HRF := hid_intro (OwG.stL_blkW HR5.out (show ([.slice none 0 0, .string ⟨#[]⟩, .int .i64 0, .int .i64 0, .slice none 0 0, .int .i64 0] : List Value).length = [.slice vo nd vc, .string xa, .int .i64 xm, .int .i64 xq, .slice la nl lc, .int .i64 RC].length from rfl))
  simp only [StR.stL, Nat.zero_add, Nat.reduceAdd] at HBF HLF HRF
  clear hg rk rf HLO HR5 HB5
  go_wp2_with fail
  refine bodyPost_ret (v := .agg #[.slice vo nd vc, .string xa, .int .i64 xm, .int .i64 xq, .slice la nl lc, .int .i64 RC]) (by simp [results, Try.results31, go_sem, p0, p1, p2, p3, p4, p5]) rfl ⟨_, rfl, HLF.out, HBF.out⟩
end LedR
end Go.Proofs.Ytbecgngmpjajaaa
namespace Go.Proofs.Ytbecgngmpjajaaa
open Go.ChangeShapes Go.WideShapes Go.ChangeAt Go.RowKit
set_option linter.unusedVariables false
set_option linter.unusedSimpArgs false
namespace DrawR
open LinR RowG NetR LedR
open EvtR (Pt)
open DocR
/-- A document that is drawn. -/
def DOk (d : D) : Prop := d.a.size ≤ 20 ∧ -1 ≤ d.mo ∧ d.mo ≤ 2761 ∧ d.ls.length ≤ 184 ∧ ∀ e ∈ d.ls, Kn e.i
theorem DOk.sm {d : D} (h : DOk d) : d.Sm := ⟨by have := h.1; omega, by have := h.2.2.2.1; omega, fun e he => by have := (h.2.2.2.2 e he).size; omega⟩
theorem DOk.wf {d : D} (h : DOk d) : (Lit.int .i64 d.mo).wf = true := by
  have h1 := h.2.1
  have h2 := h.2.2.1
  generalize d.mo = n at *
  simp only [Lit.wf, IntKind.min, IntKind.max, IntKind.signed, IntKind.bits, Bool.and_eq_true, decide_eq_true_eq, if_true]
  omega
theorem net_i (p : ByteArray → Prop) {a : ByteArray} {m : Int} : ∀ (ds : List D) (L : List N), (∀ d ∈ ds, ∀ e ∈ d.ls, p e.i) → (∀ y ∈ L, p y.i) → ∀ y ∈ ds.foldl (fun L d => bif of a m d then all L d.ls 1 else L) L, p y.i
  | [], L, _, hL => hL
  | d :: ds, L, hd, hL => by
    have h0 : ∀ y ∈ (bif of a m d then all L d.ls 1 else L), p y.i := by
      cases of a m d
      · exact hL
      · exact all_i p d.ls 1 hL (hd d (List.mem_cons_self ..))
    exact net_i p ds _ (fun d' h => hd d' (List.mem_cons_of_mem _ h)) h0
theorem isC_form {ds : List D} {a : ByteArray} {m : Int} {bl : List N} (h : isC ds a m bl = 0) : lB ds = true := by
  by_cases hb : 400 < ds.length ∨ 8000 < a.size ∨ 400 < bl.length
  · have := (isBig ds a m bl hb).2.2
    rw [h] at this
    cases this
  · cases hf : isFormB ds a m bl
    · have := (isForm ds a m bl hb hf).2.2
      rw [h] at this
      cases this
    · unfold isFormB at hf
      simp only [Bool.and_eq_true] at hf
      exact hf.1
theorem clL_sub {G : List N} {y : N} (h : y ∈ clL G) : y ∈ G := by
  unfold clL at h
  cases hq : ovB G
  · rw [hq] at h; cases h
  · rw [hq] at h; exact (List.mem_filter.1 h).1
theorem newD_ok {ds : List D} {a : ByteArray} {m : Int} {bl : List N} (h : isC ds a m bl = 0) (ha : a.size ≤ 20) (hm : 600 ≤ m ∧ m ≤ 601) (hb : ∀ e ∈ bl, Kn e.i) (hl : bl.length ≤ 4) (hd : ∀ d ∈ ds, DOk d) : DOk (newD ds a m bl) := by
  have hR := lB_iff.1 (isC_form h)
  have h1 := (net_facts (ds := ds) ds.length (Nat.le_refl _) hR.2.1 a m).2.1
  rw [List.take_length] at h1
  have h2 := hR.1
  have h3 := List.length_filter_le nz (net ds a m)
  have h4 := all_len bl ((net ds a m).filter nz) (-1)
  have h5 := clL_len (moreG ds a m bl)
  refine ⟨ha, by show -1 ≤ m; omega, by show m ≤ 2761; omega, ?_, fun e he => ?_⟩
  · show (clL (moreG ds a m bl)).length ≤ 184
    unfold moreG at *
    omega
  · have he2 : e ∈ moreG ds a m bl := clL_sub he
    exact all_i Kn _ (-1) hb (fun y hy => net_i Kn ds [] (fun d hd2 => (hd d hd2).2.2.2.2) (fun y h => absurd h (by simp)) y (List.mem_filter.1 hy).1) e he2
/-- What holds while documents are drawn. -/
structure DsD (ao : Option Addr) (len cap g : Nat) (w : World) (v : Value) (ds : List D) (W : World) : Prop where
  src : Src ao len cap g W
  grew : w.grownBy W (some g)
  own : DsO w.heap.size v ds W
  ok : ∀ d ∈ ds, DOk d
section
variable {ao : Option Addr} {len cap g : Nat} {w : World} {v : Value} {ds : List D} {W W' : World}
theorem DsD.step (h : DsD ao len cap g w v ds W) (hgl : g < w.heap.size) (hS : Src ao len cap g W') (hg : W.grownBy W' (some g)) : DsD ao len cap g w v ds W' :=
  ⟨hS, Lib.grownBy_trans h.grew hg, h.own.far hg hgl, h.ok⟩
theorem DsD.below (h : DsD ao len cap g w v ds W) (hb : Below W.heap.size W W') : DsD ao len cap g w v ds W' :=
  ⟨h.src.kept (row := none) (OwG.rgrownO hb none) (fun k e => by cases e), h.grew.andThen (OwG.rgrownO hb none) (fun k e => by cases e), h.own.below hb, h.ok⟩
/-- A list's place and room. -/
def Plc (da : Option Addr) (n dc : Nat) : Prop := n ≤ dc ∧ ((da = none ∧ n = 0) ∨ ∃ b off, da = some ⟨b, off, none⟩)
theorem own_plc {W : World} {base e k n dc : Nat} {da : Option Addr} {cs : List Value} (h : W.ownsRow base e k (.slice da n dc) n cs) : Plc da n dc := by
  rcases h.2 with ⟨h1, h2⟩ | ⟨g, cap, cur, h1, _, _, h2, _⟩
  · cases h1
    exact ⟨Nat.le_refl _, .inl ⟨rfl, h2⟩⟩
  · injection h1 with e1 e2 e3
    subst e1 e3
    exact ⟨h2, .inr ⟨g, 0, rfl⟩⟩
/-- What is drawn: documents that stay though more is drawn. -/
def DcOut (ao : Option Addr) (len cap g : Nat) (w : World) (e : Ending) (w' : World) : Prop := (∃ (ds : List D) (da : Option Addr) (dc : Nat), e = .returned (.slice da ds.length dc) ∧ ds.length ≤ 40 ∧ (∀ d ∈ ds, DOk d) ∧ (∀ W', w'.grownBy W' (some g) → Dcs da ds W') ∧ Plc da ds.length dc) ∧ Src ao len cap g w' ∧ w.grownBy w' (some g)
theorem DsD.out (h : DsD ao len cap g w v ds W) (hgl : g < w.heap.size) (hn : ds.length ≤ 40) : DcOut ao len cap g w (.returned v) W := by
  obtain ⟨da, dc, rfl, _⟩ := h.own.dcs
  obtain ⟨xs, _, x2, _⟩ := h.own
  refine ⟨⟨ds, da, dc, rfl, hn, h.ok, fun W' hg => ?_, own_plc x2⟩, h.src, h.grew⟩
  obtain ⟨da', dc', e, h2⟩ := (h.own.far hg hgl).dcs
  cases e
  exact h2
theorem dcs_tail {b n : Nat} {ds : List D} {W : World} (hn : ds.length = n + 1) (h : Dcs (some ⟨b, 0, none⟩) ds W) : Dcs (some ⟨b, 4, none⟩) ds.tail W := by
  rcases h with h0 | ⟨b', off, e, hl, hc⟩
  · omega
  · cases e
    refine .inr ⟨b, 4, rfl, hl, fun j hj => ?_⟩
    rw [List.length_tail] at hj
    have e2 : ds.tail.getD j D.zero = ds.getD (j + 1) D.zero := by
      cases ds with
      | nil => simp at hn
      | cons x l => simp [List.getD]
    have := hc (j + 1) (by omega)
    rw [show 0 + (j + 1) * 4 = 4 + j * 4 by omega] at this
    rw [e2]
    exact this
theorem DsD.tail {b n dc dc' : Nat} (h : DsD ao len cap g w (.slice (some ⟨b, 0, none⟩) (n + 1) dc) ds W) (hn : ds.length = n + 1) (hgl : g < w.heap.size) (hm : n ≤ 40) (hdc : n ≤ dc') : DcOut ao len cap g w (.returned (.slice (some ⟨b, 4, none⟩) n dc')) W := by
  refine ⟨⟨ds.tail, some ⟨b, 4, none⟩, dc', ?_, by rw [List.length_tail]; omega, fun d hd => h.ok d (List.mem_of_mem_tail hd), fun W' hg => ?_, by rw [List.length_tail]; omega, .inr ⟨b, 4, rfl⟩⟩, h.src, h.grew⟩
  · rw [List.length_tail, hn]
    rfl
  · obtain ⟨da', dc', e, h2⟩ := (h.own.far hg hgl).dcs
    injection e with e1 e2 e3
    subst e1
    exact dcs_tail hn h2
/-- One document more, without lines. -/
theorem DsD.more {v' : Value} {d : D} {W2 W9 : World} {xs : List DA} (h2 : DsD ao len cap g w v ds W2) (x1 : xs.map DA.d = ds) (x2 : W2.ownsRow w.heap.size 29 4 v ds.length (cellsAll DA.cells xs)) (x3 : ∀ x ∈ xs, LnO w.heap.size x W2) (x4 : xs.Pairwise Apt) (hgl : g < w.heap.size) (hd : DOk d) (hl : d.ls = []) (hgrow : W2.grownBy W9 v.ownBlock)
    (hown : W9.ownsRow w.heap.size 29 4 v' (ds.length + 1) (cellsAll DA.cells xs ++ [.string d.a, .int .i64 d.mo, .int .i64 d.sq, .slice none 0 0])) : DsD ao len cap g w v' (ds ++ [d]) W9 := by
  have hz : d.ls.length = 0 := by rw [hl]; rfl
  have hs := dso_snoc (d := d) (la := none) (lc := 0) x1 x3 x4 (by show W2.ownsRow _ _ _ (DA.v ⟨d, none, 0⟩) _ _; unfold DA.v; rw [hl]; exact World.ownsRow_nil _ _ _ _) (fun x hx b e1 e2 => by simp [DA.v, Value.ownBlock] at e2) x2 hgrow (by rw [hz]; exact hown)
  have hob : ∀ k, v.ownBlock = some k → w.heap.size ≤ k := fun k e => (x2.lt k e).1
  exact ⟨h2.src.kept hgrow (fun k e => by have := hob k e; omega), h2.grew.andThen hgrow (fun k e => .inl (hob k e)), ⟨_, hs.1, hs.2.1, hs.2.2.1, hs.2.2.2⟩, fun x hx => by
    rcases List.mem_append.1 hx with q | q
    · exact h2.ok x q
    · rw [List.mem_singleton] at q
      subst q
      exact hd⟩
theorem DsD.tail0 {b o : Nat} {n dc' : Nat} {v : Value} (h : DsD ao len cap g w v ds W) (hn : ds.length = n + 1) (h0 : n = 0) : DcOut ao len cap g w (.returned (.slice (some ⟨b, o, none⟩) n dc')) W := by
  subst h0
  exact ⟨⟨[], some ⟨b, o, none⟩, dc', rfl, by simp, fun d hd => absurd hd (by simp), fun W' hg => .inl rfl, Nat.zero_le _, .inr ⟨b, o, rfl⟩⟩, h.src, h.grew⟩
/-- The first document's month is another one. -/
theorem DsD.month {b dn dc : Nat} {Y : Int} (h : DsD ao len cap g w (.slice (some ⟨b, 0, none⟩) dn dc) ds W) (hn : dn = ds.length) (hgl : g < w.heap.size) (hp : 0 < dn) (hY : -1 ≤ Y ∧ Y ≤ 2761) : ∃ ds', ds'.length = dn ∧ DsD ao len cap g w (.slice (some ⟨b, 0, none⟩) dn dc) ds' (W.setCell ⟨b, 1, none⟩ (.int .i64 Y)) := by
  obtain ⟨xs, x1, x2, x3, x4⟩ := h.own
  rw [← hn] at x2
  have hst := x2.stored 1 (.int .i64 Y)
  have hg := RowG.grown_set W b 1 (.int .i64 Y)
  have hbb := (x2.lt b rfl).1
  cases xs with
  | nil =>
    have h0 : ds.length = 0 := by rw [← x1]; rfl
    omega
  | cons x t =>
    obtain ⟨d, la, lc⟩ := x
    have e1 : ds = d :: t.map DA.d := by rw [← x1]; rfl
    refine ⟨⟨d.a, Y, d.sq, d.ls⟩ :: t.map DA.d, by rw [hn, e1]; simp, h.src.kept hg (fun k e => by cases e; omega), h.grew.andThen hg (fun k e => by cases e; exact .inl hbb), ⟨⟨⟨d.a, Y, d.sq, d.ls⟩, la, lc⟩ :: t, rfl, ?_, ?_, ?_⟩, ?_⟩
    · have e2 : (⟨d.a, Y, d.sq, d.ls⟩ :: t.map DA.d : List D).length = dn := by rw [hn, e1]; simp
      rw [e2]
      simpa [cellsAll, DA.cells, DA.v] using hst.1
    · intro y hy
      rcases List.mem_cons.1 hy with rfl | q
      · have := x3 ⟨d, la, lc⟩ (List.mem_cons_self ..)
        exact OwG.own_keepO this hg (fun b' e q => OwG.own_apart this x2 (by decide) b' e q)
      · have := x3 y (List.mem_cons_of_mem _ q)
        exact OwG.own_keepO this hg (fun b' e q => OwG.own_apart this x2 (by decide) b' e q)
    · exact List.pairwise_cons.2 ⟨fun y hy => (List.pairwise_cons.1 x4).1 y hy, (List.pairwise_cons.1 x4).2⟩
    · intro y hy
      rcases List.mem_cons.1 hy with rfl | q
      · have := h.ok d (by rw [e1]; exact List.mem_cons_self ..)
        exact ⟨this.1, hY.1, hY.2, this.2.2.2⟩
      · exact h.ok y (by rw [e1]; exact List.mem_cons_of_mem _ q)
def lenV : Value → Nat
  | .slice _ n _ => n
  | _ => 0
end
set_option maxRecDepth 100000 in
set_option maxHeartbeats 8000000 in
theorem docs_any (ao : Option Addr) (len cap g : Nat) (w : World) (hS : Src ao len cap g w) :
    Calls Try.prog 13 #[.pointer (some ⟨g, 0, none⟩)] w fun e w' => DcOut ao len cap g w e w' := by
  have hgl := hS.lt
  obtain ⟨i0, hi, hz0, hz1, hz2⟩ := info_parts infoD
  have HN := hid_intro (fun most W hm h => n_any ao len cap g most W hm h)
  have HON := hid_intro (fun W h => one_any ao len cap g 15 W (by omega) h)
  have HWH := hid_intro (fun W h => who_any ao len cap g W h)
  have HSO := hid_intro (fun W h => some_any ao len cap g W h)
  have HIS := hid_intro (fun da bb dc cp ds a m bl W h1 h2 h3 h4 h5 h6 h7 => sissue da bb 0 dc cp ds a m bl W h1 h2 h3 h4 h5 h6 h7)
  have HE := hid_intro (own_empty w w.heap.size 29 4 (Nat.le_refl _))
  have HD0 : Hid (DsD ao len cap g w (.slice (some ⟨w.heap.size, 0, none⟩) 0 0) [] (w.alloc (.cells #[] 29))) := hid_intro ⟨hS.alloc _, World.grownBy_alloc w _ _, ⟨[], rfl, HE.out, (fun x h => by cases h), List.Pairwise.nil⟩, fun e h => absurd h (by simp)⟩
  clear hS HE
  go_enter Try.func13, Try.ntmps13
  go_wp2_with fail
  refine (HN.out 7 _ (by omega) HD0.out.src).mono ?_
  rintro e w1 ⟨v0, rfl, lo0, -, hi0, hS1, hg1⟩
  have ht0 : v0 < 7 := hi0 (by omega)
  obtain ⟨k0, rfl⟩ : ∃ j : Nat, v0 = (j : Int) := ⟨v0.toNat, by omega⟩
  have HD1 := hid_intro (HD0.out.step hgl hS1 hg1)
  clear hS1 hg1 hi0 HD0
  go_wp2_with fail
  go_loopw [3, 4] (fun v z wr => ∃ (k : Nat) (ds : List D), z = .int .i64 k ∧ k ≤ 6 ∧ ds.length + k ≤ 6 ∧ Hid (DsD ao len cap g w v ds wr)) (fun v z _ => (intOf z).toNat)
  case atStart => exact ⟨k0, [], rfl, by omega, by simp; omega, HD1⟩
  case round =>
    clear HD1
    obtain ⟨k, ds, rfl, hk3, hLk, HD⟩ := hrel
    obtain ⟨da, dc, rfl, hDc⟩ := HD.out.own.dcs
    obtain ⟨dn, hdn⟩ : ∃ dn, dn = ds.length := ⟨_, rfl⟩
    rw [← hdn] at hLk HD ⊢
    have HDN := hid_intro hdn
    clear hdn hDc
    by_cases hk : k = 0
    · subst hk
      go_wp2_with fail
      refine (HON.out _ HD.out.src).mono ?_
      rintro e w2 ⟨⟨b, rfl⟩, hS2, hg2⟩
      have HD2 := hid_intro (HD.out.step hgl hS2 hg2)
      clear hS2 hg2 HD
      cases b
      · go_wp2_with fail
        go_ret
        exact HD2.out.out hgl (by have := HDN.out; omega)
      · go_wp2_with fail
        refine (HN.out 4 _ (by omega) HD2.out.src).mono ?_
        rintro e w3 ⟨v3, rfl, lo3, -, hi3, hS3, hg3⟩
        have ht3 : v3 < 4 := hi3 (by omega)
        have HD3 := hid_intro (HD2.out.step hgl hS3 hg3)
        clear hS3 hg3 hi3 HD2
        rcases (show v3 = 0 ∨ v3 = 1 ∨ v3 = 2 ∨ (¬ v3 = 0 ∧ ¬ v3 = 1 ∧ ¬ v3 = 2) by omega) with rfl | rfl | rfl | ⟨n0, n1, n2⟩
        · go_wp2_with fail
          refine (HN.out 4 _ (by omega) HD3.out.src).mono ?_
          rintro e w4 ⟨v4, rfl, lo4, -, hi4, hS4, hg4⟩
          have HD4 := hid_intro (HD3.out.step hgl hS4 hg4)
          clear hS4 hg4 hi4 HD3
          obtain ⟨k5, hk5e⟩ : ∃ z, z = w4.alloc (.cells #[.string ⟨#[97, 110, 110]⟩, .int .i64 600, .int .i64 v4, .slice none 0 0] 29) := ⟨_, rfl⟩
          have hal : Below w4.heap.size w4 k5 := by rw [hk5e]; exact (Below.refl _ _).alloc (Nat.le_refl _) _
          have HNW : Hid (∀ j u, ([.string ⟨#[97, 110, 110]⟩, .int .i64 600, .int .i64 v4, .slice none 0 0] : List Value)[j]? = some u → k5.cell? ((⟨w4.heap.size, 0, none⟩ : Addr).add j) = some u) := hid_intro (by rw [hk5e]; exact new_cells4 w4 [.string ⟨#[97, 110, 110]⟩, .int .i64 600, .int .i64 v4, .slice none 0 0] 29)
          have HDO : Hid (∀ u ∈ ([.string ⟨#[97, 110, 110]⟩, .int .i64 600, .int .i64 v4, .slice none 0 0] : List Value), u.oneCell' = true) := hid_intro (by intro u hu; simp at hu; rcases hu with rfl | rfl | rfl | rfl <;> rfl)
          have HS5 : Hid (w.heap.size ≤ k5.heap.size) := hid_intro (by have := hal.size; have := HD4.out.grew.size; omega)
          have HD5 := hid_intro (HD4.out.below hal)
          obtain ⟨xs, x1, x2, x3, x4⟩ := HD5.out.own
          have HX1 := hid_intro x1
          have HX2 := hid_intro x2
          have HX3 := hid_intro x3
          have HX4 := hid_intro x4
          have HO5 := hid_intro x2
          rw [← HDN.out] at HO5
          have HK5 := hid_intro hk5e
          have hsz1 : dn + 1 ≤ maxLen := by unfold maxLen; omega
          have hsz2 : (dn + 1) * 56 ≤ 140737488355328 := by omega
          clear hk5e hal x1 x2 x3 x4
          go_wp2_with (at_builtin; rw [← HK5.out]; refine wpList_append_own _ rfl _ _ 23 rfl w.heap.size 29 i0 (.agg #[.string ⟨#[]⟩, .int .i64 0, .int .i64 0, .slice none 0 0]) 4 56 Try.underlying23 hi hz0 hz1 hz2 rfl (by decide) _ _ _ rfl HO5.out ⟨w4.heap.size, 0, none⟩ 1 1 [.string ⟨#[97, 110, 110]⟩, .int .i64 600, .int .i64 v4, .slice none 0 0] rfl rfl HNW.out HDO.out hsz1 hsz2 HS5.out ?_)
          intro v' w9 hown hgrow hne
          have HD9 : Hid (DsD ao len cap g w v' (ds ++ [(⟨⟨#[97, 110, 110]⟩, 600, v4, []⟩ : D)]) w9) := hid_intro (HD5.out.more (d := (⟨⟨#[97, 110, 110]⟩, 600, v4, []⟩ : D)) HX1.out HX2.out HX3.out HX4.out hgl ⟨by show ByteArray.size ⟨#[97, 110, 110]⟩ ≤ 20; decide, by show (-1 : Int) ≤ 600; omega, by show (600 : Int) ≤ 2761; omega, by simp, fun e h => absurd h (by simp)⟩ rfl hgrow (by rw [← HDN.out]; exact hown))
          clear hown hgrow hne HX1 HX2 HX3 HX4 HO5 HD5
          go_wp2_with fail
          go_ret
          exact HD9.out.out hgl (by simp; have := HDN.out; omega)
        · by_cases hz : dn = 0
          · subst hz
            go_wp2_with fail
            go_ret
            exact HD3.out.out hgl (by have := HDN.out; omega)
          · obtain ⟨n', rfl⟩ : ∃ n', dn = n' + 1 := ⟨dn - 1, by omega⟩
            obtain ⟨b, hdb⟩ : ∃ b, da = some ⟨b, 0, none⟩ := by
              obtain ⟨xs, _, x2, _⟩ := HD3.out.own
              rw [← HDN.out] at x2
              obtain ⟨b, c, e⟩ := OwG.own_form x2
              injection e with e1 e2 e3
              exact ⟨b, e1⟩
            subst hdb
            have hcp : n' + 1 ≤ dc := by
              obtain ⟨xs, _, x2, _⟩ := HD3.out.own
              rcases x2.2 with ⟨h0, _⟩ | ⟨g', cap', cur, e, _, _, h2, _⟩
              · cases h0
              · injection e with e1 e2 e3
                rw [← HDN.out, ← e3] at h2
                exact h2
            go_wp2_with fail
            all_goals go_ret
            all_goals first | exact HD3.out.tail HDN.out.symm hgl (by omega) (by omega) | exact HD3.out.tail0 HDN.out.symm (by omega)
        · go_wp2_with fail
          go_loopw [3] (fun v wr => ∃ (ds : List D), ds.length ≤ 32 ∧ Hid (DsD ao len cap g w v ds wr)) (fun v _ => 40 - lenV v)
          case atStart => exact ⟨ds, by have := HDN.out; omega, HD3⟩
          case round =>
            clear HD3 HDN
            obtain ⟨ds, hds, HD⟩ := hrel
            obtain ⟨da, dc, rfl, hDc⟩ := HD.out.own.dcs
            obtain ⟨dn, hdn⟩ : ∃ dn, dn = ds.length := ⟨_, rfl⟩
            rw [← hdn] at hds HD ⊢
            have HDN := hid_intro hdn
            clear hdn hDc
            go_wp2_with fail
            refine (HN.out 3 _ (by omega) HD.out.src).mono ?_
            rintro e w4 ⟨v4, rfl, lo4, -, hi4, hS4, hg4⟩
            have ht4 : v4 < 3 := hi4 (by omega)
            have HD4 := hid_intro (HD.out.step hgl hS4 hg4)
            clear hS4 hg4 hi4 HD
            by_cases hlt : (dn : Int) < 29 + v4
            · skip
              obtain ⟨k5, hk5e⟩ : ∃ z, z = w4.alloc (.cells #[.string ⟨#[122, 101, 100]⟩, .int .i64 dn, .int .i64 0, .slice none 0 0] 29) := ⟨_, rfl⟩
              have hal : Below w4.heap.size w4 k5 := by rw [hk5e]; exact (Below.refl _ _).alloc (Nat.le_refl _) _
              have HNW : Hid (∀ j u, ([.string ⟨#[122, 101, 100]⟩, .int .i64 dn, .int .i64 0, .slice none 0 0] : List Value)[j]? = some u → k5.cell? ((⟨w4.heap.size, 0, none⟩ : Addr).add j) = some u) := hid_intro (by rw [hk5e]; exact new_cells4 w4 [.string ⟨#[122, 101, 100]⟩, .int .i64 dn, .int .i64 0, .slice none 0 0] 29)
              have HDO : Hid (∀ u ∈ ([.string ⟨#[122, 101, 100]⟩, .int .i64 dn, .int .i64 0, .slice none 0 0] : List Value), u.oneCell' = true) := hid_intro (by intro u hu; simp at hu; rcases hu with rfl | rfl | rfl | rfl <;> rfl)
              have HS5 : Hid (w.heap.size ≤ k5.heap.size) := hid_intro (by have := hal.size; have := HD4.out.grew.size; omega)
              have HD5 := hid_intro (HD4.out.below hal)
              obtain ⟨xs, x1, x2, x3, x4⟩ := HD5.out.own
              have HX1 := hid_intro x1
              have HX2 := hid_intro x2
              have HX3 := hid_intro x3
              have HX4 := hid_intro x4
              have HO5 := hid_intro x2
              rw [← HDN.out] at HO5
              have HK5 := hid_intro hk5e
              have hsz1 : dn + 1 ≤ maxLen := by unfold maxLen; omega
              have hsz2 : (dn + 1) * 56 ≤ 140737488355328 := by omega
              clear hk5e hal x1 x2 x3 x4
              go_wp2_with (at_builtin; rw [← HK5.out]; refine wpList_append_own _ rfl _ _ 23 rfl w.heap.size 29 i0 (.agg #[.string ⟨#[]⟩, .int .i64 0, .int .i64 0, .slice none 0 0]) 4 56 Try.underlying23 hi hz0 hz1 hz2 rfl (by decide) _ _ _ rfl HO5.out ⟨w4.heap.size, 0, none⟩ 1 1 [.string ⟨#[122, 101, 100]⟩, .int .i64 dn, .int .i64 0, .slice none 0 0] rfl rfl HNW.out HDO.out hsz1 hsz2 HS5.out ?_)
              intro v' w9 hown hgrow hne
              have HD9 : Hid (DsD ao len cap g w v' (ds ++ [(⟨⟨#[122, 101, 100]⟩, dn, 0, []⟩ : D)]) w9) := hid_intro (HD5.out.more (d := (⟨⟨#[122, 101, 100]⟩, dn, 0, []⟩ : D)) HX1.out HX2.out HX3.out HX4.out hgl ⟨by show ByteArray.size ⟨#[122, 101, 100]⟩ ≤ 20; decide, by show (-1 : Int) ≤ (dn : Int); omega, by show (dn : Int) ≤ 2761; omega, by simp, fun e h => absurd h (by simp)⟩ rfl hgrow (by rw [← HDN.out]; exact hown))
              clear hown hgrow hne HX1 HX2 HX3 HX4 HO5 HD5
              go_wp2_with fail
              go_roundw
              case rel => exact ⟨_, by simp; have := HDN.out; omega, HD9⟩
              case measure =>
                have hl9 : lenV v' = dn + 1 := by
                  obtain ⟨a9, c9, e9, _⟩ := HD9.out.own.dcs
                  rw [e9]
                  show (ds ++ [_]).length = _
                  simp
                  exact HDN.out.symm
                rw [hl9]
                show 40 - (dn + 1) < 40 - dn
                omega
            · go_wp2_with fail
              go_ret
              exact HD4.out.out hgl (by have := HDN.out; omega)
        · by_cases hz : dn = 0
          · subst hz
            go_wp2_with fail
            go_ret
            exact HD3.out.out hgl (by have := HDN.out; omega)
          · have hzp : (0 : Int) < (dn : Int) := by omega
            obtain ⟨b, hdb⟩ : ∃ b, da = some ⟨b, 0, none⟩ := by
              obtain ⟨xs, _, x2, _⟩ := HD3.out.own
              obtain ⟨n', hn'⟩ : ∃ n', ds.length = n' + 1 := ⟨ds.length - 1, by have := HDN.out; omega⟩
              rw [hn'] at x2
              obtain ⟨b, c, e⟩ := OwG.own_form x2
              injection e with e1 e2 e3
              exact ⟨b, e1⟩
            subst hdb
            go_wp2_with fail
            obtain ⟨k5, hk5e⟩ : ∃ z, z = w3.alloc (.cells #[.int .i64 (-1), .int .i64 2760, .int .i64 2761] 2) := ⟨_, rfl⟩
            obtain ⟨ib, hib⟩ : ∃ z, z = w3.heap.size := ⟨_, rfl⟩
            have hal : Below w3.heap.size w3 k5 := by rw [hk5e]; exact (Below.refl _ _).alloc (Nat.le_refl _) _
            have hB5 := BlkW.new w3 [.int .i64 (-1), .int .i64 2760, .int .i64 2761] 2
            have hgi : g < ib := by rw [hib]; exact HD3.out.src.lt
            have HD5 := hid_intro (HD3.out.below hal)
            rw [← hk5e, ← hib] at hB5 ⊢
            clear hal hk5e hib HD3
            refine (HN.out 3 _ (by omega) HD5.out.src).mono ?_
            rintro e w4 ⟨v4, rfl, lo4, -, hi4, hS4, hg4⟩
            have ht4 : v4 < 3 := hi4 (by omega)
            obtain ⟨tt, rfl⟩ : ∃ j : Nat, v4 = (j : Int) := ⟨v4.toNat, by omega⟩
            have htt : tt < 3 := by omega
            have hB4 := OwG.blkW_grown hB5 hg4 (by simp only [ne_eq, Option.some.injEq]; omega)
            have HD4 := hid_intro (HD5.out.step hgl hS4 hg4)
            obtain ⟨Y, hY, hY1, hY2⟩ : ∃ Y : Int, w4.cell? ⟨ib, tt, none⟩ = some (.int .i64 Y) ∧ -1 ≤ Y ∧ Y ≤ 2761 := by
              rcases (show tt = 0 ∨ tt = 1 ∨ tt = 2 by omega) with rfl | rfl | rfl
              · exact ⟨_, hB4.1.2 0 (by simp), by omega, by omega⟩
              · exact ⟨_, hB4.1.2 1 (by simp), by omega, by omega⟩
              · exact ⟨_, hB4.1.2 2 (by simp), by omega, by omega⟩
            have hil := hB4.1.1
            obtain ⟨ds', hl', hD6⟩ := HD4.out.month HDN.out hgl (by omega) ⟨hY1, hY2⟩
            have HD6 := hid_intro hD6
            obtain ⟨hbl, hbf, hbc⟩ : b < w4.heap.size ∧ w4.frozen? ⟨b, 1, none⟩ = false ∧ ∃ u, w4.cell? ⟨b, 1, none⟩ = some u := by
              obtain ⟨xs, _, x2, _⟩ := HD4.out.own
              refine ⟨(x2.lt b rfl).2, ?_, ?_⟩
              · rw [← HDN.out] at x2
                exact x2.frozenAt 1
              · rw [← HDN.out] at x2
                have := x2.cellAt 1 (by omega)
                have hxl := x2.1
                rw [this]
                exact ⟨_, List.getElem?_eq_getElem (by omega)⟩
            obtain ⟨u1, hbc⟩ := hbc
            clear hS4 hg4 hi4 hB5 hB4 HD5 hD6 HD4
            go_wp2_with fail
            go_ret
            exact HD6.out.out hgl (by omega)
    · obtain ⟨k', rfl⟩ : ∃ k', k = k' + 1 := ⟨k - 1, by omega⟩
      have hkp : (0 : Int) < ((k' + 1 : Nat) : Int) := by omega
      go_wp2_with fail
      refine (HWH.out _ HD.out.src).mono ?_
      rintro e w2 ⟨⟨T, m, rfl, hT, hm1, hm2⟩, hS2, hg2⟩
      have HD2 := hid_intro (HD.out.step hgl hS2 hg2)
      have HTs : Hid (T.size ≤ 20) := hid_intro (by rcases hT with rfl | rfl <;> decide)
      clear hS2 hg2 HD hT
      go_wp2_with fail
      refine (HSO.out _ HD2.out.src).mono ?_
      rintro e w3 ⟨vb, bl, rfl, hL3, hbl⟩
      have HD3 := hid_intro (HD2.out.step hgl hL3.src hL3.grew)
      obtain ⟨gb, cp, rfl, hc1, hc2, hc3, hc4, hLi⟩ := hL3.own.open
      have HBN := hid_intro hL3.nm
      have HLI := hid_intro hLi
      clear hL3 HD2 hLi hc1 hc2 hc3 hc4
      go_wp2_with fail
      have HDc : Hid (Dcs da ds w3) := hid_intro (by
        obtain ⟨da', dc', e, h⟩ := HD3.out.own.dcs
        cases e
        exact h)
      have hSI := HIS.out da gb dc cp ds T m bl w3 (by have := HDN.out; omega) (fun d hd => (HD3.out.ok d hd).sm) (by have := HTs.out; omega) (by omega) (fun e he => by have := (HBN.out e he).size; omega) HDc.out HLI.out
      have HDK := hid_intro (fun h : isC ds T m bl = 0 => newD_ok h HTs.out ⟨hm1, hm2⟩ HBN.out hbl HD3.out.ok)
      rw [← HDN.out] at hSI
      refine hSI.mono ?_
      rintro e w4 ⟨v4, rfl, ⟨vd, xs, la, lc, rfl, a1, a2, a3, a4, a5, a6⟩, hb4⟩
      have HO4 : Hid (DsO w.heap.size vd (isD ds T m bl) w4) := hid_intro (DsO.low ⟨xs, a1, a2, a3, a4⟩ HD3.out.grew.size)
      have HD4 := hid_intro (HD3.out.below hb4)
      have HISD : Hid (isC ds T m bl = 0 → isD ds T m bl = ds ++ [newD ds T m bl]) := hid_intro (fun h => if_pos h)
      clear a1 a2 a3 a4 a5 a6 hSI hb4 HDc HLI
      obtain ⟨nD, hnD⟩ : ∃ z, z = (isD ds T m bl).length := ⟨_, rfl⟩
      obtain ⟨do4, dc4, hvd, -⟩ := HO4.out.dcs
      rw [← hnD] at hvd
      subst hvd
      clear hnD
      have hba : ∀ o : Obj, Below w4.heap.size w4 (w4.alloc o) := fun o => (Below.refl _ _).alloc (Nat.le_refl _) o
      have HBA := hid_intro hba
      clear hba
      generalize isX ds T m bl = X at *
      generalize hcd : isC ds T m bl = cd at *
      by_cases h0 : cd = 0
      · subst h0
        have HD5 : Hid (∀ o, DsD ao len cap g w (.slice do4 nD dc4) (ds ++ [newD ds T m bl]) (w4.alloc o)) := hid_intro (fun o => ⟨HD4.out.src.alloc o, OwG.galloc HD4.out.grew o, by rw [← HISD.out rfl]; exact HO4.out.below (HBA.out o), fun d hd => by
          rcases List.mem_append.1 hd with q | q
          · exact HD4.out.ok d q
          · rw [List.mem_singleton] at q
            subst q
            exact HDK.out rfl⟩)
        clear HO4 HD4 HDK HISD hcd
        go_wp2_with fail
        go_roundw
        case rel => exact ⟨k', _, by go_num, by omega, by simp; have := HDN.out; omega, hid_intro (HD5.out _)⟩
        case measure => simp [intOf]
      · have HD5 := hid_intro (fun o => HD4.out.below (HBA.out o))
        have h0b : (cd == 0) = false := by simp [h0]
        clear HO4 HD4 HDK HISD hcd
        go_wp2_with fail
        go_roundw
        case rel => exact ⟨k', ds, by go_num, by omega, by have := HDN.out; omega, hid_intro (HD5.out _)⟩
        case measure => simp [intOf]
end DrawR
end Go.Proofs.Ytbecgngmpjajaaa
namespace Go.Proofs.Ytbecgngmpjajaaa
open Go.ChangeShapes Go.WideShapes Go.ChangeAt Go.RowKit
open Go.ChangeMaps (open_string shut_string)
set_option linter.unusedVariables false
namespace NumR
theorem hid_intro {p : Prop} (h : p) : Hid p := h
def foldN (n : Int) : Int := if n < 0 then 2 * -(n + 1) + 1 else 2 * n
theorem fold_bd {n : Int} (hn : -9223372036854775808 ≤ n ∧ n ≤ 9223372036854775807) : 0 ≤ foldN n ∧ foldN n ≤ 18446744073709551615 := by
  unfold foldN; split <;> omega
theorem fold_neg {n : Int} (h : n < 0) : foldN n = 2 * -(n + 1) + 1 := if_pos h
theorem fold_pos {n : Int} (h : 0 ≤ n) : foldN n = 2 * n := if_neg (by omega)
theorem u64wrap (n : Int) : IntKind.u64.wrap n = n % 18446744073709551616 := by simp [IntKind.wrap, IntKind.bits, IntKind.signed]
theorem xor_ones (x : Int) (h0 : 0 ≤ x) (h1 : x ≤ 18446744073709551615) : bits .xor .u64 IntKind.u64.max x = 18446744073709551615 - x := by
  have hm : BitVec.ofInt 64 IntKind.u64.max = BitVec.allOnes 64 := by decide
  have hx : (BitVec.ofInt 64 x).toNat = x.toNat := by
    rw [BitVec.toNat_ofInt]; congr 1; exact Int.emod_eq_of_lt h0 (by omega)
  show IntKind.u64.wrap ((BitVec.ofInt 64 IntKind.u64.max ^^^ BitVec.ofInt 64 x).toNat : Int) = _
  rw [hm, BitVec.allOnes_xor, BitVec.toNat_not, hx, u64wrap]
  omega
theorem fold_bits {n : Int} (h : n < 0) (hn : -9223372036854775808 ≤ n) : bits .xor .u64 IntKind.u64.max (IntKind.u64.wrap (IntKind.u64.wrap n * 2)) = foldN n := by
  have e : IntKind.u64.wrap (IntKind.u64.wrap n * 2) = 2 * n + 18446744073709551616 := by rw [u64wrap, u64wrap]; omega
  rw [e, xor_ones _ (by omega) (by omega), fold_neg h]; omega
theorem spec_fold (n : Int) (w : World) (hn : -9223372036854775808 ≤ n ∧ n ≤ 9223372036854775807) :
    Calls Try.prog 44 #[.int .i64 n] w fun e w' => e = .returned (.int .u64 (foldN n)) ∧ w' = w := by
  by_cases h : n < 0
  · rw [fold_neg h]
    go_enter Try.func44, Try.ntmps44
    go_wp2
    go_ret
    exact ⟨rfl, rfl⟩
  · rw [fold_pos (by omega)]
    go_enter Try.func44, Try.ntmps44
    go_wp2
    go_ret
    exact ⟨rfl, rfl⟩
theorem impl_fold (n : Int) (w : World) (hn : -9223372036854775808 ≤ n ∧ n ≤ 9223372036854775807) :
    Calls Try.prog 35 #[.int .i64 n] w fun e w' => e = .returned (.int .u64 (foldN n)) ∧ w' = w := by
  by_cases h : n < 0
  · have hf := fold_bits h hn.1
    have HF : Hid (bits .xor .u64 IntKind.u64.max (IntKind.u64.wrap (IntKind.u64.wrap n * 2)) = foldN n) := hf
    clear hf
    go_enter Try.func35, Try.ntmps35
    go_wp2
    go_ret
    exact ⟨ret_int HF.out, rfl⟩
  · have HF : Hid (n * 2 = foldN n) := (show _ = _ by rw [fold_pos (by omega)]; omega)
    go_enter Try.func35, Try.ntmps35
    go_wp2
    go_ret
    exact ⟨ret_int HF.out, rfl⟩

/-- A number's digits of seven bits, the lowest first, 128 more in all but the last. -/
def digs (v : Nat) : List Int := if v < 128 then [(v : Int)] else ((v : Int) % 128 + 128) :: digs (v / 128)
  termination_by v
  decreasing_by omega
theorem digs_last {v : Nat} (h : v < 128) : digs v = [(v : Int)] := by rw [digs, if_pos h]
theorem digs_more {v : Nat} (h : 128 ≤ v) : digs v = ((v : Int) % 128 + 128) :: digs (v / 128) := by rw [digs, if_neg (by omega)]
/-- What stands of the digits behind some rounds. -/
def Sofar (U : Nat) (acc : List Int) (v : Nat) : Prop := digs U = acc ++ digs v ∧ v * 128 ^ acc.length ≤ U ∧ (acc = [] ∨ 1 ≤ v)
theorem sofar_zero (U : Nat) : Sofar U [] U := ⟨rfl, by simp, .inl rfl⟩
theorem sofar_more {U v : Nat} {acc : List Int} (h : Sofar U acc v) (hv : 128 ≤ v) : Sofar U (acc ++ [((v : Int) % 128 + 128)]) (v / 128) := by
  refine ⟨by rw [h.1, digs_more hv]; simp, ?_, .inr (by omega)⟩
  have h2 := h.2.1
  have : v / 128 * 128 ≤ v := Nat.div_mul_le_self v 128
  simp only [List.length_append, List.length_cons, List.length_nil, Nat.zero_add, Nat.pow_succ]
  calc v / 128 * (128 ^ acc.length * 128) = (v / 128 * 128) * 128 ^ acc.length := by rw [Nat.mul_comm (128 ^ acc.length) 128, Nat.mul_assoc]
    _ ≤ v * 128 ^ acc.length := Nat.mul_le_mul_right _ this
    _ ≤ U := h2
theorem sofar_end {U v : Nat} {acc : List Int} (h : Sofar U acc v) (hv : v < 128) : digs U = acc ++ [(v : Int)] := by rw [h.1, digs_last hv]
theorem pow_le_pow {a b : Nat} (h : a ≤ b) : 128 ^ a ≤ 128 ^ b := Nat.pow_le_pow_right (by omega) h
theorem sofar_len {U v : Nat} {acc : List Int} (h : Sofar U acc v) (hU : U ≤ 18446744073709551615) (hv : 128 ≤ v) : acc.length ≤ 8 := by
  refine Nat.le_of_not_lt fun hlt => ?_
  have h1 := pow_le_pow (show 9 ≤ acc.length by omega)
  have h2 : 128 * 128 ^ 9 ≤ v * 128 ^ acc.length := Nat.mul_le_mul hv h1
  have := Nat.le_trans h2 h.2.1
  omega
theorem sofar_len9 {U v : Nat} {acc : List Int} (h : Sofar U acc v) (hU : U ≤ 18446744073709551615) : acc.length ≤ 9 := by
  refine Nat.le_of_not_lt fun hlt => ?_
  rcases h.2.2 with h0 | h0
  · rw [h0] at hlt; simp at hlt
  · have h1 := pow_le_pow (show 10 ≤ acc.length by omega)
    have h2 : 1 * 128 ^ 10 ≤ v * 128 ^ acc.length := Nat.mul_le_mul h0 h1
    have := Nat.le_trans h2 h.2.1
    omega
theorem sofar_le {U v : Nat} {acc : List Int} (h : Sofar U acc v) : v ≤ U := by
  have : 1 ≤ 128 ^ acc.length := Nat.pos_of_ne_zero (by simp)
  calc v = v * 1 := by omega
    _ ≤ v * 128 ^ acc.length := Nat.mul_le_mul_left _ this
    _ ≤ U := h.2.1
theorem low7 (k : Nat) (h : (k : Int) ≤ 18446744073709551615) : bits .or .u8 (bits .and .u64 (k : Int) 127 % 256) 128 = (k : Int) % 128 + 128 := by
  have h1 : bits .and .u64 (k : Int) 127 = ((k % 128 : Nat) : Int) := by
    have := u64_and_nat k 127 (by omega) (by omega)
    rw [show ((127 : Nat) : Int) = 127 from rfl] at this
    rw [this]
    congr 1
    exact Nat.and_two_pow_sub_one_eq_mod k 7
  rw [h1]
  have h2 : ((k % 128 : Nat) : Int) % 256 = ((k % 128 : Nat) : Int) := by omega
  rw [h2]
  have h3 := u8_or_nat (k % 128) 128 (by omega) (by omega)
  rw [show ((128 : Nat) : Int) = 128 from rfl] at h3
  rw [h3, Nat.or_comm, nat_join 7 128 (k % 128) (by decide) (by omega)]
  omega
theorem take_set {C : List Value} {m : Nat} {x : Value} (h : m < C.length) : (C.set m x).take (m + 1) = C.take m ++ [x] := by
  rw [List.take_succ_eq_append_getElem (by simpa using h), List.take_set_of_le (Nat.le_refl _)]
  simp
def numB (n : Int) : ByteArray := strOfNums (digs (foldN n).toNat)

theorem own_string {w : World} {base n : Nat} {v : Value} {xs : List Int} (h : w.ownsRow base 5 1 v n (xs.map (Value.int .u8))) (hn : 0 < n) :
    ∃ g cap, v = .slice (some ⟨g, 0, none⟩) n cap ∧ (convert 22 9 (.slice (some ⟨g, 0, none⟩) n cap)).run Try.prog w = .ok (.string (strOfNums xs)) w := by
  have hl := h.1
  rcases h.2 with ⟨_, h0⟩ | ⟨g, cap, cur, hv, _⟩
  · omega
  · refine ⟨g, cap, hv, ?_⟩
    have hlen : xs.length = n := by simpa using hl
    refine run_convert_bytes_arg w 22 5 Try.underlying22 Try.underlying5 g 0 n cap xs hlen ?_ 9 Try.underlying9
    intro i hi
    have := h.cells (g := g) (by rw [hv]; rfl) i (.int .u8 (xs.getD i 0)) (by simp [List.getElem?_map, List.getD, List.getElem?_eq_getElem (show i < xs.length by omega)])
    rw [← this]
    congr 1
    unfold Addr.add; split <;> simp_all
theorem Trylen10 : Try.prog.arrayLen 73 = 10 := by kernel_rfl
theorem Tryelem10 : Try.prog.elem 73 = 5 := by kernel_rfl
theorem Tryund10 : Try.prog.underlying 73 = some (.array (Try.prog.arrayLen 73) (Try.prog.elem 73)) := by kernel_rfl
theorem Tryinfo5 : (Try.prog.info? 5).map (fun i => (i.zero, i.size, i.bytes)) = some (some (.int .u8 0), 1, 1) := by kernel_rfl
set_option maxRecDepth 100000 in
set_option maxHeartbeats 1000000 in
theorem spec_put (n : Int) (w : World) (hn : -9223372036854775808 ≤ n ∧ n ≤ 9223372036854775807) :
    Calls Try.prog 24 #[.int .i64 n] w fun e w' => e = .returned (.string (numB n)) ∧ Below w.heap.size w w' := by
  obtain ⟨U, hU⟩ : ∃ U : Nat, (U : Int) = foldN n := ⟨(foldN n).toNat, by have := fold_bd hn; omega⟩
  have hbd := fold_bd hn
  have h1 := fun w => spec_fold n w hn
  have HE : Hid (numB n = strOfNums (digs U)) := (show _ = _ by unfold numB; rw [← hU]; rfl)
  rw [← hU] at h1 hbd
  clear hU
  obtain ⟨i0, hi, hz0, hz1, hz2⟩ := info_parts Tryinfo5
  go_enter Try.func24, Try.ntmps24
  go_wp2_with (first | (go_at_call 44; refine (h1 _).mono ?_; rintro e w ⟨rfl, rfl⟩))
  clear h1
  have HU : Hid (U ≤ 18446744073709551615) := hid_intro (by omega)
  clear hbd hn
  have hown0 := World.ownsRow_made (base := w.heap.size) (e := 5) (size := 1) w #[] 0 (Nat.le_refl _) (by unfold maxLen; omega) rfl
  have hbel0 : Below w.heap.size w (w.alloc (Obj.cells #[] 5)) := (Below.refl _ _).alloc (Nat.le_refl _) _
  go_loopw [3, 4] (fun x v wr => ∃ (k : Nat) (acc : List Int), x = .int .u64 k ∧ Hid (Sofar U acc k) ∧ k ≤ U ∧ wr.ownsRow w.heap.size 5 1 v acc.length (acc.map (Value.int .u8)) ∧ Below w.heap.size w wr) (fun x _ _ => (intOf x).toNat)
  case atStart => exact ⟨U, [], rfl, sofar_zero U, Nat.le_refl _, hown0, hbel0⟩
  case round =>
    obtain ⟨k, acc, rfl, HS, hkU, hown, hnx⟩ := hrel
    clear hown0 hbel0
    by_cases hk : 128 ≤ k
    · have hlen := sofar_len HS.out HU.out hk
      have hk64 : (k : Int) ≤ 18446744073709551615 := by have := HU.out; omega
      have HS2 : Hid (Sofar U (acc ++ [((k : Int) % 128 + 128)]) (k / 128)) := sofar_more HS.out hk
      clear HS
      go_wp2_with (at_builtin; refine wpList_append_own _ rfl _ _ 22 rfl w.heap.size 5 i0 (.int .u8 0) 1 1 Try.underlying22 hi hz0 hz1 hz2 rfl (by decide) _ _ _ rfl (hown.alloc _) ⟨wr.heap.size, 0, none⟩ 1 1 [.int .u8 ((k : Int) % 128 + 128)] rfl rfl ?c1 ?c2 ?c3 ?c4 ?c5 ?_)
      case c1 =>
        intro j u hj
        match j, hj with
        | 0, hj => simp at hj; subst hj; simp [Addr.add]
      case c2 => intro u hu; simp at hu; subst hu; rfl
      case c3 => unfold maxLen; omega
      case c4 => omega
      case c5 => have := hnx.size; simp; omega
      intro v' w1 hown' hgrow hne
      have hb1 : Below w.heap.size w w1 := (hnx.alloc hnx.size _).grown hgrow (by have := hnx.size; simp; omega) (fun g hg => (hown.lt g hg).1)
      have hown2 : w1.ownsRow w.heap.size 5 1 v' (acc ++ [((k : Int) % 128 + 128)]).length ((acc ++ [((k : Int) % 128 + 128)]).map (Value.int .u8)) := by
        simpa using hown'
      clear hown' hgrow hown hnx hne
      go_wp2
      go_roundw
      case rel => exact ⟨k / 128, _, by go_num, HS2, by omega, hown2, hb1⟩
      case measure => simp [intOf]; omega
    · have hk2 : (k : Int) < 128 := by omega
      have HD : Hid (digs U = acc ++ [(k : Int)]) := sofar_end HS.out (by omega)
      have hlen : acc.length ≤ 9 := sofar_len9 HS.out HU.out
      clear HS
      go_wp2_with (at_builtin; refine wpList_append_own _ rfl _ _ 22 rfl w.heap.size 5 i0 (.int .u8 0) 1 1 Try.underlying22 hi hz0 hz1 hz2 rfl (by decide) _ _ _ rfl (hown.alloc _) ⟨wr.heap.size, 0, none⟩ 1 1 [.int .u8 (k : Int)] rfl rfl ?d1 ?d2 ?d3 ?d4 ?d5 ?_)
      case d1 =>
        intro j u hj
        match j, hj with
        | 0, hj => simp at hj; subst hj; simp [Addr.add]
      case d2 => intro u hu; simp at hu; subst hu; rfl
      case d3 => unfold maxLen; omega
      case d4 => omega
      case d5 => have := hnx.size; simp; omega
      intro v' w1 hown' hgrow hne
      have hb1 : Below w.heap.size w w1 := (hnx.alloc hnx.size _).grown hgrow (by have := hnx.size; simp; omega) (fun g hg => (hown.lt g hg).1)
      have hown2 : w1.ownsRow w.heap.size 5 1 v' (acc.length + 1) ((acc ++ [(k : Int)]).map (Value.int .u8)) := by
        simpa using hown'
      obtain ⟨g, cap, hv, hconv⟩ := own_string hown2 (by omega)
      clear hown' hgrow hown hnx hne hown2
      rw [hv]
      clear hv
      go_wp2
      go_ret
      exact ⟨ret_str (by rw [HE.out, HD.out]), hb1⟩
set_option maxRecDepth 100000 in
set_option maxHeartbeats 1000000 in
theorem impl_put (n : Int) (w : World) (hn : -9223372036854775808 ≤ n ∧ n ≤ 9223372036854775807) :
    Calls Try.prog 15 #[.int .i64 n] w fun e w' => e = .returned (.string (numB n)) ∧ Below w.heap.size w w' := by
  obtain ⟨U, hU⟩ : ∃ U : Nat, (U : Int) = foldN n := ⟨(foldN n).toNat, by have := fold_bd hn; omega⟩
  have hbd := fold_bd hn
  have h1 := fun w => impl_fold n w hn
  have HE : Hid (numB n = strOfNums (digs U)) := (show _ = _ by unfold numB; rw [← hU]; rfl)
  rw [← hU] at h1 hbd
  clear hU
  go_enter Try.func15, Try.ntmps15
  go_wp2_with (first | (go_at_call 35; refine (h1 _).mono ?_; rintro e w ⟨rfl, rfl⟩))
  clear h1
  have HU : Hid (U ≤ 18446744073709551615) := hid_intro (by omega)
  clear hbd hn
  go_loopw [4, 5] (fun c x wr => ∃ (k : Nat) (acc : List Int) (C : List Value), c = .int .i64 (acc.length : Nat) ∧ x = .int .u64 k ∧ Hid (Sofar U acc k) ∧ k ≤ U ∧ Hid (C.take acc.length = acc.map (Value.int .u8)) ∧ C.length = 10 ∧ wr = w.alloc (.cells C.toArray 73)) (fun _ x _ => (intOf x).toNat)
  case atStart => exact ⟨U, [], List.replicate 10 (.int .u8 0), rfl, rfl, sofar_zero U, Nat.le_refl _, rfl, rfl, rfl⟩
  case round =>
    obtain ⟨k, acc, C, rfl, rfl, HS, hkU, HC, hCl, rfl⟩ := hrel
    by_cases hk : 128 ≤ k
    · have hlen := sofar_len HS.out HU.out hk
      have hk64 : (k : Int) ≤ 18446744073709551615 := by have := HU.out; omega
      have HS2 : Hid (Sofar U (acc ++ [((k : Int) % 128 + 128)]) (k / 128)) := sofar_more HS.out hk
      clear HS
      have hcell : (w.alloc (.cells C.toArray 73)).cell? ⟨w.heap.size, acc.length, none⟩ = some (C[acc.length]'(by omega)) := by
        rw [World.cell?_alloc_mark]; simp [List.getElem?_eq_getElem (show acc.length < C.length by omega)]
      have HL : Hid (bits .or .u8 (bits .and .u64 (k : Int) 127 % 256) 128 = (k : Int) % 128 + 128) := low7 k hk64
      go_wp2
      go_roundw
      case rel =>
        refine ⟨k / 128, acc ++ [((k : Int) % 128 + 128)], C.set acc.length (Value.int .u8 ((k : Int) % 128 + 128)), by simp, by go_num, HS2, by omega, ?_, by simpa using hCl, by rw [HL.out]⟩
        show List.take _ _ = _
        rw [List.length_append, List.length_singleton, take_set (by omega), HC.out]
        simp
      case measure => simp [intOf]; omega
    · have hk2 : (k : Int) < 128 := by omega
      have HD : Hid (digs U = acc ++ [(k : Int)]) := sofar_end HS.out (by omega)
      have hlen : acc.length ≤ 9 := sofar_len9 HS.out HU.out
      clear HS
      have hcell : (w.alloc (.cells C.toArray 73)).cell? ⟨w.heap.size, acc.length, none⟩ = some (C[acc.length]'(by omega)) := by
        rw [World.cell?_alloc_mark]; simp [List.getElem?_eq_getElem (show acc.length < C.length by omega)]
      have hconv : (convert 22 9 (.slice (some ⟨w.heap.size, 0, none⟩) (acc.length + 1) 10)).run Try.prog (w.alloc (.cells (C.set acc.length (.int .u8 (k : Int))).toArray 73)) = .ok (.string (strOfNums (acc ++ [(k : Int)]))) (w.alloc (.cells (C.set acc.length (.int .u8 (k : Int))).toArray 73)) := by
        refine run_convert_bytes_arg _ 22 5 Try.underlying22 Try.underlying5 w.heap.size 0 (acc.length + 1) 10 (acc ++ [(k : Int)]) (by simp) ?_ 9 Try.underlying9
        intro i hi
        rw [Nat.zero_add, World.cell?_alloc_mark]
        have h1 : (C.set acc.length (Value.int .u8 (k : Int))).take (acc.length + 1) = (acc ++ [(k : Int)]).map (Value.int .u8) := by
          rw [take_set (by omega), HC.out]; simp
        have h2 : ((C.set acc.length (Value.int .u8 (k : Int))).take (acc.length + 1))[i]? = (C.set acc.length (Value.int .u8 (k : Int)))[i]? := by
          rw [List.getElem?_take_of_lt hi]
        rw [List.getElem?_toArray, ← h2, h1, List.getElem?_map, List.getElem?_eq_getElem (show i < (acc ++ [(k : Int)]).length by simpa using hi)]
        simp [List.getD, List.getElem?_eq_getElem (show i < (acc ++ [(k : Int)]).length by simpa using hi)]
      have hsl : ∀ wx, (Instr.sliceAt 73 (.pointer (some ⟨w.heap.size, 0, none⟩)) none (some (.int .i64 ((acc.length : Int) + 1))) none).run Try.prog wx = .ok (.slice (some ⟨w.heap.size, 0, none⟩) (acc.length + 1) 10) wx := by
        intro wx
        have e1 : (0 : Int) ≤ (acc.length : Int) + 1 := by omega
        have e2 : (acc.length : Int) + 1 ≤ ((Try.prog.arrayLen 73 : Nat) : Int) := by rw [Trylen10]; omega
        obtain ⟨i0, hi, hz0, hz1, hz2⟩ := info_parts Tryinfo5
        rw [run_sliceAt_array_h (P := Try.prog) wx 73 ⟨w.heap.size, 0, none⟩ Tryund10 .i64 ((acc.length : Int) + 1) e1 e2, Trylen10, Tryelem10]
        have e3 : ((acc.length : Int) + 1).toNat = acc.length + 1 := by omega
        simp [slicedAt, sizeOf, typeInfo, hi, e3, Addr.add, Result.andThen]
      go_wp2
      go_ret
      exact ⟨ret_str (by rw [HE.out, HD.out]), (Below.refl _ _).alloc (Nat.le_refl _) _⟩
theorem digs_len : ∀ (m v : Nat), v < 128 ^ (m + 1) → (digs v).length ≤ m + 1
  | 0, v, h => by rw [digs_last (by simpa using h)]; simp
  | m + 1, v, h => by
    by_cases hv : v < 128
    · rw [digs_last hv]; simp
    · rw [digs_more (by omega)]
      have : v / 128 < 128 ^ (m + 1) := by rw [Nat.div_lt_iff_lt_mul (by omega)]; rw [Nat.pow_succ] at h; exact h
      have := digs_len m (v / 128) this
      simp; omega
theorem numB_size {n : Int} (hn : -9223372036854775808 ≤ n ∧ n ≤ 9223372036854775807) : (numB n).size ≤ 10 := by
  unfold numB
  rw [strOfNums_size]
  have := fold_bd hn
  exact digs_len 9 _ (Nat.lt_of_le_of_lt (show (foldN n).toNat ≤ 18446744073709551615 by omega) (by decide))
end NumR
end Go.Proofs.Ytbecgngmpjajaaa
namespace Go.Proofs.Ytbecgngmpjajaaa
open Go.ChangeShapes Go.WideShapes Go.ChangeAt Go.RowKit
set_option linter.unusedVariables false
theorem hid_intro {p : Prop} (h : p) : Hid p := h
namespace JoinR
def jl (parts : List ByteArray) (k : Nat) : List UInt8 := (parts.take k).flatMap (fun p => p.data.toList)
def joinB (parts : List ByteArray) : ByteArray := ⟨(parts.flatMap (fun p => p.data.toList)).toArray⟩
theorem jl_zero (parts : List ByteArray) : jl parts 0 = [] := rfl
theorem jl_succ (parts : List ByteArray) (k : Nat) (h : k < parts.length) : jl parts (k + 1) = jl parts k ++ (parts[k]).data.toList := by
  unfold jl; rw [List.take_succ_eq_append_getElem h, List.flatMap_append]; simp only [List.flatMap_cons, List.flatMap_nil, List.append_nil]
theorem jl_all (parts : List ByteArray) : jl parts parts.length = parts.flatMap (fun p => p.data.toList) := by
  unfold jl; rw [List.take_of_length_le (Nat.le_refl _)]
theorem jl_le (parts : List ByteArray) (k : Nat) : (jl parts k).length ≤ (jl parts parts.length).length := by
  rw [jl_all]; unfold jl
  conv => rhs; rw [← List.take_append_drop k parts, List.flatMap_append, List.length_append]
  omega
theorem jl_len (parts : List ByteArray) (k : Nat) (h : k < parts.length) : (jl parts (k + 1)).length = (jl parts k).length + (parts[k]).size := by
  rw [jl_succ parts k h, List.length_append]; rfl

/-- 'copy(dst, s)', s a text: the run, and what it leaves of the row. -/
theorem copy_text_run {P : Program} {w : World} (dT sT ty : TypeId) (elem : TypeId) (hu : P.underlying dT = some (.slice elem)) (hsz : (P.info? elem).map (·.size) = some 1)
    (dp : Option Addr) (dLen dCap : Nat) (str : ByteArray)
    (g off : Nat) (cur : List Value) (t : TypeId) (hg : w.heap[g]? = some (.cells cur.toArray t (0, 0))) (hle : str.size ≤ dLen)
    (hpos : 0 < str.size → dp = some ⟨g, off, none⟩) (hfit : off + str.size ≤ cur.length) (B : Nat) (w0 : World) (hb : Below B w0 w) (hBg : B ≤ g) :
    ∃ w', (Builtin.copy_ #[dT, sT] ty #[.slice dp dLen dCap, .string str]).run P w = .ok (.int .i64 str.size) w' ∧ Hid (w'.heap[g]? = some (.cells (splice cur off (Go.Lib.byteCells str.data.toList)).toArray t (0, 0))) ∧ Below B w0 w' := by
  have hlen : (Go.Lib.byteCells str.data.toList).length = str.size := by rw [Go.Lib.byteCells_length]; rfl
  by_cases h0 : str.size = 0
  · have hrun := Go.Lib.run_copy_empty_string (P := P) w dT sT ty elem dp dLen dCap str hu (by cases hq : P.info? elem <;> simp [hq] at hsz ⊢) h0
    have hnil : Go.Lib.byteCells str.data.toList = [] := List.eq_nil_of_length_eq_zero (by omega)
    refine ⟨w, by rw [hrun, h0]; rfl, show _ = _ from ?_, hb⟩
    rw [hnil]
    simpa [splice] using hg
  · have hd' := hpos (by omega)
    subst hd'
    have hrun := Go.Lib.run_copy_row_string (P := P) w dT sT ty elem g off dLen dCap str cur.toArray t hu hsz hg hle (by simpa using hfit)
    refine ⟨_, hrun, show _ = _ from ?_, below_setRow hb hBg _⟩
    have := setRow_heap w g cur.toArray (List.take off cur ++ Go.Lib.byteCells str.data.toList ++ List.drop (off + str.size) cur).toArray t (0, 0) hg
    simpa [splice, hlen] using this

theorem splice_next (pre cs rest : List Value) (h : cs.length ≤ rest.length) : splice (pre ++ rest) pre.length cs = (pre ++ cs) ++ rest.drop cs.length := by
  unfold splice
  simp [List.drop_append]

theorem row_of_full {w : World} {base e g n : Nat} {xs : List Value} (h : w.ownsRow base e 1 (.slice (some ⟨g, 0, none⟩) n n) n xs) :
    ∃ rest : List Value, w.heap[g]? = some (.cells rest.toArray e (0, 0)) ∧ rest.length = n := by
  rcases h.2 with ⟨h1, _⟩ | ⟨g', cap, cur, h1, _, hg, _, _, hs, _⟩
  · simp at h1
  · simp at h1
    obtain ⟨rfl, rfl⟩ := h1
    exact ⟨cur.toList, by simpa using hg, by simpa using hs⟩

theorem Tryinfo5 : (Try.prog.info? 5).map (fun i => (i.zero, i.size, i.bytes)) = some (some (.int .u8 0), 1, 1) := by kernel_rfl
theorem Trysize5 : (Try.prog.info? 5).map (·.size) = some 1 := by kernel_rfl

set_option maxHeartbeats 2000000 in
theorem join_len (parts : List ByteArray) (b cap : Nat) (w : World) (hcap : parts.length ≤ cap) (hcm : parts.length ≤ 1000) (hb : b < w.heap.size)
    (hc : ∀ k (h : k < parts.length), w.cell? ⟨b, k, none⟩ = some (.string parts[k])) (htot : (jl parts parts.length).length ≤ 1099511627776) :
    Calls Try.prog 17 #[.slice (some ⟨b, 0, none⟩) parts.length cap] w fun e w' => e = .returned (.string (joinB parts)) ∧ Below w.heap.size w w' := by
  obtain ⟨i0, hi, hz0, hz1, hz2⟩ := info_parts Tryinfo5
  go_enter Try.func17, Try.ntmps17
  go_wp2
  go_loop [3, 12] (fun x i => ∃ k : Nat, k ≤ parts.length ∧ i = .int .i64 k ∧ x = .int .i64 ((jl parts k).length : Nat)) (fun _ i => parts.length - (intOf i).toNat)
  case atStart => exact ⟨0, by omega, rfl, rfl⟩
  case round =>
    obtain ⟨k, hk, rfl, rfl⟩ := hrel
    by_cases hlt : k < parts.length
    · have hcell := hc k hlt
      have h1 := jl_le parts (k + 1)
      have h2 := jl_len parts k hlt
      have HL : Hid ((jl parts (k + 1)).length = (jl parts k).length + (parts[k]).size) := h2
      have hbd : (jl parts k).length + (parts[k]).size ≤ 1099511627776 := by omega
      clear h1 h2
      go_wp2
      go_round
      case rel => exact ⟨k + 1, by omega, by go_num, by rw [HL.out]; go_num⟩
      case measure => simp [intOf]; omega
    · have : k = parts.length := by omega
      subst this
      obtain ⟨n, hn⟩ : ∃ n, n = (jl parts parts.length).length := ⟨_, rfl⟩
      rw [← hn] at htot ⊢
      have HN : Hid (n = (jl parts parts.length).length) := hn
      clear hn
      go_wp2_with (at_make; refine wpList_make_full _ rfl _ _ 22 rfl w.heap.size 5 i0 (.int .u8 0) 1 Try.underlying22 hi hz0 hz1 .i64 .i64 _ _ n rfl rfl rfl rfl ?b2 ?b3 ?b4 ?_)
      case b2 => omega
      case b3 => unfold maxLen; omega
      intro wm hown hgrow
      obtain ⟨rest0, hrow0, hrl0⟩ := row_of_full hown
      have hbm : Below w.heap.size w wm := (Below.refl _ _).grown hgrow (Nat.le_refl _) (fun _ h => by cases h)
      have HR0 : Hid (wm.heap[w.heap.size]? = some (.cells rest0.toArray 5 (0, 0))) := hrow0
      clear hown hgrow hrow0
      obtain ⟨G, hG⟩ : ∃ G, G = w.heap.size := ⟨_, rfl⟩
      have HG : Hid (G = w.heap.size) := hG
      rw [← hG] at hbm HR0 hb ⊢
      clear hG
      go_wp2
      go_loopw [7, 25] (fun x i wr => ∃ k : Nat, k ≤ parts.length ∧ i = .int .i64 k ∧ x = .int .i64 ((jl parts k).length : Nat) ∧ Below G w wr ∧ ∃ rest : List Value, Hid (wr.heap[G]? = some (.cells (Go.Lib.byteCells (jl parts k) ++ rest).toArray 5 (0, 0))) ∧ rest.length = n - (jl parts k).length) (fun _ i _ => parts.length - (intOf i).toNat)
      case atStart => exact ⟨0, by omega, rfl, rfl, hbm, rest0, HR0, by rw [hrl0]; rfl⟩
      case round =>
        obtain ⟨k, hk, rfl, rfl, hbr, rest, HR, hrl⟩ := hrel
        by_cases hlt : k < parts.length
        · have hcell := hc k hlt
          have hcr : wr.cell? ⟨b, k, none⟩ = some (.string parts[k]) := (hbr.cell (p := ⟨b, k, none⟩) hb).trans hcell
          have h1 := jl_le parts (k + 1)
          have h2 := jl_len parts k hlt
          rw [← HN.out] at h1
          have HL : Hid ((jl parts (k + 1)).length = (jl parts k).length + (parts[k]).size) := h2
          have HB : Hid ((jl parts k).length + (parts[k]).size ≤ n) := hid_intro (by omega)
          have HC : Hid (jl parts (k + 1) = jl parts k ++ (parts[k]).data.toList) := jl_succ parts k hlt
          clear h1 h2 hcell
          obtain ⟨L, hL⟩ : ∃ L, L = jl parts k := ⟨_, rfl⟩
          rw [← hL] at HL HB HC HR hrl ⊢
          clear hL
          obtain ⟨m, hm⟩ : ∃ m, m = L.length := ⟨_, rfl⟩
          rw [← hm] at HL HB hrl ⊢
          have HM : Hid (m = L.length) := hm
          clear hm
          obtain ⟨q, hq⟩ : ∃ q, q = parts[k] := ⟨_, rfl⟩
          rw [← hq] at HL HB HC hcr
          clear hq
          have hqn : m + q.size ≤ n := HB.out
          have hfin : ∀ w', Hid (w'.heap[G]? = some (.cells (splice (Go.Lib.byteCells L ++ rest) m (Go.Lib.byteCells q.data.toList)).toArray 5 (0, 0))) → Below G w w' →
              ∃ k' : Nat, k' ≤ parts.length ∧ Value.int .i64 ((k : Int) + 1) = .int .i64 k' ∧ Value.int .i64 ((m : Int) + q.size) = .int .i64 ((jl parts k').length : Nat) ∧ Below G w w' ∧ ∃ rest : List Value, Hid (w'.heap[G]? = some (.cells (Go.Lib.byteCells (jl parts k') ++ rest).toArray 5 (0, 0))) ∧ rest.length = n - (jl parts k').length := by
            intro w' hh hbb
            refine ⟨k + 1, by omega, by go_num, by rw [HL.out]; go_num, hbb, rest.drop (Go.Lib.byteCells q.data.toList).length, ?_, ?_⟩
            · have hlen : (Go.Lib.byteCells L).length = m := by rw [Go.Lib.byteCells_length]; exact HM.out.symm
              have hq2 : (Go.Lib.byteCells q.data.toList).length = q.size := Go.Lib.byteCells_length _
              have := splice_next (Go.Lib.byteCells L) (Go.Lib.byteCells q.data.toList) rest (by rw [hq2, hrl]; omega)
              rw [hlen] at this
              rw [HC.out, Go.Lib.byteCells_append, ← this]
              exact hh
            · have hq2 : (Go.Lib.byteCells q.data.toList).length = q.size := Go.Lib.byteCells_length _
              rw [List.length_drop, hq2, hrl, HL.out]; omega
          have HF := hid_intro hfin
          have hcur : (Go.Lib.byteCells L ++ rest).length = n := by rw [List.length_append, Go.Lib.byteCells_length, ← HM.out, hrl]; omega
          clear hfin HL HC HB
          by_cases hmn : m < n
          · obtain ⟨w4, hrun, hg4, hb4⟩ := copy_text_run (P := Try.prog) 22 9 3 5 Try.underlying22 Trysize5 (some ⟨G, m, none⟩) (n - m) (n - m) q G m (Go.Lib.byteCells L ++ rest) 5 HR.out (by omega) (fun _ => rfl) (by omega) G w hbr (Nat.le_refl _)
            clear HR
            go_wp2
            go_roundw
            case rel => exact HF.out _ hg4 hb4
            case measure => simp [intOf]; omega
          · obtain rfl : m = n := by omega
            have hq0 : q.size = 0 := by omega
            obtain ⟨w4, hrun, hg4, hb4⟩ := copy_text_run (P := Try.prog) 22 9 3 5 Try.underlying22 Trysize5 (some ⟨G, 0, none⟩) 0 0 q G m (Go.Lib.byteCells L ++ rest) 5 HR.out (by omega) (fun _ => by omega) (by omega) G w hbr (Nat.le_refl _)
            rw [hq0] at hrun
            clear HR
            go_wp2
            go_roundw
            case rel => have := HF.out _ hg4 hb4; simp only [hq0] at this; simpa using this
            case measure => simp [intOf]; omega
        · have : k = parts.length := by omega
          subst this
          have hall : (jl parts parts.length).length = n := HN.out.symm
          obtain rfl : rest = [] := List.eq_nil_of_length_eq_zero (by rw [hrl, hall]; omega)
          have hback := fun dst (hd : Try.prog.underlying dst = some .string) => run_convert_bytes_back (P := Try.prog) wr 22 dst 5 ⟨G, 0, none⟩ n (jl parts parts.length) Try.underlying22 Try.underlying5 hd (Go.Lib.bytes_of_row HR.out (by simp; rw [List.take_of_length_le (by simp [Go.Lib.byteCells])]))
          have hb9 := hback 9 Try.underlying9
          rw [hall] at hb9
          clear hback hall HR
          go_wp2
          go_ret
          refine ⟨ret_str ?_, HG.out ▸ hbr⟩
          unfold joinB
          rw [← jl_all]
theorem join_any (parts : List ByteArray) (b cap : Nat) (w : World) (hcap : parts.length ≤ cap) (hcm : cap ≤ 1000) (hb : b < w.heap.size)
    (hc : ∀ k (h : k < parts.length), w.cell? ⟨b, k, none⟩ = some (.string parts[k])) (htot : (jl parts parts.length).length ≤ 1099511627776) :
    Calls Try.prog 17 #[.slice (some ⟨b, 0, none⟩) parts.length cap] w fun e w' => e = .returned (.string (joinB parts)) ∧ Below w.heap.size w w' :=
  join_len parts b cap w hcap (by omega) hb hc htot
theorem cell_new {w : World} {C : Array Value} {T : TypeId} {k : Nat} {v : Value} (h : C[k]? = some v) : (w.alloc (.cells C T)).cell? ⟨w.heap.size, k, none⟩ = some v := by
  rw [World.cell?_alloc_mark]; exact h
theorem join1 (a : ByteArray) (w : World) (ht : a.size ≤ 1099511627776) :
    Calls Try.prog 17 #[.slice (some ⟨w.heap.size, 0, none⟩) 1 1] (w.alloc (.cells #[.string a] 9)) fun e w' => e = .returned (.string a) ∧ Below w.heap.size w w' := by
  refine (join_any [a] w.heap.size 1 _ (Nat.le_refl _) (by omega) (by simp) (fun k h => cell_new (by match k, h with | 0, _ => rfl)) (by simp [jl]; exact ht)).mono ?_
  rintro e w' ⟨rfl, hb⟩
  refine ⟨ret_str (by unfold joinB; simp), ((Below.refl _ _).alloc (Nat.le_refl _) _).trans (hb.mono (by simp))⟩
theorem join2 (a b : ByteArray) (w : World) (ht : a.size + b.size ≤ 1099511627776) :
    Calls Try.prog 17 #[.slice (some ⟨w.heap.size, 0, none⟩) 2 2] (w.alloc (.cells #[.string a, .string b] 9)) fun e w' => e = .returned (.string (a ++ b)) ∧ Below w.heap.size w w' := by
  refine (join_any [a, b] w.heap.size 2 _ (Nat.le_refl _) (by omega) (by simp) (fun k h => cell_new (by match k, h with | 0, _ => rfl | 1, _ => rfl)) (by simp [jl]; exact ht)).mono ?_
  rintro e w' ⟨rfl, hb⟩
  refine ⟨ret_str (ByteArray.ext (by unfold joinB; simp)), ((Below.refl _ _).alloc (Nat.le_refl _) _).trans (hb.mono (by simp))⟩
end JoinR
end Go.Proofs.Ytbecgngmpjajaaa
namespace Go.Proofs.Ytbecgngmpjajaaa
open Go.ChangeShapes Go.WideShapes Go.ChangeAt Go.RowKit
open Go.ChangeMaps (open_string shut_string)
set_option linter.unusedVariables false
namespace PutTextL
theorem spec_text (t : ByteArray) (w : World) (ht : t.size ≤ 8000) :
    Calls Try.prog 25 #[.string t] w fun e w' => e = .returned (.string (NumR.numB t.size ++ t)) ∧ Below w.heap.size w w' := by
  obtain ⟨v, hv⟩ : ∃ v, v = NumR.numB t.size := ⟨_, rfl⟩
  have h1 := fun w => NumR.spec_put t.size w (by omega)
  have h2 := NumR.numB_size (n := t.size) (by omega)
  rw [← hv] at h1 h2
  rw [← hv]
  clear hv
  go_enter Try.func25, Try.ntmps25
  go_wp2_with (first | (go_at_call 24; refine (h1 _).mono ?_; rintro e w1 ⟨rfl, hb1⟩))
  go_ret
  exact ⟨rfl, hb1⟩
theorem impl_text (t : ByteArray) (w : World) (ht : t.size ≤ 8000) :
    Calls Try.prog 36 #[.string t] w fun e w' => e = .returned (.string (NumR.numB t.size ++ t)) ∧ Below w.heap.size w w' := by
  obtain ⟨v, hv⟩ : ∃ v, v = NumR.numB t.size := ⟨_, rfl⟩
  have h1 := fun w => NumR.impl_put t.size w (by omega)
  have h2 := NumR.numB_size (n := t.size) (by omega)
  rw [← hv] at h1 h2
  rw [← hv]
  clear hv
  go_enter Try.func36, Try.ntmps36
  go_wp2_with (first | (go_at_call 15; refine (h1 _).mono ?_; rintro e w1 ⟨rfl, hb1⟩) | (go_at_call 17; refine (JoinR.join2 v t _ (by omega)).mono ?_; rintro e w2 ⟨rfl, hb2⟩))
  go_ret
  exact ⟨rfl, hb1.trans (hb2.mono hb1.size)⟩
theorem spec_big (t : ByteArray) (w : World) (ht : 8000 < t.size) (hm : t.size ≤ 1048576) :
    Calls Try.prog 25 #[.string t] w fun e w' => e = .returned (.string ⟨#[]⟩) ∧ Below w.heap.size w w' := by
  go_enter Try.func25, Try.ntmps25
  go_wp2
  go_ret
  exact ⟨rfl, Below.refl _ _⟩
theorem impl_big (t : ByteArray) (w : World) (ht : 8000 < t.size) (hm : t.size ≤ 1048576) :
    Calls Try.prog 36 #[.string t] w fun e w' => e = .returned (.string ⟨#[]⟩) ∧ Below w.heap.size w w' := by
  go_enter Try.func36, Try.ntmps36
  go_wp2
  go_ret
  exact ⟨rfl, Below.refl _ _⟩
end PutTextL
end Go.Proofs.Ytbecgngmpjajaaa
namespace Go.Proofs.Ytbecgngmpjajaaa
open Go.ChangeShapes Go.WideShapes Go.ChangeAt Go.RowKit
set_option linter.unusedVariables false
namespace DocR
open JoinR (joinB jl)
open CatR (Blk)
theorem own_drew {w : World} {base e size n : Nat} {v : Value} {xs : List Value} (h : w.ownsRow base e size v n xs) : w.drew.ownsRow base e size v n xs := h
theorem step_append_own {P : Program} {w : World} {ops : Array Oper} {o : Oper} {a : Act} {K : Act → World → Prop} {Q : Exit → Act → World → Prop} {E : Prop} (hgd : o.guard = none) (s x : Operand) (t : TypeId)
    (ho : o.op = .call { callee := .builtin .append, args := #[s, x], argTypes := #[t, t] })
    (base : Nat) (e : TypeId) (i : TypeInfo) (z : Value) (size bytes : Nat) (ht : P.underlying t = some (.slice e)) (hi : P.info? e = some i) (hz : i.zero = some z)
    (hsize : i.size = size) (hby : i.bytes = bytes) (hzs : z.cells.size = size) (hsz : 0 < size)
    (v : Value) (n : Nat) (xs : List Value) (hs : a.eval s = v) (hown : w.ownsRow base e size v n xs)
    (ad : Addr) (m c : Nat) (news : List Value) (hx : a.eval x = .slice (some ad) m c) (hl : news.length = m * size) (hnews : ∀ j u, news[j]? = some u → w.cell? (ad.add j) = some u) (h1 : ∀ u ∈ news, u.oneCell' = true)
    (h63 : n + m ≤ maxLen) (hbytes : (n + m) * bytes ≤ 140737488355328) (hbase : base ≤ w.heap.size)
    (h : ∀ v' w', w'.ownsRow base e size v' (n + m) (xs ++ news) → w.grownBy w' v.ownBlock → (v' = .slice none 0 0 ↔ v = .slice none 0 0 ∧ m = 0) → K (a.put o.dst v') w') : if Region.wanted o (yielded ops a.tmps) = true then Oper.wp P o a w K Q else E := by
  have hw : Region.wanted o (yielded ops a.tmps) = true := by simp [Region.wanted, hgd]
  rw [if_pos hw]
  exact wp_append_own w s x t ho base e i z size bytes ht hi hz hsize hby hzs hsz v n xs hs hown ad m c news hx hl hnews h1 h63 hbytes hbase h
theorem own_base {w : World} {base e size n : Nat} {v : Value} {xs : List Value} (h : w.ownsRow base e size v n xs) (hv : v ≠ .slice none 0 0) : base ≤ w.heap.size := by
  rcases h.2 with ⟨h0, _⟩ | ⟨g, cap, cur, h1, h2, hg, _⟩
  · exact absurd h0 hv
  · have := (Array.getElem?_eq_some_iff.1 hg).1
    omega
theorem two_cells (w : World) (x y : ByteArray) (T : TypeId) : ∀ j u, [Value.string x, Value.string y][j]? = some u → (w.alloc (.cells #[.string x, .string y] T)).cell? ((⟨w.heap.size, 0, none⟩ : Addr).add j) = some u := by
  intro j u hj
  match j, hj with
  | 0, hj => simp at hj; subst hj; simp [Addr.add]
  | 1, hj => simp at hj; subst hj; simp [Addr.add, go_sem]
theorem two_one (x y : ByteArray) : ∀ u ∈ [Value.string x, Value.string y], u.oneCell' = true := by
  intro u hu
  simp at hu
  rcases hu with rfl | rfl <;> rfl
theorem one_cell (w : World) (x : ByteArray) (T : TypeId) : ∀ j u, [Value.string x][j]? = some u → (w.alloc (.cells #[.string x] T)).cell? ((⟨w.heap.size, 0, none⟩ : Addr).add j) = some u := by
  intro j u hj
  match j, hj with
  | 0, hj => simp at hj; subst hj; simp [Addr.add]
theorem one_one (x : ByteArray) : ∀ u ∈ [Value.string x], u.oneCell' = true := by
  intro u hu
  simp at hu
  subst hu; rfl
theorem blk_grown {b : Nat} {cs : List Value} {w w' : World} {row : Option Nat} (h : Blk b cs w) (hg : w.grownBy w' row) (hne : some b ≠ row) : Blk b cs w' := by
  have e := hg.block b h.1 hne
  exact ⟨by have := hg.size; have := h.1; omega, fun i hi => (World.cell?_of_block (a := ⟨b, i, none⟩) e).trans (h.2 i hi)⟩
theorem four_cells (w : World) (x y z u : ByteArray) (T : TypeId) : ∀ j v, [Value.string x, Value.string y, Value.string z, Value.string u][j]? = some v → (w.alloc (.cells #[.string x, .string y, .string z, .string u] T)).cell? ((⟨w.heap.size, 0, none⟩ : Addr).add j) = some v := by
  intro j v hj
  match j, hj with
  | 0, hj => simp at hj; subst hj; simp [Addr.add]
  | 1, hj => simp at hj; subst hj; simp [Addr.add, go_sem]
  | 2, hj => simp at hj; subst hj; simp [Addr.add, go_sem]
  | 3, hj => simp at hj; subst hj; simp [Addr.add, go_sem]
theorem four_one (x y z u : ByteArray) : ∀ v ∈ [Value.string x, Value.string y, Value.string z, Value.string u], v.oneCell' = true := by
  intro v hv
  simp at hv
  rcases hv with rfl | rfl | rfl | rfl <;> rfl
theorem joinB_app (a b : List ByteArray) : joinB (a ++ b) = joinB a ++ joinB b := by
  apply ByteArray.ext
  simp [joinB]
theorem joinB_one (x : ByteArray) : joinB [x] = x := by
  apply ByteArray.ext
  simp [joinB]
theorem joinB_two (x y : ByteArray) : joinB [x, y] = x ++ y := by
  apply ByteArray.ext
  simp [joinB]
theorem jl_size (l : List ByteArray) : (jl l l.length).length = (joinB l).size := by
  rw [JoinR.jl_all]
  show _ = (List.toArray _).size
  rw [List.size_toArray]
theorem take_flat {α : Type} (l : List α) (f : α → List ByteArray) (d : α) (k : Nat) (h : k < l.length) : (l.take (k + 1)).flatMap f = (l.take k).flatMap f ++ f (l.getD k d) := by
  rw [List.take_add_one, List.getElem?_eq_getElem h, List.flatMap_append]
  simp [List.getD, h]
theorem take_map {α : Type} (l : List α) (f : α → ByteArray) (d : α) (k : Nat) (h : k < l.length) : (l.take (k + 1)).map f = (l.take k).map f ++ [f (l.getD k d)] := by
  rw [List.take_add_one, List.getElem?_eq_getElem h, List.map_append]
  simp [List.getD, h]
theorem join_size_le (K : Nat) : ∀ l : List ByteArray, (∀ x ∈ l, x.size ≤ K) → (joinB l).size ≤ l.length * K
  | [], _ => by show 0 ≤ _; exact Nat.zero_le _
  | x :: l, h => by
    have h1 := join_size_le K l (fun y hy => h y (List.mem_cons_of_mem _ hy))
    have h2 := h x (List.mem_cons_self ..)
    have e : joinB (x :: l) = x ++ joinB l := by
      have := joinB_app [x] l
      rw [joinB_one] at this
      exact this
    rw [e, ByteArray.size_append, List.length_cons, Nat.add_mul]
    omega
theorem infoS : (Try.prog.info? 9).map (fun i => (i.zero, i.size, i.bytes)) = some (some (.string ⟨#[]⟩), 1, 16) := by kernel_rfl
theorem own_below {w w' : World} {base e size n : Nat} {v : Value} {xs : List Value} (h : w.ownsRow base e size v n xs) (hb : Below w.heap.size w w') : w'.ownsRow base e size v n xs := by
  refine ⟨h.1, ?_⟩
  rcases h.2 with hn | ⟨g, cap, cur, rfl, h1, hg, rest⟩
  · exact .inl hn
  · exact .inr ⟨g, cap, cur, rfl, h1, (hb.block g (Array.getElem?_eq_some_iff.1 hg).1).trans hg, rest⟩
theorem own_texts {w : World} {base n : Nat} {v : Value} {xs : List ByteArray} (h : w.ownsRow base 9 1 v n (xs.map Value.string)) (hne : v ≠ .slice none 0 0) :
    ∃ g cap, v = .slice (some ⟨g, 0, none⟩) n cap ∧ g < w.heap.size ∧ xs.length = n ∧ n ≤ cap ∧ ∀ k (hk : k < xs.length), w.cell? ⟨g, k, none⟩ = some (.string xs[k]) := by
  have hl := h.1
  have hlen : xs.length = n := by simpa using hl
  rcases h.2 with ⟨h0, _⟩ | ⟨g, cap, cur, hv, _, _, hc, _⟩
  · exact absurd h0 hne
  · refine ⟨g, cap, hv, (h.lt g (by rw [hv]; rfl)).2, hlen, hc, fun k hk => ?_⟩
    have := h.cells (g := g) (by rw [hv]; rfl) k (.string xs[k]) (by simp [List.getElem?_map, List.getElem?_eq_getElem hk])
    rw [← this]
    congr 1
    unfold Addr.add; split <;> simp_all
/-- What is held while a pair's fields are put. -/
def BM2 (w : World) (B : Nat) (a0 a1 : Value) (W : World) : Prop := Below w.heap.size w W ∧ B < W.heap.size ∧ W.cell? ⟨B, 0, none⟩ = some a0 ∧ W.cell? ⟨B, 1, none⟩ = some a1
theorem BM2.below {w : World} {B : Nat} {a0 a1 : Value} {W W' : World} (h : BM2 w B a0 a1 W) (hb : Below W.heap.size W W') : BM2 w B a0 a1 W' := by
  obtain ⟨h0, l1, p0, p1⟩ := h
  have f := fun o => hb.cell (p := ⟨B, o, none⟩) l1
  have hs := hb.size
  exact ⟨h0.trans (hb.mono h0.size), by omega, (f 0).trans p0, (f 1).trans p1⟩
theorem BM2.drew {w : World} {B : Nat} {a0 a1 : Value} {W : World} (h : BM2 w B a0 a1 W) : BM2 w B a0 a1 W.drew := ⟨h.1.drew, h.2⟩
theorem BM2.grown {w : World} {B : Nat} {a0 a1 : Value} {W W' : World} {v : Value} {wr : World} {base e size n : Nat} {xs : List Value} (h : BM2 w B a0 a1 W) (hg : W.grownBy W' v.ownBlock) (ho : wr.ownsRow base e size v n xs) (hB : B = wr.heap.size := by rfl) (hbase : w.heap.size ≤ base := by omega) : BM2 w B a0 a1 W' := by
  obtain ⟨h0, l1, p0, p1⟩ := h
  have hne : some B ≠ v.ownBlock := fun e => by have := (ho.lt B e.symm).2; omega
  have e := hg.block B l1 hne
  exact ⟨h0.grown hg h0.size (fun k e => by have := (ho.lt k e).1; omega), by have := hg.size; omega, (World.cell?_of_block (a := ⟨B, 0, none⟩) e).trans p0, (World.cell?_of_block (a := ⟨B, 1, none⟩) e).trans p1⟩
end DocR
end Go.Proofs.Ytbecgngmpjajaaa
namespace Go.Proofs.Ytbecgngmpjajaaa
open Go.ChangeShapes Go.WideShapes Go.ChangeAt Go.RowKit
set_option linter.unusedVariables false
namespace LedR
open LinR DocR
open RowG (Rws MadeG hid_intro getD_mem)
open NumR (numB)
open JoinR (joinB jl)
open CatR (Blk)
/-- A text's bytes. -/
def txB (t : ByteArray) : ByteArray := numB t.size ++ t
/-- The parts of a document, with so many lines; its bytes. -/
def lnP (y : N) : List ByteArray := [txB y.i, numB y.n]
def bP (x : D) (k : Nat) : List ByteArray := [txB x.a, numB x.mo, numB x.sq, numB x.ls.length] ++ (x.ls.take k).flatMap lnP
def dBy (x : D) : ByteArray := joinB (bP x x.ls.length)
theorem doc_bd {x : D} (h : dB x = true) : x.a.size ≤ 20 ∧ (0 ≤ x.mo ∧ x.mo ≤ 2760) ∧ (0 ≤ x.sq ∧ x.sq ≤ 1000000) ∧ x.ls.length ≤ 6 ∧ ∀ y ∈ x.ls, y.i.size ≤ 20 ∧ -1000000000000000 ≤ y.n ∧ y.n ≤ 1000000000000000 := by
  unfold dB at h
  simp only [Bool.and_eq_true, decide_eq_true_eq] at h
  obtain ⟨n1, n2, n3, n4, _⟩ := h
  have nl : ∀ s : ByteArray, NameR.nameB s = true → s.size ≤ 20 := fun s hs => by
    rcases Nat.lt_or_ge 20 s.size with q | q
    · rw [NameR.name_size (.inr q)] at hs; cases hs
    · exact q
  obtain ⟨l6, hok⟩ := sB_iff.1 n4
  refine ⟨nl _ n1, n2, n3, l6, fun y hy => ?_⟩
  obtain ⟨k, hk, rfl⟩ := List.mem_iff_getElem.1 hy
  have h2 := (hok k hk).2
  have e : x.ls.getD k N.zero = x.ls[k] := by simp [List.getD, hk]
  rw [e] at h2
  unfold lOk nOk at h2
  simp only [Bool.and_eq_true, decide_eq_true_eq] at h2
  exact ⟨nl _ h2.1, h2.2.1.1, h2.2.1.2⟩
theorem num_le {n : Int} (h0 : -1000000000000000 ≤ n) (h1 : n ≤ 1000000000000000) : (numB n).size ≤ 40 := by
  have := NumR.numB_size (n := n) (by omega); omega
theorem txt_le {t : ByteArray} (h : t.size ≤ 20) : (txB t).size ≤ 40 := by
  unfold txB
  rw [ByteArray.size_append]
  have := NumR.numB_size (n := (t.size : Int)) (by omega); omega
theorem lnP_len (l : List N) : (l.flatMap lnP).length = 2 * l.length := by
  induction l with
  | nil => rfl
  | cons y l ih => simp only [List.flatMap_cons, List.length_append, ih, lnP, List.length_cons, List.length_nil]; omega
theorem bP_len (x : D) (k : Nat) (h : k ≤ x.ls.length) : (bP x k).length = 4 + 2 * k := by
  unfold bP
  simp only [List.length_append, List.length_cons, List.length_nil, lnP_len, List.length_take]
  omega
theorem bP_more (x : D) (k : Nat) (h : k < x.ls.length) : bP x (k + 1) = bP x k ++ [txB (x.ls.getD k N.zero).i, numB (x.ls.getD k N.zero).n] := by
  unfold bP; rw [take_flat x.ls lnP N.zero k h, ← List.append_assoc]; rfl
theorem bP_le {x : D} (h : dB x = true) (k : Nat) (hk : k ≤ x.ls.length) : (joinB (bP x k)).size ≤ 1000 := by
  obtain ⟨b1, b2, b3, b4, b5⟩ := doc_bd h
  have h1 : ∀ y ∈ bP x k, y.size ≤ 40 := by
    intro y hy
    unfold bP at hy
    simp only [List.mem_append, List.mem_cons, List.not_mem_nil, or_false, List.mem_flatMap, lnP] at hy
    rcases hy with (rfl | rfl | rfl | rfl) | ⟨u, hu, rfl | rfl⟩
    · exact txt_le b1
    · exact num_le (by omega) (by omega)
    · exact num_le (by omega) (by omega)
    · exact num_le (by omega) (by omega)
    · exact txt_le (b5 u (List.mem_of_mem_take hu)).1
    · have := b5 u (List.mem_of_mem_take hu); exact num_le (by omega) (by omega)
  have h2 := join_size_le 40 _ h1
  have h3 := bP_len x k hk
  omega
/-- The document's block, as the regions read it. -/
def DBy (w : World) (a : ByteArray) (mo sq : Int) (la : Option Addr) (ll lc : Nat) (W : World) : Prop := Below w.heap.size w W ∧ w.heap.size < W.heap.size ∧ W.cell? ⟨w.heap.size, 0, none⟩ = some (.string a) ∧ W.cell? ⟨w.heap.size, 1, none⟩ = some (.int .i64 mo) ∧ W.cell? ⟨w.heap.size, 2, none⟩ = some (.int .i64 sq) ∧ W.cell? ⟨w.heap.size, 3, none⟩ = some (.slice la ll lc)
theorem DBy.below {w : World} {a : ByteArray} {mo sq : Int} {la : Option Addr} {ll lc : Nat} {W W' : World} (h : DBy w a mo sq la ll lc W) (hb : Below W.heap.size W W') : DBy w a mo sq la ll lc W' := by
  obtain ⟨h0, h1, c0, c1, c2, c3⟩ := h
  have c := fun o => hb.cell (p := ⟨w.heap.size, o, none⟩) h1
  have := hb.size
  exact ⟨h0.trans (hb.mono h0.size), by omega, (c 0).trans c0, (c 1).trans c1, (c 2).trans c2, (c 3).trans c3⟩
theorem heap_alloc_new (w : World) (o : Obj) : (w.alloc o).heap[w.heap.size]? = some o := by show (w.heap.push o)[w.heap.size]? = some o; simp
set_option maxRecDepth 100000 in
set_option maxHeartbeats 8000000 in
theorem idoc (x : D) (la : Option Addr) (lc : Nat) (w : World) (hx : dB x = true) (hL : Lis la x.ls w) :
    Calls Try.prog 16 #[.agg #[.string x.a, .int .i64 x.mo, .int .i64 x.sq, .slice la x.ls.length lc]] w fun e w' => e = .returned (.string (dBy x)) ∧ Below w.heap.size w w' := by
  obtain ⟨i0, hi, hz0, hz1, hz2⟩ := info_parts infoS
  obtain ⟨b1, b2, b3, b4, b5⟩ := doc_bd hx
  have HQM := hid_intro (fun k (h : k < x.ls.length) => bP_more x k h)
  have HQL := hid_intro (fun k (h : k ≤ x.ls.length) => bP_len x k h)
  have HQS := hid_intro (bP_le hx x.ls.length (Nat.le_refl _))
  have HRR : Hid (dBy x = joinB (bP x x.ls.length)) := rfl
  have HQ0 : Hid (bP x 0 = [txB x.a, numB x.mo, numB x.sq, numB x.ls.length]) := hid_intro (by simp [bP])
  generalize bP x = Q at *
  generalize dBy x = R at *
  obtain ⟨a, mo, sq, ls⟩ := x
  dsimp only at *
  have HL := hid_intro hL
  have S9 := hid_intro b5
  have P1 := hid_intro (fun w => PutTextL.impl_text a w (by omega))
  have P2 := hid_intro (fun w => NumR.impl_put mo w (by omega))
  have P3 := hid_intro (fun w => NumR.impl_put sq w (by omega))
  obtain ⟨ll, hll⟩ : ∃ ll, ll = ls.length := ⟨_, rfl⟩
  rw [← hll] at b4 HQM HQL HQS HRR HQ0 ⊢
  have HLL := hid_intro hll
  have P4 := hid_intro (fun w => NumR.impl_put ((ll : Nat) : Int) w (by omega))
  have HQ0 : Hid (Q 0 = [numB (a.size : Int) ++ a, numB mo, numB sq, numB (ll : Int)]) := HQ0
  clear hL b5 hll hx
  generalize numB (a.size : Int) ++ a = T1 at *
  generalize numB mo = T2 at *
  generalize numB sq = T3 at *
  generalize numB (ll : Int) = T4 at *
  clear b1 b2 b3
  have HS0 : Hid (DBy w a mo sq la ll lc (w.alloc (.cells #[.string a, .int .i64 mo, .int .i64 sq, .slice la ll lc] 29)).drew) := hid_intro ⟨((Below.refl _ _).alloc (Nat.le_refl _) _).drew, by simp, by simp [go_sem], by simp [go_sem], by simp [go_sem], by simp [go_sem]⟩
  go_enter Try.func16, Try.ntmps16
  go_wp2_with fail
  refine wp_region_held_drew (S := (fun W => Below w.heap.size w W ∧ w.heap.size < W.heap.size ∧ W.cell? ⟨w.heap.size, 0, none⟩ = some (.string a) ∧ W.cell? ⟨w.heap.size, 1, none⟩ = some (.int .i64 mo) ∧ W.cell? ⟨w.heap.size, 2, none⟩ = some (.int .i64 sq) ∧ W.cell? ⟨w.heap.size, 3, none⟩ = some (.slice la ll lc))) (by kernel_rfl) HS0.out (fun hHeld => ?_)
  refine wpAnyH_take (i := 0) (oi := { dst := some 6, op := Op.fieldAddr 29 (Operand.tmp 1) 0, type := 0, pos := "l09_ledger.go:161", after := #[], guard := none }) (v := ?_) rfl (by kernel_rfl) (by kernel_rfl) (by kernel_rfl) (fun _ _ _ h => h) (Or.inl ⟨by rfl, ?_⟩) (by assumption) ?_
  rotate_left
  · (intro w hSw; (try dsimp only at hSw); go_simp) <;> with_reducible rfl
  try simp only [Act.put, List.setIfInBounds_toArray, List.set_cons_zero, List.set_cons_succ]
  refine wpAnyH_take (i := 1) (oi := { dst := some 7, op := Op.load 9 (Operand.tmp 6), type := 9, pos := "l09_ledger.go:161", after := #[{ on := 0, ground := Ground.data }], guard := none }) (v := ?_) rfl (by kernel_rfl) (by kernel_rfl) (by kernel_rfl) (fun _ _ _ h => h) (Or.inl ⟨by rfl, ?_⟩) (by assumption) ?_
  rotate_left
  · (intro w hSw; (try dsimp only at hSw); go_simp) <;> with_reducible rfl
  try simp only [Act.put, List.setIfInBounds_toArray, List.set_cons_zero, List.set_cons_succ]
  refine wpAnyH_take (i := 3) (oi := { dst := some 9, op := Op.fieldAddr 29 (Operand.tmp 1) 1, type := 0, pos := "l09_ledger.go:161", after := #[], guard := none }) (v := ?_) rfl (by kernel_rfl) (by kernel_rfl) (by kernel_rfl) (fun _ _ _ h => h) (Or.inl ⟨by rfl, ?_⟩) (by assumption) ?_
  rotate_left
  · (intro w hSw; (try dsimp only at hSw); go_simp) <;> with_reducible rfl
  try simp only [Act.put, List.setIfInBounds_toArray, List.set_cons_zero, List.set_cons_succ]
  refine wpAnyH_take (i := 4) (oi := { dst := some 10, op := Op.load 2 (Operand.tmp 9), type := 2, pos := "l09_ledger.go:161", after := #[{ on := 3, ground := Ground.data }], guard := none }) (v := ?_) rfl (by kernel_rfl) (by kernel_rfl) (by kernel_rfl) (fun _ _ _ h => h) (Or.inl ⟨by rfl, ?_⟩) (by assumption) ?_
  rotate_left
  · (intro w hSw; (try dsimp only at hSw); go_simp) <;> with_reducible rfl
  try simp only [Act.put, List.setIfInBounds_toArray, List.set_cons_zero, List.set_cons_succ]
  refine wpAnyH_take (i := 6) (oi := { dst := some 12, op := Op.fieldAddr 29 (Operand.tmp 1) 2, type := 0, pos := "l09_ledger.go:161", after := #[], guard := none }) (v := ?_) rfl (by kernel_rfl) (by kernel_rfl) (by kernel_rfl) (fun _ _ _ h => h) (Or.inl ⟨by rfl, ?_⟩) (by assumption) ?_
  rotate_left
  · (intro w hSw; (try dsimp only at hSw); go_simp) <;> with_reducible rfl
  try simp only [Act.put, List.setIfInBounds_toArray, List.set_cons_zero, List.set_cons_succ]
  refine wpAnyH_take (i := 7) (oi := { dst := some 13, op := Op.load 2 (Operand.tmp 12), type := 2, pos := "l09_ledger.go:161", after := #[{ on := 6, ground := Ground.data }], guard := none }) (v := ?_) rfl (by kernel_rfl) (by kernel_rfl) (by kernel_rfl) (fun _ _ _ h => h) (Or.inl ⟨by rfl, ?_⟩) (by assumption) ?_
  rotate_left
  · (intro w hSw; (try dsimp only at hSw); go_simp) <;> with_reducible rfl
  try simp only [Act.put, List.setIfInBounds_toArray, List.set_cons_zero, List.set_cons_succ]
  refine wpAnyH_take (i := 9) (oi := { dst := some 15, op := Op.fieldAddr 29 (Operand.tmp 1) 3, type := 0, pos := "l09_ledger.go:161", after := #[], guard := none }) (v := ?_) rfl (by kernel_rfl) (by kernel_rfl) (by kernel_rfl) (fun _ _ _ h => h) (Or.inl ⟨by rfl, ?_⟩) (by assumption) ?_
  rotate_left
  · (intro w hSw; (try dsimp only at hSw); go_simp) <;> with_reducible rfl
  try simp only [Act.put, List.setIfInBounds_toArray, List.set_cons_zero, List.set_cons_succ]
  refine wpAnyH_take (i := 10) (oi := { dst := some 16, op := Op.load 27 (Operand.tmp 15), type := 27, pos := "l09_ledger.go:161", after := #[{ on := 9, ground := Ground.data }], guard := none }) (v := ?_) rfl (by kernel_rfl) (by kernel_rfl) (by kernel_rfl) (fun _ _ _ h => h) (Or.inl ⟨by rfl, ?_⟩) (by assumption) ?_
  rotate_left
  · (intro w hSw; (try dsimp only at hSw); go_simp) <;> with_reducible rfl
  try simp only [Act.put, List.setIfInBounds_toArray, List.set_cons_zero, List.set_cons_succ]
  refine wpAnyH_take (i := 11) (oi := { dst := some 17, op := Op.call { callee := Callee.builtin Builtin.len, args := #[Operand.tmp 16], argTypes := #[27] }, type := 3, pos := "l09_ledger.go:161", after := #[{ on := 10, ground := Ground.data }], guard := none }) (v := ?_) rfl (by kernel_rfl) (by kernel_rfl) (by kernel_rfl) (fun _ _ _ h => h) (Or.inl ⟨by rfl, ?_⟩) (by assumption) ?_
  rotate_left
  · (intro w hSw; (try dsimp only at hSw); go_simp) <;> with_reducible rfl
  try simp only [Act.put, List.setIfInBounds_toArray, List.set_cons_zero, List.set_cons_succ]
  refine wpAnyH_ready (rs := [2]) (by kernel_rfl) (by simp) ?_
  refine AllReadyH.cons (o := { dst := some 8, op := Op.call { callee := Callee.value (Operand.func 36), args := #[Operand.tmp 7], argTypes := #[9] }, type := 9, pos := "l09_ledger.go:161", after := #[{ on := 1, ground := Ground.data }], guard := none }) rfl (fun K hK => ?_) AllReadyH.nil
  go_simp
  go_at_call 36
  refine (P1.out _).mono ?_
  rintro e q1 ⟨rfl, hq1⟩
  try go_wp2_with fail
  have hk1 := DBy.below (w := w) (a := a) (mo := mo) (sq := sq) (la := la) (ll := ll) (lc := lc) HS0.out hq1
  refine hK.out _ _ hk1 (fun _ => ?_)
  clear hK K
  try simp only [Act.put, List.setIfInBounds_toArray, List.set_cons_zero, List.set_cons_succ]
  refine wpAnyH_ready (rs := [5]) (by kernel_rfl) (by simp) ?_
  refine AllReadyH.cons (o := { dst := some 11, op := Op.call { callee := Callee.value (Operand.func 15), args := #[Operand.tmp 10], argTypes := #[2] }, type := 9, pos := "l09_ledger.go:161", after := #[{ on := 4, ground := Ground.data }, { on := 2, ground := Ground.chain }], guard := none }) rfl (fun K hK => ?_) AllReadyH.nil
  go_simp
  go_at_call 15
  refine (P2.out _).mono ?_
  rintro e q2 ⟨rfl, hq2⟩
  try go_wp2_with fail
  have hk2 := DBy.below (w := w) (a := a) (mo := mo) (sq := sq) (la := la) (ll := ll) (lc := lc) hk1 hq2
  refine hK.out _ _ hk2 (fun _ => ?_)
  clear hK K
  try simp only [Act.put, List.setIfInBounds_toArray, List.set_cons_zero, List.set_cons_succ]
  refine wpAnyH_ready (rs := [8]) (by kernel_rfl) (by simp) ?_
  refine AllReadyH.cons (o := { dst := some 14, op := Op.call { callee := Callee.value (Operand.func 15), args := #[Operand.tmp 13], argTypes := #[2] }, type := 9, pos := "l09_ledger.go:161", after := #[{ on := 7, ground := Ground.data }, { on := 5, ground := Ground.chain }], guard := none }) rfl (fun K hK => ?_) AllReadyH.nil
  go_simp
  go_at_call 15
  refine (P3.out _).mono ?_
  rintro e q3 ⟨rfl, hq3⟩
  try go_wp2_with fail
  have hk3 := DBy.below (w := w) (a := a) (mo := mo) (sq := sq) (la := la) (ll := ll) (lc := lc) hk2 hq3
  refine hK.out _ _ hk3 (fun _ => ?_)
  clear hK K
  try simp only [Act.put, List.setIfInBounds_toArray, List.set_cons_zero, List.set_cons_succ]
  refine wpAnyH_ready (rs := [12]) (by kernel_rfl) (by simp) ?_
  refine AllReadyH.cons (o := { dst := some 18, op := Op.call { callee := Callee.value (Operand.func 15), args := #[Operand.tmp 17], argTypes := #[2] }, type := 9, pos := "l09_ledger.go:161", after := #[{ on := 11, ground := Ground.data }, { on := 8, ground := Ground.chain }], guard := none }) rfl (fun K hK => ?_) AllReadyH.nil
  go_simp
  go_at_call 15
  refine (P4.out _).mono ?_
  rintro e q4 ⟨rfl, hq4⟩
  try go_wp2_with fail
  have hk4 := DBy.below (w := w) (a := a) (mo := mo) (sq := sq) (la := la) (ll := ll) (lc := lc) hk3 hq4
  refine hK.out _ _ hk4 (fun _ => ?_)
  clear hK K
  try simp only [Act.put, List.setIfInBounds_toArray, List.set_cons_zero, List.set_cons_succ]
  refine wpAnyH_ready (rs := [13]) (by kernel_rfl) (by simp) ?_
  refine AllReadyH.cons (o := { dst := some 19, op := Op.buildSlice 41 4 #[(0, Operand.tmp 8), (1, Operand.tmp 11), (2, Operand.tmp 14), (3, Operand.tmp 18)], type := 41, pos := "l09_ledger.go:161", after := #[{ on := 2, ground := Ground.data }, { on := 5, ground := Ground.data }, { on := 8, ground := Ground.data }, { on := 12, ground := Ground.data }], guard := none }) rfl (fun K hK => ?_) AllReadyH.nil
  go_simp
  try go_wp2_with fail
  have hk7 := DBy.below (w := w) (a := a) (mo := mo) (sq := sq) (la := la) (ll := ll) (lc := lc) hk4 ((Below.refl q4.heap.size q4).alloc (Nat.le_refl _) (Obj.cells #[Value.string T1, Value.string T2, Value.string T3, Value.string T4] 9))
  refine hK.out _ _ hk7 (fun _ => ?_)
  clear hK K
  try simp only [Act.put, List.setIfInBounds_toArray, List.set_cons_zero, List.set_cons_succ]
  refine wpAnyH_take (i := 14) (oi := { dst := some 3, op := Op.assign (Operand.tmp 19), type := 41, pos := "l09_ledger.go:161", after := #[{ on := 13, ground := Ground.data }, { on := 12, ground := Ground.chain }, { on := 0, ground := Ground.phase }, { on := 1, ground := Ground.phase }, { on := 2, ground := Ground.phase }, { on := 3, ground := Ground.phase }, { on := 4, ground := Ground.phase }, { on := 5, ground := Ground.phase }, { on := 6, ground := Ground.phase }, { on := 7, ground := Ground.phase }, { on := 8, ground := Ground.phase }, { on := 9, ground := Ground.phase }, { on := 10, ground := Ground.phase }, { on := 11, ground := Ground.phase }, { on := 12, ground := Ground.phase }, { on := 13, ground := Ground.phase }], guard := none }) (v := ?_) rfl (by kernel_rfl) (by kernel_rfl) (by kernel_rfl) (fun _ _ _ h => h) (Or.inl ⟨by rfl, ?_⟩) (by assumption) ?_
  rotate_left
  · (intro w hSw; (try dsimp only at hSw); go_simp) <;> with_reducible rfl
  try simp only [Act.put, List.setIfInBounds_toArray, List.set_cons_zero, List.set_cons_succ]
  refine wpAnyH_done (by kernel_rfl) ?_ _
  have HO0 : Hid ((q4.alloc (Obj.cells #[Value.string T1, Value.string T2, Value.string T3, Value.string T4] 9)).ownsRow (w.heap.size + 1) 9 1 (.slice (some ⟨q4.heap.size, 0, none⟩) 4 4) (4 + 2 * 0) ((Q 0).map Value.string)) := hid_intro (by
    have := hk4.2.1
    rw [HQ0.out]
    exact ⟨by simp, .inr ⟨q4.heap.size, 4, #[.string T1, .string T2, .string T3, .string T4], rfl, by omega, heap_alloc_new q4 _, by omega, by unfold maxLen; omega, by simp, by simp⟩⟩)
  have HB7 := hid_intro hk7.1
  have x3 := hk7.2.2.2.2.2
  have xl := hk7.2.1
  clear hk1 hk2 hk3 hk4 hk7 hq1 hq2 hq3 hq4 HS0
  obtain ⟨W7, hW7⟩ : ∃ W7, W7 = q4.alloc (Obj.cells #[Value.string T1, Value.string T2, Value.string T3, Value.string T4] 9) := ⟨_, rfl⟩
  rw [← hW7] at HO0 HB7 x3 xl ⊢
  clear hW7
  have HV0 : Hid ((.slice (some ⟨q4.heap.size, 0, none⟩) 4 4 : Value) ≠ .slice none 0 0) := hid_intro (by simp)
  go_wp2_with fail
  go_loopw [3, 23] (fun v z wx => ∃ (i : Nat), i ≤ ll ∧ z = .int .i64 i ∧ Hid (wx.ownsRow (w.heap.size + 1) 9 1 v (4 + 2 * i) ((Q i).map Value.string)) ∧ Hid (v ≠ .slice none 0 0) ∧ Hid (Below w.heap.size w wx)) (fun v z _ => ll - (intOf z).toNat)
  case atStart => exact ⟨0, by omega, rfl, HO0, HV0, HB7⟩
  case round =>
    clear HO0 HV0 HB7 xl x3
    obtain ⟨i, hi2, rfl, HO, HV, HB⟩ := hrel
    by_cases hlt3 : i < ll
    · have hlt2 : (i : Int) < (ll : Int) := by omega
      have hil : i < ls.length := by have := HLL.out; omega
      obtain ⟨b, off, rfl, hbl, c0, c1⟩ := (HL.out.below HB.out).at i hil
      have u1 := S9.out _ (getD_mem (z := N.zero) ls i hil)
      have HC1 := hid_intro (HQM.out i hlt3)
      generalize ls.getD i N.zero = Y at *
      obtain ⟨U, P⟩ := Y
      dsimp only at c0 c1 u1 HC1
      obtain ⟨u2, u3, u4⟩ := u1
      have Q1 := hid_intro (fun w => PutTextL.impl_text U w (by omega))
      have Q2 := hid_intro (fun w => NumR.impl_put P w (by omega))
      have HC1 : Hid (Q (i + 1) = Q i ++ [numB (U.size : Int) ++ U, numB P]) := HC1
      generalize numB (U.size : Int) ++ U = X1 at *
      generalize numB P = X2 at *
      clear u2 u3 u4
      have HAl : Hid (DocR.BM2 w wr.heap.size (.string U) (.int .i64 P) (wr.alloc (.cells #[.string U, .int .i64 P] 54))) := hid_intro ⟨HB.out.alloc HB.out.size _, by simp, by simp [go_sem], by simp [go_sem]⟩
      have HAd := hid_intro HAl.out.drew
      have HOA := hid_intro (DocR.own_drew (HO.out.alloc (.cells #[.string U, .int .i64 P] 54)))
      have sz1 : 4 + 2 * i + 2 ≤ maxLen := by unfold maxLen; omega
      have sz2 : (4 + 2 * i + 2) * 16 ≤ 140737488355328 := by omega
      have sz3 : 0 < 1 := by omega
      go_wp2_with fail
      go_region_held3 (fun W => Below w.heap.size w W ∧ wr.heap.size < W.heap.size ∧ W.cell? ⟨wr.heap.size, 0, none⟩ = some (.string U) ∧ W.cell? ⟨wr.heap.size, 1, none⟩ = some (.int .i64 P))
        (first | assumption | (exact HAl.out) | (exact HAd.out) | (exact DocR.BM2.below (w := w) (B := wr.heap.size) (by assumption) hb1) | (exact DocR.BM2.below (w := w) (B := wr.heap.size) (by assumption) hb2) | (exact DocR.BM2.below (w := w) (B := wr.heap.size) (by assumption) ((Below.refl _ _).alloc (Nat.le_refl _) _)) | (exact DocR.BM2.grown (w := w) (B := wr.heap.size) (by assumption) hgrow HO.out rfl (Nat.le_succ _)))
        (first | (go_at_call 36; refine (Q1.out _).mono ?_; rintro e w1 ⟨rfl, hb1⟩; have HO1 := hid_intro (own_below HOA.out hb1)) | (go_at_call 15; refine (Q2.out _).mono ?_; rintro e w2 ⟨rfl, hb2⟩; have HO2 := hid_intro (own_below HO1.out hb2)) | (refine DocR.step_append_own rfl _ _ 41 rfl (w.heap.size + 1) 9 i0 (.string ⟨#[]⟩) 1 16 Try.underlying41 hi hz0 hz1 hz2 rfl sz3 _ _ _ rfl (HO2.out.alloc _) ⟨w2.heap.size, 0, none⟩ 2 2 [.string X1, .string X2] rfl rfl (DocR.two_cells _ _ _ _) (DocR.two_one _ _) sz1 sz2 (own_base (HO2.out.alloc _) HV.out) ?_; intro v' w4 hown hgrow hne))
      rename_i hS
      have HS4 := hid_intro hS.1
      have HO4 : Hid (w4.ownsRow (w.heap.size + 1) 9 1 v' (4 + 2 * (i + 1)) ((Q (i + 1)).map Value.string)) := hid_intro (by
        rw [HC1.out, List.map_append, show 4 + 2 * (i + 1) = 4 + 2 * i + 2 by omega]
        exact hown)
      have HV4 : Hid (v' ≠ .slice none 0 0) := hid_intro (by first | exact hne | exact fun h => HV.out (hne.1 h).1)
      clear hown hgrow hne hS
      go_wp2_with fail
      go_roundw
      case rel => exact ⟨i + 1, by omega, by go_num, HO4, HV4, HS4⟩
      case measure => simp [intOf]; omega
    · obtain rfl : i = ll := by omega
      obtain ⟨q, cap', rfl, hg, hn, hcap, hcell⟩ := own_texts HO.out HV.out
      have hj2 := JoinR.join_len (Q i) q cap' _ (by omega) (by omega) hg hcell (by rw [jl_size]; have := HQS.out; omega)
      rw [hn] at hj2
      have HJ2 := hid_intro hj2
      clear hj2 hcell
      go_wp2_with fail
      refine HJ2.out.mono ?_
      rintro e w6 ⟨rfl, hb⟩
      have HB6 := hid_intro (HB.out.trans (hb.mono HB.out.size))
      clear hb
      go_wp2_with fail
      go_ret
      exact ⟨ret_str HRR.out.symm, HB6.out⟩
end LedR
end Go.Proofs.Ytbecgngmpjajaaa
namespace Go.Proofs.Ytbecgngmpjajaaa
open Go.ChangeShapes Go.WideShapes Go.ChangeAt Go.RowKit
set_option linter.unusedVariables false
namespace LedR
open LinR NetR DocR
open LtR (lt)
open RowG (Rws MadeG hid_intro getD_mem)
open NumR (numB)
open JoinR (joinB jl)
open CatR (Blk)
/-- The parts of a ledger, with so many documents; its bytes. -/
def lP (ds : List D) (k : Nat) : List ByteArray := [numB ds.length] ++ (ds.take k).map dBy
def lBy (ds : List D) : ByteArray := joinB (lP ds ds.length)
/-- Both answers. -/
def lbB (ds : List D) : ByteArray := bif lB ds then (bif decide ((lBy ds).size ≤ 8000) then lBy ds else ⟨#[]⟩) else ⟨#[]⟩
theorem lP_len (ds : List D) (k : Nat) (h : k ≤ ds.length) : (lP ds k).length = 1 + k := by
  unfold lP
  simp only [List.length_append, List.length_cons, List.length_nil, List.length_map, List.length_take]
  omega
theorem lP_more (ds : List D) (k : Nat) (h : k < ds.length) : lP ds (k + 1) = lP ds k ++ [dBy (ds.getD k D.zero)] := by
  unfold lP; rw [take_map ds dBy D.zero k h, ← List.append_assoc]
theorem dBy_le {x : D} (h : dB x = true) : (dBy x).size ≤ 1000 := bP_le h _ (Nat.le_refl _)
theorem lP_le {ds : List D} (h : LRight ds) (k : Nat) : (joinB (lP ds k)).size ≤ 40000 := by
  have h1 : ∀ y ∈ lP ds k, y.size ≤ 1000 := by
    intro y hy
    unfold lP at hy
    simp only [List.mem_append, List.mem_cons, List.not_mem_nil, or_false, List.mem_map] at hy
    rcases hy with rfl | ⟨d, hd, rfl⟩
    · have := num_le (n := (ds.length : Int)) (by omega) (by have := h.1; omega); omega
    · obtain ⟨i, hi, rfl⟩ := List.getElem_of_mem (List.mem_of_mem_take hd)
      have e : ds.getD i D.zero = ds[i] := by simp [List.getD, hi]
      have := (h.2.1 i hi).1
      rw [e] at this
      exact dBy_le this
  have h2 := join_size_le 1000 _ h1
  have h3 : (lP ds k).length ≤ 31 := by
    unfold lP
    simp only [List.length_append, List.length_cons, List.length_nil, List.length_map, List.length_take]
    have := h.1
    omega
  have := Nat.mul_le_mul_right 1000 h3
  omega
set_option maxRecDepth 100000 in
set_option maxHeartbeats 8000000 in
theorem impl_lb (ao : Option Addr) (cap : Nat) (ds : List D) (w : World) (hlen : ds.length ≤ 1048576) (hSm : ∀ d ∈ ds, d.Sm) (hwf : ∀ d ∈ ds, (Lit.int .i64 d.mo).wf = true) (hI : Dcs ao ds w) :
    Calls Try.prog 5 #[.slice ao ds.length cap] w fun e w' => e = .returned (.string (lbB ds)) ∧ Below w.heap.size w w' := by
  have H1 := hid_intro (impl_ledger ao cap ds w hlen hSm hwf hI)
  obtain ⟨i0, hi, hz0, hz1, hz2⟩ := info_parts infoS
  have HI := hid_intro hI
  have HT : Hid (lbB ds = bif lB ds then (bif decide ((lBy ds).size ≤ 8000) then lBy ds else ⟨#[]⟩) else ⟨#[]⟩) := rfl
  have HLR := hid_intro (fun h : lB ds = true => lB_iff.1 h)
  have HQM := hid_intro (fun k (h : k < ds.length) => lP_more ds k h)
  have HQS := hid_intro (fun h : LRight ds => lP_le h ds.length)
  have HQ0 : Hid (lP ds 0 = [numB (ds.length : Int)]) := hid_intro (by simp [lP])
  have HLB : Hid (lBy ds = joinB (lP ds ds.length)) := rfl
  have HDO := hid_intro (fun (h : LRight ds) i (hi : i < ds.length) => (h.2.1 i hi).1)
  have HD30 := hid_intro (fun (h : LRight ds) => h.1)
  generalize lP ds = Q at *
  generalize lBy ds = LB at *
  generalize lbB ds = T at *
  generalize lB ds = r at *
  obtain ⟨len, hl⟩ : ∃ len, len = ds.length := ⟨_, rfl⟩
  rw [← hl] at H1 HQM HQS HQ0 HLB HDO HD30 ⊢
  have HL := hid_intro hl
  clear hI hSm hwf hl hlen
  go_enter Try.func5, Try.ntmps5
  go_wp2_with fail
  refine H1.out.mono ?_
  rintro e w1 ⟨rfl, hb⟩
  have HB1 := hid_intro hb
  clear hb
  cases r
  · go_wp2_with fail
    go_ret
    exact ⟨ret_str (by rw [HT.out]; rfl), HB1.out⟩
  · have HR := hid_intro (HLR.out rfl)
    have h30 := HD30.out HR.out
    have P1 := hid_intro (fun w => NumR.impl_put (len : Int) w (by omega))
    generalize numB (len : Int) = T1 at *
    go_wp2_with fail
    refine (P1.out _).mono ?_
    rintro e w2 ⟨rfl, hb2⟩
    have HB2 := hid_intro (HB1.out.trans (hb2.mono HB1.out.size))
    clear hb2
    have HO0 : Hid ((w2.alloc (Obj.cells #[Value.string T1] 9)).ownsRow w.heap.size 9 1 (.slice (some ⟨w2.heap.size, 0, none⟩) 1 1) (1 + 0) ((Q 0).map Value.string)) := hid_intro (by
      rw [HQ0.out]
      exact ⟨by simp, .inr ⟨w2.heap.size, 1, #[.string T1], rfl, HB2.out.size, heap_alloc_new w2 _, by omega, by unfold maxLen; omega, by simp, by simp⟩⟩)
    have HB3 := hid_intro (HB2.out.alloc HB2.out.size (Obj.cells #[Value.string T1] 9))
    obtain ⟨W3, hW3⟩ : ∃ W3, W3 = w2.alloc (Obj.cells #[Value.string T1] 9) := ⟨_, rfl⟩
    rw [← hW3] at HO0 HB3
    have HW3 := hid_intro hW3
    clear hW3
    go_wp2_with fail
    rw [← HW3.out]
    go_loopw [3, 16] (fun v z wr => ∃ (j : Nat), j ≤ len ∧ z = .int .i64 j ∧ Hid (wr.ownsRow w.heap.size 9 1 v (1 + j) ((Q j).map Value.string)) ∧ Hid (v ≠ .slice none 0 0) ∧ Hid (Below w.heap.size w wr)) (fun v z _ => len - (intOf z).toNat)
    case atStart => exact ⟨0, by omega, rfl, HO0, hid_intro (by simp), HB3⟩
    case round =>
      clear HO0 HB3 HB2 HB1 HW3
      obtain ⟨j, hj, rfl, HO, HV, HB⟩ := hrel
      by_cases hlt : j < len
      · have hlt2 : (j : Int) < (len : Int) := by omega
        have hjl : j < ds.length := by have := HL.out; omega
        obtain ⟨b, off, la, lc, rfl, hbl, c0, c1, c2, c3, hLi⟩ := (HI.out.below HB.out).at j hjl
        have HDB := hid_intro (fun W (hW : Below wr.heap.size wr W) => idoc (ds.getD j D.zero) la lc W (HDO.out HR.out j hlt) (hLi.below hW))
        have HC1 := hid_intro (HQM.out j hlt)
        clear hLi
        generalize dBy (ds.getD j D.zero) = G at *
        generalize ds.getD j D.zero = X at *
        obtain ⟨xa, xm, xs, xl⟩ := X
        dsimp only at c0 c1 c2 c3 HDB
        generalize xl.length = ll at *
        go_wp2_with fail
        refine (HDB.out _ ((Below.refl _ _).alloc (Nat.le_refl _) _)).mono ?_
        rintro e w4 ⟨rfl, hb4⟩
        have HBR := hid_intro (bel_alloc hb4)
        have HO4 := hid_intro (own_below HO.out HBR.out)
        have HW4 := hid_intro (HB.out.trans (HBR.out.mono HB.out.size))
        clear hb4 c0 c1 c2 c3
        go_wp2_with (at_builtin; refine wpList_append_own _ rfl _ _ 41 rfl w.heap.size 9 i0 (.string ⟨#[]⟩) 1 16 Try.underlying41 hi hz0 hz1 hz2 rfl (by decide) _ _ _ rfl (HO4.out.alloc _) ⟨w4.heap.size, 0, none⟩ 1 1 [.string G] rfl rfl (DocR.one_cell _ _ _) (DocR.one_one _) ?d3 ?d4 ?d5 ?_)
        case d3 => unfold maxLen; omega
        case d4 => omega
        case d5 => have h1 := HW4.out.size; simp; omega
        intro v' w5 hown hgrow hne
        have HO5 : Hid (w5.ownsRow w.heap.size 9 1 v' (1 + (j + 1)) ((Q (j + 1)).map Value.string)) := hid_intro (by rw [HC1.out, List.map_append, ← Nat.add_assoc]; exact hown)
        have HV5 : Hid (v' ≠ .slice none 0 0) := hid_intro (by first | exact hne | exact fun h => HV.out (hne.1 h).1)
        have HB5 : Hid (Below w.heap.size w w5) := hid_intro ((HW4.out.alloc HW4.out.size _).grown hgrow (HW4.out.alloc HW4.out.size _).size (fun k e => by have := (HO.out.lt k e).1; omega))
        clear hown hgrow hne
        go_wp2_with fail
        go_roundw
        case rel => exact ⟨j + 1, by omega, by go_num, HO5, HV5, HB5⟩
        case measure => simp [intOf]; omega
      · obtain rfl : j = len := by omega
        obtain ⟨q, cap', rfl, hg, hn, hcap, hcell⟩ := own_texts HO.out HV.out
        have hqs := HQS.out HR.out
        have hj2 := JoinR.join_len (Q j) q cap' _ (by omega) (by omega) hg hcell (by rw [jl_size]; omega)
        rw [hn] at hj2
        have HJ2 := hid_intro hj2
        rw [← HLB.out] at HJ2
        clear hj2 hcell
        have hls : LB.size ≤ 40000 := by rw [HLB.out]; exact hqs
        go_wp2_with fail
        refine HJ2.out.mono ?_
        rintro e w6 ⟨rfl, hb⟩
        have HB6 := hid_intro (HB.out.trans (hb.mono HB.out.size))
        clear hb
        by_cases hz : LB.size ≤ 8000
        · have hz2 : ¬ (8000 : Int) < (LB.size : Int) := by omega
          go_wp2_with fail
          go_ret
          exact ⟨ret_str (by rw [HT.out, decide_eq_true hz]; rfl), HB6.out⟩
        · have hz2 : (8000 : Int) < (LB.size : Int) := by omega
          go_wp2_with fail
          go_ret
          exact ⟨ret_str (by rw [HT.out, decide_eq_false hz]; rfl), HB6.out⟩
/-- A document's own block, as the regions read it. -/
def DBz (w : World) (B : Nat) (a : ByteArray) (mo sq : Int) (la : Option Addr) (ll lc : Nat) (W : World) : Prop := Below w.heap.size w W ∧ B < W.heap.size ∧ W.cell? ⟨B, 0, none⟩ = some (.string a) ∧ W.cell? ⟨B, 1, none⟩ = some (.int .i64 mo) ∧ W.cell? ⟨B, 2, none⟩ = some (.int .i64 sq) ∧ W.cell? ⟨B, 3, none⟩ = some (.slice la ll lc)
theorem DBz.below {w : World} {B : Nat} {a : ByteArray} {mo sq : Int} {la : Option Addr} {ll lc : Nat} {W W' : World} (h : DBz w B a mo sq la ll lc W) (hb : Below W.heap.size W W') : DBz w B a mo sq la ll lc W' := by
  obtain ⟨h0, h1, c0, c1, c2, c3⟩ := h
  have c := fun o => hb.cell (p := ⟨B, o, none⟩) h1
  have := hb.size
  exact ⟨h0.trans (hb.mono h0.size), by omega, (c 0).trans c0, (c 1).trans c1, (c 2).trans c2, (c 3).trans c3⟩
/-- What is held while a line of a list is put: the list's own cell, and the line's two. -/
def BU (w : World) (B : Nat) (x : Value) (b f : Nat) (a0 a1 : Value) (W : World) : Prop := Below w.heap.size w W ∧ B < W.heap.size ∧ b < W.heap.size ∧ W.cell? ⟨B, 3, none⟩ = some x ∧ W.cell? ⟨b, f, none⟩ = some a0 ∧ W.cell? ⟨b, f + 1, none⟩ = some a1
theorem BU.below {w : World} {B : Nat} {x : Value} {b f : Nat} {a0 a1 : Value} {W W' : World} (h : BU w B x b f a0 a1 W) (hb : Below W.heap.size W W') : BU w B x b f a0 a1 W' := by
  obtain ⟨h0, l1, l2, p0, p1, p2⟩ := h
  have g1 := fun o => hb.cell (p := ⟨B, o, none⟩) l1
  have g2 := fun o => hb.cell (p := ⟨b, o, none⟩) l2
  have hs := hb.size
  exact ⟨h0.trans (hb.mono h0.size), by omega, by omega, (g1 _).trans p0, (g2 _).trans p1, (g2 _).trans p2⟩
theorem app_four (T a b c d : ByteArray) : T ++ a ++ b ++ c ++ d = T ++ joinB [a, b, c, d] := by
  rw [show [a, b, c, d] = [a, b] ++ [c, d] from rfl, joinB_app, joinB_two, joinB_two]
  simp only [ByteArray.append_assoc]
theorem app_in (T X a b : ByteArray) (l : List ByteArray) (h : X = T ++ joinB l) : X ++ a ++ b = T ++ joinB (l ++ [a, b]) := by
  rw [joinB_app, joinB_two, h, ByteArray.append_assoc, ByteArray.append_assoc]
set_option maxRecDepth 100000 in
set_option maxHeartbeats 16000000 in
theorem spec_lb (ao : Option Addr) (cap : Nat) (ds : List D) (w : World) (hlen : ds.length ≤ 1048576) (hSm : ∀ d ∈ ds, d.Sm) (hI : Dcs ao ds w) :
    Calls Try.prog 8 #[.slice ao ds.length cap] w fun e w' => e = .returned (.string (lbB ds)) ∧ Below w.heap.size w w' := by
  have H1 := hid_intro (spec_ledger ao cap ds w hlen hSm hI)
  have HI := hid_intro hI
  have HT : Hid (lbB ds = bif lB ds then (bif decide ((lBy ds).size ≤ 8000) then lBy ds else ⟨#[]⟩) else ⟨#[]⟩) := rfl
  have HLR := hid_intro (fun h : lB ds = true => lB_iff.1 h)
  have HLA : Hid (400 < ds.length → lB ds = false) := hid_intro (fun h => lB_no (fun hr => by have := hr.1; omega))
  have HQM : Hid (∀ k, k < ds.length → joinB (lP ds (k + 1)) = joinB (lP ds k) ++ dBy (ds.getD k D.zero)) := hid_intro (fun k h => by rw [lP_more ds k h, joinB_app, joinB_one])
  have HQS := hid_intro (fun (h : LRight ds) k => lP_le h k)
  have HQ0 : Hid (joinB (lP ds 0) = numB (ds.length : Int)) := hid_intro (by simp [lP, joinB_one])
  have HLB : Hid (lBy ds = joinB (lP ds ds.length)) := rfl
  have HDO := hid_intro (fun (h : LRight ds) i (hi : i < ds.length) => (h.2.1 i hi).1)
  have HD30 := hid_intro (fun (h : LRight ds) => h.1)
  obtain ⟨J, hJ⟩ : ∃ J : Nat → ByteArray, ∀ k, J k = joinB (lP ds k) := ⟨_, fun _ => rfl⟩
  have HQM : Hid (∀ k, k < ds.length → J (k + 1) = J k ++ dBy (ds.getD k D.zero)) := hid_intro (fun k h => by rw [hJ, hJ]; exact HQM.out k h)
  have HQS : Hid (∀ (h : LRight ds) k, (J k).size ≤ 40000) := hid_intro (fun h k => by rw [hJ]; exact HQS.out h k)
  have HQ0 : Hid (J 0 = numB (ds.length : Int)) := hid_intro (by rw [hJ]; exact HQ0.out)
  have HLB : Hid (lBy ds = J ds.length) := hid_intro (by rw [hJ]; exact HLB.out)
  clear hJ
  generalize lBy ds = LB at *
  generalize lbB ds = T at *
  generalize lB ds = r at *
  obtain ⟨len, hl⟩ : ∃ len, len = ds.length := ⟨_, rfl⟩
  rw [← hl] at H1 HQM HQ0 HLB HDO HD30 HLA ⊢
  have HL := hid_intro hl
  clear hI hSm hl hlen
  by_cases qa : 400 < len
  · have qa2 : (400 : Int) < (len : Int) := by omega
    have HE : Hid (T = ⟨#[]⟩) := hid_intro (by rw [HT.out, HLA.out qa]; rfl)
    go_enter Try.func8, Try.ntmps8
    go_wp2_with fail
    go_ret
    exact ⟨ret_str HE.out.symm, Below.refl _ _⟩
  have qa2 : ¬ (400 : Int) < (len : Int) := by omega
  cases r
  · have HE : Hid (T = ⟨#[]⟩) := HT
    go_enter Try.func8, Try.ntmps8
    go_wp2_with fail
    refine H1.out.mono ?_
    rintro e w1 ⟨rfl, hb⟩
    have HB1 := hid_intro hb
    clear hb
    go_wp2_with fail
    go_ret
    exact ⟨ret_str HE.out.symm, HB1.out⟩
  have HR := hid_intro (HLR.out rfl)
  have h30 := HD30.out HR.out
  have P1 := hid_intro (fun w => NumR.spec_put (len : Int) w (by omega))
  generalize numB (len : Int) = T1 at *
  go_enter Try.func8, Try.ntmps8
  go_wp2_with fail
  refine H1.out.mono ?_
  rintro e w1 ⟨rfl, hb⟩
  have HB1 := hid_intro hb
  clear hb
  go_wp2_with fail
  refine (P1.out _).mono ?_
  rintro e w2 ⟨rfl, hb2⟩
  have HB2 := hid_intro (HB1.out.trans (hb2.mono HB1.out.size))
  clear hb2
  go_wp2_with fail
  go_loopw [3, 4] (fun x z wr => ∃ (j : Nat) (Y : ByteArray), j ≤ len ∧ x = .string Y ∧ z = .int .i64 j ∧ Hid (Y = J j) ∧ Hid (Below w.heap.size w wr)) (fun x z _ => len - (intOf z).toNat)
  case atStart => exact ⟨0, T1, by omega, rfl, rfl, hid_intro HQ0.out.symm, HB2⟩
  case round =>
    clear HB2 HB1
    obtain ⟨j, Y, hj, rfl, rfl, HY, HB⟩ := hrel
    have hYs : Y.size ≤ 40000 := by rw [HY.out]; exact HQS.out HR.out j
    by_cases hlt : j < len
    · obtain ⟨Wo, hWo⟩ : ∃ Wo, Wo = wr := ⟨_, rfl⟩
      subst hWo
      have hlt2 : (j : Int) < (len : Int) := by omega
      have hjl : j < ds.length := by have := HL.out; omega
      obtain ⟨b, off, la, lc, rfl, hbl, c0, c1, c2, c3, hLi⟩ := HI.out.at j hjl
      have hcl := fun x => HB.out.cell (p := ⟨b, x, none⟩) hbl
      replace c0 := (hcl _).trans c0
      replace c1 := (hcl _).trans c1
      replace c2 := (hcl _).trans c2
      replace c3 := (hcl _).trans c3
      replace hbl : b < Wo.heap.size := by have := HB.out.size; omega
      clear hcl
      have hdb := HDO.out HR.out j hlt
      have HC1 := hid_intro (HQM.out j hlt)
      generalize ds.getD j D.zero = X at *
      obtain ⟨b1, b2, b3, b4, b5⟩ := doc_bd hdb
      have HQM2 := hid_intro (fun k (h : k < X.ls.length) => bP_more X k h)
      have HQS2 := hid_intro (fun k (h : k ≤ X.ls.length) => bP_le hdb k h)
      have HRR2 : Hid (dBy X = joinB (bP X X.ls.length)) := rfl
      have HQ02 : Hid (bP X 0 = [txB X.a, numB X.mo, numB X.sq, numB X.ls.length]) := hid_intro (by simp [bP])
      generalize bP X = Q at *
      generalize dBy X = G at *
      obtain ⟨a, mo, sq, ls⟩ := X
      dsimp only at *
      have HLi := hid_intro hLi
      have S9 := hid_intro b5
      have S1 := hid_intro (fun w => PutTextL.spec_text a w (by omega))
      have S2 := hid_intro (fun w => NumR.spec_put mo w (by omega))
      have S3 := hid_intro (fun w => NumR.spec_put sq w (by omega))
      obtain ⟨ll, hll⟩ : ∃ ll, ll = ls.length := ⟨_, rfl⟩
      rw [← hll] at b4 HQM2 HQS2 HRR2 HQ02 c3
      have HLL := hid_intro hll
      have S4 := hid_intro (fun w => NumR.spec_put ((ll : Nat) : Int) w (by omega))
      have z1 : (txB a).size ≤ 40 := txt_le b1
      have z2 : (numB mo).size ≤ 40 := num_le (by omega) (by omega)
      have z3 : (numB sq).size ≤ 40 := num_le (by omega) (by omega)
      have z4 : (numB ((ll : Nat) : Int)).size ≤ 40 := num_le (by omega) (by omega)
      have HQ02 : Hid (Q 0 = [numB (a.size : Int) ++ a, numB mo, numB sq, numB (ll : Int)]) := HQ02
      have z1 : (numB (a.size : Int) ++ a).size ≤ 40 := z1
      clear hLi b5 hll hdb b1 b2 b3
      generalize numB (a.size : Int) ++ a = X1 at *
      generalize numB mo = X2 at *
      generalize numB sq = X3 at *
      generalize numB (ll : Int) = X4 at *
      have v1 : ¬ 9223372036854775807 < Y.size + X1.size := by omega
      have v2 : ¬ 9223372036854775807 < Y.size + X1.size + X2.size := by omega
      have v3 : ¬ 9223372036854775807 < Y.size + X1.size + X2.size + X3.size := by omega
      have v4 : ¬ 9223372036854775807 < Y.size + X1.size + X2.size + X3.size + X4.size := by omega
      have HS0 : Hid (DBz w Wo.heap.size a mo sq la ll lc (Wo.alloc (.cells #[.string a, .int .i64 mo, .int .i64 sq, .slice la ll lc] 29)).drew) := hid_intro ⟨((HB.out).alloc HB.out.size _).drew, by simp, by simp [go_sem], by simp [go_sem], by simp [go_sem], by simp [go_sem]⟩
      go_wp2_with fail
      refine wp_region_held_drew (S := (fun W => Below w.heap.size w W ∧ Wo.heap.size < W.heap.size ∧ W.cell? ⟨Wo.heap.size, 0, none⟩ = some (.string a) ∧ W.cell? ⟨Wo.heap.size, 1, none⟩ = some (.int .i64 mo) ∧ W.cell? ⟨Wo.heap.size, 2, none⟩ = some (.int .i64 sq) ∧ W.cell? ⟨Wo.heap.size, 3, none⟩ = some (.slice la ll lc))) (by kernel_rfl) HS0.out (fun hHeld => ?_)
      refine wpAnyH_take (i := 0) (oi := { dst := some 28, op := Op.move (Operand.tmp 3), type := 9, pos := "l09_ledger.go:179", after := #[], guard := none }) (v := ?_) rfl (by kernel_rfl) (by kernel_rfl) (by kernel_rfl) (fun _ _ _ h => h) (Or.inl ⟨by rfl, ?_⟩) (by assumption) ?_
      rotate_left
      · (intro w hSw; (try dsimp only at hSw); go_simp) <;> with_reducible rfl
      try simp only [Act.put, List.setIfInBounds_toArray, List.set_cons_zero, List.set_cons_succ]
      refine wpAnyH_take (i := 1) (oi := { dst := some 29, op := Op.fieldAddr 29 (Operand.tmp 5) 0, type := 0, pos := "l09_ledger.go:179", after := #[], guard := none }) (v := ?_) rfl (by kernel_rfl) (by kernel_rfl) (by kernel_rfl) (fun _ _ _ h => h) (Or.inl ⟨by rfl, ?_⟩) (by assumption) ?_
      rotate_left
      · (intro w hSw; (try dsimp only at hSw); go_simp) <;> with_reducible rfl
      try simp only [Act.put, List.setIfInBounds_toArray, List.set_cons_zero, List.set_cons_succ]
      refine wpAnyH_take (i := 2) (oi := { dst := some 30, op := Op.load 9 (Operand.tmp 29), type := 9, pos := "l09_ledger.go:179", after := #[{ on := 1, ground := Ground.data }], guard := none }) (v := ?_) rfl (by kernel_rfl) (by kernel_rfl) (by kernel_rfl) (fun _ _ _ h => h) (Or.inl ⟨by rfl, ?_⟩) (by assumption) ?_
      rotate_left
      · (intro w hSw; (try dsimp only at hSw); go_simp) <;> with_reducible rfl
      try simp only [Act.put, List.setIfInBounds_toArray, List.set_cons_zero, List.set_cons_succ]
      refine wpAnyH_take (i := 5) (oi := { dst := some 33, op := Op.fieldAddr 29 (Operand.tmp 5) 1, type := 0, pos := "l09_ledger.go:179", after := #[], guard := none }) (v := ?_) rfl (by kernel_rfl) (by kernel_rfl) (by kernel_rfl) (fun _ _ _ h => h) (Or.inl ⟨by rfl, ?_⟩) (by assumption) ?_
      rotate_left
      · (intro w hSw; (try dsimp only at hSw); go_simp) <;> with_reducible rfl
      try simp only [Act.put, List.setIfInBounds_toArray, List.set_cons_zero, List.set_cons_succ]
      refine wpAnyH_take (i := 6) (oi := { dst := some 34, op := Op.load 2 (Operand.tmp 33), type := 2, pos := "l09_ledger.go:179", after := #[{ on := 5, ground := Ground.data }], guard := none }) (v := ?_) rfl (by kernel_rfl) (by kernel_rfl) (by kernel_rfl) (fun _ _ _ h => h) (Or.inl ⟨by rfl, ?_⟩) (by assumption) ?_
      rotate_left
      · (intro w hSw; (try dsimp only at hSw); go_simp) <;> with_reducible rfl
      try simp only [Act.put, List.setIfInBounds_toArray, List.set_cons_zero, List.set_cons_succ]
      refine wpAnyH_take (i := 9) (oi := { dst := some 37, op := Op.fieldAddr 29 (Operand.tmp 5) 2, type := 0, pos := "l09_ledger.go:179", after := #[], guard := none }) (v := ?_) rfl (by kernel_rfl) (by kernel_rfl) (by kernel_rfl) (fun _ _ _ h => h) (Or.inl ⟨by rfl, ?_⟩) (by assumption) ?_
      rotate_left
      · (intro w hSw; (try dsimp only at hSw); go_simp) <;> with_reducible rfl
      try simp only [Act.put, List.setIfInBounds_toArray, List.set_cons_zero, List.set_cons_succ]
      refine wpAnyH_take (i := 10) (oi := { dst := some 38, op := Op.load 2 (Operand.tmp 37), type := 2, pos := "l09_ledger.go:179", after := #[{ on := 9, ground := Ground.data }], guard := none }) (v := ?_) rfl (by kernel_rfl) (by kernel_rfl) (by kernel_rfl) (fun _ _ _ h => h) (Or.inl ⟨by rfl, ?_⟩) (by assumption) ?_
      rotate_left
      · (intro w hSw; (try dsimp only at hSw); go_simp) <;> with_reducible rfl
      try simp only [Act.put, List.setIfInBounds_toArray, List.set_cons_zero, List.set_cons_succ]
      refine wpAnyH_take (i := 13) (oi := { dst := some 41, op := Op.fieldAddr 29 (Operand.tmp 5) 3, type := 0, pos := "l09_ledger.go:179", after := #[], guard := none }) (v := ?_) rfl (by kernel_rfl) (by kernel_rfl) (by kernel_rfl) (fun _ _ _ h => h) (Or.inl ⟨by rfl, ?_⟩) (by assumption) ?_
      rotate_left
      · (intro w hSw; (try dsimp only at hSw); go_simp) <;> with_reducible rfl
      try simp only [Act.put, List.setIfInBounds_toArray, List.set_cons_zero, List.set_cons_succ]
      refine wpAnyH_take (i := 14) (oi := { dst := some 42, op := Op.load 27 (Operand.tmp 41), type := 27, pos := "l09_ledger.go:179", after := #[{ on := 13, ground := Ground.data }], guard := none }) (v := ?_) rfl (by kernel_rfl) (by kernel_rfl) (by kernel_rfl) (fun _ _ _ h => h) (Or.inl ⟨by rfl, ?_⟩) (by assumption) ?_
      rotate_left
      · (intro w hSw; (try dsimp only at hSw); go_simp) <;> with_reducible rfl
      try simp only [Act.put, List.setIfInBounds_toArray, List.set_cons_zero, List.set_cons_succ]
      refine wpAnyH_take (i := 15) (oi := { dst := some 43, op := Op.call { callee := Callee.builtin Builtin.len, args := #[Operand.tmp 42], argTypes := #[27] }, type := 3, pos := "l09_ledger.go:179", after := #[{ on := 14, ground := Ground.data }], guard := none }) (v := ?_) rfl (by kernel_rfl) (by kernel_rfl) (by kernel_rfl) (fun _ _ _ h => h) (Or.inl ⟨by rfl, ?_⟩) (by assumption) ?_
      rotate_left
      · (intro w hSw; (try dsimp only at hSw); go_simp) <;> with_reducible rfl
      try simp only [Act.put, List.setIfInBounds_toArray, List.set_cons_zero, List.set_cons_succ]
      refine wpAnyH_ready (rs := [3]) (by kernel_rfl) (by simp) ?_
      refine AllReadyH.cons (o := { dst := some 31, op := Op.call { callee := Callee.value (Operand.func 25), args := #[Operand.tmp 30], argTypes := #[9] }, type := 9, pos := "l09_ledger.go:179", after := #[{ on := 2, ground := Ground.data }], guard := none }) rfl (fun K hK => ?_) AllReadyH.nil
      go_simp
      go_at_call 25
      refine (S1.out _).mono ?_
      rintro e q1 ⟨rfl, hq1⟩
      try go_wp2_with fail
      have hk1 := DBz.below (w := w) (B := Wo.heap.size) (a := a) (mo := mo) (sq := sq) (la := la) (ll := ll) (lc := lc) HS0.out hq1
      refine hK.out _ _ hk1 (fun _ => ?_)
      clear hK K
      try simp only [Act.put, List.setIfInBounds_toArray, List.set_cons_zero, List.set_cons_succ]
      refine wpAnyH_take (i := 4) (oi := { dst := some 32, op := Op.binOp BinOp.add 9 (Operand.tmp 28) (Operand.tmp 31) 9, type := 9, pos := "l09_ledger.go:179", after := #[{ on := 0, ground := Ground.data }, { on := 3, ground := Ground.data }], guard := none }) (v := ?_) rfl (by kernel_rfl) (by kernel_rfl) (by kernel_rfl) (fun _ _ _ h => h) (Or.inl ⟨by rfl, ?_⟩) (by assumption) ?_
      rotate_left
      · (intro w hSw; (try dsimp only at hSw); go_simp) <;> with_reducible rfl
      try simp only [Act.put, List.setIfInBounds_toArray, List.set_cons_zero, List.set_cons_succ]
      refine wpAnyH_ready (rs := [7]) (by kernel_rfl) (by simp) ?_
      refine AllReadyH.cons (o := { dst := some 35, op := Op.call { callee := Callee.value (Operand.func 24), args := #[Operand.tmp 34], argTypes := #[2] }, type := 9, pos := "l09_ledger.go:179", after := #[{ on := 6, ground := Ground.data }, { on := 3, ground := Ground.chain }], guard := none }) rfl (fun K hK => ?_) AllReadyH.nil
      go_simp
      go_at_call 24
      refine (S2.out _).mono ?_
      rintro e q2 ⟨rfl, hq2⟩
      try go_wp2_with fail
      have hk2 := DBz.below (w := w) (B := Wo.heap.size) (a := a) (mo := mo) (sq := sq) (la := la) (ll := ll) (lc := lc) hk1 hq2
      refine hK.out _ _ hk2 (fun _ => ?_)
      clear hK K
      try simp only [Act.put, List.setIfInBounds_toArray, List.set_cons_zero, List.set_cons_succ]
      refine wpAnyH_take (i := 8) (oi := { dst := some 36, op := Op.binOp BinOp.add 9 (Operand.tmp 32) (Operand.tmp 35) 9, type := 9, pos := "l09_ledger.go:179", after := #[{ on := 4, ground := Ground.data }, { on := 7, ground := Ground.data }], guard := none }) (v := ?_) rfl (by kernel_rfl) (by kernel_rfl) (by kernel_rfl) (fun _ _ _ h => h) (Or.inl ⟨by rfl, ?_⟩) (by assumption) ?_
      rotate_left
      · (intro w hSw; (try dsimp only at hSw); go_simp) <;> with_reducible rfl
      try simp only [Act.put, List.setIfInBounds_toArray, List.set_cons_zero, List.set_cons_succ]
      refine wpAnyH_ready (rs := [11]) (by kernel_rfl) (by simp) ?_
      refine AllReadyH.cons (o := { dst := some 39, op := Op.call { callee := Callee.value (Operand.func 24), args := #[Operand.tmp 38], argTypes := #[2] }, type := 9, pos := "l09_ledger.go:179", after := #[{ on := 10, ground := Ground.data }, { on := 7, ground := Ground.chain }], guard := none }) rfl (fun K hK => ?_) AllReadyH.nil
      go_simp
      go_at_call 24
      refine (S3.out _).mono ?_
      rintro e q3 ⟨rfl, hq3⟩
      try go_wp2_with fail
      have hk3 := DBz.below (w := w) (B := Wo.heap.size) (a := a) (mo := mo) (sq := sq) (la := la) (ll := ll) (lc := lc) hk2 hq3
      refine hK.out _ _ hk3 (fun _ => ?_)
      clear hK K
      try simp only [Act.put, List.setIfInBounds_toArray, List.set_cons_zero, List.set_cons_succ]
      refine wpAnyH_take (i := 12) (oi := { dst := some 40, op := Op.binOp BinOp.add 9 (Operand.tmp 36) (Operand.tmp 39) 9, type := 9, pos := "l09_ledger.go:179", after := #[{ on := 8, ground := Ground.data }, { on := 11, ground := Ground.data }], guard := none }) (v := ?_) rfl (by kernel_rfl) (by kernel_rfl) (by kernel_rfl) (fun _ _ _ h => h) (Or.inl ⟨by rfl, ?_⟩) (by assumption) ?_
      rotate_left
      · (intro w hSw; (try dsimp only at hSw); go_simp) <;> with_reducible rfl
      try simp only [Act.put, List.setIfInBounds_toArray, List.set_cons_zero, List.set_cons_succ]
      refine wpAnyH_ready (rs := [16]) (by kernel_rfl) (by simp) ?_
      refine AllReadyH.cons (o := { dst := some 44, op := Op.call { callee := Callee.value (Operand.func 24), args := #[Operand.tmp 43], argTypes := #[2] }, type := 9, pos := "l09_ledger.go:179", after := #[{ on := 15, ground := Ground.data }, { on := 11, ground := Ground.chain }], guard := none }) rfl (fun K hK => ?_) AllReadyH.nil
      go_simp
      go_at_call 24
      refine (S4.out _).mono ?_
      rintro e q4 ⟨rfl, hq4⟩
      try go_wp2_with fail
      have hk4 := DBz.below (w := w) (B := Wo.heap.size) (a := a) (mo := mo) (sq := sq) (la := la) (ll := ll) (lc := lc) hk3 hq4
      refine hK.out _ _ hk4 (fun _ => ?_)
      clear hK K
      try simp only [Act.put, List.setIfInBounds_toArray, List.set_cons_zero, List.set_cons_succ]
      refine wpAnyH_take (i := 17) (oi := { dst := some 45, op := Op.binOp BinOp.add 9 (Operand.tmp 40) (Operand.tmp 44) 9, type := 9, pos := "l09_ledger.go:179", after := #[{ on := 12, ground := Ground.data }, { on := 16, ground := Ground.data }], guard := none }) (v := ?_) rfl (by kernel_rfl) (by kernel_rfl) (by kernel_rfl) (fun _ _ _ h => h) (Or.inl ⟨by rfl, ?_⟩) (by assumption) ?_
      rotate_left
      · (intro w hSw; (try dsimp only at hSw); go_simp) <;> with_reducible rfl
      try simp only [Act.put, List.setIfInBounds_toArray, List.set_cons_zero, List.set_cons_succ]
      refine wpAnyH_take (i := 18) (oi := { dst := some 3, op := Op.assign (Operand.tmp 45), type := 9, pos := "l09_ledger.go:179", after := #[{ on := 17, ground := Ground.data }, { on := 16, ground := Ground.chain }, { on := 0, ground := Ground.phase }, { on := 1, ground := Ground.phase }, { on := 2, ground := Ground.phase }, { on := 3, ground := Ground.phase }, { on := 4, ground := Ground.phase }, { on := 5, ground := Ground.phase }, { on := 6, ground := Ground.phase }, { on := 7, ground := Ground.phase }, { on := 8, ground := Ground.phase }, { on := 9, ground := Ground.phase }, { on := 10, ground := Ground.phase }, { on := 11, ground := Ground.phase }, { on := 12, ground := Ground.phase }, { on := 13, ground := Ground.phase }, { on := 14, ground := Ground.phase }, { on := 15, ground := Ground.phase }, { on := 16, ground := Ground.phase }, { on := 17, ground := Ground.phase }], guard := none }) (v := ?_) rfl (by kernel_rfl) (by kernel_rfl) (by kernel_rfl) (fun _ _ _ h => h) (Or.inl ⟨by rfl, ?_⟩) (by assumption) ?_
      rotate_left
      · (intro w hSw; (try dsimp only at hSw); go_simp) <;> with_reducible rfl
      try simp only [Act.put, List.setIfInBounds_toArray, List.set_cons_zero, List.set_cons_succ]
      refine wpAnyH_done (by kernel_rfl) ?_ _
      have HB1 := hid_intro hk4.1
      have HX1 := hid_intro hk4
      clear hk1 hk2 hk3 hk4 hq1 hq2 hq3 hq4 HS0 v1 v2 v3 v4
      have HI0 : Hid (Y ++ X1 ++ X2 ++ X3 ++ X4 = Y ++ joinB (Q 0)) := hid_intro (by rw [HQ02.out]; exact app_four _ _ _ _ _)
      have hz5 : (Y ++ X1 ++ X2 ++ X3 ++ X4).size ≤ 41000 := by simp only [ByteArray.size_append]; omega
      obtain ⟨B, hB⟩ : ∃ B, B = Wo.heap.size := ⟨_, rfl⟩
      rw [← hB] at HX1 ⊢
      generalize Y ++ X1 ++ X2 ++ X3 ++ X4 = Z0 at *
      clear hB HQ02 z1 z2 z3 z4 c0 c1 c2 c3
      have x3 := HX1.out.2.2.2.2.2
      have xl := HX1.out.2.1
      go_wp2_with fail
      go_loopw [3, 6] (fun x z wx => ∃ (i : Nat) (Z : ByteArray), i ≤ ll ∧ x = .string Z ∧ z = .int .i64 i ∧ Hid (Z = Y ++ joinB (Q i)) ∧ Hid (Below w.heap.size w wx) ∧ Hid (DBz w B a mo sq la ll lc wx)) (fun x z _ => ll - (intOf z).toNat)
      case atStart => exact ⟨0, Z0, by omega, rfl, rfl, HI0, HB1, HX1⟩
      case round =>
        clear HB1 HX1 HI0 xl x3 hz5
        obtain ⟨i, Z, hi2, rfl, rfl, HZ, HBx, HXd⟩ := hrel
        have x3 := HXd.out.2.2.2.2.2
        have xl := HXd.out.2.1
        have hZs : Z.size ≤ 42000 := by rw [HZ.out, ByteArray.size_append]; have := HQS2.out i hi2; omega
        by_cases hlt3 : i < ll
        · have hlt4 : (i : Int) < (ll : Int) := by omega
          have hil : i < ls.length := by have := HLL.out; omega
          obtain ⟨b2, off2, rfl, hbl2, d0, d1⟩ := (HLi.out.below HBx.out).at i hil
          have u1 := S9.out _ (getD_mem (z := N.zero) ls i hil)
          have HC2 := hid_intro (HQM2.out i hlt3)
          generalize ls.getD i N.zero = V at *
          obtain ⟨U, P⟩ := V
          dsimp only at d0 d1 u1 HC2
          obtain ⟨u2, u3, u4⟩ := u1
          have Q1 := hid_intro (fun w => PutTextL.spec_text U w (by omega))
          have Q2 := hid_intro (fun w => NumR.spec_put P w (by omega))
          have HC2 : Hid (Q (i + 1) = Q i ++ [numB (U.size : Int) ++ U, numB P]) := HC2
          have y1 : (numB (U.size : Int) ++ U).size ≤ 40 := txt_le u2
          have y2 : (numB P).size ≤ 40 := num_le u3 u4
          generalize numB (U.size : Int) ++ U = X5 at *
          generalize numB P = X6 at *
          clear u2 u3 u4
          have v1 : ¬ 9223372036854775807 < Z.size + X5.size := by omega
          have v2 : ¬ 9223372036854775807 < Z.size + X5.size + X6.size := by omega
          have HXr : Hid (DBz w B a mo sq (some ⟨b2, off2, none⟩) ll lc wr.drew) := hid_intro ⟨HXd.out.1.drew, HXd.out.2⟩
          have HU0 : Hid (BU w B (.slice (some ⟨b2, off2, none⟩) ll lc) b2 (off2 + i * 2) (.string U) (.int .i64 P) wr.drew) := hid_intro ⟨HBx.out.drew, xl, hbl2, x3, d0, d1⟩
          go_wp2_with fail
          refine wp_region_held_drew (S := (fun W => Below w.heap.size w W ∧ B < W.heap.size ∧ b2 < W.heap.size ∧ W.cell? ⟨B, 3, none⟩ = some (.slice (some ⟨b2, off2, none⟩) ll lc) ∧ W.cell? ⟨b2, off2 + i * 2, none⟩ = some (.string U) ∧ W.cell? ⟨b2, off2 + i * 2 + 1, none⟩ = some (.int .i64 P))) (by kernel_rfl) HU0.out (fun hHeld => ?_)
          refine wpAnyH_take (i := 0) (oi := { dst := some 53, op := Op.move (Operand.tmp 3), type := 9, pos := "l09_ledger.go:181", after := #[], guard := none }) (v := ?_) rfl (by kernel_rfl) (by kernel_rfl) (by kernel_rfl) (fun _ _ _ h => h) (Or.inl ⟨by rfl, ?_⟩) (by assumption) ?_
          rotate_left
          · (intro w hSw; (try dsimp only at hSw); go_simp) <;> with_reducible rfl
          try simp only [Act.put, List.setIfInBounds_toArray, List.set_cons_zero, List.set_cons_succ]
          refine wpAnyH_take (i := 1) (oi := { dst := some 54, op := Op.fieldAddr 29 (Operand.tmp 5) 3, type := 0, pos := "l09_ledger.go:181", after := #[], guard := none }) (v := ?_) rfl (by kernel_rfl) (by kernel_rfl) (by kernel_rfl) (fun _ _ _ h => h) (Or.inl ⟨by rfl, ?_⟩) (by assumption) ?_
          rotate_left
          · (intro w hSw; (try dsimp only at hSw); go_simp) <;> with_reducible rfl
          try simp only [Act.put, List.setIfInBounds_toArray, List.set_cons_zero, List.set_cons_succ]
          refine wpAnyH_take (i := 2) (oi := { dst := some 55, op := Op.load 27 (Operand.tmp 54), type := 27, pos := "l09_ledger.go:181", after := #[{ on := 1, ground := Ground.data }], guard := none }) (v := ?_) rfl (by kernel_rfl) (by kernel_rfl) (by kernel_rfl) (fun _ _ _ h => h) (Or.inl ⟨by rfl, ?_⟩) (by assumption) ?_
          rotate_left
          · (intro w hSw; (try dsimp only at hSw); go_simp) <;> with_reducible rfl
          try simp only [Act.put, List.setIfInBounds_toArray, List.set_cons_zero, List.set_cons_succ]
          refine wpAnyH_take (i := 3) (oi := { dst := some 56, op := Op.move (Operand.tmp 6), type := 3, pos := "l09_ledger.go:181", after := #[], guard := none }) (v := ?_) rfl (by kernel_rfl) (by kernel_rfl) (by kernel_rfl) (fun _ _ _ h => h) (Or.inl ⟨by rfl, ?_⟩) (by assumption) ?_
          rotate_left
          · (intro w hSw; (try dsimp only at hSw); go_simp) <;> with_reducible rfl
          try simp only [Act.put, List.setIfInBounds_toArray, List.set_cons_zero, List.set_cons_succ]
          refine wpAnyH_take (i := 4) (oi := { dst := some 57, op := Op.indexAddr 27 (Operand.tmp 55) (Operand.tmp 56), type := 0, pos := "l09_ledger.go:181", after := #[{ on := 2, ground := Ground.data }, { on := 3, ground := Ground.data }], guard := none }) (v := ?_) rfl (by kernel_rfl) (by kernel_rfl) (by kernel_rfl) (fun _ _ _ h => h) (Or.inl ⟨by rfl, ?_⟩) (by assumption) ?_
          rotate_left
          · (intro w hSw; (try dsimp only at hSw); go_simp) <;> with_reducible rfl
          try simp only [Act.put, List.setIfInBounds_toArray, List.set_cons_zero, List.set_cons_succ]
          refine wpAnyH_take (i := 5) (oi := { dst := some 58, op := Op.fieldAddr 54 (Operand.tmp 57) 0, type := 0, pos := "l09_ledger.go:181", after := #[{ on := 4, ground := Ground.data }], guard := none }) (v := ?_) rfl (by kernel_rfl) (by kernel_rfl) (by kernel_rfl) (fun _ _ _ h => h) (Or.inl ⟨by rfl, ?_⟩) (by assumption) ?_
          rotate_left
          · (intro w hSw; (try dsimp only at hSw); go_simp) <;> with_reducible rfl
          try simp only [Act.put, List.setIfInBounds_toArray, List.set_cons_zero, List.set_cons_succ]
          refine wpAnyH_take (i := 6) (oi := { dst := some 59, op := Op.load 9 (Operand.tmp 58), type := 9, pos := "l09_ledger.go:181", after := #[{ on := 5, ground := Ground.data }], guard := none }) (v := ?_) rfl (by kernel_rfl) (by kernel_rfl) (by kernel_rfl) (fun _ _ _ h => h) (Or.inl ⟨by rfl, ?_⟩) (by assumption) ?_
          rotate_left
          · (intro w hSw; (try dsimp only at hSw); go_simp) <;> with_reducible rfl
          try simp only [Act.put, List.setIfInBounds_toArray, List.set_cons_zero, List.set_cons_succ]
          refine wpAnyH_take (i := 9) (oi := { dst := some 62, op := Op.fieldAddr 29 (Operand.tmp 5) 3, type := 0, pos := "l09_ledger.go:181", after := #[], guard := none }) (v := ?_) rfl (by kernel_rfl) (by kernel_rfl) (by kernel_rfl) (fun _ _ _ h => h) (Or.inl ⟨by rfl, ?_⟩) (by assumption) ?_
          rotate_left
          · (intro w hSw; (try dsimp only at hSw); go_simp) <;> with_reducible rfl
          try simp only [Act.put, List.setIfInBounds_toArray, List.set_cons_zero, List.set_cons_succ]
          refine wpAnyH_take (i := 10) (oi := { dst := some 63, op := Op.load 27 (Operand.tmp 62), type := 27, pos := "l09_ledger.go:181", after := #[{ on := 9, ground := Ground.data }], guard := none }) (v := ?_) rfl (by kernel_rfl) (by kernel_rfl) (by kernel_rfl) (fun _ _ _ h => h) (Or.inl ⟨by rfl, ?_⟩) (by assumption) ?_
          rotate_left
          · (intro w hSw; (try dsimp only at hSw); go_simp) <;> with_reducible rfl
          try simp only [Act.put, List.setIfInBounds_toArray, List.set_cons_zero, List.set_cons_succ]
          refine wpAnyH_take (i := 11) (oi := { dst := some 64, op := Op.move (Operand.tmp 6), type := 3, pos := "l09_ledger.go:181", after := #[], guard := none }) (v := ?_) rfl (by kernel_rfl) (by kernel_rfl) (by kernel_rfl) (fun _ _ _ h => h) (Or.inl ⟨by rfl, ?_⟩) (by assumption) ?_
          rotate_left
          · (intro w hSw; (try dsimp only at hSw); go_simp) <;> with_reducible rfl
          try simp only [Act.put, List.setIfInBounds_toArray, List.set_cons_zero, List.set_cons_succ]
          refine wpAnyH_take (i := 12) (oi := { dst := some 65, op := Op.indexAddr 27 (Operand.tmp 63) (Operand.tmp 64), type := 0, pos := "l09_ledger.go:181", after := #[{ on := 10, ground := Ground.data }, { on := 11, ground := Ground.data }], guard := none }) (v := ?_) rfl (by kernel_rfl) (by kernel_rfl) (by kernel_rfl) (fun _ _ _ h => h) (Or.inl ⟨by rfl, ?_⟩) (by assumption) ?_
          rotate_left
          · (intro w hSw; (try dsimp only at hSw); go_simp) <;> with_reducible rfl
          try simp only [Act.put, List.setIfInBounds_toArray, List.set_cons_zero, List.set_cons_succ]
          refine wpAnyH_take (i := 13) (oi := { dst := some 66, op := Op.fieldAddr 54 (Operand.tmp 65) 1, type := 0, pos := "l09_ledger.go:181", after := #[{ on := 12, ground := Ground.data }], guard := none }) (v := ?_) rfl (by kernel_rfl) (by kernel_rfl) (by kernel_rfl) (fun _ _ _ h => h) (Or.inl ⟨by rfl, ?_⟩) (by assumption) ?_
          rotate_left
          · (intro w hSw; (try dsimp only at hSw); go_simp) <;> with_reducible rfl
          try simp only [Act.put, List.setIfInBounds_toArray, List.set_cons_zero, List.set_cons_succ]
          refine wpAnyH_take (i := 14) (oi := { dst := some 67, op := Op.load 2 (Operand.tmp 66), type := 2, pos := "l09_ledger.go:181", after := #[{ on := 13, ground := Ground.data }], guard := none }) (v := ?_) rfl (by kernel_rfl) (by kernel_rfl) (by kernel_rfl) (fun _ _ _ h => h) (Or.inl ⟨by rfl, ?_⟩) (by assumption) ?_
          rotate_left
          · (intro w hSw; (try dsimp only at hSw); go_simp) <;> with_reducible rfl
          try simp only [Act.put, List.setIfInBounds_toArray, List.set_cons_zero, List.set_cons_succ]
          refine wpAnyH_ready (rs := [7]) (by kernel_rfl) (by simp) ?_
          refine AllReadyH.cons (o := { dst := some 60, op := Op.call { callee := Callee.value (Operand.func 25), args := #[Operand.tmp 59], argTypes := #[9] }, type := 9, pos := "l09_ledger.go:181", after := #[{ on := 6, ground := Ground.data }], guard := none }) rfl (fun K hK => ?_) AllReadyH.nil
          go_simp
          go_at_call 25
          refine (Q1.out _).mono ?_
          rintro e q1 ⟨rfl, hq1⟩
          try go_wp2_with fail
          have hk1 := BU.below (w := w) (B := B) (x := .slice (some ⟨b2, off2, none⟩) ll lc) (b := b2) (f := off2 + i * 2) (a0 := .string U) (a1 := .int .i64 P) HU0.out hq1
          refine hK.out _ _ hk1 (fun _ => ?_)
          clear hK K
          try simp only [Act.put, List.setIfInBounds_toArray, List.set_cons_zero, List.set_cons_succ]
          refine wpAnyH_take (i := 8) (oi := { dst := some 61, op := Op.binOp BinOp.add 9 (Operand.tmp 53) (Operand.tmp 60) 9, type := 9, pos := "l09_ledger.go:181", after := #[{ on := 0, ground := Ground.data }, { on := 7, ground := Ground.data }], guard := none }) (v := ?_) rfl (by kernel_rfl) (by kernel_rfl) (by kernel_rfl) (fun _ _ _ h => h) (Or.inl ⟨by rfl, ?_⟩) (by assumption) ?_
          rotate_left
          · (intro w hSw; (try dsimp only at hSw); go_simp) <;> with_reducible rfl
          try simp only [Act.put, List.setIfInBounds_toArray, List.set_cons_zero, List.set_cons_succ]
          refine wpAnyH_ready (rs := [15]) (by kernel_rfl) (by simp) ?_
          refine AllReadyH.cons (o := { dst := some 68, op := Op.call { callee := Callee.value (Operand.func 24), args := #[Operand.tmp 67], argTypes := #[2] }, type := 9, pos := "l09_ledger.go:181", after := #[{ on := 14, ground := Ground.data }, { on := 7, ground := Ground.chain }], guard := none }) rfl (fun K hK => ?_) AllReadyH.nil
          go_simp
          go_at_call 24
          refine (Q2.out _).mono ?_
          rintro e q2 ⟨rfl, hq2⟩
          try go_wp2_with fail
          have hk2 := BU.below (w := w) (B := B) (x := .slice (some ⟨b2, off2, none⟩) ll lc) (b := b2) (f := off2 + i * 2) (a0 := .string U) (a1 := .int .i64 P) hk1 hq2
          refine hK.out _ _ hk2 (fun _ => ?_)
          clear hK K
          try simp only [Act.put, List.setIfInBounds_toArray, List.set_cons_zero, List.set_cons_succ]
          refine wpAnyH_take (i := 16) (oi := { dst := some 69, op := Op.binOp BinOp.add 9 (Operand.tmp 61) (Operand.tmp 68) 9, type := 9, pos := "l09_ledger.go:181", after := #[{ on := 8, ground := Ground.data }, { on := 15, ground := Ground.data }], guard := none }) (v := ?_) rfl (by kernel_rfl) (by kernel_rfl) (by kernel_rfl) (fun _ _ _ h => h) (Or.inl ⟨by rfl, ?_⟩) (by assumption) ?_
          rotate_left
          · (intro w hSw; (try dsimp only at hSw); go_simp) <;> with_reducible rfl
          try simp only [Act.put, List.setIfInBounds_toArray, List.set_cons_zero, List.set_cons_succ]
          refine wpAnyH_take (i := 17) (oi := { dst := some 3, op := Op.assign (Operand.tmp 69), type := 9, pos := "l09_ledger.go:181", after := #[{ on := 16, ground := Ground.data }, { on := 15, ground := Ground.chain }, { on := 0, ground := Ground.phase }, { on := 1, ground := Ground.phase }, { on := 2, ground := Ground.phase }, { on := 3, ground := Ground.phase }, { on := 4, ground := Ground.phase }, { on := 5, ground := Ground.phase }, { on := 6, ground := Ground.phase }, { on := 7, ground := Ground.phase }, { on := 8, ground := Ground.phase }, { on := 9, ground := Ground.phase }, { on := 10, ground := Ground.phase }, { on := 11, ground := Ground.phase }, { on := 12, ground := Ground.phase }, { on := 13, ground := Ground.phase }, { on := 14, ground := Ground.phase }, { on := 15, ground := Ground.phase }, { on := 16, ground := Ground.phase }], guard := none }) (v := ?_) rfl (by kernel_rfl) (by kernel_rfl) (by kernel_rfl) (fun _ _ _ h => h) (Or.inl ⟨by rfl, ?_⟩) (by assumption) ?_
          rotate_left
          · (intro w hSw; (try dsimp only at hSw); go_simp) <;> with_reducible rfl
          try simp only [Act.put, List.setIfInBounds_toArray, List.set_cons_zero, List.set_cons_succ]
          refine wpAnyH_done (by kernel_rfl) ?_ _
          have HB4 := hid_intro hk2.1
          have HX4 := hid_intro (DBz.below (w := w) (B := B) (a := a) (mo := mo) (sq := sq) (la := some ⟨b2, off2, none⟩) (ll := ll) (lc := lc) (HXr.out.below hq1) hq2)
          clear hk1 hk2 hq1 hq2 HU0
          go_wp2_with fail
          go_roundw
          case rel => exact ⟨i + 1, Z ++ X5 ++ X6, by omega, rfl, by go_num, hid_intro (by rw [HC2.out]; exact app_in _ _ _ _ _ HZ.out), HB4, HX4⟩
          case measure => simp [intOf]; omega
        · have hlt4 : ¬ (i : Int) < (ll : Int) := by omega
          obtain rfl : i = ll := by omega
          have HZJ : Hid (Z = J (j + 1)) := hid_intro (by rw [HC1.out, HZ.out, HRR2.out, HY.out])
          go_wp2_with fail
          go_roundw
          case rel => exact ⟨j + 1, Z, by omega, rfl, by go_num, HZJ, HBx⟩
          case measure => simp [intOf]; omega
    · have hlt2 : ¬ (j : Int) < (len : Int) := by omega
      obtain rfl : j = len := by omega
      obtain rfl : Y = LB := by rw [HY.out, HLB.out]
      by_cases hz : Y.size ≤ 8000
      · have hz2 : ¬ (8000 : Int) < (Y.size : Int) := by omega
        go_wp2_with fail
        go_ret
        exact ⟨ret_str (by rw [HT.out, decide_eq_true hz]; rfl), HB.out⟩
      · have hz2 : (8000 : Int) < (Y.size : Int) := by omega
        go_wp2_with fail
        go_ret
        exact ⟨ret_str (by rw [HT.out, decide_eq_false hz]; rfl), HB.out⟩
end LedR
end Go.Proofs.Ytbecgngmpjajaaa
namespace Go.Proofs.Ytbecgngmpjajaaa
open Go.ChangeShapes Go.WideShapes Go.ChangeAt Go.RowKit
set_option linter.unusedVariables false
namespace DrawR
open LinR RowG NetR LedR DocR
theorem below_at {w w1 w2 : World} (hb : Below w.heap.size w w1) {x : Nat} (hg : w1.grownBy w2 (some x)) (hx : w.heap.size ≤ x) : Below w.heap.size w w2 :=
  hb.grown hg hb.size (fun k e => by cases e; exact hx)
def DcsOut (w : World) (e : Ending) (w' : World) : Prop := (∃ (ds : List D) (da : Option Addr) (dc : Nat), e = .returned (.slice da ds.length dc) ∧ ds.length ≤ 40 ∧ (∀ d ∈ ds, DOk d) ∧ Dcs da ds w') ∧ Below w.heap.size w w'
theorem gself (w : World) (row : Option Nat) : w.grownBy w row := OwG.rgrownO (Below.refl _ _) row
set_option maxRecDepth 100000 in
set_option maxHeartbeats 4000000 in
theorem dlb_any (ao : Option Addr) (len cap : Nat) (w : World) (hlen : len ≤ 1048576) (hB : Bytes ao len w) :
    Calls Try.prog 4 #[.slice ao len cap] w fun e w' => DcsOut w e w' := by
  have h1 := hid_intro (source_any ao len cap w hlen hB)
  clear hB
  go_enter Try.func4, Try.ntmps4
  go_wp2_with fail
  refine h1.out.mono ?_
  rintro e w1 ⟨rfl, hS1, hb1⟩
  have HS1 := hid_intro hS1
  have HB1 := hid_intro hb1
  clear hS1 hb1
  go_wp2_with fail
  refine (docs_any ao len cap w.heap.size _ HS1.out).mono ?_
  rintro e w2 ⟨⟨ds, da, dc, rfl, hl, hok, hd, hpl⟩, hS2, hg2⟩
  have HB2 := hid_intro (below_at HB1.out hg2 (Nat.le_refl _))
  have HOK := hid_intro hok
  have HD := hid_intro (hd _ (gself _ _))
  have HLN := hid_intro hl
  clear hS2 hg2 hok hd hl hpl
  go_wp2_with fail
  go_ret
  exact ⟨⟨ds, da, dc, rfl, HLN.out, HOK.out, HD.out⟩, HB2.out⟩
def DTOut (w : World) (e : Ending) (w' : World) : Prop := (∃ t : ByteArray, e = .returned (.string t) ∧ t.size ≤ 1048576) ∧ Below w.heap.size w w'
theorem lbB_size (ds : List D) : (lbB ds).size ≤ 8000 := by
  unfold lbB
  cases lB ds
  · exact Nat.zero_le _
  · cases h : decide ((lBy ds).size ≤ 8000)
    · exact Nat.zero_le _
    · exact of_decide_eq_true h
set_option maxRecDepth 100000 in
set_option maxHeartbeats 4000000 in
theorem dlr_any (ao : Option Addr) (len cap : Nat) (w : World) (hlen : len ≤ 1048576) (hB : Bytes ao len w) :
    Calls Try.prog 6 #[.slice ao len cap] w fun e w' => DTOut w e w' := by
  have h1 := hid_intro (source_any ao len cap w hlen hB)
  clear hB
  go_enter Try.func6, Try.ntmps6
  go_wp2_with fail
  refine h1.out.mono ?_
  rintro e w1 ⟨rfl, hS1, hb1⟩
  have HS1 := hid_intro hS1
  have HB1 := hid_intro hb1
  clear hS1 hb1
  go_wp2_with fail
  refine (docs_any ao len cap w.heap.size _ HS1.out).mono ?_
  rintro e w2 ⟨⟨ds, da, dc, rfl, hl, hok, hd, hpl⟩, hS2, hg2⟩
  have HB2 := hid_intro (below_at HB1.out hg2 (Nat.le_refl _))
  have HS2 := hid_intro hS2
  have HT := hid_intro (spec_lb da dc ds w2 (by omega) (fun d h => (hok d h).sm) (hd _ (gself _ _)))
  have hz := lbB_size ds
  generalize lbB ds = T at *
  generalize ds.length = nd at *
  clear hS2 hg2 hok hd hl hpl
  go_wp2_with fail
  refine HT.out.mono ?_
  rintro e w3 ⟨rfl, hb3⟩
  have HB3 := hid_intro (HB2.out.trans (hb3.mono HB2.out.size))
  have HS3 := hid_intro (HS2.out.kept (OwG.rgrownO hb3 none) (fun k e => by cases e))
  clear hb3 HT
  go_wp2_with fail
  refine (n_any ao len cap w.heap.size 4 _ (by omega) HS3.out).mono ?_
  rintro e w4 ⟨v4, rfl, lo4, _, hi4, hS, hg⟩
  have ht4 : v4 < 4 := hi4 (by omega)
  have HS4 := hid_intro hS
  have HB4 := hid_intro (below_at HB3.out hg (Nat.le_refl _))
  clear hS hg hi4
  rcases (show v4 = 0 ∨ v4 = 1 ∨ (¬ v4 = 0 ∧ ¬ v4 = 1) by omega) with rfl | rfl | ⟨n0, n1⟩
  · go_wp2_with fail
    refine (spoil_any ao len cap w.heap.size T _ (by omega) HS4.out).mono ?_
    rintro e w5 ⟨⟨t5, rfl, ht5⟩, hS, hg⟩
    have HB5 := hid_intro (below_at HB4.out hg (Nat.le_refl _))
    have H5 := hid_intro ht5
    clear hS hg ht5
    go_wp2_with fail
    go_ret
    exact ⟨⟨t5, rfl, by have := H5.out; omega⟩, HB5.out⟩
  · go_wp2_with fail
    refine (n_any ao len cap w.heap.size ((T.size : Int) + 1) _ (by omega) HS4.out).mono ?_
    rintro e w5 ⟨v5, rfl, lo5, h51, hi5, hS, hg⟩
    have v3 : v5 ≤ T.size := by
      by_cases h : 1 < (T.size : Int) + 1
      · have := hi5 h; omega
      · have := h51 (by omega); omega
    obtain ⟨k, rfl⟩ : ∃ k : Nat, v5 = k := ⟨v5.toNat, by omega⟩
    have hk : k ≤ T.size := by omega
    have HB5 := hid_intro (below_at HB4.out hg (Nat.le_refl _))
    clear hS hg h51 hi5
    go_wp2_with fail
    go_ret
    exact ⟨⟨_, rfl, by rw [ByteArray.size_extract]; omega⟩, HB5.out⟩
  · go_wp2_with fail
    go_ret
    exact ⟨⟨T, rfl, by omega⟩, HB4.out⟩
end DrawR
end Go.Proofs.Ytbecgngmpjajaaa
