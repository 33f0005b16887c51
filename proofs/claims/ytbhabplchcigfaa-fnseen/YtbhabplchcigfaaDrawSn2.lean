/-
  What DrawSeenTake, DrawSeenDrop and DrawSeenHas hand back. The condition: the bytes are at most 1048576.
-/
import Derived.Test.YtbhabplchcigfaaDrawSn
namespace Go.Proofs.Ytbhabplchcigfaa
open Go.ChangeShapes Go.WideShapes Go.ChangeAt Go.RowKit
set_option linter.unusedVariables false
namespace DrawR
open RowG SeenR LtR
open EvtR (ev)
theorem below_own {w w1 w2 : World} (hb : Below w.heap.size w w1) (hg : w1.grownBy w2 (some w.heap.size)) : Below w.heap.size w w2 :=
  hb.grown hg hb.size (fun k e => by cases e; exact Nat.le_refl _)
/-- A list of entries that was drawn. -/
def SnL (es : List N) (v : Value) (W : World) : Prop := es.length ≤ 60 ∧ (∀ e ∈ es, e.i.size ≤ 100) ∧ ∃ b c, v = .slice (some ⟨b, 0, none⟩) es.length c ∧ es.length ≤ c ∧ c ≤ maxLen ∧ Ens (some ⟨b, 0, none⟩) es W
theorem Sn.l {ao : Option Addr} {len cap g : Nat} {w : World} {es : List N} {v : Value} {W : World} (h : Sn ao len cap g w es v W) (hl : es.length ≤ 60) : SnL es v W := by
  obtain ⟨b, c, h1, _, h2, h3, h4⟩ := h.shape
  exact ⟨hl, h.2.2.2.2, b, c, h1, h2, h3, h4⟩
def HasOut (w : World) (e : Ending) (w' : World) : Prop := (∃ (es : List N) (v : Value) (id : ByteArray), e = .returned (.tuple #[v, .string id]) ∧ id.size ≤ 100 ∧ SnL es v w') ∧ Below w.heap.size w w'
def DropOut (w : World) (e : Ending) (w' : World) : Prop := (∃ (es : List N) (v : Value) (x : Int), e = .returned (.tuple #[v, .int .i64 x]) ∧ SnL es v w') ∧ Below w.heap.size w w'
def TakeOut (w : World) (e : Ending) (w' : World) : Prop := (∃ (es : List N) (v : Value) (i a m : ByteArray) (n k : Int) (t : ByteArray), e = .returned (.tuple #[v, ev i a m n k t]) ∧ i.size ≤ 100 ∧ a.size ≤ 100 ∧ m.size ≤ 100 ∧ t.size ≤ 100 ∧ SnL es v w') ∧ Below w.heap.size w w'
set_option maxRecDepth 100000 in
set_option maxHeartbeats 4000000 in
theorem dhas_any (ao : Option Addr) (len cap : Nat) (w : World) (hlen : len ≤ 1048576) (hB : Bytes ao len w) :
    Calls Try.prog 8 #[.slice ao len cap] w fun e w' => HasOut w e w' := by
  have h1 := source_any ao len cap w hlen hB
  clear hB
  go_enter Try.func8, Try.ntmps8
  go_wp2_with fail
  refine h1.mono ?_
  rintro e w1 ⟨rfl, hS1, hb1⟩
  have HB1 := hid_intro hb1
  have HL := hid_intro hS1.lt
  have HS1 := hid_intro hS1
  clear hS1 hb1 h1
  go_wp2_with fail
  refine (seen_any ao len cap w.heap.size _ HS1.out).mono ?_
  rintro e w2 ⟨es, v, rfl, hl, hN⟩
  have HN := hid_intro hN
  have HZ := hid_intro (Nat.lt_of_lt_of_le HL.out hN.2.1.size)
  clear hN
  go_wp2_with fail
  have HS3 := hid_intro (HN.out.1.alloc (.cells (List.map Value.string [⟨#[101, 49]⟩, ⟨#[101, 50]⟩, ⟨#[101, 51]⟩, ⟨#[122, 122]⟩]).toArray 9))
  have HT3 := hid_intro (strs_new w2 [⟨#[101, 49]⟩, ⟨#[101, 50]⟩, ⟨#[101, 51]⟩, ⟨#[122, 122]⟩] 100 9 (by decide))
  refine (pick_any ao len cap w.heap.size w2.heap.size 4 100 _ (by omega) (by omega) (by have := HZ.out; omega) HS3.out HT3.out).mono ?_
  rintro e w4 ⟨⟨t4, rfl, ht4⟩, hS, hg⟩
  replace HN := hid_intro ((HN.out.below ((Below.refl _ _).alloc (Nat.le_refl _) (.cells (List.map Value.string [⟨#[101, 49]⟩, ⟨#[101, 50]⟩, ⟨#[101, 51]⟩, ⟨#[122, 122]⟩]).toArray 9))).step HL.out hS hg)
  clear hS hg HS3 HT3
  go_wp2_with fail
  go_ret2
  exact ⟨⟨es, v, t4, rfl, ht4, HN.out.l hl⟩, below_own HB1.out HN.out.2.1⟩
set_option maxRecDepth 100000 in
set_option maxHeartbeats 4000000 in
theorem ddrop_any (ao : Option Addr) (len cap : Nat) (w : World) (hlen : len ≤ 1048576) (hB : Bytes ao len w) :
    Calls Try.prog 6 #[.slice ao len cap] w fun e w' => DropOut w e w' := by
  have h1 := source_any ao len cap w hlen hB
  clear hB
  go_enter Try.func6, Try.ntmps6
  go_wp2_with fail
  refine h1.mono ?_
  rintro e w1 ⟨rfl, hS1, hb1⟩
  have HB1 := hid_intro hb1
  have HL := hid_intro hS1.lt
  have HS1 := hid_intro hS1
  clear hS1 hb1 h1
  go_wp2_with fail
  refine (seen_any ao len cap w.heap.size _ HS1.out).mono ?_
  rintro e w2 ⟨es, v, rfl, hl, hN⟩
  have HN := hid_intro hN
  clear hN
  go_wp2_with fail
  refine (one_any ao len cap w.heap.size 8 _ (by omega) HN.out.1).mono ?_
  rintro e w3 ⟨⟨q, rfl⟩, hS, hg⟩
  replace HN := hid_intro (HN.out.step HL.out hS hg)
  clear hS hg
  cases q
  · go_wp2_with fail
    refine (start_any _).mono ?_
    rintro e w4 ⟨⟨v4, rfl⟩, hb4⟩
    replace HN := hid_intro (HN.out.below hb4)
    clear hb4
    go_wp2_with fail
    refine (n_any ao len cap w.heap.size 60000 _ (by omega) HN.out.1).mono ?_
    rintro e w5 ⟨v5, rfl, lo5, _, hi5, hS, hg⟩
    replace HN := hid_intro (HN.out.step HL.out hS hg)
    clear hS hg
    go_wp2_with fail
    go_ret2
    exact ⟨⟨es, v, _, rfl, HN.out.l hl⟩, below_own HB1.out HN.out.2.1⟩
  · go_wp2_with fail
    refine (edge_any ao len cap w.heap.size _ HN.out.1).mono ?_
    rintro e w4 ⟨⟨v4, rfl, _⟩, hS, hg⟩
    replace HN := hid_intro (HN.out.step HL.out hS hg)
    clear hS hg
    go_wp2_with fail
    go_ret2
    exact ⟨⟨es, v, _, rfl, HN.out.l hl⟩, below_own HB1.out HN.out.2.1⟩
theorem own_l {W : World} {base : Nat} {es : List N} {v : Value} (ho : W.ownsRow base 40 3 v es.length (cellsAll N.cells es)) (hne : v ≠ .slice none 0 0) (hs : ∀ e ∈ es, e.i.size ≤ 100) (hl : es.length ≤ 60) : SnL es v W := by
  obtain ⟨a', c', e', hm⟩ := own_made (z := N.zero) N.len ho
  obtain ⟨_, hn | ⟨b, c, cur, rfl, h1, h2, h3, h4, _⟩⟩ := ho
  · exact absurd hn.1 hne
  · simp only [Value.slice.injEq] at e'
    obtain ⟨rfl, _, rfl⟩ := e'
    exact ⟨hl, hs, b, c, rfl, h3, h4, hm.rws⟩
theorem g6 (W : World) (B : Nat) (u0 u1 u2 u3 u4 u5 : Value) : W.grownBy ((((((W.setCell ⟨B, 0, none⟩ u0).setCell ⟨B, 1, none⟩ u1).setCell ⟨B, 2, none⟩ u2).setCell ⟨B, 3, none⟩ u3).setCell ⟨B, 4, none⟩ u4).setCell ⟨B, 5, none⟩ u5) (some B) :=
  Lib.grownBy_trans (Lib.grownBy_trans (Lib.grownBy_trans (Lib.grownBy_trans (Lib.grownBy_trans (rset _ _ _ _) (rset _ _ _ _)) (rset _ _ _ _)) (rset _ _ _ _)) (rset _ _ _ _)) (rset _ _ _ _)
theorem take_end {ao : Option Addr} {len cap g : Nat} {w w1 : World} {es : List N} {v : Value} {W : World} (h : Sn ao len cap g w1 es v W) (hb1 : Below w.heap.size w w1) (hgw : w.heap.size < g) (hl : es.length ≤ 60) (hB : w.heap.size < w1.heap.size) (i a m : ByteArray) (n k : Int) (t : ByteArray) (u0 u1 u2 u3 u4 u5 : Value) (hi : i.size ≤ 100) (ha : a.size ≤ 100) (hm : m.size ≤ 100) (ht : t.size ≤ 100) :
    TakeOut w (.returned (.tuple #[v, .agg #[.string i, .string a, .string m, .int .i64 n, .int .i64 k, .string t]])) ((((((W.setCell ⟨w.heap.size, 0, none⟩ u0).setCell ⟨w.heap.size, 1, none⟩ u1).setCell ⟨w.heap.size, 2, none⟩ u2).setCell ⟨w.heap.size, 3, none⟩ u3).setCell ⟨w.heap.size, 4, none⟩ u4).setCell ⟨w.heap.size, 5, none⟩ u5).drew := by
  have hb : Below w.heap.size w W := hb1.grown h.2.1 hb1.size (fun k e => by cases e; omega)
  obtain ⟨h1, h2, b, c, h3, h4, h5, h6⟩ := own_l (own_kept h.2.2.1 (g6 W w.heap.size u0 u1 u2 u3 u4 u5) hB) h.2.2.2.1 h.2.2.2.2 hl
  exact ⟨⟨es, v, i, a, m, n, k, t, rfl, hi, ha, hm, ht, h1, h2, b, c, h3, h4, h5, h6.below (Below.refl _ _).drew⟩, (below_own hb (g6 W w.heap.size u0 u1 u2 u3 u4 u5)).drew⟩
theorem Sn.set {ao : Option Addr} {len cap g : Nat} {w : World} {es : List N} {v : Value} {W : World} (h : Sn ao len cap g w es v W) (hgl : g < w.heap.size) {B : Nat} (hB : w.heap.size ≤ B) (hv : ∀ b, v.ownBlock = some b → b ≠ B) (o : Nat) (u : Value) : Sn ao len cap g w es v (W.setCell ⟨B, o, none⟩ u) :=
  ⟨src_set h.1 (by omega) _ _, set_new h.2.1 hB _ _, own_set h.2.2.1 _ _ _ hv, h.2.2.2⟩
set_option maxRecDepth 100000 in
set_option maxHeartbeats 4000000 in
theorem dtake_any (ao : Option Addr) (len cap : Nat) (w : World) (hlen : len ≤ 1048576) (hB : Bytes ao len w) :
    Calls Try.prog 4 #[.slice ao len cap] w fun e w' => TakeOut w e w' := by
  obtain ⟨W0, hW0⟩ : ∃ W0, W0 = w.alloc (.cells #[.string ⟨#[]⟩, .string ⟨#[]⟩, .string ⟨#[]⟩, .int .i64 0, .int .i64 0, .string ⟨#[]⟩] 25) := ⟨_, rfl⟩
  have HW0 := hid_intro hW0
  have HZ : Hid (Z6 w.heap.size W0) := hid_intro (by rw [hW0]; exact Z6.new w 25)
  have HB0 : Hid (Below w.heap.size w W0) := hid_intro (by rw [hW0]; exact (Below.refl _ _).alloc (Nat.le_refl _) _)
  have HLt : Hid (w.heap.size < W0.heap.size) := hid_intro (by rw [hW0]; simp)
  have h1 := source_any ao len cap W0 hlen (hB.below HB0.out)
  clear hB hW0
  go_enter Try.func4, Try.ntmps4
  go_wp2_with fail
  rw [← HW0.out]
  refine h1.mono ?_
  rintro e w1 ⟨rfl, hS1, hb1⟩
  have HB1 := hid_intro (HB0.out.trans (hb1.mono (Nat.le_of_lt HLt.out)))
  have HL := hid_intro hS1.lt
  have HS1 := hid_intro hS1
  replace HZ := hid_intro (HZ.out.grown (rgrown hb1 none) (by simp))
  have HLt1 := hid_intro (Nat.lt_of_lt_of_le HLt.out hb1.size)
  clear hS1 hb1 h1 HW0 HB0
  have HNE : Hid (some w.heap.size ≠ some W0.heap.size) := hid_intro (by have := HLt.out; simp; omega)
  generalize W0.heap.size = g at *
  go_wp2_with fail
  refine (seen_any ao len cap g _ HS1.out).mono ?_
  rintro e w2 ⟨es, v, rfl, hl, hN⟩
  have HN := hid_intro hN
  replace HZ := hid_intro (HZ.out.grown hN.2.1 HNE.out)
  clear hN
  go_wp2_with fail
  refine (event_any ao len cap g _ HN.out.1).mono ?_
  rintro e w3 ⟨⟨i, a, m, nn, kk, t, rfl, hi, ha, hm, ht⟩, hS, hg⟩
  replace HN := hid_intro (HN.out.step HL.out hS hg)
  replace HZ := hid_intro (HZ.out.grown hg HNE.out)
  have HZ3 := hid_intro (show w1.heap.size ≤ w3.heap.size from HN.out.2.1.size)
  clear hS hg
  have HV : Hid (∀ b, v.ownBlock = some b → b ≠ w3.heap.size) := hid_intro (fun b h => by have := (HN.out.2.2.1.lt b h).2; omega)
  have HE : Hid (B6 w3.heap.size i a m nn kk t (w3.alloc (.cells #[.string i, .string a, .string m, .int .i64 nn, .int .i64 kk, .string t] 25))) := hid_intro (B6.new w3 i a m nn kk t _)
  replace HN := hid_intro (HN.out.below ((Below.refl _ _).alloc (Nat.le_refl _) (.cells #[.string i, .string a, .string m, .int .i64 nn, .int .i64 kk, .string t] 25)))
  replace HZ := hid_intro (HZ.out.grown (World.grownBy_alloc w3 (.cells #[.string i, .string a, .string m, .int .i64 nn, .int .i64 kk, .string t] 25) none) (by simp))
  have HG3 : Hid (some w3.heap.size ≠ some g ∧ w3.heap.size ≠ w.heap.size) := hid_intro (by have h1 := HN.out.2.1.size; have h2 := HL.out; have h3 := HLt1.out; have h4 := HZ3.out; constructor <;> (simp; omega))
  unfold ev at *
  go_wp2_with fail
  refine (one_any ao len cap g 3 _ (by omega) HN.out.1).mono ?_
  rintro e w4 ⟨⟨q, rfl⟩, hS, hg⟩
  replace HN := hid_intro (HN.out.step HL.out hS hg)
  replace HZ := hid_intro (HZ.out.grown hg HNE.out)
  replace HE := hid_intro (HE.out.grown hg HG3.out.1)
  clear hS hg
  cases q
  · obtain ⟨be, ⟨x0, x1, x2, x3, x4, x5⟩, xf⟩ := HE.out
    have f4 := xf 4 (by omega)
    obtain ⟨bz, zz⟩ := HZ.out
    have z0 : w4.cell? ⟨w.heap.size, 0, none⟩ = some (.string ⟨#[]⟩) := (zz 0 (by omega)).1
    have z1 : w4.cell? ⟨w.heap.size, 1, none⟩ = some (.string ⟨#[]⟩) := (zz 1 (by omega)).1
    have z2 : w4.cell? ⟨w.heap.size, 2, none⟩ = some (.string ⟨#[]⟩) := (zz 2 (by omega)).1
    have z3 : w4.cell? ⟨w.heap.size, 3, none⟩ = some (.int .i64 0) := (zz 3 (by omega)).1
    have z4 : w4.cell? ⟨w.heap.size, 4, none⟩ = some (.int .i64 0) := (zz 4 (by omega)).1
    have z5 : w4.cell? ⟨w.heap.size, 5, none⟩ = some (.string ⟨#[]⟩) := (zz 5 (by omega)).1
    have y0 := (zz 0 (by omega)).2
    have y1 := (zz 1 (by omega)).2
    have y2 := (zz 2 (by omega)).2
    have y3 := (zz 3 (by omega)).2
    have y4 := (zz 4 (by omega)).2
    have y5 := (zz 5 (by omega)).2
    clear zz xf
    go_wp2_with fail
    go_region_with (fail)
    go_wp2_with fail
    refine bodyPost_ret (v := .tuple #[v, .agg #[.string i, .string a, .string m, .int .i64 nn, .int .i64 kk, .string t]]) (by simp [results, Try.results4, go_sem, z0, z1, z2, z3, z4, z5]) rfl (take_end HN.out HB1.out HLt.out (by omega) HLt1.out i a m nn kk t _ _ _ _ _ _ hi ha hm ht)
  · obtain ⟨be, ⟨x0, x1, x2, x3, x4, x5⟩, xf⟩ := HE.out
    have HBE := hid_intro be
    clear xf
    obtain ⟨b, c, rfl, hb, hc1, hc2, hI⟩ := HN.out.shape
    go_wp2_with fail
    refine (spec_take b 0 c es i a m nn kk t _ (by omega) (fun e he => by have := HN.out.2.2.2.2 e he; omega) (by omega) (by omega) (by omega) (by omega) hc1 hc2 hI).mono ?_
    rintro e w5 ⟨ao3, cap3, rfl, hm3, hb3, ho3⟩
    have hL40 : (tkL es i a m nn kk t).length ≤ 40 := tkL_len
    have HK := hid_intro (fun h => tkL_small (es := es) (i := i) (a := a) (m := m) (n := nn) (k := kk) (t := t) h)
    have HB3 := hid_intro hb3
    have HO3 := hid_intro ho3
    replace HZ := hid_intro (HZ.out.grown (rgrown hb3 none) (by simp))
    replace HE := hid_intro (HE.out.grown (rgrown hb3 none) (by simp))
    clear hm3 hb3 ho3 hI x0 x1 x2 x3 x4 x5 be
    generalize tkL es i a m nn kk t = L at *
    generalize tkC es i a m nn kk t = C at *
    by_cases hC : C = 0
    · subst hC
      obtain ⟨hL1, hL2⟩ := HK.out rfl
      replace HV : Hid (∀ b, (Value.slice ao3 L.length cap3).ownBlock = some b → b ≠ w3.heap.size) := hid_intro (fun b h => by have := ((HO3.out.resolve_left (by omega)).lt b h).1; have := HBE.out; omega)
      replace HN := hid_intro (HN.out.take HB3.out HO3.out hL1 hL2)
      replace HN := hid_intro (HN.out.below ((Below.refl _ _).alloc (Nat.le_refl _) (.cells #[.slice ao3 L.length cap3, .int .i64 0] 29)))
      replace HZ := hid_intro (HZ.out.grown (World.grownBy_alloc w5 (.cells #[.slice ao3 L.length cap3, .int .i64 0] 29) none) (by simp))
      replace HE := hid_intro (HE.out.grown (World.grownBy_alloc w5 (.cells #[.slice ao3 L.length cap3, .int .i64 0] 29) none) (by simp))
      clear hL2 HO3 HB3 HK
      go_wp2_with fail
      refine (one_any ao len cap g 2 _ (by omega) HN.out.1).mono ?_
      rintro e w7 ⟨⟨q2, rfl⟩, hS, hg⟩
      replace HN := hid_intro (HN.out.step HL.out hS hg)
      replace HZ := hid_intro (HZ.out.grown hg HNE.out)
      replace HE := hid_intro (HE.out.grown hg HG3.out.1)
      clear hS hg
      obtain ⟨be, ⟨x0, x1, x2, x3, x4, x5⟩, xf⟩ := HE.out
      have f4 := xf 4 (by omega)
      obtain ⟨bz, zz⟩ := HZ.out
      have z0 : w7.cell? ⟨w.heap.size, 0, none⟩ = some (.string ⟨#[]⟩) := (zz 0 (by omega)).1
      have z1 : w7.cell? ⟨w.heap.size, 1, none⟩ = some (.string ⟨#[]⟩) := (zz 1 (by omega)).1
      have z2 : w7.cell? ⟨w.heap.size, 2, none⟩ = some (.string ⟨#[]⟩) := (zz 2 (by omega)).1
      have z3 : w7.cell? ⟨w.heap.size, 3, none⟩ = some (.int .i64 0) := (zz 3 (by omega)).1
      have z4 : w7.cell? ⟨w.heap.size, 4, none⟩ = some (.int .i64 0) := (zz 4 (by omega)).1
      have z5 : w7.cell? ⟨w.heap.size, 5, none⟩ = some (.string ⟨#[]⟩) := (zz 5 (by omega)).1
      have y0 := (zz 0 (by omega)).2
      have y1 := (zz 1 (by omega)).2
      have y2 := (zz 2 (by omega)).2
      have y3 := (zz 3 (by omega)).2
      have y4 := (zz 4 (by omega)).2
      have y5 := (zz 5 (by omega)).2
      clear zz xf
      cases q2
      · go_wp2_with fail
        go_region_with (fail)
        go_wp2_with fail
        refine bodyPost_ret (v := .tuple #[.slice ao3 L.length cap3, .agg #[.string i, .string a, .string m, .int .i64 nn, .int .i64 kk, .string t]]) (by simp [results, Try.results4, go_sem, z0, z1, z2, z3, z4, z5]) rfl (take_end HN.out HB1.out HLt.out (by omega) HLt1.out i a m nn kk t _ _ _ _ _ _ hi ha hm ht)
      · have hw3 := HG3.out.2
        go_wp2_with fail
        go_region_with (fail)
        go_wp2_with fail
        refine bodyPost_ret (v := .tuple #[.slice ao3 L.length cap3, .agg #[.string i, .string a, .string m, .int .i64 nn, .int .i64 (wrap64 (kk + 1)), .string t]]) (by simp [results, Try.results4, go_sem, z0, z1, z2, z3, z4, z5]) rfl (take_end (HN.out.set HL.out HZ3.out HV.out 4 _) HB1.out HLt.out (by omega) HLt1.out i a m nn (wrap64 (kk + 1)) t _ _ _ _ _ _ hi ha hm ht)
    · replace HN := hid_intro ((HN.out.below HB3.out).below ((Below.refl _ _).alloc (Nat.le_refl _) (.cells #[.slice ao3 L.length cap3, .int .i64 C] 29)))
      replace HZ := hid_intro (HZ.out.grown (World.grownBy_alloc w5 (.cells #[.slice ao3 L.length cap3, .int .i64 C] 29) none) (by simp))
      replace HE := hid_intro (HE.out.grown (World.grownBy_alloc w5 (.cells #[.slice ao3 L.length cap3, .int .i64 C] 29) none) (by simp))
      clear HO3 HB3 HK
      go_wp2_with fail
      refine (one_any ao len cap g 2 _ (by omega) HN.out.1).mono ?_
      rintro e w7 ⟨⟨q2, rfl⟩, hS, hg⟩
      replace HN := hid_intro (HN.out.step HL.out hS hg)
      replace HZ := hid_intro (HZ.out.grown hg HNE.out)
      replace HE := hid_intro (HE.out.grown hg HG3.out.1)
      clear hS hg
      obtain ⟨be, ⟨x0, x1, x2, x3, x4, x5⟩, xf⟩ := HE.out
      have f4 := xf 4 (by omega)
      obtain ⟨bz, zz⟩ := HZ.out
      have z0 : w7.cell? ⟨w.heap.size, 0, none⟩ = some (.string ⟨#[]⟩) := (zz 0 (by omega)).1
      have z1 : w7.cell? ⟨w.heap.size, 1, none⟩ = some (.string ⟨#[]⟩) := (zz 1 (by omega)).1
      have z2 : w7.cell? ⟨w.heap.size, 2, none⟩ = some (.string ⟨#[]⟩) := (zz 2 (by omega)).1
      have z3 : w7.cell? ⟨w.heap.size, 3, none⟩ = some (.int .i64 0) := (zz 3 (by omega)).1
      have z4 : w7.cell? ⟨w.heap.size, 4, none⟩ = some (.int .i64 0) := (zz 4 (by omega)).1
      have z5 : w7.cell? ⟨w.heap.size, 5, none⟩ = some (.string ⟨#[]⟩) := (zz 5 (by omega)).1
      have y0 := (zz 0 (by omega)).2
      have y1 := (zz 1 (by omega)).2
      have y2 := (zz 2 (by omega)).2
      have y3 := (zz 3 (by omega)).2
      have y4 := (zz 4 (by omega)).2
      have y5 := (zz 5 (by omega)).2
      clear zz xf
      cases q2
      · go_wp2_with fail
        go_region_with (fail)
        go_wp2_with fail
        refine bodyPost_ret (v := .tuple #[.slice (some ⟨b, 0, none⟩) es.length c, .agg #[.string i, .string a, .string m, .int .i64 nn, .int .i64 kk, .string t]]) (by simp [results, Try.results4, go_sem, z0, z1, z2, z3, z4, z5]) rfl (take_end HN.out HB1.out HLt.out (by omega) HLt1.out i a m nn kk t _ _ _ _ _ _ hi ha hm ht)
      · have hw3 := HG3.out.2
        go_wp2_with fail
        go_region_with (fail)
        go_wp2_with fail
        refine bodyPost_ret (v := .tuple #[.slice (some ⟨b, 0, none⟩) es.length c, .agg #[.string i, .string a, .string m, .int .i64 nn, .int .i64 (wrap64 (kk + 1)), .string t]]) (by simp [results, Try.results4, go_sem, z0, z1, z2, z3, z4, z5]) rfl (take_end (HN.out.set HL.out HZ3.out HV.out 4 _) HB1.out HLt.out (by omega) HLt1.out i a m nn (wrap64 (kk + 1)) t _ _ _ _ _ _ hi ha hm ht)
end DrawR
end Go.Proofs.Ytbhabplchcigfaa
