/-
  Lists of documents: the law's own copies, and two lists held against each other. The condition: at most 1048576 documents, each of at most 1048576 lines.
  Sizes of lists of entries and of documents, whatever is left; lists of sources: sizes, the law's own copies. The condition: sizes of at most 1048576.
-/
import Derived.Deep.RegionWith
import Derived.Test.YtdgomcpkbahfeaaGreatDoorE18
namespace Go.Proofs.YtdgomcpkbahfeaaGreatDoor
open Go.ChangeShapes Go.WideShapes Go.ChangeAt Go.RowKit Go.Deep
set_option linter.unusedVariables false
namespace LedR
open LinR RowG LtR NetR DocR
open EvtR (Pt cell_put cell_far)
theorem infoD : (Tryz.prog.info? 106).map (fun i => (i.zero, i.size, i.bytes)) = some (some (.agg #[.string ⟨#[]⟩, .int .i64 0, .int .i64 0, .slice none 0 0]), 4, 56) := by kernel_rfl
theorem pt_any {p q n o : Nat} {W : World} {v : Value} (h : Pt p n W) : Pt p n (W.setCell ⟨q, o, none⟩ v) := by
  by_cases e : p = q
  · subst e; exact h.set _ _
  · have eb : (W.setCell ⟨q, o, none⟩ v).heap[p]? = W.heap[p]? := by
      simp only [World.setCell]
      rw [Array.getElem?_modify, if_neg (fun e2 => e e2.symm)]
    exact ⟨by have := h.lt; simpa using this, fun x hx => by obtain ⟨u, hu⟩ := h.has x hx; exact ⟨u, (World.cell?_of_block (a := ⟨p, x, none⟩) eb).trans hu⟩, fun x hx => (World.frozen?_of_block (a := ⟨p, x, none⟩) eb).trans (h.free x hx)⟩
theorem ne_of {la : Option Addr} {n g : Nat} {W : World} (h : n = 0 ∨ ∃ g', la = some ⟨g', 0, none⟩ ∧ g < g' ∧ g' < W.heap.size ∧ Pt g' (n * 2) W) : n = 0 ∨ ∀ b off, la = some ⟨b, off, none⟩ → b ≠ g :=
  h.imp id (fun ⟨g', e1, e2, _⟩ b off e3 => by rw [e1] at e3; simp at e3; omega)
theorem own_put {la : Option Addr} {n g q o : Nat} {W : World} {v : Value} (h : n = 0 ∨ ∃ g', la = some ⟨g', 0, none⟩ ∧ g < g' ∧ g' < W.heap.size ∧ Pt g' (n * 2) W) : n = 0 ∨ ∃ g', la = some ⟨g', 0, none⟩ ∧ g < g' ∧ g' < (W.setCell ⟨q, o, none⟩ v).heap.size ∧ Pt g' (n * 2) (W.setCell ⟨q, o, none⟩ v) :=
  h.imp id (fun ⟨g', e1, e2, e3, e4⟩ => ⟨g', e1, e2, by simpa using e3, pt_any e4⟩)
/-- The first documents of a list that is being laid. -/
def DW (g k : Nat) (ds : List D) (W : World) : Prop := ∀ j, j < k → ∃ la lc, W.cell? ⟨g, j * 4, none⟩ = some (.string (ds.getD j D.zero).a) ∧ W.cell? ⟨g, j * 4 + 1, none⟩ = some (.int .i64 (ds.getD j D.zero).mo) ∧ W.cell? ⟨g, j * 4 + 2, none⟩ = some (.int .i64 (ds.getD j D.zero).sq) ∧ W.cell? ⟨g, j * 4 + 3, none⟩ = some (.slice la (ds.getD j D.zero).ls.length lc) ∧ Lis la (ds.getD j D.zero).ls W ∧ ((ds.getD j D.zero).ls.length = 0 ∨ ∃ g', la = some ⟨g', 0, none⟩ ∧ g < g' ∧ g' < W.heap.size ∧ Pt g' ((ds.getD j D.zero).ls.length * 2) W)
theorem DW.below {g k : Nat} {ds : List D} {W W' : World} (h : DW g k ds W) (hg : g < W.heap.size) (hb : Below W.heap.size W W') : DW g k ds W' := by
  intro j hj
  obtain ⟨la, lc, c0, c1, c2, c3, hL, hn⟩ := h j hj
  have f := fun x => hb.cell (p := ⟨g, x, none⟩) hg
  exact ⟨la, lc, (f _).trans c0, (f _).trans c1, (f _).trans c2, (f _).trans c3, hL.below hb, hn.imp id (fun ⟨g', e1, e2, e3, e4⟩ => ⟨g', e1, e2, by have := hb.size; omega, e4.below hb⟩)⟩
theorem DW.put {g k o : Nat} {ds : List D} {W : World} (h : DW g k ds W) (ho : k * 4 ≤ o) (v : Value) : DW g k ds (W.setCell ⟨g, o, none⟩ v) := by
  intro j hj
  obtain ⟨la, lc, c0, c1, c2, c3, hL, hn⟩ := h j hj
  exact ⟨la, lc, (cell_far _ _ (by omega) v).trans c0, (cell_far _ _ (by omega) v).trans c1, (cell_far _ _ (by omega) v).trans c2, (cell_far _ _ (by omega) v).trans c3, DocR.Rws.put hL g o v (ne_of hn), own_put hn⟩
theorem DW.more {g k n : Nat} {ds : List D} {W : World} (h : DW g k ds W) (hp : Pt g n W) (hk : k * 4 + 3 < n) (la : Option Addr) (lc : Nat) (hL : Lis la (ds.getD k D.zero).ls W) (hn : (ds.getD k D.zero).ls.length = 0 ∨ ∃ g', la = some ⟨g', 0, none⟩ ∧ g < g' ∧ g' < W.heap.size ∧ Pt g' ((ds.getD k D.zero).ls.length * 2) W) :
    DW g (k + 1) ds ((((W.setCell ⟨g, k * 4, none⟩ (.string (ds.getD k D.zero).a)).setCell ⟨g, k * 4 + 1, none⟩ (.int .i64 (ds.getD k D.zero).mo)).setCell ⟨g, k * 4 + 2, none⟩ (.int .i64 (ds.getD k D.zero).sq)).setCell ⟨g, k * 4 + 3, none⟩ (.slice la (ds.getD k D.zero).ls.length lc)) := by
  intro j hj
  by_cases e : j = k
  · subst e
    have p1 := hp.set (j * 4) (.string (ds.getD j D.zero).a)
    have p2 := p1.set (j * 4 + 1) (.int .i64 (ds.getD j D.zero).mo)
    have p3 := p2.set (j * 4 + 2) (.int .i64 (ds.getD j D.zero).sq)
    refine ⟨la, lc, ?_, ?_, ?_, cell_put p3 _ hk _, DocR.Rws.put (DocR.Rws.put (DocR.Rws.put (DocR.Rws.put hL g _ _ (ne_of hn)) g _ _ (ne_of hn)) g _ _ (ne_of hn)) g _ _ (ne_of hn), own_put (own_put (own_put (own_put hn)))⟩
    · rw [cell_far _ _ (by omega), cell_far _ _ (by omega), cell_far _ _ (by omega), cell_put hp _ (by omega)]
    · rw [cell_far _ _ (by omega), cell_far _ _ (by omega), cell_put p1 _ (by omega)]
    · rw [cell_far _ _ (by omega), cell_put p2 _ (by omega)]
  · exact ((((h.put (by omega) _).put (by omega) _).put (by omega) _).put (by omega) _) j (by omega)
theorem DW.dcs {g : Nat} {ds : List D} {W : World} (h : DW g ds.length ds W) (hg : g < W.heap.size) : Dcs (some ⟨g, 0, none⟩) ds W := .inr ⟨g, 0, rfl, hg, fun j hj => by
  obtain ⟨la, lc, c0, c1, c2, c3, hL, _⟩ := h j hj
  exact ⟨la, lc, by rw [Nat.zero_add]; exact c0, by rw [Nat.zero_add]; exact c1, by rw [Nat.zero_add]; exact c2, by rw [Nat.zero_add]; exact c3, hL⟩⟩
set_option maxRecDepth 100000 in
set_option maxHeartbeats 4000000 in
theorem toDsM (ao : Option Addr) (cap : Nat) (ds : List D) (w : World) (hlen : ds.length ≤ 1048576) (hSm : ∀ d ∈ ds, d.Sm) (hI : Dcs ao ds w) :
    Calls Tryz.prog 30 #[.slice ao ds.length cap] w fun e w' => e = .returned (.slice (some ⟨w.heap.size, 0, none⟩) ds.length ds.length) ∧ Dcs (some ⟨w.heap.size, 0, none⟩) ds w' ∧ Below w.heap.size w w' ∧ Pt w.heap.size (ds.length * 4) w' ∧ DW w.heap.size ds.length ds w' := by
  obtain ⟨i0, hi, hz0, hz1, hz2⟩ := info_parts infoD
  have HI := hid_intro hI
  have HSm := hid_intro hSm
  obtain ⟨len, hl⟩ : ∃ len, len = ds.length := ⟨_, rfl⟩
  have HEND : Hid (∀ W, DW w.heap.size len ds W → w.heap.size < W.heap.size → Dcs (some ⟨w.heap.size, 0, none⟩) ds W) := hid_intro (fun W h hg => by rw [hl] at h; exact h.dcs hg)
  rw [← hl] at hlen ⊢
  have HL := hid_intro hl
  clear hI hl hSm
  go_enter Tryz.func30, Tryz.ntmps30
  go_wp2_with (at_make; refine wpList_make_full _ rfl _ _ 41 rfl w.heap.size 106 i0 (.agg #[.string ⟨#[]⟩, .int .i64 0, .int .i64 0, .slice none 0 0]) 4 Tryz.underlying41 hi hz0 hz1 .i64 .i64 _ _ len rfl rfl rfl rfl ?b2 ?b3 ?b4 ?_)
  case b2 => rw [hz2]; omega
  case b3 => unfold maxLen; omega
  case b4 => exact Nat.le_refl _
  intro wm hown hgrow
  have HB0 : Hid (Below w.heap.size w wm) := hid_intro ((Below.refl _ _).grown hgrow (Nat.le_refl _) (fun k e => by cases e))
  have HP0 := hid_intro (row_fullL hown)
  clear hown hgrow hi hz0 hz1 hz2
  go_wp2_with fail
  go_loopw [4] (fun z wr => ∃ k : Nat, k ≤ len ∧ z = .int .i64 k ∧ Hid (Below w.heap.size w wr) ∧ Hid (Pt w.heap.size (len * 4) wr) ∧ Hid (DW w.heap.size k ds wr)) (fun z _ => len - (intOf z).toNat)
  case atStart => exact ⟨0, by omega, rfl, HB0, HP0, hid_intro (fun j hj => absurd hj (by omega))⟩
  case round =>
    obtain ⟨k, hk, rfl, HB, HP, HW⟩ := hrel
    by_cases hlt : k < len
    · have hlt2 : (k : Int) < (len : Int) := by omega
      have hkl : k < ds.length := by have := HL.out; omega
      obtain ⟨b, off, la, lc, rfl, hbl, c0, c1, c2, c3, hLi⟩ := (HI.out.below HB.out).at k hkl
      have hsm := HSm.out _ (getD_mem (z := D.zero) ds k hkl)
      have HC := hid_intro (toD_any (.agg (dcells (ds.getD k D.zero) la lc)) (ds.getD k D.zero) wr hsm.2.1 ⟨la, lc, rfl, hLi⟩)
      have HMORE := hid_intro (fun (W : World) (h : DW w.heap.size k ds W) (hp : Pt w.heap.size (len * 4) W) la lc hL hn => h.more hp (by omega) la lc hL hn)
      obtain ⟨X, hX⟩ : ∃ X, X = ds.getD k D.zero := ⟨_, rfl⟩
      rw [← hX] at c0 c1 c2 c3 HC HMORE
      clear hX hsm hLi
      obtain ⟨xa, xm, xs, xl⟩ := X
      unfold dcells at HC
      dsimp only at c0 c1 c2 c3 HC HMORE
      have hsz0 := HP.out.lt
      go_wp2_with fail
      refine HC.out.mono ?_
      rintro e w1 ⟨v, rfl, ⟨la1, lc1, rfl, hm⟩, hb⟩
      replace HW := hid_intro (HW.out.below hsz0 hb)
      replace HP := hid_intro (HP.out.below hb)
      replace HB := hid_intro (HB.out.trans (hb.mono HB.out.size))
      have HM1 := hid_intro (HMORE.out w1 HW.out HP.out la1 lc1 hm.rws (hm.own.imp id (fun ⟨g', e1, e2, e3⟩ => ⟨g', e1, by omega, e3.lt, e3⟩)))
      have HP1 := hid_intro ((((HP.out.set (k * 4) (.string xa)).set (k * 4 + 1) (.int .i64 xm)).set (k * 4 + 2) (.int .i64 xs)).set (k * 4 + 3) (.slice la1 xl.length lc1))
      have HB1 : Hid (Below w.heap.size w ((((w1.setCell ⟨w.heap.size, k * 4, none⟩ (.string xa)).setCell ⟨w.heap.size, k * 4 + 1, none⟩ (.int .i64 xm)).setCell ⟨w.heap.size, k * 4 + 2, none⟩ (.int .i64 xs)).setCell ⟨w.heap.size, k * 4 + 3, none⟩ (.slice la1 xl.length lc1))) := hid_intro ((((HB.out.setCell (Nat.le_refl _) _).setCell (Nat.le_refl _) _).setCell (Nat.le_refl _) _).setCell (Nat.le_refl _) _)
      obtain ⟨v0, d0⟩ := HP.out.has (k * 4) (by omega)
      obtain ⟨v1, d1⟩ := HP.out.has (k * 4 + 1) (by omega)
      obtain ⟨v2, d2⟩ := HP.out.has (k * 4 + 2) (by omega)
      obtain ⟨v3, d3⟩ := HP.out.has (k * 4 + 3) (by omega)
      have z0 := HP.out.free (k * 4) (by omega)
      have z1 := HP.out.free (k * 4 + 1) (by omega)
      have z2 := HP.out.free (k * 4 + 2) (by omega)
      have z3 := HP.out.free (k * 4 + 3) (by omega)
      have hsz1 := HP.out.lt
      unfold dcells
      dsimp only
      clear hb hm c0 c1 c2 c3 HMORE hsz0
      generalize xl.length = ll at *
      go_wp2_with fail
      go_roundw
      case rel => exact ⟨k + 1, by omega, by go_num, HB1, HP1, HM1⟩
      case measure => simp [intOf]; omega
    · have hlt2 : ¬ (k : Int) < (len : Int) := by omega
      obtain rfl : k = len := by omega
      go_wp2_with fail
      go_ret
      exact ⟨rfl, HEND.out _ HW.out HP.out.lt, HB.out, HP.out, HW.out⟩
theorem toDs (ao : Option Addr) (cap : Nat) (ds : List D) (w : World) (hlen : ds.length ≤ 1048576) (hSm : ∀ d ∈ ds, d.Sm) (hI : Dcs ao ds w) :
    Calls Tryz.prog 30 #[.slice ao ds.length cap] w fun e w' => e = .returned (.slice (some ⟨w.heap.size, 0, none⟩) ds.length ds.length) ∧ Dcs (some ⟨w.heap.size, 0, none⟩) ds w' ∧ Below w.heap.size w w' :=
  (toDsM ao cap ds w hlen hSm hI).mono fun e w' h => ⟨h.1, h.2.1, h.2.2.1⟩
set_option maxRecDepth 100000 in
set_option maxHeartbeats 4000000 in
theorem eqDs (ao bo : Option Addr) (cap cap' : Nat) (ds : List D) (w : World) (hlen : ds.length ≤ 1048576) (hSm : ∀ d ∈ ds, d.Sm) (hI : Dcs ao ds w) (hJ : Dcs bo ds w) :
    Calls Tryz.prog 41 #[.slice ao ds.length cap, .slice bo ds.length cap'] w fun e w' => e = .returned (.bool true) ∧ Below w.heap.size w w' := by
  have HI := hid_intro hI
  have HJ := hid_intro hJ
  have HSm := hid_intro hSm
  obtain ⟨len, hl⟩ : ∃ len, len = ds.length := ⟨_, rfl⟩
  rw [← hl] at hlen ⊢
  have HL := hid_intro hl
  clear hI hJ hl hSm
  go_enter Tryz.func41, Tryz.ntmps41
  go_wp2_with fail
  go_loopw [5] (fun z wr => ∃ k : Nat, k ≤ len ∧ z = .int .i64 k ∧ Hid (Below w.heap.size w wr)) (fun z _ => len - (intOf z).toNat)
  case atStart => exact ⟨0, by omega, rfl, hid_intro (Below.refl _ _)⟩
  case round =>
    obtain ⟨k, hk, rfl, HW⟩ := hrel
    by_cases hlt : k < len
    · have hlt2 : (k : Int) < (len : Int) := by omega
      have hkl : k < ds.length := by have := HL.out; omega
      obtain ⟨b, off, la, lc, rfl, _, c0, c1, c2, c3, hLi⟩ := (HI.out.below HW.out).at k hkl
      obtain ⟨b', off', la', lc', rfl, _, e0, e1, e2, e3, hLi'⟩ := (HJ.out.below HW.out).at k hkl
      have hsm := HSm.out _ (getD_mem (z := D.zero) ds k hkl)
      have HC := hid_intro (eqD_any (.agg (dcells (ds.getD k D.zero) la lc)) (.agg (dcells (ds.getD k D.zero) la' lc')) (ds.getD k D.zero) wr.drew hsm.2.1 ⟨la, lc, rfl, hLi.below (Below.refl _ _).drew⟩ ⟨la', lc', rfl, hLi'.below (Below.refl _ _).drew⟩)
      generalize ds.getD k D.zero = X at *
      obtain ⟨xa, xm, xs, xl⟩ := X
      unfold dcells at HC
      dsimp only at c0 c1 c2 c3 e0 e1 e2 e3 HC
      clear hsm hLi hLi'
      generalize xl.length = ll at *
      go_wp2_with fail
      go_region_with (go_at_call 86; refine HC.out.mono ?_; rintro e w1 ⟨rfl, hb⟩)
      all_goals (
        have HB1 := hid_intro (HW.out.drew.trans (hb.mono HW.out.drew.size))
        clear hb c0 c1 c2 c3 e0 e1 e2 e3
        go_wp2_with fail
        go_roundw
        case rel => exact ⟨k + 1, by omega, by go_num, HB1⟩
        case measure => simp [intOf]; omega)
    · have hlt2 : ¬ (k : Int) < (len : Int) := by omega
      go_wp2_with fail
      go_ret
      exact ⟨rfl, HW.out⟩
end LedR
end Go.Proofs.YtdgomcpkbahfeaaGreatDoor
namespace Go.Proofs.YtdgomcpkbahfeaaGreatDoor
open Go.ChangeShapes Go.WideShapes Go.ChangeAt Go.RowKit
set_option linter.unusedVariables false
namespace CatR
open EvtR (Pt cell_put cell_far)
theorem infoSrc : (Tryz.prog.info? 111).map (fun i => (i.zero, i.size, i.bytes)) = some (some (.agg #[.string ⟨#[]⟩, .int .i64 0]), 2, 24) := by kernel_rfl
theorem szSr_any (a : ByteArray) (m left : Int) (ha : a.size ≤ maxLen) (h0 : 0 ≤ left) (h1 : left ≤ 1048576) (w : World) :
    Calls Tryz.prog 46 #[.agg #[.string a, .int .i64 m], .int .i64 left] w fun e w' => e = .returned (.int .i64 (if (a.size : Int) ≤ left then left - a.size else -1)) ∧ Below w.heap.size w w' := by
  unfold maxLen at ha
  have HB := hid_intro ((Below.refl w.heap.size w).alloc (Nat.le_refl _) (Obj.cells #[.string a, .int .i64 m] 83))
  by_cases h : (a.size : Int) ≤ left
  · rw [if_pos h]
    have g : ¬ left - (a.size : Int) < 0 := by omega
    go_enter Tryz.func46, Tryz.ntmps46
    go_wp2_with fail
    go_ret
    exact ⟨rfl, HB.out⟩
  · rw [if_neg h]
    have g : left - (a.size : Int) < 0 := by omega
    go_enter Tryz.func46, Tryz.ntmps46
    go_wp2_with fail
    go_ret
    exact ⟨rfl, HB.out⟩
set_option maxRecDepth 100000 in
set_option maxHeartbeats 4000000 in
theorem szSrs_any (ao : Option Addr) (len cap : Nat) (cs : List Cr) (left : Int) (w : World) (hm : len ≤ maxLen) (h0 : 0 ≤ left) (h1 : left ≤ 1048576) (hI : Crs ao len cs w) (hin : ∀ i, i < len → (cs.getD i Cr.zero).a.size ≤ maxLen) :
    Calls Tryz.prog 13 #[.slice ao len cap, .int .i64 left] w fun e w' => SzOut left (len ≤ 1048576 ∧ ∀ i, i < len → (cs.getD i Cr.zero).a.size ≤ 1048576) e ∧ Below w.heap.size w w' := by
  have HI := hid_intro hI
  have HN := hid_intro hin
  clear hI hin
  unfold maxLen at hm
  by_cases hl : left - (len : Int) < 0
  · go_enter Tryz.func13, Tryz.ntmps13
    go_wp2_with fail
    go_ret
    exact ⟨⟨-1, rfl, .inl rfl⟩, Below.refl _ _⟩
  · go_enter Tryz.func13, Tryz.ntmps13
    go_wp2_with fail
    go_loopw [5, 1] (fun x y wr => ∃ (j : Nat) (L : Int), j ≤ len ∧ x = .int .i64 j ∧ y = .int .i64 L ∧ 0 ≤ L ∧ L ≤ left ∧ Hid (∀ i, i < j → (cs.getD i Cr.zero).a.size ≤ 1048576) ∧ Hid (Below w.heap.size w wr)) (fun x y _ => len - (intOf x).toNat)
    case atStart => exact ⟨0, left - (len : Int), Nat.zero_le _, rfl, rfl, by omega, by omega, hid_intro (fun i hi => absurd hi (by omega)), hid_intro (Below.refl _ _)⟩
    case round =>
      obtain ⟨j, L, hj, rfl, rfl, l0, l1, HL, HB⟩ := hrel
      by_cases hlt : j < len
      · obtain ⟨b, off, rfl, hbl, c0, c1⟩ := crs_at (HI.out.below HB.out) j hlt
        have q1 := HN.out j hlt
        have HM := hid_intro (fun h => small_moreC HL.out (k := j) h)
        generalize (cs.getD j Cr.zero) = X at *
        obtain ⟨a, m⟩ := X
        simp only at c0 c1 q1 HM
        have HC := hid_intro (fun w => szSr_any a m L q1 l0 (by omega) w)
        have hlt2 : (j : Int) < (len : Int) := by omega
        clear q1
        by_cases hs : (a.size : Int) ≤ L
        · rw [if_pos hs] at HC
          have r0 : 0 ≤ L - (a.size : Int) := by omega
          have r1 : L - (a.size : Int) ≤ left := by omega
          have HN1 := hid_intro (HM.out (by omega))
          generalize L - (a.size : Int) = L2 at *
          clear hs
          go_wp2_with fail
          refine (HC.out _).mono ?_
          rintro e w1 ⟨rfl, hb⟩
          have HB1 := hid_intro (HB.out.trans (hb.mono HB.out.size))
          clear hb c0 c1
          have r2 : ¬ L2 < 0 := by omega
          go_wp2_with fail
          go_roundw
          case rel => exact ⟨j + 1, L2, by omega, by go_num, rfl, r0, r1, HN1, HB1⟩
          case measure => simp [intOf]; omega
        · rw [if_neg hs] at HC
          go_wp2_with fail
          refine (HC.out _).mono ?_
          rintro e w1 ⟨rfl, hb⟩
          have HB1 := hid_intro (HB.out.trans (hb.mono HB.out.size))
          clear hb c0 c1
          go_wp2_with fail
          go_ret
          exact ⟨⟨-1, rfl, .inl rfl⟩, HB1.out⟩
      · obtain rfl : j = len := by omega
        go_wp2_with fail
        go_ret
        exact ⟨⟨L, rfl, .inr ⟨l0, l1, by omega, HL.out⟩⟩, HB.out⟩
theorem toSr_any (u : ByteArray) (p : Int) (w : World) : Calls Tryz.prog 64 #[.agg #[.string u, .int .i64 p]] w fun e w' => e = .returned (.agg #[.string u, .int .i64 p]) ∧ Below w.heap.size w w' := by
  go_enter Tryz.func64, Tryz.ntmps64
  go_wp2_with fail
  refine bodyPost_ret (v := .agg #[.string u, .int .i64 p]) (by simp [results, Tryz.results64, go_sem]) rfl ⟨rfl, ?_⟩
  repeat' first | exact Below.refl _ _ | apply Below.setCell | apply Below.alloc
  all_goals first | omega | (simp; done) | (simp; omega)
set_option maxRecDepth 100000 in
set_option maxHeartbeats 4000000 in
theorem toSrs_any (ao : Option Addr) (len cap : Nat) (ts : List Cr) (w : World) (hlen : len ≤ 1048576) (hI : Crs ao len ts w) :
    Calls Tryz.prog 27 #[.slice ao len cap] w fun e w' => e = .returned (.slice (some ⟨w.heap.size, 0, none⟩) len len) ∧ Crs (some ⟨w.heap.size, 0, none⟩) len ts w' ∧ Pt w.heap.size (len * 2) w' ∧ Below w.heap.size w w' := by
  obtain ⟨i0, hi, hz0, hz1, hz2⟩ := info_parts infoSrc
  have HI := hid_intro hI
  clear hI
  go_enter Tryz.func27, Tryz.ntmps27
  go_wp2_with (at_make; refine wpList_make_full _ rfl _ _ 38 rfl w.heap.size 111 i0 (.agg #[.string ⟨#[]⟩, .int .i64 0]) 2 Tryz.underlying38 hi hz0 hz1 .i64 .i64 _ _ len rfl rfl rfl rfl ?b2 ?b3 ?b4 ?_)
  case b2 => rw [hz2]; omega
  case b3 => unfold maxLen; omega
  case b4 => exact Nat.le_refl _
  intro wm hown hgrow
  have HP := hid_intro (row_full hown)
  have HB : Hid (Below w.heap.size w wm) := hid_intro ((Below.refl _ _).grown hgrow (Nat.le_refl _) (fun k e => by cases e))
  clear hown hgrow hi hz0 hz1 hz2
  go_wp2_with fail
  go_loopw [4] (fun z wr => ∃ k : Nat, k ≤ len ∧ z = .int .i64 k ∧ Hid (Below w.heap.size w wr) ∧ Hid (Pt w.heap.size (len * 2) wr) ∧ Hid (∀ i, i < k → CrAt wr w.heap.size (i * 2) (ts.getD i Cr.zero))) (fun z _ => len - (intOf z).toNat)
  case atStart => exact ⟨0, by omega, rfl, HB, HP, hid_intro (fun i hi => absurd hi (by omega))⟩
  case round =>
    obtain ⟨k, hk, rfl, HB, HP, HA⟩ := hrel
    by_cases hlt : k < len
    · have hlt2 : (k : Int) < (len : Int) := by omega
      obtain ⟨b, off, rfl, hbl, c0, c1⟩ := crs_at (HI.out.below HB.out) k hlt
      have HS := hid_intro (fun W hp ha => crs_set (wr := W) (g := w.heap.size) (n := len) (k := k) (ts := ts) hp hlt ha)
      generalize (ts.getD k Cr.zero) = X at *
      obtain ⟨u, p⟩ := X
      have HC := hid_intro (fun w => toSr_any u p w)
      have HS : Hid (∀ W, Pt w.heap.size (len * 2) W → (∀ i, i < k → CrAt W w.heap.size (i * 2) (ts.getD i Cr.zero)) → Pt w.heap.size (len * 2) ((W.setCell ⟨w.heap.size, k * 2, none⟩ (.string u)).setCell ⟨w.heap.size, k * 2 + 1, none⟩ (.int .i64 p)) ∧ ∀ i, i < k + 1 → CrAt ((W.setCell ⟨w.heap.size, k * 2, none⟩ (.string u)).setCell ⟨w.heap.size, k * 2 + 1, none⟩ (.int .i64 p)) w.heap.size (i * 2) (ts.getD i Cr.zero)) := HS
      go_wp2_with fail
      refine (HC.out _).mono ?_
      rintro e w1 ⟨rfl, hb⟩
      have HP1 := hid_intro (HP.out.below hb)
      have HA1 : Hid (∀ i, i < k → CrAt w1 w.heap.size (i * 2) (ts.getD i Cr.zero)) := hid_intro (fun i hi => (HA.out i hi).below HP.out.lt hb)
      have HB1 := hid_intro (HB.out.trans (hb.mono HB.out.size))
      have HS1 := hid_intro (HS.out _ HP1.out HA1.out)
      obtain ⟨v0, d0⟩ := HP1.out.has (k * 2) (by omega)
      obtain ⟨v1, d1⟩ := HP1.out.has (k * 2 + 1) (by omega)
      have z0 := HP1.out.free (k * 2) (by omega)
      have z1 := HP1.out.free (k * 2 + 1) (by omega)
      clear hb c0 c1
      go_wp2_with fail
      go_roundw
      case rel => exact ⟨k + 1, by omega, by go_num, hid_intro ((HB1.out.setCell (Nat.le_refl _) _).setCell (Nat.le_refl _) _), hid_intro HS1.out.1, hid_intro HS1.out.2⟩
      case measure => simp [intOf]; omega
    · have hlt2 : ¬ (k : Int) < (len : Int) := by omega
      obtain rfl : k = len := by omega
      go_wp2_with fail
      go_ret
      exact ⟨rfl, ⟨HI.out.1, .inr ⟨w.heap.size, 0, rfl, HP.out.lt, fun j hj => by rw [Nat.zero_add]; exact HA.out j hj⟩⟩, HP.out, HB.out⟩
end CatR
namespace SeenR
open CatR (SzOut)
open RowG
set_option maxRecDepth 100000 in
set_option maxHeartbeats 4000000 in
theorem szEns (ao : Option Addr) (cap : Nat) (es : List N) (left : Int) (w : World) (hm : es.length ≤ maxLen) (h0 : 0 ≤ left) (h1 : left ≤ 1048576) (hI : Ens ao es w) (hin : ∀ e ∈ es, e.i.size ≤ maxLen) :
    Calls Tryz.prog 14 #[.slice ao es.length cap, .int .i64 left] w fun e w' => SzOut left (es.length ≤ 1048576 ∧ ∀ e ∈ es, e.i.size ≤ 1048576) e ∧ Below w.heap.size w w' := by
  have HI := hid_intro hI
  have HIn := hid_intro hin
  have HEND : Hid (∀ L : Int, es.length ≤ 1048576 → (∀ i, i < es.length → (fun e : N => e.i.size ≤ 1048576) (es.getD i N.zero)) → 0 ≤ L → L ≤ left → SzOut left (es.length ≤ 1048576 ∧ ∀ e ∈ es, e.i.size ≤ 1048576) (.returned (.int .i64 L))) := hid_intro (fun L a b c d => ⟨L, rfl, .inr ⟨c, d, a, fun e he => by
    obtain ⟨i, hi, rfl⟩ := List.getElem_of_mem he
    have := b i hi
    rwa [show es.getD i N.zero = es[i] by simp [List.getD, hi]] at this⟩⟩)
  have HBAD : Hid (SzOut left (es.length ≤ 1048576 ∧ ∀ e ∈ es, e.i.size ≤ 1048576) (.returned (.int .i64 (-1)))) := hid_intro ⟨-1, rfl, .inl rfl⟩
  generalize SzOut left (es.length ≤ 1048576 ∧ ∀ e ∈ es, e.i.size ≤ 1048576) = PO at *
  obtain ⟨len, hl⟩ : ∃ len, len = es.length := ⟨_, rfl⟩
  rw [← hl] at hm HEND ⊢
  have HL := hid_intro hl
  unfold maxLen at hm
  clear hI hin hl
  by_cases hbig : left - (len : Int) < 0
  · go_enter Tryz.func14, Tryz.ntmps14
    go_wp2_with fail
    go_ret
    exact ⟨HBAD.out, Below.refl _ _⟩
  go_enter Tryz.func14, Tryz.ntmps14
  go_wp2_with fail
  go_loopw [5, 1] (fun x y wr => ∃ (j : Nat) (L : Int), j ≤ len ∧ x = .int .i64 j ∧ y = .int .i64 L ∧ 0 ≤ L ∧ L ≤ left ∧ Hid (∀ i, i < j → (fun e : N => e.i.size ≤ 1048576) (es.getD i N.zero)) ∧ Hid (Below w.heap.size w wr)) (fun x _ _ => len - (intOf x).toNat)
  case atStart => exact ⟨0, left - (len : Int), by omega, rfl, rfl, by omega, by omega, hid_intro (fun i hi => absurd hi (by omega)), hid_intro (Below.refl _ _)⟩
  case round =>
    obtain ⟨j, L, hj, rfl, rfl, l0, l1, HD, HB⟩ := hrel
    by_cases hlt : j < len
    · have hlt2 : (j : Int) < (len : Int) := by omega
      have hkl : j < es.length := by have := HL.out; omega
      obtain ⟨b, off, rfl, hbl, c0, c1, c2⟩ := (HI.out.below HB.out).at j hkl
      have hx := HIn.out _ (RowG.getD_mem (z := N.zero) es j hkl)
      have HMR : Hid ((fun e : N => e.i.size ≤ 1048576) (es.getD j N.zero) → ∀ i, i < j + 1 → (fun e : N => e.i.size ≤ 1048576) (es.getD i N.zero)) := hid_intro (fun h i hi => by
        by_cases e : i = j
        · subst e; exact h
        · exact HD.out i (by omega))
      generalize hX : es.getD j N.zero = X at *
      clear hX
      obtain ⟨xi, xn, xs⟩ := X
      dsimp only at c0 c1 c2 hx HMR
      have HC := hid_intro (sz_any xi xn xs L hx l0 (by omega) wr)
      have HSM : Hid (¬ (if (xi.size : Int) ≤ L then L - (xi.size : Int) else -1) < 0 → 0 ≤ (if (xi.size : Int) ≤ L then L - (xi.size : Int) else -1) ∧ (if (xi.size : Int) ≤ L then L - (xi.size : Int) else -1) ≤ L ∧ xi.size ≤ 1048576) := hid_intro (fun h => by split at h <;> split <;> omega)
      generalize (if (xi.size : Int) ≤ L then L - (xi.size : Int) else -1) = L2 at *
      clear hx
      clear HD
      by_cases hs : L2 < 0
      · go_wp2_with fail
        refine HC.out.mono ?_
        rintro e w1 ⟨rfl, hb⟩
        have HB1 := hid_intro (HB.out.trans (hb.mono HB.out.size))
        clear hb c0 c1 c2
        go_wp2_with fail
        go_ret
        exact ⟨HBAD.out, HB1.out⟩
      · obtain ⟨s0, s1, s2⟩ := HSM.out hs
        have HS2 := hid_intro (HMR.out s2)
        clear s2
        go_wp2_with fail
        refine HC.out.mono ?_
        rintro e w1 ⟨rfl, hb⟩
        have HB1 := hid_intro (HB.out.trans (hb.mono HB.out.size))
        clear hb c0 c1 c2
        go_wp2_with fail
        go_roundw
        case rel => exact ⟨j + 1, L2, by omega, by go_num, rfl, s0, by omega, HS2, HB1⟩
        case measure => simp [intOf]; omega
    · have hlt2 : ¬ (j : Int) < (len : Int) := by omega
      obtain rfl : j = len := by omega
      go_wp2_with fail
      go_ret
      exact ⟨HEND.out L (by omega) HD.out l0 l1, HB.out⟩
end SeenR
namespace LedR
open CatR (SzOut)
open DocR LinR RowG
set_option maxRecDepth 100000 in
set_option maxHeartbeats 4000000 in
theorem szDsL (ao : Option Addr) (cap : Nat) (es : List D) (left : Int) (w : World) (hm : es.length ≤ maxLen) (h0 : 0 ≤ left) (h1 : left ≤ 1048576) (hI : Dcs ao es w) (hin : ∀ e ∈ es, e.In ∧ (Lit.int .i64 e.mo).wf = true) :
    Calls Tryz.prog 16 #[.slice ao es.length cap, .int .i64 left] w fun e w' => SzOut left (es.length ≤ 1048576 ∧ ∀ e ∈ es, e.Sm) e ∧ Below w.heap.size w w' := by
  have HI := hid_intro hI
  have HIn := hid_intro hin
  have HEND : Hid (∀ L : Int, es.length ≤ 1048576 → (∀ i, i < es.length → (fun e : D => e.Sm) (es.getD i D.zero)) → 0 ≤ L → L ≤ left → SzOut left (es.length ≤ 1048576 ∧ ∀ e ∈ es, e.Sm) (.returned (.int .i64 L))) := hid_intro (fun L a b c d => ⟨L, rfl, .inr ⟨c, d, a, fun e he => by
    obtain ⟨i, hi, rfl⟩ := List.getElem_of_mem he
    have := b i hi
    rwa [show es.getD i D.zero = es[i] by simp [List.getD, hi]] at this⟩⟩)
  have HBAD : Hid (SzOut left (es.length ≤ 1048576 ∧ ∀ e ∈ es, e.Sm) (.returned (.int .i64 (-1)))) := hid_intro ⟨-1, rfl, .inl rfl⟩
  generalize SzOut left (es.length ≤ 1048576 ∧ ∀ e ∈ es, e.Sm) = PO at *
  obtain ⟨len, hl⟩ : ∃ len, len = es.length := ⟨_, rfl⟩
  rw [← hl] at hm HEND ⊢
  have HL := hid_intro hl
  unfold maxLen at hm
  clear hI hin hl
  by_cases hbig : left - (len : Int) < 0
  · go_enter Tryz.func16, Tryz.ntmps16
    go_wp2_with fail
    go_ret
    exact ⟨HBAD.out, Below.refl _ _⟩
  go_enter Tryz.func16, Tryz.ntmps16
  go_wp2_with fail
  go_loopw [5, 1] (fun x y wr => ∃ (j : Nat) (L : Int), j ≤ len ∧ x = .int .i64 j ∧ y = .int .i64 L ∧ 0 ≤ L ∧ L ≤ left ∧ Hid (∀ i, i < j → (fun e : D => e.Sm) (es.getD i D.zero)) ∧ Hid (Below w.heap.size w wr)) (fun x _ _ => len - (intOf x).toNat)
  case atStart => exact ⟨0, left - (len : Int), by omega, rfl, rfl, by omega, by omega, hid_intro (fun i hi => absurd hi (by omega)), hid_intro (Below.refl _ _)⟩
  case round =>
    obtain ⟨j, L, hj, rfl, rfl, l0, l1, HD, HB⟩ := hrel
    by_cases hlt : j < len
    · have hlt2 : (j : Int) < (len : Int) := by omega
      have hkl : j < es.length := by have := HL.out; omega
      obtain ⟨b, off, la, lc, rfl, hbl, c0, c1, c2, c3, hLi⟩ := (HI.out.below HB.out).at j hkl
      have hx := HIn.out _ (RowG.getD_mem (z := D.zero) es j hkl)
      have HMR : Hid ((fun e : D => e.Sm) (es.getD j D.zero) → ∀ i, i < j + 1 → (fun e : D => e.Sm) (es.getD i D.zero)) := hid_intro (fun h i hi => by
        by_cases e : i = j
        · subst e; exact h
        · exact HD.out i (by omega))
      generalize hX : es.getD j D.zero = X at *
      clear hX
      have HC := hid_intro (szD_any X la lc L wr l0 (by omega) hx.1 hLi)
      have HSM : Hid (¬ dszR L X < 0 → 0 ≤ dszR L X ∧ dszR L X ≤ L ∧ X.Sm) := hid_intro (fun h => ⟨by omega, (dsz_small (by omega) h).2, (dsz_small (by omega) h).1⟩)
      obtain ⟨xa, xm, xs, xl⟩ := X
      unfold dcells at HC
      dsimp only at c0 c1 c2 c3 HC
      generalize dszR L ⟨xa, xm, xs, xl⟩ = L2 at *
      generalize xl.length = ll at *
      clear hLi hx
      clear HD
      by_cases hs : L2 < 0
      · go_wp2_with fail
        refine HC.out.mono ?_
        rintro e w1 ⟨rfl, hb⟩
        have HB1 := hid_intro (HB.out.trans (hb.mono HB.out.size))
        clear hb c0 c1 c2 c3
        go_wp2_with fail
        go_ret
        exact ⟨HBAD.out, HB1.out⟩
      · obtain ⟨s0, s1, s2⟩ := HSM.out hs
        have HS2 := hid_intro (HMR.out s2)
        clear s2
        go_wp2_with fail
        refine HC.out.mono ?_
        rintro e w1 ⟨rfl, hb⟩
        have HB1 := hid_intro (HB.out.trans (hb.mono HB.out.size))
        clear hb c0 c1 c2 c3
        go_wp2_with fail
        go_roundw
        case rel => exact ⟨j + 1, L2, by omega, by go_num, rfl, s0, by omega, HS2, HB1⟩
        case measure => simp [intOf]; omega
    · have hlt2 : ¬ (j : Int) < (len : Int) := by omega
      obtain rfl : j = len := by omega
      go_wp2_with fail
      go_ret
      exact ⟨HEND.out L (by omega) HD.out l0 l1, HB.out⟩
end LedR
end Go.Proofs.YtdgomcpkbahfeaaGreatDoor
