/-
  Drawn entries: some list of entries of short ids, in new memory; drawing writes the source's own block alone. The condition: the bytes are at most 1048576.
-/
import Derived.Test.YtbhabplchcigfaaDrawEv2
import Derived.Test.YtbhabplchcigfaaSnMath
import Derived.Test.YtbhabplchcigfaaDecSz
namespace Go.Proofs.Ytbhabplchcigfaa
open Go.ChangeShapes Go.WideShapes Go.ChangeAt Go.RowKit
set_option linter.unusedVariables false
namespace DrawR
open RowG SeenR
open EvtR (ev)
open LtR
theorem own_kept {w w' : World} {base e size n g : Nat} {v : Value} {xs : List Value} (h : w.ownsRow base e size v n xs) (hg : w.grownBy w' (some g)) (hb : g < base) : w'.ownsRow base e size v n xs := by
  refine h.kept hg ?_
  rcases hob : v.ownBlock with _ | b
  · exact .inl rfl
  · refine .inr (fun e => ?_)
    have := (h.lt b hob).1
    simp only [Option.some.injEq] at e
    omega
/-- A list of entries that was drawn so far: it lies in new memory and may grow. -/
def Sn (ao : Option Addr) (len cap g : Nat) (w : World) (es : List N) (v : Value) (W : World) : Prop := Src ao len cap g W ∧ w.grownBy W (some g) ∧ W.ownsRow w.heap.size 40 3 v es.length (cellsAll N.cells es) ∧ v ≠ .slice none 0 0 ∧ ∀ e ∈ es, e.i.size ≤ 100
theorem Sn.step {ao : Option Addr} {len cap g : Nat} {w : World} {es : List N} {v : Value} {W W' : World} (h : Sn ao len cap g w es v W) (hgl : g < w.heap.size) (hS : Src ao len cap g W') (hg : W.grownBy W' (some g)) : Sn ao len cap g w es v W' :=
  ⟨hS, Lib.grownBy_trans h.2.1 hg, own_kept h.2.2.1 hg hgl, h.2.2.2⟩
theorem Sn.below {ao : Option Addr} {len cap g : Nat} {w : World} {es : List N} {v : Value} {W W' : World} (h : Sn ao len cap g w es v W) (hb : Below W.heap.size W W') : Sn ao len cap g w es v W' :=
  ⟨h.1.kept (rgrown hb none) (fun k e => by cases e), Lib.grownBy_trans h.2.1 (rgrown hb (some g)), RowG.own_below h.2.2.1 hb, h.2.2.2⟩
theorem Sn.shape {ao : Option Addr} {len cap g : Nat} {w : World} {es : List N} {v : Value} {W : World} (h : Sn ao len cap g w es v W) : ∃ b c, v = .slice (some ⟨b, 0, none⟩) es.length c ∧ w.heap.size ≤ b ∧ es.length ≤ c ∧ c ≤ maxLen ∧ Ens (some ⟨b, 0, none⟩) es W := by
  obtain ⟨_, _, ho, hne, _⟩ := h
  obtain ⟨a', c', e', hm⟩ := own_made (z := N.zero) N.len ho
  have ho' := ho
  obtain ⟨hl, hn | ⟨b, c, cur, rfl, h1, h2, h3, h4, _⟩⟩ := ho
  · exact absurd hn.1 hne
  · simp only [Value.slice.injEq] at e'
    obtain ⟨rfl, _, rfl⟩ := e'
    exact ⟨b, c, rfl, h1, h3, h4, hm.rws⟩
theorem Sn.take {ao : Option Addr} {len cap g : Nat} {w : World} {es L : List N} {v : Value} {W W3 : World} {ao3 : Option Addr} {c3 : Nat} (h : Sn ao len cap g w es v W) (hb : Below W.heap.size W W3) (ho : L.length = 0 ∨ W3.ownsRow W.heap.size 40 3 (.slice ao3 L.length c3) L.length (cellsAll N.cells L)) (hL : 0 < L.length) (hs : ∀ e ∈ L, e.i.size ≤ 100) : Sn ao len cap g w L (.slice ao3 L.length c3) W3 := by
  have h3 := h.below hb
  exact ⟨h3.1, h3.2.1, SeenR.own_lo (ho.resolve_left (by omega)) h.2.1.size, fun e => by simp only [Value.slice.injEq] at e; omega, hs⟩
theorem Sn.app {ao : Option Addr} {len cap g : Nat} {w : World} {es : List N} {v v' : Value} {W W' : World} {o : Obj} {x : N} (h : Sn ao len cap g w es v W) (hgl : g < w.heap.size) (hown : W'.ownsRow w.heap.size 40 3 v' (es.length + 1) (cellsAll N.cells es ++ N.cells x)) (hgrow : (W.alloc o).grownBy W' v.ownBlock) (hx : x.i.size ≤ 100) : Sn ao len cap g w (es ++ [x]) v' W' := by
  have hob : ∀ c, v.ownBlock = some c → w.heap.size ≤ c := fun c hc => (h.2.2.1.lt c hc).1
  have ha := h.below ((Below.refl _ _).alloc (Nat.le_refl _) o)
  refine ⟨ha.1.kept hgrow (fun k e => by have := hob k e; omega), ?_, ?_, ?_, ?_⟩
  · have h2 := ha.2.1
    exact ⟨hgrow.os.trans h2.os, hgrow.tape.trans h2.tape, hgrow.output.trans h2.output, Nat.le_trans h2.size hgrow.size, fun k hk hne => (hgrow.block k (by have := h2.size; omega) (fun e => by have := hob k e.symm; omega)).trans (h2.block k hk hne)⟩
  · rw [cellsAll_app, List.length_append]; exact hown
  · rintro rfl
    rcases hown.2 with ⟨_, h0⟩ | ⟨_, _, _, h0, _⟩
    · omega
    · simp at h0
  · intro e he
    rw [List.mem_append, List.mem_singleton] at he
    rcases he with he | rfl
    · exact h.2.2.2.2 e he
    · exact hx
def lenS : Value → Nat
  | .slice _ n _ => n
  | _ => 0
theorem own_store {w : World} {base e size n b c : Nat} {xs : List Value} (h : w.ownsRow base e size (.slice (some ⟨b, 0, none⟩) n c) n xs) (j : Nat) (u : Value) : (w.setCell ⟨b, j, none⟩ u).ownsRow base e size (.slice (some ⟨b, 0, none⟩) n c) n (xs.set j u) := by
  obtain ⟨hl, hn | ⟨g', c', cur, e', h1, h2, h3, h4, h5, h6⟩⟩ := h
  · simp at hn
  · simp only [Value.slice.injEq, Option.some.injEq, Addr.mk.injEq, and_true, true_and] at e'
    obtain ⟨rfl, rfl⟩ := e'
    refine ⟨by rw [List.length_set]; exact hl, .inr ⟨b, c, cur.setIfInBounds j u, rfl, h1, ?_, h3, h4, by simpa using h5, ?_⟩⟩
    · simp only [World.setCell]
      rw [Array.getElem?_modify, if_pos rfl, h2]
      rfl
    · rw [Array.toList_setIfInBounds, ← h6, List.take_set]
theorem sn_first {ao : Option Addr} {len cap g : Nat} {w : World} {x : N} {es : List N} {b c : Nat} {W : World} (h : Sn ao len cap g w (x :: es) (.slice (some ⟨b, 0, none⟩) (es.length + 1) c) W) (hgl : g < w.heap.size) (hb : w.heap.size ≤ b) (s : Int) : Sn ao len cap g w (⟨x.i, x.n, s⟩ :: es) (.slice (some ⟨b, 0, none⟩) (es.length + 1) c) (W.setCell ⟨b, 2, none⟩ (.int .i64 s)) := by
  refine ⟨src_set h.1 (by omega) _ _, set_new h.2.1 hb _ _, ?_, by simp, ?_⟩
  · have := own_store h.2.2.1 2 (.int .i64 s)
    exact this
  · intro e he
    rw [List.mem_cons] at he
    rcases he with rfl | he
    · exact h.2.2.2.2 x (by simp)
    · exact h.2.2.2.2 e (by simp [he])
theorem tkL_small {es : List N} {i a m : ByteArray} {n k : Int} {t : ByteArray} (h : tkC es i a m n k t = 0) : 0 < (tkL es i a m n k t).length ∧ ∀ e ∈ tkL es i a m n k t, e.i.size ≤ 100 := by
  obtain ⟨_, h1, h2, _⟩ := take_law h
  obtain ⟨j, hj, _⟩ := has_iff.1 h2
  refine ⟨by omega, fun e he => ?_⟩
  have := (right_iff.1 (sB_iff.1 h1)).2.1 e he
  unfold eOk EvtR.idB at this
  simp only [Bool.and_eq_true, decide_eq_true_eq] at this
  have := this.1.1.2
  omega
theorem own_cell2 {w : World} {base n b c : Nat} {xs : List N} (hn : 0 < xs.length) (h : w.ownsRow base 40 3 (.slice (some ⟨b, 0, none⟩) xs.length c) xs.length (cellsAll N.cells xs)) : (∃ u, w.cell? ⟨b, 2, none⟩ = some u) ∧ w.frozen? ⟨b, 2, none⟩ = false ∧ b < w.heap.size := by
  obtain ⟨a', c', e', hm⟩ := own_made (z := N.zero) N.len h
  simp only [Value.slice.injEq] at e'
  obtain ⟨rfl, _, rfl⟩ := e'
  obtain ⟨g', e1, _, hp⟩ := hm.own.resolve_left (by omega)
  simp only [Option.some.injEq, Addr.mk.injEq, and_true] at e1
  subst e1
  exact ⟨hp.has 2 (by omega), hp.free 2 (by omega), hp.lt⟩
set_option maxRecDepth 100000 in
set_option maxHeartbeats 4000000 in
theorem seen_any (ao : Option Addr) (len cap g : Nat) (w : World) (hS : Src ao len cap g w) :
    Calls Try.prog 17 #[.pointer (some ⟨g, 0, none⟩)] w fun e w' => ∃ es v, e = .returned v ∧ es.length ≤ 60 ∧ Sn ao len cap g w es v w' := by
  obtain ⟨i0, hi, hz0, hz1, hz2⟩ := info_parts infoN
  have HS := hid_intro hS
  have hgl := hS.lt
  have HE := hid_intro (SeenR.own_empty w w.heap.size 40 3 (Nat.le_refl _))
  clear hS
  go_enter Try.func17, Try.ntmps17
  go_wp2_with fail
  refine (n_any ao len cap g 7 _ (by omega) (HS.out.alloc _)).mono ?_
  rintro e w1 ⟨v1, rfl, lo1, _, hi1, hS, hg⟩
  have ht1 : v1 < 7 := hi1 (by omega)
  have HN : Hid (Sn ao len cap g w [] (.slice (some ⟨w.heap.size, 0, none⟩) 0 0) w1) := hid_intro ⟨hS, Lib.grownBy_trans (World.grownBy_alloc _ _ _) hg, own_kept HE.out hg hgl, by simp, by simp⟩
  clear HS HE hS hg hi1
  go_wp2_with fail
  go_loopw [3, 4] (fun v z wr => ∃ (k : Nat) (es : List N), k ≤ 6 ∧ z = .int .i64 k ∧ es.length ≤ 40 ∧ Hid (Sn ao len cap g w es v wr)) (fun v z _ => (intOf z).toNat)
  case atStart => exact ⟨v1.toNat, [], by omega, by congr 1; omega, by simp, HN⟩
  case round =>
    obtain ⟨k, es, hk, rfl, hl, HN⟩ := hrel
    by_cases hlt : 0 < k
    · have hlt2 : (0 : Int) < (k : Int) := by omega
      go_wp2_with fail
      refine (event_any ao len cap g _ HN.out.1).mono ?_
      rintro e w2 ⟨⟨i, a, m, nn, kk, t, rfl, hi, ha, hm, ht⟩, hS, hg⟩
      replace HN := hid_intro (HN.out.step hgl hS hg)
      clear hS hg
      obtain ⟨b, c, rfl, hb, hc1, hc2, hI⟩ := HN.out.shape
      go_wp2_with fail
      refine (spec_take b 0 c es i a m nn kk t _ (by omega) (fun e he => by have := HN.out.2.2.2.2 e he; omega) (by omega) (by omega) (by omega) (by omega) hc1 hc2 hI).mono ?_
      rintro e w3 ⟨ao3, cap3, rfl, hm3, hb3, ho3⟩
      have hL40 : (tkL es i a m nn kk t).length ≤ 40 := tkL_len
      have HK := hid_intro (fun h => tkL_small (es := es) (i := i) (a := a) (m := m) (n := nn) (k := kk) (t := t) h)
      have HB3 := hid_intro hb3
      have HO3 := hid_intro ho3
      clear hm3 hb3 ho3 hI
      generalize tkL es i a m nn kk t = L at *
      generalize tkC es i a m nn kk t = C at *
      by_cases hC : C = 0
      · subst hC
        obtain ⟨hL1, hL2⟩ := HK.out rfl
        have HN3 := hid_intro (HN.out.take HB3.out HO3.out hL1 hL2)
        have HN4 := hid_intro (HN3.out.below ((Below.refl _ _).alloc (Nat.le_refl _) (.cells #[.slice ao3 L.length cap3, .int .i64 0] 29)))
        clear hL2
        go_wp2_with fail
        go_roundw
        case rel => exact ⟨k - 1, L, by omega, by congr 1; omega, hL40, HN4⟩
        case measure => simp [intOf]; omega
      · have HN4 := hid_intro ((HN.out.below HB3.out).below ((Below.refl _ _).alloc (Nat.le_refl _) (.cells #[.slice ao3 L.length cap3, .int .i64 C] 29)))
        go_wp2_with fail
        go_roundw
        case rel => exact ⟨k - 1, es, by omega, by congr 1; omega, hl, HN4⟩
        case measure => simp [intOf]; omega
    · have hlt2 : ¬ (0 : Int) < (k : Int) := by omega
      go_wp2_with fail
      refine (one_any ao len cap g 15 _ (by omega) HN.out.1).mono ?_
      rintro e w2 ⟨⟨q, rfl⟩, hS, hg⟩
      replace HN := hid_intro (HN.out.step hgl hS hg)
      clear hS hg
      cases q
      · go_wp2_with fail
        go_ret
        exact ⟨es, _, rfl, by omega, HN.out⟩
      · go_wp2_with fail
        refine (n_any ao len cap g 3 _ (by omega) HN.out.1).mono ?_
        rintro e w3 ⟨v3, rfl, lo3, _, hi3, hS, hg⟩
        have ht3 : v3 < 3 := hi3 (by omega)
        replace HN := hid_intro (HN.out.step hgl hS hg)
        clear hS hg hi3
        rcases (show v3 = 0 ∨ v3 = 1 ∨ v3 = 2 by omega) with rfl | rfl | rfl
        · go_wp2_with fail
          have HS1 := hid_intro (HN.out.1.alloc (.cells (List.map Value.string [⟨#[]⟩, ⟨#[101, 49]⟩, ⟨#[122, 122]⟩]).toArray 9))
          have HT1 := hid_intro (strs_new w3 [⟨#[]⟩, ⟨#[101, 49]⟩, ⟨#[122, 122]⟩] 100 9 (by decide))
          refine (pick_any ao len cap g w3.heap.size 3 100 _ (by omega) (by omega) (by have := HN.out.2.1.size; omega) HS1.out HT1.out).mono ?_
          rintro e w4 ⟨⟨t4, rfl, ht4⟩, hS, hg⟩
          replace HN := hid_intro ((HN.out.below ((Below.refl _ _).alloc (Nat.le_refl _) (.cells (List.map Value.string [⟨#[]⟩, ⟨#[101, 49]⟩, ⟨#[122, 122]⟩]).toArray 9))).step hgl hS hg)
          clear hS hg HS1 HT1
          go_wp2_with fail
          have HI1 := hid_intro (HN.out.below ((Below.refl _ _).alloc (Nat.le_refl _) (.cells (List.map (Value.int .i64) [0, -1]).toArray 2)))
          refine (n_any ao len cap g 2 _ (by omega) HI1.out.1).mono ?_
          rintro e w5 ⟨v5, rfl, lo5, _, hi5, hS, hg⟩
          have ht5 : v5 < 2 := hi5 (by omega)
          have hcell : ∀ (j : Nat) X, [(0 : Int), -1][j]? = some X → w5.cell? ⟨w4.heap.size, j, none⟩ = some (.int .i64 X) := by
            intro j X hX
            rw [World.cell?_of_block (a := ⟨w4.heap.size, j, none⟩) (hg.block w4.heap.size (by simp) (by have := HN.out.2.1.size; simp; omega))]
            exact ints_cell w4 [0, -1] _ j X hX
          have c0 := hcell 0 0 rfl
          have c1 := hcell 1 (-1) rfl
          replace HN := hid_intro (HI1.out.step hgl hS hg)
          have hsz : w.heap.size ≤ w5.heap.size := HN.out.2.1.size
          clear hS hg HI1 hi5 hcell
          rcases (show v5 = 0 ∨ v5 = 1 by omega) with rfl | rfl
          · go_wp2_with (at_builtin; refine wpList_append_own _ rfl _ _ 23 rfl w.heap.size 40 i0 (.agg #[.string ⟨#[]⟩, .int .i64 0, .int .i64 0]) 3 32 Try.underlying23 hi hz0 hz1 hz2 rfl (by decide) _ _ _ rfl (HN.out.2.2.1.alloc _) ⟨w5.heap.size, 0, none⟩ 1 1 (N.cells ⟨t4, 0, 0⟩) rfl rfl ?d1 ?d2 ?d3 ?d4 ?d5 ?_)
            case d1 => exact SeenR.three_cells ⟨t4, 0, 0⟩ w5
            case d2 => exact SeenR.one_one _
            case d3 => unfold maxLen; omega
            case d4 => omega
            case d5 => simp; omega
            intro v' w6 hown hgrow hne
            have HN6 := hid_intro (HN.out.app (x := ⟨t4, 0, 0⟩) hgl hown hgrow ht4)
            clear hown hgrow hne c0 c1
            go_wp2_with fail
            go_ret
            exact ⟨_, _, rfl, by simp; omega, HN6.out⟩
          · go_wp2_with (at_builtin; refine wpList_append_own _ rfl _ _ 23 rfl w.heap.size 40 i0 (.agg #[.string ⟨#[]⟩, .int .i64 0, .int .i64 0]) 3 32 Try.underlying23 hi hz0 hz1 hz2 rfl (by decide) _ _ _ rfl (HN.out.2.2.1.alloc _) ⟨w5.heap.size, 0, none⟩ 1 1 (N.cells ⟨t4, -1, 0⟩) rfl rfl ?f1 ?f2 ?f3 ?f4 ?f5 ?_)
            case f1 => exact SeenR.three_cells ⟨t4, -1, 0⟩ w5
            case f2 => exact SeenR.one_one _
            case f3 => unfold maxLen; omega
            case f4 => omega
            case f5 => simp; omega
            intro v' w6 hown hgrow hne
            have HN6 := hid_intro (HN.out.app (x := ⟨t4, -1, 0⟩) hgl hown hgrow ht4)
            clear hown hgrow hne c0 c1
            go_wp2_with fail
            go_ret
            exact ⟨_, _, rfl, by simp; omega, HN6.out⟩
        · go_wp2_with fail
          go_loopw [3, 6] (fun v z wr => ∃ (i : Nat) (es : List N), i ≤ es.length ∧ es.length ≤ 41 ∧ z = .int .i64 i ∧ Hid (Sn ao len cap g w es v wr)) (fun v z _ => 50 - lenS v)
          case atStart => exact ⟨0, es, by omega, by omega, rfl, HN⟩
          case round =>
            clear HN hl
            clear es
            obtain ⟨i, es, hie, hle, rfl, HN⟩ := hrel
            obtain ⟨b, c, rfl, hb, hc1, hc2, hI⟩ := HN.out.shape
            clear hI
            go_wp2_with fail
            refine (n_any ao len cap g 3 _ (by omega) HN.out.1).mono ?_
            rintro e w4 ⟨v4, rfl, lo4, _, hi4, hS, hg⟩
            have ht4 : v4 < 3 := hi4 (by omega)
            replace HN := hid_intro (HN.out.step hgl hS hg)
            clear hS hg hi4
            by_cases hq : (es.length : Int) < 39 + v4
            · go_wp2_with fail
              have e100 : (100 : Int) + (i : Int) = ((100 + i : Nat) : Int) := by omega
              rw [e100]
              refine (dec_sz (100 + i) (by omega) _).mono ?_
              rintro e w5 ⟨⟨T, rfl, hT⟩, hb5⟩
              replace HN := hid_intro (HN.out.below hb5)
              have hsz : w.heap.size ≤ w5.heap.size := HN.out.2.1.size
              have q1 : ¬ 9223372036854775807 < (⟨#[120]⟩ : ByteArray).size + T.size := by have : (⟨#[120]⟩ : ByteArray).size = 1 := rfl; omega
              have q2 : ¬ 9223372036854775807 < 1 + T.size := by omega
              obtain ⟨X, hX⟩ : ∃ X : ByteArray, X = (⟨#[120]⟩ : ByteArray) ++ T := ⟨_, rfl⟩
              have HX : Hid (X.size ≤ 100) := hid_intro (by rw [hX, ByteArray.size_append]; have : (⟨#[120]⟩ : ByteArray).size = 1 := rfl; omega)
              have HXe := hid_intro hX
              clear hb5 hX e100
              go_wp2_with (rw [← HXe.out]; at_builtin; refine wpList_append_own _ rfl _ _ 23 rfl w.heap.size 40 i0 (.agg #[.string ⟨#[]⟩, .int .i64 0, .int .i64 0]) 3 32 Try.underlying23 hi hz0 hz1 hz2 rfl (by decide) _ _ _ rfl (HN.out.2.2.1.alloc _) ⟨w5.heap.size, 0, none⟩ 1 1 (N.cells ⟨X, 0, 0⟩) rfl rfl ?h1 ?h2 ?h3 ?h4 ?h5 ?_)
              case h1 => exact SeenR.three_cells ⟨X, 0, 0⟩ w5
              case h2 => exact SeenR.one_one _
              case h3 => unfold maxLen; omega
              case h4 => omega
              case h5 => simp; omega
              intro v' w6 hown hgrow hne
              have HN6 := hid_intro (HN.out.app (x := ⟨X, 0, 0⟩) hgl hown hgrow HX.out)
              clear hown hgrow hne
              obtain ⟨b6, c6, rfl, _⟩ := HN6.out.shape
              go_wp2_with fail
              go_roundw
              case rel => exact ⟨i + 1, es ++ [⟨X, 0, 0⟩], by simp; omega, by simp; omega, by go_num, HN6⟩
              case measure => simp [lenS]; omega
            · go_wp2_with fail
              go_ret
              exact ⟨es, _, rfl, by omega, HN.out⟩
        · obtain ⟨b, c, rfl, hb, hc1, hc2, hI⟩ := HN.out.shape
          clear hI
          cases es with
          | nil =>
            simp only [List.length_nil] at *
            go_wp2_with fail
            go_ret
            exact ⟨[], _, rfl, by simp, HN.out⟩
          | cons x es =>
            simp only [List.length_cons] at *
            have hl2 : (0 : Int) < ((es.length + 1 : Nat) : Int) := by omega
            go_wp2_with fail
            have HI1 := hid_intro (HN.out.below ((Below.refl _ _).alloc (Nat.le_refl _) (.cells (List.map (Value.int .i64) [-1, 4294967295, 4294967296]).toArray 2)))
            refine (n_any ao len cap g 3 _ (by omega) HI1.out.1).mono ?_
            rintro e w5 ⟨v5, rfl, lo5, _, hi5, hS, hg⟩
            have ht5 : v5 < 3 := hi5 (by omega)
            have hcell : ∀ (j : Nat) X, [(-1 : Int), 4294967295, 4294967296][j]? = some X → w5.cell? ⟨w3.heap.size, j, none⟩ = some (.int .i64 X) := by
              intro j X hX
              rw [World.cell?_of_block (a := ⟨w3.heap.size, j, none⟩) (hg.block w3.heap.size (by simp) (by have := HN.out.2.1.size; simp; omega))]
              exact ints_cell w3 [-1, 4294967295, 4294967296] _ j X hX
            have c0 := hcell 0 _ rfl
            have c1 := hcell 1 _ rfl
            have c2 := hcell 2 _ rfl
            replace HN := hid_intro (HI1.out.step hgl hS hg)
            obtain ⟨⟨u2, hu2⟩, hf2, hbl⟩ := own_cell2 (xs := x :: es) (n := 0) (by simp) HN.out.2.2.1
            clear hS hg HI1 hi5 hcell
            rcases (show v5 = 0 ∨ v5 = 1 ∨ v5 = 2 by omega) with rfl | rfl | rfl
            all_goals
              go_wp2_with fail
              go_ret
              exact ⟨_, _, rfl, by simp; omega, sn_first HN.out hgl hb _⟩
end DrawR
end Go.Proofs.Ytbhabplchcigfaa
