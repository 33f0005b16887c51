/-
  The program's windows of an account, by their meters. The conditions: sizes of at most 1048576.
  impl.BillOf. The conditions: sizes of at most 1048576; the program's variables hold what its text lays.
  impl.BillOf over a catalog and windows. The conditions: sizes of at most 1048576; the program's variables hold what its text lays.
-/
import Derived.Shelf.SlSortCmp.NoneTotal
import Derived.Test.YtcilbmhkhllmjaaGreatDoorB23
namespace Go.Proofs.YtcilbmhkhllmjaaGreatDoor
open Go.ChangeShapes Go.WideShapes Go.ChangeAt Go.RowKit
set_option linter.unusedVariables false
namespace BilR
open LtR WinR
open RowG (Rws cellsAll cellsAll_app own_below own_made getD_mem take_more)
open CatR (Blk Blk.new)
open EvtR (Pt)
def ownF (a : ByteArray) (p : WP) : Bool := p.d.a.toList == a.toList
theorem filter_moreW (q : WP → Bool) (xs : List WP) (k : Nat) (h : k < xs.length) : (xs.take (k + 1)).filter q = (xs.take k).filter q ++ (bif q (xs.getD k WP.zero) then [xs.getD k WP.zero] else []) := by
  rw [take_more (z := WP.zero) xs k h, List.filter_append]
  generalize xs.getD k WP.zero = X
  cases hr : q X <;> simp [hr]
theorem infoW8 : (Tryz.prog.info? 74).map (fun i => (i.zero, i.size, i.bytes)) = some (some (.agg #[.string ⟨#[]⟩, .string ⟨#[]⟩, .int .i64 0, .int .i64 0, .int .i64 0, .int .i64 0, .slice none 0 0, .slice none 0 0]), 8, 112) := by kernel_rfl
theorem rws_at {ao : Option Addr} {ps : List WP} {w : World} (h : Rws 8 WP.cells WP.zero ao ps w) (k : Nat) (hk : k < ps.length) : ∃ b off, ao = some ⟨b, off, none⟩ ∧ b < w.heap.size ∧ ∀ i, i < 8 → w.cell? ⟨b, off + k * 8 + i, none⟩ = (ps.getD k WP.zero).cells[i]? := by
  rcases h with h0 | ⟨b, off, e, hl, hc⟩
  · omega
  · exact ⟨b, off, e, hl, fun i hi => hc k hk i hi⟩
set_option maxRecDepth 100000 in
set_option maxHeartbeats 4000000 in
theorem windows_of (ao : Option Addr) (cap : Nat) (ps : List WP) (a : ByteArray) (w : World) (hlen : ps.length ≤ 1048576) (hI : Rws 8 WP.cells WP.zero ao ps w) :
    Calls Tryz.prog 45 #[.string a, .slice ao ps.length cap] w fun e w' => ∃ bo cap' rs, e = .returned (.slice bo rs.length cap') ∧ rs.Perm (ps.filter (ownF a)) ∧ rs.Pairwise (fun x y => lt y.d.m x.d.m = false) ∧ Rws 8 WP.cells WP.zero bo rs w' ∧ Below w.heap.size w w' := by
  obtain ⟨i0, hi, hz0, hz1, hz2⟩ := info_parts infoW8
  have HI := hid_intro hI
  obtain ⟨len, hl⟩ : ∃ len, len = ps.length := ⟨_, rfl⟩
  rw [← hl] at hlen ⊢
  have HL := hid_intro hl
  have HEND : Hid (ps.take len = ps) := hid_intro (List.take_of_length_le (by omega))
  clear hI hl
  go_enter Tryz.func45, Tryz.ntmps45
  go_wp2_with fail
  go_loopw [5, 10] (fun v z wr => ∃ k : Nat, k ≤ len ∧ z = .int .i64 k ∧ Hid (wr.ownsRow w.heap.size 74 8 v ((ps.take k).filter (ownF a)).length (cellsAll WP.cells ((ps.take k).filter (ownF a)))) ∧ Hid (Below w.heap.size w wr)) (fun v z _ => len - (intOf z).toNat)
  case atStart => exact ⟨0, by omega, rfl, hid_intro (World.ownsRow_nil _ _ _ _), hid_intro (Below.refl _ _)⟩
  case round =>
    obtain ⟨k, hk, rfl, HO, HB⟩ := hrel
    by_cases hlt : k < len
    · have hlt2 : (k : Int) < (len : Int) := by omega
      obtain ⟨b', off, rfl, hbl, hc⟩ := rws_at (HI.out.below HB.out) k (by have := HL.out; omega)
      have HF := hid_intro (filter_moreW (ownF a) ps k (by have := HL.out; omega))
      have HLF : Hid (((ps.take k).filter (ownF a)).length ≤ 1048576) := hid_intro (by
        have h1 := List.length_filter_le (ownF a) (ps.take k)
        have h2 := List.length_take_le k ps
        omega)
      obtain ⟨F, hF⟩ : ∃ F, F = (ps.take k).filter (ownF a) := ⟨_, rfl⟩
      rw [← hF] at HO HF HLF
      clear hF
      generalize ps.getD k WP.zero = X at *
      obtain ⟨⟨xa, xm, xo, xe, xs, xx, xt, xh⟩, ta, tc, ha, hc'⟩ := X
      have c0 := hc 0 (by omega)
      have c1 := hc 1 (by omega)
      have c2 := hc 2 (by omega)
      have c3 := hc 3 (by omega)
      have c4 := hc 4 (by omega)
      have c5 := hc 5 (by omega)
      have c6 := hc 6 (by omega)
      have c7 := hc 7 (by omega)
      simp only [WP.cells, List.getElem?_cons_zero, List.getElem?_cons_succ, Nat.add_zero] at c0 c1 c2 c3 c4 c5 c6 c7
      have HOW : Hid (∀ j u, (WP.cells ⟨⟨xa, xm, xo, xe, xs, xx, xt, xh⟩, ta, tc, ha, hc'⟩)[j]? = some u → ∀ W : World, ∀ T, (W.alloc (.cells #[.string xa, .string xm, .int .i64 xo, .int .i64 xe, .int .i64 xs, .int .i64 xx, .slice ta xt.length tc, .slice ha xh.length hc'] T)).cell? ((⟨W.heap.size, 0, none⟩ : Addr).add j) = some u) := hid_intro (by
        intro j u hx W T
        have hB := (Blk.new W (WP.cells ⟨⟨xa, xm, xo, xe, xs, xx, xt, xh⟩, ta, tc, ha, hc'⟩) T).2 j (by have := (List.getElem?_eq_some_iff.1 hx).1; exact this)
        rw [hx] at hB
        have e : ((⟨W.heap.size, 0, none⟩ : Addr).add j) = ⟨W.heap.size, j, none⟩ := by
          by_cases h : j = 0
          · subst h; simp [Addr.add]
          · simp [Addr.add, h]
        rw [e]
        exact hB)
      have HOF : Hid (ownF a ⟨⟨xa, xm, xo, xe, xs, xx, xt, xh⟩, ta, tc, ha, hc'⟩ = (xa.toList == a.toList)) := hid_intro rfl
      clear hc
      cases hq : (xa.toList == a.toList)
      · rw [HOF.out, hq, cond_false, List.append_nil] at HF
        generalize xt.length = l1 at *
        generalize xh.length = l2 at *
        clear HOW
        go_wp2_with fail
        go_roundw
        case rel => exact ⟨k + 1, by omega, by go_num, hid_intro (by rw [HF.out]; exact HO.out.alloc _), hid_intro (HB.out.alloc HB.out.size _)⟩
        case measure => simp [intOf]; omega
      · rw [HOF.out, hq, cond_true] at HF
        have HCE : Hid (∃ cs, cs = WP.cells ⟨⟨xa, xm, xo, xe, xs, xx, xt, xh⟩, ta, tc, ha, hc'⟩) := hid_intro ⟨_, rfl⟩
        obtain ⟨l1, hl1⟩ : ∃ n, n = xt.length := ⟨_, rfl⟩
        obtain ⟨l2, hl2⟩ : ∃ n, n = xh.length := ⟨_, rfl⟩
        have HL1 := hid_intro hl1
        have HL2 := hid_intro hl2
        rw [← hl1] at c6
        rw [← hl2] at c7
        simp only [WP.cells, ← hl1, ← hl2] at HOW
        clear hl1 hl2
        obtain ⟨W1, hW1⟩ : ∃ z, z = wr.alloc (.cells #[.string xa, .string xm, .int .i64 xo, .int .i64 xe, .int .i64 xs, .int .i64 xx, .slice ta l1 tc, .slice ha l2 hc'] 74) := ⟨_, rfl⟩
        have HB1 : Hid (Below w.heap.size w W1) := hid_intro (by rw [hW1]; exact HB.out.alloc HB.out.size _)
        have HO1 : Hid (W1.ownsRow w.heap.size 74 8 u5 F.length (cellsAll WP.cells F)) := hid_intro (by rw [hW1]; exact HO.out.alloc _)
        have HS1 : Hid (W1.heap.size = wr.heap.size + 1) := hid_intro (by rw [hW1]; simp)
        have HW1 := hid_intro hW1
        clear hW1
        go_wp2_with (at_builtin; rw [← HW1.out]; refine wpList_append_own _ rfl _ _ 38 rfl w.heap.size 74 i0 (.agg #[.string ⟨#[]⟩, .string ⟨#[]⟩, .int .i64 0, .int .i64 0, .int .i64 0, .int .i64 0, .slice none 0 0, .slice none 0 0]) 8 112 Tryz.underlying38 hi hz0 hz1 hz2 rfl (by decide) _ _ _ rfl (HO1.out.alloc _) ⟨wr.heap.size + 1, 0, none⟩ 1 1 [.string xa, .string xm, .int .i64 xo, .int .i64 xe, .int .i64 xs, .int .i64 xx, .slice ta l1 tc, .slice ha l2 hc'] rfl rfl ?d1 ?d2 ?d3 ?d4 ?d5 ?_)
        case d1 =>
          intro j u hx
          have h := HOW.out j u hx W1 74
          rw [HS1.out] at h
          exact h
        case d2 =>
          intro u hu
          simp only [List.mem_cons, List.not_mem_nil, or_false] at hu
          rcases hu with rfl | rfl | rfl | rfl | rfl | rfl | rfl | rfl <;> rfl
        case d3 => unfold maxLen; have := HLF.out; omega
        case d4 => have := HLF.out; omega
        case d5 => have h1 := HB1.out.size; simp; omega
        intro v' w4 hown hgrow hne
        have hob : ∀ c, u5.ownBlock = some c → w.heap.size ≤ c := fun c hc => (HO1.out.lt c hc).1
        have HO4 : Hid (w4.ownsRow w.heap.size 74 8 v' (F ++ [(⟨⟨xa, xm, xo, xe, xs, xx, xt, xh⟩, ta, tc, ha, hc'⟩ : WP)]).length (cellsAll WP.cells (F ++ [(⟨⟨xa, xm, xo, xe, xs, xx, xt, xh⟩, ta, tc, ha, hc'⟩ : WP)]))) := hid_intro (by rw [cellsAll_app, List.length_append]; simp only [WP.cells, ← HL1.out, ← HL2.out]; exact hown)
        have HB4 : Hid (Below w.heap.size w w4) := hid_intro ((HB1.out.alloc HB1.out.size _).grown hgrow (HB1.out.alloc HB1.out.size _).size (fun c e => hob c e))
        clear hown hgrow hne hob
        go_wp2_with fail
        go_roundw
        case rel => exact ⟨k + 1, by omega, by go_num, hid_intro (by rw [HF.out]; exact HO4.out), HB4⟩
        case measure => simp [intOf]; omega
    · have hlt2 : ¬ (k : Int) < (len : Int) := by omega
      obtain rfl : k = len := by omega
      rw [HEND.out] at HO
      obtain ⟨F, hF⟩ : ∃ F, F = ps.filter (ownF a) := ⟨_, rfl⟩
      rw [← hF] at HO
      have HFE := hid_intro hF
      have HFL : Hid (F.length ≤ 1048576) := hid_intro (by rw [hF]; have h1 := List.length_filter_le (ownF a) ps; have := HL.out; omega)
      clear hF
      obtain ⟨bo, cap', rfl, hm⟩ := own_made (z := WP.zero) WP.len HO.out
      by_cases h0 : F.length = 0
      · obtain rfl : F = [] := List.length_eq_zero_iff.1 h0
        have HS := hid_intro (fun (W : World) => AnyF.slices_SortFunc_none Tryz.sortS bo cap' (.func (.func 98) #[] #[]) W)
        go_wp2_with fail
        refine (HS.out _).mono ?_
        rintro e w' ⟨rfl, rfl⟩
        go_wp2_with fail
        go_ret
        exact ⟨bo, cap', [], rfl, by rw [← HFE.out], List.Pairwise.nil, .inl rfl, HB.out⟩
      · rcases hm.own with q | ⟨g, rfl, hg, hp⟩
        · exact absurd q h0
        rcases hm.rws with q | ⟨b2, off2, e2, hl2, hc2⟩
        · exact absurd q h0
        simp only [Option.some.injEq, Addr.mk.injEq, and_true] at e2
        obtain ⟨rfl, rfl⟩ := e2
        have HS := hid_intro (sort_wds g 0 cap' F wr hl2 HFL.out (fun i hi j hj => hc2 i hi j hj) (fun o ho => by rw [Nat.zero_add]; exact hp.free o ho))
        clear hm hp hc2 HO
        generalize hFl : F.length = fl at *
        go_wp2_with fail
        refine HS.out.mono ?_
        rintro e w' ⟨rfl, rs, hp, hs, hgr, hR⟩
        have HR := hid_intro hR
        have HP := hid_intro hp
        have HSS := hid_intro hs
        have hrl : rs.length = fl := by rw [hp.length_eq, hFl]
        have HB4 := hid_intro (HB.out.grown hgr HB.out.size (fun c e => by cases e; exact hg))
        have HRL := hid_intro hrl
        clear hR hp hs hgr hrl
        go_wp2_with fail
        go_ret
        exact ⟨_, cap', rs, by rw [HRL.out]; rfl, by rw [← HFE.out]; exact HP.out, HSS.out, HR.out, HB4.out⟩
end BilR
end Go.Proofs.YtcilbmhkhllmjaaGreatDoor
namespace Go.Proofs.YtcilbmhkhllmjaaGreatDoor
open Go.ChangeShapes Go.WideShapes Go.ChangeAt Go.RowKit
set_option linter.unusedVariables false
namespace BilR
open LtR WinR LinR
open RowG (Rws cellsAll own_below getD_mem MadeG made_nil)
open CatR (Blk Blk.new Me Ca mFd MsRight IsCa caB crF)
/-- A bill that came out, its lines one's own. -/
def BlO (w : World) (O : List N × Int) (e : Ending) (w' : World) : Prop := ∃ ao cap, e = .returned (.agg #[.slice ao O.1.length cap, .int .i64 O.2]) ∧ MadeG 2 N.cells N.zero w.heap.size ao O.1 w' ∧ Below w.heap.size w w'
/-- Two cells that may be written. -/
def Z2 (p : Nat) (w : World) : Prop := p < w.heap.size ∧ w.cell? ⟨p, 0, none⟩ = some (.slice none 0 0) ∧ w.cell? ⟨p, 1, none⟩ = some (.int .i64 0) ∧ w.frozen? ⟨p, 0, none⟩ = false ∧ w.frozen? ⟨p, 1, none⟩ = false
theorem Z2.below {p : Nat} {w w' : World} (h : Z2 p w) (hb : Below w.heap.size w w') : Z2 p w' := by
  obtain ⟨h0, h1, h2, h3, h4⟩ := h
  exact ⟨by have := hb.size; omega, (hb.cell (p := ⟨p, 0, none⟩) h0).trans h1, (hb.cell (p := ⟨p, 1, none⟩) h0).trans h2, (hb.frozen (p := ⟨p, 0, none⟩) h0).trans h3, (hb.frozen (p := ⟨p, 1, none⟩) h0).trans h4⟩
theorem Z2.new (w : World) (T : TypeId) : Z2 w.heap.size (w.alloc (Obj.cells #[.slice none 0 0, .int .i64 0] T)) :=
  ⟨by simp, by simp [go_sem], by simp [go_sem], by simp [go_sem], by simp [go_sem]⟩
theorem below2 {w W : World} (hb : Below w.heap.size w W) {p : Nat} (hp : w.heap.size ≤ p) (x y : Value) : Below w.heap.size w ((W.setCell ⟨p, 0, none⟩ x).setCell ⟨p, 1, none⟩ y) :=
  (hb.setCell (p := ⟨p, 0, none⟩) hp _).setCell (p := ⟨p, 1, none⟩) hp _
theorem made_set {base0 base p o : Nat} {ao : Option Addr} {l : List N} {w : World} (h7 : MadeG 2 N.cells N.zero base0 ao l w) (h : MadeG 2 N.cells N.zero base ao l w) (hp : p < base0) (v : Value) : MadeG 2 N.cells N.zero base ao l (w.setCell ⟨p, o, none⟩ v) := by
  have hg := RowG.grown_set w p o v
  refine ⟨?_, ?_⟩
  · rcases h.rws with h0 | ⟨b, off, e, hl, hc⟩
    · exact .inl h0
    · rcases h7.own with h0 | ⟨g, e2, hg2, _⟩
      · exact .inl h0
      · have : g = b := by rw [e] at e2; simp at e2; exact e2.1.symm
        have eb := hg.block b hl (by simp; omega)
        exact .inr ⟨b, off, e, Nat.lt_of_lt_of_le hl hg.size, fun j hj i hi => (World.cell?_of_block (a := ⟨b, off + j * 2 + i, none⟩) eb).trans (hc j hj i hi)⟩
  · refine h.own.imp id ?_
    rintro ⟨g, e, hg1, hp1⟩
    exact ⟨g, e, hg1, WinR.ptA hp1⟩
theorem made_two {base0 base p : Nat} {ao : Option Addr} {l : List N} {w : World} (h7 : MadeG 2 N.cells N.zero base0 ao l w) (h : MadeG 2 N.cells N.zero base ao l w) (hp : p < base0) {x y : Value} : MadeG 2 N.cells N.zero base ao l ((w.setCell ⟨p, 0, none⟩ x).setCell ⟨p, 1, none⟩ y) := made_set (made_set h7 h7 hp x) (made_set h7 h hp x) hp y
/-- The catalog's block, as the regions read it. -/
def BxI (w : World) (ma : Option Addr) (ml mc : Nat) (ca : Option Addr) (cl cc : Nat) (W : World) : Prop := Below w.heap.size w W ∧ w.heap.size < W.heap.size ∧ W.cell? ⟨w.heap.size, 0, none⟩ = some (.slice ma ml mc) ∧ W.cell? ⟨w.heap.size, 1, none⟩ = some (.slice ca cl cc)
theorem BxI.below {w : World} {ma : Option Addr} {ml mc : Nat} {ca : Option Addr} {cl cc : Nat} {W W' : World} (h : BxI w ma ml mc ca cl cc W) (hb : Below W.heap.size W W') : BxI w ma ml mc ca cl cc W' := by
  obtain ⟨h0, h1, c0, c1⟩ := h
  have c := fun o => hb.cell (p := ⟨w.heap.size, o, none⟩) h1
  have := hb.size
  exact ⟨h0.trans (hb.mono h0.size), by omega, (c 0).trans c0, (c 1).trans c1⟩
theorem BxI.drew {w : World} {ma : Option Addr} {ml mc : Nat} {ca : Option Addr} {cl cc : Nat} {W : World} (h : BxI w ma ml mc ca cl cc W) : BxI w ma ml mc ca cl cc W.drew := ⟨h.1.drew, h.2⟩
theorem BxI.blk {w : World} {ma : Option Addr} {ml mc : Nat} {ca : Option Addr} {cl cc : Nat} {W : World} (h : BxI w ma ml mc ca cl cc W) : Blk w.heap.size [.slice ma ml mc, .slice ca cl cc] W := by
  obtain ⟨h0, h1, c0, c1⟩ := h
  exact ⟨h1, fun i hi => by
    match i, hi with
    | 0, _ => exact c0
    | 1, _ => exact c1⟩
set_option maxRecDepth 100000 in
set_option maxHeartbeats 8000000 in
theorem ibill_in (ma : Option Addr) (ml mc : Nat) (ca : Option Addr) (cl cc : Nat) (a : ByteArray) (wo : Option Addr) (wl wc : Nat) (O : List N × Int) (r1 r2 r3 : Bool) (cr : Int) (PO : List WP → Option Addr → World → Prop) (PC PL : Value → World → Prop) (w : World) (hwl : wl ≤ 1048576)
    (e2 : 8000 < a.size ∨ 400 < wl → O = ([], 2)) (e1 : ¬ (8000 < a.size ∨ 400 < wl) → (r1 && r2 && r3) = false → O = ([], 1))
    (hA : ∀ W, Below w.heap.size w W → Calls Tryz.prog 41 #[.agg #[.slice ma ml mc, .slice ca cl cc]] W fun e w' => e = .returned (.bool r1) ∧ Below W.heap.size W w')
    (hN : ∀ W, Calls Tryz.prog 42 #[.string a] W fun e w' => e = .returned (.bool r2) ∧ Below W.heap.size W w')
    (hW : ∀ W, Below w.heap.size w W → Calls Tryz.prog 43 #[.slice wo wl wc] W fun e w' => e = .returned (.bool r3) ∧ Below W.heap.size W w')
    (hO : ¬ (8000 < a.size ∨ 400 < wl) → (r1 && r2 && r3) = true → ∀ W, Below w.heap.size w W → Calls Tryz.prog 45 #[.string a, .slice wo wl wc] W fun e w' => ∃ bo cap rs, e = .returned (.slice bo rs.length cap) ∧ PO rs bo w' ∧ Below W.heap.size W w')
    (hC : ¬ (8000 < a.size ∨ 400 < wl) → (r1 && r2 && r3) = true → ∀ rs bo cap W, PO rs bo W → Below w.heap.size w W → Calls Tryz.prog 44 #[.agg #[.slice ma ml mc, .slice ca cl cc], .slice bo rs.length cap] W fun e w' => (∃ v cd, e = .returned (.tuple #[v, .int .i64 cd]) ∧ ((cd ≠ 0 ∧ O = ([], cd)) ∨ (cd = 0 ∧ PC v w'))) ∧ Below W.heap.size W w')
    (hR : ¬ (8000 < a.size ∨ 400 < wl) → (r1 && r2 && r3) = true → ∀ v W, PC v W → Below w.heap.size w W → Calls Tryz.prog 46 #[v] W fun e w' => (∃ v cd, e = .returned (.tuple #[v, .int .i64 cd]) ∧ ((cd ≠ 0 ∧ O = ([], cd)) ∨ (cd = 0 ∧ PL v w'))) ∧ Below W.heap.size W w')
    (hK : ∀ v W W', PL v W → Below W.heap.size W W' → PL v W')
    (hCr : ∀ W, Below w.heap.size w W → Calls Tryz.prog 47 #[.agg #[.slice ma ml mc, .slice ca cl cc], .string a] W fun e w' => e = .returned (.int .i64 cr) ∧ Below W.heap.size W w')
    (hD : ¬ (8000 < a.size ∨ 400 < wl) → (r1 && r2 && r3) = true → ∀ v W, PL v W → Calls Tryz.prog 20 #[v, .int .i64 cr] W fun e w' => ∃ ao cap, e = .returned (.slice ao O.1.length cap) ∧ O.2 = 0 ∧ MadeG 2 N.cells N.zero W.heap.size ao O.1 w' ∧ Below W.heap.size W w') :
    Calls Tryz.prog 10 #[.agg #[.slice ma ml mc, .slice ca cl cc], .string a, .slice wo wl wc] w fun e w' => BlO w O e w' := by
  have HE2 := hid_intro e2
  have HE1 := hid_intro e1
  have HA := hid_intro hA
  have HN := hid_intro hN
  have HW := hid_intro hW
  have HO := hid_intro hO
  have HC := hid_intro hC
  have HR := hid_intro hR
  have HK := hid_intro hK
  have HCR := hid_intro hCr
  have HD := hid_intro hD
  clear e2 e1 hA hN hW hO hC hR hK hCr hD
  obtain ⟨W0, hW0⟩ : ∃ z, z = (w.alloc (.cells #[.slice ma ml mc, .slice ca cl cc] 36)).alloc (.cells #[.slice none 0 0, .int .i64 0] 31) := ⟨_, rfl⟩
  have HB0 : Hid (Below w.heap.size w W0) := hid_intro (by rw [hW0]; exact ((Below.refl _ _).alloc (Nat.le_refl _) _).alloc (by simp) _)
  have HX0 : Hid (Blk w.heap.size [.slice ma ml mc, .slice ca cl cc] W0) := hid_intro (by rw [hW0]; exact (Blk.new w _ _).below ((Below.refl _ _).alloc (Nat.le_refl _) _))
  have HZ0 : Hid (Z2 (w.heap.size + 1) W0) := hid_intro (by rw [hW0]; have := Z2.new (w.alloc (.cells #[.slice ma ml mc, .slice ca cl cc] 36)) 31; simpa using this)
  have HW0 := hid_intro hW0
  clear hW0
  obtain ⟨B1, hB1⟩ : ∃ z, z = w.heap.size + 1 := ⟨_, rfl⟩
  rw [← hB1] at HZ0
  have HBE := hid_intro hB1
  have hBl : w.heap.size ≤ B1 := by omega
  clear hB1
  generalize hsz : a.size = sz at *
  by_cases qa : 8000 < sz
  · have qa2 : (8000 : Int) < (sz : Int) := by omega
    obtain rfl := HE2.out (.inl qa)
    go_enter Tryz.func10, Tryz.ntmps10
    go_wp2_with fail
    refine bodyPost_ret (v := .agg #[.slice none 0 0, .int .i64 2]) (by simp [results, Tryz.results10, go_sem]) rfl ⟨none, 0, rfl, made_nil _ _ _, ((Below.refl _ _).alloc (Nat.le_refl _) _).alloc (by simp) _⟩
  have qa2 : ¬ (8000 : Int) < (sz : Int) := by omega
  by_cases qb : 400 < wl
  · have qb2 : (400 : Int) < (wl : Int) := by omega
    obtain rfl := HE2.out (.inr qb)
    go_enter Tryz.func10, Tryz.ntmps10
    go_wp2_with fail
    refine bodyPost_ret (v := .agg #[.slice none 0 0, .int .i64 2]) (by simp [results, Tryz.results10, go_sem]) rfl ⟨none, 0, rfl, made_nil _ _ _, ((Below.refl _ _).alloc (Nat.le_refl _) _).alloc (by simp) _⟩
  have qb2 : ¬ (400 : Int) < (wl : Int) := by omega
  have HE := hid_intro (HE1.out (by omega))
  clear HE1 HE2
  go_enter Tryz.func10, Tryz.ntmps10
  go_wp2_with fail
  rw [← HW0.out, ← HBE.out]
  clear HW0
  refine (HA.out _ HB0.out).mono ?_
  rintro e w1 ⟨rfl, hb1⟩
  replace HB0 := hid_intro (HB0.out.trans (hb1.mono HB0.out.size))
  replace HX0 := hid_intro (HX0.out.below hb1)
  replace HZ0 := hid_intro (HZ0.out.below hb1)
  clear hb1
  cases r1
  · obtain rfl := HE.out rfl
    obtain ⟨zl, z0, z1, f0, f1⟩ := HZ0.out
    go_wp2_with fail
    refine bodyPost_ret (v := .agg #[.slice none 0 0, .int .i64 1]) (by simp [results, Tryz.results10, go_sem, z0, z1]) rfl ⟨none, 0, rfl, made_nil _ _ _, below2 HB0.out hBl _ _⟩
  go_wp2_with fail
  refine (HN.out _).mono ?_
  rintro e w2 ⟨rfl, hb2⟩
  replace HB0 := hid_intro (HB0.out.trans (hb2.mono HB0.out.size))
  replace HX0 := hid_intro (HX0.out.below hb2)
  replace HZ0 := hid_intro (HZ0.out.below hb2)
  clear hb2
  cases r2
  · obtain rfl := HE.out rfl
    obtain ⟨zl, z0, z1, f0, f1⟩ := HZ0.out
    go_wp2_with fail
    refine bodyPost_ret (v := .agg #[.slice none 0 0, .int .i64 1]) (by simp [results, Tryz.results10, go_sem, z0, z1]) rfl ⟨none, 0, rfl, made_nil _ _ _, below2 HB0.out hBl _ _⟩
  go_wp2_with fail
  refine (HW.out _ HB0.out).mono ?_
  rintro e w3 ⟨rfl, hb3⟩
  replace HB0 := hid_intro (HB0.out.trans (hb3.mono HB0.out.size))
  replace HX0 := hid_intro (HX0.out.below hb3)
  replace HZ0 := hid_intro (HZ0.out.below hb3)
  clear hb3
  cases r3
  · obtain rfl := HE.out rfl
    obtain ⟨zl, z0, z1, f0, f1⟩ := HZ0.out
    go_wp2_with fail
    refine bodyPost_ret (v := .agg #[.slice none 0 0, .int .i64 1]) (by simp [results, Tryz.results10, go_sem, z0, z1]) rfl ⟨none, 0, rfl, made_nil _ _ _, below2 HB0.out hBl _ _⟩
  replace HO := hid_intro (HO.out (by omega) rfl)
  replace HC := hid_intro (HC.out (by omega) rfl)
  replace HR := hid_intro (HR.out (by omega) rfl)
  replace HD := hid_intro (HD.out (by omega) rfl)
  clear HE
  have HS0 : Hid (BxI w ma ml mc ca cl cc w3) := hid_intro ⟨HB0.out, HX0.out.1, HX0.out.2 0 (by simp), HX0.out.2 1 (by simp)⟩
  have HS1 := hid_intro HS0.out.drew
  have HZ1 := hid_intro (HZ0.out.below ((Below.refl _ _).drew : Below w3.heap.size w3 w3.drew))
  clear HB0 HX0 HZ0
  go_wp2_with fail
  go_region_held3 (fun W => Below w.heap.size w W ∧ w.heap.size < W.heap.size ∧ W.cell? ⟨w.heap.size, 0, none⟩ = some (.slice ma ml mc) ∧ W.cell? ⟨w.heap.size, 1, none⟩ = some (.slice ca cl cc))
    (first | assumption | (exact HS0.out) | (exact HS1.out) | (exact BxI.below (w := w) (by assumption) hb4) | (exact BxI.below (w := w) (by assumption) hb5))
    (first | (go_at_call 45; refine (HO.out _ (by first | exact (by assumption : BxI w ma ml mc ca cl cc _).1 | exact HS1.out.1 | exact HS0.out.1)).mono ?_; rintro e w4 ⟨bo, cap, rs, rfl, hp, hb4⟩; have HP := hid_intro hp; have HZ4 := hid_intro (HZ1.out.below hb4)) | (go_at_call 44; refine (HC.out rs bo cap _ HP.out (by first | exact (by assumption : BxI w ma ml mc ca cl cc _).1 | exact HS1.out.1 | exact HS0.out.1)).mono ?_; rintro e w5 ⟨⟨v, cd, rfl, hq⟩, hb5⟩; have HZ5 := hid_intro (HZ4.out.below hb5); have HQ5 := hid_intro hq))
  rename_i hS5
  have HB0 := hid_intro hS5.1
  have HX0 : Hid (Blk w.heap.size [.slice ma ml mc, .slice ca cl cc] w5) := hid_intro (BxI.blk hS5)
  clear hS5 HS0 HS1 HO HC HP HZ1 HZ4
  have hq := HQ5.out
  clear HQ5 hb4 hb5 hp
  rcases hq with ⟨hcd, rfl⟩ | ⟨rfl, hpc⟩
  · have h1 : (cd == 0) = false := by simp [hcd]
    have h2 : (cd != 0) = true := by simp [hcd]
    obtain ⟨zl, z0, z1, f0, f1⟩ := HZ5.out
    go_wp2_with fail
    refine bodyPost_ret (v := .agg #[.slice none 0 0, .int .i64 cd]) (by simp [results, Tryz.results10, go_sem, z0, z1]) rfl ⟨none, 0, rfl, made_nil _ _ _, below2 HB0.out hBl _ _⟩
  have HPC := hid_intro hpc
  clear hpc
  go_wp2_with fail
  refine (HR.out _ _ HPC.out HB0.out).mono ?_
  rintro e w6 ⟨⟨v2, cd, rfl, hq⟩, hb6⟩
  replace HB0 := hid_intro (HB0.out.trans (hb6.mono HB0.out.size))
  replace HX0 := hid_intro (HX0.out.below hb6)
  have HZ0 := hid_intro (HZ5.out.below hb6)
  clear hb6 HZ5 HPC
  rcases hq with ⟨hcd, rfl⟩ | ⟨rfl, hpl⟩
  · have h1 : (cd == 0) = false := by simp [hcd]
    have h2 : (cd != 0) = true := by simp [hcd]
    obtain ⟨zl, z0, z1, f0, f1⟩ := HZ0.out
    go_wp2_with fail
    refine bodyPost_ret (v := .agg #[.slice none 0 0, .int .i64 cd]) (by simp [results, Tryz.results10, go_sem, z0, z1]) rfl ⟨none, 0, rfl, made_nil _ _ _, below2 HB0.out hBl _ _⟩
  have HPL := hid_intro hpl
  clear hpl
  have x0 := HX0.out.2 0 (by simp)
  have x1 := HX0.out.2 1 (by simp)
  have xL := HX0.out.1
  simp only [List.getElem?_cons_zero, List.getElem?_cons_succ] at x0 x1
  go_wp2_with fail
  refine (HCR.out _ HB0.out).mono ?_
  rintro e w7 ⟨rfl, hb7⟩
  replace HPL := hid_intro (HK.out _ _ _ HPL.out hb7)
  replace HB0 := hid_intro (HB0.out.trans (hb7.mono HB0.out.size))
  replace HX0 := hid_intro (HX0.out.below hb7)
  replace HZ0 := hid_intro (HZ0.out.below hb7)
  clear hb7
  clear x0 x1 xL
  go_wp2_with fail
  refine (HD.out _ _ HPL.out).mono ?_
  rintro e w8 ⟨ao, cap2, rfl, h0, hm, hb8⟩
  have HM := hid_intro (hm.low HB0.out.size)
  have H0 := hid_intro h0
  have HBL : Hid (B1 < w7.heap.size) := hid_intro HZ0.out.1
  have HM7 := hid_intro hm
  replace HB0 := hid_intro (HB0.out.trans (hb8.mono HB0.out.size))
  replace HX0 := hid_intro (HX0.out.below hb8)
  replace HZ0 := hid_intro (HZ0.out.below hb8)
  clear hm h0 hb8
  obtain ⟨zl, z0, z1, f0, f1⟩ := HZ0.out
  generalize hn : O.1.length = n1 at *
  go_wp2_with fail
  refine bodyPost_ret (v := .agg #[.slice ao n1 cap2, .int .i64 0]) (by simp [results, Tryz.results10, go_sem, z0, z1]) rfl ⟨ao, cap2, by rw [H0.out, hn], ?_, below2 HB0.out hBl _ _⟩
  exact made_two HM7.out HM.out HBL.out
end BilR
end Go.Proofs.YtcilbmhkhllmjaaGreatDoor
namespace Go.Proofs.YtcilbmhkhllmjaaGreatDoor
open Go.ChangeShapes Go.WideShapes Go.ChangeAt Go.RowKit
set_option linter.unusedVariables false
namespace BilR
open LtR WinR LinR
open RowG (Rws cellsAll own_below getD_mem MadeG made_nil own_made)
open CatR (Me Ca mFd MsRight MRight IsCa caB crF crO)
def ownP (a : ByteArray) (ps : List WP) : List WP := ps.filter (ownF a)
theorem own_map (a : ByteArray) : ∀ ps : List WP, (ownP a ps).map WP.d = (ps.map WP.d).filter (ownW a)
  | [] => rfl
  | p :: ps => by
    have ih := own_map a ps
    unfold ownP at ih ⊢
    rw [List.filter_cons, List.map_cons, List.filter_cons]
    have e : ownF a p = ownW a p.d := rfl
    rw [e]
    split
    · rw [List.map_cons, ih]
    · exact ih
theorem wsB_all {ws : List Wd} (h : wsB ws = true) : ∀ x ∈ ws, wB x = true := by
  unfold wsB at h
  rw [Bool.and_eq_true, List.all_eq_true] at h
  exact h.2
theorem ratC_zero {ms : List Me} : ∀ {l : List Wd}, ratC ms l = 0 → ∀ x ∈ l, rC ms x = 0
  | y :: l, h, x, hx => by
    unfold ratC at h
    by_cases q : rC ms y = 0
    · rw [if_pos q] at h
      rcases List.mem_cons.1 hx with rfl | h2
      · exact q
      · exact ratC_zero h x h2
    · rw [if_neg q] at h; exact absurd h q
/-- The rows that the program has picked and sorted, over a world. -/
def PoO (a : ByteArray) (ps : List WP) (rs : List WP) (bo : Option Addr) (W : World) : Prop := rs.Perm (ownP a ps) ∧ rs.Pairwise (fun x y => lt y.d.m x.d.m = false) ∧ Rws 8 WP.cells WP.zero bo rs W ∧ ∀ p ∈ rs, p.Reads W
def PcO (c : Ca) (a : ByteArray) (ps : List WP) (v : Value) (W : World) : Prop := ∃ rs gs bo cap, v = .slice bo gs.length cap ∧ rs.Perm (ownP a ps) ∧ Ris (fun p : WP => p.d.m) rs ∧ (∀ p ∈ rs, hasM c.ms p.d.m = true) ∧ Rws 3 CG.cells CG.zero bo gs W ∧ GsOk c.ms rs rs.length gs W
def PlO (c : Ca) (a : ByteArray) (O : List N × Int) (v : Value) (W : World) : Prop := ∃ L bo cap, v = .slice bo L.length cap ∧ O = (drawL (crF a c.cs) L, 0) ∧ SRight L ∧ Lis bo L W
theorem srt_of {a : ByteArray} {ps rs : List WP} {ws : List Wd} (he : ps.map WP.d = ws) (hp : rs.Perm (ownP a ps)) (hr : Ris (fun p : WP => p.d.m) rs) : rs.map WP.d = srt Wd.m (ws.filter (ownW a)) := by
  refine srt_eq ?_ ?_
  · exact List.pairwise_map.2 hr
  · rw [← he, ← own_map]
    exact hp.map _
theorem impl_bill (cv : Value) (c : Ca) (a : ByteArray) (wo : Option Addr) (wc : Nat) (ws : List Wd) (w : World) (hwl : ws.length ≤ 1048576) (ha : a.size ≤ 1048576) (hS : c.Small) (hsm : ∀ i, i < ws.length → (ws.getD i Wd.zero).Small)
    (hC : IsCa cv c w) (hL : CatR.Laid w) (hL2 : DateR.Laid w) (hL3 : FixR.Laid w) (hI : Wns wo ws w) :
    Calls Tryz.prog 10 #[cv, .string a, .slice wo ws.length wc] w fun e w' => BlO w (billB c a ws) e w' := by
  obtain ⟨ps, hps, hRw, hRd⟩ := wps_of hI
  have hpl : ps.length = ws.length := by rw [← hps, List.length_map]
  have hpm : ∀ p ∈ ps, p.d ∈ ws := fun p hp => by rw [← hps]; exact List.mem_map.2 ⟨p, hp, rfl⟩
  have hsm' : ∀ x ∈ ws, x.Small := fun x hx => by
    obtain ⟨i, hi, rfl⟩ := List.getElem_of_mem hx
    have := hsm i hi
    rwa [show ws.getD i Wd.zero = ws[i] by simp [List.getD, hi]] at this
  have hO1 : ¬ (8000 < a.size ∨ 400 < ws.length) → (caB c && NameR.nameB a && wsB ws) = true → billB c a ws = billR c a ws := fun h1 h2 => by unfold billB; rw [if_neg h1, if_pos h2]
  have hC' := hC
  obtain ⟨ma, mc, ca, cc, rfl, _⟩ := hC'
  refine ibill_in ma _ mc ca _ cc a wo ws.length wc (billB c a ws) (caB c) (NameR.nameB a) (wsB ws) (crO c a) (PoO a ps) (PcO c a ps) (PlO c a (billB c a ws)) w hwl ?_ ?_ ?_ ?_ ?_ ?_ ?_ ?_ ?_ ?_ ?_
  · exact fun h => by unfold billB; rw [if_pos h]
  · exact fun h1 h2 => by unfold billB; rw [if_neg h1, if_neg (by rw [h2]; exact Bool.false_ne_true)]
  · exact fun W hW => CatR.impl_ca _ c W hS (hC.below hW) (hL.below hW)
  · exact fun W => (NameR.impl_any a W ha).mono (by rintro e w' ⟨h, rfl⟩; exact ⟨h, Below.refl _ _⟩)
  · refine fun W hW => iwins_in wo wc ws W hwl (hI.below hW) (fun k hk ta tc h1 h2 W2 hW2 hT hH => ?_)
    obtain ⟨s1, s2, s3, s4, s5⟩ := hsm k hk
    exact impl_window_right _ ta tc h1 h2 W2 s1 s2 s3 s4 s5 ((hL2.below hW).below hW2) hT hH
  · intro _ _ W hW
    have h := windows_of wo wc ps a W (by omega) (hRw.below hW)
    rw [hpl] at h
    refine h.mono ?_
    rintro e w' ⟨bo, cap, rs, rfl, hp, hs, hr, hb⟩
    exact ⟨bo, cap, rs, rfl, ⟨hp, hs, hr, fun p hp' => ((hRd p (List.mem_filter.1 (hp.mem_iff.1 hp')).1).below hW).below hb⟩, hb⟩
  · intro hq ht rs bo cap W hPO hW
    obtain ⟨hp, hs, hr, hd⟩ := hPO
    have ht' := ht
    simp only [Bool.and_eq_true] at ht'
    obtain ⟨⟨t1, t2⟩, t3⟩ := ht'
    have hin : ∀ p ∈ rs, p.d ∈ ws := fun p hp' => hpm p (List.mem_filter.1 (hp.mem_iff.1 hp')).1
    have hlen : rs.length ≤ 1048576 := by
      have h1 := hp.length_eq
      have h2 : (ownP a ps).length ≤ ps.length := List.length_filter_le ..
      omega
    refine (charges_of _ c bo cap rs W hlen hS (hC.below hW) t1 (hL.below hW) (hL2.below hW) hr hs hd (fun p hp' => wsB_all t3 _ (hin p hp')) (fun p hp' => hsm' _ (hin p hp'))).mono ?_
    rintro e w' ⟨hR, hb⟩
    refine ⟨?_, hb⟩
    have hmp : (rs.map WP.d).Perm (ws.filter (ownW a)) := by rw [← hps, ← own_map]; exact hp.map _
    have hall : (ws.filter (ownW a)).all (fun x => hasM c.ms x.m) = true ↔ ∀ p ∈ rs, hasM c.ms p.d.m = true := by
      rw [List.all_eq_true]
      constructor
      · exact fun h p hp' => h _ (hmp.mem_iff.1 (List.mem_map.2 ⟨p, hp', rfl⟩))
      · intro h x hx
        obtain ⟨p, hp', rfl⟩ := List.mem_map.1 (hmp.mem_iff.2 hx)
        exact h p hp'
    have hnd : nodB ((ws.filter (ownW a)).map Wd.m) = true ↔ (rs.map (fun p : WP => p.d.m)).Nodup := by
      rw [nodB_iff, ← (hmp.map Wd.m).nodup_iff, List.map_map]; rfl
    rcases hR with ⟨v, rfl, p, hp', hn⟩ | ⟨hA, ⟨v, rfl, hn⟩ | ⟨v, gs, rfl, hri, ho, hg⟩⟩
    · refine ⟨v, 6, rfl, .inl ⟨by decide, ?_⟩⟩
      rw [hO1 hq ht]
      unfold billR
      rw [if_pos]
      cases hc : (ws.filter (ownW a)).all (fun x => hasM c.ms x.m)
      · rfl
      · have := hall.1 hc p hp'; rw [hn] at this; cases this
    · refine ⟨v, 10, rfl, .inl ⟨by decide, ?_⟩⟩
      rw [hO1 hq ht]
      unfold billR
      rw [if_neg (by rw [hall.2 hA]; exact fun e => by cases e), if_pos]
      cases hc : nodB ((ws.filter (ownW a)).map Wd.m)
      · rfl
      · exact absurd (hnd.1 hc) hn
    · obtain ⟨ao, cp, rfl, hm⟩ := own_made (z := CG.zero) CG.len ho
      exact ⟨_, 0, rfl, .inr ⟨rfl, rs, gs, ao, cp, rfl, hp, hri, hA, hm.rws, hg⟩⟩
  · intro hq ht v W hPC hW
    obtain ⟨rs, gs, bo, cap, rfl, hp, hri, hA, hr, hg⟩ := hPC
    have ht' := ht
    simp only [Bool.and_eq_true] at ht'
    obtain ⟨⟨t1, t2⟩, t3⟩ := ht'
    have hmR := (CatR.caB_iff.1 t1).1
    have hin : ∀ p ∈ rs, p.d ∈ ws := fun p hp' => hpm p (List.mem_filter.1 (hp.mem_iff.1 hp')).1
    have hS' := srt_of hps hp hri
    obtain ⟨S, hSe⟩ : ∃ S, S = srt Wd.m (ws.filter (ownW a)) := ⟨_, rfl⟩
    rw [← hSe] at hS'
    have hsl : S.length = gs.length := by rw [← hS', List.length_map, hg.1]
    have hmem : ∀ x ∈ S, ∃ p ∈ rs, p.d = x := fun x hx => by rw [← hS'] at hx; simpa using hx
    have hgd : ∀ i, i < gs.length → S.getD i Wd.zero = (rs.getD i WP.zero).d ∧ rs.getD i WP.zero ∈ rs := fun i hi => by
      have hi' : i < rs.length := by rw [← hg.1]; exact hi
      refine ⟨?_, getD_mem rs i hi'⟩
      rw [← hS']; simp [List.getD, hi']
    have hall : (ws.filter (ownW a)).all (fun x => hasM c.ms x.m) = true := by
      rw [List.all_eq_true]
      intro x hx
      have hx' : x ∈ S := by rw [hSe]; exact (srt_perm _).mem_iff.2 hx
      obtain ⟨p, hp', rfl⟩ := hmem x hx'
      exact hA p hp'
    have hRS : Ris Wd.m S := by rw [← hS']; exact List.pairwise_map.2 hri
    have hnd : nodB ((ws.filter (ownW a)).map Wd.m) = true := by
      rw [nodB_iff, ← ((srt_perm (f := Wd.m) (ws.filter (ownW a))).map Wd.m).nodup_iff, ← hSe]
      exact ris_nodup hRS
    have hO2 : billB c a ws = if ratC c.ms S ≠ 0 then ([], ratC c.ms S) else (drawL (crF a c.cs) ((S.map (rN c.ms)).filter nz), 0) := by
      rw [hO1 hq ht]
      unfold billR
      rw [if_neg (by rw [hall]; exact fun e => by cases e), if_neg (by rw [hnd]; exact fun e => by cases e), ← hSe]
    have hlen : gs.length ≤ 1048576 := by
      have h1 := hp.length_eq
      have h2 : (ownP a ps).length ≤ ps.length := List.length_filter_le ..
      have := hg.1
      omega
    have hfi : ∀ x ∈ S, MRight (mFd x.m c.ms) ∧ (mFd x.m c.ms).n = x.m ∧ wB x = true ∧ x.Small := fun x hx => by
      obtain ⟨p, hp', rfl⟩ := hmem x hx
      obtain ⟨f1, f2⟩ := has_found hmR (hA p hp')
      exact ⟨f1, f2, wsB_all t3 _ (hin p hp'), hsm' _ (hin p hp')⟩
    refine (rated_in c.ms S bo cap gs W hlen hsl hr (fun i hi => ?_) (fun i hi W2 hW2 => ?_)).mono ?_
    · obtain ⟨e1, e2⟩ := hgd i hi
      obtain ⟨f1, f2, f3, f4⟩ := hfi (S.getD i Wd.zero) (getD_mem S i (by omega))
      have e3 : (rN c.ms (S.getD i Wd.zero)).i = (S.getD i Wd.zero).m := f2
      rw [e3]
      refine ⟨?_, f4.2.1⟩
      rw [(hg.2 i (by rw [← hg.1]; exact hi)).1, e1]
    · obtain ⟨e1, e2⟩ := hgd i hi
      obtain ⟨f1, f2, f3, f4⟩ := hfi (S.getD i Wd.zero) (getD_mem S i (by omega))
      obtain ⟨g1, g2, g3⟩ := hg.2 i (by rw [← hg.1]; exact hi)
      rw [e1] at f1 f2 f3 f4 ⊢
      rw [g2]
      exact CatR.impl_rate _ _ _ W2 ((hL3.below hW).below hW2) f1 (valV_in f3 _) (g3.below hW2).1
    · rintro e w' ⟨hR, hb⟩
      refine ⟨?_, hb⟩
      rcases hR with ⟨hz, v, rfl⟩ | ⟨hz, v, rfl, ho⟩
      · exact ⟨v, _, rfl, .inl ⟨hz, by rw [hO2, if_pos hz]⟩⟩
      · obtain ⟨ao, cp, rfl, hm⟩ := own_made (cells := N.cells) (k := 2) (z := N.zero) (fun _ => rfl) ho
        refine ⟨_, 0, rfl, .inr ⟨rfl, _, ao, cp, rfl, by rw [hO2, if_neg (by rw [hz]; exact fun h => h rfl)], lines_right hmR hRS (fun x hx => ?_) (fun x hx => (hfi x hx).2.2.1) (fun x hx => ?_), hm.rws⟩⟩
        · obtain ⟨p, hp', rfl⟩ := hmem x hx
          exact hA p hp'
        · exact ratC_zero hz x hx
  · rintro v W W' ⟨L, bo, cap, rfl, h1, h2, h3⟩ hb
    exact ⟨L, bo, cap, rfl, h1, h2, h3.below hb⟩
  · exact fun W hW => CatR.impl_cr _ c a W hS (hC.below hW) (hL.below hW)
  · rintro hq ht v W ⟨L, bo, cap, rfl, h1, h2, h3⟩
    simp only [Bool.and_eq_true] at ht
    obtain ⟨⟨t1, t2⟩, t3⟩ := ht
    have hcr : crO c a = crF a c.cs := by unfold crO; rw [if_pos t1]
    have hd : drawB (crO c a) L = drawL (crF a c.cs) L := by
      unfold drawB
      obtain ⟨q1, q2⟩ := cr_in (CatR.caB_iff.1 t1).2 a
      rw [sB_iff.2 h2, hcr, decide_eq_true (by omega)]; rfl
    refine (impl_drawn bo cap L (crO c a) W (by have := h2.1; omega) (fun e he => ?_) h3).mono ?_
    · obtain ⟨i, hi, rfl⟩ := List.getElem_of_mem he
      have := (h2.2 i hi).2
      rw [show L.getD i N.zero = L[i] by simp [List.getD, hi]] at this
      unfold lOk at this
      simp only [Bool.and_eq_true] at this
      have := (CatR.name_le this.1).2
      omega
    · rintro e w' ⟨ao, cp, rfl, hm, hb⟩
      rw [hd] at hm ⊢
      rw [h1]
      exact ⟨ao, cp, rfl, rfl, hm, hb⟩
end BilR
end Go.Proofs.YtcilbmhkhllmjaaGreatDoor
