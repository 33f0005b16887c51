/-
  Drawn on both sides: what is left of lines behind a credit. The condition: at most 1048576 lines, whose Meters have at most 1048576 bytes.
  Answers that are lists of lines: read, of one's own, kept, marked. The conditions: at most 1048576 lines.
  Lists put into the order of a text of theirs, each in its place: one rising list of the same elements alone. No condition.
  The program's rising lists: whether hours rise. The condition: at most 1048576 of them.
  Leap years, and the days of the week: either side tells the same. No condition.
  The days of a month, and whether a date is right: either side tells the same. The condition: the program's table stands in its variable.
  Whether a date is right: either side tells the same. The condition: the program's table stands in its variable.
-/
import Derived.Deep.QuietTactic
import Derived.BigQuiet
import Derived.Deep.RegionHeld3
import Derived.Deep.DrawnRows
import Derived.Test.YtcilbmhkhllmjaaGreatDoorB8
namespace Go.Proofs.YtcilbmhkhllmjaaGreatDoor
open Go.ChangeShapes Go.WideShapes Go.ChangeAt Go.RowKit
set_option linter.unusedVariables false
namespace LinR
open RowG LtR
open ClampR (clamp)
/-- What is paid of a line. -/
def pd (c n : Int) : Int := clamp n 0 c
theorem pd_bd {c n : Int} (hc : 0 ≤ c) : 0 ≤ pd c n ∧ pd c n ≤ c ∧ (n ≤ 0 → pd c n = 0) ∧ (0 < n → pd c n ≤ n ∧ (pd c n = n ∨ pd c n = c)) := by
  unfold pd clamp
  split <;> (try split) <;> omega
/-- The credit ahead of a line, the lines behind it. -/
def cr (c : Int) (es : List N) : Nat → Int
  | 0 => c
  | k + 1 => cr c es k - pd (cr c es k) (es.getD k N.zero).n
def dl (c : Int) (es : List N) : Nat → List N
  | 0 => []
  | k + 1 => dl c es k ++ [⟨(es.getD k N.zero).i, (es.getD k N.zero).n - pd (cr c es k) (es.getD k N.zero).n⟩]
theorem dl_len (c : Int) (es : List N) : ∀ k, (dl c es k).length = k
  | 0 => rfl
  | k + 1 => by simp [dl, dl_len c es k]
theorem cr_bd {c : Int} (es : List N) (hc : 0 ≤ c) : ∀ k, 0 ≤ cr c es k ∧ cr c es k ≤ c
  | 0 => ⟨hc, Int.le_refl _⟩
  | k + 1 => by
    have h := cr_bd es hc k
    have p := pd_bd (n := (es.getD k N.zero).n) h.1
    simp only [cr]
    omega
theorem dl_mem {c : Int} {es : List N} : ∀ {k}, k ≤ es.length → ∀ e ∈ dl c es k, ∃ x ∈ es, e.i = x.i
  | 0, _, e, h => by cases h
  | k + 1, hk, e, h => by
    rcases List.mem_append.1 h with h | h
    · exact dl_mem (by omega) e h
    · simp only [List.mem_singleton] at h
      exact ⟨_, getD_mem (z := N.zero) es k (by omega), by rw [h]⟩
/-- Both answers. -/
def drawL (c : Int) (es : List N) : List N := (dl c es es.length).filter nz
def drawB (c : Int) (es : List N) : List N := bif sB es && decide (0 ≤ c ∧ c ≤ 1000000000000000) then drawL c es else []
theorem inS (n low high : Int) (w : World) :
    Calls Tryz.prog 66 #[.int .i64 n, .int .i64 low, .int .i64 high] w fun e w' => e = .returned (.bool (decide (low ≤ n ∧ n ≤ high))) ∧ w' = w := by
  rcases (show (¬ low ≤ n) ∨ (low ≤ n ∧ ¬ n ≤ high) ∨ (low ≤ n ∧ n ≤ high) by omega) with h | ⟨h1, h2⟩ | ⟨h1, h2⟩
  all_goals
    go_enter Tryz.func66, Tryz.ntmps66
    go_wp2
    go_ret
    exact ⟨ret_bool (by first | (simp [*]; done) | (simp; omega)), rfl⟩
theorem isS (n low high : Int) (w : World) :
    Calls Tryz.prog 69 #[.int .i64 n, .int .i64 low, .int .i64 high] w fun e w' => e = .returned (.bool (decide (low ≤ n ∧ n ≤ high))) ∧ w' = w := by
  rcases (show (¬ low ≤ n) ∨ (low ≤ n ∧ ¬ n ≤ high) ∨ (low ≤ n ∧ n ≤ high) by omega) with h | ⟨h1, h2⟩ | ⟨h1, h2⟩
  all_goals
    go_enter Tryz.func69, Tryz.ntmps69
    go_wp2
    go_ret
    exact ⟨ret_bool (by first | (simp [*]; done) | (simp; omega)), rfl⟩
/-- What is handed back. -/
def Res (w : World) (l : List N) (e : Ending) (w' : World) : Prop := ∃ ao cap, e = .returned (.slice ao l.length cap) ∧ MadeG 2 N.cells N.zero w.heap.size ao l w' ∧ Below w.heap.size w w'
theorem res_own {w w' : World} {l : List N} {v : Value} (h : w'.ownsRow w.heap.size 58 2 v l.length (cellsAll N.cells l)) (hb : Below w.heap.size w w') : Res w l (.returned v) w' := by
  obtain ⟨ao, cap, rfl, hm⟩ := own_made (z := N.zero) N.len h
  exact ⟨ao, cap, rfl, hm, hb⟩
theorem sub_w {a b : Int} (h : -4000000000000000 ≤ a - b ∧ a - b ≤ 4000000000000000) : wrap64 (a - b) = a - b := by unfold wrap64; omega
set_option maxRecDepth 100000 in
set_option maxHeartbeats 4000000 in
theorem impl_drawn (ao : Option Addr) (cap : Nat) (es : List N) (c : Int) (w : World) (hlen : es.length ≤ 1048576) (hS : ∀ e ∈ es, e.i.size ≤ 1048576) (hI : Lis ao es w) :
    Calls Tryz.prog 20 #[.slice ao es.length cap, .int .i64 c] w fun e w' => Res w (drawB c es) e w' := by
  obtain ⟨i0, hi, hz0, hz1, hz2⟩ := info_parts infoN
  have H1 := hid_intro (impl_lines ao cap es w hlen hS hI)
  have H2 := hid_intro (fun w => inS c 0 1000000000000000 w)
  have HT : Hid (drawB c es = bif sB es && decide (0 ≤ c ∧ c ≤ 1000000000000000) then drawL c es else []) := rfl
  have HR := hid_intro (sB_iff (es := es)).1
  have HC0 : Hid (decide (0 ≤ c ∧ c ≤ 1000000000000000) = true → 0 ≤ c ∧ c ≤ 1000000000000000) := hid_intro (fun h => by simpa using h)
  have HI := hid_intro hI
  have HPT := hid_intro (fun bo cap' W (h : Lis bo (dl c es es.length) W) (h6 : es.length ≤ 40) => put_any bo cap' (dl c es es.length) W (by rw [dl_len]; omega) (fun e he => by obtain ⟨x, hx, e1⟩ := dl_mem (Nat.le_refl _) e he; rw [e1]; exact hS x hx) h)
  have HDL : Hid (drawL c es = (dl c es es.length).filter nz) := rfl
  rw [← HDL.out, dl_len] at HPT
  generalize drawB c es = D at *
  generalize sB es = r at *
  generalize decide (0 ≤ c ∧ c ≤ 1000000000000000) = q at *
  obtain ⟨len, hl⟩ : ∃ len, len = es.length := ⟨_, rfl⟩
  rw [← hl] at hlen H1 HPT HDL ⊢
  have HL := hid_intro hl
  clear hI hS hl
  cases r
  · go_enter Tryz.func20, Tryz.ntmps20
    go_wp2_with fail
    refine (H1.out).mono ?_
    rintro e w1 ⟨rfl, hb1⟩
    have HB := hid_intro hb1
    clear hb1
    go_wp2_with fail
    go_ret
    rw [HT.out]
    exact ⟨none, 0, rfl, made_nil _ _ _, HB.out⟩
  cases q
  · go_enter Tryz.func20, Tryz.ntmps20
    go_wp2_with fail
    refine (H1.out).mono ?_
    rintro e w1 ⟨rfl, hb1⟩
    have HB := hid_intro hb1
    clear hb1
    go_wp2_with (go_at_call 66; refine (H2.out _).mono ?_; rintro e w2 ⟨rfl, rfl⟩)
    go_ret
    rw [HT.out]
    exact ⟨none, 0, rfl, made_nil _ _ _, HB.out⟩
  have HQ := hid_intro (HR.out rfl)
  have HC := hid_intro (HC0.out rfl)
  have h6 : len ≤ 6 := by have := HQ.out.1; have := HL.out; omega
  go_enter Tryz.func20, Tryz.ntmps20
  go_wp2_with fail
  refine (H1.out).mono ?_
  rintro e w1 ⟨rfl, hb1⟩
  have HB := hid_intro hb1
  clear hb1
  go_wp2_with (go_at_call 66; refine (H2.out _).mono ?_; rintro e w2 ⟨rfl, rfl⟩)
  go_loopw [1, 5, 19] (fun x v z wr => ∃ k : Nat, k ≤ len ∧ x = .int .i64 (cr c es k) ∧ z = .int .i64 k ∧ Hid (wr.ownsRow w.heap.size 58 2 v k (cellsAll N.cells (dl c es k))) ∧ Hid (Below w.heap.size w wr)) (fun x v z _ => len - (intOf z).toNat)
  case atStart => exact ⟨0, by omega, rfl, rfl, hid_intro (World.ownsRow_nil _ _ _ _), HB⟩
  case round =>
    obtain ⟨k, hk, rfl, rfl, HO, HB⟩ := hrel
    by_cases hlt : k < len
    · have hlt2 : (k : Int) < (len : Int) := by omega
      obtain ⟨b, off, rfl, hbl, c0, c1⟩ := (HI.out.below HB.out).at k (by have := HL.out; omega)
      have HIN := hid_intro (line_in HQ.out k (by have := HL.out; omega))
      have HCB := hid_intro (cr_bd es HC.out.1 k)
      have HN1 : Hid (cr c es (k + 1) = cr c es k - pd (cr c es k) (es.getD k N.zero).n) := rfl
      have HN2 : Hid (dl c es (k + 1) = dl c es k ++ [⟨(es.getD k N.zero).i, (es.getD k N.zero).n - pd (cr c es k) (es.getD k N.zero).n⟩]) := rfl
      generalize es.getD k N.zero = X at *
      obtain ⟨xi, xn⟩ := X
      dsimp only at c0 c1 HIN HN1 HN2
      have HPD := hid_intro (pd_bd (n := xn) HCB.out.1)
      have HCL := hid_intro (fun w => ClampR.impl_any xn 0 (cr c es k) w)
      have hpe : clamp xn 0 (cr c es k) = pd (cr c es k) xn := rfl
      rw [hpe] at HCL
      have w1 : wrap64 (cr c es k - pd (cr c es k) xn) = cr c es k - pd (cr c es k) xn := sub_w (by have := HPD.out; have := HCB.out; have := HC.out; omega)
      have w2 : wrap64 (xn - pd (cr c es k) xn) = xn - pd (cr c es k) xn := sub_w (by have := HPD.out; have := HCB.out; have := HC.out; have := HIN.out; omega)
      have HLD := hid_intro (dl_len c es k)
      generalize pd (cr c es k) xn = p at *
      generalize dl c es k = F at *
      generalize cr c es k = C at *
      clear hpe
      go_wp2_with (first | (go_at_call 67; refine (HCL.out _).mono ?_; rintro e w3 ⟨rfl, rfl⟩) | (at_builtin; refine wpList_append_own _ rfl _ _ 29 rfl w.heap.size 58 i0 (.agg #[.string ⟨#[]⟩, .int .i64 0]) 2 24 Tryz.underlying29 hi hz0 hz1 hz2 rfl (by decide) _ _ _ rfl ((HO.out.alloc _).alloc _) ⟨_, 0, none⟩ 1 1 (N.cells ⟨xi, xn - p⟩) rfl rfl ?d1 ?d2 ?d3 ?d4 ?d5 ?_))
      case d1 =>
        intro j u hx
        have := two_cells (wr.alloc (.cells #[.string xi, .int .i64 xn] 58)) xi (xn - p) 58 j u hx
        simpa using this
      case d2 => exact two_one _
      case d3 => unfold maxLen; omega
      case d4 => omega
      case d5 => have h1 := HB.out.size; simp; omega
      intro v' w4 hown hgrow hne
      have HO4 : Hid (w4.ownsRow w.heap.size 58 2 v' (k + 1) (cellsAll N.cells (F ++ [(⟨xi, xn - p⟩ : N)]))) := hid_intro (by rw [cellsAll_app]; exact hown)
      have HOB := hid_intro (fun c hc => (HO.out.lt c hc).1)
      have HB4 : Hid (Below w.heap.size w w4) := hid_intro (((HB.out.alloc HB.out.size _).alloc (HB.out.alloc HB.out.size _).size _).grown hgrow ((HB.out.alloc HB.out.size _).alloc (HB.out.alloc HB.out.size _).size _).size (fun c e => HOB.out c e))
      clear hown hgrow hne
      go_wp2_with fail
      go_roundw
      case rel => exact ⟨k + 1, by omega, by rw [HN1.out], by go_num, hid_intro (by rw [HN2.out]; exact HO4.out), HB4⟩
      case measure => simp [intOf]; omega
    · have hlt2 : ¬ (k : Int) < (len : Int) := by omega
      obtain rfl : k = len := by omega
      have HLD := hid_intro (dl_len c es k)
      obtain ⟨bo, cap', rfl, hm⟩ := own_made (z := N.zero) N.len (by rw [HLD.out]; exact HO.out)
      have HM := hid_intro hm.rws
      rw [HLD.out]
      clear hm
      go_wp2_with fail
      refine (HPT.out _ _ _ HM.out (by have := HL.out; omega)).mono ?_
      rintro e w5 ⟨v, rfl, ho, hb5⟩
      have HO5 := hid_intro (own_low ho HB.out.size)
      have HB5 := hid_intro (HB.out.trans (hb5.mono HB.out.size))
      clear ho hb5
      go_wp2_with fail
      go_ret
      rw [HT.out]
      exact res_own HO5.out HB5.out
/-- What is left of a list behind one more line. -/
theorem dl_more (c : Int) (es : List N) (k : Nat) : (dl c es (k + 1)).filter nz = (dl c es k).filter nz ++ (bif nz ⟨(es.getD k N.zero).i, (es.getD k N.zero).n - pd (cr c es k) (es.getD k N.zero).n⟩ then [⟨(es.getD k N.zero).i, (es.getD k N.zero).n - pd (cr c es k) (es.getD k N.zero).n⟩] else []) := by
  show ((dl c es k) ++ [_]).filter nz = _
  rw [List.filter_append]
  generalize (⟨(es.getD k N.zero).i, (es.getD k N.zero).n - pd (cr c es k) (es.getD k N.zero).n⟩ : N) = X
  cases hr : nz X <;> simp [hr]
theorem min_any (a b : Int) (w : World) : Calls Tryz.prog 110 #[.int .i64 a, .int .i64 b] w fun e w' => e = .returned (.int .i64 (if a < b then a else b)) ∧ w' = w := by
  by_cases h : a < b
  all_goals
    simp only [h, if_true, if_false]
    go_enter Tryz.func110, Tryz.ntmps110
    go_wp2
    go_ret
    exact ⟨rfl, rfl⟩
theorem pd_min {c n : Int} (hc : 0 ≤ c) (hn : 0 < n) : (if n < c then n else c) = pd c n := by
  unfold pd clamp
  split <;> split <;> (try split) <;> omega
set_option maxRecDepth 100000 in
set_option maxHeartbeats 4000000 in
theorem spec_drawn0 (ao : Option Addr) (cap : Nat) (es : List N) (c : Int) (w : World) (hR : SRight es) (hC : 0 ≤ c ∧ c ≤ 1000000000000000) (hI : Lis ao es w) :
    Calls Tryz.prog 70 #[.slice ao es.length cap, .int .i64 c] w fun e w' => ∃ v, e = .returned v ∧ w'.ownsRow w.heap.size 58 2 v (drawL c es).length (cellsAll N.cells (drawL c es)) ∧ Below w.heap.size w w' := by
  obtain ⟨i0, hi, hz0, hz1, hz2⟩ := info_parts infoN
  have HI := hid_intro hI
  have HQ := hid_intro hR
  have HC := hid_intro hC
  have HDL : Hid (drawL c es = (dl c es es.length).filter nz) := rfl
  generalize drawL c es = D at *
  obtain ⟨len, hl⟩ : ∃ len, len = es.length := ⟨_, rfl⟩
  rw [← hl] at HDL ⊢
  have HL := hid_intro hl
  have h6 : len ≤ 6 := by have := hR.1; omega
  have HE := hid_intro (own_empty w w.heap.size 58 2 (Nat.le_refl _))
  clear hI hl hR hC
  go_enter Tryz.func70, Tryz.ntmps70
  go_wp2_with fail
  go_loopw [1, 5, 6] (fun x v z wr => ∃ k : Nat, k ≤ len ∧ x = .int .i64 (cr c es k) ∧ z = .int .i64 k ∧ Hid (wr.ownsRow w.heap.size 58 2 v ((dl c es k).filter nz).length (cellsAll N.cells ((dl c es k).filter nz))) ∧ Hid (Below w.heap.size w wr)) (fun x v z _ => len - (intOf z).toNat)
  case atStart => exact ⟨0, by omega, rfl, rfl, HE, hid_intro ((Below.refl _ _).alloc (Nat.le_refl _) _)⟩
  case round =>
    obtain ⟨k, hk, rfl, rfl, HO, HB⟩ := hrel
    by_cases hlt : k < len
    · have hlt2 : (k : Int) < (len : Int) := by omega
      obtain ⟨b, off, rfl, hbl, c0, c1⟩ := (HI.out.below HB.out).at k (by have := HL.out; omega)
      have HIN := hid_intro (line_in HQ.out k (by have := HL.out; omega))
      have HCB := hid_intro (cr_bd es HC.out.1 k)
      have HN1 : Hid (cr c es (k + 1) = cr c es k - pd (cr c es k) (es.getD k N.zero).n) := rfl
      have HN2 := hid_intro (dl_more c es k)
      have HLF : Hid (((dl c es k).filter nz).length ≤ 6) := hid_intro (by
        have h1 := List.length_filter_le nz (dl c es k)
        rw [dl_len] at h1
        omega)
      generalize (dl c es k).filter nz = F at *
      generalize es.getD k N.zero = X at *
      obtain ⟨xi, xn⟩ := X
      dsimp only at c0 c1 HIN HN1 HN2
      have HPD := hid_intro (pd_bd (n := xn) HCB.out.1)
      by_cases hx : 0 < xn
      · have HMN := hid_intro (fun w => min_any xn (cr c es k) w)
        rw [pd_min HCB.out.1 hx] at HMN
        have w1 : wrap64 (cr c es k - pd (cr c es k) xn) = cr c es k - pd (cr c es k) xn := sub_w (by have := HPD.out; have := HCB.out; have := HC.out; omega)
        have w2 : wrap64 (xn - pd (cr c es k) xn) = xn - pd (cr c es k) xn := sub_w (by have := HPD.out; have := HCB.out; have := HC.out; have := HIN.out; omega)
        generalize pd (cr c es k) xn = p at *
        generalize cr c es k = C at *
        obtain ⟨Y, hY⟩ : ∃ Y, Y = xn - p := ⟨_, rfl⟩
        rw [← hY] at HN2
        replace w2 : wrap64 (xn - p) = Y := w2.trans hY.symm
        obtain ⟨Z, hZ⟩ : ∃ Z, Z = C - p := ⟨_, rfl⟩
        rw [← hZ] at HN1
        replace w1 : wrap64 (C - p) = Z := w1.trans hZ.symm
        clear hZ hY
        have HB1 := hid_intro (HB.out.alloc HB.out.size (.cells #[.string xi, .int .i64 Y] 58))
        have HO1 := hid_intro (HO.out.alloc (.cells #[.string xi, .int .i64 Y] 58))
        rcases nz_cases xi Y with ⟨q1, q2, q3⟩ | ⟨q1, q2, q3⟩
        · rw [q3, cond_false, List.append_nil] at HN2
          go_wp2_with (go_at_call 110; refine (HMN.out _).mono ?_; rintro e w3 ⟨rfl, rfl⟩)
          go_roundw
          case rel => exact ⟨k + 1, by omega, by first | (rw [HN1.out]; done) | rw [HN1.out, w1], by go_num, hid_intro (by rw [HN2.out]; exact HO1.out), HB1⟩
          case measure => simp [intOf]; omega
        · rw [q3, cond_true] at HN2
          go_wp2_with (first | (go_at_call 110; refine (HMN.out _).mono ?_; rintro e w3 ⟨rfl, rfl⟩) | (at_builtin; refine wpList_append_own _ rfl _ _ 29 rfl w.heap.size 58 i0 (.agg #[.string ⟨#[]⟩, .int .i64 0]) 2 24 Tryz.underlying29 hi hz0 hz1 hz2 rfl (by decide) _ _ _ rfl (HO1.out.alloc _) ⟨_, 0, none⟩ 1 1 (N.cells ⟨xi, Y⟩) rfl rfl ?d1 ?d2 ?d3 ?d4 ?d5 ?_))
          case d1 =>
            intro j u hx
            have := two_cells (wr.alloc (.cells #[.string xi, .int .i64 Y] 58)) xi Y 58 j u hx
            simpa using this
          case d2 => exact two_one _
          case d3 => unfold maxLen; have := HLF.out; omega
          case d4 => have := HLF.out; omega
          case d5 => have h1 := HB.out.size; simp; omega
          intro v' w4 hown hgrow hne
          have HO4 : Hid (w4.ownsRow w.heap.size 58 2 v' (F ++ [(⟨xi, Y⟩ : N)]).length (cellsAll N.cells (F ++ [(⟨xi, Y⟩ : N)]))) := hid_intro (by rw [cellsAll_app, List.length_append]; exact hown)
          have HOB := hid_intro (fun c hc => (HO.out.lt c hc).1)
          have HB4 : Hid (Below w.heap.size w w4) := hid_intro ((HB1.out.alloc HB1.out.size _).grown hgrow (HB1.out.alloc HB1.out.size _).size (fun c e => HOB.out c e))
          clear hown hgrow hne
          go_wp2_with fail
          go_roundw
          case rel => exact ⟨k + 1, by omega, by first | (rw [HN1.out]; done) | rw [HN1.out, w1], by go_num, hid_intro (by rw [HN2.out]; exact HO4.out), HB4⟩
          case measure => simp [intOf]; omega
      · have e0 : pd (cr c es k) xn = 0 := HPD.out.2.2.1 (by omega)
        rw [e0, Int.sub_zero] at HN1 HN2
        clear e0 HPD
        generalize cr c es k = C at *
        have HB1 := hid_intro (HB.out.alloc HB.out.size (.cells #[.string xi, .int .i64 xn] 58))
        have HO1 := hid_intro (HO.out.alloc (.cells #[.string xi, .int .i64 xn] 58))
        rcases nz_cases xi xn with ⟨q1, q2, q3⟩ | ⟨q1, q2, q3⟩
        · rw [q3, cond_false, List.append_nil] at HN2
          go_wp2_with fail
          go_roundw
          case rel => exact ⟨k + 1, by omega, by first | (rw [HN1.out]; done) | rw [HN1.out, w1], by go_num, hid_intro (by rw [HN2.out]; exact HO1.out), HB1⟩
          case measure => simp [intOf]; omega
        · rw [q3, cond_true] at HN2
          go_wp2_with (at_builtin; refine wpList_append_own _ rfl _ _ 29 rfl w.heap.size 58 i0 (.agg #[.string ⟨#[]⟩, .int .i64 0]) 2 24 Tryz.underlying29 hi hz0 hz1 hz2 rfl (by decide) _ _ _ rfl (HO1.out.alloc _) ⟨_, 0, none⟩ 1 1 (N.cells ⟨xi, xn⟩) rfl rfl ?d1 ?d2 ?d3 ?d4 ?d5 ?_)
          case d1 => exact fun _ _ h => h
          case d2 => exact two_one _
          case d3 => unfold maxLen; have := HLF.out; omega
          case d4 => have := HLF.out; omega
          case d5 => have h1 := HB.out.size; simp; omega
          intro v' w4 hown hgrow hne
          have HO4 : Hid (w4.ownsRow w.heap.size 58 2 v' (F ++ [(⟨xi, xn⟩ : N)]).length (cellsAll N.cells (F ++ [(⟨xi, xn⟩ : N)]))) := hid_intro (by rw [cellsAll_app, List.length_append]; exact hown)
          have HOB := hid_intro (fun c hc => (HO.out.lt c hc).1)
          have HB4 : Hid (Below w.heap.size w w4) := hid_intro ((HB1.out.alloc HB1.out.size _).grown hgrow (HB1.out.alloc HB1.out.size _).size (fun c e => HOB.out c e))
          clear hown hgrow hne
          go_wp2_with fail
          go_roundw
          case rel => exact ⟨k + 1, by omega, by first | (rw [HN1.out]; done) | rw [HN1.out, w1], by go_num, hid_intro (by rw [HN2.out]; exact HO4.out), HB4⟩
          case measure => simp [intOf]; omega
    · have hlt2 : ¬ (k : Int) < (len : Int) := by omega
      obtain rfl : k = len := by omega
      rw [← HDL.out] at HO
      go_wp2_with fail
      go_ret
      exact ⟨_, rfl, HO.out, HB.out⟩
set_option maxRecDepth 100000 in
set_option maxHeartbeats 4000000 in
theorem spec_drawn (ao : Option Addr) (cap : Nat) (es : List N) (c : Int) (w : World) (hlen : es.length ≤ 1048576) (hS : ∀ e ∈ es, e.i.size ≤ 1048576) (hI : Lis ao es w) :
    Calls Tryz.prog 24 #[.slice ao es.length cap, .int .i64 c] w fun e w' => Res w (drawB c es) e w' := by
  by_cases h4 : 400 < es.length
  · have HT : Hid (drawB c es = []) := hid_intro (by unfold drawB; rw [sB_long (by omega)]; rfl)
    generalize drawB c es = T at *
    obtain ⟨len, hl⟩ : ∃ len, len = es.length := ⟨_, rfl⟩
    rw [← hl] at hlen h4 ⊢
    have h4' : (400 : Int) < (len : Int) := by omega
    clear hI hS hl
    go_enter Tryz.func24, Tryz.ntmps24
    go_wp2_with fail
    go_ret
    rw [HT.out]
    exact ⟨_, _, rfl, made_nil _ _ _, (Below.refl _ _).alloc (Nat.le_refl _) _⟩
  have H1 := hid_intro (spec_lines ao cap es w hlen hS hI)
  have H2 := hid_intro (fun w => isS c 0 1000000000000000 w)
  have HT : Hid (drawB c es = bif sB es && decide (0 ≤ c ∧ c ≤ 1000000000000000) then drawL c es else []) := rfl
  have HR := hid_intro (sB_iff (es := es)).1
  have HC0 : Hid (decide (0 ≤ c ∧ c ≤ 1000000000000000) = true → 0 ≤ c ∧ c ≤ 1000000000000000) := hid_intro (fun h => by simpa using h)
  have HK := hid_intro (fun W (hW : Below w.heap.size w W) hR hC => spec_drawn0 ao cap es c W hR hC (hI.below hW))
  generalize drawB c es = D at *
  generalize sB es = r at *
  generalize decide (0 ≤ c ∧ c ≤ 1000000000000000) = q at *
  obtain ⟨len, hl⟩ : ∃ len, len = es.length := ⟨_, rfl⟩
  rw [← hl] at hlen H1 HK h4 ⊢
  have h4' : ¬ (400 : Int) < (len : Int) := by omega
  clear hI hS hl
  cases r
  · go_enter Tryz.func24, Tryz.ntmps24
    go_wp2_with fail
    refine (H1.out).mono ?_
    rintro e w1 ⟨rfl, hb1⟩
    have HB := hid_intro hb1
    clear hb1
    go_wp2_with fail
    go_ret
    rw [HT.out]
    exact ⟨_, _, rfl, made_nil _ _ _, HB.out.alloc HB.out.size _⟩
  cases q
  · go_enter Tryz.func24, Tryz.ntmps24
    go_wp2_with fail
    refine (H1.out).mono ?_
    rintro e w1 ⟨rfl, hb1⟩
    have HB := hid_intro hb1
    clear hb1
    go_wp2_with (go_at_call 69; refine (H2.out _).mono ?_; rintro e w2 ⟨rfl, rfl⟩)
    go_ret
    rw [HT.out]
    exact ⟨_, _, rfl, made_nil _ _ _, HB.out.alloc HB.out.size _⟩
  have HQ := hid_intro (HR.out rfl)
  have HC := hid_intro (HC0.out rfl)
  go_enter Tryz.func24, Tryz.ntmps24
  go_wp2_with fail
  refine (H1.out).mono ?_
  rintro e w1 ⟨rfl, hb1⟩
  have HB := hid_intro hb1
  clear hb1
  go_wp2_with (go_at_call 69; refine (H2.out _).mono ?_; rintro e w2 ⟨rfl, rfl⟩)
  refine (HK.out _ HB.out HQ.out HC.out).mono ?_
  rintro e w2 ⟨v, rfl, ho, hb2⟩
  have HB2 := hid_intro (HB.out.trans (hb2.mono HB.out.size))
  have HO := hid_intro (own_low ho HB.out.size)
  clear ho hb2
  go_wp2_with fail
  go_ret
  rw [HT.out]
  exact res_own HO.out HB2.out
theorem draw_len {c : Int} {es : List N} : (drawB c es).length ≤ 6 := by
  unfold drawB
  cases hs : sB es
  · simp
  · have := (sB_iff.1 hs).1
    have h2 := List.length_filter_le nz (dl c es es.length)
    rw [dl_len] at h2
    cases decide (0 ≤ c ∧ c ≤ 1000000000000000)
    · simp
    · simp only [Bool.and_self, cond_true, drawL]
      omega
end LinR
end Go.Proofs.YtcilbmhkhllmjaaGreatDoor
namespace Go.Proofs.YtcilbmhkhllmjaaGreatDoor
open Go.ChangeShapes Go.WideShapes Go.ChangeAt Go.RowKit
set_option linter.unusedVariables false
namespace EngR
open LinR ChG
open RowG (MadeG)
open EvtR (Pt)
def LnR (D : List N) (v : Value) (W : World) : Prop := ∃ ao cap, v = .slice ao D.length cap ∧ Lis ao D W
def LnW (D : List N) (b : Nat) (v : Value) (W : World) : Prop := ∃ ao cap, v = .slice ao D.length cap ∧ MadeG 2 N.cells N.zero b ao D W
theorem LnR.below {D : List N} {v : Value} {W W' : World} (h : LnR D v W) (hb : Below W.heap.size W W') : LnR D v W' := by
  obtain ⟨ao, cap, e, h⟩ := h
  exact ⟨ao, cap, e, h.below hb⟩
theorem LnW.reads {D : List N} {b : Nat} {v : Value} {W : World} (h : LnW D b v W) : LnR D v W := by
  obtain ⟨ao, cap, e, h⟩ := h
  exact ⟨ao, cap, e, h.rws⟩
theorem made_kq {b : Nat} {ao : Option Addr} {D : List N} {W W' : World} (h : MadeG 2 N.cells N.zero b ao D W) (hk : Kq b W W') : MadeG 2 N.cells N.zero b ao D W' :=
  ⟨rws_kq h.rws hk (h.own.imp id (fun ⟨g, e, hg, _⟩ b' off e' => by rw [e] at e'; simp at e'; omega)), h.own.imp id (fun ⟨g, e, hg, hp⟩ => ⟨g, e, hg, hk.pt hp hg⟩)⟩
theorem LnW.kq {D : List N} {b : Nat} {v : Value} {W W' : World} (h : LnW D b v W) (hk : Kq b W W') : LnW D b v W' := by
  obtain ⟨ao, cap, e, h⟩ := h
  exact ⟨ao, cap, e, made_kq h hk⟩
theorem LnW.shape {D : List N} {b : Nat} {v : Value} {W : World} (h : LnW D b v W) : ∃ (a : Option Addr) (n c : Nat), v = .slice a n c := by
  obtain ⟨ao, cap, e, h⟩ := h
  exact ⟨ao, _, cap, e⟩
theorem eqLn {D : List N} (hn : D.length ≤ 1048576) {v v' : Value} {W : World} (h : LnR D v W) (h' : LnR D v' W) : Calls Tryz.prog 48 #[v, v'] W fun e w' => e = .returned (.bool true) ∧ Below W.heap.size W w' := by
  obtain ⟨ao, cap, rfl, h⟩ := h
  obtain ⟨ao', cap', rfl, h'⟩ := h'
  exact eqLis_any ao ao' cap cap' D W hn h h'
theorem markLn {D : List N} (hn : D.length ≤ 1048576) {b : Nat} {v : Value} {Wt W : World} (h : LnW D b v Wt) (hk : Kq b Wt W) :
    Calls Tryz.prog 57 #[v, .int .i64 1] W fun e w' => ∃ KK : Nat, e = .returned (.int .i64 KK) ∧ Chg (fun x => b ≤ x ∧ x < Wt.heap.size) W w' ∧
      ∀ w2, Below w'.heap.size w' w2 → Calls Tryz.prog 58 #[v, .int .i64 1] w2 fun e w3 => e = .returned (.int .i64 KK) ∧ Below w2.heap.size w2 w3 := by
  obtain ⟨ao, cap, rfl, h⟩ := h
  have ht : D.length = 0 ∨ ∀ g, ao = some ⟨g, 0, none⟩ → g < Wt.heap.size := h.own.imp id (fun ⟨g, e, _, hp⟩ g' e' => by
    have := hp.lt
    rw [e] at e'
    simp only [Option.some.injEq, Addr.mk.injEq, and_true] at e'
    omega)
  refine (markL b ao D cap W Wt.heap.size hn (made_kq h hk) ht).mono ?_
  rintro e w' ⟨rfl, hM, g, hg, hgt⟩
  exact ⟨_, rfl, ⟨hg.os, hg.tape, hg.output, hg.size, fun x hx hnx => hg.block x hx (fun e => hnx (hgt x e.symm))⟩, fun w2 hb => heldL ao D.length cap w2 hn (hM.below hb)⟩
end EngR
end Go.Proofs.YtcilbmhkhllmjaaGreatDoor
namespace Go.Proofs.YtcilbmhkhllmjaaGreatDoor
open Go.RowKit
set_option linter.unusedVariables false
namespace BilR
open LtR
section
variable {α β : Type} {f : α → ByteArray}
def insB (f : α → ByteArray) (x : α) : List α → List α
  | [] => [x]
  | y :: l => if lt (f y) (f x) = true then y :: insB f x l else x :: y :: l
def srt (f : α → ByteArray) (l : List α) : List α := l.foldl (fun acc x => insB f x acc) []
def Ris (f : α → ByteArray) (l : List α) : Prop := l.Pairwise (fun a b => lt (f a) (f b) = true)
theorem insB_perm (x : α) : ∀ l : List α, (insB f x l).Perm (x :: l)
  | [] => List.Perm.refl _
  | y :: l => by
    unfold insB
    split
    · exact ((insB_perm x l).cons y).trans (List.Perm.swap x y l)
    · exact List.Perm.refl _
theorem insB_mem {x z : α} {l : List α} (h : z ∈ insB f x l) : z = x ∨ z ∈ l := by
  have := (insB_perm x l).mem_iff.1 h
  simpa using this
theorem insB_ris {x : α} : ∀ {l : List α}, Ris f l → (∀ y ∈ l, f y ≠ f x) → Ris f (insB f x l)
  | [], _, _ => List.pairwise_singleton _ _
  | y :: l, h, hn => by
    obtain ⟨h1, h2⟩ := List.pairwise_cons.1 h
    unfold insB
    split
    · rename_i q
      refine List.pairwise_cons.2 ⟨fun z hz => ?_, insB_ris h2 (fun z hz => hn z (List.mem_cons_of_mem _ hz))⟩
      rcases insB_mem hz with rfl | hz
      · exact q
      · exact h1 z hz
    · rename_i q
      have q1 : lt (f x) (f y) = true := by
        cases q2 : lt (f x) (f y)
        · exact absurd (lt_total (by simpa using q) q2) (hn y (List.mem_cons_self ..))
        · rfl
      refine List.pairwise_cons.2 ⟨fun z hz => ?_, h⟩
      rcases List.mem_cons.1 hz with rfl | hz
      · exact q1
      · exact lt_trans q1 (h1 z hz)
theorem insB_map (g : β → α) (x : β) : ∀ l : List β, (insB (fun b => f (g b)) x l).map g = insB f (g x) (l.map g)
  | [] => rfl
  | y :: l => by
    simp only [insB, List.map_cons]
    split
    · rw [List.map_cons, insB_map g x l]
    · rfl
theorem srt_snoc (l : List α) (x : α) : srt f (l ++ [x]) = insB f x (srt f l) := by simp [srt, List.foldl_append]
theorem rev_ind {α : Type} {P : List α → Prop} (h0 : P []) (h1 : ∀ l x, P l → P (l ++ [x])) (l : List α) : P l := by
  have : ∀ l : List α, P l.reverse := fun l => by
    induction l with
    | nil => exact h0
    | cons x l ih => rw [List.reverse_cons]; exact h1 _ _ ih
  have q := this l.reverse
  rwa [List.reverse_reverse] at q
theorem srt_perm (l : List α) : (srt f l).Perm l := by
  refine rev_ind (P := fun l => (srt f l).Perm l) (List.Perm.refl _) (fun l x ih => ?_) l
  rw [srt_snoc]
  exact ((insB_perm x _).trans (ih.cons x)).trans (List.perm_append_singleton x l).symm
theorem srt_map (g : β → α) (l : List β) : (srt (fun b => f (g b)) l).map g = srt f (l.map g) := by
  refine rev_ind (P := fun l => (srt (fun b => f (g b)) l).map g = srt f (l.map g)) rfl (fun l x ih => ?_) l
  rw [srt_snoc, insB_map, ih, List.map_append, List.map_singleton, srt_snoc]
theorem srt_ris (l : List α) (h : (l.map f).Nodup) : Ris f (srt f l) := by
  revert h
  refine rev_ind (P := fun l => (l.map f).Nodup → Ris f (srt f l)) (fun _ => List.Pairwise.nil) (fun l x ih h => ?_) l
  rw [List.map_append, List.map_singleton] at h
  obtain ⟨h1, _, h3⟩ := List.nodup_append.1 h
  rw [srt_snoc]
  refine insB_ris (ih h1) (fun y hy e => ?_)
  exact h3 (f y) (List.mem_map_of_mem ((srt_perm l).mem_iff.1 hy)) (f x) (List.mem_singleton.2 rfl) e
theorem ris_nodup {l : List α} (h : Ris f l) : (l.map f).Nodup := by
  unfold List.Nodup
  rw [List.pairwise_map]
  exact h.imp (fun {a b} q e => by rw [e, lt_irrefl] at q; cases q)
/-- Two rising lists of the same elements are one. -/
theorem ris_eq : ∀ {a b : List α}, Ris f a → Ris f b → a.Perm b → a = b
  | [], b, _, _, h => (List.Perm.nil_eq h)
  | x :: a, [], _, _, h => by have := h.length_eq; simp at this
  | x :: a, y :: b, ha, hb, h => by
    obtain ⟨a1, a2⟩ := List.pairwise_cons.1 ha
    obtain ⟨b1, b2⟩ := List.pairwise_cons.1 hb
    have hx : x ∈ y :: b := h.mem_iff.1 (List.mem_cons_self ..)
    have hy : y ∈ x :: a := h.mem_iff.2 (List.mem_cons_self ..)
    have e : x = y := by
      rcases List.mem_cons.1 hx with q | q
      · exact q
      · rcases List.mem_cons.1 hy with p | p
        · exact p.symm
        · have q1 := b1 x q
          rw [lt_asymm (a1 y p)] at q1
          cases q1
    subst e
    rw [ris_eq a2 b2 (List.Perm.cons_inv h)]
theorem srt_eq {l d : List α} (hd : Ris f d) (hp : d.Perm l) : d = srt f l :=
  ris_eq hd (srt_ris l (by
    have := (hp.map f).nodup_iff.1 (ris_nodup hd)
    exact this)) (hp.trans (srt_perm l).symm)
end
end BilR
end Go.Proofs.YtcilbmhkhllmjaaGreatDoor
namespace Go.Proofs.YtcilbmhkhllmjaaGreatDoor
open Go.ChangeShapes Go.WideShapes Go.ChangeAt Go.RowKit
set_option linter.unusedVariables false
namespace WinR
open RowG LtR
open CatR (Blk Blk.new)
/-- What the round reads. -/
def HSt (w : World) (ao : Option Addr) (len cap : Nat) (b o1 o2 : Nat) (x y : H) (W : World) : Prop := Below w.heap.size w W ∧ w.heap.size < W.heap.size ∧ b < W.heap.size ∧ W.cell? ⟨w.heap.size, 0, none⟩ = some (.slice ao len cap) ∧ W.cell? ⟨w.heap.size, 1, none⟩ = some (.func (.func 185) #[] #[]) ∧ W.cell? ⟨w.heap.size, 2, none⟩ = some (.func (.func 186) #[] #[]) ∧ W.cell? ⟨b, o1, none⟩ = some (.int .i64 x.h) ∧ W.cell? ⟨b, o1 + 1, none⟩ = some (.int .i64 x.s) ∧ W.cell? ⟨b, o2, none⟩ = some (.int .i64 y.h) ∧ W.cell? ⟨b, o2 + 1, none⟩ = some (.int .i64 y.s)
theorem HSt.below {w : World} {ao : Option Addr} {len cap b o1 o2 : Nat} {x y : H} {W W' : World} (h : HSt w ao len cap b o1 o2 x y W) (hb : Below W.heap.size W W') : HSt w ao len cap b o1 o2 x y W' := by
  obtain ⟨h0, h1, h2, c0, c1, c2, d0, d1, d2, d3⟩ := h
  have c := fun o => hb.cell (p := ⟨w.heap.size, o, none⟩) h1
  have d := fun o => hb.cell (p := ⟨b, o, none⟩) h2
  have := hb.size
  exact ⟨h0.trans (hb.mono h0.size), by omega, by omega, (c 0).trans c0, (c 1).trans c1, (c 2).trans c2, (d _).trans d0, (d _).trans d1, (d _).trans d2, (d _).trans d3⟩
set_option maxRecDepth 100000 in
set_option maxHeartbeats 4000000 in
theorem hours_rises (ao : Option Addr) (cap : Nat) (hs : List H) (w : World) (hlen : hs.length ≤ 1048576) (hI : Hrs ao hs w) :
    Calls Tryz.prog 190 #[.agg #[.slice ao hs.length cap, .func (.func 185) #[] #[], .func (.func 186) #[] #[]]] w fun e w' => e = .returned (.bool (riseB hlt H.zero hs)) ∧ Below w.heap.size w w' := by
  have HI := hid_intro hI
  have HNO := hid_intro (fun k => rise_no (r := hlt) (z := H.zero) (xs := hs) (k := k))
  have HYES : Hid (RiseTo hlt H.zero hs hs.length → riseB hlt H.zero hs = true) := hid_intro rise_yes
  generalize riseB hlt H.zero hs = R at *
  obtain ⟨len, hl⟩ : ∃ len, len = hs.length := ⟨_, rfl⟩
  rw [← hl] at hlen HYES ⊢
  have HL := hid_intro hl
  clear hI hl
  have HB0 : Hid (Below w.heap.size w (w.alloc (.cells #[.slice ao len cap, .func (.func 185) #[] #[], .func (.func 186) #[] #[]] 183))) := hid_intro ((Below.refl _ _).alloc (Nat.le_refl _) _)
  have HX0 : Hid (Blk w.heap.size [.slice ao len cap, .func (.func 185) #[] #[], .func (.func 186) #[] #[]] (w.alloc (.cells #[.slice ao len cap, .func (.func 185) #[] #[], .func (.func 186) #[] #[]] 183))) := hid_intro (Blk.new w _ _)
  go_enter Tryz.func190, Tryz.ntmps190
  go_wp2_with fail
  go_loopw [3] (fun z wr => ∃ k : Nat, 1 ≤ k ∧ (k = 1 ∨ k ≤ len) ∧ z = .int .i64 (k : Int) ∧ Hid (RiseTo hlt H.zero hs k) ∧ Hid (Below w.heap.size w wr) ∧ Hid (Blk w.heap.size [.slice ao len cap, .func (.func 185) #[] #[], .func (.func 186) #[] #[]] wr)) (fun z _ => len - (intOf z).toNat)
  case atStart => exact ⟨1, by omega, by omega, rfl, hid_intro (rise_one _ (by omega)), HB0, HX0⟩
  case round =>
    obtain ⟨k, hk1, hk2, rfl, HR, HB, HX⟩ := hrel
    obtain ⟨xl, xc⟩ := HX.out
    have x0 : wr.cell? ⟨w.heap.size, 0, none⟩ = some (.slice ao len cap) := xc 0 (by simp)
    have x1 : wr.cell? ⟨w.heap.size, 1, none⟩ = some (.func (.func 185) #[] #[]) := xc 1 (by simp)
    have x2 : wr.cell? ⟨w.heap.size, 2, none⟩ = some (.func (.func 186) #[] #[]) := xc 2 (by simp)
    clear xc
    by_cases hlt1 : k < len
    · have hlt2 : (k : Int) < (len : Int) := by omega
      have hk0 : (0 : Int) ≤ (k : Int) := by omega
      obtain ⟨j, hj⟩ : ∃ j, j = k - 1 := ⟨_, rfl⟩
      have hj0 : (0 : Int) ≤ (j : Int) := by omega
      have hj1 : (j : Int) < (len : Int) := by omega
      have hwr : IntKind.i64.wrap ((k : Int) - 1) = (j : Int) := by rw [IntKind.wrap_i64]; omega
      obtain ⟨b, off, rfl, hbl, c1, c2⟩ := (HI.out.below HB.out).at k (by have := HL.out; omega)
      obtain ⟨b', off', he, _, d1, d2⟩ := (HI.out.below HB.out).at j (by have := HL.out; omega)
      obtain ⟨rfl, rfl⟩ : b = b' ∧ off = off' := by simpa using he
      have HN := hid_intro (HNO.out k (by have := HL.out; omega) (by omega))
      have HM := hid_intro (fun h => HR.out.more (k := k) h)
      rw [← hj] at HN HM
      generalize hs.getD k H.zero = X at *
      generalize hs.getD j H.zero = Y at *
      have HS0 : Hid (HSt w (some ⟨b, off, none⟩) len cap b (off + k * 2) (off + j * 2) X Y wr.drew) := hid_intro (HSt.below ⟨HB.out, xl, hbl, x0, x1, x2, c1, c2, d1, d2⟩ (Below.refl _ _).drew)
      obtain ⟨xh, xs⟩ := X
      obtain ⟨yh, ys⟩ := Y
      dsimp only at c1 c2 d1 d2
      clear hj
      by_cases hle : xh ≤ yh
      · have HF : Hid (R = false) := hid_intro (HN.out (by unfold hlt; exact decide_eq_false (by show ¬ yh < xh; omega)))
        go_wp2_with fail
        go_region_held3 (fun W => Below w.heap.size w W ∧ w.heap.size < W.heap.size ∧ b < W.heap.size ∧ W.cell? ⟨w.heap.size, 0, none⟩ = some (.slice (some ⟨b, off, none⟩) len cap) ∧ W.cell? ⟨w.heap.size, 1, none⟩ = some (.func (.func 185) #[] #[]) ∧ W.cell? ⟨w.heap.size, 2, none⟩ = some (.func (.func 186) #[] #[]) ∧ W.cell? ⟨b, off + k * 2, none⟩ = some (.int .i64 xh) ∧ W.cell? ⟨b, off + k * 2 + 1, none⟩ = some (.int .i64 xs) ∧ W.cell? ⟨b, off + j * 2, none⟩ = some (.int .i64 yh) ∧ W.cell? ⟨b, off + j * 2 + 1, none⟩ = some (.int .i64 ys)) (first | assumption | (exact HS0.out) | (exact HSt.below (x := ⟨xh, xs⟩) (y := ⟨yh, ys⟩) (by assumption) hb))
          (first | (go_at_call 185; refine (hkey _ _ _).mono ?_; rintro e w' ⟨rfl, hb⟩))
        rename_i hSz
        have HSz := hid_intro hSz.1
        clear hSz
        go_wp2_with fail
        go_ret
        exact ⟨ret_bool HF.out.symm, HSz.out⟩
      · have hle2 : yh < xh := by omega
        have HM2 := hid_intro (HM.out (fun _ => by unfold hlt; exact decide_eq_true (by show yh < xh; omega)))
        go_wp2_with fail
        go_region_held3 (fun W => Below w.heap.size w W ∧ w.heap.size < W.heap.size ∧ b < W.heap.size ∧ W.cell? ⟨w.heap.size, 0, none⟩ = some (.slice (some ⟨b, off, none⟩) len cap) ∧ W.cell? ⟨w.heap.size, 1, none⟩ = some (.func (.func 185) #[] #[]) ∧ W.cell? ⟨w.heap.size, 2, none⟩ = some (.func (.func 186) #[] #[]) ∧ W.cell? ⟨b, off + k * 2, none⟩ = some (.int .i64 xh) ∧ W.cell? ⟨b, off + k * 2 + 1, none⟩ = some (.int .i64 xs) ∧ W.cell? ⟨b, off + j * 2, none⟩ = some (.int .i64 yh) ∧ W.cell? ⟨b, off + j * 2 + 1, none⟩ = some (.int .i64 ys)) (first | assumption | (exact HS0.out) | (exact HSt.below (x := ⟨xh, xs⟩) (y := ⟨yh, ys⟩) (by assumption) hb))
          (first | (go_at_call 185; refine (hkey _ _ _).mono ?_; rintro e w' ⟨rfl, hb⟩))
        rename_i hSz
        have HSz := hid_intro hSz.1
        have HSy : Hid (Blk w.heap.size [.slice (some ⟨b, off, none⟩) len cap, .func (.func 185) #[] #[], .func (.func 186) #[] #[]] w') := hid_intro ⟨hSz.2.1, fun i hi => by
          match i, hi with
          | 0, _ => exact hSz.2.2.2.1
          | 1, _ => exact hSz.2.2.2.2.1
          | 2, _ => exact hSz.2.2.2.2.2.1⟩
        clear hSz
        go_wp2_with fail
        go_roundw
        case rel => exact ⟨k + 1, by omega, by omega, by go_num, HM2, HSz, HSy⟩
        case measure => simp [intOf]; omega
    · have hlt2 : ¬ (k : Int) < (len : Int) := by omega
      have HF : Hid (R = true) := hid_intro (HYES.out (fun i h1 h2 => HR.out i (by omega) h2))
      go_wp2_with fail
      go_ret
      exact ⟨ret_bool HF.out.symm, HB.out⟩
end WinR
end Go.Proofs.YtcilbmhkhllmjaaGreatDoor
namespace Go.Proofs.YtcilbmhkhllmjaaGreatDoor
open Go.ChangeShapes Go.WideShapes Go.ChangeAt Go.RowKit
set_option linter.unusedVariables false
namespace DateR
open DateM
theorem hid_intro {p : Prop} (h : p) : Hid p := h
theorem tmod_iff (y k : Int) : y.tmod k = 0 ↔ y % k = 0 := ⟨fun h => Int.emod_eq_zero_of_dvd (Int.dvd_of_tmod_eq_zero h), fun h => Int.tmod_eq_zero_of_dvd (Int.dvd_of_emod_eq_zero h)⟩
theorem leap_a (y : Int) (h1 : y.tmod 4 = 0) (h2 : y.tmod 100 = 0) : (y.tmod 400 == 0) = leapB y := by
  rw [tmod_iff] at h1 h2
  unfold leapB
  rw [Bool.eq_iff_iff, beq_iff_eq, decide_eq_true_eq, tmod_iff]
  omega
theorem leap_b (y : Int) (h1 : y.tmod 4 = 0) (h2 : ¬ y.tmod 100 = 0) : true = leapB y := by
  rw [tmod_iff] at h1 h2
  exact (decide_eq_true ⟨h1, .inl h2⟩).symm
theorem leap_c (y : Int) (h1 : ¬ y.tmod 4 = 0) : false = leapB y := by
  rw [tmod_iff] at h1
  exact (decide_eq_false fun h => h1 h.1).symm
theorem leap_d (y : Int) (h1 : ¬ y.tmod 4 = 0) : (y.tmod 400 == 0) = leapB y := by
  rw [tmod_iff] at h1
  unfold leapB
  rw [Bool.eq_iff_iff, beq_iff_eq, decide_eq_true_eq, tmod_iff]
  omega
theorem impl_leap (y : Int) (w : World) : Calls Tryz.prog 214 #[.int .i64 y] w fun e w' => e = .returned (.bool (leapB y)) ∧ w' = w := by
  go_enter Tryz.func214, Tryz.ntmps214
  go_wp2
  · go_ret
    exact ⟨ret_bool (leap_a y ‹_› ‹_›), rfl⟩
  · go_ret
    exact ⟨ret_bool (leap_b y ‹_› ‹_›), rfl⟩
  · go_ret
    exact ⟨ret_bool (leap_d y ‹_›), rfl⟩
theorem spec_leap (y : Int) (w : World) : Calls Tryz.prog 202 #[.int .i64 y] w fun e w' => e = .returned (.bool (leapB y)) ∧ w' = w := by
  go_enter Tryz.func202, Tryz.ntmps202
  go_wp2
  · go_ret
    exact ⟨ret_bool (leap_a y ‹_› ‹_›), rfl⟩
  · go_ret
    exact ⟨ret_bool (leap_b y ‹_› ‹_›), rfl⟩
  · go_ret
    exact ⟨ret_bool (leap_c y ‹_›), rfl⟩
/-- The day of the week. -/
def wd (d : Int) : Int := if 0 ≤ d ∧ d ≤ 100000 then (d + 3) % 7 else -1
end DateR
end Go.Proofs.YtcilbmhkhllmjaaGreatDoor
namespace Go.Proofs.YtcilbmhkhllmjaaGreatDoor
open Go.ChangeShapes Go.WideShapes Go.ChangeAt Go.RowKit
set_option linter.unusedVariables false
namespace DateR
open DateM
/-- The table of the months' days. -/
def tab : List Int := [31, 28, 31, 30, 31, 30, 31, 31, 30, 31, 30, 31]
/-- The variable holds the table. -/
def Laid (w : World) : Prop := 3 < w.heap.size ∧ ∀ k : Nat, k < 12 → w.cell? ⟨3, k, none⟩ = some (.int .i64 (tab.getD k 0))
theorem Laid.below {w w' : World} (h : Laid w) (hb : Below w.heap.size w w') : Laid w' :=
  ⟨by have := hb.size; have := h.1; omega, fun k hk => by rw [hb.cell (p := ⟨3, k, none⟩) h.1]; exact h.2 k hk⟩
theorem bel_drewN {B : Nat} {a w : World} (h : Below B a w) (n : Nat) : Below B a (w.drewN n) := ⟨h.os, h.tape, h.output, h.size, h.block⟩
theorem Laid.drewN {w : World} (h : Laid w) (n : Nat) : Laid (w.drewN n) := ⟨by simpa using h.1, fun k hk => by simpa using h.2 k hk⟩
theorem within_any (n low high : Int) (w : World) :
    Calls Tryz.prog 66 #[.int .i64 n, .int .i64 low, .int .i64 high] w fun e w' => e = .returned (.bool (decide (low ≤ n ∧ n ≤ high))) ∧ w' = w := by
  by_cases h1 : low ≤ n
  · go_enter Tryz.func66, Tryz.ntmps66
    go_wp2
    go_ret
    exact ⟨ret_bool (by simp [h1]), rfl⟩
  · go_enter Tryz.func66, Tryz.ntmps66
    go_wp2
    go_ret
    exact ⟨ret_bool (by rw [decide_eq_false (show ¬ low ≤ n by omega)]; rfl), rfl⟩
theorem tab_md (y : Int) (k : Nat) (h : k < 12) (h2 : k = 1 → leapB y = false) : tab.getD k 0 = md y ((k : Int) + 1) := by
  match k, h, h2 with
  | 0, _, _ => rfl
  | 1, _, h2 => unfold md; rw [h2 rfl]; rfl
  | 2, _, _ => rfl
  | 3, _, _ => rfl
  | 4, _, _ => rfl
  | 5, _, _ => rfl
  | 6, _, _ => rfl
  | 7, _, _ => rfl
  | 8, _, _ => rfl
  | 9, _, _ => rfl
  | 10, _, _ => rfl
  | 11, _, _ => rfl
theorem tab_name (w : World) (k : Nat) (hk : k < 12) (hL : Laid w) : ∃ X : Int, w.cell? ⟨3, k, none⟩ = some (.int .i64 X) ∧ Hid (X = tab.getD k 0) := ⟨_, hL.2 k hk, rfl⟩
theorem md_2 (y : Int) : md y 2 = if leapB y = true then 29 else 28 := rfl
theorem impl_md_in (y : Int) (k : Nat) (hk : k < 12) (y1 : 1970 ≤ y) (y2 : y ≤ 2200) (w : World) (hL : Laid w) :
    Calls Tryz.prog 215 #[.int .i64 y, .int .i64 ((k : Int) + 1)] w fun e w' => e = .returned (.int .i64 (md y ((k : Int) + 1))) ∧ w' = w := by
  obtain ⟨X, hc, HX⟩ := tab_name w k hk hL
  have h0 := hL.1
  have k1 : (1 : Int) ≤ (k : Int) + 1 := by omega
  have k2 : (k : Int) + 1 ≤ 12 := by omega
  have HK := hid_intro hk
  clear hL
  by_cases e : k = 1
  · subst e
    cases hl : leapB y
    · have hi := fun w => impl_leap y w
      rw [hl] at hi
      have HM : Hid (X = md y 2) := by
        show X = md y 2
        rw [HX.out, md_2, hl]; rfl
      clear hl
      go_enter Tryz.func215, Tryz.ntmps215
      go_wp2_with (first | (go_at_call 66; go_in) | (go_at_call 214; refine (hi _).mono ?_; rintro e w' ⟨rfl, rfl⟩))
      go_ret
      exact ⟨ret_int HM.out, rfl⟩
    · have hi := fun w => impl_leap y w
      rw [hl] at hi
      have HM : Hid (29 = md y 2) := by
        show 29 = md y 2
        rw [md_2, hl]; rfl
      clear hl
      go_enter Tryz.func215, Tryz.ntmps215
      go_wp2_with (first | (go_at_call 66; go_in) | (go_at_call 214; refine (hi _).mono ?_; rintro e w' ⟨rfl, rfl⟩))
      go_ret
      exact ⟨ret_int HM.out, rfl⟩
  · have ne : ¬ (k : Int) + 1 = 2 := by omega
    have nf : ((k : Int) + 1 == 2) = false := by simpa using ne
    have HM := hid_intro (HX.out.trans (tab_md y k hk fun h => absurd h e))
    clear e hk
    go_enter Tryz.func215, Tryz.ntmps215
    go_wp2_with (first | (go_at_call 66; go_in) | (go_at_call 214; refine (impl_leap y _).mono ?_; rintro e w' ⟨rfl, rfl⟩))
    go_ret
    exact ⟨ret_int HM.out, rfl⟩
theorem md_key (y m : Int) (h : ¬ (1970 ≤ y ∧ y ≤ 2200 ∧ 1 ≤ m ∧ m ≤ 12)) : (¬ 1970 ≤ y) ∨ (1970 ≤ y ∧ ¬ y ≤ 2200) ∨ (1970 ≤ y ∧ y ≤ 2200 ∧ ((¬ 1 ≤ m) ∨ (1 ≤ m ∧ ¬ m ≤ 12))) := by omega
theorem impl_md_out (y m : Int) (h : ¬ (1970 ≤ y ∧ y ≤ 2200 ∧ 1 ≤ m ∧ m ≤ 12)) (w : World) :
    Calls Tryz.prog 215 #[.int .i64 y, .int .i64 m] w fun e w' => e = .returned (.int .i64 0) ∧ w' = w := by
  rcases md_key y m h with h1 | ⟨h1, h2⟩ | ⟨h1, h2, h3 | ⟨h3, h4⟩⟩
  all_goals
    clear h
    go_enter Tryz.func215, Tryz.ntmps215
    go_wp2
    go_ret
    exact ⟨rfl, rfl⟩
theorem impl_md (y m : Int) (w : World) (hL : Laid w) :
    Calls Tryz.prog 215 #[.int .i64 y, .int .i64 m] w fun e w' => e = .returned (.int .i64 (mdays y m)) ∧ w' = w := by
  unfold mdays
  by_cases h : 1970 ≤ y ∧ y ≤ 2200 ∧ 1 ≤ m ∧ m ≤ 12
  · rw [if_pos h]
    obtain ⟨k, rfl⟩ : ∃ k : Nat, m = (k : Int) + 1 := ⟨(m - 1).toNat, by omega⟩
    exact impl_md_in y k (by omega) h.1 h.2.1 w hL
  · rw [if_neg h]
    exact impl_md_out y m h w
theorem tab_at (k : Nat) (h : k < 12) : ([Value.int IntKind.i64 31, Value.int IntKind.i64 28, Value.int IntKind.i64 31, Value.int IntKind.i64 30, Value.int IntKind.i64 31, Value.int IntKind.i64 30, Value.int IntKind.i64 31, Value.int IntKind.i64 31, Value.int IntKind.i64 30, Value.int IntKind.i64 31, Value.int IntKind.i64 30, Value.int IntKind.i64 31] : List Value)[k] = .int .i64 (tab.getD k 0) := by
  match k, h with
  | 0, _ => rfl
  | 1, _ => rfl
  | 2, _ => rfl
  | 3, _ => rfl
  | 4, _ => rfl
  | 5, _ => rfl
  | 6, _ => rfl
  | 7, _ => rfl
  | 8, _ => rfl
  | 9, _ => rfl
  | 10, _ => rfl
  | 11, _ => rfl
theorem spec_md_in (y : Int) (k : Nat) (hk : k < 12) (y1 : 1970 ≤ y) (y2 : y ≤ 2200) (w : World) :
    Calls Tryz.prog 181 #[.int .i64 y, .int .i64 ((k : Int) + 1)] w fun e w' => e = .returned (.int .i64 (md y ((k : Int) + 1))) ∧ Below w.heap.size w w' := by
  have k1 : (1 : Int) ≤ (k : Int) + 1 := by omega
  have k2 : (k : Int) + 1 ≤ 12 := by omega
  by_cases e : k = 1
  · subst e
    cases hl : leapB y
    · have hi := fun w => spec_leap y w
      rw [hl] at hi
      have HM : Hid (28 = md y 2) := by
        show 28 = md y 2
        rw [md_2, hl]; rfl
      clear hl
      go_enter Tryz.func181, Tryz.ntmps181
      go_wp2_with (first | (go_at_call 180; go_in) | (go_at_call 69; go_in) | (go_at_call 202; refine (hi _).mono ?_; rintro e w' ⟨rfl, rfl⟩))
      go_ret
      exact ⟨ret_int HM.out, (Below.refl _ _).alloc (Nat.le_refl _) _⟩
    · have hi := fun w => spec_leap y w
      rw [hl] at hi
      have HM : Hid (29 = md y 2) := by
        show 29 = md y 2
        rw [md_2, hl]; rfl
      clear hl
      go_enter Tryz.func181, Tryz.ntmps181
      go_wp2_with (first | (go_at_call 180; go_in) | (go_at_call 69; go_in) | (go_at_call 202; refine (hi _).mono ?_; rintro e w' ⟨rfl, rfl⟩))
      go_ret
      exact ⟨ret_int HM.out, Below.refl _ _⟩
  · have ne : ¬ (k : Int) + 1 = 2 := by omega
    have nf : ((k : Int) + 1 == 2) = false := by simpa using ne
    have HM := hid_intro (tab_md y k hk fun h => absurd h e)
    have HK := hid_intro hk
    clear e
    go_enter Tryz.func181, Tryz.ntmps181
    go_wp2_with (first | (go_at_call 180; go_in) | (go_at_call 69; go_in) | (go_at_call 202; refine (spec_leap y _).mono ?_; rintro e w' ⟨rfl, rfl⟩))
    go_ret
    exact ⟨(congrArg Ending.returned (tab_at k HK.out)).trans (ret_int HM.out), (Below.refl _ _).alloc (Nat.le_refl _) _⟩
theorem spec_md_out (y m : Int) (h : ¬ (1970 ≤ y ∧ y ≤ 2200 ∧ 1 ≤ m ∧ m ≤ 12)) (w : World) :
    Calls Tryz.prog 181 #[.int .i64 y, .int .i64 m] w fun e w' => e = .returned (.int .i64 0) ∧ w' = w := by
  rcases md_key y m h with h1 | ⟨h1, h2⟩ | ⟨h1, h2, h3 | ⟨h3, h4⟩⟩
  all_goals
    clear h
    go_enter Tryz.func181, Tryz.ntmps181
    go_wp2
    go_ret
    exact ⟨rfl, rfl⟩
theorem spec_md (y m : Int) (w : World) :
    Calls Tryz.prog 181 #[.int .i64 y, .int .i64 m] w fun e w' => e = .returned (.int .i64 (mdays y m)) ∧ Below w.heap.size w w' := by
  unfold mdays
  by_cases h : 1970 ≤ y ∧ y ≤ 2200 ∧ 1 ≤ m ∧ m ≤ 12
  · rw [if_pos h]
    obtain ⟨k, rfl⟩ : ∃ k : Nat, m = (k : Int) + 1 := ⟨(m - 1).toNat, by omega⟩
    exact spec_md_in y k (by omega) h.1 h.2.1 w
  · rw [if_neg h]
    exact (spec_md_out y m h w).mono fun e w' ⟨h1, h2⟩ => ⟨h1, h2 ▸ Below.refl _ _⟩
/-- A date as the program has it. -/
def date (y m d : Int) : Value := .agg #[.int .i64 y, .int .i64 m, .int .i64 d]
end DateR
end Go.Proofs.YtcilbmhkhllmjaaGreatDoor
namespace Go.Proofs.YtcilbmhkhllmjaaGreatDoor
open Go.ChangeShapes Go.WideShapes Go.ChangeAt Go.RowKit
set_option linter.unusedVariables false
namespace DateR
open DateM
theorem right_cut (y m d X : Int) (hX : X = mdays y m) : (decide (1970 ≤ y ∧ y ≤ 2200) = false ∧ rightB y m d = false) ∨ (decide (1970 ≤ y ∧ y ≤ 2200) = true ∧ decide (1 ≤ m ∧ m ≤ 12) = false ∧ rightB y m d = false) ∨ (decide (1970 ≤ y ∧ y ≤ 2200) = true ∧ decide (1 ≤ m ∧ m ≤ 12) = true ∧ decide (1 ≤ d ∧ d ≤ X) = rightB y m d) := by
  have hr := right_iff y m d
  by_cases h1 : 1970 ≤ y ∧ y ≤ 2200
  · by_cases h2 : 1 ≤ m ∧ m ≤ 12
    · exact .inr (.inr ⟨decide_eq_true h1, decide_eq_true h2, by rw [hX]; rfl⟩)
    · refine .inr (.inl ⟨decide_eq_true h1, decide_eq_false h2, ?_⟩)
      cases h : rightB y m d
      · rfl
      · have := hr.1 h; exact absurd ⟨this.2.2.1, this.2.2.2.1⟩ h2
  · refine .inl ⟨decide_eq_false h1, ?_⟩
    cases h : rightB y m d
    · rfl
    · have := hr.1 h; exact absurd ⟨this.1, this.2.1⟩ h1
theorem is_any (n low high : Int) (w : World) :
    Calls Tryz.prog 69 #[.int .i64 n, .int .i64 low, .int .i64 high] w fun e w' => e = .returned (.bool (decide (low ≤ n ∧ n ≤ high))) ∧ w' = w := by
  by_cases h1 : low ≤ n
  · go_enter Tryz.func69, Tryz.ntmps69
    go_wp2
    go_ret
    exact ⟨ret_bool (by simp [h1]), rfl⟩
  · go_enter Tryz.func69, Tryz.ntmps69
    go_wp2
    go_ret
    exact ⟨ret_bool (by rw [decide_eq_false (show ¬ low ≤ n by omega)]; rfl), rfl⟩
theorem year_any (n : Int) (w : World) :
    Calls Tryz.prog 180 #[.int .i64 n] w fun e w' => e = .returned (.bool (decide (1970 ≤ n ∧ n ≤ 2200))) ∧ w' = w := by
  go_enter Tryz.func180, Tryz.ntmps180
  go_wp2_with (go_at_call 69; refine (is_any _ _ _ _).mono ?_; rintro e w' ⟨rfl, rfl⟩)
  go_ret
  exact ⟨ret_bool (by simp), rfl⟩
/-- What is held through the region: the date's own cells. -/
def Box (w : World) (B : Nat) (y m d : Int) (w' : World) : Prop := Below B w w' ∧ B < w'.heap.size ∧ w'.cell? ⟨B, 0, none⟩ = some (.int .i64 y) ∧ w'.cell? ⟨B, 1, none⟩ = some (.int .i64 m) ∧ w'.cell? ⟨B, 2, none⟩ = some (.int .i64 d)
theorem Box.below {w w1 w2 : World} {B : Nat} {y m d : Int} (h : Box w B y m d w1) (hb : Below w1.heap.size w1 w2) : Box w B y m d w2 :=
  ⟨h.1.trans (hb.mono (by have := h.2.1; omega)), by have := hb.size; have := h.2.1; omega, by rw [hb.cell (p := ⟨B, 0, none⟩) h.2.1]; exact h.2.2.1, by rw [hb.cell (p := ⟨B, 1, none⟩) h.2.1]; exact h.2.2.2.1, by rw [hb.cell (p := ⟨B, 2, none⟩) h.2.1]; exact h.2.2.2.2⟩
set_option maxHeartbeats 8000000 in
theorem spec_right (y m d : Int) (w : World) :
    Calls Tryz.prog 207 #[date y m d] w fun e w' => e = .returned (.bool (rightB y m d)) ∧ Below w.heap.size w w' := by
  unfold date
  obtain ⟨X, hX⟩ : ∃ X, X = mdays y m := ⟨_, rfl⟩
  have key := right_cut y m d X hX
  have HI := hid_intro (fun w => spec_md y m w)
  rw [← hX] at HI
  clear hX
  generalize rightB y m d = r at key ⊢
  have HB0 := hid_intro ((((Below.refl w.heap.size w).alloc (Nat.le_refl _) (Obj.cells #[.int .i64 y, .int .i64 m, .int .i64 d] 208))).drew)
  have key2 : ∃ q1 q2 : Bool, decide (1970 ≤ y ∧ y ≤ 2200) = q1 ∧ decide (1 ≤ m ∧ m ≤ 12) = q2 ∧ Hid ((q1 = false ∧ r = false) ∨ (q1 = true ∧ q2 = false ∧ r = false) ∨ (q1 = true ∧ q2 = true ∧ decide (1 ≤ d ∧ d ≤ X) = r)) := ⟨_, _, rfl, rfl, key⟩
  clear key
  obtain ⟨q1, q2, h1, h2, H3⟩ := key2
  cases q1
  · go_enter Tryz.func207, Tryz.ntmps207
    go_wp2
    go_quiet ((first | (go_at_call 180; exact Calls.quiet_of_same (year_any _ _)) | (go_at_call 69; exact Calls.quiet_of_same (is_any _ _ _ _))))
    go_wp2
    go_ret
    exact ⟨ret_bool (by rcases H3.out with h | h | h <;> simp_all), bel_drewN ((Below.refl _ _).alloc (Nat.le_refl _) _) _⟩
  cases q2
  · go_enter Tryz.func207, Tryz.ntmps207
    go_wp2
    go_quiet ((first | (go_at_call 180; exact Calls.quiet_of_same (year_any _ _)) | (go_at_call 69; exact Calls.quiet_of_same (is_any _ _ _ _))))
    go_wp2
    go_ret
    exact ⟨ret_bool (by rcases H3.out with h | h | h <;> simp_all), bel_drewN ((Below.refl _ _).alloc (Nat.le_refl _) _) _⟩
  · go_enter Tryz.func207, Tryz.ntmps207
    go_wp2
    go_region_held3 (fun w' => Below w.heap.size w w' ∧ w.heap.size < w'.heap.size ∧ w'.cell? ⟨w.heap.size, 0, none⟩ = some (.int .i64 y) ∧ w'.cell? ⟨w.heap.size, 1, none⟩ = some (.int .i64 m) ∧ w'.cell? ⟨w.heap.size, 2, none⟩ = some (.int .i64 d)) (first | assumption | (refine ⟨HB0.out, ?_⟩; go_keep; done) | (exact Box.below (w := w) (B := w.heap.size) (y := y) (m := m) (d := d) (by assumption) hb))
        (first | (go_at_call 180; refine (year_any _ _).mono ?_; rintro e w' ⟨rfl, rfl⟩) | (go_at_call 69; refine (is_any _ _ _ _).mono ?_; rintro e w' ⟨rfl, rfl⟩) | (go_at_call 181; refine (HI.out _).mono ?_; rintro e w' ⟨rfl, hb⟩))
    go_wp2
    rename_i hS
    go_ret
    exact ⟨ret_bool (by rcases H3.out with h | h | h <;> simp_all), hS.1⟩
end DateR
end Go.Proofs.YtcilbmhkhllmjaaGreatDoor
