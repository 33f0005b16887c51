/-
  Lines that are put together, and what is left of them behind a credit: both sides say the same. The condition: at most 1048576 lines, whose Meters have at most 1048576 bytes.
  What lines come to: both sides say the same. The condition: at most 1048576 lines, whose Meters have at most 1048576 bytes.
  FnExactClamp: for every number and bounds the law's call returns true (the program's Clamp hands back what the model's does), and the input reads as it did. No condition.
  Drawn on both sides: what is left of lines behind a credit. The condition: at most 1048576 lines, whose Meters have at most 1048576 bytes.
-/
import Derived.OwnWalk
import Derived.Deep.RegionHeld3
import Derived.Test.YtcilbmhkhllmjaaGreatDoorB10
namespace Go.Proofs.YtcilbmhkhllmjaaGreatDoor
open Go.ChangeShapes Go.WideShapes Go.ChangeAt Go.RowKit
set_option linter.unusedVariables false
namespace LinR
open RowG LtR
/-- append to a list of one's own, as one step of a region that draws. -/
theorem step_append_own {P : Program} {w : World} {ops : Array Oper} {o : Oper} {a : Act} {K : Act → World → Prop} {Q : Exit → Act → World → Prop} {E : Prop} (hgd : o.guard = none) (s x : Operand) (t : TypeId)
    (ho : o.op = .call { callee := .builtin .append, args := #[s, x], argTypes := #[t, t] })
    (base : Nat) (e : TypeId) (i : TypeInfo) (z : Value) (size bytes : Nat) (ht : P.underlying t = some (.slice e)) (hi : P.info? e = some i) (hz : i.zero = some z)
    (hsize : i.size = size) (hby : i.bytes = bytes) (hzs : z.cells.size = size) (hsz : 0 < size)
    (v : Value) (n : Nat) (xs : List Value) (hs : a.eval s = v) (hown : w.ownsRow base e size v n xs)
    (ad : Addr) (m c : Nat) (news : List Value) (hx : a.eval x = .slice (some ad) m c) (hl : news.length = m * size) (hnews : ∀ j u, news[j]? = some u → w.cell? (ad.add j) = some u) (h1 : ∀ u ∈ news, u.oneCell' = true)
    (h63 : n + m ≤ maxLen) (hbytes : (n + m) * bytes ≤ 140737488355328) (hbase : base ≤ w.heap.size)
    (h : ∀ v' w', w'.ownsRow base e size v' (n + m) (xs ++ news) → w.grownBy w' v.ownBlock → (v' = .slice none 0 0 ↔ v = .slice none 0 0 ∧ m = 0) → K (a.put o.dst v') w') : if Region.wanted o (yielded ops a.tmps) = true then Oper.wp P o a w K Q else E := by
  have hw : Region.wanted o (yielded ops a.tmps) = true := by simp [Region.wanted, hgd]
  rw [if_pos hw]
  exact wp_append_own w s x t ho base e i z size bytes ht hi hz hsize hby hzs hsz v n xs hs hown ad m c news hx hl hnews h1 h63 hbytes hbase h
theorem own_drew {w : World} {base e size n : Nat} {v : Value} {xs : List Value} (h : w.ownsRow base e size v n xs) : w.drew.ownsRow base e size v n xs := h
theorem own_low {w : World} {base base' e size n : Nat} {v : Value} {xs : List Value} (h : w.ownsRow base e size v n xs) (hb : base' ≤ base) : w.ownsRow base' e size v n xs := by
  refine ⟨h.1, ?_⟩
  rcases h.2 with hn | ⟨g, cap, cur, rfl, h1, rest⟩
  · exact .inl hn
  · exact .inr ⟨g, cap, cur, rfl, by omega, rest⟩
theorem own_empty (w : World) (base e size : Nat) (hb : base ≤ w.heap.size) : (w.alloc (.cells #[] e)).ownsRow base e size (.slice (some ⟨w.heap.size, 0, none⟩) 0 0) 0 [] :=
  World.ownsRow_made w #[] 0 hb (by unfold maxLen; omega) (by simp)
/-- What is held while a line is put. -/
def BM2 (w : World) (B : Nat) (a0 a1 : Value) (W : World) : Prop := Below w.heap.size w W ∧ B < W.heap.size ∧ W.cell? ⟨B, 0, none⟩ = some a0 ∧ W.cell? ⟨B, 1, none⟩ = some a1
theorem BM2.below {w : World} {B : Nat} {a0 a1 : Value} {W W' : World} (h : BM2 w B a0 a1 W) (hb : Below W.heap.size W W') : BM2 w B a0 a1 W' := by
  obtain ⟨h0, l1, p0, p1⟩ := h
  have f := fun o => hb.cell (p := ⟨B, o, none⟩) l1
  have hs := hb.size
  exact ⟨h0.trans (hb.mono h0.size), by omega, (f 0).trans p0, (f 1).trans p1⟩
theorem BM2.drew {w : World} {B : Nat} {a0 a1 : Value} {W : World} (h : BM2 w B a0 a1 W) : BM2 w B a0 a1 W.drew := ⟨h.1.drew, h.2⟩
theorem BM2.grown {w : World} {B : Nat} {a0 a1 : Value} {W W' : World} {v : Value} {wr : World} {base e size n : Nat} {xs : List Value} (h : BM2 w B a0 a1 W) (hg : W.grownBy W' v.ownBlock) (ho : wr.ownsRow base e size v n xs) (hB : B = wr.heap.size := by rfl) (hbase : w.heap.size ≤ base := by omega) : BM2 w B a0 a1 W' := by
  obtain ⟨h0, l1, p0, p1⟩ := h
  have hne : some B ≠ v.ownBlock := fun e => by have := (ho.lt B e.symm).2; omega
  have e := hg.block B l1 hne
  exact ⟨h0.grown hg h0.size (fun k e => by have := (ho.lt k e).1; omega), by have := hg.size; omega, (World.cell?_of_block (a := ⟨B, 0, none⟩) e).trans p0, (World.cell?_of_block (a := ⟨B, 1, none⟩) e).trans p1⟩
theorem two_cells (W : World) (i : ByteArray) (n : Int) (T : TypeId) : ∀ (j : Nat) u, (N.cells ⟨i, n⟩)[j]? = some u → (W.alloc (.cells #[.string i, .int .i64 n] T)).cell? ((⟨W.heap.size, 0, none⟩ : Addr).add j) = some u := by
  intro j u hx
  have hx2 : j < 2 := by
    have := (List.getElem?_eq_some_iff.1 hx).1
    simpa [N.cells] using this
  match j, hx2, hx with
  | 0, _, hx => simp [N.cells] at hx; subst hx; simp [Addr.add, go_sem]
  | 1, _, hx => simp [N.cells] at hx; subst hx; simp [Addr.add, go_sem]
theorem two_one (x : N) : ∀ u ∈ N.cells x, u.oneCell' = true := by
  intro u hu
  simp only [N.cells, List.mem_cons, List.not_mem_nil, or_false] at hu
  rcases hu with rfl | rfl <;> rfl
theorem filter_more (p : N → Bool) (xs : List N) (k : Nat) (h : k < xs.length) : (xs.take (k + 1)).filter p = (xs.take k).filter p ++ (bif p (xs.getD k N.zero) then [xs.getD k N.zero] else []) := by
  rw [take_more (z := N.zero) xs k h, List.filter_append]
  generalize xs.getD k N.zero = X
  cases hr : p X <;> simp [hr]
/-- What is not 0. -/
def nz (x : N) : Bool := decide (x.n ≠ 0)
theorem nz_cases (i : ByteArray) (n : Int) : ((n == 0) = true ∧ (n != 0) = false ∧ nz ⟨i, n⟩ = false) ∨ ((n == 0) = false ∧ (n != 0) = true ∧ nz ⟨i, n⟩ = true) := by
  unfold nz
  by_cases h : n = 0
  · exact .inl ⟨by simpa using h, by simpa using h, by simpa using h⟩
  · exact .inr ⟨by simpa using h, by simpa using h, by simpa using h⟩
set_option maxRecDepth 100000 in
set_option maxHeartbeats 4000000 in
theorem put_any (ao : Option Addr) (cap : Nat) (es : List N) (w : World) (hlen : es.length ≤ 1048576) (hS : ∀ e ∈ es, e.i.size ≤ 1048576) (hI : Lis ao es w) :
    Calls Tryz.prog 68 #[.slice ao es.length cap] w fun e w' => ∃ v, e = .returned v ∧ w'.ownsRow w.heap.size 58 2 v (es.filter nz).length (cellsAll N.cells (es.filter nz)) ∧ Below w.heap.size w w' := by
  obtain ⟨i0, hi, hz0, hz1, hz2⟩ := info_parts infoN
  have HI := hid_intro hI
  have HS := hid_intro hS
  obtain ⟨len, hl⟩ : ∃ len, len = es.length := ⟨_, rfl⟩
  rw [← hl] at hlen ⊢
  have HL := hid_intro hl
  clear hI hS hl
  go_enter Tryz.func68, Tryz.ntmps68
  go_wp2_with fail
  go_loopw [3, 8] (fun v z wr => ∃ k : Nat, k ≤ len ∧ z = .int .i64 k ∧ Hid (wr.ownsRow w.heap.size 58 2 v ((es.take k).filter nz).length (cellsAll N.cells ((es.take k).filter nz))) ∧ Hid (Below w.heap.size w wr)) (fun v z _ => len - (intOf z).toNat)
  case atStart => exact ⟨0, by omega, rfl, hid_intro (World.ownsRow_nil _ _ _ _), hid_intro (Below.refl _ _)⟩
  case round =>
    obtain ⟨k, hk, rfl, HO, HB⟩ := hrel
    by_cases hlt : k < len
    · have hlt2 : (k : Int) < (len : Int) := by omega
      obtain ⟨b, off, rfl, hbl, c0, c1⟩ := (HI.out.below HB.out).at k (by have := HL.out; omega)
      have hsz := HS.out _ (getD_mem (z := N.zero) es k (by have := HL.out; omega))
      have HF := hid_intro (filter_more nz es k (by have := HL.out; omega))
      have HLF : Hid (((es.take k).filter nz).length ≤ 1048576) := hid_intro (by
        have h1 := List.length_filter_le nz (es.take k)
        have h2 := List.length_take_le k es
        omega)
      obtain ⟨F, hF⟩ : ∃ F, F = (es.take k).filter nz := ⟨_, rfl⟩
      rw [← hF] at HO HF HLF
      clear hF
      generalize es.getD k N.zero = X at *
      obtain ⟨xi, xn⟩ := X
      dsimp only at c0 c1 hsz
      rcases nz_cases xi xn with ⟨q1, q2, q3⟩ | ⟨q1, q2, q3⟩
      · rw [q3] at HF
        go_wp2_with fail
        go_roundw
        case rel => exact ⟨k + 1, by omega, by go_num, hid_intro (by rw [HF.out, cond_false, List.append_nil]; exact HO.out.alloc _), hid_intro (HB.out.alloc HB.out.size _)⟩
        case measure => simp [intOf]; omega
      · rw [q3] at HF
        have HCL := hid_intro (fun w => CloneR.clone_any xi w (by omega))
        have HAl : Hid (BM2 w wr.heap.size (.string xi) (.int .i64 xn) (wr.alloc (.cells #[.string xi, .int .i64 xn] 58))) := hid_intro ⟨HB.out.alloc HB.out.size _, by simp, by simp [go_sem], by simp [go_sem]⟩
        have HAd := hid_intro HAl.out.drew
        have HOA := hid_intro (own_drew (HO.out.alloc (.cells #[.string xi, .int .i64 xn] 58)))
        have sz1 : F.length + 1 ≤ maxLen := by unfold maxLen; have := HLF.out; omega
        have sz2 : (F.length + 1) * 24 ≤ 140737488355328 := by have := HLF.out; omega
        have sz3 : 0 < 2 := by omega
        go_wp2_with fail
        go_region_held3 (fun W => Below w.heap.size w W ∧ wr.heap.size < W.heap.size ∧ W.cell? ⟨wr.heap.size, 0, none⟩ = some (.string xi) ∧ W.cell? ⟨wr.heap.size, 1, none⟩ = some (.int .i64 xn))
          (first | assumption | (exact HAl.out) | (exact HAd.out) | (exact BM2.below (w := w) (B := wr.heap.size) (by assumption) hb1) | (exact BM2.below (w := w) (B := wr.heap.size) (by assumption) ((Below.refl _ _).alloc (Nat.le_refl _) _)) | (exact BM2.grown (w := w) (B := wr.heap.size) (by assumption) hgrow HO.out rfl (Nat.le_refl _)))
          (first | (go_at_call 109; refine (HCL.out _).mono ?_; rintro e w1 ⟨rfl, hb1⟩; have HO1 := hid_intro (own_below HOA.out hb1); have HS1 : Hid (w.heap.size ≤ w1.heap.size) := hid_intro (Nat.le_trans HAd.out.1.size hb1.size)) | (refine step_append_own rfl _ _ 29 rfl w.heap.size 58 i0 (.agg #[.string ⟨#[]⟩, .int .i64 0]) 2 24 Tryz.underlying29 hi hz0 hz1 hz2 rfl sz3 _ _ _ rfl (HO1.out.alloc _) ⟨w1.heap.size, 0, none⟩ 1 1 (N.cells ⟨xi, xn⟩) rfl rfl (two_cells _ _ _ _) (two_one _) sz1 sz2 (Nat.le_trans HS1.out (by simp)) ?_; intro v' w4 hown hgrow hne))
        rename_i hS
        have HB4 := hid_intro hS.1
        have HO4 : Hid (w4.ownsRow w.heap.size 58 2 v' (F ++ [(⟨xi, xn⟩ : N)]).length (cellsAll N.cells (F ++ [(⟨xi, xn⟩ : N)]))) := hid_intro (by rw [cellsAll_app, List.length_append]; exact hown)
        clear hown hgrow hne hS
        go_wp2_with fail
        go_roundw
        case rel => exact ⟨k + 1, by omega, by go_num, hid_intro (by rw [HF.out, cond_true]; exact HO4.out), HB4⟩
        case measure => simp [intOf]; omega
    · have hlt2 : ¬ (k : Int) < (len : Int) := by omega
      obtain rfl : k = len := by omega
      have HE : Hid (es.take k = es) := hid_intro (List.take_of_length_le (by have := HL.out; omega))
      rw [HE.out] at HO
      go_wp2_with fail
      go_ret
      exact ⟨_, rfl, HO.out, HB.out⟩
end LinR
end Go.Proofs.YtcilbmhkhllmjaaGreatDoor
namespace Go.Proofs.YtcilbmhkhllmjaaGreatDoor
open Go.ChangeShapes Go.WideShapes Go.ChangeAt Go.RowKit
set_option linter.unusedVariables false
namespace LinR
open RowG LtR
def sumL (es : List N) : Int := (es.map (fun e => e.n)).sum
def totL (es : List N) : Int := bif sB es then sumL es else 0
theorem sum_take (es : List N) (k : Nat) (h : k < es.length) : sumL (es.take (k + 1)) = sumL (es.take k) + (es.getD k N.zero).n := by
  unfold sumL
  rw [take_more (z := N.zero) es k h, List.map_append, List.sum_append]
  simp
theorem num_in {n : Int} (h : nOk n = true) : -1000000000000000 ≤ n ∧ n ≤ 1000000000000000 := by unfold nOk at h; simpa using h
theorem line_in {es : List N} (h : SRight es) (k : Nat) (hk : k < es.length) : -1000000000000000 ≤ (es.getD k N.zero).n ∧ (es.getD k N.zero).n ≤ 1000000000000000 := by
  have := (h.2 k hk).2
  unfold lOk at this
  simp only [Bool.and_eq_true] at this
  exact num_in this.2.1
theorem sum_in {es : List N} (h : SRight es) : ∀ k, k ≤ es.length → -(1000000000000000 * (k : Int)) ≤ sumL (es.take k) ∧ sumL (es.take k) ≤ 1000000000000000 * (k : Int)
  | 0, _ => by simp [sumL]
  | k + 1, hk => by
    have h1 := sum_in h k (by omega)
    have h2 := line_in h k (by omega)
    rw [sum_take es k (by omega)]
    push_cast
    omega
set_option maxRecDepth 100000 in
set_option maxHeartbeats 4000000 in
theorem impl_total (ao : Option Addr) (cap : Nat) (es : List N) (w : World) (hlen : es.length ≤ 1048576) (hS : ∀ e ∈ es, e.i.size ≤ 1048576) (hI : Lis ao es w) :
    Calls Tryz.prog 25 #[.slice ao es.length cap] w fun e w' => e = .returned (.int .i64 (totL es)) ∧ Below w.heap.size w w' := by
  have H1 := hid_intro (impl_lines ao cap es w hlen hS hI)
  have HT : Hid (totL es = bif sB es then sumL es else 0) := rfl
  have HR := hid_intro (sB_iff (es := es)).1
  have HI := hid_intro hI
  generalize totL es = T at *
  generalize sB es = r at *
  obtain ⟨len, hl⟩ : ∃ len, len = es.length := ⟨_, rfl⟩
  rw [← hl] at hlen H1 ⊢
  have HL := hid_intro hl
  clear hI hS hl
  cases r
  · go_enter Tryz.func25, Tryz.ntmps25
    go_wp2_with fail
    refine (H1.out).mono ?_
    rintro e w1 ⟨rfl, hb1⟩
    have HB := hid_intro hb1
    clear hb1
    go_wp2_with fail
    go_ret
    exact ⟨ret_int HT.out.symm, HB.out⟩
  · have HQ := hid_intro (HR.out rfl)
    have h6 : len ≤ 6 := by have := HQ.out.1; have := HL.out; omega
    go_enter Tryz.func25, Tryz.ntmps25
    go_wp2_with fail
    refine (H1.out).mono ?_
    rintro e w1 ⟨rfl, hb1⟩
    have HB := hid_intro hb1
    clear hb1
    go_wp2_with fail
    go_loopw [3, 11] (fun x z wr => ∃ (k : Nat) (t : Int), k ≤ len ∧ x = .int .i64 t ∧ z = .int .i64 k ∧ Hid (t = sumL (es.take k)) ∧ Hid (Below w.heap.size w wr)) (fun x z _ => len - (intOf z).toNat)
    case atStart => exact ⟨0, 0, by omega, rfl, rfl, hid_intro (by simp [sumL]), HB⟩
    case round =>
      obtain ⟨k, t, hk, rfl, rfl, HS, HB⟩ := hrel
      by_cases hlt : k < len
      · have hlt2 : (k : Int) < (len : Int) := by omega
        obtain ⟨b, off, rfl, hbl, c0, c1⟩ := (HI.out.below HB.out).at k (by have := HL.out; omega)
        have HN := hid_intro (sum_take es k (by have := HL.out; omega))
        have hw : wrap64 (t + (es.getD k N.zero).n) = t + (es.getD k N.zero).n := by
          have a := sum_in HQ.out k (by have := HL.out; omega)
          have b := line_in HQ.out k (by have := HL.out; omega)
          rw [← HS.out] at a
          unfold wrap64; omega
        generalize es.getD k N.zero = X at *
        obtain ⟨xi, xn⟩ := X
        dsimp only at c0 c1 hw HN
        have HAl := hid_intro (fun o => HB.out.alloc HB.out.size o)
        go_wp2_with fail
        go_roundw
        case rel => exact ⟨k + 1, t + xn, by omega, by first | rfl | rw [hw], by go_num, hid_intro (by rw [HN.out, HS.out]), hid_intro (HAl.out _)⟩
        case measure => simp [intOf]; omega
      · have hlt2 : ¬ (k : Int) < (len : Int) := by omega
        obtain rfl : k = len := by omega
        have HE : Hid (es.take k = es) := hid_intro (List.take_of_length_le (by have := HL.out; omega))
        rw [HE.out] at HS
        go_wp2_with fail
        go_ret
        exact ⟨ret_int (by rw [HT.out, HS.out]; rfl), HB.out⟩
set_option maxRecDepth 100000 in
set_option maxHeartbeats 4000000 in
theorem spec_total (ao : Option Addr) (cap : Nat) (es : List N) (w : World) (hlen : es.length ≤ 1048576) (hS : ∀ e ∈ es, e.i.size ≤ 1048576) (hI : Lis ao es w) :
    Calls Tryz.prog 26 #[.slice ao es.length cap] w fun e w' => e = .returned (.int .i64 (totL es)) ∧ Below w.heap.size w w' := by
  by_cases h4 : 400 < es.length
  · have HT : Hid (totL es = 0) := hid_intro (by unfold totL; rw [sB_long (by omega)]; rfl)
    generalize totL es = T at *
    obtain ⟨len, hl⟩ : ∃ len, len = es.length := ⟨_, rfl⟩
    rw [← hl] at hlen h4 ⊢
    have h4' : (400 : Int) < (len : Int) := by omega
    clear hI hS hl
    go_enter Tryz.func26, Tryz.ntmps26
    go_wp2_with fail
    go_ret
    exact ⟨ret_int HT.out.symm, Below.refl _ _⟩
  have H1 := hid_intro (spec_lines ao cap es w hlen hS hI)
  have HT : Hid (totL es = bif sB es then sumL es else 0) := rfl
  have HR := hid_intro (sB_iff (es := es)).1
  have HI := hid_intro hI
  generalize totL es = T at *
  generalize sB es = r at *
  obtain ⟨len, hl⟩ : ∃ len, len = es.length := ⟨_, rfl⟩
  rw [← hl] at hlen H1 h4 ⊢
  have HL := hid_intro hl
  have h4' : ¬ (400 : Int) < (len : Int) := by omega
  clear hI hS hl
  cases r
  · go_enter Tryz.func26, Tryz.ntmps26
    go_wp2_with fail
    refine (H1.out).mono ?_
    rintro e w1 ⟨rfl, hb1⟩
    have HB := hid_intro hb1
    clear hb1
    go_wp2_with fail
    go_ret
    exact ⟨ret_int HT.out.symm, HB.out⟩
  · have HQ := hid_intro (HR.out rfl)
    have h6 : len ≤ 6 := by have := HQ.out.1; have := HL.out; omega
    go_enter Tryz.func26, Tryz.ntmps26
    go_wp2_with fail
    refine (H1.out).mono ?_
    rintro e w1 ⟨rfl, hb1⟩
    have HB := hid_intro hb1
    clear hb1
    go_wp2_with fail
    go_loopw [3, 4] (fun x z wr => ∃ (k : Nat) (t : Int), k ≤ len ∧ x = .int .i64 t ∧ z = .int .i64 k ∧ Hid (t = sumL (es.take k)) ∧ Hid (Below w.heap.size w wr)) (fun x z _ => len - (intOf z).toNat)
    case atStart => exact ⟨0, 0, by omega, rfl, rfl, hid_intro (by simp [sumL]), HB⟩
    case round =>
      obtain ⟨k, t, hk, rfl, rfl, HS, HB⟩ := hrel
      by_cases hlt : k < len
      · have hlt2 : (k : Int) < (len : Int) := by omega
        obtain ⟨b, off, rfl, hbl, c0, c1⟩ := (HI.out.below HB.out).at k (by have := HL.out; omega)
        have HN := hid_intro (sum_take es k (by have := HL.out; omega))
        have hw : wrap64 (t + (es.getD k N.zero).n) = t + (es.getD k N.zero).n := by
          have a := sum_in HQ.out k (by have := HL.out; omega)
          have b := line_in HQ.out k (by have := HL.out; omega)
          rw [← HS.out] at a
          unfold wrap64; omega
        generalize es.getD k N.zero = X at *
        obtain ⟨xi, xn⟩ := X
        dsimp only at c0 c1 hw HN
        have HAl := hid_intro (fun o => HB.out.alloc HB.out.size o)
        go_wp2_with fail
        go_roundw
        case rel => exact ⟨k + 1, t + xn, by omega, by first | rfl | rw [hw], by go_num, hid_intro (by rw [HN.out, HS.out]), by first | exact HB | exact hid_intro (HAl.out _)⟩
        case measure => simp [intOf]; omega
      · have hlt2 : ¬ (k : Int) < (len : Int) := by omega
        obtain rfl : k = len := by omega
        have HE : Hid (es.take k = es) := hid_intro (List.take_of_length_le (by have := HL.out; omega))
        rw [HE.out] at HS
        go_wp2_with fail
        go_ret
        exact ⟨ret_int (by rw [HT.out, HS.out]; rfl), HB.out⟩
end LinR
end Go.Proofs.YtcilbmhkhllmjaaGreatDoor
namespace Go.Proofs.YtcilbmhkhllmjaaGreatDoor
open Go.ChangeShapes Go.WideShapes Go.ChangeAt Go.RowKit
set_option linter.unusedVariables false
namespace ClampR
/-- Either answer. -/
def clamp (n low high : Int) : Int := if n < low then low else if high < n then high else n
theorem impl_any (n low high : Int) (w : World) :
    Calls Tryz.prog 67 #[.int .i64 n, .int .i64 low, .int .i64 high] w fun e w' => e = .returned (.int .i64 (clamp n low high)) ∧ w' = w := by
  unfold clamp
  by_cases h1 : n < low
  · rw [if_pos h1]
    go_enter Tryz.func67, Tryz.ntmps67
    go_wp2
    go_ret
    exact ⟨rfl, rfl⟩
  · rw [if_neg h1]
    by_cases h2 : high < n
    all_goals
      simp only [h2, if_true, if_false]
      go_enter Tryz.func67, Tryz.ntmps67
      go_wp2
      go_ret
      exact ⟨rfl, rfl⟩
end ClampR
end Go.Proofs.YtcilbmhkhllmjaaGreatDoor
namespace Go.Proofs.YtcilbmhkhllmjaaGreatDoor
open Go.ChangeShapes Go.WideShapes Go.ChangeAt Go.RowKit
set_option linter.unusedVariables false
namespace LinR
open RowG LtR
open ClampR (clamp)
/-- What is paid of a line. -/
def pd (c n : Int) : Int := clamp n 0 c
theorem pd_bd {c n : Int} (hc : 0 ≤ c) : 0 ≤ pd c n ∧ pd c n ≤ c ∧ (n ≤ 0 → pd c n = 0) ∧ (0 < n → pd c n ≤ n ∧ (pd c n = n ∨ pd c n = c)) := by
  unfold pd clamp
  split <;> (try split) <;> omega
/-- The credit ahead of a line, the lines behind it. -/
def cr (c : Int) (es : List N) : Nat → Int
  | 0 => c
  | k + 1 => cr c es k - pd (cr c es k) (es.getD k N.zero).n
def dl (c : Int) (es : List N) : Nat → List N
  | 0 => []
  | k + 1 => dl c es k ++ [⟨(es.getD k N.zero).i, (es.getD k N.zero).n - pd (cr c es k) (es.getD k N.zero).n⟩]
theorem dl_len (c : Int) (es : List N) : ∀ k, (dl c es k).length = k
  | 0 => rfl
  | k + 1 => by simp [dl, dl_len c es k]
theorem cr_bd {c : Int} (es : List N) (hc : 0 ≤ c) : ∀ k, 0 ≤ cr c es k ∧ cr c es k ≤ c
  | 0 => ⟨hc, Int.le_refl _⟩
  | k + 1 => by
    have h := cr_bd es hc k
    have p := pd_bd (n := (es.getD k N.zero).n) h.1
    simp only [cr]
    omega
theorem dl_mem {c : Int} {es : List N} : ∀ {k}, k ≤ es.length → ∀ e ∈ dl c es k, ∃ x ∈ es, e.i = x.i
  | 0, _, e, h => by cases h
  | k + 1, hk, e, h => by
    rcases List.mem_append.1 h with h | h
    · exact dl_mem (by omega) e h
    · simp only [List.mem_singleton] at h
      exact ⟨_, getD_mem (z := N.zero) es k (by omega), by rw [h]⟩
/-- Both answers. -/
def drawL (c : Int) (es : List N) : List N := (dl c es es.length).filter nz
def drawB (c : Int) (es : List N) : List N := bif sB es && decide (0 ≤ c ∧ c ≤ 1000000000000000) then drawL c es else []
theorem inS (n low high : Int) (w : World) :
    Calls Tryz.prog 66 #[.int .i64 n, .int .i64 low, .int .i64 high] w fun e w' => e = .returned (.bool (decide (low ≤ n ∧ n ≤ high))) ∧ w' = w := by
  rcases (show (¬ low ≤ n) ∨ (low ≤ n ∧ ¬ n ≤ high) ∨ (low ≤ n ∧ n ≤ high) by omega) with h | ⟨h1, h2⟩ | ⟨h1, h2⟩
  all_goals
    go_enter Tryz.func66, Tryz.ntmps66
    go_wp2
    go_ret
    exact ⟨ret_bool (by first | (simp [*]; done) | (simp; omega)), rfl⟩
theorem isS (n low high : Int) (w : World) :
    Calls Tryz.prog 69 #[.int .i64 n, .int .i64 low, .int .i64 high] w fun e w' => e = .returned (.bool (decide (low ≤ n ∧ n ≤ high))) ∧ w' = w := by
  rcases (show (¬ low ≤ n) ∨ (low ≤ n ∧ ¬ n ≤ high) ∨ (low ≤ n ∧ n ≤ high) by omega) with h | ⟨h1, h2⟩ | ⟨h1, h2⟩
  all_goals
    go_enter Tryz.func69, Tryz.ntmps69
    go_wp2
    go_ret
    exact ⟨ret_bool (by first | (simp [*]; done) | (simp; omega)), rfl⟩
/-- What is handed back. -/
def Res (w : World) (l : List N) (e : Ending) (w' : World) : Prop := ∃ ao cap, e = .returned (.slice ao l.length cap) ∧ MadeG 2 N.cells N.zero w.heap.size ao l w' ∧ Below w.heap.size w w'
theorem res_own {w w' : World} {l : List N} {v : Value} (h : w'.ownsRow w.heap.size 58 2 v l.length (cellsAll N.cells l)) (hb : Below w.heap.size w w') : Res w l (.returned v) w' := by
  obtain ⟨ao, cap, rfl, hm⟩ := own_made (z := N.zero) N.len h
  exact ⟨ao, cap, rfl, hm, hb⟩
theorem sub_w {a b : Int} (h : -4000000000000000 ≤ a - b ∧ a - b ≤ 4000000000000000) : wrap64 (a - b) = a - b := by unfold wrap64; omega
set_option maxRecDepth 100000 in
set_option maxHeartbeats 4000000 in
theorem impl_drawn (ao : Option Addr) (cap : Nat) (es : List N) (c : Int) (w : World) (hlen : es.length ≤ 1048576) (hS : ∀ e ∈ es, e.i.size ≤ 1048576) (hI : Lis ao es w) :
    Calls Tryz.prog 20 #[.slice ao es.length cap, .int .i64 c] w fun e w' => Res w (drawB c es) e w' := by
  obtain ⟨i0, hi, hz0, hz1, hz2⟩ := info_parts infoN
  have H1 := hid_intro (impl_lines ao cap es w hlen hS hI)
  have H2 := hid_intro (fun w => inS c 0 1000000000000000 w)
  have HT : Hid (drawB c es = bif sB es && decide (0 ≤ c ∧ c ≤ 1000000000000000) then drawL c es else []) := rfl
  have HR := hid_intro (sB_iff (es := es)).1
  have HC0 : Hid (decide (0 ≤ c ∧ c ≤ 1000000000000000) = true → 0 ≤ c ∧ c ≤ 1000000000000000) := hid_intro (fun h => by simpa using h)
  have HI := hid_intro hI
  have HPT := hid_intro (fun bo cap' W (h : Lis bo (dl c es es.length) W) (h6 : es.length ≤ 40) => put_any bo cap' (dl c es es.length) W (by rw [dl_len]; omega) (fun e he => by obtain ⟨x, hx, e1⟩ := dl_mem (Nat.le_refl _) e he; rw [e1]; exact hS x hx) h)
  have HDL : Hid (drawL c es = (dl c es es.length).filter nz) := rfl
  rw [← HDL.out, dl_len] at HPT
  generalize drawB c es = D at *
  generalize sB es = r at *
  generalize decide (0 ≤ c ∧ c ≤ 1000000000000000) = q at *
  obtain ⟨len, hl⟩ : ∃ len, len = es.length := ⟨_, rfl⟩
  rw [← hl] at hlen H1 HPT HDL ⊢
  have HL := hid_intro hl
  clear hI hS hl
  cases r
  · go_enter Tryz.func20, Tryz.ntmps20
    go_wp2_with fail
    refine (H1.out).mono ?_
    rintro e w1 ⟨rfl, hb1⟩
    have HB := hid_intro hb1
    clear hb1
    go_wp2_with fail
    go_ret
    rw [HT.out]
    exact ⟨none, 0, rfl, made_nil _ _ _, HB.out⟩
  cases q
  · go_enter Tryz.func20, Tryz.ntmps20
    go_wp2_with fail
    refine (H1.out).mono ?_
    rintro e w1 ⟨rfl, hb1⟩
    have HB := hid_intro hb1
    clear hb1
    go_wp2_with (go_at_call 66; refine (H2.out _).mono ?_; rintro e w2 ⟨rfl, rfl⟩)
    go_ret
    rw [HT.out]
    exact ⟨none, 0, rfl, made_nil _ _ _, HB.out⟩
  have HQ := hid_intro (HR.out rfl)
  have HC := hid_intro (HC0.out rfl)
  have h6 : len ≤ 6 := by have := HQ.out.1; have := HL.out; omega
  go_enter Tryz.func20, Tryz.ntmps20
  go_wp2_with fail
  refine (H1.out).mono ?_
  rintro e w1 ⟨rfl, hb1⟩
  have HB := hid_intro hb1
  clear hb1
  go_wp2_with (go_at_call 66; refine (H2.out _).mono ?_; rintro e w2 ⟨rfl, rfl⟩)
  go_loopw [1, 5, 19] (fun x v z wr => ∃ k : Nat, k ≤ len ∧ x = .int .i64 (cr c es k) ∧ z = .int .i64 k ∧ Hid (wr.ownsRow w.heap.size 58 2 v k (cellsAll N.cells (dl c es k))) ∧ Hid (Below w.heap.size w wr)) (fun x v z _ => len - (intOf z).toNat)
  case atStart => exact ⟨0, by omega, rfl, rfl, hid_intro (World.ownsRow_nil _ _ _ _), HB⟩
  case round =>
    obtain ⟨k, hk, rfl, rfl, HO, HB⟩ := hrel
    by_cases hlt : k < len
    · have hlt2 : (k : Int) < (len : Int) := by omega
      obtain ⟨b, off, rfl, hbl, c0, c1⟩ := (HI.out.below HB.out).at k (by have := HL.out; omega)
      have HIN := hid_intro (line_in HQ.out k (by have := HL.out; omega))
      have HCB := hid_intro (cr_bd es HC.out.1 k)
      have HN1 : Hid (cr c es (k + 1) = cr c es k - pd (cr c es k) (es.getD k N.zero).n) := rfl
      have HN2 : Hid (dl c es (k + 1) = dl c es k ++ [⟨(es.getD k N.zero).i, (es.getD k N.zero).n - pd (cr c es k) (es.getD k N.zero).n⟩]) := rfl
      generalize es.getD k N.zero = X at *
      obtain ⟨xi, xn⟩ := X
      dsimp only at c0 c1 HIN HN1 HN2
      have HPD := hid_intro (pd_bd (n := xn) HCB.out.1)
      have HCL := hid_intro (fun w => ClampR.impl_any xn 0 (cr c es k) w)
      have hpe : clamp xn 0 (cr c es k) = pd (cr c es k) xn := rfl
      rw [hpe] at HCL
      have w1 : wrap64 (cr c es k - pd (cr c es k) xn) = cr c es k - pd (cr c es k) xn := sub_w (by have := HPD.out; have := HCB.out; have := HC.out; omega)
      have w2 : wrap64 (xn - pd (cr c es k) xn) = xn - pd (cr c es k) xn := sub_w (by have := HPD.out; have := HCB.out; have := HC.out; have := HIN.out; omega)
      have HLD := hid_intro (dl_len c es k)
      generalize pd (cr c es k) xn = p at *
      generalize dl c es k = F at *
      generalize cr c es k = C at *
      clear hpe
      go_wp2_with (first | (go_at_call 67; refine (HCL.out _).mono ?_; rintro e w3 ⟨rfl, rfl⟩) | (at_builtin; refine wpList_append_own _ rfl _ _ 29 rfl w.heap.size 58 i0 (.agg #[.string ⟨#[]⟩, .int .i64 0]) 2 24 Tryz.underlying29 hi hz0 hz1 hz2 rfl (by decide) _ _ _ rfl ((HO.out.alloc _).alloc _) ⟨_, 0, none⟩ 1 1 (N.cells ⟨xi, xn - p⟩) rfl rfl ?d1 ?d2 ?d3 ?d4 ?d5 ?_))
      case d1 =>
        intro j u hx
        have := two_cells (wr.alloc (.cells #[.string xi, .int .i64 xn] 58)) xi (xn - p) 58 j u hx
        simpa using this
      case d2 => exact two_one _
      case d3 => unfold maxLen; omega
      case d4 => omega
      case d5 => have h1 := HB.out.size; simp; omega
      intro v' w4 hown hgrow hne
      have HO4 : Hid (w4.ownsRow w.heap.size 58 2 v' (k + 1) (cellsAll N.cells (F ++ [(⟨xi, xn - p⟩ : N)]))) := hid_intro (by rw [cellsAll_app]; exact hown)
      have HOB := hid_intro (fun c hc => (HO.out.lt c hc).1)
      have HB4 : Hid (Below w.heap.size w w4) := hid_intro (((HB.out.alloc HB.out.size _).alloc (HB.out.alloc HB.out.size _).size _).grown hgrow ((HB.out.alloc HB.out.size _).alloc (HB.out.alloc HB.out.size _).size _).size (fun c e => HOB.out c e))
      clear hown hgrow hne
      go_wp2_with fail
      go_roundw
      case rel => exact ⟨k + 1, by omega, by rw [HN1.out], by go_num, hid_intro (by rw [HN2.out]; exact HO4.out), HB4⟩
      case measure => simp [intOf]; omega
    · have hlt2 : ¬ (k : Int) < (len : Int) := by omega
      obtain rfl : k = len := by omega
      have HLD := hid_intro (dl_len c es k)
      obtain ⟨bo, cap', rfl, hm⟩ := own_made (z := N.zero) N.len (by rw [HLD.out]; exact HO.out)
      have HM := hid_intro hm.rws
      rw [HLD.out]
      clear hm
      go_wp2_with fail
      refine (HPT.out _ _ _ HM.out (by have := HL.out; omega)).mono ?_
      rintro e w5 ⟨v, rfl, ho, hb5⟩
      have HO5 := hid_intro (own_low ho HB.out.size)
      have HB5 := hid_intro (HB.out.trans (hb5.mono HB.out.size))
      clear ho hb5
      go_wp2_with fail
      go_ret
      rw [HT.out]
      exact res_own HO5.out HB5.out
/-- What is left of a list behind one more line. -/
theorem dl_more (c : Int) (es : List N) (k : Nat) : (dl c es (k + 1)).filter nz = (dl c es k).filter nz ++ (bif nz ⟨(es.getD k N.zero).i, (es.getD k N.zero).n - pd (cr c es k) (es.getD k N.zero).n⟩ then [⟨(es.getD k N.zero).i, (es.getD k N.zero).n - pd (cr c es k) (es.getD k N.zero).n⟩] else []) := by
  show ((dl c es k) ++ [_]).filter nz = _
  rw [List.filter_append]
  generalize (⟨(es.getD k N.zero).i, (es.getD k N.zero).n - pd (cr c es k) (es.getD k N.zero).n⟩ : N) = X
  cases hr : nz X <;> simp [hr]
theorem min_any (a b : Int) (w : World) : Calls Tryz.prog 110 #[.int .i64 a, .int .i64 b] w fun e w' => e = .returned (.int .i64 (if a < b then a else b)) ∧ w' = w := by
  by_cases h : a < b
  all_goals
    simp only [h, if_true, if_false]
    go_enter Tryz.func110, Tryz.ntmps110
    go_wp2
    go_ret
    exact ⟨rfl, rfl⟩
theorem pd_min {c n : Int} (hc : 0 ≤ c) (hn : 0 < n) : (if n < c then n else c) = pd c n := by
  unfold pd clamp
  split <;> split <;> (try split) <;> omega
set_option maxRecDepth 100000 in
set_option maxHeartbeats 4000000 in
theorem spec_drawn0 (ao : Option Addr) (cap : Nat) (es : List N) (c : Int) (w : World) (hR : SRight es) (hC : 0 ≤ c ∧ c ≤ 1000000000000000) (hI : Lis ao es w) :
    Calls Tryz.prog 70 #[.slice ao es.length cap, .int .i64 c] w fun e w' => ∃ v, e = .returned v ∧ w'.ownsRow w.heap.size 58 2 v (drawL c es).length (cellsAll N.cells (drawL c es)) ∧ Below w.heap.size w w' := by
  obtain ⟨i0, hi, hz0, hz1, hz2⟩ := info_parts infoN
  have HI := hid_intro hI
  have HQ := hid_intro hR
  have HC := hid_intro hC
  have HDL : Hid (drawL c es = (dl c es es.length).filter nz) := rfl
  generalize drawL c es = D at *
  obtain ⟨len, hl⟩ : ∃ len, len = es.length := ⟨_, rfl⟩
  rw [← hl] at HDL ⊢
  have HL := hid_intro hl
  have h6 : len ≤ 6 := by have := hR.1; omega
  have HE := hid_intro (own_empty w w.heap.size 58 2 (Nat.le_refl _))
  clear hI hl hR hC
  go_enter Tryz.func70, Tryz.ntmps70
  go_wp2_with fail
  go_loopw [1, 5, 6] (fun x v z wr => ∃ k : Nat, k ≤ len ∧ x = .int .i64 (cr c es k) ∧ z = .int .i64 k ∧ Hid (wr.ownsRow w.heap.size 58 2 v ((dl c es k).filter nz).length (cellsAll N.cells ((dl c es k).filter nz))) ∧ Hid (Below w.heap.size w wr)) (fun x v z _ => len - (intOf z).toNat)
  case atStart => exact ⟨0, by omega, rfl, rfl, HE, hid_intro ((Below.refl _ _).alloc (Nat.le_refl _) _)⟩
  case round =>
    obtain ⟨k, hk, rfl, rfl, HO, HB⟩ := hrel
    by_cases hlt : k < len
    · have hlt2 : (k : Int) < (len : Int) := by omega
      obtain ⟨b, off, rfl, hbl, c0, c1⟩ := (HI.out.below HB.out).at k (by have := HL.out; omega)
      have HIN := hid_intro (line_in HQ.out k (by have := HL.out; omega))
      have HCB := hid_intro (cr_bd es HC.out.1 k)
      have HN1 : Hid (cr c es (k + 1) = cr c es k - pd (cr c es k) (es.getD k N.zero).n) := rfl
      have HN2 := hid_intro (dl_more c es k)
      have HLF : Hid (((dl c es k).filter nz).length ≤ 6) := hid_intro (by
        have h1 := List.length_filter_le nz (dl c es k)
        rw [dl_len] at h1
        omega)
      generalize (dl c es k).filter nz = F at *
      generalize es.getD k N.zero = X at *
      obtain ⟨xi, xn⟩ := X
      dsimp only at c0 c1 HIN HN1 HN2
      have HPD := hid_intro (pd_bd (n := xn) HCB.out.1)
      by_cases hx : 0 < xn
      · have HMN := hid_intro (fun w => min_any xn (cr c es k) w)
        rw [pd_min HCB.out.1 hx] at HMN
        have w1 : wrap64 (cr c es k - pd (cr c es k) xn) = cr c es k - pd (cr c es k) xn := sub_w (by have := HPD.out; have := HCB.out; have := HC.out; omega)
        have w2 : wrap64 (xn - pd (cr c es k) xn) = xn - pd (cr c es k) xn := sub_w (by have := HPD.out; have := HCB.out; have := HC.out; have := HIN.out; omega)
        generalize pd (cr c es k) xn = p at *
        generalize cr c es k = C at *
        obtain ⟨Y, hY⟩ : ∃ Y, Y = xn - p := ⟨_, rfl⟩
        rw [← hY] at HN2
        replace w2 : wrap64 (xn - p) = Y := w2.trans hY.symm
        obtain ⟨Z, hZ⟩ : ∃ Z, Z = C - p := ⟨_, rfl⟩
        rw [← hZ] at HN1
        replace w1 : wrap64 (C - p) = Z := w1.trans hZ.symm
        clear hZ hY
        have HB1 := hid_intro (HB.out.alloc HB.out.size (.cells #[.string xi, .int .i64 Y] 58))
        have HO1 := hid_intro (HO.out.alloc (.cells #[.string xi, .int .i64 Y] 58))
        rcases nz_cases xi Y with ⟨q1, q2, q3⟩ | ⟨q1, q2, q3⟩
        · rw [q3, cond_false, List.append_nil] at HN2
          go_wp2_with (go_at_call 110; refine (HMN.out _).mono ?_; rintro e w3 ⟨rfl, rfl⟩)
          go_roundw
          case rel => exact ⟨k + 1, by omega, by first | (rw [HN1.out]; done) | rw [HN1.out, w1], by go_num, hid_intro (by rw [HN2.out]; exact HO1.out), HB1⟩
          case measure => simp [intOf]; omega
        · rw [q3, cond_true] at HN2
          go_wp2_with (first | (go_at_call 110; refine (HMN.out _).mono ?_; rintro e w3 ⟨rfl, rfl⟩) | (at_builtin; refine wpList_append_own _ rfl _ _ 29 rfl w.heap.size 58 i0 (.agg #[.string ⟨#[]⟩, .int .i64 0]) 2 24 Tryz.underlying29 hi hz0 hz1 hz2 rfl (by decide) _ _ _ rfl (HO1.out.alloc _) ⟨_, 0, none⟩ 1 1 (N.cells ⟨xi, Y⟩) rfl rfl ?d1 ?d2 ?d3 ?d4 ?d5 ?_))
          case d1 =>
            intro j u hx
            have := two_cells (wr.alloc (.cells #[.string xi, .int .i64 Y] 58)) xi Y 58 j u hx
            simpa using this
          case d2 => exact two_one _
          case d3 => unfold maxLen; have := HLF.out; omega
          case d4 => have := HLF.out; omega
          case d5 => have h1 := HB.out.size; simp; omega
          intro v' w4 hown hgrow hne
          have HO4 : Hid (w4.ownsRow w.heap.size 58 2 v' (F ++ [(⟨xi, Y⟩ : N)]).length (cellsAll N.cells (F ++ [(⟨xi, Y⟩ : N)]))) := hid_intro (by rw [cellsAll_app, List.length_append]; exact hown)
          have HOB := hid_intro (fun c hc => (HO.out.lt c hc).1)
          have HB4 : Hid (Below w.heap.size w w4) := hid_intro ((HB1.out.alloc HB1.out.size _).grown hgrow (HB1.out.alloc HB1.out.size _).size (fun c e => HOB.out c e))
          clear hown hgrow hne
          go_wp2_with fail
          go_roundw
          case rel => exact ⟨k + 1, by omega, by first | (rw [HN1.out]; done) | rw [HN1.out, w1], by go_num, hid_intro (by rw [HN2.out]; exact HO4.out), HB4⟩
          case measure => simp [intOf]; omega
      · have e0 : pd (cr c es k) xn = 0 := HPD.out.2.2.1 (by omega)
        rw [e0, Int.sub_zero] at HN1 HN2
        clear e0 HPD
        generalize cr c es k = C at *
        have HB1 := hid_intro (HB.out.alloc HB.out.size (.cells #[.string xi, .int .i64 xn] 58))
        have HO1 := hid_intro (HO.out.alloc (.cells #[.string xi, .int .i64 xn] 58))
        rcases nz_cases xi xn with ⟨q1, q2, q3⟩ | ⟨q1, q2, q3⟩
        · rw [q3, cond_false, List.append_nil] at HN2
          go_wp2_with fail
          go_roundw
          case rel => exact ⟨k + 1, by omega, by first | (rw [HN1.out]; done) | rw [HN1.out, w1], by go_num, hid_intro (by rw [HN2.out]; exact HO1.out), HB1⟩
          case measure => simp [intOf]; omega
        · rw [q3, cond_true] at HN2
          go_wp2_with (at_builtin; refine wpList_append_own _ rfl _ _ 29 rfl w.heap.size 58 i0 (.agg #[.string ⟨#[]⟩, .int .i64 0]) 2 24 Tryz.underlying29 hi hz0 hz1 hz2 rfl (by decide) _ _ _ rfl (HO1.out.alloc _) ⟨_, 0, none⟩ 1 1 (N.cells ⟨xi, xn⟩) rfl rfl ?d1 ?d2 ?d3 ?d4 ?d5 ?_)
          case d1 => exact fun _ _ h => h
          case d2 => exact two_one _
          case d3 => unfold maxLen; have := HLF.out; omega
          case d4 => have := HLF.out; omega
          case d5 => have h1 := HB.out.size; simp; omega
          intro v' w4 hown hgrow hne
          have HO4 : Hid (w4.ownsRow w.heap.size 58 2 v' (F ++ [(⟨xi, xn⟩ : N)]).length (cellsAll N.cells (F ++ [(⟨xi, xn⟩ : N)]))) := hid_intro (by rw [cellsAll_app, List.length_append]; exact hown)
          have HOB := hid_intro (fun c hc => (HO.out.lt c hc).1)
          have HB4 : Hid (Below w.heap.size w w4) := hid_intro ((HB1.out.alloc HB1.out.size _).grown hgrow (HB1.out.alloc HB1.out.size _).size (fun c e => HOB.out c e))
          clear hown hgrow hne
          go_wp2_with fail
          go_roundw
          case rel => exact ⟨k + 1, by omega, by first | (rw [HN1.out]; done) | rw [HN1.out, w1], by go_num, hid_intro (by rw [HN2.out]; exact HO4.out), HB4⟩
          case measure => simp [intOf]; omega
    · have hlt2 : ¬ (k : Int) < (len : Int) := by omega
      obtain rfl : k = len := by omega
      rw [← HDL.out] at HO
      go_wp2_with fail
      go_ret
      exact ⟨_, rfl, HO.out, HB.out⟩
set_option maxRecDepth 100000 in
set_option maxHeartbeats 4000000 in
theorem spec_drawn (ao : Option Addr) (cap : Nat) (es : List N) (c : Int) (w : World) (hlen : es.length ≤ 1048576) (hS : ∀ e ∈ es, e.i.size ≤ 1048576) (hI : Lis ao es w) :
    Calls Tryz.prog 24 #[.slice ao es.length cap, .int .i64 c] w fun e w' => Res w (drawB c es) e w' := by
  by_cases h4 : 400 < es.length
  · have HT : Hid (drawB c es = []) := hid_intro (by unfold drawB; rw [sB_long (by omega)]; rfl)
    generalize drawB c es = T at *
    obtain ⟨len, hl⟩ : ∃ len, len = es.length := ⟨_, rfl⟩
    rw [← hl] at hlen h4 ⊢
    have h4' : (400 : Int) < (len : Int) := by omega
    clear hI hS hl
    go_enter Tryz.func24, Tryz.ntmps24
    go_wp2_with fail
    go_ret
    rw [HT.out]
    exact ⟨_, _, rfl, made_nil _ _ _, (Below.refl _ _).alloc (Nat.le_refl _) _⟩
  have H1 := hid_intro (spec_lines ao cap es w hlen hS hI)
  have H2 := hid_intro (fun w => isS c 0 1000000000000000 w)
  have HT : Hid (drawB c es = bif sB es && decide (0 ≤ c ∧ c ≤ 1000000000000000) then drawL c es else []) := rfl
  have HR := hid_intro (sB_iff (es := es)).1
  have HC0 : Hid (decide (0 ≤ c ∧ c ≤ 1000000000000000) = true → 0 ≤ c ∧ c ≤ 1000000000000000) := hid_intro (fun h => by simpa using h)
  have HK := hid_intro (fun W (hW : Below w.heap.size w W) hR hC => spec_drawn0 ao cap es c W hR hC (hI.below hW))
  generalize drawB c es = D at *
  generalize sB es = r at *
  generalize decide (0 ≤ c ∧ c ≤ 1000000000000000) = q at *
  obtain ⟨len, hl⟩ : ∃ len, len = es.length := ⟨_, rfl⟩
  rw [← hl] at hlen H1 HK h4 ⊢
  have h4' : ¬ (400 : Int) < (len : Int) := by omega
  clear hI hS hl
  cases r
  · go_enter Tryz.func24, Tryz.ntmps24
    go_wp2_with fail
    refine (H1.out).mono ?_
    rintro e w1 ⟨rfl, hb1⟩
    have HB := hid_intro hb1
    clear hb1
    go_wp2_with fail
    go_ret
    rw [HT.out]
    exact ⟨_, _, rfl, made_nil _ _ _, HB.out.alloc HB.out.size _⟩
  cases q
  · go_enter Tryz.func24, Tryz.ntmps24
    go_wp2_with fail
    refine (H1.out).mono ?_
    rintro e w1 ⟨rfl, hb1⟩
    have HB := hid_intro hb1
    clear hb1
    go_wp2_with (go_at_call 69; refine (H2.out _).mono ?_; rintro e w2 ⟨rfl, rfl⟩)
    go_ret
    rw [HT.out]
    exact ⟨_, _, rfl, made_nil _ _ _, HB.out.alloc HB.out.size _⟩
  have HQ := hid_intro (HR.out rfl)
  have HC := hid_intro (HC0.out rfl)
  go_enter Tryz.func24, Tryz.ntmps24
  go_wp2_with fail
  refine (H1.out).mono ?_
  rintro e w1 ⟨rfl, hb1⟩
  have HB := hid_intro hb1
  clear hb1
  go_wp2_with (go_at_call 69; refine (H2.out _).mono ?_; rintro e w2 ⟨rfl, rfl⟩)
  refine (HK.out _ HB.out HQ.out HC.out).mono ?_
  rintro e w2 ⟨v, rfl, ho, hb2⟩
  have HB2 := hid_intro (HB.out.trans (hb2.mono HB.out.size))
  have HO := hid_intro (own_low ho HB.out.size)
  clear ho hb2
  go_wp2_with fail
  go_ret
  rw [HT.out]
  exact res_own HO.out HB2.out
theorem draw_len {c : Int} {es : List N} : (drawB c es).length ≤ 6 := by
  unfold drawB
  cases hs : sB es
  · simp
  · have := (sB_iff.1 hs).1
    have h2 := List.length_filter_le nz (dl c es es.length)
    rw [dl_len] at h2
    cases decide (0 ≤ c ∧ c ≤ 1000000000000000)
    · simp
    · simp only [Bool.and_self, cond_true, drawL]
      omega
end LinR
end Go.Proofs.YtcilbmhkhllmjaaGreatDoor
