/-
  The bytes of a ledger, on both sides. The conditions: documents that are small, their months numbers of 64 bits.
-/
import Derived.Test.YtnhpkcacjkebnaaLgB
import Derived.Test.YtnhpkcacjkebnaaLgT
namespace Go.Proofs.Ytnhpkcacjkebnaa
open Go.ChangeShapes Go.WideShapes Go.ChangeAt Go.RowKit
set_option linter.unusedVariables false
namespace LedR
open LinR NetR DocR
open LtR (lt)
open RowG (Rws MadeG hid_intro getD_mem)
open NumR (numB)
open JoinR (joinB jl)
open CatR (Blk)
/-- The parts of a ledger, with so many documents; its bytes. -/
def lP (ds : List D) (k : Nat) : List ByteArray := [numB ds.length] ++ (ds.take k).map dBy
def lBy (ds : List D) : ByteArray := joinB (lP ds ds.length)
/-- Both answers. -/
def lbB (ds : List D) : ByteArray := bif lB ds then (bif decide ((lBy ds).size ≤ 8000) then lBy ds else ⟨#[]⟩) else ⟨#[]⟩
theorem lP_len (ds : List D) (k : Nat) (h : k ≤ ds.length) : (lP ds k).length = 1 + k := by
  unfold lP
  simp only [List.length_append, List.length_cons, List.length_nil, List.length_map, List.length_take]
  omega
theorem lP_more (ds : List D) (k : Nat) (h : k < ds.length) : lP ds (k + 1) = lP ds k ++ [dBy (ds.getD k D.zero)] := by
  unfold lP; rw [take_map ds dBy D.zero k h, ← List.append_assoc]
theorem dBy_le {x : D} (h : dB x = true) : (dBy x).size ≤ 1000 := bP_le h _ (Nat.le_refl _)
theorem lP_le {ds : List D} (h : LRight ds) (k : Nat) : (joinB (lP ds k)).size ≤ 40000 := by
  have h1 : ∀ y ∈ lP ds k, y.size ≤ 1000 := by
    intro y hy
    unfold lP at hy
    simp only [List.mem_append, List.mem_cons, List.not_mem_nil, or_false, List.mem_map] at hy
    rcases hy with rfl | ⟨d, hd, rfl⟩
    · have := num_le (n := (ds.length : Int)) (by omega) (by have := h.1; omega); omega
    · obtain ⟨i, hi, rfl⟩ := List.getElem_of_mem (List.mem_of_mem_take hd)
      have e : ds.getD i D.zero = ds[i] := by simp [List.getD, hi]
      have := (h.2.1 i hi).1
      rw [e] at this
      exact dBy_le this
  have h2 := join_size_le 1000 _ h1
  have h3 : (lP ds k).length ≤ 31 := by
    unfold lP
    simp only [List.length_append, List.length_cons, List.length_nil, List.length_map, List.length_take]
    have := h.1
    omega
  have := Nat.mul_le_mul_right 1000 h3
  omega
set_option maxRecDepth 100000 in
set_option maxHeartbeats 8000000 in
theorem impl_lb (ao : Option Addr) (cap : Nat) (ds : List D) (w : World) (hlen : ds.length ≤ 1048576) (hSm : ∀ d ∈ ds, d.Sm) (hwf : ∀ d ∈ ds, (Lit.int .i64 d.mo).wf = true) (hI : Dcs ao ds w) :
    Calls Try.prog 23 #[.slice ao ds.length cap] w fun e w' => e = .returned (.string (lbB ds)) ∧ Below w.heap.size w w' := by
  have H1 := hid_intro (impl_ledger ao cap ds w hlen hSm hwf hI)
  obtain ⟨i0, hi, hz0, hz1, hz2⟩ := info_parts infoS
  have HI := hid_intro hI
  have HT : Hid (lbB ds = bif lB ds then (bif decide ((lBy ds).size ≤ 8000) then lBy ds else ⟨#[]⟩) else ⟨#[]⟩) := rfl
  have HLR := hid_intro (fun h : lB ds = true => lB_iff.1 h)
  have HQM := hid_intro (fun k (h : k < ds.length) => lP_more ds k h)
  have HQS := hid_intro (fun h : LRight ds => lP_le h ds.length)
  have HQ0 : Hid (lP ds 0 = [numB (ds.length : Int)]) := hid_intro (by simp [lP])
  have HLB : Hid (lBy ds = joinB (lP ds ds.length)) := rfl
  have HDO := hid_intro (fun (h : LRight ds) i (hi : i < ds.length) => (h.2.1 i hi).1)
  have HD30 := hid_intro (fun (h : LRight ds) => h.1)
  generalize lP ds = Q at *
  generalize lBy ds = LB at *
  generalize lbB ds = T at *
  generalize lB ds = r at *
  obtain ⟨len, hl⟩ : ∃ len, len = ds.length := ⟨_, rfl⟩
  rw [← hl] at H1 HQM HQS HQ0 HLB HDO HD30 ⊢
  have HL := hid_intro hl
  clear hI hSm hwf hl hlen
  go_enter Try.func23, Try.ntmps23
  go_wp2_with fail
  refine H1.out.mono ?_
  rintro e w1 ⟨rfl, hb⟩
  have HB1 := hid_intro hb
  clear hb
  cases r
  · go_wp2_with fail
    go_ret
    exact ⟨ret_str (by rw [HT.out]; rfl), HB1.out⟩
  · have HR := hid_intro (HLR.out rfl)
    have h30 := HD30.out HR.out
    have P1 := hid_intro (fun w => NumR.impl_put (len : Int) w (by omega))
    generalize numB (len : Int) = T1 at *
    go_wp2_with fail
    refine (P1.out _).mono ?_
    rintro e w2 ⟨rfl, hb2⟩
    have HB2 := hid_intro (HB1.out.trans (hb2.mono HB1.out.size))
    clear hb2
    have HO0 : Hid ((w2.alloc (Obj.cells #[Value.string T1] 9)).ownsRow w.heap.size 9 1 (.slice (some ⟨w2.heap.size, 0, none⟩) 1 1) (1 + 0) ((Q 0).map Value.string)) := hid_intro (by
      rw [HQ0.out]
      exact ⟨by simp, .inr ⟨w2.heap.size, 1, #[.string T1], rfl, HB2.out.size, heap_alloc_new w2 _, by omega, by unfold maxLen; omega, by simp, by simp⟩⟩)
    have HB3 := hid_intro (HB2.out.alloc HB2.out.size (Obj.cells #[Value.string T1] 9))
    obtain ⟨W3, hW3⟩ : ∃ W3, W3 = w2.alloc (Obj.cells #[Value.string T1] 9) := ⟨_, rfl⟩
    rw [← hW3] at HO0 HB3
    have HW3 := hid_intro hW3
    clear hW3
    go_wp2_with fail
    rw [← HW3.out]
    go_loopw [3, 16] (fun v z wr => ∃ (j : Nat), j ≤ len ∧ z = .int .i64 j ∧ Hid (wr.ownsRow w.heap.size 9 1 v (1 + j) ((Q j).map Value.string)) ∧ Hid (v ≠ .slice none 0 0) ∧ Hid (Below w.heap.size w wr)) (fun v z _ => len - (intOf z).toNat)
    case atStart => exact ⟨0, by omega, rfl, HO0, hid_intro (by simp), HB3⟩
    case round =>
      clear HO0 HB3 HB2 HB1 HW3
      obtain ⟨j, hj, rfl, HO, HV, HB⟩ := hrel
      by_cases hlt : j < len
      · have hlt2 : (j : Int) < (len : Int) := by omega
        have hjl : j < ds.length := by have := HL.out; omega
        obtain ⟨b, off, la, lc, rfl, hbl, c0, c1, c2, c3, hLi⟩ := (HI.out.below HB.out).at j hjl
        have HDB := hid_intro (fun W (hW : Below wr.heap.size wr W) => idoc (ds.getD j D.zero) la lc W (HDO.out HR.out j hlt) (hLi.below hW))
        have HC1 := hid_intro (HQM.out j hlt)
        clear hLi
        generalize dBy (ds.getD j D.zero) = G at *
        generalize ds.getD j D.zero = X at *
        obtain ⟨xa, xm, xs, xl⟩ := X
        dsimp only at c0 c1 c2 c3 HDB
        generalize xl.length = ll at *
        go_wp2_with fail
        refine (HDB.out _ ((Below.refl _ _).alloc (Nat.le_refl _) _)).mono ?_
        rintro e w4 ⟨rfl, hb4⟩
        have HBR := hid_intro (bel_alloc hb4)
        have HO4 := hid_intro (own_below HO.out HBR.out)
        have HW4 := hid_intro (HB.out.trans (HBR.out.mono HB.out.size))
        clear hb4 c0 c1 c2 c3
        go_wp2_with (at_builtin; refine wpList_append_own _ rfl _ _ 76 rfl w.heap.size 9 i0 (.string ⟨#[]⟩) 1 16 Try.underlying76 hi hz0 hz1 hz2 rfl (by decide) _ _ _ rfl (HO4.out.alloc _) ⟨w4.heap.size, 0, none⟩ 1 1 [.string G] rfl rfl (DocR.one_cell _ _ _) (DocR.one_one _) ?d3 ?d4 ?d5 ?_)
        case d3 => unfold maxLen; omega
        case d4 => omega
        case d5 => have h1 := HW4.out.size; simp; omega
        intro v' w5 hown hgrow hne
        have HO5 : Hid (w5.ownsRow w.heap.size 9 1 v' (1 + (j + 1)) ((Q (j + 1)).map Value.string)) := hid_intro (by rw [HC1.out, List.map_append, ← Nat.add_assoc]; exact hown)
        have HV5 : Hid (v' ≠ .slice none 0 0) := hid_intro (by first | exact hne | exact fun h => HV.out (hne.1 h).1)
        have HB5 : Hid (Below w.heap.size w w5) := hid_intro ((HW4.out.alloc HW4.out.size _).grown hgrow (HW4.out.alloc HW4.out.size _).size (fun k e => by have := (HO.out.lt k e).1; omega))
        clear hown hgrow hne
        go_wp2_with fail
        go_roundw
        case rel => exact ⟨j + 1, by omega, by go_num, HO5, HV5, HB5⟩
        case measure => simp [intOf]; omega
      · obtain rfl : j = len := by omega
        obtain ⟨q, cap', rfl, hg, hn, hcap, hcell⟩ := own_texts HO.out HV.out
        have hqs := HQS.out HR.out
        have hj2 := JoinR.join_len (Q j) q cap' _ (by omega) (by omega) hg hcell (by rw [jl_size]; omega)
        rw [hn] at hj2
        have HJ2 := hid_intro hj2
        rw [← HLB.out] at HJ2
        clear hj2 hcell
        have hls : LB.size ≤ 40000 := by rw [HLB.out]; exact hqs
        go_wp2_with fail
        refine HJ2.out.mono ?_
        rintro e w6 ⟨rfl, hb⟩
        have HB6 := hid_intro (HB.out.trans (hb.mono HB.out.size))
        clear hb
        by_cases hz : LB.size ≤ 8000
        · have hz2 : ¬ (8000 : Int) < (LB.size : Int) := by omega
          go_wp2_with fail
          go_ret
          exact ⟨ret_str (by rw [HT.out, decide_eq_true hz]; rfl), HB6.out⟩
        · have hz2 : (8000 : Int) < (LB.size : Int) := by omega
          go_wp2_with fail
          go_ret
          exact ⟨ret_str (by rw [HT.out, decide_eq_false hz]; rfl), HB6.out⟩
/-- A document's own block, as the regions read it. -/
def DBz (w : World) (B : Nat) (a : ByteArray) (mo sq : Int) (la : Option Addr) (ll lc : Nat) (W : World) : Prop := Below w.heap.size w W ∧ B < W.heap.size ∧ W.cell? ⟨B, 0, none⟩ = some (.string a) ∧ W.cell? ⟨B, 1, none⟩ = some (.int .i64 mo) ∧ W.cell? ⟨B, 2, none⟩ = some (.int .i64 sq) ∧ W.cell? ⟨B, 3, none⟩ = some (.slice la ll lc)
theorem DBz.below {w : World} {B : Nat} {a : ByteArray} {mo sq : Int} {la : Option Addr} {ll lc : Nat} {W W' : World} (h : DBz w B a mo sq la ll lc W) (hb : Below W.heap.size W W') : DBz w B a mo sq la ll lc W' := by
  obtain ⟨h0, h1, c0, c1, c2, c3⟩ := h
  have c := fun o => hb.cell (p := ⟨B, o, none⟩) h1
  have := hb.size
  exact ⟨h0.trans (hb.mono h0.size), by omega, (c 0).trans c0, (c 1).trans c1, (c 2).trans c2, (c 3).trans c3⟩
/-- What is held while a line of a list is put: the list's own cell, and the line's two. -/
def BU (w : World) (B : Nat) (x : Value) (b f : Nat) (a0 a1 : Value) (W : World) : Prop := Below w.heap.size w W ∧ B < W.heap.size ∧ b < W.heap.size ∧ W.cell? ⟨B, 3, none⟩ = some x ∧ W.cell? ⟨b, f, none⟩ = some a0 ∧ W.cell? ⟨b, f + 1, none⟩ = some a1
theorem BU.below {w : World} {B : Nat} {x : Value} {b f : Nat} {a0 a1 : Value} {W W' : World} (h : BU w B x b f a0 a1 W) (hb : Below W.heap.size W W') : BU w B x b f a0 a1 W' := by
  obtain ⟨h0, l1, l2, p0, p1, p2⟩ := h
  have g1 := fun o => hb.cell (p := ⟨B, o, none⟩) l1
  have g2 := fun o => hb.cell (p := ⟨b, o, none⟩) l2
  have hs := hb.size
  exact ⟨h0.trans (hb.mono h0.size), by omega, by omega, (g1 _).trans p0, (g2 _).trans p1, (g2 _).trans p2⟩
theorem app_four (T a b c d : ByteArray) : T ++ a ++ b ++ c ++ d = T ++ joinB [a, b, c, d] := by
  rw [show [a, b, c, d] = [a, b] ++ [c, d] from rfl, joinB_app, joinB_two, joinB_two]
  simp only [ByteArray.append_assoc]
theorem app_in (T X a b : ByteArray) (l : List ByteArray) (h : X = T ++ joinB l) : X ++ a ++ b = T ++ joinB (l ++ [a, b]) := by
  rw [joinB_app, joinB_two, h, ByteArray.append_assoc, ByteArray.append_assoc]
set_option maxRecDepth 100000 in
set_option maxHeartbeats 16000000 in
theorem spec_lb (ao : Option Addr) (cap : Nat) (ds : List D) (w : World) (hlen : ds.length ≤ 1048576) (hSm : ∀ d ∈ ds, d.Sm) (hI : Dcs ao ds w) :
    Calls Try.prog 22 #[.slice ao ds.length cap] w fun e w' => e = .returned (.string (lbB ds)) ∧ Below w.heap.size w w' := by
  have H1 := hid_intro (spec_ledger ao cap ds w hlen hSm hI)
  have HI := hid_intro hI
  have HT : Hid (lbB ds = bif lB ds then (bif decide ((lBy ds).size ≤ 8000) then lBy ds else ⟨#[]⟩) else ⟨#[]⟩) := rfl
  have HLR := hid_intro (fun h : lB ds = true => lB_iff.1 h)
  have HLA : Hid (400 < ds.length → lB ds = false) := hid_intro (fun h => lB_no (fun hr => by have := hr.1; omega))
  have HQM : Hid (∀ k, k < ds.length → joinB (lP ds (k + 1)) = joinB (lP ds k) ++ dBy (ds.getD k D.zero)) := hid_intro (fun k h => by rw [lP_more ds k h, joinB_app, joinB_one])
  have HQS := hid_intro (fun (h : LRight ds) k => lP_le h k)
  have HQ0 : Hid (joinB (lP ds 0) = numB (ds.length : Int)) := hid_intro (by simp [lP, joinB_one])
  have HLB : Hid (lBy ds = joinB (lP ds ds.length)) := rfl
  have HDO := hid_intro (fun (h : LRight ds) i (hi : i < ds.length) => (h.2.1 i hi).1)
  have HD30 := hid_intro (fun (h : LRight ds) => h.1)
  obtain ⟨J, hJ⟩ : ∃ J : Nat → ByteArray, ∀ k, J k = joinB (lP ds k) := ⟨_, fun _ => rfl⟩
  have HQM : Hid (∀ k, k < ds.length → J (k + 1) = J k ++ dBy (ds.getD k D.zero)) := hid_intro (fun k h => by rw [hJ, hJ]; exact HQM.out k h)
  have HQS : Hid (∀ (h : LRight ds) k, (J k).size ≤ 40000) := hid_intro (fun h k => by rw [hJ]; exact HQS.out h k)
  have HQ0 : Hid (J 0 = numB (ds.length : Int)) := hid_intro (by rw [hJ]; exact HQ0.out)
  have HLB : Hid (lBy ds = J ds.length) := hid_intro (by rw [hJ]; exact HLB.out)
  clear hJ
  generalize lBy ds = LB at *
  generalize lbB ds = T at *
  generalize lB ds = r at *
  obtain ⟨len, hl⟩ : ∃ len, len = ds.length := ⟨_, rfl⟩
  rw [← hl] at H1 HQM HQ0 HLB HDO HD30 HLA ⊢
  have HL := hid_intro hl
  clear hI hSm hl hlen
  by_cases qa : 400 < len
  · have qa2 : (400 : Int) < (len : Int) := by omega
    have HE : Hid (T = ⟨#[]⟩) := hid_intro (by rw [HT.out, HLA.out qa]; rfl)
    go_enter Try.func22, Try.ntmps22
    go_wp2_with fail
    go_ret
    exact ⟨ret_str HE.out.symm, Below.refl _ _⟩
  have qa2 : ¬ (400 : Int) < (len : Int) := by omega
  cases r
  · have HE : Hid (T = ⟨#[]⟩) := HT
    go_enter Try.func22, Try.ntmps22
    go_wp2_with fail
    refine H1.out.mono ?_
    rintro e w1 ⟨rfl, hb⟩
    have HB1 := hid_intro hb
    clear hb
    go_wp2_with fail
    go_ret
    exact ⟨ret_str HE.out.symm, HB1.out⟩
  have HR := hid_intro (HLR.out rfl)
  have h30 := HD30.out HR.out
  have P1 := hid_intro (fun w => NumR.spec_put (len : Int) w (by omega))
  generalize numB (len : Int) = T1 at *
  go_enter Try.func22, Try.ntmps22
  go_wp2_with fail
  refine H1.out.mono ?_
  rintro e w1 ⟨rfl, hb⟩
  have HB1 := hid_intro hb
  clear hb
  go_wp2_with fail
  refine (P1.out _).mono ?_
  rintro e w2 ⟨rfl, hb2⟩
  have HB2 := hid_intro (HB1.out.trans (hb2.mono HB1.out.size))
  clear hb2
  go_wp2_with fail
  go_loopw [3, 4] (fun x z wr => ∃ (j : Nat) (Y : ByteArray), j ≤ len ∧ x = .string Y ∧ z = .int .i64 j ∧ Hid (Y = J j) ∧ Hid (Below w.heap.size w wr)) (fun x z _ => len - (intOf z).toNat)
  case atStart => exact ⟨0, T1, by omega, rfl, rfl, hid_intro HQ0.out.symm, HB2⟩
  case round =>
    clear HB2 HB1
    obtain ⟨j, Y, hj, rfl, rfl, HY, HB⟩ := hrel
    have hYs : Y.size ≤ 40000 := by rw [HY.out]; exact HQS.out HR.out j
    by_cases hlt : j < len
    · obtain ⟨Wo, hWo⟩ : ∃ Wo, Wo = wr := ⟨_, rfl⟩
      subst hWo
      have hlt2 : (j : Int) < (len : Int) := by omega
      have hjl : j < ds.length := by have := HL.out; omega
      obtain ⟨b, off, la, lc, rfl, hbl, c0, c1, c2, c3, hLi⟩ := HI.out.at j hjl
      have hcl := fun x => HB.out.cell (p := ⟨b, x, none⟩) hbl
      replace c0 := (hcl _).trans c0
      replace c1 := (hcl _).trans c1
      replace c2 := (hcl _).trans c2
      replace c3 := (hcl _).trans c3
      replace hbl : b < Wo.heap.size := by have := HB.out.size; omega
      clear hcl
      have hdb := HDO.out HR.out j hlt
      have HC1 := hid_intro (HQM.out j hlt)
      generalize ds.getD j D.zero = X at *
      obtain ⟨b1, b2, b3, b4, b5⟩ := doc_bd hdb
      have HQM2 := hid_intro (fun k (h : k < X.ls.length) => bP_more X k h)
      have HQS2 := hid_intro (fun k (h : k ≤ X.ls.length) => bP_le hdb k h)
      have HRR2 : Hid (dBy X = joinB (bP X X.ls.length)) := rfl
      have HQ02 : Hid (bP X 0 = [txB X.a, numB X.mo, numB X.sq, numB X.ls.length]) := hid_intro (by simp [bP])
      generalize bP X = Q at *
      generalize dBy X = G at *
      obtain ⟨a, mo, sq, ls⟩ := X
      dsimp only at *
      have HLi := hid_intro hLi
      have S9 := hid_intro b5
      have S1 := hid_intro (fun w => PutTextL.spec_text a w (by omega))
      have S2 := hid_intro (fun w => NumR.spec_put mo w (by omega))
      have S3 := hid_intro (fun w => NumR.spec_put sq w (by omega))
      obtain ⟨ll, hll⟩ : ∃ ll, ll = ls.length := ⟨_, rfl⟩
      rw [← hll] at b4 HQM2 HQS2 HRR2 HQ02 c3
      have HLL := hid_intro hll
      have S4 := hid_intro (fun w => NumR.spec_put ((ll : Nat) : Int) w (by omega))
      have z1 : (txB a).size ≤ 40 := txt_le b1
      have z2 : (numB mo).size ≤ 40 := num_le (by omega) (by omega)
      have z3 : (numB sq).size ≤ 40 := num_le (by omega) (by omega)
      have z4 : (numB ((ll : Nat) : Int)).size ≤ 40 := num_le (by omega) (by omega)
      have HQ02 : Hid (Q 0 = [numB (a.size : Int) ++ a, numB mo, numB sq, numB (ll : Int)]) := HQ02
      have z1 : (numB (a.size : Int) ++ a).size ≤ 40 := z1
      clear hLi b5 hll hdb b1 b2 b3
      generalize numB (a.size : Int) ++ a = X1 at *
      generalize numB mo = X2 at *
      generalize numB sq = X3 at *
      generalize numB (ll : Int) = X4 at *
      have v1 : ¬ 9223372036854775807 < Y.size + X1.size := by omega
      have v2 : ¬ 9223372036854775807 < Y.size + X1.size + X2.size := by omega
      have v3 : ¬ 9223372036854775807 < Y.size + X1.size + X2.size + X3.size := by omega
      have v4 : ¬ 9223372036854775807 < Y.size + X1.size + X2.size + X3.size + X4.size := by omega
      have HS0 : Hid (DBz w Wo.heap.size a mo sq la ll lc (Wo.alloc (.cells #[.string a, .int .i64 mo, .int .i64 sq, .slice la ll lc] 58)).drew) := hid_intro ⟨((HB.out).alloc HB.out.size _).drew, by simp, by simp [go_sem], by simp [go_sem], by simp [go_sem], by simp [go_sem]⟩
      go_wp2_with fail
      refine wp_region_held_drew (S := (fun W => Below w.heap.size w W ∧ Wo.heap.size < W.heap.size ∧ W.cell? ⟨Wo.heap.size, 0, none⟩ = some (.string a) ∧ W.cell? ⟨Wo.heap.size, 1, none⟩ = some (.int .i64 mo) ∧ W.cell? ⟨Wo.heap.size, 2, none⟩ = some (.int .i64 sq) ∧ W.cell? ⟨Wo.heap.size, 3, none⟩ = some (.slice la ll lc))) (by kernel_rfl) HS0.out (fun hHeld => ?_)
      refine wpAnyH_take (i := 0) (oi := { dst := some 28, op := Op.move (Operand.tmp 3), type := 9, pos := "l09_ledger.go:179", after := #[], guard := none }) (v := ?_) rfl (by kernel_rfl) (by kernel_rfl) (by kernel_rfl) (fun _ _ _ h => h) (Or.inl ⟨by rfl, ?_⟩) (by assumption) ?_
      rotate_left
      · (intro w hSw; (try dsimp only at hSw); go_simp) <;> with_reducible rfl
      try simp only [Act.put, List.setIfInBounds_toArray, List.set_cons_zero, List.set_cons_succ]
      refine wpAnyH_take (i := 1) (oi := { dst := some 29, op := Op.fieldAddr 58 (Operand.tmp 5) 0, type := 0, pos := "l09_ledger.go:179", after := #[], guard := none }) (v := ?_) rfl (by kernel_rfl) (by kernel_rfl) (by kernel_rfl) (fun _ _ _ h => h) (Or.inl ⟨by rfl, ?_⟩) (by assumption) ?_
      rotate_left
      · (intro w hSw; (try dsimp only at hSw); go_simp) <;> with_reducible rfl
      try simp only [Act.put, List.setIfInBounds_toArray, List.set_cons_zero, List.set_cons_succ]
      refine wpAnyH_take (i := 2) (oi := { dst := some 30, op := Op.load 9 (Operand.tmp 29), type := 9, pos := "l09_ledger.go:179", after := #[{ on := 1, ground := Ground.data }], guard := none }) (v := ?_) rfl (by kernel_rfl) (by kernel_rfl) (by kernel_rfl) (fun _ _ _ h => h) (Or.inl ⟨by rfl, ?_⟩) (by assumption) ?_
      rotate_left
      · (intro w hSw; (try dsimp only at hSw); go_simp) <;> with_reducible rfl
      try simp only [Act.put, List.setIfInBounds_toArray, List.set_cons_zero, List.set_cons_succ]
      refine wpAnyH_take (i := 5) (oi := { dst := some 33, op := Op.fieldAddr 58 (Operand.tmp 5) 1, type := 0, pos := "l09_ledger.go:179", after := #[], guard := none }) (v := ?_) rfl (by kernel_rfl) (by kernel_rfl) (by kernel_rfl) (fun _ _ _ h => h) (Or.inl ⟨by rfl, ?_⟩) (by assumption) ?_
      rotate_left
      · (intro w hSw; (try dsimp only at hSw); go_simp) <;> with_reducible rfl
      try simp only [Act.put, List.setIfInBounds_toArray, List.set_cons_zero, List.set_cons_succ]
      refine wpAnyH_take (i := 6) (oi := { dst := some 34, op := Op.load 2 (Operand.tmp 33), type := 2, pos := "l09_ledger.go:179", after := #[{ on := 5, ground := Ground.data }], guard := none }) (v := ?_) rfl (by kernel_rfl) (by kernel_rfl) (by kernel_rfl) (fun _ _ _ h => h) (Or.inl ⟨by rfl, ?_⟩) (by assumption) ?_
      rotate_left
      · (intro w hSw; (try dsimp only at hSw); go_simp) <;> with_reducible rfl
      try simp only [Act.put, List.setIfInBounds_toArray, List.set_cons_zero, List.set_cons_succ]
      refine wpAnyH_take (i := 9) (oi := { dst := some 37, op := Op.fieldAddr 58 (Operand.tmp 5) 2, type := 0, pos := "l09_ledger.go:179", after := #[], guard := none }) (v := ?_) rfl (by kernel_rfl) (by kernel_rfl) (by kernel_rfl) (fun _ _ _ h => h) (Or.inl ⟨by rfl, ?_⟩) (by assumption) ?_
      rotate_left
      · (intro w hSw; (try dsimp only at hSw); go_simp) <;> with_reducible rfl
      try simp only [Act.put, List.setIfInBounds_toArray, List.set_cons_zero, List.set_cons_succ]
      refine wpAnyH_take (i := 10) (oi := { dst := some 38, op := Op.load 2 (Operand.tmp 37), type := 2, pos := "l09_ledger.go:179", after := #[{ on := 9, ground := Ground.data }], guard := none }) (v := ?_) rfl (by kernel_rfl) (by kernel_rfl) (by kernel_rfl) (fun _ _ _ h => h) (Or.inl ⟨by rfl, ?_⟩) (by assumption) ?_
      rotate_left
      · (intro w hSw; (try dsimp only at hSw); go_simp) <;> with_reducible rfl
      try simp only [Act.put, List.setIfInBounds_toArray, List.set_cons_zero, List.set_cons_succ]
      refine wpAnyH_take (i := 13) (oi := { dst := some 41, op := Op.fieldAddr 58 (Operand.tmp 5) 3, type := 0, pos := "l09_ledger.go:179", after := #[], guard := none }) (v := ?_) rfl (by kernel_rfl) (by kernel_rfl) (by kernel_rfl) (fun _ _ _ h => h) (Or.inl ⟨by rfl, ?_⟩) (by assumption) ?_
      rotate_left
      · (intro w hSw; (try dsimp only at hSw); go_simp) <;> with_reducible rfl
      try simp only [Act.put, List.setIfInBounds_toArray, List.set_cons_zero, List.set_cons_succ]
      refine wpAnyH_take (i := 14) (oi := { dst := some 42, op := Op.load 24 (Operand.tmp 41), type := 24, pos := "l09_ledger.go:179", after := #[{ on := 13, ground := Ground.data }], guard := none }) (v := ?_) rfl (by kernel_rfl) (by kernel_rfl) (by kernel_rfl) (fun _ _ _ h => h) (Or.inl ⟨by rfl, ?_⟩) (by assumption) ?_
      rotate_left
      · (intro w hSw; (try dsimp only at hSw); go_simp) <;> with_reducible rfl
      try simp only [Act.put, List.setIfInBounds_toArray, List.set_cons_zero, List.set_cons_succ]
      refine wpAnyH_take (i := 15) (oi := { dst := some 43, op := Op.call { callee := Callee.builtin Builtin.len, args := #[Operand.tmp 42], argTypes := #[24] }, type := 3, pos := "l09_ledger.go:179", after := #[{ on := 14, ground := Ground.data }], guard := none }) (v := ?_) rfl (by kernel_rfl) (by kernel_rfl) (by kernel_rfl) (fun _ _ _ h => h) (Or.inl ⟨by rfl, ?_⟩) (by assumption) ?_
      rotate_left
      · (intro w hSw; (try dsimp only at hSw); go_simp) <;> with_reducible rfl
      try simp only [Act.put, List.setIfInBounds_toArray, List.set_cons_zero, List.set_cons_succ]
      refine wpAnyH_ready (rs := [3]) (by kernel_rfl) (by simp) ?_
      refine AllReadyH.cons (o := { dst := some 31, op := Op.call { callee := Callee.value (Operand.func 43), args := #[Operand.tmp 30], argTypes := #[9] }, type := 9, pos := "l09_ledger.go:179", after := #[{ on := 2, ground := Ground.data }], guard := none }) rfl (fun K hK => ?_) AllReadyH.nil
      go_simp
      go_at_call 43
      refine (S1.out _).mono ?_
      rintro e q1 ⟨rfl, hq1⟩
      try go_wp2_with fail
      have hk1 := DBz.below (w := w) (B := Wo.heap.size) (a := a) (mo := mo) (sq := sq) (la := la) (ll := ll) (lc := lc) HS0.out hq1
      refine hK.out _ _ hk1 (fun _ => ?_)
      clear hK K
      try simp only [Act.put, List.setIfInBounds_toArray, List.set_cons_zero, List.set_cons_succ]
      refine wpAnyH_take (i := 4) (oi := { dst := some 32, op := Op.binOp BinOp.add 9 (Operand.tmp 28) (Operand.tmp 31) 9, type := 9, pos := "l09_ledger.go:179", after := #[{ on := 0, ground := Ground.data }, { on := 3, ground := Ground.data }], guard := none }) (v := ?_) rfl (by kernel_rfl) (by kernel_rfl) (by kernel_rfl) (fun _ _ _ h => h) (Or.inl ⟨by rfl, ?_⟩) (by assumption) ?_
      rotate_left
      · (intro w hSw; (try dsimp only at hSw); go_simp) <;> with_reducible rfl
      try simp only [Act.put, List.setIfInBounds_toArray, List.set_cons_zero, List.set_cons_succ]
      refine wpAnyH_ready (rs := [7]) (by kernel_rfl) (by simp) ?_
      refine AllReadyH.cons (o := { dst := some 35, op := Op.call { callee := Callee.value (Operand.func 42), args := #[Operand.tmp 34], argTypes := #[2] }, type := 9, pos := "l09_ledger.go:179", after := #[{ on := 6, ground := Ground.data }, { on := 3, ground := Ground.chain }], guard := none }) rfl (fun K hK => ?_) AllReadyH.nil
      go_simp
      go_at_call 42
      refine (S2.out _).mono ?_
      rintro e q2 ⟨rfl, hq2⟩
      try go_wp2_with fail
      have hk2 := DBz.below (w := w) (B := Wo.heap.size) (a := a) (mo := mo) (sq := sq) (la := la) (ll := ll) (lc := lc) hk1 hq2
      refine hK.out _ _ hk2 (fun _ => ?_)
      clear hK K
      try simp only [Act.put, List.setIfInBounds_toArray, List.set_cons_zero, List.set_cons_succ]
      refine wpAnyH_take (i := 8) (oi := { dst := some 36, op := Op.binOp BinOp.add 9 (Operand.tmp 32) (Operand.tmp 35) 9, type := 9, pos := "l09_ledger.go:179", after := #[{ on := 4, ground := Ground.data }, { on := 7, ground := Ground.data }], guard := none }) (v := ?_) rfl (by kernel_rfl) (by kernel_rfl) (by kernel_rfl) (fun _ _ _ h => h) (Or.inl ⟨by rfl, ?_⟩) (by assumption) ?_
      rotate_left
      · (intro w hSw; (try dsimp only at hSw); go_simp) <;> with_reducible rfl
      try simp only [Act.put, List.setIfInBounds_toArray, List.set_cons_zero, List.set_cons_succ]
      refine wpAnyH_ready (rs := [11]) (by kernel_rfl) (by simp) ?_
      refine AllReadyH.cons (o := { dst := some 39, op := Op.call { callee := Callee.value (Operand.func 42), args := #[Operand.tmp 38], argTypes := #[2] }, type := 9, pos := "l09_ledger.go:179", after := #[{ on := 10, ground := Ground.data }, { on := 7, ground := Ground.chain }], guard := none }) rfl (fun K hK => ?_) AllReadyH.nil
      go_simp
      go_at_call 42
      refine (S3.out _).mono ?_
      rintro e q3 ⟨rfl, hq3⟩
      try go_wp2_with fail
      have hk3 := DBz.below (w := w) (B := Wo.heap.size) (a := a) (mo := mo) (sq := sq) (la := la) (ll := ll) (lc := lc) hk2 hq3
      refine hK.out _ _ hk3 (fun _ => ?_)
      clear hK K
      try simp only [Act.put, List.setIfInBounds_toArray, List.set_cons_zero, List.set_cons_succ]
      refine wpAnyH_take (i := 12) (oi := { dst := some 40, op := Op.binOp BinOp.add 9 (Operand.tmp 36) (Operand.tmp 39) 9, type := 9, pos := "l09_ledger.go:179", after := #[{ on := 8, ground := Ground.data }, { on := 11, ground := Ground.data }], guard := none }) (v := ?_) rfl (by kernel_rfl) (by kernel_rfl) (by kernel_rfl) (fun _ _ _ h => h) (Or.inl ⟨by rfl, ?_⟩) (by assumption) ?_
      rotate_left
      · (intro w hSw; (try dsimp only at hSw); go_simp) <;> with_reducible rfl
      try simp only [Act.put, List.setIfInBounds_toArray, List.set_cons_zero, List.set_cons_succ]
      refine wpAnyH_ready (rs := [16]) (by kernel_rfl) (by simp) ?_
      refine AllReadyH.cons (o := { dst := some 44, op := Op.call { callee := Callee.value (Operand.func 42), args := #[Operand.tmp 43], argTypes := #[2] }, type := 9, pos := "l09_ledger.go:179", after := #[{ on := 15, ground := Ground.data }, { on := 11, ground := Ground.chain }], guard := none }) rfl (fun K hK => ?_) AllReadyH.nil
      go_simp
      go_at_call 42
      refine (S4.out _).mono ?_
      rintro e q4 ⟨rfl, hq4⟩
      try go_wp2_with fail
      have hk4 := DBz.below (w := w) (B := Wo.heap.size) (a := a) (mo := mo) (sq := sq) (la := la) (ll := ll) (lc := lc) hk3 hq4
      refine hK.out _ _ hk4 (fun _ => ?_)
      clear hK K
      try simp only [Act.put, List.setIfInBounds_toArray, List.set_cons_zero, List.set_cons_succ]
      refine wpAnyH_take (i := 17) (oi := { dst := some 45, op := Op.binOp BinOp.add 9 (Operand.tmp 40) (Operand.tmp 44) 9, type := 9, pos := "l09_ledger.go:179", after := #[{ on := 12, ground := Ground.data }, { on := 16, ground := Ground.data }], guard := none }) (v := ?_) rfl (by kernel_rfl) (by kernel_rfl) (by kernel_rfl) (fun _ _ _ h => h) (Or.inl ⟨by rfl, ?_⟩) (by assumption) ?_
      rotate_left
      · (intro w hSw; (try dsimp only at hSw); go_simp) <;> with_reducible rfl
      try simp only [Act.put, List.setIfInBounds_toArray, List.set_cons_zero, List.set_cons_succ]
      refine wpAnyH_take (i := 18) (oi := { dst := some 3, op := Op.assign (Operand.tmp 45), type := 9, pos := "l09_ledger.go:179", after := #[{ on := 17, ground := Ground.data }, { on := 16, ground := Ground.chain }, { on := 0, ground := Ground.phase }, { on := 1, ground := Ground.phase }, { on := 2, ground := Ground.phase }, { on := 3, ground := Ground.phase }, { on := 4, ground := Ground.phase }, { on := 5, ground := Ground.phase }, { on := 6, ground := Ground.phase }, { on := 7, ground := Ground.phase }, { on := 8, ground := Ground.phase }, { on := 9, ground := Ground.phase }, { on := 10, ground := Ground.phase }, { on := 11, ground := Ground.phase }, { on := 12, ground := Ground.phase }, { on := 13, ground := Ground.phase }, { on := 14, ground := Ground.phase }, { on := 15, ground := Ground.phase }, { on := 16, ground := Ground.phase }, { on := 17, ground := Ground.phase }], guard := none }) (v := ?_) rfl (by kernel_rfl) (by kernel_rfl) (by kernel_rfl) (fun _ _ _ h => h) (Or.inl ⟨by rfl, ?_⟩) (by assumption) ?_
      rotate_left
      · (intro w hSw; (try dsimp only at hSw); go_simp) <;> with_reducible rfl
      try simp only [Act.put, List.setIfInBounds_toArray, List.set_cons_zero, List.set_cons_succ]
      refine wpAnyH_done (by kernel_rfl) ?_ _
      have HB1 := hid_intro hk4.1
      have HX1 := hid_intro hk4
      clear hk1 hk2 hk3 hk4 hq1 hq2 hq3 hq4 HS0 v1 v2 v3 v4
      have HI0 : Hid (Y ++ X1 ++ X2 ++ X3 ++ X4 = Y ++ joinB (Q 0)) := hid_intro (by rw [HQ02.out]; exact app_four _ _ _ _ _)
      have hz5 : (Y ++ X1 ++ X2 ++ X3 ++ X4).size ≤ 41000 := by simp only [ByteArray.size_append]; omega
      obtain ⟨B, hB⟩ : ∃ B, B = Wo.heap.size := ⟨_, rfl⟩
      rw [← hB] at HX1 ⊢
      generalize Y ++ X1 ++ X2 ++ X3 ++ X4 = Z0 at *
      clear hB HQ02 z1 z2 z3 z4 c0 c1 c2 c3
      have x3 := HX1.out.2.2.2.2.2
      have xl := HX1.out.2.1
      go_wp2_with fail
      go_loopw [3, 6] (fun x z wx => ∃ (i : Nat) (Z : ByteArray), i ≤ ll ∧ x = .string Z ∧ z = .int .i64 i ∧ Hid (Z = Y ++ joinB (Q i)) ∧ Hid (Below w.heap.size w wx) ∧ Hid (DBz w B a mo sq la ll lc wx)) (fun x z _ => ll - (intOf z).toNat)
      case atStart => exact ⟨0, Z0, by omega, rfl, rfl, HI0, HB1, HX1⟩
      case round =>
        clear HB1 HX1 HI0 xl x3 hz5
        obtain ⟨i, Z, hi2, rfl, rfl, HZ, HBx, HXd⟩ := hrel
        have x3 := HXd.out.2.2.2.2.2
        have xl := HXd.out.2.1
        have hZs : Z.size ≤ 42000 := by rw [HZ.out, ByteArray.size_append]; have := HQS2.out i hi2; omega
        by_cases hlt3 : i < ll
        · have hlt4 : (i : Int) < (ll : Int) := by omega
          have hil : i < ls.length := by have := HLL.out; omega
          obtain ⟨b2, off2, rfl, hbl2, d0, d1⟩ := (HLi.out.below HBx.out).at i hil
          have u1 := S9.out _ (getD_mem (z := N.zero) ls i hil)
          have HC2 := hid_intro (HQM2.out i hlt3)
          generalize ls.getD i N.zero = V at *
          obtain ⟨U, P⟩ := V
          dsimp only at d0 d1 u1 HC2
          obtain ⟨u2, u3, u4⟩ := u1
          have Q1 := hid_intro (fun w => PutTextL.spec_text U w (by omega))
          have Q2 := hid_intro (fun w => NumR.spec_put P w (by omega))
          have HC2 : Hid (Q (i + 1) = Q i ++ [numB (U.size : Int) ++ U, numB P]) := HC2
          have y1 : (numB (U.size : Int) ++ U).size ≤ 40 := txt_le u2
          have y2 : (numB P).size ≤ 40 := num_le u3 u4
          generalize numB (U.size : Int) ++ U = X5 at *
          generalize numB P = X6 at *
          clear u2 u3 u4
          have v1 : ¬ 9223372036854775807 < Z.size + X5.size := by omega
          have v2 : ¬ 9223372036854775807 < Z.size + X5.size + X6.size := by omega
          have HXr : Hid (DBz w B a mo sq (some ⟨b2, off2, none⟩) ll lc wr.drew) := hid_intro ⟨HXd.out.1.drew, HXd.out.2⟩
          have HU0 : Hid (BU w B (.slice (some ⟨b2, off2, none⟩) ll lc) b2 (off2 + i * 2) (.string U) (.int .i64 P) wr.drew) := hid_intro ⟨HBx.out.drew, xl, hbl2, x3, d0, d1⟩
          go_wp2_with fail
          refine wp_region_held_drew (S := (fun W => Below w.heap.size w W ∧ B < W.heap.size ∧ b2 < W.heap.size ∧ W.cell? ⟨B, 3, none⟩ = some (.slice (some ⟨b2, off2, none⟩) ll lc) ∧ W.cell? ⟨b2, off2 + i * 2, none⟩ = some (.string U) ∧ W.cell? ⟨b2, off2 + i * 2 + 1, none⟩ = some (.int .i64 P))) (by kernel_rfl) HU0.out (fun hHeld => ?_)
          refine wpAnyH_take (i := 0) (oi := { dst := some 53, op := Op.move (Operand.tmp 3), type := 9, pos := "l09_ledger.go:181", after := #[], guard := none }) (v := ?_) rfl (by kernel_rfl) (by kernel_rfl) (by kernel_rfl) (fun _ _ _ h => h) (Or.inl ⟨by rfl, ?_⟩) (by assumption) ?_
          rotate_left
          · (intro w hSw; (try dsimp only at hSw); go_simp) <;> with_reducible rfl
          try simp only [Act.put, List.setIfInBounds_toArray, List.set_cons_zero, List.set_cons_succ]
          refine wpAnyH_take (i := 1) (oi := { dst := some 54, op := Op.fieldAddr 58 (Operand.tmp 5) 3, type := 0, pos := "l09_ledger.go:181", after := #[], guard := none }) (v := ?_) rfl (by kernel_rfl) (by kernel_rfl) (by kernel_rfl) (fun _ _ _ h => h) (Or.inl ⟨by rfl, ?_⟩) (by assumption) ?_
          rotate_left
          · (intro w hSw; (try dsimp only at hSw); go_simp) <;> with_reducible rfl
          try simp only [Act.put, List.setIfInBounds_toArray, List.set_cons_zero, List.set_cons_succ]
          refine wpAnyH_take (i := 2) (oi := { dst := some 55, op := Op.load 24 (Operand.tmp 54), type := 24, pos := "l09_ledger.go:181", after := #[{ on := 1, ground := Ground.data }], guard := none }) (v := ?_) rfl (by kernel_rfl) (by kernel_rfl) (by kernel_rfl) (fun _ _ _ h => h) (Or.inl ⟨by rfl, ?_⟩) (by assumption) ?_
          rotate_left
          · (intro w hSw; (try dsimp only at hSw); go_simp) <;> with_reducible rfl
          try simp only [Act.put, List.setIfInBounds_toArray, List.set_cons_zero, List.set_cons_succ]
          refine wpAnyH_take (i := 3) (oi := { dst := some 56, op := Op.move (Operand.tmp 6), type := 3, pos := "l09_ledger.go:181", after := #[], guard := none }) (v := ?_) rfl (by kernel_rfl) (by kernel_rfl) (by kernel_rfl) (fun _ _ _ h => h) (Or.inl ⟨by rfl, ?_⟩) (by assumption) ?_
          rotate_left
          · (intro w hSw; (try dsimp only at hSw); go_simp) <;> with_reducible rfl
          try simp only [Act.put, List.setIfInBounds_toArray, List.set_cons_zero, List.set_cons_succ]
          refine wpAnyH_take (i := 4) (oi := { dst := some 57, op := Op.indexAddr 24 (Operand.tmp 55) (Operand.tmp 56), type := 0, pos := "l09_ledger.go:181", after := #[{ on := 2, ground := Ground.data }, { on := 3, ground := Ground.data }], guard := none }) (v := ?_) rfl (by kernel_rfl) (by kernel_rfl) (by kernel_rfl) (fun _ _ _ h => h) (Or.inl ⟨by rfl, ?_⟩) (by assumption) ?_
          rotate_left
          · (intro w hSw; (try dsimp only at hSw); go_simp) <;> with_reducible rfl
          try simp only [Act.put, List.setIfInBounds_toArray, List.set_cons_zero, List.set_cons_succ]
          refine wpAnyH_take (i := 5) (oi := { dst := some 58, op := Op.fieldAddr 45 (Operand.tmp 57) 0, type := 0, pos := "l09_ledger.go:181", after := #[{ on := 4, ground := Ground.data }], guard := none }) (v := ?_) rfl (by kernel_rfl) (by kernel_rfl) (by kernel_rfl) (fun _ _ _ h => h) (Or.inl ⟨by rfl, ?_⟩) (by assumption) ?_
          rotate_left
          · (intro w hSw; (try dsimp only at hSw); go_simp) <;> with_reducible rfl
          try simp only [Act.put, List.setIfInBounds_toArray, List.set_cons_zero, List.set_cons_succ]
          refine wpAnyH_take (i := 6) (oi := { dst := some 59, op := Op.load 9 (Operand.tmp 58), type := 9, pos := "l09_ledger.go:181", after := #[{ on := 5, ground := Ground.data }], guard := none }) (v := ?_) rfl (by kernel_rfl) (by kernel_rfl) (by kernel_rfl) (fun _ _ _ h => h) (Or.inl ⟨by rfl, ?_⟩) (by assumption) ?_
          rotate_left
          · (intro w hSw; (try dsimp only at hSw); go_simp) <;> with_reducible rfl
          try simp only [Act.put, List.setIfInBounds_toArray, List.set_cons_zero, List.set_cons_succ]
          refine wpAnyH_take (i := 9) (oi := { dst := some 62, op := Op.fieldAddr 58 (Operand.tmp 5) 3, type := 0, pos := "l09_ledger.go:181", after := #[], guard := none }) (v := ?_) rfl (by kernel_rfl) (by kernel_rfl) (by kernel_rfl) (fun _ _ _ h => h) (Or.inl ⟨by rfl, ?_⟩) (by assumption) ?_
          rotate_left
          · (intro w hSw; (try dsimp only at hSw); go_simp) <;> with_reducible rfl
          try simp only [Act.put, List.setIfInBounds_toArray, List.set_cons_zero, List.set_cons_succ]
          refine wpAnyH_take (i := 10) (oi := { dst := some 63, op := Op.load 24 (Operand.tmp 62), type := 24, pos := "l09_ledger.go:181", after := #[{ on := 9, ground := Ground.data }], guard := none }) (v := ?_) rfl (by kernel_rfl) (by kernel_rfl) (by kernel_rfl) (fun _ _ _ h => h) (Or.inl ⟨by rfl, ?_⟩) (by assumption) ?_
          rotate_left
          · (intro w hSw; (try dsimp only at hSw); go_simp) <;> with_reducible rfl
          try simp only [Act.put, List.setIfInBounds_toArray, List.set_cons_zero, List.set_cons_succ]
          refine wpAnyH_take (i := 11) (oi := { dst := some 64, op := Op.move (Operand.tmp 6), type := 3, pos := "l09_ledger.go:181", after := #[], guard := none }) (v := ?_) rfl (by kernel_rfl) (by kernel_rfl) (by kernel_rfl) (fun _ _ _ h => h) (Or.inl ⟨by rfl, ?_⟩) (by assumption) ?_
          rotate_left
          · (intro w hSw; (try dsimp only at hSw); go_simp) <;> with_reducible rfl
          try simp only [Act.put, List.setIfInBounds_toArray, List.set_cons_zero, List.set_cons_succ]
          refine wpAnyH_take (i := 12) (oi := { dst := some 65, op := Op.indexAddr 24 (Operand.tmp 63) (Operand.tmp 64), type := 0, pos := "l09_ledger.go:181", after := #[{ on := 10, ground := Ground.data }, { on := 11, ground := Ground.data }], guard := none }) (v := ?_) rfl (by kernel_rfl) (by kernel_rfl) (by kernel_rfl) (fun _ _ _ h => h) (Or.inl ⟨by rfl, ?_⟩) (by assumption) ?_
          rotate_left
          · (intro w hSw; (try dsimp only at hSw); go_simp) <;> with_reducible rfl
          try simp only [Act.put, List.setIfInBounds_toArray, List.set_cons_zero, List.set_cons_succ]
          refine wpAnyH_take (i := 13) (oi := { dst := some 66, op := Op.fieldAddr 45 (Operand.tmp 65) 1, type := 0, pos := "l09_ledger.go:181", after := #[{ on := 12, ground := Ground.data }], guard := none }) (v := ?_) rfl (by kernel_rfl) (by kernel_rfl) (by kernel_rfl) (fun _ _ _ h => h) (Or.inl ⟨by rfl, ?_⟩) (by assumption) ?_
          rotate_left
          · (intro w hSw; (try dsimp only at hSw); go_simp) <;> with_reducible rfl
          try simp only [Act.put, List.setIfInBounds_toArray, List.set_cons_zero, List.set_cons_succ]
          refine wpAnyH_take (i := 14) (oi := { dst := some 67, op := Op.load 2 (Operand.tmp 66), type := 2, pos := "l09_ledger.go:181", after := #[{ on := 13, ground := Ground.data }], guard := none }) (v := ?_) rfl (by kernel_rfl) (by kernel_rfl) (by kernel_rfl) (fun _ _ _ h => h) (Or.inl ⟨by rfl, ?_⟩) (by assumption) ?_
          rotate_left
          · (intro w hSw; (try dsimp only at hSw); go_simp) <;> with_reducible rfl
          try simp only [Act.put, List.setIfInBounds_toArray, List.set_cons_zero, List.set_cons_succ]
          refine wpAnyH_ready (rs := [7]) (by kernel_rfl) (by simp) ?_
          refine AllReadyH.cons (o := { dst := some 60, op := Op.call { callee := Callee.value (Operand.func 43), args := #[Operand.tmp 59], argTypes := #[9] }, type := 9, pos := "l09_ledger.go:181", after := #[{ on := 6, ground := Ground.data }], guard := none }) rfl (fun K hK => ?_) AllReadyH.nil
          go_simp
          go_at_call 43
          refine (Q1.out _).mono ?_
          rintro e q1 ⟨rfl, hq1⟩
          try go_wp2_with fail
          have hk1 := BU.below (w := w) (B := B) (x := .slice (some ⟨b2, off2, none⟩) ll lc) (b := b2) (f := off2 + i * 2) (a0 := .string U) (a1 := .int .i64 P) HU0.out hq1
          refine hK.out _ _ hk1 (fun _ => ?_)
          clear hK K
          try simp only [Act.put, List.setIfInBounds_toArray, List.set_cons_zero, List.set_cons_succ]
          refine wpAnyH_take (i := 8) (oi := { dst := some 61, op := Op.binOp BinOp.add 9 (Operand.tmp 53) (Operand.tmp 60) 9, type := 9, pos := "l09_ledger.go:181", after := #[{ on := 0, ground := Ground.data }, { on := 7, ground := Ground.data }], guard := none }) (v := ?_) rfl (by kernel_rfl) (by kernel_rfl) (by kernel_rfl) (fun _ _ _ h => h) (Or.inl ⟨by rfl, ?_⟩) (by assumption) ?_
          rotate_left
          · (intro w hSw; (try dsimp only at hSw); go_simp) <;> with_reducible rfl
          try simp only [Act.put, List.setIfInBounds_toArray, List.set_cons_zero, List.set_cons_succ]
          refine wpAnyH_ready (rs := [15]) (by kernel_rfl) (by simp) ?_
          refine AllReadyH.cons (o := { dst := some 68, op := Op.call { callee := Callee.value (Operand.func 42), args := #[Operand.tmp 67], argTypes := #[2] }, type := 9, pos := "l09_ledger.go:181", after := #[{ on := 14, ground := Ground.data }, { on := 7, ground := Ground.chain }], guard := none }) rfl (fun K hK => ?_) AllReadyH.nil
          go_simp
          go_at_call 42
          refine (Q2.out _).mono ?_
          rintro e q2 ⟨rfl, hq2⟩
          try go_wp2_with fail
          have hk2 := BU.below (w := w) (B := B) (x := .slice (some ⟨b2, off2, none⟩) ll lc) (b := b2) (f := off2 + i * 2) (a0 := .string U) (a1 := .int .i64 P) hk1 hq2
          refine hK.out _ _ hk2 (fun _ => ?_)
          clear hK K
          try simp only [Act.put, List.setIfInBounds_toArray, List.set_cons_zero, List.set_cons_succ]
          refine wpAnyH_take (i := 16) (oi := { dst := some 69, op := Op.binOp BinOp.add 9 (Operand.tmp 61) (Operand.tmp 68) 9, type := 9, pos := "l09_ledger.go:181", after := #[{ on := 8, ground := Ground.data }, { on := 15, ground := Ground.data }], guard := none }) (v := ?_) rfl (by kernel_rfl) (by kernel_rfl) (by kernel_rfl) (fun _ _ _ h => h) (Or.inl ⟨by rfl, ?_⟩) (by assumption) ?_
          rotate_left
          · (intro w hSw; (try dsimp only at hSw); go_simp) <;> with_reducible rfl
          try simp only [Act.put, List.setIfInBounds_toArray, List.set_cons_zero, List.set_cons_succ]
          refine wpAnyH_take (i := 17) (oi := { dst := some 3, op := Op.assign (Operand.tmp 69), type := 9, pos := "l09_ledger.go:181", after := #[{ on := 16, ground := Ground.data }, { on := 15, ground := Ground.chain }, { on := 0, ground := Ground.phase }, { on := 1, ground := Ground.phase }, { on := 2, ground := Ground.phase }, { on := 3, ground := Ground.phase }, { on := 4, ground := Ground.phase }, { on := 5, ground := Ground.phase }, { on := 6, ground := Ground.phase }, { on := 7, ground := Ground.phase }, { on := 8, ground := Ground.phase }, { on := 9, ground := Ground.phase }, { on := 10, ground := Ground.phase }, { on := 11, ground := Ground.phase }, { on := 12, ground := Ground.phase }, { on := 13, ground := Ground.phase }, { on := 14, ground := Ground.phase }, { on := 15, ground := Ground.phase }, { on := 16, ground := Ground.phase }], guard := none }) (v := ?_) rfl (by kernel_rfl) (by kernel_rfl) (by kernel_rfl) (fun _ _ _ h => h) (Or.inl ⟨by rfl, ?_⟩) (by assumption) ?_
          rotate_left
          · (intro w hSw; (try dsimp only at hSw); go_simp) <;> with_reducible rfl
          try simp only [Act.put, List.setIfInBounds_toArray, List.set_cons_zero, List.set_cons_succ]
          refine wpAnyH_done (by kernel_rfl) ?_ _
          have HB4 := hid_intro hk2.1
          have HX4 := hid_intro (DBz.below (w := w) (B := B) (a := a) (mo := mo) (sq := sq) (la := some ⟨b2, off2, none⟩) (ll := ll) (lc := lc) (HXr.out.below hq1) hq2)
          clear hk1 hk2 hq1 hq2 HU0
          go_wp2_with fail
          go_roundw
          case rel => exact ⟨i + 1, Z ++ X5 ++ X6, by omega, rfl, by go_num, hid_intro (by rw [HC2.out]; exact app_in _ _ _ _ _ HZ.out), HB4, HX4⟩
          case measure => simp [intOf]; omega
        · have hlt4 : ¬ (i : Int) < (ll : Int) := by omega
          obtain rfl : i = ll := by omega
          have HZJ : Hid (Z = J (j + 1)) := hid_intro (by rw [HC1.out, HZ.out, HRR2.out, HY.out])
          go_wp2_with fail
          go_roundw
          case rel => exact ⟨j + 1, Z, by omega, rfl, by go_num, HZJ, HBx⟩
          case measure => simp [intOf]; omega
    · have hlt2 : ¬ (j : Int) < (len : Int) := by omega
      obtain rfl : j = len := by omega
      obtain rfl : Y = LB := by rw [HY.out, HLB.out]
      by_cases hz : Y.size ≤ 8000
      · have hz2 : ¬ (8000 : Int) < (Y.size : Int) := by omega
        go_wp2_with fail
        go_ret
        exact ⟨ret_str (by rw [HT.out, decide_eq_true hz]; rfl), HB.out⟩
      · have hz2 : (8000 : Int) < (Y.size : Int) := by omega
        go_wp2_with fail
        go_ret
        exact ⟨ret_str (by rw [HT.out, decide_eq_false hz]; rfl), HB.out⟩
end LedR
end Go.Proofs.Ytnhpkcacjkebnaa
