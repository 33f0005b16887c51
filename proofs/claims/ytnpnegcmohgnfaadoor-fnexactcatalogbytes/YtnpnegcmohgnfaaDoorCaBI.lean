/-
  The bytes of a catalog, the program's side. The conditions: all in it is small; the program's own error stands in its variable.
-/
import Derived.Test.YtnpnegcmohgnfaaDoorMeB
import Derived.Test.YtnpnegcmohgnfaaDoorCaR
namespace Go.Proofs.YtnpnegcmohgnfaaDoor
open Go.ChangeShapes Go.WideShapes Go.ChangeAt Go.RowKit
set_option linter.unusedVariables false
namespace CatR
open NumR (numB numB_size)
open JoinR (joinB jl)
theorem one_cell (w : World) (x : ByteArray) (T : TypeId) : ∀ j u, [Value.string x][j]? = some u → (w.alloc (.cells #[.string x] T)).cell? ((⟨w.heap.size, 0, none⟩ : Addr).add j) = some u := by
  intro j u hj
  match j, hj with
  | 0, hj => simp at hj; subst hj; simp [Addr.add]
theorem one_one (x : ByteArray) : ∀ u ∈ [Value.string x], u.oneCell' = true := by
  intro u hu
  simp at hu
  subst hu; rfl
theorem blk_grown {b : Nat} {cs : List Value} {w w' : World} {row : Option Nat} (h : Blk b cs w) (hg : w.grownBy w' row) (hne : some b ≠ row) : Blk b cs w' := by
  have e := hg.block b h.1 hne
  exact ⟨by have := hg.size; have := h.1; omega, fun i hi => (World.cell?_of_block (a := ⟨b, i, none⟩) e).trans (h.2 i hi)⟩
/-- The parts so far: the meters', then the credits'. -/
def pA (c : Ca) (k : Nat) : List ByteArray := [numB c.ms.length] ++ (c.ms.take k).map meBy
def pB (c : Ca) (k : Nat) : List ByteArray := ((([numB c.ms.length] ++ c.ms.map meBy) ++ [numB c.cs.length])) ++ (c.cs.take k).flatMap crP
theorem pB_size {c : Ca} (h : caB c = true) (k : Nat) : (joinB (pB c k)).size ≤ 20 * 640 := by
  obtain ⟨⟨m6, hm⟩, ⟨c6, hc⟩⟩ := caB_iff.1 h
  have h1 := join_size_le 640 (pB c k) (fun x hx => by
    unfold pB at hx
    simp only [List.mem_append, List.mem_cons, List.not_mem_nil, or_false, List.mem_map, List.mem_flatMap] at hx
    rcases hx with ((rfl | ⟨m, hmm, rfl⟩) | rfl) | ⟨y, hy, hx⟩
    · exact Nat.le_trans (num_le (by omega) (by omega)) (by omega)
    · obtain ⟨i, hi, rfl⟩ := List.getElem_of_mem hmm
      have e : c.ms.getD i Me.zero = c.ms[i] := by simp [List.getD, hi]
      have := (hm i hi).1
      rw [e] at this
      exact meBy_size this
    · exact Nat.le_trans (num_le (by omega) (by omega)) (by omega)
    · obtain ⟨i, hi, rfl⟩ := List.getElem_of_mem (List.mem_of_mem_take hy)
      have e : c.cs.getD i Cr.zero = c.cs[i] := by simp [List.getD, hi]
      have h2 := (hc i hi).1
      unfold cA cM at h2
      rw [e] at h2
      simp only [crP, List.mem_cons, List.not_mem_nil, or_false] at hx
      rcases hx with rfl | rfl
      · exact Nat.le_trans (txt_le (name_le h2.1).2) (by omega)
      · exact Nat.le_trans (num_le h2.2.1 h2.2.2) (by omega))
  have h2 : (pB c k).length ≤ 20 := by
    unfold pB
    simp only [List.length_append, List.length_cons, List.length_nil, List.length_map, cr_len, List.length_take]
    omega
  exact Nat.le_trans h1 (Nat.mul_le_mul_right _ h2)
set_option maxRecDepth 100000 in
set_option maxHeartbeats 8000000 in
theorem impl_cab (v : Value) (c : Ca) (w : World) (hS : c.Small) (hC : IsCa v c w) (hL : Laid w) :
    Calls Tryd.prog 15 #[v] w fun e w' => e = .returned (.string (caBy c)) ∧ Below w.heap.size w w' := by
  have HR0 : Hid (∀ W, Below w.heap.size w W → Calls Tryd.prog 10 #[v] W fun e w' => e = .returned (.bool (caB c)) ∧ Below W.heap.size W w') := hid_intro (fun W hW => impl_ca v c W hS (hC.below hW) (hL.below hW))
  obtain ⟨i0, hi, hz0, hz1, hz2⟩ := info_parts infoS
  obtain ⟨ma, mc, ca, cc, rfl, hM, hR⟩ := hC
  have HBY : Hid (caBy c = if caB c = true then joinB (caP c) else ⟨#[]⟩) := rfl
  have HPS := hid_intro (pB_size (c := c))
  have HIF := hid_intro (caB_iff (c := c))
  have HM := hid_intro hM
  have HJ := hid_intro hR
  clear hM hR hS hL
  generalize hcb : caB c = r at *
  clear hcb
  have HB : Hid (Below w.heap.size w (w.alloc (.cells #[.slice ma c.ms.length mc, .slice ca c.cs.length cc] 31))) := hid_intro ((Below.refl _ _).alloc (Nat.le_refl _) _)
  have HA : Hid (Blk w.heap.size [.slice ma c.ms.length mc, .slice ca c.cs.length cc] (w.alloc (.cells #[.slice ma c.ms.length mc, .slice ca c.cs.length cc] 31))) := hid_intro (Blk.new w _ _)
  generalize caBy c = R at *
  generalize hml : c.ms.length = ml at *
  generalize hcl : c.cs.length = cl at *
  have HML := hid_intro hml
  have HCL := hid_intro hcl
  clear hml hcl
  go_enter Tryd.func15, Tryd.ntmps15
  go_wp2_with fail
  refine (HR0.out _ HB.out).mono ?_
  rintro e w1 ⟨rfl, hb1⟩
  have HB1 := hid_intro (HB.out.trans (hb1.mono HB.out.size))
  have HA1 := hid_intro (HA.out.below hb1)
  have hl1 := HA1.out.1
  have q0 : w1.cell? ⟨w.heap.size, 0, none⟩ = some (.slice ma ml mc) := HA1.out.2 0 (by simp)
  have q1 : w1.cell? ⟨w.heap.size, 1, none⟩ = some (.slice ca cl cc) := HA1.out.2 1 (by simp)
  clear hb1 HB HA
  cases r
  · go_wp2_with fail
    go_ret
    exact ⟨ret_str (by rw [HBY.out]; first | rw [if_neg (by simp)] | rfl), HB1.out⟩
  · obtain ⟨⟨m6, hmo⟩, ⟨c6, hco⟩⟩ := HIF.out.1 rfl
    have HMO := hid_intro hmo
    have HCO := hid_intro hco
    have hm6 : ml ≤ 6 := by have := HML.out; omega
    have hc6 : cl ≤ 6 := by have := HCL.out; omega
    have P1 := hid_intro (fun w => NumR.impl_put (ml : Int) w (by omega))
    have P2 := hid_intro (fun w => NumR.impl_put (cl : Int) w (by omega))
    have HP1 : Hid (pA c 0 = [numB (ml : Int)]) := hid_intro (by unfold pA; rw [HML.out]; simp)
    have HP2 : Hid (pB c 0 = pA c ml ++ [numB (cl : Int)]) := hid_intro (by
      unfold pA pB
      rw [HML.out, HCL.out, List.take_of_length_le (l := c.ms) (i := ml) (by have := HML.out; omega)]
      simp)
    have HP3 : Hid (pB c cl = caP c) := hid_intro (by unfold pB caP; rw [List.take_of_length_le (by have := HCL.out; omega)])
    clear hmo hco m6 c6
    generalize numB (ml : Int) = T1 at *
    generalize numB (cl : Int) = T2 at *
    go_wp2_with fail
    refine (P1.out _).mono ?_
    rintro e w2 ⟨rfl, hb2⟩
    have HB2 := hid_intro (HB1.out.trans (hb2.mono HB1.out.size))
    have HA2 := hid_intro (HA1.out.below hb2)
    clear hb2 q0 q1 hl1
    have HO0 : Hid ((w2.alloc (Obj.cells #[Value.string T1] 9)).ownsRow (w.heap.size + 1) 9 1 (.slice (some ⟨w2.heap.size, 0, none⟩) 1 1) (1 + 0) ((pA c 0).map Value.string)) := hid_intro (by
      rw [HP1.out]
      exact ⟨by simp, .inr ⟨w2.heap.size, 1, #[.string T1], rfl, HA2.out.1, heap_alloc_new w2 _, by omega, by unfold maxLen; omega, by simp, by simp⟩⟩)
    have HB3 := hid_intro (HB2.out.alloc HB2.out.size (Obj.cells #[Value.string T1] 9))
    have HA3 := hid_intro (HA2.out.alloc (Obj.cells #[Value.string T1] 9))
    obtain ⟨W3, hW3⟩ : ∃ W3, W3 = w2.alloc (Obj.cells #[Value.string T1] 9) := ⟨_, rfl⟩
    rw [← hW3] at HO0 HB3 HA3
    have HW3 := hid_intro hW3
    have hl2 := HA2.out.1
    have q0 : w2.cell? ⟨w.heap.size, 0, none⟩ = some (.slice ma ml mc) := HA2.out.2 0 (by simp)
    have q1 : w2.cell? ⟨w.heap.size, 1, none⟩ = some (.slice ca cl cc) := HA2.out.2 1 (by simp)
    clear hW3
    go_wp2_with fail
    rw [← HW3.out]
    go_loopw [3, 19] (fun v z wr => ∃ (j : Nat), j ≤ ml ∧ z = .int .i64 j ∧ Hid (wr.ownsRow (w.heap.size + 1) 9 1 v (1 + j) ((pA c j).map Value.string)) ∧ Hid (v ≠ .slice none 0 0) ∧ Hid (Below w.heap.size w wr) ∧ Hid (Blk w.heap.size [.slice ma ml mc, .slice ca cl cc] wr)) (fun v z _ => ml - (intOf z).toNat)
    case atStart => exact ⟨0, by omega, rfl, HO0, hid_intro (by simp), HB3, HA3⟩
    case round =>
      clear HO0 HB3 HA3 hl2 q0 q1 HB2 HA2 HB1 HA1
      obtain ⟨j, hj, rfl, HO, HV, HB, HA⟩ := hrel
      by_cases hlt : j < ml
      · have hlt2 : (j : Int) < (ml : Int) := by omega
        have hjl : j < c.ms.length := by have := HML.out; omega
        obtain ⟨b, off, rfl, hbl, ta, tc, c0, c1, c2, c3, c4, c5, hT⟩ := mes_at (HM.out.below HB.out) j hlt
        have HMB := hid_intro (fun W (hW : Below wr.heap.size wr W) => impl_meb _ (c.ms.getD j Me.zero) W (HMO.out j hjl).1 ⟨ta, tc, rfl, hT.below hW⟩)
        have HC1 : Hid (pA c (j + 1) = pA c j ++ [meBy (c.ms.getD j Me.zero)]) := hid_intro (by unfold pA; rw [take_map c.ms meBy Me.zero j hjl, ← List.append_assoc])
        generalize meBy (c.ms.getD j Me.zero) = G at *
        generalize (c.ms.getD j Me.zero).ts.length = tl at *
        generalize (c.ms.getD j Me.zero).n = n at *
        generalize (c.ms.getD j Me.zero).g = g at *
        generalize (c.ms.getD j Me.zero).wh = wh at *
        generalize (c.ms.getD j Me.zero).f = f at *
        generalize (c.ms.getD j Me.zero).l = l at *
        clear hT
        go_wp2_with fail
        refine (HMB.out _ ((Below.refl _ _).alloc (Nat.le_refl _) _)).mono ?_
        rintro e w4 ⟨rfl, hb4⟩
        have HBR := hid_intro (bel_alloc hb4)
        have HO4 := hid_intro (own_below HO.out HBR.out)
        have HW4 := hid_intro (HB.out.trans (HBR.out.mono HB.out.size))
        have HA4 := hid_intro (HA.out.below HBR.out)
        clear hb4 c0 c1 c2 c3 c4 c5
        go_wp2_with (at_builtin; refine wpList_append_own _ rfl _ _ 59 rfl (w.heap.size + 1) 9 i0 (.string ⟨#[]⟩) 1 16 Tryd.underlying59 hi hz0 hz1 hz2 rfl (by decide) _ _ _ rfl (HO4.out.alloc _) ⟨w4.heap.size, 0, none⟩ 1 1 [.string G] rfl rfl (one_cell _ _ _) (one_one _) ?d3 ?d4 ?d5 ?_)
        case d3 => unfold maxLen; omega
        case d4 => omega
        case d5 => have h1 := HA4.out.1; simp; omega
        intro v' w5 hown hgrow hne
        have HO5 : Hid (w5.ownsRow (w.heap.size + 1) 9 1 v' (1 + (j + 1)) ((pA c (j + 1)).map Value.string)) := hid_intro (by rw [HC1.out, List.map_append, ← Nat.add_assoc]; exact hown)
        have HV5 : Hid (v' ≠ .slice none 0 0) := hid_intro (by first | exact hne | exact fun h => HV.out (hne.1 h).1)
        have HB5 : Hid (Below w.heap.size w w5) := hid_intro ((HW4.out.alloc HW4.out.size _).grown hgrow (HW4.out.alloc HW4.out.size _).size (fun k e => by have := (HO.out.lt k e).1; omega))
        have HA5 : Hid (Blk w.heap.size [.slice (some ⟨b, off, none⟩) ml mc, .slice ca cl cc] w5) := hid_intro (blk_grown (HA4.out.alloc _) hgrow (fun e => by have := HO.out.lt _ e.symm; omega))
        clear hown hgrow hne
        go_wp2_with fail
        go_roundw
        case rel => exact ⟨j + 1, by omega, by go_num, HO5, HV5, HB5, HA5⟩
        case measure => simp [intOf]; omega
      · obtain rfl : j = ml := by omega
        have hl2 := HA.out.1
        have q1 : wr.cell? ⟨w.heap.size, 1, none⟩ = some (.slice ca cl cc) := HA.out.2 1 (by simp)
        go_wp2_with fail
        refine (P2.out _).mono ?_
        rintro e w4 ⟨rfl, hb4⟩
        have HO4 := hid_intro (own_below HO.out hb4)
        have HW4 := hid_intro (HB.out.trans (hb4.mono HB.out.size))
        have HA4 := hid_intro (HA.out.below hb4)
        clear hb4 q1 hl2
        go_wp2_with (at_builtin; refine wpList_append_own _ rfl _ _ 59 rfl (w.heap.size + 1) 9 i0 (.string ⟨#[]⟩) 1 16 Tryd.underlying59 hi hz0 hz1 hz2 rfl (by decide) _ _ _ rfl (HO4.out.alloc _) ⟨w4.heap.size, 0, none⟩ 1 1 [.string T2] rfl rfl (one_cell _ _ _) (one_one _) ?d3 ?d4 ?d5 ?_)
        case d3 => unfold maxLen; omega
        case d4 => omega
        case d5 => have h1 := HA4.out.1; simp; omega
        intro v' w5 hown hgrow hne
        have HO5 : Hid (w5.ownsRow (w.heap.size + 1) 9 1 v' (2 + j + 2 * 0) ((pB c 0).map Value.string)) := hid_intro (by rw [HP2.out, List.map_append, show 2 + j + 2 * 0 = 1 + j + 1 by omega]; exact hown)
        have HV5 : Hid (v' ≠ .slice none 0 0) := hid_intro (by first | exact hne | exact fun h => HV.out (hne.1 h).1)
        have HB5 : Hid (Below w.heap.size w w5) := hid_intro ((HW4.out.alloc HW4.out.size _).grown hgrow (HW4.out.alloc HW4.out.size _).size (fun k e => by have := (HO.out.lt k e).1; omega))
        have HA5 : Hid (Blk w.heap.size [.slice ma j mc, .slice ca cl cc] w5) := hid_intro (blk_grown (HA4.out.alloc _) hgrow (fun e => by have := HO.out.lt _ e.symm; omega))
        have hl5 := HA5.out.1
        have q1 : w5.cell? ⟨w.heap.size, 1, none⟩ = some (.slice ca cl cc) := HA5.out.2 1 (by simp)
        clear hown hgrow hne
        go_wp2_with fail
        go_loopw [3, 39] (fun v z wx => ∃ (i : Nat), i ≤ cl ∧ z = .int .i64 i ∧ Hid (wx.ownsRow (w.heap.size + 1) 9 1 v (2 + j + 2 * i) ((pB c i).map Value.string)) ∧ Hid (v ≠ .slice none 0 0) ∧ Hid (Below w.heap.size w wx)) (fun v z _ => cl - (intOf z).toNat)
        case atStart => exact ⟨0, by omega, rfl, HO5, HV5, HB5⟩
        case round =>
          clear HO5 HV5 HB5 HA5 hl5 q1 HO4 HW4 HA4 HO HV HB HA
          obtain ⟨i, hi2, rfl, HO, HV, HB⟩ := hrel
          by_cases hlt3 : i < cl
          · have hlt2 : (i : Int) < (cl : Int) := by omega
            have hil : i < c.cs.length := by have := HCL.out; omega
            obtain ⟨b, off, rfl, hbl, d0, d1⟩ := crs_at (HJ.out.below HB.out) i hlt3
            have c0 : wr.cell? ⟨b, off + i * 2, none⟩ = some (.string (cA c.cs i)) := d0
            have c1 : wr.cell? ⟨b, off + i * 2 + 1, none⟩ = some (.int .i64 (cM c.cs i)) := d1
            clear d0 d1
            obtain ⟨⟨u1, u2, u3'⟩, _⟩ := HCO.out i hil
            have u4 := (name_le u1).2
            have Q1 := hid_intro (fun w => PutTextL.impl_text (cA c.cs i) w (by omega))
            have Q2 := hid_intro (fun w => NumR.impl_put (cM c.cs i) w (by omega))
            have HC1 : Hid (pB c (i + 1) = pB c i ++ [numB ((cA c.cs i).size : Int) ++ cA c.cs i, numB (cM c.cs i)]) := hid_intro (by unfold pB; rw [take_flat c.cs crP Cr.zero i hil, ← List.append_assoc]; rfl)
            generalize numB ((cA c.cs i).size : Int) ++ cA c.cs i = X1 at *
            generalize numB (cM c.cs i) = X2 at *
            generalize cA c.cs i = U at *
            generalize cM c.cs i = P at *
            clear u1 u2 u3' u4
            have HAl : Hid (BM2 w wr.heap.size (.string U) (.int .i64 P) (wr.alloc (.cells #[.string U, .int .i64 P] 49))) := hid_intro ⟨HB.out.alloc HB.out.size _, by simp, by simp [go_sem], by simp [go_sem]⟩
            have HAd := hid_intro HAl.out.drew
            have HOA := hid_intro (own_drew (HO.out.alloc (.cells #[.string U, .int .i64 P] 49)))
            have sz1 : 2 + j + 2 * i + 2 ≤ maxLen := by unfold maxLen; omega
            have sz2 : (2 + j + 2 * i + 2) * 16 ≤ 140737488355328 := by omega
            have sz3 : 0 < 1 := by omega
            go_wp2_with fail
            go_region_held3 (fun W => Below w.heap.size w W ∧ wr.heap.size < W.heap.size ∧ W.cell? ⟨wr.heap.size, 0, none⟩ = some (.string U) ∧ W.cell? ⟨wr.heap.size, 1, none⟩ = some (.int .i64 P))
              (first | assumption | (exact HAl.out) | (exact HAd.out) | (exact BM2.below (w := w) (B := wr.heap.size) (by assumption) hb1) | (exact BM2.below (w := w) (B := wr.heap.size) (by assumption) hb2) | (exact BM2.below (w := w) (B := wr.heap.size) (by assumption) ((Below.refl _ _).alloc (Nat.le_refl _) _)) | (exact BM2.grown (w := w) (B := wr.heap.size) (by assumption) hgrow HO.out rfl (Nat.le_succ _)))
              (first | (go_at_call 37; refine (Q1.out _).mono ?_; rintro e w1 ⟨rfl, hb1⟩; have HO1 := hid_intro (own_below HOA.out hb1)) | (go_at_call 35; refine (Q2.out _).mono ?_; rintro e w2 ⟨rfl, hb2⟩; have HO2 := hid_intro (own_below HO1.out hb2)) | (refine step_append_own rfl _ _ 59 rfl (w.heap.size + 1) 9 i0 (.string ⟨#[]⟩) 1 16 Tryd.underlying59 hi hz0 hz1 hz2 rfl sz3 _ _ _ rfl (HO2.out.alloc _) ⟨w2.heap.size, 0, none⟩ 2 2 [.string X1, .string X2] rfl rfl (two_cells _ _ _ _) (two_one _ _) sz1 sz2 (own_base (HO2.out.alloc _) HV.out) ?_; intro v' w4 hown hgrow hne))
            rename_i hS
            have HS4 := hid_intro hS.1
            have HO4 : Hid (w4.ownsRow (w.heap.size + 1) 9 1 v' (2 + j + 2 * (i + 1)) ((pB c (i + 1)).map Value.string)) := hid_intro (by
              rw [HC1.out, List.map_append, show 2 + j + 2 * (i + 1) = 2 + j + 2 * i + 2 by omega]
              exact hown)
            have HV4 : Hid (v' ≠ .slice none 0 0) := hid_intro (by first | exact hne | exact fun h => HV.out (hne.1 h).1)
            clear hown hgrow hne hS
            go_wp2_with fail
            go_roundw
            case rel => exact ⟨i + 1, by omega, by go_num, HO4, HV4, HS4⟩
            case measure => simp [intOf]; omega
          · obtain rfl : i = cl := by omega
            have HSZ2 := hid_intro (HPS.out (by first | exact rfl | trivial) i)
            rw [HP3.out] at HO HSZ2
            obtain ⟨q, cap', rfl, hg, hn, hcap, hcell⟩ := own_texts HO.out HV.out
            have hj2 := JoinR.join_len (caP c) q cap' _ (by omega) (by omega) hg hcell (by rw [jl_size]; have := HSZ2.out; omega)
            rw [hn] at hj2
            have HJ2 := hid_intro hj2
            have HRR : Hid (R = joinB (caP c)) := hid_intro (by rw [HBY.out]; (first | rw [if_pos rfl] | rw [if_pos trivial]))
            clear hj2 hcell
            go_wp2_with fail
            refine HJ2.out.mono ?_
            rintro e w6 ⟨rfl, hb⟩
            have HB6 := hid_intro (HB.out.trans (hb.mono HB.out.size))
            clear hb
            go_wp2_with fail
            go_ret
            exact ⟨ret_str HRR.out.symm, HB6.out⟩
end CatR
end Go.Proofs.YtnpnegcmohgnfaaDoor
