/-
  The bytes of a catalog, the model's side. The conditions: all in it is small; for l05Bytes: the catalog is right.
-/
import Derived.Test.YtnpnegcmohgnfaaDoorCaBI
import Derived.Test.YtnpnegcmohgnfaaDoorSCa
namespace Go.Proofs.YtnpnegcmohgnfaaDoor
open Go.ChangeShapes Go.WideShapes Go.ChangeAt Go.RowKit
set_option linter.unusedVariables false
namespace CatR
open NumR (numB numB_size)
open JoinR (joinB jl)
theorem spec_flag (b : Bool) (w : World) : Calls Tryd.prog 61 #[.bool b] w fun e w' => e = .returned (.string (numB (fl b))) ∧ Below w.heap.size w w' := by
  have P1 := hid_intro (fun w => NumR.spec_put 1 w (by omega))
  have P0 := hid_intro (fun w => NumR.spec_put 0 w (by omega))
  cases b
  · rw [show fl false = 0 from rfl]
    generalize numB 0 = X at *
    go_enter Tryd.func61, Tryd.ntmps61
    go_wp2_with fail
    refine (P0.out _).mono ?_
    rintro e w1 ⟨rfl, hb⟩
    go_wp2_with fail
    go_ret
    exact ⟨rfl, hb⟩
  · rw [show fl true = 1 from rfl]
    generalize numB 1 = X at *
    go_enter Tryd.func61, Tryd.ntmps61
    go_wp2_with fail
    refine (P1.out _).mono ?_
    rintro e w1 ⟨rfl, hb⟩
    go_wp2_with fail
    go_ret
    exact ⟨rfl, hb⟩
theorem pA_size {c : Ca} (h : caB c = true) (k : Nat) : (joinB (pA c k)).size ≤ 7 * 640 := by
  obtain ⟨⟨m6, hm⟩, ⟨c6, hc⟩⟩ := caB_iff.1 h
  have h1 := join_size_le 640 (pA c k) (fun x hx => by
    unfold pA at hx
    simp only [List.mem_append, List.mem_cons, List.not_mem_nil, or_false, List.mem_map] at hx
    rcases hx with rfl | ⟨m, hmm, rfl⟩
    · exact Nat.le_trans (num_le (by omega) (by omega)) (by omega)
    · obtain ⟨i, hi, rfl⟩ := List.getElem_of_mem (List.mem_of_mem_take hmm)
      have e : c.ms.getD i Me.zero = c.ms[i] := by simp [List.getD, hi]
      have := (hm i hi).1
      rw [e] at this
      exact meBy_size this)
  have h2 : (pA c k).length ≤ 7 := by
    unfold pA
    simp only [List.length_append, List.length_cons, List.length_nil, List.length_map, List.length_take]
    omega
  exact Nat.le_trans h1 (Nat.mul_le_mul_right _ h2)
theorem app_two (X a b : ByteArray) (l : List ByteArray) (h : X = joinB l) : X ++ a ++ b = joinB (l ++ [a, b]) := by
  rw [joinB_app, joinB_two, h, ByteArray.append_assoc]
theorem app_in (T X a b : ByteArray) (l : List ByteArray) (h : X = T ++ joinB l) : X ++ a ++ b = T ++ joinB (l ++ [a, b]) := by
  rw [joinB_app, joinB_two, h, ByteArray.append_assoc, ByteArray.append_assoc]
theorem app_six (T a b c d e f : ByteArray) : T ++ a ++ b ++ c ++ d ++ e ++ f = T ++ joinB [a, b, c, d, e, f] := by
  rw [show [a, b, c, d, e, f] = [a, b] ++ ([c, d] ++ [e, f]) from rfl, joinB_app, joinB_app, joinB_two, joinB_two, joinB_two]
  simp only [ByteArray.append_assoc]
/-- What is held while a pair of a list is put: the list's own cell, and the pair's two. -/
def BT (w : World) (B o b f : Nat) (x a0 a1 : Value) (W : World) : Prop := Below w.heap.size w W ∧ B < W.heap.size ∧ b < W.heap.size ∧ W.cell? ⟨B, o, none⟩ = some x ∧ W.cell? ⟨b, f, none⟩ = some a0 ∧ W.cell? ⟨b, f + 1, none⟩ = some a1
theorem BT.below {w : World} {B o b f : Nat} {x a0 a1 : Value} {W W' : World} (h : BT w B o b f x a0 a1 W) (hb : Below W.heap.size W W') : BT w B o b f x a0 a1 W' := by
  obtain ⟨h0, l1, l2, p0, p1, p2⟩ := h
  have g1 := fun o => hb.cell (p := ⟨B, o, none⟩) l1
  have g2 := fun o => hb.cell (p := ⟨b, o, none⟩) l2
  have hs := hb.size
  exact ⟨h0.trans (hb.mono h0.size), by omega, by omega, (g1 _).trans p0, (g2 _).trans p1, (g2 _).trans p2⟩
theorem BT.drew {w : World} {B o b f : Nat} {x a0 a1 : Value} {W : World} (h : BT w B o b f x a0 a1 W) : BT w B o b f x a0 a1 W.drew := ⟨h.1.drew, h.2⟩
set_option maxRecDepth 100000 in
set_option maxHeartbeats 8000000 in
theorem spec_l05 (v : Value) (c : Ca) (w : World) (hC : IsCa v c w) (hR : caB c = true) :
    Calls Tryd.prog 34 #[v] w fun e w' => e = .returned (.string (joinB (caP c))) ∧ Below w.heap.size w w' := by
  obtain ⟨ma, mc, ca, cc, rfl, hM, hJ⟩ := hC
  obtain ⟨⟨m6, hmo⟩, ⟨c6, hco⟩⟩ := caB_iff.1 hR
  have HPA := hid_intro (fun k => pA_size (c := c) hR k)
  have HPB := hid_intro (fun k => pB_size (c := c) hR k)
  have HMO := hid_intro hmo
  have HCO := hid_intro hco
  have HM := hid_intro hM
  have HJ := hid_intro hJ
  clear hM hJ hR hmo hco
  have HB : Hid (Below w.heap.size w (w.alloc (.cells #[.slice ma c.ms.length mc, .slice ca c.cs.length cc] 31))) := hid_intro ((Below.refl _ _).alloc (Nat.le_refl _) _)
  have HA : Hid (Blk w.heap.size [.slice ma c.ms.length mc, .slice ca c.cs.length cc] (w.alloc (.cells #[.slice ma c.ms.length mc, .slice ca c.cs.length cc] 31))) := hid_intro (Blk.new w _ _)
  generalize hml : c.ms.length = ml at *
  generalize hcl : c.cs.length = cl at *
  have HML := hid_intro hml
  have HCL := hid_intro hcl
  clear hml hcl
  have P1 := hid_intro (fun w => NumR.spec_put (ml : Int) w (by omega))
  have P2 := hid_intro (fun w => NumR.spec_put (cl : Int) w (by omega))
  have HP1 : Hid (numB (ml : Int) = joinB (pA c 0)) := hid_intro (by unfold pA; rw [HML.out, List.take_zero, List.map_nil, List.append_nil, joinB_one])
  have HP2 : Hid (joinB (pA c ml) ++ numB (cl : Int) = joinB (pB c 0)) := hid_intro (by
    unfold pA pB
    rw [HML.out, HCL.out, List.take_of_length_le (l := c.ms) (i := ml) (by have := HML.out; omega), List.take_zero, List.flatMap_nil, List.append_nil, joinB_app _ [numB (cl : Int)], joinB_one])
  have HP3 : Hid (pB c cl = caP c) := hid_intro (by unfold pB caP; rw [List.take_of_length_le (by have := HCL.out; omega)])
  have h2s : (numB (cl : Int)).size ≤ 40 := num_le (by omega) (by omega)
  generalize numB (ml : Int) = T1 at *
  generalize numB (cl : Int) = T2 at *
  have HRD : Hid (joinB (caP c) = joinB (pB c cl)) := hid_intro (by rw [HP3.out])
  generalize joinB (caP c) = R at *
  go_enter Tryd.func34, Tryd.ntmps34
  go_wp2_with fail
  refine (P1.out _).mono ?_
  rintro e w1 ⟨rfl, hb1⟩
  have HB1 := hid_intro (HB.out.trans (hb1.mono HB.out.size))
  have HA1 := hid_intro (HA.out.below hb1)
  have hl1 := HA1.out.1
  have q0 : w1.cell? ⟨w.heap.size, 0, none⟩ = some (.slice ma ml mc) := HA1.out.2 0 (by simp)
  have q1 : w1.cell? ⟨w.heap.size, 1, none⟩ = some (.slice ca cl cc) := HA1.out.2 1 (by simp)
  clear hb1 HB HA
  go_wp2_with fail
  go_loopw [3, 4] (fun x z wr => ∃ (j : Nat) (T : ByteArray), j ≤ ml ∧ x = .string T ∧ z = .int .i64 j ∧ Hid (T = joinB (pA c j)) ∧ Hid (Below w.heap.size w wr) ∧ Hid (Blk w.heap.size [.slice ma ml mc, .slice ca cl cc] wr)) (fun x z _ => ml - (intOf z).toNat)
  case atStart => exact ⟨0, T1, by omega, rfl, rfl, HP1, HB1, HA1⟩
  case round =>
    clear HB1 HA1 hl1 q0 q1
    obtain ⟨j, T, hj, rfl, rfl, HT, HB, HA⟩ := hrel
    have hTs : T.size ≤ 7 * 640 := by rw [HT.out]; exact HPA.out j
    have hl2 := HA.out.1
    by_cases hlt : j < ml
    · obtain ⟨Wo, hWo⟩ : ∃ Wo, Wo = wr := ⟨_, rfl⟩
      subst hWo
      have hlt2 : (j : Int) < (ml : Int) := by omega
      have hjl : j < c.ms.length := by have := HML.out; omega
      have q0 : Wo.cell? ⟨w.heap.size, 0, none⟩ = some (.slice ma ml mc) := HA.out.2 0 (by simp)
      have q1 : Wo.cell? ⟨w.heap.size, 1, none⟩ = some (.slice ca cl cc) := HA.out.2 1 (by simp)
      obtain ⟨b, off, rfl, hbl, ta, tc, c0, c1, c2, c3, c4, c5, hT⟩ := mes_at (HM.out.below HB.out) j hlt
      have hMR := (HMO.out j (by first | exact hjl | exact hlt)).1
      have HC1 : Hid (joinB (pA c (j + 1)) = joinB (pA c j) ++ meBy (c.ms.getD j Me.zero)) := hid_intro (by unfold pA; rw [take_map c.ms meBy Me.zero j hjl, ← List.append_assoc, joinB_app, joinB_one])
      generalize c.ms.getD j Me.zero = m at *
      obtain ⟨⟨b0, b1⟩, b2, b3, b4, b5⟩ := mright_bd hMR
      have HFB := fl_bd m.wh
      have HB5 := hid_intro b5
      have HSZ := hid_intro (fun k => mePk_size hMR k)
      have S1 := hid_intro (fun w => PutTextL.spec_text m.n w (by omega))
      have S2 := hid_intro (fun w => NumR.spec_put m.g w (by omega))
      have S3 := hid_intro (fun w => spec_flag m.wh w)
      have S4 := hid_intro (fun w => NumR.spec_put m.f w (by omega))
      have S5 := hid_intro (fun w => NumR.spec_put m.l w (by omega))
      have S6 := hid_intro (fun w => NumR.spec_put (m.ts.length : Int) w (by omega))
      have HBY : Hid (meBy m = joinB (meH m ++ m.ts.flatMap tiP)) := rfl
      have HH : Hid (meH m = [numB m.n.size ++ m.n, numB m.g, numB (fl m.wh), numB m.f, numB m.l, numB m.ts.length]) := rfl
      have z1 : (numB (m.n.size : Int) ++ m.n).size ≤ 40 := meH_size hMR _ (by rw [HH.out]; simp)
      have z2 : (numB m.g).size ≤ 40 := num_le b2.1 (by omega)
      have z3 : (numB (fl m.wh)).size ≤ 40 := num_le HFB.1 (by omega)
      have z4 : (numB m.f).size ≤ 40 := num_le b3.1 (by omega)
      have z5 : (numB m.l).size ≤ 40 := num_le b4.1 b4.2
      have z6 : (numB (m.ts.length : Int)).size ≤ 40 := num_le (by omega) (by omega)
      clear hMR b0 b2 b3 b4 b5 HFB
      have HTI := hid_intro hT
      clear hT
      generalize meBy m = MB at *
      generalize meH m = MH at *
      obtain ⟨n, g, wh, f, l, ts⟩ := m
      simp only at *
      generalize numB (n.size : Int) ++ n = Y1 at *
      generalize numB g = Y2 at *
      generalize numB (fl wh) = Y3 at *
      generalize fl wh = F3 at *
      generalize numB f = Y4 at *
      generalize numB l = Y5 at *
      generalize numB (ts.length : Int) = Y6 at *
      generalize htl : ts.length = tl at *
      have HTL := hid_intro htl
      clear htl
      have k1 : ¬ 9223372036854775807 < T.size + Y1.size := by omega
      have k2 : ¬ 9223372036854775807 < T.size + Y1.size + Y2.size := by omega
      have k3 : ¬ 9223372036854775807 < T.size + Y1.size + Y2.size + Y3.size := by omega
      have k4 : ¬ 9223372036854775807 < T.size + Y1.size + Y2.size + Y3.size + Y4.size := by omega
      have k5 : ¬ 9223372036854775807 < T.size + Y1.size + Y2.size + Y3.size + Y4.size + Y5.size := by omega
      have k6 : ¬ 9223372036854775807 < T.size + Y1.size + Y2.size + Y3.size + Y4.size + Y5.size + Y6.size := by omega
      have HTS := hid_intro hTs
      clear z1 z2 z3 z4 z5 z6 hTs
      go_wp2_with fail
      have HS0 : Hid (BM Wo Wo.heap.size (.string n) (.int .i64 g) (.bool wh) (.int .i64 f) (.int .i64 l) (.slice ta tl tc) (Wo.alloc (.cells #[.string n, .int .i64 g, .bool wh, .int .i64 f, .int .i64 l, .slice ta tl tc] 40))) := hid_intro ⟨(Below.refl _ _).alloc (Nat.le_refl _) _, by simp, by simp [go_sem], by simp [go_sem], by simp [go_sem], by simp [go_sem], by simp [go_sem], by simp [go_sem]⟩
      have HS1 := hid_intro HS0.out.drew
      go_region_held3 (fun W => Below Wo.heap.size Wo W ∧ Wo.heap.size < W.heap.size ∧ W.cell? ⟨Wo.heap.size, 0, none⟩ = some (.string n) ∧ W.cell? ⟨Wo.heap.size, 1, none⟩ = some (.int .i64 g) ∧ W.cell? ⟨Wo.heap.size, 2, none⟩ = some (.bool wh) ∧ W.cell? ⟨Wo.heap.size, 3, none⟩ = some (.int .i64 f) ∧ W.cell? ⟨Wo.heap.size, 4, none⟩ = some (.int .i64 l) ∧ W.cell? ⟨Wo.heap.size, 5, none⟩ = some (.slice ta tl tc)) (first | assumption | (exact HS0.out) | (exact HS1.out) | (exact BM.below (w := Wo) (B := Wo.heap.size) (by assumption) hb))
        (first | (go_at_call 60; refine (S1.out _).mono ?_; rintro e w' ⟨rfl, hb⟩) | (go_at_call 61; refine (S3.out _).mono ?_; rintro e w' ⟨rfl, hb⟩) | (go_at_call_of 59 (Value.int .i64 g); refine (S2.out _).mono ?_; rintro e w' ⟨rfl, hb⟩) | (go_at_call_of 59 (Value.int .i64 f); refine (S4.out _).mono ?_; rintro e w' ⟨rfl, hb⟩) | (go_at_call_of 59 (Value.int .i64 l); refine (S5.out _).mono ?_; rintro e w' ⟨rfl, hb⟩) | (go_at_call_of 59 (Value.int .i64 (tl : Int)); refine (S6.out _).mono ?_; rintro e w' ⟨rfl, hb⟩))
      rename_i hS
      obtain ⟨W1, hW1⟩ : ∃ W1, W1 = w' := ⟨_, rfl⟩
      rw [← hW1] at hS ⊢
      have HS2 := hid_intro hS
      have g5 : W1.cell? ⟨Wo.heap.size, 5, none⟩ = some (.slice ta tl tc) := hS.2.2.2.2.2.2.2
      have g6 := hS.2.1
      have HX0 : Hid (T ++ Y1 ++ Y2 ++ Y3 ++ Y4 ++ Y5 ++ Y6 = T ++ joinB (MH ++ (ts.take 0).flatMap tiP)) := hid_intro (by rw [app_six, HH.out, List.take_zero, List.flatMap_nil, List.append_nil])
      clear hS HS0 HS1 k1 k2 k3 k4 k5 k6 c0 c1 c2 c3 c4 c5 hW1 q0 q1
      generalize T ++ Y1 ++ Y2 ++ Y3 ++ Y4 ++ Y5 ++ Y6 = X0 at *
      go_wp2_with fail
      go_loopw [3, 6] (fun x z wx => ∃ (k : Nat) (X : ByteArray), k ≤ tl ∧ x = .string X ∧ z = .int .i64 k ∧ Hid (X = T ++ joinB (MH ++ (ts.take k).flatMap tiP)) ∧ Hid (BM Wo Wo.heap.size (.string n) (.int .i64 g) (.bool wh) (.int .i64 f) (.int .i64 l) (.slice ta tl tc) wx)) (fun x z _ => tl - (intOf z).toNat)
      case atStart => exact ⟨0, X0, by omega, rfl, rfl, HX0, HS2⟩
      case round =>
        clear HX0 HS2 g5 g6
        obtain ⟨k, X, hk, rfl, rfl, HX, HS2⟩ := hrel
        have HBW := hid_intro HS2.out.1
        have HBA := hid_intro (HB.out.trans (HS2.out.1.mono HB.out.size))
        have g5 : wr.cell? ⟨Wo.heap.size, 5, none⟩ = some (.slice ta tl tc) := HS2.out.2.2.2.2.2.2.2
        have g6 := HS2.out.2.1
        by_cases hkt : k < tl
        · have hkt2 : (k : Int) < (tl : Int) := by omega
          obtain ⟨b', off', rfl, hbl', d0, d1⟩ := tis_at (HTI.out.below HBW.out) k hkt
          have c0 : wr.cell? ⟨b', off' + k * 2, none⟩ = some (.int .i64 (tU ts k)) := d0
          have c1 : wr.cell? ⟨b', off' + k * 2 + 1, none⟩ = some (.int .i64 (tP ts k)) := d1
          clear d0 d1
          obtain ⟨⟨u1, u2⟩, u3', u4⟩ := HB5.out k (by first | exact hkt | (have := HTL.out; omega))
          have Q1 := hid_intro (fun w => NumR.spec_put (tU ts k) w (by omega))
          have Q2 := hid_intro (fun w => NumR.spec_put (tP ts k) w (by omega))
          have v1 : (numB (tU ts k)).size ≤ 40 := num_le u1 u2
          have v2 : (numB (tP ts k)).size ≤ 40 := num_le u3' (by omega)
          have HC2 : Hid ((ts.take (k + 1)).flatMap tiP = (ts.take k).flatMap tiP ++ [numB (tU ts k), numB (tP ts k)]) := hid_intro (take_flat ts tiP Ti.zero k (by have := HTL.out; omega))
          have hXs : X.size ≤ 7 * 640 + 640 := by rw [HX.out, ByteArray.size_append]; have := HSZ.out k; have := HTS.out; omega
          generalize numB (tU ts k) = X1 at *
          generalize numB (tP ts k) = X2 at *
          generalize tU ts k = U at *
          generalize tP ts k = P at *
          have k1 : ¬ 9223372036854775807 < X.size + X1.size := by omega
          have k2 : ¬ 9223372036854775807 < X.size + X1.size + X2.size := by omega
          clear u1 u2 u3' u4 v1 v2 hXs
          have HAl : Hid (BT wr Wo.heap.size 5 b' (off' + k * 2) (.slice (some ⟨b', off', none⟩) tl tc) (.int .i64 U) (.int .i64 P) wr) := hid_intro ⟨Below.refl _ _, g6, hbl', g5, c0, c1⟩
          have HAd := hid_intro HAl.out.drew
          go_wp2_with fail
          go_region_held3 (fun W => Below wr.heap.size wr W ∧ Wo.heap.size < W.heap.size ∧ b' < W.heap.size ∧ W.cell? ⟨Wo.heap.size, 5, none⟩ = some (.slice (some ⟨b', off', none⟩) tl tc) ∧ W.cell? ⟨b', off' + k * 2, none⟩ = some (.int .i64 U) ∧ W.cell? ⟨b', off' + k * 2 + 1, none⟩ = some (.int .i64 P))
            (first | assumption | (exact HAl.out) | (exact HAd.out) | (exact BT.below (w := wr) (B := Wo.heap.size) (o := 5) (b := b') (f := off' + k * 2) (by assumption) hb1) | (exact BT.below (w := wr) (B := Wo.heap.size) (o := 5) (b := b') (f := off' + k * 2) (by assumption) hb2))
            (first | (go_at_call_of 59 (Value.int .i64 U); refine (Q1.out _).mono ?_; rintro e w1 ⟨rfl, hb1⟩) | (go_at_call_of 59 (Value.int .i64 P); refine (Q2.out _).mono ?_; rintro e w2 ⟨rfl, hb2⟩))
          rename_i hS
          have HS3 := hid_intro (BM.below HS2.out hS.1)
          have HX1 : Hid (X ++ X1 ++ X2 = T ++ joinB (MH ++ (ts.take (k + 1)).flatMap tiP)) := hid_intro (by rw [HC2.out, ← List.append_assoc]; exact app_in T X X1 X2 _ HX.out)
          clear hS k1 k2 HS2
          go_wp2_with fail
          go_roundw
          case rel => exact ⟨k + 1, X ++ X1 ++ X2, by omega, rfl, by go_num, HX1, HS3⟩
          case measure => simp [intOf]; omega
        · obtain rfl : k = tl := by omega
          have HXE : Hid (X = joinB (pA c (j + 1))) := hid_intro (by
            rw [HC1.out, HBY.out, HX.out, HT.out, List.take_of_length_le (by have := HTL.out; omega)])
          have HAE := hid_intro (HA.out.below HBW.out)
          go_wp2_with fail
          go_roundw
          case rel => exact ⟨j + 1, X, by omega, rfl, by go_num, HXE, HBA, HAE⟩
          case measure => simp [intOf]; omega
    · obtain rfl : j = ml := by omega
      have q0 : wr.cell? ⟨w.heap.size, 0, none⟩ = some (.slice ma j mc) := HA.out.2 0 (by simp)
      have q1 : wr.cell? ⟨w.heap.size, 1, none⟩ = some (.slice ca cl cc) := HA.out.2 1 (by simp)
      have k1 : ¬ 9223372036854775807 < T.size + T2.size := by omega
      go_wp2_with fail
      refine (P2.out _).mono ?_
      rintro e w4 ⟨rfl, hb4⟩
      have HB4 := hid_intro (HB.out.trans (hb4.mono HB.out.size))
      have HA4 := hid_intro (HA.out.below hb4)
      have hl4 := HA4.out.1
      have q2 : w4.cell? ⟨w.heap.size, 1, none⟩ = some (.slice ca cl cc) := HA4.out.2 1 (by simp)
      have HX0 : Hid (T ++ T2 = joinB (pB c 0)) := hid_intro (by rw [HT.out]; exact HP2.out)
      clear hb4 q1 q0
      go_wp2_with fail
      go_loopw [3, 7] (fun x z wx => ∃ (i : Nat) (X : ByteArray), i ≤ cl ∧ x = .string X ∧ z = .int .i64 i ∧ Hid (X = joinB (pB c i)) ∧ Hid (Below w.heap.size w wx) ∧ Hid (Blk w.heap.size [.slice ma j mc, .slice ca cl cc] wx)) (fun x z _ => cl - (intOf z).toNat)
      case atStart => exact ⟨0, T ++ T2, by omega, rfl, rfl, HX0, HB4, HA4⟩
      case round =>
        clear HX0 HB4 HA4 hl4 q2 HB HA hl2 k1
        obtain ⟨i, X, hi, rfl, rfl, HX, HB, HA⟩ := hrel
        have hl2 := HA.out.1
        have q1 : wr.cell? ⟨w.heap.size, 1, none⟩ = some (.slice ca cl cc) := HA.out.2 1 (by simp)
        by_cases hit : i < cl
        · have hit2 : (i : Int) < (cl : Int) := by omega
          have hil : i < c.cs.length := by have := HCL.out; omega
          obtain ⟨b', off', rfl, hbl', d0, d1⟩ := crs_at (HJ.out.below HB.out) i hit
          have c0 : wr.cell? ⟨b', off' + i * 2, none⟩ = some (.string (cA c.cs i)) := d0
          have c1 : wr.cell? ⟨b', off' + i * 2 + 1, none⟩ = some (.int .i64 (cM c.cs i)) := d1
          clear d0 d1
          obtain ⟨⟨u1, u2, u3'⟩, _⟩ := HCO.out i (by first | exact hil | exact hit)
          have u4 := (name_le u1).2
          have Q1 := hid_intro (fun w => PutTextL.spec_text (cA c.cs i) w (by omega))
          have Q2 := hid_intro (fun w => NumR.spec_put (cM c.cs i) w (by omega))
          have v1 : (numB ((cA c.cs i).size : Int) ++ cA c.cs i).size ≤ 40 := txt_le u4
          have v2 : (numB (cM c.cs i)).size ≤ 40 := num_le u2 u3'
          have HC1 : Hid (pB c (i + 1) = pB c i ++ [numB ((cA c.cs i).size : Int) ++ cA c.cs i, numB (cM c.cs i)]) := hid_intro (by unfold pB; rw [take_flat c.cs crP Cr.zero i hil, ← List.append_assoc]; rfl)
          have hXs : X.size ≤ 20 * 640 := by rw [HX.out]; exact HPB.out i
          generalize numB ((cA c.cs i).size : Int) ++ cA c.cs i = X1 at *
          generalize numB (cM c.cs i) = X2 at *
          generalize cA c.cs i = U at *
          generalize cM c.cs i = P at *
          have k1 : ¬ 9223372036854775807 < X.size + X1.size := by omega
          have k2 : ¬ 9223372036854775807 < X.size + X1.size + X2.size := by omega
          clear u1 u2 u3' u4 v1 v2 hXs
          have HAl : Hid (BT wr w.heap.size 1 b' (off' + i * 2) (.slice (some ⟨b', off', none⟩) cl cc) (.string U) (.int .i64 P) wr) := hid_intro ⟨Below.refl _ _, hl2, hbl', q1, c0, c1⟩
          have HAd := hid_intro HAl.out.drew
          go_wp2_with fail
          go_region_held3 (fun W => Below wr.heap.size wr W ∧ w.heap.size < W.heap.size ∧ b' < W.heap.size ∧ W.cell? ⟨w.heap.size, 1, none⟩ = some (.slice (some ⟨b', off', none⟩) cl cc) ∧ W.cell? ⟨b', off' + i * 2, none⟩ = some (.string U) ∧ W.cell? ⟨b', off' + i * 2 + 1, none⟩ = some (.int .i64 P))
            (first | assumption | (exact HAl.out) | (exact HAd.out) | (exact BT.below (w := wr) (B := w.heap.size) (o := 1) (b := b') (f := off' + i * 2) (by assumption) hb1) | (exact BT.below (w := wr) (B := w.heap.size) (o := 1) (b := b') (f := off' + i * 2) (by assumption) hb2))
            (first | (go_at_call 60; refine (Q1.out _).mono ?_; rintro e w1 ⟨rfl, hb1⟩) | (go_at_call 59; refine (Q2.out _).mono ?_; rintro e w2 ⟨rfl, hb2⟩))
          rename_i hS
          have HB5 := hid_intro (HB.out.trans (hS.1.mono HB.out.size))
          have HA5 := hid_intro (HA.out.below hS.1)
          have HX1 : Hid (X ++ X1 ++ X2 = joinB (pB c (i + 1))) := hid_intro (by rw [HC1.out]; exact app_two X X1 X2 _ HX.out)
          clear hS k1 k2
          go_wp2_with fail
          go_roundw
          case rel => exact ⟨i + 1, X ++ X1 ++ X2, by omega, rfl, by go_num, HX1, HB5, HA5⟩
          case measure => simp [intOf]; omega
        · obtain rfl : i = cl := by omega
          go_wp2_with fail
          go_ret
          exact ⟨ret_str (by rw [HRD.out]; exact HX.out), HB.out⟩
theorem spec_cab (v : Value) (c : Ca) (w : World) (hS : c.Small) (hC : IsCa v c w) :
    Calls Tryd.prog 14 #[v] w fun e w' => e = .returned (.string (caBy c)) ∧ Below w.heap.size w w' := by
  have HR := hid_intro (fun W (hW : Below w.heap.size w W) => spec_ca v c W hS (hC.below hW))
  have HL := hid_intro (fun (h : caB c = true) W (hW : Below w.heap.size w W) => spec_l05 v c W (hC.below hW) h)
  have HBY : Hid (caBy c = if caB c = true then joinB (caP c) else ⟨#[]⟩) := rfl
  obtain ⟨ma, mc, ca, cc, rfl, hM, hJ⟩ := hC
  clear hM hJ hS
  generalize caB c = r at *
  generalize caBy c = Y at *
  generalize joinB (caP c) = X at *
  have HB : Hid (Below w.heap.size w (w.alloc (.cells #[.slice ma c.ms.length mc, .slice ca c.cs.length cc] 31))) := hid_intro ((Below.refl _ _).alloc (Nat.le_refl _) _)
  have HA : Hid (Blk w.heap.size [.slice ma c.ms.length mc, .slice ca c.cs.length cc] (w.alloc (.cells #[.slice ma c.ms.length mc, .slice ca c.cs.length cc] 31))) := hid_intro (Blk.new w _ _)
  generalize c.ms.length = ml at *
  generalize c.cs.length = cl at *
  go_enter Tryd.func14, Tryd.ntmps14
  go_wp2_with fail
  refine (HR.out _ HB.out).mono ?_
  rintro e w1 ⟨rfl, hb1⟩
  have HB1 := hid_intro (HB.out.trans (hb1.mono HB.out.size))
  have HA1 := hid_intro (HA.out.below hb1)
  have hl1 := HA1.out.1
  have q0 : w1.cell? ⟨w.heap.size, 0, none⟩ = some (.slice ma ml mc) := HA1.out.2 0 (by simp)
  have q1 : w1.cell? ⟨w.heap.size, 1, none⟩ = some (.slice ca cl cc) := HA1.out.2 1 (by simp)
  clear hb1 HB HA
  cases r
  · go_wp2_with fail
    go_ret
    exact ⟨ret_str (by rw [HBY.out]; first | rw [if_neg (by simp)] | rfl), HB1.out⟩
  · have HRR : Hid (Y = X) := hid_intro (by rw [HBY.out]; (first | rw [if_pos rfl] | rw [if_pos trivial]))
    go_wp2_with fail
    refine (HL.out (by first | exact rfl | trivial) _ HB1.out).mono ?_
    rintro e w2 ⟨rfl, hb2⟩
    have HB2 := hid_intro (HB1.out.trans (hb2.mono HB1.out.size))
    clear hb2
    go_wp2_with fail
    go_ret
    exact ⟨ret_str HRR.out.symm, HB2.out⟩
end CatR
end Go.Proofs.YtnpnegcmohgnfaaDoor
