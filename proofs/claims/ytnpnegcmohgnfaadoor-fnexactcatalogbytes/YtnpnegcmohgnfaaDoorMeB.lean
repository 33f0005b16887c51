/-
  The bytes of a right meter, the program's side. The condition: the meter is right.
-/
import Derived.Test.YtnpnegcmohgnfaaDoorCatB
import Derived.OwnWalk
import Derived.Deep.RegionHeld3
namespace Go.Proofs.YtnpnegcmohgnfaaDoor
open Go.ChangeShapes Go.WideShapes Go.ChangeAt Go.RowKit
set_option linter.unusedVariables false
namespace CatR
open NumR (numB numB_size)
open JoinR (joinB jl)
theorem infoS : (Tryd.prog.info? 9).map (fun i => (i.zero, i.size, i.bytes)) = some (some (.string ⟨#[]⟩), 1, 16) := by kernel_rfl
theorem own_below {w w' : World} {base e size n : Nat} {v : Value} {xs : List Value} (h : w.ownsRow base e size v n xs) (hb : Below w.heap.size w w') : w'.ownsRow base e size v n xs := by
  refine ⟨h.1, ?_⟩
  rcases h.2 with hn | ⟨g, cap, cur, rfl, h1, hg, rest⟩
  · exact .inl hn
  · exact .inr ⟨g, cap, cur, rfl, h1, (hb.block g (Array.getElem?_eq_some_iff.1 hg).1).trans hg, rest⟩
theorem own_drew {w : World} {base e size n : Nat} {v : Value} {xs : List Value} (h : w.ownsRow base e size v n xs) : w.drew.ownsRow base e size v n xs := h
theorem own_texts {w : World} {base n : Nat} {v : Value} {xs : List ByteArray} (h : w.ownsRow base 9 1 v n (xs.map Value.string)) (hne : v ≠ .slice none 0 0) :
    ∃ g cap, v = .slice (some ⟨g, 0, none⟩) n cap ∧ g < w.heap.size ∧ xs.length = n ∧ n ≤ cap ∧ ∀ k (hk : k < xs.length), w.cell? ⟨g, k, none⟩ = some (.string xs[k]) := by
  have hl := h.1
  have hlen : xs.length = n := by simpa using hl
  rcases h.2 with ⟨h0, _⟩ | ⟨g, cap, cur, hv, _, _, hc, _⟩
  · exact absurd h0 hne
  · refine ⟨g, cap, hv, (h.lt g (by rw [hv]; rfl)).2, hlen, hc, fun k hk => ?_⟩
    have := h.cells (g := g) (by rw [hv]; rfl) k (.string xs[k]) (by simp [List.getElem?_map, List.getElem?_eq_getElem hk])
    rw [← this]
    congr 1
    unfold Addr.add; split <;> simp_all
theorem flag_any (b : Bool) (w : World) : Calls Tryd.prog 63 #[.bool b] w fun e w' => e = .returned (.int .i64 (fl b)) ∧ w' = w := by
  cases b
  all_goals
    go_enter Tryd.func63, Tryd.ntmps63
    go_wp2
    go_ret
    exact ⟨rfl, rfl⟩
/-- append to a list of one's own, as one step of a region that draws. -/
theorem step_append_own {P : Program} {w : World} {ops : Array Oper} {o : Oper} {a : Act} {K : Act → World → Prop} {Q : Exit → Act → World → Prop} {E : Prop} (hgd : o.guard = none) (s x : Operand) (t : TypeId)
    (ho : o.op = .call { callee := .builtin .append, args := #[s, x], argTypes := #[t, t] })
    (base : Nat) (e : TypeId) (i : TypeInfo) (z : Value) (size bytes : Nat) (ht : P.underlying t = some (.slice e)) (hi : P.info? e = some i) (hz : i.zero = some z)
    (hsize : i.size = size) (hby : i.bytes = bytes) (hzs : z.cells.size = size) (hsz : 0 < size)
    (v : Value) (n : Nat) (xs : List Value) (hs : a.eval s = v) (hown : w.ownsRow base e size v n xs)
    (ad : Addr) (m c : Nat) (news : List Value) (hx : a.eval x = .slice (some ad) m c) (hl : news.length = m * size) (hnews : ∀ j u, news[j]? = some u → w.cell? (ad.add j) = some u) (h1 : ∀ u ∈ news, u.oneCell' = true)
    (h63 : n + m ≤ maxLen) (hbytes : (n + m) * bytes ≤ 140737488355328) (hbase : base ≤ w.heap.size)
    (h : ∀ v' w', w'.ownsRow base e size v' (n + m) (xs ++ news) → w.grownBy w' v.ownBlock → (v' = .slice none 0 0 ↔ v = .slice none 0 0 ∧ m = 0) → K (a.put o.dst v') w') : if Region.wanted o (yielded ops a.tmps) = true then Oper.wp P o a w K Q else E := by
  have hw : Region.wanted o (yielded ops a.tmps) = true := by simp [Region.wanted, hgd]
  rw [if_pos hw]
  exact wp_append_own w s x t ho base e i z size bytes ht hi hz hsize hby hzs hsz v n xs hs hown ad m c news hx hl hnews h1 h63 hbytes hbase h
theorem own_base {w : World} {base e size n : Nat} {v : Value} {xs : List Value} (h : w.ownsRow base e size v n xs) (hv : v ≠ .slice none 0 0) : base ≤ w.heap.size := by
  rcases h.2 with ⟨h0, _⟩ | ⟨g, cap, cur, h1, h2, hg, _⟩
  · exact absurd h0 hv
  · have := (Array.getElem?_eq_some_iff.1 hg).1
    omega
theorem two_cells (w : World) (x y : ByteArray) (T : TypeId) : ∀ j u, [Value.string x, Value.string y][j]? = some u → (w.alloc (.cells #[.string x, .string y] T)).cell? ((⟨w.heap.size, 0, none⟩ : Addr).add j) = some u := by
  intro j u hj
  match j, hj with
  | 0, hj => simp at hj; subst hj; simp [Addr.add]
  | 1, hj => simp at hj; subst hj; simp [Addr.add, go_sem]
theorem two_one (x y : ByteArray) : ∀ u ∈ [Value.string x, Value.string y], u.oneCell' = true := by
  intro u hu
  simp at hu
  rcases hu with rfl | rfl <;> rfl
/-- What is held while a meter's fields are put. -/
def BM (w : World) (B : Nat) (a0 a1 a2 a3 a4 a5 : Value) (W : World) : Prop := Below w.heap.size w W ∧ B < W.heap.size ∧ W.cell? ⟨B, 0, none⟩ = some a0 ∧ W.cell? ⟨B, 1, none⟩ = some a1 ∧ W.cell? ⟨B, 2, none⟩ = some a2 ∧ W.cell? ⟨B, 3, none⟩ = some a3 ∧ W.cell? ⟨B, 4, none⟩ = some a4 ∧ W.cell? ⟨B, 5, none⟩ = some a5
theorem BM.below {w : World} {B : Nat} {a0 a1 a2 a3 a4 a5 : Value} {W W' : World} (h : BM w B a0 a1 a2 a3 a4 a5 W) (hb : Below W.heap.size W W') : BM w B a0 a1 a2 a3 a4 a5 W' := by
  obtain ⟨h0, l1, p0, p1, p2, p3, p4, p5⟩ := h
  have f := fun o => hb.cell (p := ⟨B, o, none⟩) l1
  have hs := hb.size
  exact ⟨h0.trans (hb.mono h0.size), by omega, (f 0).trans p0, (f 1).trans p1, (f 2).trans p2, (f 3).trans p3, (f 4).trans p4, (f 5).trans p5⟩
theorem BM.drew {w : World} {B : Nat} {a0 a1 a2 a3 a4 a5 : Value} {W : World} (h : BM w B a0 a1 a2 a3 a4 a5 W) : BM w B a0 a1 a2 a3 a4 a5 W.drew := ⟨h.1.drew, h.2⟩
/-- What is held while a pair's fields are put. -/
def BM2 (w : World) (B : Nat) (a0 a1 : Value) (W : World) : Prop := Below w.heap.size w W ∧ B < W.heap.size ∧ W.cell? ⟨B, 0, none⟩ = some a0 ∧ W.cell? ⟨B, 1, none⟩ = some a1
theorem BM2.below {w : World} {B : Nat} {a0 a1 : Value} {W W' : World} (h : BM2 w B a0 a1 W) (hb : Below W.heap.size W W') : BM2 w B a0 a1 W' := by
  obtain ⟨h0, l1, p0, p1⟩ := h
  have f := fun o => hb.cell (p := ⟨B, o, none⟩) l1
  have hs := hb.size
  exact ⟨h0.trans (hb.mono h0.size), by omega, (f 0).trans p0, (f 1).trans p1⟩
theorem BM2.drew {w : World} {B : Nat} {a0 a1 : Value} {W : World} (h : BM2 w B a0 a1 W) : BM2 w B a0 a1 W.drew := ⟨h.1.drew, h.2⟩
theorem BM2.grown {w : World} {B : Nat} {a0 a1 : Value} {W W' : World} {v : Value} {wr : World} {base e size n : Nat} {xs : List Value} (h : BM2 w B a0 a1 W) (hg : W.grownBy W' v.ownBlock) (ho : wr.ownsRow base e size v n xs) (hB : B = wr.heap.size := by rfl) (hbase : w.heap.size ≤ base := by omega) : BM2 w B a0 a1 W' := by
  obtain ⟨h0, l1, p0, p1⟩ := h
  have hne : some B ≠ v.ownBlock := fun e => by have := (ho.lt B e.symm).2; omega
  have e := hg.block B l1 hne
  exact ⟨h0.grown hg h0.size (fun k e => by have := (ho.lt k e).1; omega), by have := hg.size; omega, (World.cell?_of_block (a := ⟨B, 0, none⟩) e).trans p0, (World.cell?_of_block (a := ⟨B, 1, none⟩) e).trans p1⟩
set_option maxRecDepth 100000 in
set_option maxHeartbeats 8000000 in
theorem impl_meb (v : Value) (m : Me) (w : World) (hR : MRight m) (hM : IsMe v m w) :
    Calls Tryd.prog 36 #[v] w fun e w' => e = .returned (.string (meBy m)) ∧ Below w.heap.size w w' := by
  obtain ⟨i0, hi, hz0, hz1, hz2⟩ := info_parts infoS
  obtain ⟨⟨b0, b1⟩, b2, b3, b4, b5⟩ := mright_bd hR
  have HSZ := hid_intro (fun k => mePk_size hR k)
  have HFB := fl_bd m.wh
  have P1 := hid_intro (fun w => PutTextL.impl_text m.n w (by omega))
  have P2 := hid_intro (fun w => NumR.impl_put m.g w (by omega))
  have P3 := hid_intro (fun w => NumR.impl_put (fl m.wh) w (by omega))
  have P4 := hid_intro (fun w => NumR.impl_put m.f w (by omega))
  have P5 := hid_intro (fun w => NumR.impl_put m.l w (by omega))
  have P6 := hid_intro (fun w => NumR.impl_put m.ts.length w (by omega))
  have PF := hid_intro (fun w => flag_any m.wh w)
  obtain ⟨ta, tc, rfl, hT⟩ := hM
  have HT := hid_intro hT
  have HB5 := hid_intro b5
  have HBY : Hid (meBy m = joinB (meH m ++ m.ts.flatMap tiP)) := rfl
  have HH : Hid (meH m = [numB m.n.size ++ m.n, numB m.g, numB (fl m.wh), numB m.f, numB m.l, numB m.ts.length]) := rfl
  obtain ⟨n, g, wh, f, l, ts⟩ := m
  simp only at *
  clear hT hR b5 b0 b2 b3 b4 HFB
  generalize meH ⟨n, g, wh, f, l, ts⟩ = MH at *
  generalize meBy ⟨n, g, wh, f, l, ts⟩ = R at *
  generalize numB (n.size : Int) ++ n = T1 at *
  generalize numB g = T2 at *
  generalize numB (fl wh) = T3 at *
  generalize fl wh = F3 at *
  generalize numB f = T4 at *
  generalize numB l = T5 at *
  generalize numB (ts.length : Int) = T6 at *
  have hz := HT.out.1
  generalize htl : ts.length = tl at *
  have HTL := hid_intro htl
  clear hz htl
  go_enter Tryd.func36, Tryd.ntmps36
  go_wp2_with fail
  have HS0 : Hid (BM w w.heap.size (.string n) (.int .i64 g) (.bool wh) (.int .i64 f) (.int .i64 l) (.slice ta tl tc) (w.alloc (.cells #[.string n, .int .i64 g, .bool wh, .int .i64 f, .int .i64 l, .slice ta tl tc] 40))) := hid_intro ⟨(Below.refl _ _).alloc (Nat.le_refl _) _, by simp, by simp [go_sem], by simp [go_sem], by simp [go_sem], by simp [go_sem], by simp [go_sem], by simp [go_sem]⟩
  have HS1 := hid_intro HS0.out.drew
  go_region_held3 (fun W => Below w.heap.size w W ∧ w.heap.size < W.heap.size ∧ W.cell? ⟨w.heap.size, 0, none⟩ = some (.string n) ∧ W.cell? ⟨w.heap.size, 1, none⟩ = some (.int .i64 g) ∧ W.cell? ⟨w.heap.size, 2, none⟩ = some (.bool wh) ∧ W.cell? ⟨w.heap.size, 3, none⟩ = some (.int .i64 f) ∧ W.cell? ⟨w.heap.size, 4, none⟩ = some (.int .i64 l) ∧ W.cell? ⟨w.heap.size, 5, none⟩ = some (.slice ta tl tc)) (first | assumption | (exact HS0.out) | (exact HS1.out) | (exact BM.below (w := w) (B := w.heap.size) (by assumption) hb) | (exact BM.below (w := w) (B := w.heap.size) (by assumption) ((Below.refl _ _).alloc (Nat.le_refl _) _)))
    (first | (go_at_call 37; refine (P1.out _).mono ?_; rintro e w' ⟨rfl, hb⟩) | (go_at_call 63; refine (PF.out _).mono ?_; rintro e w' ⟨rfl, rfl⟩) | (go_at_call_of 35 (Value.int .i64 g); refine (P2.out _).mono ?_; rintro e w' ⟨rfl, hb⟩) | (go_at_call_of 35 (Value.int .i64 F3); refine (P3.out _).mono ?_; rintro e w' ⟨rfl, hb⟩) | (go_at_call_of 35 (Value.int .i64 f); refine (P4.out _).mono ?_; rintro e w' ⟨rfl, hb⟩) | (go_at_call_of 35 (Value.int .i64 l); refine (P5.out _).mono ?_; rintro e w' ⟨rfl, hb⟩) | (go_at_call_of 35 (Value.int .i64 (tl : Int)); refine (P6.out _).mono ?_; rintro e w' ⟨rfl, hb⟩))
  rename_i hS
  have HB0 := hid_intro hS.1
  have HA0 : Hid (w.heap.size < (w'.alloc (Obj.cells #[Value.string T1, Value.string T2, Value.string T3, Value.string T4, Value.string T5, Value.string T6] 9)).heap.size ∧ (w'.alloc (Obj.cells #[Value.string T1, Value.string T2, Value.string T3, Value.string T4, Value.string T5, Value.string T6] 9)).cell? ⟨w.heap.size, 5, none⟩ = some (.slice ta tl tc)) := hid_intro ⟨hS.2.1, hS.2.2.2.2.2.2.2⟩
  have HWS : Hid (w.heap.size ≤ w'.heap.size) := hid_intro (by have := hS.2.1; simp at this; omega)
  have HO0 : Hid ((w'.alloc (Obj.cells #[Value.string T1, Value.string T2, Value.string T3, Value.string T4, Value.string T5, Value.string T6] 9)).ownsRow w.heap.size 9 1 (.slice (some ⟨w'.heap.size, 0, none⟩) 6 6) (6 + 2 * 0) ((MH ++ (ts.take 0).flatMap tiP).map Value.string)) := hid_intro (by
    rw [HH.out]
    exact ⟨by simp, .inr ⟨w'.heap.size, 6, #[.string T1, .string T2, .string T3, .string T4, .string T5, .string T6], rfl, HWS.out, heap_alloc_new w' _, by omega, by unfold maxLen; omega, by simp, by simp⟩⟩)
  generalize (w'.alloc (Obj.cells #[Value.string T1, Value.string T2, Value.string T3, Value.string T4, Value.string T5, Value.string T6] 9)) = W1 at *
  obtain ⟨k1, k2⟩ := HA0.out
  clear hS HS0 HS1
  go_wp2_with fail
  go_loopw [3, 30] (fun v z wr => ∃ (j : Nat), j ≤ tl ∧ z = .int .i64 j ∧ Hid (wr.ownsRow w.heap.size 9 1 v (6 + 2 * j) ((MH ++ (ts.take j).flatMap tiP).map Value.string)) ∧ Hid (v ≠ .slice none 0 0) ∧ Hid (Below w.heap.size w wr)) (fun v z _ => tl - (intOf z).toNat)
  case atStart => exact ⟨0, by omega, rfl, HO0, hid_intro (by simp), HB0⟩
  case round =>
    clear k1 k2 HA0 HB0 HO0 HWS
    obtain ⟨j, hj, rfl, HO, HV, HB⟩ := hrel
    by_cases hlt : j < tl
    · have hlt2 : (j : Int) < (tl : Int) := by omega
      obtain ⟨b, off, rfl, hbl, d0, d1⟩ := tis_at (HT.out.below HB.out) j hlt
      have c0 : wr.cell? ⟨b, off + j * 2, none⟩ = some (.int .i64 (tU ts j)) := d0
      have c1 : wr.cell? ⟨b, off + j * 2 + 1, none⟩ = some (.int .i64 (tP ts j)) := d1
      clear d0 d1
      obtain ⟨⟨u1, u2⟩, u3, u4⟩ := HB5.out j (by have := HTL.out; omega)
      have Q1 := hid_intro (fun w => NumR.impl_put (tU ts j) w (by omega))
      have Q2 := hid_intro (fun w => NumR.impl_put (tP ts j) w (by omega))
      have HC1 : Hid ((ts.take (j + 1)).flatMap tiP = (ts.take j).flatMap tiP ++ [numB (tU ts j), numB (tP ts j)]) := hid_intro (take_flat ts tiP Ti.zero j (by have := HTL.out; omega))
      generalize numB (tU ts j) = X1 at *
      generalize numB (tP ts j) = X2 at *
      generalize tU ts j = U at *
      generalize tP ts j = P at *
      clear u1 u2 u3 u4
      have HAl : Hid (BM2 w wr.heap.size (.int .i64 U) (.int .i64 P) (wr.alloc (.cells #[.int .i64 U, .int .i64 P] 88))) := hid_intro ⟨HB.out.alloc HB.out.size _, by simp, by simp [go_sem], by simp [go_sem]⟩
      have HAd := hid_intro HAl.out.drew
      have HOA := hid_intro (own_drew (HO.out.alloc (.cells #[.int .i64 U, .int .i64 P] 88)))
      have sz1 : 6 + 2 * j + 2 ≤ maxLen := by unfold maxLen; omega
      have sz2 : (6 + 2 * j + 2) * 16 ≤ 140737488355328 := by omega
      have sz3 : 0 < 1 := by omega
      go_wp2_with fail
      go_region_held3 (fun W => Below w.heap.size w W ∧ wr.heap.size < W.heap.size ∧ W.cell? ⟨wr.heap.size, 0, none⟩ = some (.int .i64 U) ∧ W.cell? ⟨wr.heap.size, 1, none⟩ = some (.int .i64 P))
        (first | assumption | (exact HAl.out) | (exact HAd.out) | (exact BM2.below (w := w) (B := wr.heap.size) (by assumption) hb1) | (exact BM2.below (w := w) (B := wr.heap.size) (by assumption) hb2) | (exact BM2.below (w := w) (B := wr.heap.size) (by assumption) ((Below.refl _ _).alloc (Nat.le_refl _) _)) | (exact BM2.grown (w := w) (B := wr.heap.size) (by assumption) hgrow HO.out rfl (Nat.le_refl _)))
        (first | (go_at_call_of 35 (Value.int .i64 U); refine (Q1.out _).mono ?_; rintro e w1 ⟨rfl, hb1⟩; have HO1 := hid_intro (own_below HOA.out hb1)) | (go_at_call_of 35 (Value.int .i64 P); refine (Q2.out _).mono ?_; rintro e w2 ⟨rfl, hb2⟩; have HO2 := hid_intro (own_below HO1.out hb2)) | (refine step_append_own rfl _ _ 59 rfl w.heap.size 9 i0 (.string ⟨#[]⟩) 1 16 Tryd.underlying59 hi hz0 hz1 hz2 rfl sz3 _ _ _ rfl (HO2.out.alloc _) ⟨w2.heap.size, 0, none⟩ 2 2 [.string X1, .string X2] rfl rfl (two_cells _ _ _ _) (two_one _ _) sz1 sz2 (own_base (HO2.out.alloc _) HV.out) ?_; intro v' w4 hown hgrow hne))
      rename_i hS
      have HS4 := hid_intro hS.1
      have HO4 : Hid (w4.ownsRow w.heap.size 9 1 v' (6 + 2 * (j + 1)) ((MH ++ (ts.take (j + 1)).flatMap tiP).map Value.string)) := hid_intro (by
        rw [HC1.out, ← List.append_assoc, List.map_append, show 6 + 2 * (j + 1) = 6 + 2 * j + 2 by omega]
        exact hown)
      have HV4 : Hid (v' ≠ .slice none 0 0) := hid_intro (by
        intro h
        exact HV.out (hne.1 h).1)
      clear hown hgrow hne hS
      go_wp2_with fail
      go_roundw
      case rel => exact ⟨j + 1, by omega, by go_num, HO4, HV4, HS4⟩
      case measure => simp [intOf]; omega
    · obtain rfl : j = tl := by omega
      have HTK : Hid (ts.take j = ts) := hid_intro (List.take_of_length_le (by have := HTL.out; omega))
      have HSZ2 := hid_intro (HSZ.out j)
      rw [HTK.out] at HO HSZ2
      obtain ⟨q, cap', rfl, hg, hn, hcap, hcell⟩ := own_texts HO.out HV.out
      have hj2 := JoinR.join_len (MH ++ ts.flatMap tiP) q cap' _ (by omega) (by omega) hg hcell (by rw [jl_size]; have := HSZ2.out; omega)
      rw [hn] at hj2
      have HJ2 := hid_intro hj2
      clear hj2 hcell
      go_wp2_with fail
      refine HJ2.out.mono ?_
      rintro e w2 ⟨rfl, hb⟩
      have HB2 := hid_intro (HB.out.trans (hb.mono HB.out.size))
      clear hb
      go_wp2_with fail
      go_ret
      exact ⟨ret_str HBY.out.symm, HB2.out⟩
end CatR
end Go.Proofs.YtnpnegcmohgnfaaDoor
