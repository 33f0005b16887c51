/-
  FnSeen: for all bytes the law's call returns true (what was taken once is taken no more, one of its id that is of another minute is a clash, what is dropped lies ahead, either side alike), and the bytes read as they did. No condition.
-/
import Derived.Test.YtbhabplchcigfaaDrawSn2
import Derived.Test.YtbhabplchcigfaaLwEns
import Derived.Test.YtbhabplchcigfaaEnH
import Derived.Deep.RegionHeld3
namespace Go.Proofs.Ytbhabplchcigfaa
open Go.ChangeShapes Go.WideShapes Go.ChangeAt Go.RowKit
set_option linter.unusedVariables false
namespace FnSeenL
open RowG SeenR DrawR LtR
open EvtR (ev evB)
/-- What the law's last region reads. -/
def St (w5 : World) (be bx : Nat) (i a m : ByteArray) (n k : Int) (t : ByteArray) (sx : Value) (C : Int) (W : World) : Prop := Below w5.heap.size w5 W ∧ be < W.heap.size ∧ bx < W.heap.size ∧ W.cell? ⟨be, 0, none⟩ = some (.string i) ∧ W.cell? ⟨be, 1, none⟩ = some (.string a) ∧ W.cell? ⟨be, 2, none⟩ = some (.string m) ∧ W.cell? ⟨be, 3, none⟩ = some (.int .i64 n) ∧ W.cell? ⟨be, 4, none⟩ = some (.int .i64 k) ∧ W.cell? ⟨be, 5, none⟩ = some (.string t) ∧ W.cell? ⟨bx, 0, none⟩ = some sx ∧ W.cell? ⟨bx, 1, none⟩ = some (.int .i64 C)
theorem St.below {w5 : World} {be bx : Nat} {i a m : ByteArray} {n k : Int} {t : ByteArray} {sx : Value} {C : Int} {W W' : World} (h : St w5 be bx i a m n k t sx C W) (hb : Below W.heap.size W W') : St w5 be bx i a m n k t sx C W' := by
  obtain ⟨h0, h1, h2, c0, c1, c2, c3, c4, c5, d0, d1⟩ := h
  have c := fun o => hb.cell (p := ⟨be, o, none⟩) h1
  have d := fun o => hb.cell (p := ⟨bx, o, none⟩) h2
  exact ⟨h0.trans (hb.mono h0.size), by have := hb.size; omega, by have := hb.size; omega, (c 0).trans c0, (c 1).trans c1, (c 2).trans c2, (c 3).trans c3, (c 4).trans c4, (c 5).trans c5, (d 0).trans d0, (d 1).trans d1⟩
theorem St.b {w5 : World} {be bx : Nat} {i a m : ByteArray} {n k : Int} {t : ByteArray} {sx : Value} {C : Int} {W : World} (h : St w5 be bx i a m n k t sx C W) : Below w5.heap.size w5 W := h.1
/-- The same, with the entry that the round reads. -/
def Sx (w5 : World) (be bx : Nat) (i a m : ByteArray) (n k : Int) (t : ByteArray) (sx : Value) (C : Int) (bq o : Nat) (xi : ByteArray) (xn : Int) (W : World) : Prop := St w5 be bx i a m n k t sx C W ∧ bq < W.heap.size ∧ W.cell? ⟨bq, o, none⟩ = some (.string xi) ∧ W.cell? ⟨bq, o + 1, none⟩ = some (.int .i64 xn)
theorem Sx.below {w5 : World} {be bx : Nat} {i a m : ByteArray} {n k : Int} {t : ByteArray} {sx : Value} {C : Int} {bq o : Nat} {xi : ByteArray} {xn : Int} {W W' : World} (h : Sx w5 be bx i a m n k t sx C bq o xi xn W) (hb : Below W.heap.size W W') : Sx w5 be bx i a m n k t sx C bq o xi xn W' :=
  ⟨h.1.below hb, Nat.lt_of_lt_of_le h.2.1 hb.size, (hb.cell (p := ⟨bq, o, none⟩) h.2.1).trans h.2.2.1, (hb.cell (p := ⟨bq, o + 1, none⟩) h.2.1).trans h.2.2.2⟩
theorem Sx.b {w5 : World} {be bx : Nat} {i a m : ByteArray} {n k : Int} {t : ByteArray} {sx : Value} {C : Int} {bq o : Nat} {xi : ByteArray} {xn : Int} {W : World} (h : Sx w5 be bx i a m n k t sx C bq o xi xn W) : Below w5.heap.size w5 W := h.1.1
theorem hb2 (b : Bool) : Hid (b = false) ∨ Hid (b = true) := by
  cases b
  · exact .inl rfl
  · exact .inr rfl
theorem fld0 (v u : Value) (W : World) : (Instr.field 29 (.agg #[v, u]) 0).run Try.prog W = .ok v W := by kernel_rfl
theorem fld1 (v u : Value) (W : World) : (Instr.field 29 (.agg #[v, u]) 1).run Try.prog W = .ok u W := by kernel_rfl
set_option maxRecDepth 100000 in
set_option maxHeartbeats 16000000 in
theorem law_in (ac am : Option Addr) (lc lm cc cm : Nat) (w : World) (hlc : lc ≤ 1048576) (hlm : lm ≤ 1048576) (hc : Bytes ac lc w) (hm : Bytes am lm w) :
    Calls Try.prog 3 #[.slice ac lc cc, .slice am lm cm] w fun e w' => e = .returned (.bool true) ∧ Below w.heap.size w w' := by
  have qc : ¬ (1048576 : Int) < (lc : Int) := by omega
  have qm : ¬ (1048576 : Int) < (lm : Int) := by omega
  go_enter Try.func3, Try.ntmps3
  go_wp2_with fail
  refine (dtake_any ac lc cc w hlc hc).mono ?_
  rintro e w1 ⟨⟨es, v, i, a, m, n, k, t, rfl, hi, ha, hm', ht, hl, hs, b, c, rfl, hc1, hc2, hI⟩, hb1⟩
  have HI1 := hid_intro hI
  have HB1 := hid_intro hb1
  have HM1 := hid_intro (hm.below hb1)
  clear hI hb1 hc hm
  unfold ev
  go_wp2_with fail
  obtain ⟨W1, hW1⟩ : ∃ W1, W1 = w1.alloc (.cells #[.string i, .string a, .string m, .int .i64 n, .int .i64 k, .string t] 25) := ⟨_, rfl⟩
  have HBa : Hid (Below w1.heap.size w1 W1) := hid_intro (by rw [hW1]; exact (Below.refl _ _).alloc (Nat.le_refl _) _)
  have HX0 : Hid (w1.heap.size < W1.heap.size ∧ W1.cell? ⟨w1.heap.size, 0, none⟩ = some (.string i) ∧ W1.cell? ⟨w1.heap.size, 1, none⟩ = some (.string a) ∧ W1.cell? ⟨w1.heap.size, 2, none⟩ = some (.string m) ∧ W1.cell? ⟨w1.heap.size, 3, none⟩ = some (.int .i64 n) ∧ W1.cell? ⟨w1.heap.size, 4, none⟩ = some (.int .i64 k) ∧ W1.cell? ⟨w1.heap.size, 5, none⟩ = some (.string t)) := hid_intro (by rw [hW1]; simp [go_sem])
  rw [← hW1]
  clear hW1
  refine (impl_take (some ⟨b, 0, none⟩) c es i a m n k t _ (by omega) (fun e he => by have := hs e he; omega) (by omega) (by omega) (by omega) (by omega) (HI1.out.below HBa.out)).mono ?_
  rintro e w2 ⟨ax, cx, rfl, hx, hb2⟩
  have HB2 := hid_intro (HBa.out.trans (hb2.mono HBa.out.size))
  have HBb := hid_intro hb2
  have HXs := hid_intro hx.rws
  clear hx hb2
  go_wp2_with fail
  obtain ⟨W2, hW2⟩ : ∃ W2, W2 = w2.alloc (.cells #[.slice ax (tkL es i a m n k t).length cx, .int .i64 (tkC es i a m n k t)] 29) := ⟨_, rfl⟩
  have HBc : Hid (Below w2.heap.size w2 W2) := hid_intro (by rw [hW2]; exact (Below.refl _ _).alloc (Nat.le_refl _) _)
  have HX1 : Hid (w2.heap.size < W2.heap.size ∧ W2.cell? ⟨w2.heap.size, 0, none⟩ = some (.slice ax (tkL es i a m n k t).length cx) ∧ W2.cell? ⟨w2.heap.size, 1, none⟩ = some (.int .i64 (tkC es i a m n k t))) := hid_intro (by rw [hW2]; simp [go_sem])
  rw [← hW2]
  clear hW2
  refine (ddrop_any am lm cm _ hlm ((HM1.out.below HB2.out).below HBc.out)).mono ?_
  rintro e w3 ⟨⟨es2, v2, bf, rfl, hl2, hs2, b2, c2, rfl, hd1, hd2, hI2⟩, hb3⟩
  have HI2 := hid_intro hI2
  have HB3 := hid_intro hb3
  clear hI2 hb3
  go_wp2_with fail
  refine (impl_drop (some ⟨b2, 0, none⟩) c2 es2 bf _ (by omega) (fun e he => by have := hs2 e he; omega) HI2.out).mono ?_
  rintro e w4 ⟨ad, cd, rfl, hmd, hb4⟩
  have HB4 := hid_intro hb4
  have HD := hid_intro hmd.rws
  clear hmd hb4
  go_wp2_with fail
  refine (dhas_any am lm cm _ hlm ((((HM1.out.below HB2.out).below HBc.out).below HB3.out).below HB4.out)).mono ?_
  rintro e w5 ⟨⟨es3, v3, id, rfl, hid3, hl3, hs3, b3, c3, rfl, hh1, hh2, hI3⟩, hb5⟩
  -- all that lies in the world of the last region
  have B45 := HB4.out.trans (hb5.mono HB4.out.size)
  have B35 := HB3.out.trans (B45.mono HB3.out.size)
  have B25 := HBc.out.trans (B35.mono HBc.out.size)
  have B15 := HBb.out.trans (B25.mono HBb.out.size)
  have B05 := HBa.out.trans (B15.mono HBa.out.size)
  have BW := HB1.out.trans (B05.mono HB1.out.size)
  have HBW := hid_intro BW
  have E1 : Ens (some ⟨b, 0, none⟩) es w5 := HI1.out.below B05
  have E2 : Ens ax (tkL es i a m n k t) w5 := HXs.out.below B25
  have E3 : Ens (some ⟨b2, 0, none⟩) es2 w5 := HI2.out.below B45
  have E4 : Ens ad (dropL es2 bf) w5 := HD.out.below hb5
  have HS5 : Hid (St w5 w1.heap.size w2.heap.size i a m n k t (.slice ax (tkL es i a m n k t).length cx) (tkC es i a m n k t) w5) := hid_intro (by
    obtain ⟨l0, x0, x1, x2, x3, x4, x5⟩ := HX0.out
    obtain ⟨l1, z0, z1⟩ := HX1.out
    have c := fun o => B15.cell (p := ⟨w1.heap.size, o, none⟩) l0
    have d := fun o => B35.cell (p := ⟨w2.heap.size, o, none⟩) l1
    exact ⟨Below.refl _ _, Nat.lt_of_lt_of_le l0 B15.size, Nat.lt_of_lt_of_le l1 B35.size, (c 0).trans x0, (c 1).trans x1, (c 2).trans x2, (c 3).trans x3, (c 4).trans x4, (c 5).trans x5, (d 0).trans z0, (d 1).trans z1⟩)
  have HS0 := hid_intro (HS5.out.below (Below.refl _ _).drew)
  have hL40 : (tkL es i a m n k t).length ≤ 40 := tkL_len
  have hD60 : (dropL es2 bf).length ≤ 60 := by
    unfold dropL
    cases sB es2
    · simp
    · have := List.length_filter_le (fun e : N => decide (bf ≤ e.n)) es2; simp only [cond_true]; omega
  have HST : Hid (∀ W, Below w5.heap.size w5 W → Calls Try.prog 9 #[.slice (some ⟨b, 0, none⟩) es.length c, .agg #[.string i, .string a, .string m, .int .i64 n, .int .i64 k, .string t]] W fun e w' => ResO W (tkL es i a m n k t) (tkC es i a m n k t) e w') := hid_intro (fun W hW => spec_take b 0 c es i a m n k t W (by omega) (fun e he => by have := hs e he; omega) (by omega) (by omega) (by omega) (by omega) hc1 hc2 (E1.below hW))
  have HLW : Hid (∀ a5 c5 W, Below w5.heap.size w5 W → Ens a5 (tkL es i a m n k t) W → Calls Try.prog 10 #[.slice ax (tkL es i a m n k t).length cx, .slice a5 (tkL es i a m n k t).length c5] W fun e w' => e = .returned (.bool true) ∧ Below W.heap.size W w') := hid_intro (fun a5 c5 W hW hE => lwEns_any ax a5 cx c5 _ W (by omega) (E2.below hW) hE)
  have HSD : Hid (∀ W, Below w5.heap.size w5 W → Calls Try.prog 11 #[.slice (some ⟨b2, 0, none⟩) es2.length c2, .int .i64 bf] W fun e w' => Res W (dropL es2 bf) e w') := hid_intro (fun W hW => spec_drop (some ⟨b2, 0, none⟩) c2 es2 bf W (by omega) (fun e he => by have := hs2 e he; omega) (E3.below hW))
  have HLD : Hid (∀ a5 c5 W, Below w5.heap.size w5 W → Ens a5 (dropL es2 bf) W → Calls Try.prog 10 #[.slice ad (dropL es2 bf).length cd, .slice a5 (dropL es2 bf).length c5] W fun e w' => e = .returned (.bool true) ∧ Below W.heap.size W w') := hid_intro (fun a5 c5 W hW hE => lwEns_any ad a5 cd c5 _ W (by omega) (E4.below hW) hE)
  have HIH : Hid (∀ W, Below w5.heap.size w5 W → Calls Try.prog 12 #[.slice (some ⟨b3, 0, none⟩) es3.length c3, .string id] W fun e w' => e = .returned (.bool (sB es3 && hasB es3 id)) ∧ Below W.heap.size W w') := hid_intro (fun W hW => impl_has (some ⟨b3, 0, none⟩) c3 es3 id W (by omega) (fun e he => by have := hs3 e he; omega) (hI3.below hW))
  have HSH : Hid (∀ W, Below w5.heap.size w5 W → Calls Try.prog 13 #[.slice (some ⟨b3, 0, none⟩) es3.length c3, .string id] W fun e w' => e = .returned (.bool (sB es3 && hasB es3 id)) ∧ Below W.heap.size W w') := hid_intro (fun W hW => spec_has (some ⟨b3, 0, none⟩) c3 es3 id W (by omega) (fun e he => by have := hs3 e he; omega) (by omega) (hI3.below hW))
  have HIR : Hid (∀ W, Below w5.heap.size w5 W → Calls Try.prog 14 #[.slice (some ⟨b2, 0, none⟩) es2.length c2] W fun e w' => e = .returned (.bool (sB es2)) ∧ Below W.heap.size W w') := hid_intro (fun W hW => impl_seen (some ⟨b2, 0, none⟩) c2 es2 W (by omega) (fun e he => by have := hs2 e he; omega) (E3.below hW))
  have HSR : Hid (∀ W, Below w5.heap.size w5 W → Calls Try.prog 15 #[.slice (some ⟨b2, 0, none⟩) es2.length c2] W fun e w' => e = .returned (.bool (sB es2)) ∧ Below W.heap.size W w') := hid_intro (fun W hW => spec_seen (some ⟨b2, 0, none⟩) c2 es2 W (by omega) (fun e he => by have := hs2 e he; omega) (E3.below hW))
  have HE2 := hid_intro E2
  have HE3 := hid_intro E3
  have HE4 := hid_intro E4
  have HTL : Hid (tkC es i a m n k t = 0 → _) := hid_intro (fun h => take_law (es := es) (i := i) (a := a) (m := m) (n := n) (k := k) (t := t) h)
  have HDL : Hid (sB es2 = true → _) := hid_intro (fun h => drop_law (es := es2) (b := bf) h)
  clear B45 B35 B25 B15 B05 BW E1 E2 E3 E4 hb5 HX0 HX1 HBa HBb HBc HB2 HB3 HB4 HI1 HI2 HM1 HXs HD HB1 hI3
  generalize (sB es3 && hasB es3 id) = r3 at *
  generalize hLL : tkL es i a m n k t = L at *
  generalize hCC : tkC es i a m n k t = C at *
  generalize hDD : dropL es2 bf = D at *
  obtain ⟨_, p1, p2, p3, p4, p5, p6, p7, p8, p9, p10⟩ := HS5.out
  have f0 := fld0
  have f1 := fld1
  have hL41 : L.length ≤ 1048576 := by omega
  have hD61 : D.length ≤ 1048576 := by omega
  have HTT : Hid (C = 0 → (0 ≤ n ∧ n ≤ 121000000) ∧ (∀ W, Below w5.heap.size w5 W → Calls Try.prog 15 #[.slice ax L.length cx] W fun e w' => e = .returned (.bool true) ∧ Below W.heap.size W w') ∧ (∀ W, Below w5.heap.size w5 W → Calls Try.prog 5 #[.slice ax L.length cx, .agg #[.string i, .string a, .string m, .int .i64 n, .int .i64 k, .string t]] W fun e w' => ∃ v, e = .returned (.agg #[v, .int .i64 7]) ∧ Below W.heap.size W w') ∧ (n / 2 ≠ n → ∀ W, Below w5.heap.size w5 W → Calls Try.prog 5 #[.slice ax L.length cx, .agg #[.string i, .string a, .string m, .int .i64 (n / 2), .int .i64 k, .string t]] W fun e w' => ∃ v, e = .returned (.agg #[v, .int .i64 11]) ∧ Below W.heap.size W w') ∧ (∀ W, Below w5.heap.size w5 W → Calls Try.prog 12 #[.slice ax L.length cx, .string i] W fun e w' => e = .returned (.bool true) ∧ Below W.heap.size W w')) := hid_intro (fun hC0 => by
    obtain ⟨hev, hsl, hhl, h7, h11⟩ := HTL.out hC0
    have hn0 : 0 ≤ n ∧ n ≤ 121000000 := by
      unfold evB at hev
      simp only [Bool.and_eq_true, decide_eq_true_eq] at hev
      exact hev.2.2.2.1
    have hLs : ∀ e ∈ L, e.i.size ≤ 1048576 := fun e he => by
      have q := (right_iff.1 (sB_iff.1 hsl)).2.1 e he
      unfold eOk EvtR.idB at q
      simp only [Bool.and_eq_true, decide_eq_true_eq] at q
      have := q.1.1
      omega
    refine ⟨hn0, fun W hW => ?_, fun W hW => ?_, fun hne W hW => ?_, fun W hW => ?_⟩
    · have := spec_seen ax cx L W hL41 hLs (HE2.out.below hW)
      rwa [hsl] at this
    · refine (impl_take ax cx L i a m n k t W hL41 hLs (by omega) (by omega) (by omega) (by omega) (HE2.out.below hW)).mono ?_
      rintro e w' ⟨a7, c7, rfl, _, hb⟩
      exact ⟨_, by rw [h7], hb⟩
    · refine (impl_take ax cx L i a m (n / 2) k t W hL41 hLs (by omega) (by omega) (by omega) (by omega) (HE2.out.below hW)).mono ?_
      rintro e w' ⟨a7, c7, rfl, _, hb⟩
      exact ⟨_, by rw [h11 _ hne (by omega) (by omega)], hb⟩
    · have := impl_has ax cx L i W hL41 hLs (HE2.out.below hW)
      rwa [hsl, hhl] at this)
  go_wp2_with fail
  go_region_held3 (fun W => Below w5.heap.size w5 W ∧ w1.heap.size < W.heap.size ∧ w2.heap.size < W.heap.size ∧ W.cell? ⟨w1.heap.size, 0, none⟩ = some (.string i) ∧ W.cell? ⟨w1.heap.size, 1, none⟩ = some (.string a) ∧ W.cell? ⟨w1.heap.size, 2, none⟩ = some (.string m) ∧ W.cell? ⟨w1.heap.size, 3, none⟩ = some (.int .i64 n) ∧ W.cell? ⟨w1.heap.size, 4, none⟩ = some (.int .i64 k) ∧ W.cell? ⟨w1.heap.size, 5, none⟩ = some (.string t) ∧ W.cell? ⟨w2.heap.size, 0, none⟩ = some (.slice ax L.length cx) ∧ W.cell? ⟨w2.heap.size, 1, none⟩ = some (.int .i64 C)) (first | assumption | (exact HS0.out) | (exact St.below (by assumption) hb))
    (first | (go_at_call 9; refine (HST.out _ (St.b (by assumption))).mono ?_; rintro e w' ⟨a5, c5, rfl, hx5, hb, _⟩) | (go_at_call 10; refine (lwEns_any _ _ _ _ _ _ (by first | exact hL41 | exact hD61) (by first | exact HE2.out.below (St.b (by assumption)) | exact HE4.out.below (St.b (by assumption))) (MadeG.rws (by assumption))).mono ?_; rintro e w' ⟨rfl, hb⟩) | (go_at_call 11; refine (HSD.out _ (St.b (by assumption))).mono ?_; rintro e w' ⟨a6, c6, rfl, hx6, hb⟩) | (go_at_call 12; refine (HIH.out _ (St.b (by assumption))).mono ?_; rintro e w' ⟨rfl, hb⟩) | (go_at_call 13; refine (HSH.out _ (St.b (by assumption))).mono ?_; rintro e w' ⟨rfl, hb⟩) | (go_at_call 14; refine (HIR.out _ (St.b (by assumption))).mono ?_; rintro e w' ⟨rfl, hb⟩) | (go_at_call 15; refine (HSR.out _ (St.b (by assumption))).mono ?_; rintro e w' ⟨rfl, hb⟩))
  rename_i hS
  have HS6 : Hid (St w5 w1.heap.size w2.heap.size i a m n k t (.slice ax L.length cx) C w') := hid_intro hS
  clear hS p1 p2 p3 p4 p5 p6 p7 p8 p9 p10 hb
  go_wp2_with fail
  go_loopw [13] (fun z wr => ∃ j : Nat, j ≤ es2.length ∧ z = .int .i64 j ∧ Hid (St w5 w1.heap.size w2.heap.size i a m n k t (.slice ax L.length cx) C wr)) (fun z _ => es2.length - (intOf z).toNat)
  case atStart => exact ⟨0, by omega, rfl, HS6⟩
  case round =>
    obtain ⟨j, hj, rfl, HSj⟩ := hrel
    by_cases hlt : j < es2.length
    · have hlt2 : (j : Int) < (es2.length : Int) := by omega
      rcases hb2 (sB es2) with HSB | HSB
      · have HSF := hid_intro (by have h := HSR.out; rw [HSB.out] at h; exact h)
        go_wp2_with fail
        refine (HSF.out _ HSj.out.1).mono ?_
        rintro e w7 ⟨rfl, hb7⟩
        have HS7 := hid_intro (HSj.out.below hb7)
        clear hb7 HSj
        obtain ⟨_, p1, p2, p3, p4, p5, p6, p7, p8, p9, p10⟩ := HS7.out
        by_cases hC0 : C = 0
        · subst hC0
          obtain ⟨hn0, hTa, hTb, hTc, hTd⟩ := HTT.out rfl
          have HTa := hid_intro hTa
          have HTb := hid_intro hTb
          have HTc := hid_intro hTc
          have HTd := hid_intro hTd
          clear hTa hTb hTc hTd
          have hdv : n.tdiv 2 = n / 2 := by rw [Int.tdiv_eq_ediv_of_nonneg (by omega)]
          have HBn : ∀ z : Int, Hid (Below w7.heap.size w7 (w7.alloc (.cells #[.string i, .string a, .string m, .int .i64 z, .int .i64 k, .string t] 25))) := fun z => hid_intro ((Below.refl _ _).alloc (Nat.le_refl _) _)
          by_cases hne : n / 2 = n
          · have hnz : n = 0 := by omega
            subst hnz
            go_wp2_with fail
            refine (HTa.out _ (HS7.out.below (HBn _).out).1).mono ?_
            rintro e wa ⟨rfl, hba⟩
            have HSa := hid_intro ((HS7.out.below (HBn _).out).below hba)
            clear hba p1 p2 p3 p4 p5 p6 p7 p8 p9 p10
            obtain ⟨_, p1, p2, p3, p4, p5, p6, p7, p8, p9, p10⟩ := HSa.out
            go_wp2_with fail
            refine (HTb.out _ HSa.out.1).mono ?_
            rintro e wb ⟨vb, rfl, hbb⟩
            have HSb := hid_intro (HSa.out.below hbb)
            clear hbb p1 p2 p3 p4 p5 p6 p7 p8 p9 p10
            obtain ⟨_, p1, p2, p3, p4, p5, p6, p7, p8, p9, p10⟩ := HSb.out
            go_wp2_with fail
            refine (HTd.out _ HSb.out.1).mono ?_
            rintro e wd ⟨rfl, hbd⟩
            have HSd := hid_intro (HSb.out.below hbd)
            clear hbd p1 p2 p3 p4 p5 p6 p7 p8 p9 p10
            go_wp2_with fail
            go_ret
            exact ⟨rfl, HBW.out.trans (HSd.out.1.mono HBW.out.size)⟩
          · have HTe := hid_intro (HTc.out hne)
            have hneb : (n / 2 == n) = false := by simpa using hne
            go_wp2_with fail
            refine (HTe.out _ (HS7.out.below (HBn _).out).1).mono ?_
            rintro e wo ⟨vo, rfl, hbo⟩
            have HSo := hid_intro ((HS7.out.below (HBn _).out).below hbo)
            clear hbo p1 p2 p3 p4 p5 p6 p7 p8 p9 p10
            obtain ⟨_, p1, p2, p3, p4, p5, p6, p7, p8, p9, p10⟩ := HSo.out
            go_wp2_with fail
            refine (HTa.out _ HSo.out.1).mono ?_
            rintro e wa ⟨rfl, hba⟩
            have HSa := hid_intro (HSo.out.below hba)
            clear hba p1 p2 p3 p4 p5 p6 p7 p8 p9 p10
            obtain ⟨_, p1, p2, p3, p4, p5, p6, p7, p8, p9, p10⟩ := HSa.out
            go_wp2_with fail
            refine (HTb.out _ HSa.out.1).mono ?_
            rintro e wb ⟨vb, rfl, hbb⟩
            have HSb := hid_intro (HSa.out.below hbb)
            clear hbb p1 p2 p3 p4 p5 p6 p7 p8 p9 p10
            obtain ⟨_, p1, p2, p3, p4, p5, p6, p7, p8, p9, p10⟩ := HSb.out
            go_wp2_with fail
            refine (HTd.out _ HSb.out.1).mono ?_
            rintro e wd ⟨rfl, hbd⟩
            have HSd := hid_intro (HSb.out.below hbd)
            clear hbd p1 p2 p3 p4 p5 p6 p7 p8 p9 p10
            go_wp2_with fail
            go_ret
            exact ⟨rfl, HBW.out.trans (HSd.out.1.mono HBW.out.size)⟩
        · go_wp2_with fail
          go_ret
          exact ⟨rfl, HBW.out.trans (HS7.out.1.mono HBW.out.size)⟩
      · have HSF := hid_intro (by have h := HSR.out; rw [HSB.out] at h; exact h)
        go_wp2_with fail
        refine (HSF.out _ HSj.out.1).mono ?_
        rintro e w7 ⟨rfl, hb7⟩
        have HS7 := hid_intro (HSj.out.below hb7)
        clear hb7
        have HDD := hid_intro ((HDL.out HSB.out).2 j hlt)
        have HDS := hid_intro (HDL.out HSB.out).1
        have HHD : Hid (∀ W, Below w5.heap.size w5 W → Calls Try.prog 12 #[.slice ad D.length cd, .string (es2.getD j N.zero).i] W fun e w' => e = .returned (.bool (decide (bf ≤ (es2.getD j N.zero).n))) ∧ Below W.heap.size W w') := hid_intro (fun W hW => by
          have hDs : ∀ e ∈ D, e.i.size ≤ 1048576 := fun e he => by
            have q := (right_iff.1 (sB_iff.1 HDS.out)).2.1 e he
            unfold eOk EvtR.idB at q
            simp only [Bool.and_eq_true, decide_eq_true_eq] at q
            have := q.1.1
            omega
          have := impl_has ad cd D (es2.getD j N.zero).i W hD61 hDs (HE4.out.below hW)
          rwa [HDS.out, HDD.out, Bool.true_and] at this)
        obtain ⟨bq, oq, eq, hbq, q0, q1, q2⟩ := (HE3.out.below HS7.out.1).at j hlt
        obtain ⟨rfl, rfl⟩ : bq = b2 ∧ oq = 0 := by simpa using eq.symm
        generalize es2.getD j N.zero = X at *
        obtain ⟨xi, xn, xs⟩ := X
        dsimp only at q0 q1 q2 HHD
        rw [Nat.zero_add] at q0 q1
        have HQ : Hid (Sx w5 w1.heap.size w2.heap.size i a m n k t (.slice ax L.length cx) C bq (j * 3) xi xn w7) := hid_intro ⟨HS7.out, hbq, q0, q1⟩
        clear q2 HDD HDS HSj
        by_cases hbf : bf ≤ xn
        · rw [decide_eq_true hbf] at HHD
          go_wp2_with fail
          go_region_held3 (fun W => St w5 w1.heap.size w2.heap.size i a m n k t (.slice ax L.length cx) C W ∧ bq < W.heap.size ∧ W.cell? ⟨bq, j * 3, none⟩ = some (.string xi) ∧ W.cell? ⟨bq, j * 3 + 1, none⟩ = some (.int .i64 xn)) (first | assumption | (exact HQ.out.below (Below.refl _ _).drew) | (exact Sx.below (by assumption) hb))
            (first | (go_at_call 12; refine (HHD.out _ (Sx.b (by assumption))).mono ?_; rintro e w' ⟨rfl, hb⟩))
          rename_i hSz
          have HSz := hid_intro hSz.1
          clear hSz q0 q1 hb HQ HS7
          go_wp2_with fail
          go_roundw
          case rel => exact ⟨j + 1, by omega, by go_num, HSz⟩
          case measure => simp [intOf]; omega
        · rw [decide_eq_false hbf] at HHD
          have hbf2 : xn < bf := by omega
          go_wp2_with fail
          go_region_held3 (fun W => St w5 w1.heap.size w2.heap.size i a m n k t (.slice ax L.length cx) C W ∧ bq < W.heap.size ∧ W.cell? ⟨bq, j * 3, none⟩ = some (.string xi) ∧ W.cell? ⟨bq, j * 3 + 1, none⟩ = some (.int .i64 xn)) (first | assumption | (exact HQ.out.below (Below.refl _ _).drew) | (exact Sx.below (by assumption) hb))
            (first | (go_at_call 12; refine (HHD.out _ (Sx.b (by assumption))).mono ?_; rintro e w' ⟨rfl, hb⟩))
          rename_i hSz
          have HSz := hid_intro hSz.1
          clear hSz q0 q1 hb HQ HS7
          go_wp2_with fail
          go_roundw
          case rel => exact ⟨j + 1, by omega, by go_num, HSz⟩
          case measure => simp [intOf]; omega
    · have hlt2 : ¬ (j : Int) < (es2.length : Int) := by omega
      obtain ⟨_, p1, p2, p3, p4, p5, p6, p7, p8, p9, p10⟩ := HSj.out
      by_cases hC0 : C = 0
      · subst hC0
        obtain ⟨hn0, hTa, hTb, hTc, hTd⟩ := HTT.out rfl
        have HTa := hid_intro hTa
        have HTb := hid_intro hTb
        have HTc := hid_intro hTc
        have HTd := hid_intro hTd
        clear hTa hTb hTc hTd
        have hdv : n.tdiv 2 = n / 2 := by rw [Int.tdiv_eq_ediv_of_nonneg (by omega)]
        have HBn : ∀ z : Int, Hid (Below wr.heap.size wr (wr.alloc (.cells #[.string i, .string a, .string m, .int .i64 z, .int .i64 k, .string t] 25))) := fun z => hid_intro ((Below.refl _ _).alloc (Nat.le_refl _) _)
        by_cases hne : n / 2 = n
        · have hnz : n = 0 := by omega
          subst hnz
          go_wp2_with fail
          refine (HTa.out _ (HSj.out.below (HBn _).out).1).mono ?_
          rintro e wa ⟨rfl, hba⟩
          have HSa := hid_intro ((HSj.out.below (HBn _).out).below hba)
          clear hba p1 p2 p3 p4 p5 p6 p7 p8 p9 p10
          obtain ⟨_, p1, p2, p3, p4, p5, p6, p7, p8, p9, p10⟩ := HSa.out
          go_wp2_with fail
          refine (HTb.out _ HSa.out.1).mono ?_
          rintro e wb ⟨vb, rfl, hbb⟩
          have HSb := hid_intro (HSa.out.below hbb)
          clear hbb p1 p2 p3 p4 p5 p6 p7 p8 p9 p10
          obtain ⟨_, p1, p2, p3, p4, p5, p6, p7, p8, p9, p10⟩ := HSb.out
          go_wp2_with fail
          refine (HTd.out _ HSb.out.1).mono ?_
          rintro e wd ⟨rfl, hbd⟩
          have HSd := hid_intro (HSb.out.below hbd)
          clear hbd p1 p2 p3 p4 p5 p6 p7 p8 p9 p10
          go_wp2_with fail
          go_ret
          exact ⟨rfl, HBW.out.trans (HSd.out.1.mono HBW.out.size)⟩
        · have HTe := hid_intro (HTc.out hne)
          have hneb : (n / 2 == n) = false := by simpa using hne
          go_wp2_with fail
          refine (HTe.out _ (HSj.out.below (HBn _).out).1).mono ?_
          rintro e wo ⟨vo, rfl, hbo⟩
          have HSo := hid_intro ((HSj.out.below (HBn _).out).below hbo)
          clear hbo p1 p2 p3 p4 p5 p6 p7 p8 p9 p10
          obtain ⟨_, p1, p2, p3, p4, p5, p6, p7, p8, p9, p10⟩ := HSo.out
          go_wp2_with fail
          refine (HTa.out _ HSo.out.1).mono ?_
          rintro e wa ⟨rfl, hba⟩
          have HSa := hid_intro (HSo.out.below hba)
          clear hba p1 p2 p3 p4 p5 p6 p7 p8 p9 p10
          obtain ⟨_, p1, p2, p3, p4, p5, p6, p7, p8, p9, p10⟩ := HSa.out
          go_wp2_with fail
          refine (HTb.out _ HSa.out.1).mono ?_
          rintro e wb ⟨vb, rfl, hbb⟩
          have HSb := hid_intro (HSa.out.below hbb)
          clear hbb p1 p2 p3 p4 p5 p6 p7 p8 p9 p10
          obtain ⟨_, p1, p2, p3, p4, p5, p6, p7, p8, p9, p10⟩ := HSb.out
          go_wp2_with fail
          refine (HTd.out _ HSb.out.1).mono ?_
          rintro e wd ⟨rfl, hbd⟩
          have HSd := hid_intro (HSb.out.below hbd)
          clear hbd p1 p2 p3 p4 p5 p6 p7 p8 p9 p10
          go_wp2_with fail
          go_ret
          exact ⟨rfl, HBW.out.trans (HSd.out.1.mono HBW.out.size)⟩
      · go_wp2_with fail
        go_ret
        exact ⟨rfl, HBW.out.trans (HSj.out.1.mono HBW.out.size)⟩
theorem walk (a0 : Option Addr) (len0 cap0 : Nat) (z0 : List Int) (a1 : Option Addr) (len1 cap1 : Nat) (z1 : List Int) (w : World) (w0 : IsRow .u8 w a0 len0 cap0 z0) (w1 : IsRow .u8 w a1 len1 cap1 z1) :
    Calls Try.prog 3 #[.slice a0 len0 cap0, .slice a1 len1 cap1] w fun e w' => e = .returned (.bool true) ∧ Below w.heap.size w w' := by
  have l0 := w0.len
  have l1 := w1.len
  unfold maxLen at l0 l1
  by_cases h0 : len0 ≤ 1048576
  · by_cases h1 : len1 ≤ 1048576
    · exact law_in a0 a1 len0 len1 cap0 cap1 w h0 h1 w0.bytes w1.bytes
    · have q0 : ¬ (1048576 : Int) < (len0 : Int) := by omega
      have q1 : (1048576 : Int) < (len1 : Int) := by omega
      clear w0 w1
      go_enter Try.func3, Try.ntmps3
      go_wp2
      go_ret
      exact ⟨rfl, Below.refl _ _⟩
  · have q0 : (1048576 : Int) < (len0 : Int) := by omega
    clear w0 w1
    go_enter Try.func3, Try.ntmps3
    go_wp2
    go_ret
    exact ⟨rfl, Below.refl _ _⟩
theorem laidOut : laidOutB Try.prog = true := by kernel_rfl
theorem own : ownKnob Try.prog.godebug = none := by kernel_rfl
set_option maxRecDepth 100000 in
theorem lifted (os : Os) (started : os.Started) (H : Type) (enc : TypeId × Value → H) :
    ReturnsInHanded {} Try.checked os 3 .any (Rows.fnSeenSpec.pre6 enc Try.prog Try.f3 Rows.fnSeenRow.domain false) (Rows.fnSeenSpec.post enc Try.prog Try.f3 false true false false) := by
  refine returnsInHanded_of_change (C := Try.checked) own started (by kernel_rfl) Try.func3
    (ChangeSpec.witness6 (enc := enc) (C := Try.checked) false ⟨#[], #[.slice none 0 0, .slice none 0 0], []⟩ 8 (by kernel_rfl) (by kernel_rfl) (by kernel_rfl) (by kernel_rfl)) ?_
  intro W base args ds gs before hval0 hW hcnd _
  have hval : ∀ (j : Nat) t v, Try.f3.params[j]? = some t → args[j]? = some v → Value.okWide Try.prog W .any base t v := hval0
  have hW' := hW
  obtain ⟨p, q, hA0, hV, rfl, hfz, hnd⟩ := hW
  have hA : DataW.TrodAll enc Try.prog W 0 (fun _ => true) true Try.f3.params.toList args.toList ds p := hA0
  rw [Try.params3] at hA hval
  obtain ⟨v0, vs0, d0, ds0, p0, q0, hargs, rfl, rfl, h0, r0⟩ := trodAll_cons hA
  obtain ⟨v1, vs1, d1, ds1, p1, q1, rfl, rfl, rfl, h1, r1⟩ := trodAll_cons r0
  obtain ⟨rfl, rfl, rfl⟩ := trodAll_nil r1
  obtain rfl : args = #[v0, v1] := by cases args; simp_all
  obtain ⟨rfl, rfl⟩ := trodVars_none hV
  obtain ⟨a0, len0, cap0, rfl⟩ := okWide_slice Try.underlying22 (hval 0 22 v0 rfl rfl)
  have k0 := h0
  have lt0 : ∀ x ∈ p0, x.block < W.heap.size := by obtain ⟨m, hm⟩ := k0; exact DataW.trod_lt m _ _ _ hm
  obtain ⟨z0, w0⟩ : ∃ zs, IsRow .u8 W a0 len0 cap0 zs := by
    obtain ⟨fuel, hf⟩ := h0
    rcases open_ints Try.underlying22 Try.underlying5 (by kernel_rfl) hf with ⟨hcs, _⟩ | ⟨x, l, c, zs, hcs, _, hl, hm, hz, _, hcell, hwz⟩
    · simp [Value.cells] at hcs
      obtain ⟨rfl, rfl, rfl⟩ := hcs
      exact ⟨[], .inl ⟨rfl, rfl, rfl, rfl⟩⟩
    · simp [Value.cells] at hcs
      obtain ⟨rfl, rfl, rfl⟩ := hcs
      exact ⟨zs, .inr ⟨_, rfl, hl, hm, by simpa using hz, hcell, hwz⟩⟩
  obtain ⟨a1, len1, cap1, rfl⟩ := okWide_slice Try.underlying22 (hval 1 22 v1 rfl rfl)
  have k1 := h1
  have lt1 : ∀ x ∈ p1, x.block < W.heap.size := by obtain ⟨m, hm⟩ := k1; exact DataW.trod_lt m _ _ _ hm
  obtain ⟨z1, w1⟩ : ∃ zs, IsRow .u8 W a1 len1 cap1 zs := by
    obtain ⟨fuel, hf⟩ := h1
    rcases open_ints Try.underlying22 Try.underlying5 (by kernel_rfl) hf with ⟨hcs, _⟩ | ⟨x, l, c, zs, hcs, _, hl, hm, hz, _, hcell, hwz⟩
    · simp [Value.cells] at hcs
      obtain ⟨rfl, rfl, rfl⟩ := hcs
      exact ⟨[], .inl ⟨rfl, rfl, rfl, rfl⟩⟩
    · simp [Value.cells] at hcs
      obtain ⟨rfl, rfl, rfl⟩ := hcs
      exact ⟨zs, .inr ⟨_, rfl, hl, hm, by simpa using hz, hcell, hwz⟩⟩
  clear hA0 hval0
  refine (walk a0 len0 cap0 z0 a1 len1 cap1 z1 W w0 w1).mono fun e W' ⟨he, bel⟩ => ?_
  subst he
  exact ⟨_, rfl, _, _, _, [], _, [], hW', trodAll_mk1 (shut_bool Try.underlying4 _), (trodAll_cons_mk (Below.trod laidOut (by kernel_rfl) (of_decide_eq_true (by kernel_rfl)) k0 bel lt0) (trodAll_cons_mk (Below.trod laidOut (by kernel_rfl) (of_decide_eq_true (by kernel_rfl)) k1 bel lt1) trodAll_mk0)), rfl, bel.frame _, fun h => by cases h⟩

theorem over : Rows.fnSeenRow.holds Try.pinned (OpenSpec.ofChange Rows.fnSeenSpec) :=
  OpenClaim.holds_of_wide 3 Try.f3 rfl rfl rfl rfl rfl rfl rfl ⟨rfl, rfl, rfl, rfl, rfl⟩ rfl rfl rfl rfl rfl (by kernel_rfl) Try.func3 (by kernel_rfl)
    (of_decide_eq_true (by kernel_rfl)) (by unfold Func.isWrapper; first | (rw [if_pos (by decide +kernel)]; kernel_rfl) | (rw [if_neg (by decide +kernel)]; exact ⟨rfl, rfl⟩))
    (fun os started H enc _ => lifted os started H enc)


end FnSeenL
/-- THE STATEMENT -/
theorem fnSeen_holds : Rows.FnSeenSaid := FnSeenL.over
#print axioms fnSeen_holds
end Go.Proofs.Ytbhabplchcigfaa
