/-
  FnScale: for all bytes the law's call returns true, and the bytes read as they did: a number times another one, in parts, is what the product in parts is, where that does not run over; a number in hundredths of a hundred is itself; a root's square is no more than the number, the next one's more. The condition is the card's: the program's own error starts as its text lays it.
-/
import Derived.Test.YtaihfidbpkbnkaaDoorDrawPct
import Derived.Test.YtaihfidbpkbnkaaDoorTimes
import Derived.Test.YtaihfidbpkbnkaaDoorPartsS
import Derived.Test.YtaihfidbpkbnkaaDoorPercent
import Derived.Test.YtaihfidbpkbnkaaDoorRoot
import Derived.Deep.RegionHeld3
import Derived.Deep.DrawnRows
import Derived.Test.YtaihfidbpkbnkaaDoorSent
import Derived.Test.YtaihfidbpkbnkaaDoorCards
import Derived.Carry
import Derived.ChangeOld
import Derived.OpenVars
import Derived.SevenTiedAt
namespace Go.Proofs.YtaihfidbpkbnkaaDoor
open Go.ChangeShapes Go.WideShapes Go.ChangeAt Go.RowKit
set_option linter.unusedVariables false
namespace FnScaleL
open DrawR
open FixR (out Laid In)
/-- An answer. -/
abbrev ans (n c : Int) : Value := .agg #[.int .i64 n, .int .i64 0, .int .i64 c]
def imp (F : FuncId) (args : Array Value) (n c : Int) : Prop := ∀ w, Laid w → Calls Tryd.prog F args w fun e w' => e = .returned (.agg #[.int .i64 n, .int .i64 0, .int .i64 c]) ∧ Below w.heap.size w w'
def spe (F : FuncId) (args : Array Value) (n c : Int) : Prop := ∀ w, Calls Tryd.prog F args w fun e w' => e = .returned (.agg #[.int .i64 n, .int .i64 0, .int .i64 c]) ∧ Below w.heap.size w w'
structure KnownX (a b c mode x xc z zc : Int) : Prop where
  ix : imp 19 #[.int .i64 a, .int .i64 b, .int .i64 c, .int .i64 mode] x xc
  sx : spe 23 #[.int .i64 a, .int .i64 b, .int .i64 c, .int .i64 mode] x xc
  sz : spe 16 #[.int .i64 a, .int .i64 b] z zc
  par : 0 ≤ a → 0 ≤ b → zc = 0 → 1 ≤ c → spe 17 #[.int .i64 z, .int .i64 c, .int .i64 mode] x xc
theorem times_is (a b : Int) : ∃ z zc, spe 16 #[.int .i64 a, .int .i64 b] z zc ∧ (zc = 0 → In a ∧ In b ∧ In (a * b) ∧ z = a * b) := by
  by_cases h : ¬ In a ∨ ¬ In b
  · exact ⟨0, 1, fun w => FixR.spec_times_bad a b h w, fun h => by cases h⟩
  · have ha : In a := Classical.not_not.1 fun x => h (.inl x)
    have hb : In b := Classical.not_not.1 fun x => h (.inr x)
    by_cases hv : In (a * b)
    · exact ⟨_, 0, fun w => FixR.spec_times_ok a b ha hb hv w, fun _ => ⟨ha, hb, hv, rfl⟩⟩
    · exact ⟨0, 12, fun w => FixR.spec_times_over a b ha hb hv w, fun h => by cases h⟩
theorem pq_int (a b c : Nat) (mode : Int) : FixR.pq a b c mode = ((a : Int) * b) / c + FixR.up (((a : Int) * b) % c) c mode := by
  unfold FixR.pq
  rw [Int.natCast_ediv, Int.natCast_emod, Int.natCast_mul]
theorem knownX (a b c mode : Int) : ∃ x xc z zc, KnownX a b c mode x xc z zc := by
  obtain ⟨z, zc, sz, hz⟩ := times_is a b
  by_cases h : FixR.tpBad a b c mode
  · refine ⟨0, 1, z, zc, ⟨fun w _ => FixR.impl_timesparts_bad a b c mode h w, fun w => FixR.spec_timesparts_bad a b c mode h w, sz, fun ha hb h0 hc w => FixR.spec_parts_bad z c mode ?_ w⟩⟩
    obtain ⟨h1, h2, h3, rfl⟩ := hz h0
    unfold FixR.tpBad at h
    unfold FixR.partsBad
    unfold In at h1 h2
    omega
  · unfold FixR.tpBad at h
    obtain ⟨a, rfl⟩ : ∃ n : Nat, a = n := ⟨a.toNat, by omega⟩
    obtain ⟨b, rfl⟩ : ∃ n : Nat, b = n := ⟨b.toNat, by omega⟩
    obtain ⟨c, rfl⟩ : ∃ n : Nat, c = n := ⟨c.toNat, by omega⟩
    have ha : a ≤ 1000000000000000 := by omega
    have hb : b ≤ 1000000000000000 := by omega
    have hc : 1 ≤ c := by omega
    have hc2 : c ≤ 1000000000000000 := by omega
    have hm : 0 ≤ mode ∧ mode ≤ 2 := by omega
    clear h
    have hin : zc = 0 → In (FixR.pq a b c mode) := fun h0 => by
      obtain ⟨_, _, h3, _⟩ := hz h0
      rw [pq_int]
      exact FixR.parts_within _ _ mode h3 (by omega)
    by_cases hQ : a * b / c ≤ 1000000000000000
    · by_cases hv : In (FixR.pq a b c mode)
      · refine ⟨_, 0, z, zc, ⟨fun w hL => FixR.impl_timesparts_ok a b c mode ha hb hc hc2 hm hQ hv w hL, fun w => FixR.spec_tp a b c mode ha hb hc hc2 hm hQ _ _ (FixR.outS_in _ hv) w, sz, fun _ _ h0 _ w => ?_⟩⟩
        obtain ⟨_, _, h3, rfl⟩ := hz h0
        rw [pq_int]
        exact FixR.spec_parts_in _ _ mode h3 (by omega) hm w
      · exact ⟨0, 12, z, zc, ⟨fun w hL => FixR.impl_timesparts_over a b c mode ha hb hc hc2 hm hv w hL, fun w => FixR.spec_tp a b c mode ha hb hc hc2 hm hQ _ _ (FixR.outS_over _ hv) w, sz, fun _ _ h0 _ w => absurd (hin h0) hv⟩⟩
    · have hv : ¬ In (FixR.pq a b c mode) := by
        intro h
        obtain ⟨u0, u1⟩ := FixR.up_bd ((a * b % c : Nat) : Int) c mode
        unfold FixR.pq at h
        unfold In at h
        generalize a * b / c = Q at *
        omega
      exact ⟨0, 12, z, zc, ⟨fun w hL => FixR.impl_timesparts_over a b c mode ha hb hc hc2 hm hv w hL, fun w => FixR.spec_tp_over a b c mode ha hb hc hc2 hm hQ w, sz, fun _ _ h0 _ w => absurd (hin h0) hv⟩⟩
structure KnownR (n r rc : Int) : Prop where
  ir : spe 21 #[.int .i64 n] r rc
  sr : spe 24 #[.int .i64 n] r rc
  sq : rc = 0 → 0 ≤ r ∧ ∃ s t, wrap64 (r * r) = s ∧ wrap64 (r + 1) = r + 1 ∧ wrap64 ((r + 1) * (r + 1)) = t ∧ s ≤ n ∧ n < t
theorem knownR (n : Int) : ∃ r rc, KnownR n r rc := by
  by_cases h : n < 0 ∨ 1000000000000000 < n
  · exact ⟨0, 1, ⟨fun w => RootR.impl_root_bad n h w, fun w => RootR.spec_root_bad n h w, fun h => by cases h⟩⟩
  · obtain ⟨n, rfl⟩ : ∃ m : Nat, n = m := ⟨n.toNat, by omega⟩
    obtain ⟨r, h1, h2⟩ := FixM.root_is n
    have hr : r < 31622777 := FixM.sq_gt (m := 31622777) (n := n) (by omega) h1
    have b1 := RootR.sq_bd (r + 1) (by omega)
    have e1 : (r : Int) * r = ((r * r : Nat) : Int) := by simp
    have e2 : ((r : Int) + 1) * (r + 1) = (((r + 1) * (r + 1) : Nat) : Int) := by simp
    refine ⟨r, 0, ⟨fun w => RootR.impl_root n r (by omega) h1 h2 w, fun w => RootR.spec_root n r (by omega) h1 h2 w, fun _ => ⟨by omega, _, _, rfl, RootR.w64r _ (by omega), rfl, ?_, ?_⟩⟩⟩
    · rw [e1, RootR.w64r _ (by omega)]; omega
    · rw [e2, RootR.w64r _ (by omega)]; omega
structure KnownP (m part q qc : Int) : Prop where
  ip : imp 25 #[.int .i64 m, .int .i64 part] q qc
  sp : spe 26 #[.int .i64 m, .int .i64 part] q qc
  hund : 0 ≤ m → m ≤ 1000000000000000 → imp 25 #[.int .i64 m, .int .i64 100] m 0
theorem hundred (m : Nat) : FixR.pq m 100 100 2 = m := by
  unfold FixR.pq
  rw [Nat.mul_div_cancel m (by omega), Nat.mul_mod_left]
  show (m : Int) + FixR.up 0 100 2 = m
  have : FixR.up 0 100 2 = 0 := by decide
  omega
theorem knownP (m part : Int) : ∃ q qc, KnownP m part q qc := by
  obtain ⟨q, qc, h1, h2⟩ := FixR.pc_both m part
  refine ⟨q, qc, ⟨h1, h2, fun m0 m1 w hL => ?_⟩⟩
  obtain ⟨m, rfl⟩ : ∃ n : Nat, m = n := ⟨m.toNat, by omega⟩
  refine FixR.impl_percent_in m 100 m 0 (by omega) (by omega) w hL (fun w hL => ?_)
  have hq : m * 100 / 100 ≤ 1000000000000000 := by rw [Nat.mul_div_cancel m (by omega)]; omega
  have hv : In (FixR.pq m 100 100 2) := by rw [hundred]; unfold In; omega
  have := FixR.impl_timesparts_ok m 100 100 2 (by omega) (by omega) (by omega) (by omega) (by omega) hq hv w hL
  rw [hundred] at this
  exact this
/-- What is held through the region: the two answers' own cells. -/
def Held (W : World) (X P : Nat) (x xc r rc : Int) (w' : World) : Prop := Below W.heap.size W w' ∧ w'.cell? ⟨X, 0, none⟩ = some (.int .i64 x) ∧ w'.cell? ⟨X, 1, none⟩ = some (.int .i64 0) ∧ w'.cell? ⟨X, 2, none⟩ = some (.int .i64 xc) ∧ w'.cell? ⟨P, 0, none⟩ = some (.int .i64 r) ∧ w'.cell? ⟨P, 1, none⟩ = some (.int .i64 0) ∧ w'.cell? ⟨P, 2, none⟩ = some (.int .i64 rc)
theorem Held.below {W w1 w2 : World} {X P : Nat} {x xc r rc : Int} (hX : X < W.heap.size) (hP : P < W.heap.size) (h : Held W X P x xc r rc w1) (hb : Below w1.heap.size w1 w2) : Held W X P x xc r rc w2 := by
  obtain ⟨h0, a0, a1, a2, b0, b1, b2⟩ := h
  have hs := h0.size
  refine ⟨h0.trans (hb.mono hs), ?_, ?_, ?_, ?_, ?_, ?_⟩
  all_goals (rw [hb.cell (by simp only; omega)]; assumption)
theorem Held.laid {W w1 : World} {X P : Nat} {x xc r rc : Int} (hL : Laid W) (h : Held W X P x xc r rc w1) : Laid w1 := hL.below h.1
theorem bel_drewN {B : Nat} {a w : World} (h : Below B a w) (n : Nat) : Below B a (w.drewN n) := ⟨h.os, h.tape, h.output, h.size, h.block⟩
set_option maxRecDepth 100000 in
set_option maxHeartbeats 8000000 in
theorem law_in (ac am : Option Addr) (lc cc lm cm : Nat) (w : World) (hL : Laid w) (hc : lc ≤ 1048576) (hm : lm ≤ 1048576) (hBc : Bytes ac lc w) (hBm : Bytes am lm w) :
    Calls Tryd.prog 4 #[.slice ac lc cc, .slice am lm cm] w fun e w' => e = .returned (.bool true) ∧ Below w.heap.size w w' := by
  have HL := hid_intro hL
  have HM := hid_intro hBm
  have H1 := hid_intro (dtparts_any ac lc cc w hc hBc)
  have HLM := hid_intro hm
  have hc2 : ¬ (1048576 : Int) < (lc : Int) := by omega
  have hm2 : ¬ (1048576 : Int) < (lm : Int) := by omega
  clear hBc hBm hc hm hL
  go_enter Tryd.func4, Tryd.ntmps4
  go_wp2_with fail
  refine H1.out.mono ?_
  rintro e w1 ⟨⟨a, b, c, mode, rfl, _, _, _, _⟩, hb1⟩
  have HB1 := hid_intro hb1
  obtain ⟨x, xc, z, zc, hX⟩ := knownX a b c mode
  have HX := hid_intro hX
  clear hb1 H1 hX
  go_wp2_with fail
  refine (HX.out.ix _ (HL.out.below HB1.out)).mono ?_
  rintro e w2 ⟨rfl, hb2⟩
  have HB2 := hid_intro (HB1.out.trans (hb2.mono HB1.out.size))
  clear hb2 HB1
  go_wp2_with fail
  obtain ⟨W2, hW2⟩ : ∃ W, W = w2.alloc (Obj.cells #[.int .i64 x, .int .i64 0, .int .i64 xc] 26) := ⟨_, rfl⟩
  rw [← hW2]
  have hs2 : W2.heap.size = w2.heap.size + 1 := by rw [hW2]; simp
  have x0 : W2.cell? ⟨w2.heap.size, 0, none⟩ = some (.int .i64 x) := by rw [hW2]; simp [go_sem]
  have x1 : W2.cell? ⟨w2.heap.size, 1, none⟩ = some (.int .i64 0) := by rw [hW2]; simp [go_sem]
  have x2 : W2.cell? ⟨w2.heap.size, 2, none⟩ = some (.int .i64 xc) := by rw [hW2]; simp [go_sem]
  have HBW := hid_intro (show Below w.heap.size w W2 by rw [hW2]; exact HB2.out.alloc HB2.out.size _)
  clear hW2
  refine (droot_any am lm cm _ HLM.out (HM.out.below HBW.out)).mono ?_
  rintro e w3 ⟨⟨n, rfl, _⟩, hb3⟩
  obtain ⟨r, rc, hR⟩ := knownR n
  have HR := hid_intro hR
  have HB3 := hid_intro (HBW.out.trans (hb3.mono HBW.out.size))
  have HC3 := hid_intro hb3
  clear hR hb3
  go_wp2_with fail
  refine (HR.out.ir _).mono ?_
  rintro e w4 ⟨rfl, hb4⟩
  have HB4 := hid_intro (HB3.out.trans (hb4.mono HB3.out.size))
  have HC4 := hid_intro (HC3.out.trans (hb4.mono HC3.out.size))
  clear hb4 HC3 HB3
  go_wp2_with fail
  obtain ⟨W4, hW4⟩ : ∃ W, W = w4.alloc (Obj.cells #[.int .i64 r, .int .i64 0, .int .i64 rc] 26) := ⟨_, rfl⟩
  rw [← hW4]
  have hs4 : W4.heap.size = w4.heap.size + 1 := by rw [hW4]; simp
  have r0 : W4.cell? ⟨w4.heap.size, 0, none⟩ = some (.int .i64 r) := by rw [hW4]; simp [go_sem]
  have r1 : W4.cell? ⟨w4.heap.size, 1, none⟩ = some (.int .i64 0) := by rw [hW4]; simp [go_sem]
  have r2 : W4.cell? ⟨w4.heap.size, 2, none⟩ = some (.int .i64 rc) := by rw [hW4]; simp [go_sem]
  have hC := HC4.out.alloc HC4.out.size (Obj.cells #[.int .i64 r, .int .i64 0, .int .i64 rc] 26)
  rw [← hW4] at hC
  have y0 := (hC.cell (p := ⟨w2.heap.size, 0, none⟩) (by simp only; omega)).trans x0
  have y1 := (hC.cell (p := ⟨w2.heap.size, 1, none⟩) (by simp only; omega)).trans x1
  have y2 := (hC.cell (p := ⟨w2.heap.size, 2, none⟩) (by simp only; omega)).trans x2
  have hlt2 : w2.heap.size < W4.heap.size := by have := hC.size; omega
  have HBX := hid_intro (show Below w.heap.size w W4 by rw [hW4]; exact HB4.out.alloc HB4.out.size _)
  clear hW4 hC x0 x1 x2 HC4
  refine (dpercent_any am lm cm _ HLM.out (HM.out.below HBX.out)).mono ?_
  rintro e W6 ⟨⟨m, part, rfl, _, _⟩, hb6⟩
  obtain ⟨q, qc, hP⟩ := knownP m part
  have HP := hid_intro hP
  have HB6 := hid_intro (HBX.out.trans (hb6.mono HBX.out.size))
  have z0 := (hb6.cell (p := ⟨w2.heap.size, 0, none⟩) (by simp only; omega)).trans y0
  have z1 := (hb6.cell (p := ⟨w2.heap.size, 1, none⟩) (by simp only; omega)).trans y1
  have z2 := (hb6.cell (p := ⟨w2.heap.size, 2, none⟩) (by simp only; omega)).trans y2
  have s0 := (hb6.cell (p := ⟨w4.heap.size, 0, none⟩) (by simp only; omega)).trans r0
  have s1 := (hb6.cell (p := ⟨w4.heap.size, 1, none⟩) (by simp only; omega)).trans r1
  have s2 := (hb6.cell (p := ⟨w4.heap.size, 2, none⟩) (by simp only; omega)).trans r2
  have hX1 : w2.heap.size < W6.heap.size := by have := hb6.size; omega
  have hP1 : w4.heap.size < W6.heap.size := by have := hb6.size; omega
  have HS0 : Hid (Held W6 w2.heap.size w4.heap.size x xc r rc W6.drew) := hid_intro ⟨(Below.refl _ _).drew, z0, z1, z2, s0, s1, s2⟩
  have HL6 := hid_intro (HL.out.below HB6.out)
  clear hP hb6 y0 y1 y2 r0 r1 r2 HM HLM HB2 HBW HB4 HBX hs2 hs4 hlt2
  go_wp2_with fail
  go_region_held3 (fun w' => Below W6.heap.size W6 w' ∧ w'.cell? ⟨w2.heap.size, 0, none⟩ = some (.int .i64 x) ∧ w'.cell? ⟨w2.heap.size, 1, none⟩ = some (.int .i64 0) ∧ w'.cell? ⟨w2.heap.size, 2, none⟩ = some (.int .i64 xc) ∧ w'.cell? ⟨w4.heap.size, 0, none⟩ = some (.int .i64 r) ∧ w'.cell? ⟨w4.heap.size, 1, none⟩ = some (.int .i64 0) ∧ w'.cell? ⟨w4.heap.size, 2, none⟩ = some (.int .i64 rc)) (first | assumption | (exact HS0.out) | (exact Held.below hX1 hP1 (by assumption) hb))
      (first | (go_at_call 23; refine (HX.out.sx _).mono ?_; rintro e w' ⟨rfl, hb⟩) | (go_at_call 24; refine (HR.out.sr _).mono ?_; rintro e w' ⟨rfl, hb⟩) | (go_at_call 25; refine (HP.out.ip _ (Held.laid HL6.out (by assumption))).mono ?_; rintro e w' ⟨rfl, hb⟩) | (go_at_call 26; refine (HP.out.sp _).mono ?_; rintro e w' ⟨rfl, hb⟩))
  rename_i hS
  obtain ⟨hSb, t0, t1, t2, u0, u1, u2⟩ := hS
  have HB8 := hid_intro (HB6.out.trans (hSb.mono HB6.out.size))
  have hX2 : w2.heap.size < w'.heap.size := by have := hSb.size; omega
  have hP2 : w4.heap.size < w'.heap.size := by have := hSb.size; omega
  clear hSb z0 z1 z2 s0 s1 s2 HS0 HL6 HB6 hX1 hP1
  go_wp2_with fail
  refine (HX.out.sz _).mono ?_
  rintro e w9 ⟨rfl, hb9⟩
  have HB9 := hid_intro (HB8.out.trans (hb9.mono HB8.out.size))
  have c0 := (hb9.cell (p := ⟨w2.heap.size, 0, none⟩) hX2).trans t0
  have c1 := (hb9.cell (p := ⟨w2.heap.size, 1, none⟩) hX2).trans t1
  have c2 := (hb9.cell (p := ⟨w2.heap.size, 2, none⟩) hX2).trans t2
  have d0 := (hb9.cell (p := ⟨w4.heap.size, 0, none⟩) hP2).trans u0
  have d1 := (hb9.cell (p := ⟨w4.heap.size, 1, none⟩) hP2).trans u1
  have d2 := (hb9.cell (p := ⟨w4.heap.size, 2, none⟩) hP2).trans u2
  have hX3 : w2.heap.size < w9.heap.size := by have := hb9.size; omega
  have hP3 : w4.heap.size < w9.heap.size := by have := hb9.size; omega
  clear hb9 t0 t1 t2 u0 u1 u2 HB8 hX2 hP2
  go_wp2_with fail
  obtain ⟨W9, hW9⟩ : ∃ W, W = w9.alloc (Obj.cells #[.int .i64 z, .int .i64 0, .int .i64 zc] 26) := ⟨_, rfl⟩
  rw [← hW9]
  have hs9 : W9.heap.size = w9.heap.size + 1 := by rw [hW9]; simp
  have z0 : W9.cell? ⟨w9.heap.size, 0, none⟩ = some (.int .i64 z) := by rw [hW9]; simp [go_sem]
  have z1 : W9.cell? ⟨w9.heap.size, 1, none⟩ = some (.int .i64 0) := by rw [hW9]; simp [go_sem]
  have z2 : W9.cell? ⟨w9.heap.size, 2, none⟩ = some (.int .i64 zc) := by rw [hW9]; simp [go_sem]
  have hb9 : Below w9.heap.size w9 W9 := by rw [hW9]; exact (Below.refl _ _).alloc (Nat.le_refl _) _
  have x0 := (hb9.cell (p := ⟨w2.heap.size, 0, none⟩) hX3).trans c0
  have x1 := (hb9.cell (p := ⟨w2.heap.size, 1, none⟩) hX3).trans c1
  have x2 := (hb9.cell (p := ⟨w2.heap.size, 2, none⟩) hX3).trans c2
  have r0 := (hb9.cell (p := ⟨w4.heap.size, 0, none⟩) hP3).trans d0
  have r1 := (hb9.cell (p := ⟨w4.heap.size, 1, none⟩) hP3).trans d1
  have r2 := (hb9.cell (p := ⟨w4.heap.size, 2, none⟩) hP3).trans d2
  have HBV := hid_intro (HB9.out.trans (hb9.mono HB9.out.size))
  have hX4 : w2.heap.size < W9.heap.size := by omega
  have hP4 : w4.heap.size < W9.heap.size := by omega
  have hZ4 : w9.heap.size < W9.heap.size := by omega
  clear hW9 hb9 c0 c1 c2 d0 d1 d2 HB9 hX3 hP3 hs9
  have KEYR : Hid (rc ≠ 0 ∨ (rc = 0 ∧ 0 ≤ r ∧ ∃ s t, wrap64 (r * r) = s ∧ wrap64 (r + 1) = r + 1 ∧ wrap64 ((r + 1) * (r + 1)) = t ∧ s ≤ n ∧ n < t)) := hid_intro (by
    by_cases h : rc = 0
    · exact .inr ⟨h, HR.out.sq h⟩
    · exact .inl h)
  have KEYM : Hid ((¬ 0 ≤ m) ∨ (0 ≤ m ∧ ¬ m ≤ 1000000000000000) ∨ (0 ≤ m ∧ m ≤ 1000000000000000 ∧ Hid (imp 25 #[.int .i64 m, .int .i64 100] m 0))) := hid_intro (by
    by_cases h1 : 0 ≤ m
    · by_cases h2 : m ≤ 1000000000000000
      · exact .inr (.inr ⟨h1, h2, hid_intro (HP.out.hund h1 h2)⟩)
      · exact .inr (.inl ⟨h1, h2⟩)
    · exact .inl h1)
  by_cases h8 : 0 ≤ a ∧ 0 ≤ b ∧ zc = 0 ∧ 1 ≤ c
  · obtain ⟨k1, k2, rfl, k4⟩ := h8
    have HPA := hid_intro (HX.out.par k1 k2 rfl k4)
    have HS0 : Hid (Held W9 w2.heap.size w9.heap.size x xc z 0 W9.drew) := hid_intro ⟨(Below.refl _ _).drew, x0, x1, x2, z0, z1, z2⟩
    go_region_held3 (fun w' => Below W9.heap.size W9 w' ∧ w'.cell? ⟨w2.heap.size, 0, none⟩ = some (.int .i64 x) ∧ w'.cell? ⟨w2.heap.size, 1, none⟩ = some (.int .i64 0) ∧ w'.cell? ⟨w2.heap.size, 2, none⟩ = some (.int .i64 xc) ∧ w'.cell? ⟨w9.heap.size, 0, none⟩ = some (.int .i64 z) ∧ w'.cell? ⟨w9.heap.size, 1, none⟩ = some (.int .i64 0) ∧ w'.cell? ⟨w9.heap.size, 2, none⟩ = some (.int .i64 0)) (first | assumption | (exact HS0.out) | (exact Held.below hX4 hZ4 (by assumption) hb))
      (first | (go_at_call 17; refine (HPA.out _).mono ?_; rintro e w' ⟨rfl, hb⟩))
    rename_i hS
    have HBU := hid_intro (HBV.out.trans (hS.1.mono HBV.out.size))
    have hSz := hS.1.size
    have e0 := (hS.1.cell (p := ⟨w4.heap.size, 0, none⟩) hP4).trans r0
    have e1 := (hS.1.cell (p := ⟨w4.heap.size, 1, none⟩) hP4).trans r1
    have e2 := (hS.1.cell (p := ⟨w4.heap.size, 2, none⟩) hP4).trans r2
    clear hS r0 r1 r2 x0 x1 x2 z0 z1 z2 HPA HS0 HBV
    have hP5 : w4.heap.size < w'.heap.size := by have := hSz; omega
    rcases KEYR.out with k9 | ⟨rfl, k9, s, tt, k10, k11, k12, k13, k14⟩
    · have k9b : (rc == 0) = false := by simpa using k9
      rcases KEYM.out with g1 | ⟨g1, g2⟩ | ⟨g1, g2, HH⟩
      iterate 2
        · go_wp2_with fail
          go_ret
          exact ⟨rfl, HBU.out⟩
      go_wp2_with fail
      refine (HH.out _ (HL.out.below HBU.out)).mono ?_
      rintro e v1 ⟨rfl, hv⟩
      have HBT := hid_intro (HBU.out.trans (hv.mono HBU.out.size))
      have o0 := (hv.cell (p := ⟨w4.heap.size, 0, none⟩) hP5).trans e0
      have o1 := (hv.cell (p := ⟨w4.heap.size, 1, none⟩) hP5).trans e1
      have o2 := (hv.cell (p := ⟨w4.heap.size, 2, none⟩) hP5).trans e2
      clear hv
      go_wp2_with fail
      go_ret
      exact ⟨rfl, HBT.out⟩
    · clear HR
      rcases KEYM.out with g1 | ⟨g1, g2⟩ | ⟨g1, g2, HH⟩
      iterate 2
        · go_wp2_with fail
          go_ret
          exact ⟨rfl, HBU.out⟩
      go_wp2_with fail
      refine (HH.out _ (HL.out.below HBU.out)).mono ?_
      rintro e v1 ⟨rfl, hv⟩
      have HBT := hid_intro (HBU.out.trans (hv.mono HBU.out.size))
      have o0 := (hv.cell (p := ⟨w4.heap.size, 0, none⟩) hP5).trans e0
      have o1 := (hv.cell (p := ⟨w4.heap.size, 1, none⟩) hP5).trans e1
      have o2 := (hv.cell (p := ⟨w4.heap.size, 2, none⟩) hP5).trans e2
      clear hv
      go_wp2_with fail
      go_ret
      exact ⟨rfl, HBT.out⟩
  · have key8 : (decide (0 ≤ a) = false) ∨ (0 ≤ a ∧ decide (0 ≤ b) = false) ∨ (0 ≤ a ∧ 0 ≤ b ∧ (zc == 0) = false) ∨ (0 ≤ a ∧ 0 ≤ b ∧ zc = 0 ∧ decide (1 ≤ c) = false) := by
      by_cases q1 : 0 ≤ a
      · by_cases q2 : 0 ≤ b
        · by_cases q3 : zc = 0
          · exact .inr (.inr (.inr ⟨q1, q2, q3, decide_eq_false fun q4 => h8 ⟨q1, q2, q3, q4⟩⟩))
          · exact .inr (.inr (.inl ⟨q1, q2, by simpa using q3⟩))
        · exact .inr (.inl ⟨q1, decide_eq_false q2⟩)
      · exact .inl (decide_eq_false q1)
    clear h8
    rcases key8 with q1 | ⟨q1, q2⟩ | ⟨q1, q2, q3⟩ | ⟨q1, q2, rfl, q4⟩
    · have q1' : ¬ 0 ≤ a := of_decide_eq_false q1
      go_quiet (fail)
      have HBU := hid_intro (bel_drewN HBV.out nq)
      have e0 : (W9.drewN nq).cell? ⟨w4.heap.size, 0, none⟩ = some (.int .i64 r) := r0
      have e1 : (W9.drewN nq).cell? ⟨w4.heap.size, 1, none⟩ = some (.int .i64 0) := r1
      have e2 : (W9.drewN nq).cell? ⟨w4.heap.size, 2, none⟩ = some (.int .i64 rc) := r2
      have hP5 : w4.heap.size < (W9.drewN nq).heap.size := hP4
      generalize W9.drewN nq = U at *
      clear r0 r1 r2 x0 x1 x2 z0 z1 z2 HBV
      rcases KEYR.out with k9 | ⟨rfl, k9, s, tt, k10, k11, k12, k13, k14⟩
      · have k9b : (rc == 0) = false := by simpa using k9
        rcases KEYM.out with g1 | ⟨g1, g2⟩ | ⟨g1, g2, HH⟩
        iterate 2
          · go_wp2_with fail
            go_ret
            exact ⟨rfl, HBU.out⟩
        go_wp2_with fail
        refine (HH.out _ (HL.out.below HBU.out)).mono ?_
        rintro e v1 ⟨rfl, hv⟩
        have HBT := hid_intro (HBU.out.trans (hv.mono HBU.out.size))
        have o0 := (hv.cell (p := ⟨w4.heap.size, 0, none⟩) hP5).trans e0
        have o1 := (hv.cell (p := ⟨w4.heap.size, 1, none⟩) hP5).trans e1
        have o2 := (hv.cell (p := ⟨w4.heap.size, 2, none⟩) hP5).trans e2
        clear hv
        go_wp2_with fail
        go_ret
        exact ⟨rfl, HBT.out⟩
      · clear HR
        rcases KEYM.out with g1 | ⟨g1, g2⟩ | ⟨g1, g2, HH⟩
        iterate 2
          · go_wp2_with fail
            go_ret
            exact ⟨rfl, HBU.out⟩
        go_wp2_with fail
        refine (HH.out _ (HL.out.below HBU.out)).mono ?_
        rintro e v1 ⟨rfl, hv⟩
        have HBT := hid_intro (HBU.out.trans (hv.mono HBU.out.size))
        have o0 := (hv.cell (p := ⟨w4.heap.size, 0, none⟩) hP5).trans e0
        have o1 := (hv.cell (p := ⟨w4.heap.size, 1, none⟩) hP5).trans e1
        have o2 := (hv.cell (p := ⟨w4.heap.size, 2, none⟩) hP5).trans e2
        clear hv
        go_wp2_with fail
        go_ret
        exact ⟨rfl, HBT.out⟩
    · have q2' : ¬ 0 ≤ b := of_decide_eq_false q2
      go_quiet (fail)
      have HBU := hid_intro (bel_drewN HBV.out nq)
      have e0 : (W9.drewN nq).cell? ⟨w4.heap.size, 0, none⟩ = some (.int .i64 r) := r0
      have e1 : (W9.drewN nq).cell? ⟨w4.heap.size, 1, none⟩ = some (.int .i64 0) := r1
      have e2 : (W9.drewN nq).cell? ⟨w4.heap.size, 2, none⟩ = some (.int .i64 rc) := r2
      have hP5 : w4.heap.size < (W9.drewN nq).heap.size := hP4
      generalize W9.drewN nq = U at *
      clear r0 r1 r2 x0 x1 x2 z0 z1 z2 HBV
      rcases KEYR.out with k9 | ⟨rfl, k9, s, tt, k10, k11, k12, k13, k14⟩
      · have k9b : (rc == 0) = false := by simpa using k9
        rcases KEYM.out with g1 | ⟨g1, g2⟩ | ⟨g1, g2, HH⟩
        iterate 2
          · go_wp2_with fail
            go_ret
            exact ⟨rfl, HBU.out⟩
        go_wp2_with fail
        refine (HH.out _ (HL.out.below HBU.out)).mono ?_
        rintro e v1 ⟨rfl, hv⟩
        have HBT := hid_intro (HBU.out.trans (hv.mono HBU.out.size))
        have o0 := (hv.cell (p := ⟨w4.heap.size, 0, none⟩) hP5).trans e0
        have o1 := (hv.cell (p := ⟨w4.heap.size, 1, none⟩) hP5).trans e1
        have o2 := (hv.cell (p := ⟨w4.heap.size, 2, none⟩) hP5).trans e2
        clear hv
        go_wp2_with fail
        go_ret
        exact ⟨rfl, HBT.out⟩
      · clear HR
        rcases KEYM.out with g1 | ⟨g1, g2⟩ | ⟨g1, g2, HH⟩
        iterate 2
          · go_wp2_with fail
            go_ret
            exact ⟨rfl, HBU.out⟩
        go_wp2_with fail
        refine (HH.out _ (HL.out.below HBU.out)).mono ?_
        rintro e v1 ⟨rfl, hv⟩
        have HBT := hid_intro (HBU.out.trans (hv.mono HBU.out.size))
        have o0 := (hv.cell (p := ⟨w4.heap.size, 0, none⟩) hP5).trans e0
        have o1 := (hv.cell (p := ⟨w4.heap.size, 1, none⟩) hP5).trans e1
        have o2 := (hv.cell (p := ⟨w4.heap.size, 2, none⟩) hP5).trans e2
        clear hv
        go_wp2_with fail
        go_ret
        exact ⟨rfl, HBT.out⟩
    · have q3' : ¬ zc = 0 := by simpa using q3
      go_quiet (fail)
      have HBU := hid_intro (bel_drewN HBV.out nq)
      have e0 : (W9.drewN nq).cell? ⟨w4.heap.size, 0, none⟩ = some (.int .i64 r) := r0
      have e1 : (W9.drewN nq).cell? ⟨w4.heap.size, 1, none⟩ = some (.int .i64 0) := r1
      have e2 : (W9.drewN nq).cell? ⟨w4.heap.size, 2, none⟩ = some (.int .i64 rc) := r2
      have hP5 : w4.heap.size < (W9.drewN nq).heap.size := hP4
      generalize W9.drewN nq = U at *
      clear r0 r1 r2 x0 x1 x2 z0 z1 z2 HBV
      rcases KEYR.out with k9 | ⟨rfl, k9, s, tt, k10, k11, k12, k13, k14⟩
      · have k9b : (rc == 0) = false := by simpa using k9
        rcases KEYM.out with g1 | ⟨g1, g2⟩ | ⟨g1, g2, HH⟩
        iterate 2
          · go_wp2_with fail
            go_ret
            exact ⟨rfl, HBU.out⟩
        go_wp2_with fail
        refine (HH.out _ (HL.out.below HBU.out)).mono ?_
        rintro e v1 ⟨rfl, hv⟩
        have HBT := hid_intro (HBU.out.trans (hv.mono HBU.out.size))
        have o0 := (hv.cell (p := ⟨w4.heap.size, 0, none⟩) hP5).trans e0
        have o1 := (hv.cell (p := ⟨w4.heap.size, 1, none⟩) hP5).trans e1
        have o2 := (hv.cell (p := ⟨w4.heap.size, 2, none⟩) hP5).trans e2
        clear hv
        go_wp2_with fail
        go_ret
        exact ⟨rfl, HBT.out⟩
      · clear HR
        rcases KEYM.out with g1 | ⟨g1, g2⟩ | ⟨g1, g2, HH⟩
        iterate 2
          · go_wp2_with fail
            go_ret
            exact ⟨rfl, HBU.out⟩
        go_wp2_with fail
        refine (HH.out _ (HL.out.below HBU.out)).mono ?_
        rintro e v1 ⟨rfl, hv⟩
        have HBT := hid_intro (HBU.out.trans (hv.mono HBU.out.size))
        have o0 := (hv.cell (p := ⟨w4.heap.size, 0, none⟩) hP5).trans e0
        have o1 := (hv.cell (p := ⟨w4.heap.size, 1, none⟩) hP5).trans e1
        have o2 := (hv.cell (p := ⟨w4.heap.size, 2, none⟩) hP5).trans e2
        clear hv
        go_wp2_with fail
        go_ret
        exact ⟨rfl, HBT.out⟩
    · have q4' : ¬ 1 ≤ c := of_decide_eq_false q4
      go_quiet (fail)
      have HBU := hid_intro (bel_drewN HBV.out nq)
      have e0 : (W9.drewN nq).cell? ⟨w4.heap.size, 0, none⟩ = some (.int .i64 r) := r0
      have e1 : (W9.drewN nq).cell? ⟨w4.heap.size, 1, none⟩ = some (.int .i64 0) := r1
      have e2 : (W9.drewN nq).cell? ⟨w4.heap.size, 2, none⟩ = some (.int .i64 rc) := r2
      have hP5 : w4.heap.size < (W9.drewN nq).heap.size := hP4
      generalize W9.drewN nq = U at *
      clear r0 r1 r2 x0 x1 x2 z0 z1 z2 HBV
      rcases KEYR.out with k9 | ⟨rfl, k9, s, tt, k10, k11, k12, k13, k14⟩
      · have k9b : (rc == 0) = false := by simpa using k9
        rcases KEYM.out with g1 | ⟨g1, g2⟩ | ⟨g1, g2, HH⟩
        iterate 2
          · go_wp2_with fail
            go_ret
            exact ⟨rfl, HBU.out⟩
        go_wp2_with fail
        refine (HH.out _ (HL.out.below HBU.out)).mono ?_
        rintro e v1 ⟨rfl, hv⟩
        have HBT := hid_intro (HBU.out.trans (hv.mono HBU.out.size))
        have o0 := (hv.cell (p := ⟨w4.heap.size, 0, none⟩) hP5).trans e0
        have o1 := (hv.cell (p := ⟨w4.heap.size, 1, none⟩) hP5).trans e1
        have o2 := (hv.cell (p := ⟨w4.heap.size, 2, none⟩) hP5).trans e2
        clear hv
        go_wp2_with fail
        go_ret
        exact ⟨rfl, HBT.out⟩
      · clear HR
        rcases KEYM.out with g1 | ⟨g1, g2⟩ | ⟨g1, g2, HH⟩
        iterate 2
          · go_wp2_with fail
            go_ret
            exact ⟨rfl, HBU.out⟩
        go_wp2_with fail
        refine (HH.out _ (HL.out.below HBU.out)).mono ?_
        rintro e v1 ⟨rfl, hv⟩
        have HBT := hid_intro (HBU.out.trans (hv.mono HBU.out.size))
        have o0 := (hv.cell (p := ⟨w4.heap.size, 0, none⟩) hP5).trans e0
        have o1 := (hv.cell (p := ⟨w4.heap.size, 1, none⟩) hP5).trans e1
        have o2 := (hv.cell (p := ⟨w4.heap.size, 2, none⟩) hP5).trans e2
        clear hv
        go_wp2_with fail
        go_ret
        exact ⟨rfl, HBT.out⟩
theorem walk (a0 : Option Addr) (len0 cap0 : Nat) (z0 : List Int) (a1 : Option Addr) (len1 cap1 : Nat) (z1 : List Int) (w : World) (w0 : IsRow .u8 w a0 len0 cap0 z0) (w1 : IsRow .u8 w a1 len1 cap1 z1) (hL : Laid w) :
    Calls Tryd.prog 4 #[.slice a0 len0 cap0, .slice a1 len1 cap1] w fun e w' => e = .returned (.bool true) ∧ Below w.heap.size w w' := by
  have l0 := w0.len
  have l1 := w1.len
  unfold maxLen at l0 l1
  by_cases h0 : len0 ≤ 1048576
  · by_cases h1 : len1 ≤ 1048576
    · exact law_in a0 a1 len0 cap0 len1 cap1 w hL h0 h1 w0.bytes w1.bytes
    · have q0 : ¬ (1048576 : Int) < (len0 : Int) := by omega
      have q1 : (1048576 : Int) < (len1 : Int) := by omega
      clear w0 w1 hL
      go_enter Tryd.func4, Tryd.ntmps4
      go_wp2
      go_ret
      exact ⟨rfl, Below.refl _ _⟩
  · have q0 : (1048576 : Int) < (len0 : Int) := by omega
    clear w0 w1 hL
    go_enter Tryd.func4, Tryd.ntmps4
    go_wp2
    go_ret
    exact ⟨rfl, Below.refl _ _⟩
set_option maxRecDepth 100000 in
theorem lifted (os : Os) (started : os.Started) (H : Type) (enc : TypeId × Value → H) :
    ReturnsInHanded {} Tryd.checked os 4 .any (fun w args => (Rows.fnScaleSpec.pre enc Tryd.prog Tryd.f4 [] false w args ∧ laidMetH Tryd.prog Snt.laid w) ∧ sizedMet enc Tryd.prog Tryd.f4 (OpenSpec.ofChange Rows.fnScaleSpec) false w args)
      (Rows.fnScaleSpec.post enc Tryd.prog Tryd.f4 false true false false) := by
  refine returnsInHanded_of_change_and (C := Tryd.checked) (X := fun w _ => laidMetH Tryd.prog Snt.laid w) (fun _ _ _ hh h => h.of_heap hh) Snt.own started (by kernel_rfl) Tryd.func4
    (ChangeSpec.witness_shaped (enc := enc) (C := Tryd.checked) (os := os) (X := fun w _ => laidMetH Tryd.prog Snt.laid w) false (World.doorLaid Tryd.prog 400 os) #[.slice none 0 0, .slice none 0 0] 8 rfl (World.shaped_of_RefB (by kernel_rfl) (by kernel_rfl)) (by kernel_rfl) (by kernel_rfl) (by kernel_rfl) (Snt.door_met os _)) ?_
  intro W base args ds gs before hval0 hW _ _ hL _
  have hval : ∀ (j : Nat) t v, Tryd.f4.params[j]? = some t → args[j]? = some v → Value.okWide Tryd.prog W .any base t v := hval0
  have hW' := hW
  obtain ⟨p, q, hA0, hV0, rfl, hfz, hnd⟩ := hW
  have hA : DataW.TrodAll enc Tryd.prog W 0 (fun _ => true) true Tryd.f4.params.toList args.toList ds p := hA0
  have hV : DataW.TrodVars enc Tryd.prog W (fun _ => true) ["loop.example/g00562/impl.errRunsOver"] gs q := hV0
  rw [Tryd.params4] at hA hval
  obtain ⟨v0, v1, d0, d1, p0, p1, rfl, rfl, rfl, h0, h1⟩ := trodAll_two hA
  have k0 := h0
  have lt0 : ∀ x ∈ p0, x.block < W.heap.size := fun x hx => hW'.lt x (by simp [hx])
  obtain ⟨a0, len0, cap0, rfl⟩ := okWide_slice Tryd.underlying22 (hval 0 22 v0 rfl rfl)
  obtain ⟨z0, w0⟩ : ∃ zs, IsRow .u8 W a0 len0 cap0 zs := by
    obtain ⟨fuel, hf⟩ := h0
    rcases open_ints Tryd.underlying22 Tryd.underlying5 (by kernel_rfl) hf with ⟨hcs, _⟩ | ⟨x, l, c, zs, hcs, _, hl, hm, hz, _, hcell, hwz⟩
    · simp [Value.cells] at hcs
      obtain ⟨rfl, rfl, rfl⟩ := hcs
      exact ⟨[], .inl ⟨rfl, rfl, rfl, rfl⟩⟩
    · simp [Value.cells] at hcs
      obtain ⟨rfl, rfl, rfl⟩ := hcs
      exact ⟨zs, .inr ⟨_, rfl, hl, hm, by simpa using hz, hcell, hwz⟩⟩
  have k1 := h1
  have lt1 : ∀ x ∈ p1, x.block < W.heap.size := fun x hx => hW'.lt x (by simp [hx])
  obtain ⟨a1, len1, cap1, rfl⟩ := okWide_slice Tryd.underlying22 (hval 1 22 v1 rfl rfl)
  obtain ⟨z1, w1⟩ : ∃ zs, IsRow .u8 W a1 len1 cap1 zs := by
    obtain ⟨fuel, hf⟩ := h1
    rcases open_ints Tryd.underlying22 Tryd.underlying5 (by kernel_rfl) hf with ⟨hcs, _⟩ | ⟨x, l, c, zs, hcs, _, hl, hm, hz, _, hcell, hwz⟩
    · simp [Value.cells] at hcs
      obtain ⟨rfl, rfl, rfl⟩ := hcs
      exact ⟨[], .inl ⟨rfl, rfl, rfl, rfl⟩⟩
    · simp [Value.cells] at hcs
      obtain ⟨rfl, rfl, rfl⟩ := hcs
      exact ⟨zs, .inr ⟨_, rfl, hl, hm, by simpa using hz, hcell, hwz⟩⟩
  obtain ⟨av, hv⟩ := Snt.of_laid hL
  have hl := Snt.laid_of hv
  obtain ⟨rfl, rfl⟩ := hV.unique (vars_read1 enc Snt.gv Snt.gt Tryd.underlying83 hv trivial _)
  refine (walk a0 len0 cap0 z0 a1 len1 cap1 z1 W w0 w1 hl).mono fun e W' ⟨he, bel⟩ => ?_
  subst he
  exact ⟨_, rfl, _, _, _, _, _, _, hW', trodAll_mk1 (shut_bool Tryd.underlying4 true), trodAll_mk2 (Below.trod Snt.laidOut (by kernel_rfl) (of_decide_eq_true (by kernel_rfl)) k0 bel lt0) (Below.trod Snt.laidOut (by kernel_rfl) (of_decide_eq_true (by kernel_rfl)) k1 bel lt1), vars_read1 enc Snt.gv Snt.gt Tryd.underlying83 (Snt.var_below hl hv bel) trivial _, bel.frame _, fun h => by cases h⟩
theorem row_holds : Rows.FnScaleSaid :=
  OpenClaim.holds_of_wide 4 Tryd.f4 rfl rfl rfl rfl rfl rfl rfl ⟨rfl, rfl, rfl, rfl, rfl⟩ rfl rfl rfl rfl rfl (by kernel_rfl) Tryd.func4 (by kernel_rfl)
    (of_decide_eq_true (by kernel_rfl)) (by unfold Func.isWrapper; rw [if_neg (of_decide_eq_false (by kernel_rfl))]; exact ⟨rfl, rfl⟩)
    (fun os started H enc _ => lifted os started H enc)
theorem card_holds : Rows.FnScaleCardSaid :=
  Claim7.holds_tied_plain_at .later [] [.sentinel] true Rows.fnScaleCard.stood.harness true
    row_holds (fun _ h => by cases h) (by kernel_rfl) (fun _ h => by cases h) fnScale_row_tie rfl ⟨rfl, rfl⟩ (by kernel_rfl) rfl
    (fun f fn hf hfn => by
      obtain rfl : f = 4 := Option.some.inj ((show Tryd.prog.funcNamed "loop.example/g00562/laws.FnScale" = some 4 by kernel_rfl).symm.trans hf) |>.symm
      obtain rfl : fn = Tryd.f4 := (Option.some.inj (Tryd.func4.symm.trans hfn)).symm
      exact ⟨by kernel_rfl, fun j t ht => by
        rw [Tryd.params4] at ht
        have hm : t ∈ [22, 22] := by simpa using Array.mem_of_getElem? ht
        have hall : ([22, 22].all fun u => !Tryd.prog.wantsStandIn u) = true := by kernel_rfl
        exact (show Tryd.prog.wantsStandIn t = false by simpa using List.all_eq_true.1 hall t hm)⟩)
    (by kernel_rfl)
end FnScaleL
/-- THE STATEMENT: THE CARD -/
theorem fnScale_holds : Rows.FnScaleCardSaid := FnScaleL.card_holds
#print axioms fnScale_holds
end Go.Proofs.YtaihfidbpkbnkaaDoor
