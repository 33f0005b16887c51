/-
  spec.BillOf over a catalog and windows. The conditions: sizes of at most 1048576; the program's variables hold what its text lays.
  spec.l08Bill over a right catalog and right windows says what impl.BillOf says. The conditions: sizes of at most 1048576.
  spec.BillOf over a catalog and windows says what impl.BillOf says. The conditions: sizes of at most 1048576.
  FnExactBillOf walked over contracts. The conditions: the contracts.
  The answers of BillOf and BillNow: read, of one's own, held against one another, marked. The conditions: sizes of at most 1048576.
-/
import Derived.Deep.RegionHeld3
import Derived.Test.YtcilbmhkhllmjaaGreatDoorB21
namespace Go.Proofs.YtcilbmhkhllmjaaGreatDoor
open Go.ChangeShapes Go.WideShapes Go.ChangeAt Go.RowKit
set_option linter.unusedVariables false
namespace BilR
open LtR WinR LinR
open RowG (Rws cellsAll own_below getD_mem MadeG made_nil own_made)
open CatR (Blk Blk.new Me Ca mFd mN MsRight MRight IsCa caB crF crO atB)
set_option maxRecDepth 100000 in
set_option maxHeartbeats 8000000 in
theorem sbo_in (ma : Option Addr) (ml mc : Nat) (ca : Option Addr) (cl cc : Nat) (a : ByteArray) (wo : Option Addr) (wc : Nat) (ws : List Wd) (O : List N × Int) (r1 r2 : Bool) (w : World) (hwl : ws.length ≤ 1048576) (hI : Wns wo ws w)
    (e2 : 8000 < a.size ∨ 400 < ws.length → O = ([], 2)) (e1 : ¬ (8000 < a.size ∨ 400 < ws.length) → (r1 && r2 && wsB ws) = false → O = ([], 1))
    (hA : ∀ W, Below w.heap.size w W → Calls Tryz.prog 34 #[.agg #[.slice ma ml mc, .slice ca cl cc]] W fun e w' => e = .returned (.bool r1) ∧ Below W.heap.size W w')
    (hN : ∀ W, Calls Tryz.prog 35 #[.string a] W fun e w' => e = .returned (.bool r2) ∧ Below W.heap.size W w')
    (hw : ∀ k, k < ws.length → ∀ ta tc ha hc W, Below w.heap.size w W → Tgs ta (ws.getD k Wd.zero).ts W → Hrs ha (ws.getD k Wd.zero).hs W → Calls Tryz.prog 36 #[.agg (wcells (ws.getD k Wd.zero) ta tc ha hc)] W fun e w' => e = .returned (.bool (wB (ws.getD k Wd.zero))) ∧ Below W.heap.size W w')
    (hB : ¬ (8000 < a.size ∨ 400 < ws.length) → (r1 && r2 && wsB ws) = true → ∀ W, Below w.heap.size w W → Calls Tryz.prog 37 #[.agg #[.slice ma ml mc, .slice ca cl cc], .string a, .slice wo ws.length wc] W fun e w' => BlO W O e w') :
    Calls Tryz.prog 7 #[.agg #[.slice ma ml mc, .slice ca cl cc], .string a, .slice wo ws.length wc] w fun e w' => BlO w O e w' := by
  have HI := hid_intro hI
  have HE2 := hid_intro e2
  have HE1 := hid_intro e1
  have HA := hid_intro hA
  have HN := hid_intro hN
  have HWR := hid_intro hw
  have HBI := hid_intro hB
  have HF : Hid (∀ k, k < ws.length → wB (ws.getD k Wd.zero) = false → wsB ws = false) := hid_intro (fun k hk h => wsB_no hk h)
  have HG : Hid (20 < ws.length → wsB ws = false) := hid_intro (fun h => by unfold wsB; rw [decide_eq_false (by omega)]; rfl)
  have HY : Hid (ws.length ≤ 20 → (∀ i, i < ws.length → wB (ws.getD i Wd.zero) = true) → wsB ws = true) := hid_intro (fun h h2 => wsB_yes h h2)
  generalize wsB ws = r3 at *
  obtain ⟨wl, hl⟩ : ∃ wl, wl = ws.length := ⟨_, rfl⟩
  have HL := hid_intro hl
  rw [← hl] at hwl HF HG HY HE2 HE1 HWR HBI ⊢
  clear hI e2 e1 hA hN hw hB hl
  obtain ⟨W0, hW0⟩ : ∃ z, z = (w.alloc (.cells #[.slice ma ml mc, .slice ca cl cc] 36)).alloc (.cells #[.slice none 0 0, .int .i64 0] 31) := ⟨_, rfl⟩
  have HB0 : Hid (Below w.heap.size w W0) := hid_intro (by rw [hW0]; exact ((Below.refl _ _).alloc (Nat.le_refl _) _).alloc (by simp) _)
  have HX0 : Hid (Blk w.heap.size [.slice ma ml mc, .slice ca cl cc] W0) := hid_intro (by rw [hW0]; exact (Blk.new w _ _).below ((Below.refl _ _).alloc (Nat.le_refl _) _))
  have HZ0 : Hid (Z2 (w.heap.size + 1) W0) := hid_intro (by rw [hW0]; have := Z2.new (w.alloc (.cells #[.slice ma ml mc, .slice ca cl cc] 36)) 31; simpa using this)
  have HW0 := hid_intro hW0
  clear hW0
  obtain ⟨B1, hB1⟩ : ∃ z, z = w.heap.size + 1 := ⟨_, rfl⟩
  rw [← hB1] at HZ0
  have HBE := hid_intro hB1
  have hBl : w.heap.size ≤ B1 := by omega
  clear hB1
  generalize hsz : a.size = sz at *
  by_cases qa : 8000 < sz
  · have qa2 : (8000 : Int) < (sz : Int) := by omega
    obtain rfl := HE2.out (.inl qa)
    go_enter Tryz.func7, Tryz.ntmps7
    go_wp2_with fail
    rw [← HW0.out, ← HBE.out]
    refine (sill8 2 _).mono ?_
    rintro e wE ⟨rfl, hbE⟩
    have HBE2 := hid_intro (HB0.out.trans (hbE.mono HB0.out.size))
    obtain ⟨zl, z0, z1, y0, y1⟩ := HZ0.out.below hbE
    clear hbE
    go_wp2_with fail
    refine bodyPost_ret (v := .agg #[.slice none 0 0, .int .i64 2]) (by simp [results, Tryz.results7, go_sem, z0, z1]) rfl ⟨none, 0, rfl, made_nil _ _ _, below2 HBE2.out hBl _ _⟩
  have qa2 : ¬ (8000 : Int) < (sz : Int) := by omega
  by_cases qb : 400 < wl
  · have qb2 : (400 : Int) < (wl : Int) := by omega
    obtain rfl := HE2.out (.inr qb)
    go_enter Tryz.func7, Tryz.ntmps7
    go_wp2_with fail
    rw [← HW0.out, ← HBE.out]
    refine (sill8 2 _).mono ?_
    rintro e wE ⟨rfl, hbE⟩
    have HBE2 := hid_intro (HB0.out.trans (hbE.mono HB0.out.size))
    obtain ⟨zl, z0, z1, y0, y1⟩ := HZ0.out.below hbE
    clear hbE
    go_wp2_with fail
    refine bodyPost_ret (v := .agg #[.slice none 0 0, .int .i64 2]) (by simp [results, Tryz.results7, go_sem, z0, z1]) rfl ⟨none, 0, rfl, made_nil _ _ _, below2 HBE2.out hBl _ _⟩
  have qb2 : ¬ (400 : Int) < (wl : Int) := by omega
  have HE := hid_intro (HE1.out (by omega))
  have HBJ := hid_intro (HBI.out (by omega))
  clear HE1 HE2 HBI
  go_enter Tryz.func7, Tryz.ntmps7
  go_wp2_with fail
  rw [← HW0.out, ← HBE.out]
  clear HW0
  refine (HA.out _ HB0.out).mono ?_
  rintro e w1 ⟨rfl, hb1⟩
  replace HB0 := hid_intro (HB0.out.trans (hb1.mono HB0.out.size))
  replace HX0 := hid_intro (HX0.out.below hb1)
  replace HZ0 := hid_intro (HZ0.out.below hb1)
  clear hb1
  cases r1
  · obtain rfl := HE.out rfl
    go_wp2_with fail
    refine (sill8 1 _).mono ?_
    rintro e wE ⟨rfl, hbE⟩
    have HBE2 := hid_intro (HB0.out.trans (hbE.mono HB0.out.size))
    obtain ⟨zl, z0, z1, y0, y1⟩ := HZ0.out.below hbE
    clear hbE
    go_wp2_with fail
    refine bodyPost_ret (v := .agg #[.slice none 0 0, .int .i64 1]) (by simp [results, Tryz.results7, go_sem, z0, z1]) rfl ⟨none, 0, rfl, made_nil _ _ _, below2 HBE2.out hBl _ _⟩
  go_wp2_with fail
  refine (HN.out _).mono ?_
  rintro e w2 ⟨rfl, hb2⟩
  replace HB0 := hid_intro (HB0.out.trans (hb2.mono HB0.out.size))
  replace HX0 := hid_intro (HX0.out.below hb2)
  replace HZ0 := hid_intro (HZ0.out.below hb2)
  clear hb2
  cases r2
  · obtain rfl := HE.out rfl
    go_wp2_with fail
    refine (sill8 1 _).mono ?_
    rintro e wE ⟨rfl, hbE⟩
    have HBE2 := hid_intro (HB0.out.trans (hbE.mono HB0.out.size))
    obtain ⟨zl, z0, z1, y0, y1⟩ := HZ0.out.below hbE
    clear hbE
    go_wp2_with fail
    refine bodyPost_ret (v := .agg #[.slice none 0 0, .int .i64 1]) (by simp [results, Tryz.results7, go_sem, z0, z1]) rfl ⟨none, 0, rfl, made_nil _ _ _, below2 HBE2.out hBl _ _⟩
  by_cases qc : 20 < wl
  · have qc2 : (20 : Int) < (wl : Int) := by omega
    obtain rfl := HE.out (by rw [HG.out qc]; rfl)
    go_wp2_with fail
    refine (sill8 1 _).mono ?_
    rintro e wE ⟨rfl, hbE⟩
    have HBE2 := hid_intro (HB0.out.trans (hbE.mono HB0.out.size))
    obtain ⟨zl, z0, z1, y0, y1⟩ := HZ0.out.below hbE
    clear hbE
    go_wp2_with fail
    refine bodyPost_ret (v := .agg #[.slice none 0 0, .int .i64 1]) (by simp [results, Tryz.results7, go_sem, z0, z1]) rfl ⟨none, 0, rfl, made_nil _ _ _, below2 HBE2.out hBl _ _⟩
  have qc2 : ¬ (20 : Int) < (wl : Int) := by omega
  go_wp2_with fail
  go_loopw [7] (fun z wr => ∃ k : Nat, k ≤ wl ∧ z = .int .i64 k ∧ Hid (∀ i, i < k → wB (ws.getD i Wd.zero) = true) ∧ Hid (Below w2.heap.size w2 wr)) (fun z _ => wl - (intOf z).toNat)
  case atStart => exact ⟨0, by omega, rfl, hid_intro (fun i hi => absurd hi (by omega)), hid_intro (Below.refl _ _)⟩
  case round =>
    obtain ⟨k, hk, rfl, HK, HB⟩ := hrel
    have HBr := hid_intro (HB0.out.trans (HB.out.mono HB0.out.size))
    have HXr := hid_intro (HX0.out.below HB.out)
    have HZr := hid_intro (HZ0.out.below HB.out)
    by_cases hlt : k < wl
    · have hlt2 : (k : Int) < (wl : Int) := by omega
      obtain ⟨b, off, ta, tc, ha, hc, rfl, hbl, c0, c1, c2, c3, c4, c5, c6, c7, hT, hH⟩ := (HI.out.below HBr.out).at k (by have := HL.out; omega)
      have hlk : k < ws.length := by have := HL.out; omega
      have HWK := hid_intro (HWR.out k hlt ta tc ha hc _ HBr.out hT hH)
      have HFK := hid_intro (HF.out k hlt)
      have HMK : Hid (wB (ws.getD k Wd.zero) = true → ∀ i, i < k + 1 → wB (ws.getD i Wd.zero) = true) := hid_intro (fun h i hi => by
        by_cases e : i = k
        · subst e; exact h
        · exact HK.out i (by omega))
      obtain ⟨X, hX⟩ : ∃ z, z = ws.getD k Wd.zero := ⟨_, rfl⟩
      rw [← hX] at c0 c1 c2 c3 c4 c5 c6 c7 hT hH HWK HFK HMK
      generalize hqw : wB X = bw at *
      clear hqw hX
      obtain ⟨xa, xm, xo, xe, xs, xx, xt, xh⟩ := X
      dsimp only [wcells] at c0 c1 c2 c3 c4 c5 c6 c7 HWK
      clear hT hH
      generalize xt.length = tl at *
      generalize xh.length = hl at *
      go_wp2_with fail
      clear c0 c1 c2 c3 c4 c5 c6 c7
      refine HWK.out.mono ?_
      rintro e w3 ⟨rfl, hb⟩
      have HB3 := hid_intro (HB.out.trans (hb.mono HB.out.size))
      have HBr3 := hid_intro (HBr.out.trans (hb.mono HBr.out.size))
      have HZ3 := hid_intro (HZr.out.below hb)
      clear hb HWK
      cases bw
      · obtain rfl := HE.out (by rw [HFK.out rfl]; rfl)
        go_wp2_with fail
        refine (sill8 1 _).mono ?_
        rintro e wE ⟨rfl, hbE⟩
        have HBE2 := hid_intro (HBr3.out.trans (hbE.mono HBr3.out.size))
        obtain ⟨zl, z0, z1, y0, y1⟩ := HZ3.out.below hbE
        clear hbE
        go_wp2_with fail
        refine bodyPost_ret (v := .agg #[.slice none 0 0, .int .i64 1]) (by simp [results, Tryz.results7, go_sem, z0, z1]) rfl ⟨none, 0, rfl, made_nil _ _ _, below2 HBE2.out hBl _ _⟩
      have HK2 := hid_intro (HMK.out rfl)
      go_wp2_with fail
      go_roundw
      case rel => exact ⟨k + 1, by omega, by go_num, HK2, HB3⟩
      case measure => simp [intOf]; omega
    · have hlt2 : ¬ (k : Int) < (wl : Int) := by omega
      obtain rfl : k = wl := by omega
      have HBK := hid_intro (HBJ.out (by rw [HY.out (by omega) HK.out]; rfl) _ HBr.out)
      have x0 := HXr.out.2 0 (by simp)
      have x1 := HXr.out.2 1 (by simp)
      have xL := HXr.out.1
      simp only [List.getElem?_cons_zero, List.getElem?_cons_succ] at x0 x1
      clear HBJ HE
      go_wp2_with fail
      refine HBK.out.mono ?_
      rintro e w8 ⟨ao2, cap2, rfl, hm, hb8⟩
      have HMM := hid_intro (hm.low HBr.out.size)
      have HBL : Hid (B1 < wr.heap.size) := hid_intro HZr.out.1
      have HM7 := hid_intro hm
      have HB8 := hid_intro (HBr.out.trans (hb8.mono HBr.out.size))
      obtain ⟨zl, z0, z1, y0, y1⟩ := HZr.out.below hb8
      clear hm hb8 x0 x1 xL HBK
      generalize hn : O.1.length = n1 at *
      generalize hc2 : O.2 = c2 at *
      go_wp2_with fail
      refine bodyPost_ret (v := .agg #[.slice ao2 n1 cap2, .int .i64 c2]) (by simp [results, Tryz.results7, go_sem, z0, z1]) rfl ⟨ao2, cap2, by rw [hc2, hn], ?_, below2 HB8.out hBl _ _⟩
      exact made_two HM7.out HMM.out HBL.out
end BilR
end Go.Proofs.YtcilbmhkhllmjaaGreatDoor
namespace Go.Proofs.YtcilbmhkhllmjaaGreatDoor
open Go.ChangeShapes Go.WideShapes Go.ChangeAt Go.RowKit
set_option linter.unusedVariables false
namespace BilR
open LtR WinR LinR
open RowG (Rws cellsAll own_below getD_mem MadeG made_nil own_made)
open CatR (Me Ca mFd mN MsRight MRight IsCa IsMe caB crF crO atB rO mFd_hit)
open NetR (fnd)
theorem pl_ex (ms : List Me) (t : ByteArray) : ∃ r, atB ms t r := by
  have h : ∀ n, (∃ k, k < n ∧ CatR.mN ms k = t ∧ ∀ i, i < k → CatR.mN ms i ≠ t) ∨ (∀ i, i < n → CatR.mN ms i ≠ t) := by
    intro n
    induction n with
    | zero => exact .inr (fun i h => absurd h (by omega))
    | succ n ih =>
      rcases ih with ⟨k, hk, h1, h2⟩ | h
      · exact .inl ⟨k, by omega, h1, h2⟩
      · by_cases e : CatR.mN ms n = t
        · exact .inl ⟨n, by omega, e, h⟩
        · refine .inr (fun i hi => ?_)
          by_cases q : i = n
          · subst q; exact e
          · exact h i (by omega)
  rcases h ms.length with ⟨k, hk, h1, h2⟩ | h
  · exact ⟨k, .inl ⟨k, hk, rfl, h1, h2⟩⟩
  · exact ⟨-1, .inr ⟨rfl, h⟩⟩
theorem pl_one {ms : List Me} {t : ByteArray} {r r' : Int} (h : atB ms t r) (h' : atB ms t r') : r = r' := by
  rcases h with ⟨k, hk, rfl, h1, h2⟩ | ⟨rfl, h⟩ <;> rcases h' with ⟨k', hk', rfl, h1', h2'⟩ | ⟨rfl, h'⟩
  · rcases Nat.lt_trichotomy k k' with q | q | q
    · exact (h2' k q h1).elim
    · rw [q]
    · exact (h2 k' q h1').elim
  · exact absurd h1 (h' k hk)
  · exact absurd h1' (h k' hk')
  · rfl
theorem pl_has {ms : List Me} {t : ByteArray} {r : Int} (h : atB ms t r) : hasM ms t = true ↔ 0 ≤ r := by
  rcases h with ⟨k, hk, rfl, h1, h2⟩ | ⟨rfl, h⟩
  · exact ⟨fun _ => by omega, fun _ => hasM_iff.2 ⟨k, hk, h1⟩⟩
  · refine ⟨fun q => ?_, fun q => by omega⟩
    obtain ⟨k, hk, e⟩ := hasM_iff.1 q
    exact absurd e (h k hk)
set_option maxHeartbeats 1000000 in
theorem spec_lbill (ma : Option Addr) (mc : Nat) (ca : Option Addr) (cc : Nat) (c : Ca) (a : ByteArray) (wo : Option Addr) (wc : Nat) (ws : List Wd) (W : World) (hwl : ws.length ≤ 400) (hS : c.Small) (hsm : ∀ i, i < ws.length → (ws.getD i Wd.zero).Small)
    (hMes : CatR.Mes ma c.ms.length c.ms W) (hC : IsCa (.agg #[.slice ma c.ms.length mc, .slice ca c.cs.length cc]) c W) (t1 : caB c = true) (t3 : wsB ws = true) (hI : Wns wo ws W) :
    Calls Tryz.prog 37 #[.agg #[.slice ma c.ms.length mc, .slice ca c.cs.length cc], .string a, .slice wo ws.length wc] W fun e w' => BlO W (billR c a ws) e w' := by
  have hmR := (CatR.caB_iff.1 t1).1
  have hcsR := (CatR.caB_iff.1 t1).2
  obtain ⟨ps, hps, hRw, hRd⟩ := wps_of hI
  have hpl : ps.length = ws.length := by rw [← hps, List.length_map]
  have hgd : ∀ k, k < ps.length → (ps.getD k WP.zero).d = ws.getD k Wd.zero := fun k hk => by rw [← hps]; simp [List.getD, hk]
  have hrd : ∀ k, k < ps.length → (ps.getD k WP.zero).Reads W := fun k hk => hRd _ (getD_mem ps k hk)
  obtain ⟨r, hr⟩ : ∃ r : Nat → Int, ∀ k, atB c.ms (ps.getD k WP.zero).d.m (r k) := ⟨fun k => Classical.choose (pl_ex c.ms (ps.getD k WP.zero).d.m), fun k => Classical.choose_spec (pl_ex c.ms (ps.getD k WP.zero).d.m)⟩
  have hwB : ∀ k, k < ps.length → wB (ps.getD k WP.zero).d = true := fun k hk => by rw [hgd k hk]; exact wsB_all t3 _ (getD_mem ws k (by omega))
  have hall : (∀ k, k < ps.length → ownF a (ps.getD k WP.zero) = true → 0 ≤ r k) → (ws.filter (ownW a)).all (fun x => hasM c.ms x.m) = true := by
    intro h
    rw [List.all_eq_true]
    intro x hx
    obtain ⟨h1, h2⟩ := List.mem_filter.1 hx
    obtain ⟨k, hk, rfl⟩ := List.getElem_of_mem h1
    have e : ws[k] = (ps.getD k WP.zero).d := by rw [hgd k (by omega)]; simp [List.getD, hk]
    rw [e] at h2 ⊢
    exact (pl_has (hr k)).2 (h k (by omega) h2)
  have hbl : bls a ps = srt Wd.m (ws.filter (ownW a)) := by unfold bls; rw [hps, hpl, jx_wds]
  have hin : ∀ x ∈ bls a ps, x ∈ ws ∧ ownW a x = true := fun x hx => by
    rw [hbl] at hx
    exact List.mem_filter.1 ((srt_perm _).mem_iff.1 hx)
  have hbr : (∀ k, k < ps.length → ownF a (ps.getD k WP.zero) = true → 0 ≤ r k) → NoTwo a (ps.map WP.d) ps.length → billR c a ws = if ratC c.ms (bls a ps) ≠ 0 then ([], ratC c.ms (bls a ps)) else (drawL (crF a c.cs) (((bls a ps).map (rN c.ms)).filter nz), 0) := by
    intro h1 h2
    rw [hps, hpl] at h2
    unfold billR
    rw [if_neg (by rw [hall h1]; exact fun e => by cases e), if_neg (by rw [nodB_iff.2 (noTwo_all h2)]; exact fun e => by cases e), ← hbl]
  have h := sbill_in ma c.ms.length mc ca c.cs.length cc c.ms a wo wc ps (billR c a ws) (crF a c.cs) r W (by omega) hS.ml hRw ?_ ?_ ?_ ?_ ?_ ?_ ?_
  · rw [hpl] at h; exact h
  · intro k hk W2 hW2
    refine (CatR.spec_at ma mc ca c.cs.length cc c.ms _ W2 hS.ml (hMes.below hW2)).mono ?_
    rintro e w' ⟨r', rfl, h1, hb⟩
    exact ⟨by rw [pl_one h1 (hr k)], hb⟩
  · intro k hk ho hn
    unfold billR
    rw [if_pos]
    cases hc : (ws.filter (ownW a)).all (fun x => hasM c.ms x.m)
    · rfl
    · have h1 := List.all_eq_true.1 hc (ps.getD k WP.zero).d (List.mem_filter.2 ⟨by rw [hgd k hk]; exact getD_mem ws k (by omega), ho⟩)
      have := (pl_has (hr k)).1 h1
      omega
  · intro h1 k hk ho hf
    unfold billR
    rw [if_neg (by rw [hall h1]; exact fun e => by cases e), if_pos]
    rw [hps, hgd k hk] at hf
    have h2 := two_of (a := a) (ws := ws) (k := k) (by omega) (by rw [← hgd k hk]; exact ho) hf
    cases hc : nodB ((ws.filter (ownW a)).map Wd.m)
    · rfl
    · exact absurd (nodB_iff.1 hc) h2
  · intro k hk ho h0
    have hrk := hr k
    rcases hrk with ⟨i, hi, e, h1, h2⟩ | ⟨e, _⟩
    · have hme := mFd_hit _ c.ms i hi h2 h1
      obtain ⟨b, off, rfl, hbW, hma⟩ := CatR.mes_at hMes i hi
      have hma' := hma
      obtain ⟨ta, tc, c0, c1, c2, c3, c4, c5, hT⟩ := hma'
      obtain ⟨f1, f2⟩ := has_found hmR ((pl_has (hr k)).2 h0)
      obtain ⟨s1, s2, s3, s4, s5⟩ := hsm k (by omega)
      rw [← hgd k hk] at s1 s2 s3 s4 s5
      refine ⟨b, off, i, (mFd (ps.getD k WP.zero).d.m c.ms).n, (mFd (ps.getD k WP.zero).d.m c.ms).g, (mFd (ps.getD k WP.zero).d.m c.ms).wh, (mFd (ps.getD k WP.zero).d.m c.ms).f, (mFd (ps.getD k WP.zero).d.m c.ms).l, ta, (mFd (ps.getD k WP.zero).d.m c.ms).ts.length, tc, rfl, e, hi, rfl, fun W2 hW2 => ?_, fun W2 hW2 => ?_, fun W2 hW2 => ?_⟩
      · rw [hme]
        have f := fun x => hW2.cell (p := ⟨b, x, none⟩) hbW
        exact ⟨by have := hW2.size; omega, (f _).trans c0, (f _).trans c1, (f _).trans c2, (f _).trans c3, (f _).trans c4, (f _).trans c5⟩
      · exact svalue_in _ _ _ _ _ _ _ _ _ _ (ps.getD k WP.zero).d.hs _ _ W2 s5 ((hrd k hk).below hW2).2
      · exact CatR.spec_rate _ _ _ W2 f1 (valV_in (hwB k hk) _) ⟨ta, tc, rfl, by rw [hme]; exact hT.below hW2⟩
    · omega
  · intro h1 h2 q hq2 h3 h4
    have h5 := ratC_hit hq2 h3 h4
    rw [hbr h1 h2, if_pos (by rw [h5]; exact h4), h5]
  · exact fun W2 hW2 => CatR.spec_cr0 _ c a W2 hS (hC.below hW2)
  · intro h1 h2 h3 bo cap W2 hLi
    have h5 := ratC_none h3
    have hRS : Ris Wd.m (bls a ps) := by
      rw [hbl]
      refine srt_ris _ ?_
      rw [hps, hpl] at h2
      exact noTwo_all h2
    have hsr : SRight (((bls a ps).map (rN c.ms)).filter nz) := lines_right hmR hRS (fun x hx => List.all_eq_true.1 (hall h1) x (by rw [hbl] at hx; exact (srt_perm _).mem_iff.1 hx)) (fun x hx => wsB_all t3 _ (hin x hx).1) (fun x hx => ratC_zero h5 x hx)
    rw [hbr h1 h2, if_neg (by rw [h5]; exact fun h => h rfl)]
    obtain ⟨q1, q2⟩ := cr_in hcsR a
    refine (spec_drawn0 bo cap _ (crF a c.cs) W2 hsr ⟨q1, by omega⟩ hLi).mono ?_
    rintro e w' ⟨v, rfl, ho, hb⟩
    obtain ⟨ao, cp, rfl, hm⟩ := own_made (cells := N.cells) (k := 2) (z := N.zero) N.len ho
    exact ⟨ao, cp, rfl, rfl, hm, hb⟩
end BilR
end Go.Proofs.YtcilbmhkhllmjaaGreatDoor
namespace Go.Proofs.YtcilbmhkhllmjaaGreatDoor
open Go.ChangeShapes Go.WideShapes Go.ChangeAt Go.RowKit
set_option linter.unusedVariables false
namespace BilR
open LtR WinR LinR
open CatR (Me Ca IsCa caB)
set_option maxHeartbeats 1000000 in
theorem spec_bill (cv : Value) (c : Ca) (a : ByteArray) (wo : Option Addr) (wc : Nat) (ws : List Wd) (w : World) (hwl : ws.length ≤ 1048576) (ha : a.size ≤ 1048576) (hS : c.Small) (hsm : ∀ i, i < ws.length → (ws.getD i Wd.zero).Small)
    (hC : IsCa cv c w) (hI : Wns wo ws w) :
    Calls Tryz.prog 7 #[cv, .string a, .slice wo ws.length wc] w fun e w' => BlO w (billB c a ws) e w' := by
  have hO1 : ¬ (8000 < a.size ∨ 400 < ws.length) → (caB c && NameR.nameB a && wsB ws) = true → billB c a ws = billR c a ws := fun h1 h2 => by unfold billB; rw [if_neg h1, if_pos h2]
  have hC' := hC
  obtain ⟨ma, mc, ca, cc, rfl, hMes, _⟩ := hC'
  refine sbo_in ma _ mc ca _ cc a wo wc ws (billB c a ws) (caB c) (NameR.nameB a) w hwl hI ?_ ?_ ?_ ?_ ?_ ?_
  · exact fun h => by unfold billB; rw [if_pos h]
  · exact fun h1 h2 => by unfold billB; rw [if_neg h1, if_neg (by rw [h2]; exact Bool.false_ne_true)]
  · exact fun W hW => CatR.spec_ca _ c W hS (hC.below hW)
  · exact fun W => (NameR.spec_any a W ha).mono (by rintro e w' ⟨h, rfl⟩; exact ⟨h, Below.refl _ _⟩)
  · intro k hk ta tc h1 h2 W hW hT hH
    obtain ⟨s1, s2, s3, s4, s5⟩ := hsm k hk
    exact spec_window_right _ ta tc h1 h2 W s1 s2 s3 s4 hT hH
  · intro hq ht W hW
    rw [hO1 hq ht]
    have ht' := ht
    simp only [Bool.and_eq_true] at ht'
    obtain ⟨⟨t1, t2⟩, t3⟩ := ht'
    exact spec_lbill ma mc ca cc c a wo wc ws W (by omega) hS hsm (hMes.below hW) (hC.below hW) t1 t3 (hI.below hW)
end BilR
end Go.Proofs.YtcilbmhkhllmjaaGreatDoor
namespace Go.Proofs.YtcilbmhkhllmjaaGreatDoor
open Go.ChangeShapes Go.WideShapes Go.ChangeAt Go.RowKit
set_option linter.unusedVariables false
namespace BillL
open CatR EngR ChG
/-- What is held through the region that draws. -/
def BX (w5 : World) (B1 B2 : Nat) (a0 a1 b0 b1 : Value) (W : World) : Prop := Below w5.heap.size w5 W ∧ B1 < W.heap.size ∧ B2 < W.heap.size ∧ W.cell? ⟨B1, 0, none⟩ = some a0 ∧ W.cell? ⟨B1, 1, none⟩ = some a1 ∧ W.cell? ⟨B2, 0, none⟩ = some b0 ∧ W.cell? ⟨B2, 1, none⟩ = some b1
theorem BX.below {w5 : World} {B1 B2 : Nat} {a0 a1 b0 b1 : Value} {W W' : World} (h : BX w5 B1 B2 a0 a1 b0 b1 W) (hb : Below W.heap.size W W') : BX w5 B1 B2 a0 a1 b0 b1 W' := by
  obtain ⟨h0, l1, l2, p0, p1, p2, p3⟩ := h
  have f := fun o => hb.cell (p := ⟨B1, o, none⟩) l1
  have g := fun o => hb.cell (p := ⟨B2, o, none⟩) l2
  have hs := hb.size
  exact ⟨h0.trans (hb.mono h0.size), by omega, by omega, (f 0).trans p0, (f 1).trans p1, (g 0).trans p2, (g 1).trans p3⟩
theorem BX.drew {w5 : World} {B1 B2 : Nat} {a0 a1 b0 b1 : Value} {W : World} (h : BX w5 B1 B2 a0 a1 b0 b1 W) : BX w5 B1 B2 a0 a1 b0 b1 W.drew := ⟨h.1.drew, h.2⟩
set_option maxRecDepth 100000 in
set_option maxHeartbeats 16000000 in
theorem law_in (P PW : Prop) (M V : Value → World → Prop) (N NW : Nat → Nat → Value → World → Prop) (L : World → Prop) (R : Value → World → Prop) (O : Nat → Value → World → Prop) (ma : Option Addr) (ml mc : Nat) (ca : Option Addr) (cl cc : Nat) (a : ByteArray) (ua : Option Addr) (ul uc : Nat) (w : World)
    (hI : M (.agg #[.slice ma ml mc, .slice ca cl cc]) w)
    (hJ : V (.slice ua ul uc) w)
    (hL : L w)
    (hkm : ∀ v w w', M v w → Below w.heap.size w w' → M v w')
    (hkv : ∀ v w w', V v w → Below w.heap.size w w' → V v w')
    (hkl : ∀ w w', L w → Below w.heap.size w w' → L w')
    (hkn : ∀ b t v w w', N b t v w → Kq b w w' → N b t v w')
    (hkw : ∀ b t v w w', NW b t v w → Kq b w w' → NW b t v w')
    (hR : ∀ v W W', R v W → Below W.heap.size W W' → R v W')
    (hOR : ∀ b v W, O b v W → R v W)
    (hOK : ∀ b v W W', O b v W → Kq b W W' → O b v W')
    (hF : ∀ b v W, O b v W → ∃ (a0 : Option Addr) (n0 : Nat) (c0 : Nat) (e0 : Int), v = .agg #[.slice a0 n0 c0, .int .i64 e0])
    (hZ : ∀ w, M (.agg #[.slice ma ml mc, .slice ca cl cc]) w → Calls Tryz.prog 5 #[.agg #[.slice ma ml mc, .slice ca cl cc], .int .i64 1048576] w fun e w' => SzOut 1048576 P e ∧ Below w.heap.size w w')
    (hZW : ∀ z, 0 ≤ z → z ≤ 1048576 → ∀ w, V (.slice ua ul uc) w → Calls Tryz.prog 6 #[.slice ua ul uc, .int .i64 z] w fun e w' => SzOut z PW e ∧ Below w.heap.size w w')
    (hT : P → ∀ v w, M v w → Calls Tryz.prog 8 #[v] w fun e w' => (∃ (pma pca : Option Addr) (pmc pcc : Nat), e = .returned (.agg #[.slice pma ml pmc, .slice pca cl pcc]) ∧ M (.agg #[.slice pma ml pmc, .slice pca cl pcc]) w' ∧ N w.heap.size w'.heap.size (.agg #[.slice pma ml pmc, .slice pca cl pcc]) w') ∧ Below w.heap.size w w')
    (hTW : PW → ∀ v w, V v w → Calls Tryz.prog 9 #[v] w fun e w' => (∃ (pua : Option Addr) (puc : Nat), e = .returned (.slice pua ul puc) ∧ V (.slice pua ul puc) w' ∧ NW w.heap.size w'.heap.size (.slice pua ul puc) w') ∧ Below w.heap.size w w')
    (hS : ¬ (1048576 : Int) < (a.size : Int) → P → PW → ∀ v u w, L w → M v w → V u w → Calls Tryz.prog 7 #[v, .string a, u] w fun e w' => ∃ v', e = .returned v' ∧ O w.heap.size v' w' ∧ Below w.heap.size w w')
    (hM : ¬ (1048576 : Int) < (a.size : Int) → P → PW → ∀ v u w, L w → M v w → V u w → Calls Tryz.prog 10 #[v, .string a, u] w fun e w' => ∃ v', e = .returned v' ∧ O w.heap.size v' w' ∧ Below w.heap.size w w')
    (hE : PW → ∀ v v' W, R v W → R v' W → Calls Tryz.prog 11 #[v, v'] W fun e w' => e = .returned (.bool true) ∧ Below W.heap.size W w')
    (hEE : P → ∀ v v' w, M v w → M v' w → Calls Tryz.prog 12 #[v, v'] w fun e w' => e = .returned (.bool true) ∧ Below w.heap.size w w')
    (hEW : PW → ∀ v v' w, V v w → V v' w → Calls Tryz.prog 13 #[v, v'] w fun e w' => e = .returned (.bool true) ∧ Below w.heap.size w w')
    (hMk : P → ∀ base top v w, N base top v w → Calls Tryz.prog 14 #[v, .int .i64 1] w fun e w' => (∃ K : Nat, e = .returned (.int .i64 (K : Nat)) ∧ 1 ≤ K ∧ K ≤ 60000000000001) ∧ Chg (fun b => base ≤ b ∧ b < top) w w')
    (hMw : PW → ∀ base top (K : Nat), 1 ≤ K → K ≤ 60000000000001 → ∀ v w, NW base top v w → Calls Tryz.prog 15 #[v, .int .i64 (K : Nat)] w fun e w' => (∃ K : Nat, e = .returned (.int .i64 (K : Nat))) ∧ Chg (fun b => base ≤ b ∧ b < top) w w')
    (hK : PW → ∀ base v Wt W, O base v Wt → Kq base Wt W → Calls Tryz.prog 16 #[v, .int .i64 1] W fun e w' => ∃ KK : Nat, e = .returned (.int .i64 KK) ∧ Chg (fun b => base ≤ b ∧ b < Wt.heap.size) W w' ∧ ∀ w2, Below w'.heap.size w' w2 → Calls Tryz.prog 17 #[v, .int .i64 1] w2 fun e w3 => e = .returned (.int .i64 KK) ∧ Below w2.heap.size w2 w3) :
    Calls Tryz.prog 3 #[.agg #[.slice ma ml mc, .slice ca cl cc], .string a, .slice ua ul uc] w fun e w' => e = .returned (.bool true) ∧ Below w.heap.size w w' := by
  have HI := hid_intro hI
  have HJ := hid_intro hJ
  have HLD := hid_intro hL
  have HKM := hid_intro hkm
  have HKV := hid_intro hkv
  have HLK := hid_intro hkl
  have HKN := hid_intro hkn
  have HKW := hid_intro hkw
  have HR := hid_intro hR
  have HOR := hid_intro hOR
  have HOK := hid_intro hOK
  have HF := hid_intro hF
  have HZ := hid_intro hZ
  have HZW := hid_intro hZW
  have HT := hid_intro hT
  have HTW := hid_intro hTW
  have HS := hid_intro hS
  have HM := hid_intro hM
  have HE := hid_intro hE
  have HEE := hid_intro hEE
  have HEW := hid_intro hEW
  have HMK := hid_intro hMk
  have HMW := hid_intro hMw
  have HK := hid_intro hK
  clear hI hJ hL hkm hkv hkl hkn hkw hR hOR hOK hF hZ hZW hT hTW hS hM hE hEE hEW hMk hMw hK
  by_cases hq : (1048576 : Int) < (a.size : Int)
  · go_enter Tryz.func3, Tryz.ntmps3
    go_wp2_with fail
    go_ret
    exact ⟨rfl, (Below.refl _ _).alloc (Nat.le_refl _) _⟩
  have HA : Hid (Blk w.heap.size [.slice ma ml mc, .slice ca cl cc] (w.alloc (.cells #[.slice ma ml mc, .slice ca cl cc] 25))) := hid_intro (Blk.new w _ _)
  have HB : Hid (Below w.heap.size w (w.alloc (.cells #[.slice ma ml mc, .slice ca cl cc] 25))) := hid_intro ((Below.refl _ _).alloc (Nat.le_refl _) _)
  go_enter Tryz.func3, Tryz.ntmps3
  go_wp2_with fail
  refine (HZ.out _ (HKM.out _ _ _ HI.out HB.out)).mono ?_
  rintro e w1 ⟨⟨Z1, rfl, hZ1⟩, hb1⟩
  replace HA := hid_intro (HA.out.below hb1)
  replace HB := hid_intro (HB.out.trans (hb1.mono HB.out.size))
  clear hb1
  rcases hZ1 with rfl | ⟨hz0, hz1, hP⟩
  · go_wp2_with fail
    go_ret
    exact ⟨rfl, HB.out⟩
  have hz2 : ¬ Z1 < 0 := by omega
  go_wp2_with fail
  refine (HZW.out Z1 hz0 hz1 _ (HKV.out _ _ _ HJ.out HB.out)).mono ?_
  rintro e w2 ⟨⟨Z2, rfl, hZ2⟩, hb2⟩
  replace HA := hid_intro (HA.out.below hb2)
  replace HB := hid_intro (HB.out.trans (hb2.mono HB.out.size))
  clear hb2
  rcases hZ2 with rfl | ⟨hz3, hz4, hPW⟩
  · go_wp2_with fail
    go_ret
    exact ⟨rfl, HB.out⟩
  have hz5 : ¬ Z2 < 0 := by omega
  replace HT := hid_intro (HT.out hP)
  replace HEE := hid_intro (HEE.out hP)
  replace HMK := hid_intro (HMK.out hP)
  replace HTW := hid_intro (HTW.out hPW)
  replace HEW := hid_intro (HEW.out hPW)
  replace HMW := hid_intro (HMW.out hPW)
  replace HS := hid_intro (HS.out hq hP hPW)
  replace HM := hid_intro (HM.out hq hP hPW)
  replace HE := hid_intro (HE.out hPW)
  replace HK := hid_intro (HK.out hPW)
  clear hP hPW HZ HZW hz0 hz1 hz2 hz3 hz4
  have r0 : w2.cell? ⟨w.heap.size, 0, none⟩ = some (.slice ma ml mc) := HA.out.2 0 (by simp)
  have r1 : w2.cell? ⟨w.heap.size, 1, none⟩ = some (.slice ca cl cc) := HA.out.2 1 (by simp)
  have rL := HA.out.1
  go_wp2_with fail
  refine (HT.out _ _ (HKM.out _ _ _ HI.out HB.out)).mono ?_
  rintro e w3 ⟨⟨yma, yca, ymc, ycc, rfl, hM, hN⟩, hb3⟩
  replace HA := hid_intro (HA.out.below hb3)
  replace HB := hid_intro (HB.out.trans (hb3.mono HB.out.size))
  have MV := hid_intro hM
  clear hM hN
  clear hb3
  clear r0 r1 rL
  go_wp2_with fail
  refine (HTW.out _ _ (HKV.out _ _ _ HJ.out HB.out)).mono ?_
  rintro e w4 ⟨⟨yua, yuc, rfl, hV, hNW⟩, hb4⟩
  replace HA := hid_intro (HA.out.below hb4)
  replace HB := hid_intro (HB.out.trans (hb4.mono HB.out.size))
  replace MV := hid_intro (HKM.out _ _ _ MV.out hb4)
  have VV := hid_intro hV
  clear hV hNW
  clear hb4
  go_wp2_with fail
  refine (HS.out _ _ _ (HLK.out _ _ HLD.out HB.out) MV.out VV.out).mono ?_
  rintro e w5 ⟨v, rfl, hv, hb5⟩
  replace HA := hid_intro (HA.out.below hb5)
  replace HB := hid_intro (HB.out.trans (hb5.mono HB.out.size))
  replace MV := hid_intro (HKM.out _ _ _ MV.out hb5)
  obtain ⟨a1, n1, c1, e1, rfl⟩ := HF.out _ _ _ hv
  have HR1 := hid_intro (HOR.out _ _ _ hv)
  clear hv
  clear hb5
  clear MV VV
  have HAz := HA
  obtain ⟨w6, hw6⟩ : ∃ z, z = w5.alloc (.cells #[.slice a1 n1 c1, .int .i64 e1] 31) := ⟨_, rfl⟩
  have al : Below w5.heap.size w5 w6 := by rw [hw6]; exact (Below.refl _ _).alloc (Nat.le_refl _) _
  have HX1 : Hid (Blk w5.heap.size [.slice a1 n1 c1, .int .i64 e1] w6) := hid_intro (by rw [hw6]; exact Blk.new w5 [.slice a1 n1 c1, .int .i64 e1] 31)
  replace HA := hid_intro (HA.out.below al)
  replace HB := hid_intro (HB.out.trans (al.mono HB.out.size))
  replace HR1 := hid_intro (HR.out _ _ _ HR1.out al)
  obtain ⟨B1, hB1⟩ : ∃ z, z = w5.heap.size := ⟨_, rfl⟩
  rw [← hB1] at HX1
  have HW := hid_intro hw6
  have HBBB1 := hid_intro hB1
  clear al hw6 hB1
  have HBW := hid_intro (Below.refl w6.heap.size w6)
  have HSZ0 : Hid (w.heap.size ≤ w6.heap.size) := hid_intro HB.out.size
  have HA6 := HA
  have HR6 := HR1
  have HX6 := HX1
  clear HR1 HX1 HA
  have r0 : w5.cell? ⟨w.heap.size, 0, none⟩ = some (.slice ma ml mc) := HAz.out.2 0 (by simp)
  have r1 : w5.cell? ⟨w.heap.size, 1, none⟩ = some (.slice ca cl cc) := HAz.out.2 1 (by simp)
  have rL := HAz.out.1
  go_wp2_with fail
  rw [← HW.out, ← HBBB1.out]
  clear HW HAz
  clear r0 r1 rL
  have HAz := HA6
  have r0 : w6.cell? ⟨w.heap.size, 0, none⟩ = some (.slice ma ml mc) := HAz.out.2 0 (by simp)
  have r1 : w6.cell? ⟨w.heap.size, 1, none⟩ = some (.slice ca cl cc) := HAz.out.2 1 (by simp)
  have rL := HAz.out.1
  clear HAz
  go_wp2_with fail
  refine (HT.out _ _ (HKM.out _ _ _ HI.out HB.out)).mono ?_
  rintro e w7 ⟨⟨xma, xca, xmc, xcc, rfl, hM, hN⟩, hb7⟩
  replace HB := hid_intro (HB.out.trans (hb7.mono HB.out.size))
  replace HBW := hid_intro (HBW.out.trans (hb7.mono HBW.out.size))
  have MX := hid_intro hM
  have HN := hid_intro hN
  have HSZ1 : Hid (w6.heap.size ≤ w7.heap.size) := hid_intro hb7.size
  clear hM hN
  clear hb7
  clear r0 r1 rL
  obtain ⟨w8, hw8⟩ : ∃ z, z = w7.alloc (.cells #[.slice xma ml xmc, .slice xca cl xcc] 36) := ⟨_, rfl⟩
  have al : Below w7.heap.size w7 w8 := by rw [hw8]; exact (Below.refl _ _).alloc (Nat.le_refl _) _
  have HX0 : Hid (Blk w7.heap.size [.slice xma ml xmc, .slice xca cl xcc] w8) := hid_intro (by rw [hw8]; exact Blk.new w7 [.slice xma ml xmc, .slice xca cl xcc] 36)
  replace HB := hid_intro (HB.out.trans (al.mono HB.out.size))
  replace HBW := hid_intro (HBW.out.trans (al.mono HBW.out.size))
  replace MX := hid_intro (HKM.out _ _ _ MX.out al)
  replace HN := hid_intro (HKN.out _ _ _ _ _ HN.out (Kq.below (Kq.refl _ _) al))
  obtain ⟨B0, hB0⟩ : ∃ z, z = w7.heap.size := ⟨_, rfl⟩
  rw [← hB0] at HX0
  have HW := hid_intro hw8
  have HBBB0 := hid_intro hB0
  clear al hw8 hB0
  have HSZ2 : Hid (w7.heap.size < w8.heap.size) := hid_intro (by have := HX0.out.1; have := HBBB0.out; omega)
  go_wp2_with fail
  rw [← HW.out, ← HBBB0.out]
  clear HW
  refine (HTW.out _ _ (HKV.out _ _ _ HJ.out HB.out)).mono ?_
  rintro e w9 ⟨⟨xua, xuc, rfl, hV, hNW⟩, hb9⟩
  replace HB := hid_intro (HB.out.trans (hb9.mono HB.out.size))
  replace HBW := hid_intro (HBW.out.trans (hb9.mono HBW.out.size))
  replace MX := hid_intro (HKM.out _ _ _ MX.out hb9)
  replace HN := hid_intro (HKN.out _ _ _ _ _ HN.out (Kq.below (Kq.refl _ _) hb9))
  replace HX0 := hid_intro (HX0.out.below hb9)
  have VX := hid_intro hV
  have HNW := hid_intro hNW
  have HSZ3 : Hid (w8.heap.size ≤ w9.heap.size) := hid_intro hb9.size
  clear hV hNW
  clear hb9
  have s0 : w9.cell? ⟨B0, 0, none⟩ = some (.slice xma ml xmc) := HX0.out.2 0 (by simp)
  have s1 : w9.cell? ⟨B0, 1, none⟩ = some (.slice xca cl xcc) := HX0.out.2 1 (by simp)
  have sL := HX0.out.1
  go_wp2_with fail
  refine (HM.out _ _ _ (HLK.out _ _ HLD.out HB.out) MX.out VX.out).mono ?_
  rintro e w10 ⟨v, rfl, hv, hb10⟩
  replace HB := hid_intro (HB.out.trans (hb10.mono HB.out.size))
  replace HBW := hid_intro (HBW.out.trans (hb10.mono HBW.out.size))
  replace MX := hid_intro (HKM.out _ _ _ MX.out hb10)
  replace HN := hid_intro (HKN.out _ _ _ _ _ HN.out (Kq.below (Kq.refl _ _) hb10))
  replace HX0 := hid_intro (HX0.out.below hb10)
  replace VX := hid_intro (HKV.out _ _ _ VX.out hb10)
  replace HNW := hid_intro (HKW.out _ _ _ _ _ HNW.out (Kq.below (Kq.refl _ _) hb10))
  have HO2 := hid_intro hv
  obtain ⟨a2, n2, c2, e2, rfl⟩ := HF.out _ _ _ hv
  have HKP := hid_intro (Kq.refl w9.heap.size w10)
  have HS9 : Hid (w9.heap.size ≤ w10.heap.size) := hid_intro hb10.size
  clear hv
  clear hb10
  clear s0 s1 sL
  have HX1z := hid_intro (HX6.out.below HBW.out)
  have HX0z := HX0
  obtain ⟨w11, hw11⟩ : ∃ z, z = w10.alloc (.cells #[.slice a2 n2 c2, .int .i64 e2] 31) := ⟨_, rfl⟩
  have al : Below w10.heap.size w10 w11 := by rw [hw11]; exact (Below.refl _ _).alloc (Nat.le_refl _) _
  have HX2 : Hid (Blk w10.heap.size [.slice a2 n2 c2, .int .i64 e2] w11) := hid_intro (by rw [hw11]; exact Blk.new w10 [.slice a2 n2 c2, .int .i64 e2] 31)
  replace HB := hid_intro (HB.out.trans (al.mono HB.out.size))
  replace HBW := hid_intro (HBW.out.trans (al.mono HBW.out.size))
  replace MX := hid_intro (HKM.out _ _ _ MX.out al)
  replace HN := hid_intro (HKN.out _ _ _ _ _ HN.out (Kq.below (Kq.refl _ _) al))
  replace HX0 := hid_intro (HX0.out.below al)
  replace VX := hid_intro (HKV.out _ _ _ VX.out al)
  replace HNW := hid_intro (HKW.out _ _ _ _ _ HNW.out (Kq.below (Kq.refl _ _) al))
  replace HKP := hid_intro (HKP.out.below al)
  obtain ⟨B2, hB2⟩ : ∃ z, z = w10.heap.size := ⟨_, rfl⟩
  rw [← hB2] at HX2
  have HW := hid_intro hw11
  have HBBB2 := hid_intro hB2
  clear al hw11 hB2
  have HLB2 : Hid (w9.heap.size ≤ B2) := hid_intro (by have := HS9.out; have := HBBB2.out; omega)
  have x0 : w10.cell? ⟨B1, 0, none⟩ = some (.slice a1 n1 c1) := HX1z.out.2 0 (by simp)
  have x1 : w10.cell? ⟨B1, 1, none⟩ = some (.int .i64 e1) := HX1z.out.2 1 (by simp)
  have xL := HX1z.out.1
  have s0 : w10.cell? ⟨B0, 0, none⟩ = some (.slice xma ml xmc) := HX0z.out.2 0 (by simp)
  have s1 : w10.cell? ⟨B0, 1, none⟩ = some (.slice xca cl xcc) := HX0z.out.2 1 (by simp)
  have sL := HX0z.out.1
  go_wp2_with fail
  rw [← HW.out, ← HBBB2.out]
  clear HW HX1z HX0z
  clear x0 x1 xL
  clear s0 s1 sL
  have HX1z := hid_intro (HX6.out.below HBW.out)
  have x0 : w11.cell? ⟨B1, 0, none⟩ = some (.slice a1 n1 c1) := HX1z.out.2 0 (by simp)
  have x1 : w11.cell? ⟨B1, 1, none⟩ = some (.int .i64 e1) := HX1z.out.2 1 (by simp)
  have xL := HX1z.out.1
  have y0 : w11.cell? ⟨B2, 0, none⟩ = some (.slice a2 n2 c2) := HX2.out.2 0 (by simp)
  have y1 : w11.cell? ⟨B2, 1, none⟩ = some (.int .i64 e2) := HX2.out.2 1 (by simp)
  have yL := HX2.out.1
  go_wp2_with fail
  refine (HE.out _ _ _ (HOR.out _ _ _ (HOK.out _ _ _ _ HO2.out HKP.out)) (HR.out _ _ _ HR6.out HBW.out)).mono ?_
  rintro e w12 ⟨rfl, hb12⟩
  replace HB := hid_intro (HB.out.trans (hb12.mono HB.out.size))
  replace HBW := hid_intro (HBW.out.trans (hb12.mono HBW.out.size))
  replace MX := hid_intro (HKM.out _ _ _ MX.out hb12)
  replace HN := hid_intro (HKN.out _ _ _ _ _ HN.out (Kq.below (Kq.refl _ _) hb12))
  replace HX0 := hid_intro (HX0.out.below hb12)
  replace VX := hid_intro (HKV.out _ _ _ VX.out hb12)
  replace HNW := hid_intro (HKW.out _ _ _ _ _ HNW.out (Kq.below (Kq.refl _ _) hb12))
  replace HKP := hid_intro (HKP.out.below hb12)
  replace HX2 := hid_intro (HX2.out.below hb12)
  clear hb12
  clear x0 x1 xL
  clear HX1z
  clear y0 y1 yL
  have HAz := hid_intro (HA6.out.below HBW.out)
  have r0 : w12.cell? ⟨w.heap.size, 0, none⟩ = some (.slice ma ml mc) := HAz.out.2 0 (by simp)
  have r1 : w12.cell? ⟨w.heap.size, 1, none⟩ = some (.slice ca cl cc) := HAz.out.2 1 (by simp)
  have rL := HAz.out.1
  have s0 : w12.cell? ⟨B0, 0, none⟩ = some (.slice xma ml xmc) := HX0.out.2 0 (by simp)
  have s1 : w12.cell? ⟨B0, 1, none⟩ = some (.slice xca cl xcc) := HX0.out.2 1 (by simp)
  have sL := HX0.out.1
  have HS0 : Hid (BX w12 w.heap.size B0 (.slice ma ml mc) (.slice ca cl cc) (.slice xma ml xmc) (.slice xca cl xcc) w12) := hid_intro ⟨Below.refl _ _, rL, sL, r0, r1, s0, s1⟩
  have HS1 := hid_intro HS0.out.drew
  have HM5 : Hid (∀ W, Below w12.heap.size w12 W → Calls Tryz.prog 8 #[.agg #[.slice ma ml mc, .slice ca cl cc]] W fun e w' => (∃ (pma pca : Option Addr) (pmc pcc : Nat),  e = .returned (.agg #[.slice pma ml pmc, .slice pca cl pcc]) ∧ M (.agg #[.slice pma ml pmc, .slice pca cl pcc]) w' ∧ M (.agg #[.slice xma ml xmc, .slice xca cl xcc]) w') ∧ Below W.heap.size W w') := hid_intro (fun W hW => (HT.out _ W (HKM.out _ _ _ HI.out (HB.out.trans (hW.mono HB.out.size)))).mono fun e w' h => by
    obtain ⟨⟨pma, pca, pmc, pcc, he, h1, _⟩, hb⟩ := h
    exact ⟨⟨pma, pca, pmc, pcc, he, h1, HKM.out _ _ _ MX.out (hW.trans (hb.mono hW.size))⟩, hb⟩)
  go_wp2_with fail
  go_region_held3 (fun W => Below w12.heap.size w12 W ∧ w.heap.size < W.heap.size ∧ B0 < W.heap.size ∧ W.cell? ⟨w.heap.size, 0, none⟩ = some (.slice ma ml mc) ∧ W.cell? ⟨w.heap.size, 1, none⟩ = some (.slice ca cl cc) ∧ W.cell? ⟨B0, 0, none⟩ = some (.slice xma ml xmc) ∧ W.cell? ⟨B0, 1, none⟩ = some (.slice xca cl xcc)) (first | assumption | (exact HS0.out) | (exact HS1.out) | (exact BX.below (w5 := w12) (B1 := w.heap.size) (B2 := B0) (by assumption) hb13) | (exact BX.below (w5 := w12) (B1 := w.heap.size) (B2 := B0) (by assumption) hb14))
    (first | (go_at_call 8; refine (HM5.out _ (by first | exact (by assumption : BX w12 w.heap.size B0 (.slice ma ml mc) (.slice ca cl cc) (.slice xma ml xmc) (.slice xca cl xcc) _).1 | exact HS0.out.1 | exact HS1.out.1)).mono ?_; rintro e w13 ⟨⟨zma, zca, zmc, zcc, rfl, hN6, hN7⟩, hb13⟩) | (go_at_call 12; refine (HEE.out _ _ _ hN7 hN6).mono ?_; rintro e w14 ⟨rfl, hb14⟩))
  rename_i hS
  have hbS := hS.1
  replace HB := hid_intro (HB.out.trans (hbS.mono HB.out.size))
  replace HBW := hid_intro (HBW.out.trans (hbS.mono HBW.out.size))
  replace MX := hid_intro (HKM.out _ _ _ MX.out hbS)
  replace HN := hid_intro (HKN.out _ _ _ _ _ HN.out (Kq.below (Kq.refl _ _) hbS))
  replace HX0 := hid_intro (HX0.out.below hbS)
  replace VX := hid_intro (HKV.out _ _ _ VX.out hbS)
  replace HNW := hid_intro (HKW.out _ _ _ _ _ HNW.out (Kq.below (Kq.refl _ _) hbS))
  replace HKP := hid_intro (HKP.out.below hbS)
  replace HX2 := hid_intro (HX2.out.below hbS)
  clear hS hbS HS0 HS1 HM5 HAz hN6 hN7 hb13 hb14
  clear r0 r1 rL
  clear s0 s1 sL
  clear MX
  go_wp2_with fail
  refine (HTW.out _ _ (HKV.out _ _ _ HJ.out HB.out)).mono ?_
  rintro e w15 ⟨⟨qua, quc, rfl, hV, hNW⟩, hb15⟩
  replace HB := hid_intro (HB.out.trans (hb15.mono HB.out.size))
  replace HBW := hid_intro (HBW.out.trans (hb15.mono HBW.out.size))
  replace HN := hid_intro (HKN.out _ _ _ _ _ HN.out (Kq.below (Kq.refl _ _) hb15))
  replace HX0 := hid_intro (HX0.out.below hb15)
  replace VX := hid_intro (HKV.out _ _ _ VX.out hb15)
  replace HNW := hid_intro (HKW.out _ _ _ _ _ HNW.out (Kq.below (Kq.refl _ _) hb15))
  replace HKP := hid_intro (HKP.out.below hb15)
  replace HX2 := hid_intro (HX2.out.below hb15)
  have VV := hid_intro hV
  clear hV hNW
  clear hb15
  go_wp2_with fail
  refine (HEW.out _ _ _ VX.out VV.out).mono ?_
  rintro e w16 ⟨rfl, hb16⟩
  replace HB := hid_intro (HB.out.trans (hb16.mono HB.out.size))
  replace HBW := hid_intro (HBW.out.trans (hb16.mono HBW.out.size))
  replace HN := hid_intro (HKN.out _ _ _ _ _ HN.out (Kq.below (Kq.refl _ _) hb16))
  replace HX0 := hid_intro (HX0.out.below hb16)
  replace VX := hid_intro (HKV.out _ _ _ VX.out hb16)
  replace HNW := hid_intro (HKW.out _ _ _ _ _ HNW.out (Kq.below (Kq.refl _ _) hb16))
  replace HKP := hid_intro (HKP.out.below hb16)
  replace HX2 := hid_intro (HX2.out.below hb16)
  clear hb16
  clear VV
  clear VX
  have s0 : w16.cell? ⟨B0, 0, none⟩ = some (.slice xma ml xmc) := HX0.out.2 0 (by simp)
  have s1 : w16.cell? ⟨B0, 1, none⟩ = some (.slice xca cl xcc) := HX0.out.2 1 (by simp)
  have sL := HX0.out.1
  go_wp2_with fail
  refine (HMK.out _ _ _ _ HN.out).mono ?_
  rintro e w17 ⟨⟨K1, rfl, hk1, hk2⟩, hc⟩
  clear s0 s1 sL
  replace HB := hid_intro (hc.out HB.out (fun b q => by have := HSZ0.out; have := HSZ1.out; have := HSZ2.out; have := HSZ3.out; omega) (Nat.le_refl _))
  replace HBW := hid_intro (hc.out HBW.out (fun b q => by have := HSZ1.out; have := HSZ2.out; have := HSZ3.out; omega) (Nat.le_refl _))
  replace HNW := hid_intro (HKW.out _ _ _ _ _ HNW.out ((Kq.refl _ _).chg hc (fun b q => by have := HSZ2.out; omega)))
  replace HKP := hid_intro (HKP.out.chg hc (fun b q => by have := HSZ2.out; have := HSZ3.out; omega))
  replace HX2 := hid_intro (ChG.Chg.blk hc HX2.out (fun q => by have := HLB2.out; have := HBBB2.out; have := HSZ2.out; have := HSZ3.out; omega))
  clear hc HN HX0
  go_wp2_with fail
  refine (HMW.out _ _ K1 hk1 hk2 _ _ HNW.out).mono ?_
  rintro e w18 ⟨⟨K2, rfl⟩, hc⟩
  replace HB := hid_intro (hc.out HB.out (fun b q => by have := HSZ0.out; have := HSZ1.out; have := HSZ2.out; have := HSZ3.out; omega) (Nat.le_refl _))
  replace HBW := hid_intro (hc.out HBW.out (fun b q => by have := HSZ1.out; have := HSZ2.out; have := HSZ3.out; omega) (Nat.le_refl _))
  replace HKP := hid_intro (HKP.out.chg hc (fun b q => by have := HSZ2.out; have := HSZ3.out; omega))
  replace HX2 := hid_intro (ChG.Chg.blk hc HX2.out (fun q => by have := HLB2.out; have := HBBB2.out; have := HSZ2.out; have := HSZ3.out; omega))
  clear hc HNW
  have hkk : ¬ ((K2 : Nat) : Int) < 0 := by omega
  have HX1z := hid_intro (HX6.out.below HBW.out)
  have x0 : w18.cell? ⟨B1, 0, none⟩ = some (.slice a1 n1 c1) := HX1z.out.2 0 (by simp)
  have x1 : w18.cell? ⟨B1, 1, none⟩ = some (.int .i64 e1) := HX1z.out.2 1 (by simp)
  have xL := HX1z.out.1
  have y0 : w18.cell? ⟨B2, 0, none⟩ = some (.slice a2 n2 c2) := HX2.out.2 0 (by simp)
  have y1 : w18.cell? ⟨B2, 1, none⟩ = some (.int .i64 e2) := HX2.out.2 1 (by simp)
  have yL := HX2.out.1
  go_wp2_with fail
  refine (HE.out _ _ _ (HOR.out _ _ _ (HOK.out _ _ _ _ HO2.out HKP.out)) (HR.out _ _ _ HR6.out HBW.out)).mono ?_
  rintro e w19 ⟨rfl, hb19⟩
  replace HB := hid_intro (HB.out.trans (hb19.mono HB.out.size))
  replace HBW := hid_intro (HBW.out.trans (hb19.mono HBW.out.size))
  replace HKP := hid_intro (HKP.out.below hb19)
  replace HX2 := hid_intro (HX2.out.below hb19)
  clear hb19
  clear x0 x1 xL
  clear HX1z
  clear y0 y1 yL
  have y0 : w19.cell? ⟨B2, 0, none⟩ = some (.slice a2 n2 c2) := HX2.out.2 0 (by simp)
  have y1 : w19.cell? ⟨B2, 1, none⟩ = some (.int .i64 e2) := HX2.out.2 1 (by simp)
  have yL := HX2.out.1
  have HMKO := hid_intro (HK.out _ _ _ _ HO2.out HKP.out)
  go_wp2_with fail
  refine HMKO.out.mono ?_
  rintro e w20 ⟨KK, rfl, hc, hh⟩
  have HH := hid_intro hh
  clear y0 y1 yL
  replace HB := hid_intro (hc.out HB.out (fun b q => by have := HSZ0.out; have := HSZ1.out; have := HSZ2.out; have := HSZ3.out; omega) (Nat.le_refl _))
  replace HBW := hid_intro (hc.out HBW.out (fun b q => by have := HSZ1.out; have := HSZ2.out; have := HSZ3.out; omega) (Nat.le_refl _))
  replace HX2 := hid_intro (ChG.Chg.blk hc HX2.out (fun q => by have := HLB2.out; have := HBBB2.out; have := HSZ2.out; have := HSZ3.out; omega))
  clear hc hh HMKO HKP HO2
  have hk0 : ¬ ((KK : Nat) : Int) < 0 := by omega
  have HQ := hid_intro (Below.refl w20.heap.size w20)
  have y0 : w20.cell? ⟨B2, 0, none⟩ = some (.slice a2 n2 c2) := HX2.out.2 0 (by simp)
  have y1 : w20.cell? ⟨B2, 1, none⟩ = some (.int .i64 e2) := HX2.out.2 1 (by simp)
  have yL := HX2.out.1
  go_wp2_with fail
  refine (HH.out _ HQ.out).mono ?_
  rintro e w21 ⟨rfl, hb21⟩
  replace HB := hid_intro (HB.out.trans (hb21.mono HB.out.size))
  replace HBW := hid_intro (HBW.out.trans (hb21.mono HBW.out.size))
  replace HX2 := hid_intro (HX2.out.below hb21)
  replace HQ := hid_intro (HQ.out.trans (hb21.mono HQ.out.size))
  clear hb21
  clear y0 y1 yL
  have HAz := hid_intro (HA6.out.below HBW.out)
  have r0 : w21.cell? ⟨w.heap.size, 0, none⟩ = some (.slice ma ml mc) := HAz.out.2 0 (by simp)
  have r1 : w21.cell? ⟨w.heap.size, 1, none⟩ = some (.slice ca cl cc) := HAz.out.2 1 (by simp)
  have rL := HAz.out.1
  clear HAz
  go_wp2_with fail
  refine (HT.out _ _ (HKM.out _ _ _ HI.out HB.out)).mono ?_
  rintro e w22 ⟨⟨uma, uca, umc, ucc, rfl, hM, hN⟩, hb22⟩
  replace HB := hid_intro (HB.out.trans (hb22.mono HB.out.size))
  replace HBW := hid_intro (HBW.out.trans (hb22.mono HBW.out.size))
  replace HX2 := hid_intro (HX2.out.below hb22)
  replace HQ := hid_intro (HQ.out.trans (hb22.mono HQ.out.size))
  have MV := hid_intro hM
  clear hM hN
  clear hb22
  clear r0 r1 rL
  go_wp2_with fail
  refine (HTW.out _ _ (HKV.out _ _ _ HJ.out HB.out)).mono ?_
  rintro e w23 ⟨⟨uua, uuc, rfl, hV, hNW⟩, hb23⟩
  replace HB := hid_intro (HB.out.trans (hb23.mono HB.out.size))
  replace HBW := hid_intro (HBW.out.trans (hb23.mono HBW.out.size))
  replace HX2 := hid_intro (HX2.out.below hb23)
  replace HQ := hid_intro (HQ.out.trans (hb23.mono HQ.out.size))
  replace MV := hid_intro (HKM.out _ _ _ MV.out hb23)
  have VV := hid_intro hV
  clear hV hNW
  clear hb23
  go_wp2_with fail
  refine (HM.out _ _ _ (HLK.out _ _ HLD.out HB.out) MV.out VV.out).mono ?_
  rintro e w24 ⟨v, rfl, hv, hb24⟩
  replace HB := hid_intro (HB.out.trans (hb24.mono HB.out.size))
  replace HBW := hid_intro (HBW.out.trans (hb24.mono HBW.out.size))
  replace HX2 := hid_intro (HX2.out.below hb24)
  replace HQ := hid_intro (HQ.out.trans (hb24.mono HQ.out.size))
  replace MV := hid_intro (HKM.out _ _ _ MV.out hb24)
  obtain ⟨a3, n3, c3, e3, rfl⟩ := HF.out _ _ _ hv
  have HR3 := hid_intro (HOR.out _ _ _ hv)
  clear hv
  clear hb24
  clear MV VV
  have HX1z := hid_intro (HX6.out.below HBW.out)
  obtain ⟨w25, hw25⟩ : ∃ z, z = w24.alloc (.cells #[.slice a3 n3 c3, .int .i64 e3] 31) := ⟨_, rfl⟩
  have al : Below w24.heap.size w24 w25 := by rw [hw25]; exact (Below.refl _ _).alloc (Nat.le_refl _) _
  have HX3 : Hid (Blk w24.heap.size [.slice a3 n3 c3, .int .i64 e3] w25) := hid_intro (by rw [hw25]; exact Blk.new w24 [.slice a3 n3 c3, .int .i64 e3] 31)
  replace HB := hid_intro (HB.out.trans (al.mono HB.out.size))
  replace HBW := hid_intro (HBW.out.trans (al.mono HBW.out.size))
  replace HX2 := hid_intro (HX2.out.below al)
  replace HQ := hid_intro (HQ.out.trans (al.mono HQ.out.size))
  replace HR3 := hid_intro (HR.out _ _ _ HR3.out al)
  obtain ⟨B3, hB3⟩ : ∃ z, z = w24.heap.size := ⟨_, rfl⟩
  rw [← hB3] at HX3
  have HW := hid_intro hw25
  have HBBB3 := hid_intro hB3
  clear al hw25 hB3
  have x0 : w24.cell? ⟨B1, 0, none⟩ = some (.slice a1 n1 c1) := HX1z.out.2 0 (by simp)
  have x1 : w24.cell? ⟨B1, 1, none⟩ = some (.int .i64 e1) := HX1z.out.2 1 (by simp)
  have xL := HX1z.out.1
  go_wp2_with fail
  rw [← HW.out, ← HBBB3.out]
  clear HW HX1z
  clear x0 x1 xL
  have HX1z := hid_intro (HX6.out.below HBW.out)
  have x0 : w25.cell? ⟨B1, 0, none⟩ = some (.slice a1 n1 c1) := HX1z.out.2 0 (by simp)
  have x1 : w25.cell? ⟨B1, 1, none⟩ = some (.int .i64 e1) := HX1z.out.2 1 (by simp)
  have xL := HX1z.out.1
  have z0 : w25.cell? ⟨B3, 0, none⟩ = some (.slice a3 n3 c3) := HX3.out.2 0 (by simp)
  have z1 : w25.cell? ⟨B3, 1, none⟩ = some (.int .i64 e3) := HX3.out.2 1 (by simp)
  have zL := HX3.out.1
  go_wp2_with fail
  refine (HE.out _ _ _ HR3.out (HR.out _ _ _ HR6.out HBW.out)).mono ?_
  rintro e w26 ⟨rfl, hb26⟩
  replace HB := hid_intro (HB.out.trans (hb26.mono HB.out.size))
  replace HBW := hid_intro (HBW.out.trans (hb26.mono HBW.out.size))
  replace HX2 := hid_intro (HX2.out.below hb26)
  replace HQ := hid_intro (HQ.out.trans (hb26.mono HQ.out.size))
  replace HR3 := hid_intro (HR.out _ _ _ HR3.out hb26)
  clear hb26
  clear x0 x1 xL
  clear z0 z1 zL
  clear HX1z HX3
  have y0 : w26.cell? ⟨B2, 0, none⟩ = some (.slice a2 n2 c2) := HX2.out.2 0 (by simp)
  have y1 : w26.cell? ⟨B2, 1, none⟩ = some (.int .i64 e2) := HX2.out.2 1 (by simp)
  have yL := HX2.out.1
  go_wp2_with fail
  refine (HH.out _ HQ.out).mono ?_
  rintro e w27 ⟨rfl, hb27⟩
  replace HB := hid_intro (HB.out.trans (hb27.mono HB.out.size))
  replace HBW := hid_intro (HBW.out.trans (hb27.mono HBW.out.size))
  replace HX2 := hid_intro (HX2.out.below hb27)
  replace HQ := hid_intro (HQ.out.trans (hb27.mono HQ.out.size))
  replace HR3 := hid_intro (HR.out _ _ _ HR3.out hb27)
  clear hb27
  clear y0 y1 yL
  go_wp2_with fail
  go_ret
  exact ⟨rfl, HB.out⟩
end BillL
end Go.Proofs.YtcilbmhkhllmjaaGreatDoor
namespace Go.Proofs.YtcilbmhkhllmjaaGreatDoor
open Go.ChangeShapes Go.WideShapes Go.ChangeAt Go.RowKit
set_option linter.unusedVariables false
namespace BilA
open CatR EngR ChG
open WinR (Wd)
open LinR (N drawL dl_len Lis)
open BilR (billB billR BlO alB)
/-- Answers: read, of one's own. -/
def BR (D : List N × Int) (v : Value) (W : World) : Prop := ∃ u, v = .agg #[u, .int .i64 D.2] ∧ LnR D.1 u W
def BW (D : List N × Int) (b : Nat) (v : Value) (W : World) : Prop := ∃ u, v = .agg #[u, .int .i64 D.2] ∧ LnW D.1 b u W
theorem bill_len {c : Ca} {a : ByteArray} {ws : List Wd} (h : ws.length ≤ 1048576) : (billB c a ws).1.length ≤ 1048576 := by
  unfold billB
  split
  · simp
  · split
    · unfold billR
      dsimp only
      split
      · simp
      · split
        · simp
        · split
          · simp
          · unfold drawL
            have h1 := List.length_filter_le LinR.nz (LinR.dl (crF a c.cs) (List.filter LinR.nz (List.map (BilR.rN c.ms) (BilR.srt Wd.m (List.filter (BilR.ownW a) ws)))) (List.filter LinR.nz (List.map (BilR.rN c.ms) (BilR.srt Wd.m (List.filter (BilR.ownW a) ws)))).length)
            rw [dl_len] at h1
            have h2 := List.length_filter_le LinR.nz (List.map (BilR.rN c.ms) (BilR.srt Wd.m (List.filter (BilR.ownW a) ws)))
            rw [List.length_map, (BilR.srt_perm (f := Wd.m) (List.filter (BilR.ownW a) ws)).length_eq] at h2
            have h3 : (List.filter (BilR.ownW a) ws).length ≤ ws.length := List.length_filter_le ..
            dsimp only at h1 ⊢
            omega
    · simp
theorem blo_bw {w : World} {D : List N × Int} {e : Ending} {w' : World} (h : BlO w D e w') : ∃ v, e = .returned v ∧ BW D w.heap.size v w' ∧ Below w.heap.size w w' := by
  obtain ⟨ao, cap, rfl, hm, hb⟩ := h
  exact ⟨_, rfl, ⟨_, rfl, ao, cap, rfl, hm⟩, hb⟩
set_option maxHeartbeats 4000000 in
theorem eqB {D : List N × Int} (hn : D.1.length ≤ 1048576) {v v' : Value} {W : World} (h : BR D v W) (h' : BR D v' W) : Calls Tryz.prog 11 #[v, v'] W fun e w' => e = .returned (.bool true) ∧ Below W.heap.size W w' := by
  obtain ⟨u, rfl, h⟩ := h
  obtain ⟨u', rfl, h'⟩ := h'
  have HE : Hid (∀ W2, Below W.heap.size W W2 → Calls Tryz.prog 48 #[u, u'] W2 fun e w' => e = .returned (.bool true) ∧ Below W2.heap.size W2 w') := hid_intro (fun W2 hW => eqLn hn (h.below hW) (h'.below hW))
  obtain ⟨a1, c1, rfl, _⟩ := h
  obtain ⟨a2, c2, rfl, _⟩ := h'
  generalize D.2 = d at *
  generalize D.1.length = n at *
  obtain ⟨W1, hW1⟩ : ∃ z, z = (W.alloc (.cells #[.slice a1 n c1, .int .i64 d] 31)).alloc (.cells #[.slice a2 n c2, .int .i64 d] 31) := ⟨_, rfl⟩
  have HB : Hid (Below W.heap.size W W1) := hid_intro (by rw [hW1]; exact ((Below.refl _ _).alloc (Nat.le_refl _) _).alloc (by simp) _)
  have HX : Hid (Blk W.heap.size [.slice a1 n c1, .int .i64 d] W1) := hid_intro (by rw [hW1]; exact (Blk.new W _ _).below ((Below.refl _ _).alloc (Nat.le_refl _) _))
  have HY : Hid (Blk (W.heap.size + 1) [.slice a2 n c2, .int .i64 d] W1) := hid_intro (by rw [hW1]; simpa using Blk.new (W.alloc (.cells #[.slice a1 n c1, .int .i64 d] 31)) [.slice a2 n c2, .int .i64 d] 31)
  have HW := hid_intro hW1
  clear hW1
  go_enter Tryz.func11, Tryz.ntmps11
  go_wp2_with fail
  rw [← HW.out]
  refine (HE.out _ HB.out).mono ?_
  rintro e w2 ⟨rfl, hb⟩
  have HB2 := hid_intro (HB.out.trans (hb.mono HB.out.size))
  have x1 := (HX.out.below hb).2 1 (by simp)
  have xl := (HX.out.below hb).1
  have y1 := (HY.out.below hb).2 1 (by simp)
  have yl := (HY.out.below hb).1
  simp only [List.getElem?_cons_zero, List.getElem?_cons_succ] at x1 y1
  clear hb
  go_wp2_with fail
  go_ret
  exact ⟨rfl, HB2.out⟩
set_option maxHeartbeats 4000000 in
theorem heldB {u : Value} {d : Int} {KK : Nat} {w2 : World} (hu : ∃ a n c, u = .slice a n c) (h : ∀ W, Below w2.heap.size w2 W → Calls Tryz.prog 58 #[u, .int .i64 1] W fun e w3 => e = .returned (.int .i64 KK) ∧ Below W.heap.size W w3) :
    Calls Tryz.prog 17 #[.agg #[u, .int .i64 d], .int .i64 1] w2 fun e w3 => e = .returned (.int .i64 KK) ∧ Below w2.heap.size w2 w3 := by
  obtain ⟨a, n, c, rfl⟩ := hu
  have HH := hid_intro (h _ (alB w2 (.cells #[.slice a n c, .int .i64 d] 31)))
  have HB := hid_intro (alB w2 (.cells #[.slice a n c, .int .i64 d] 31))
  clear h
  have hk : ¬ ((KK : Nat) : Int) < 0 := by omega
  go_enter Tryz.func17, Tryz.ntmps17
  go_wp2_with fail
  refine HH.out.mono ?_
  rintro e w3 ⟨rfl, hb⟩
  have HB2 := hid_intro (HB.out.trans (hb.mono HB.out.size))
  clear hb
  go_wp2_with fail
  go_ret
  exact ⟨rfl, HB2.out⟩
set_option maxHeartbeats 4000000 in
theorem markB {D : List N × Int} (hn : D.1.length ≤ 1048576) {b : Nat} {v : Value} {Wt W : World} (h : BW D b v Wt) (hk : Kq b Wt W) :
    Calls Tryz.prog 16 #[v, .int .i64 1] W fun e w' => ∃ KK : Nat, e = .returned (.int .i64 KK) ∧ Chg (fun x => b ≤ x ∧ x < Wt.heap.size) W w' ∧
      ∀ w2, Below w'.heap.size w' w2 → Calls Tryz.prog 17 #[v, .int .i64 1] w2 fun e w3 => e = .returned (.int .i64 KK) ∧ Below w2.heap.size w2 w3 := by
  obtain ⟨u, rfl, h⟩ := h
  have hs := h.shape
  obtain ⟨W1, hW1⟩ : ∃ z, z = W.alloc (.cells #[u, .int .i64 D.2] 31) := ⟨_, rfl⟩
  have hal : Below W.heap.size W W1 := by rw [hW1]; exact alB _ _
  have HM := hid_intro (markLn hn h (Kq.below hk hal))
  have HAL := hid_intro hal
  have HW := hid_intro hW1
  have HH : Hid (∀ (KK : Nat) (w2 : World), (∀ W, Below w2.heap.size w2 W → Calls Tryz.prog 58 #[u, .int .i64 1] W fun e w3 => e = .returned (.int .i64 KK) ∧ Below W.heap.size W w3) → Calls Tryz.prog 17 #[.agg #[u, .int .i64 D.2], .int .i64 1] w2 fun e w3 => e = .returned (.int .i64 KK) ∧ Below w2.heap.size w2 w3) := hid_intro (fun KK w2 h => heldB hs h)
  generalize D.2 = d at *
  clear hal hW1 h
  obtain ⟨a, n, c, rfl⟩ := hs
  go_enter Tryz.func16, Tryz.ntmps16
  go_wp2_with fail
  rw [← HW.out]
  refine HM.out.mono ?_
  rintro e w2 ⟨KK, rfl, hc, hh⟩
  have HC := hid_intro hc
  have HF := hid_intro hh
  clear hc hh
  go_wp2_with fail
  go_ret
  refine ⟨KK, rfl, ?_, fun w2 hb => HH.out KK w2 (fun W hW => HF.out W (hb.trans (hW.mono hb.size)))⟩
  exact ⟨HC.out.os.trans HAL.out.os, HC.out.tape.trans HAL.out.tape, HC.out.output.trans HAL.out.output, Nat.le_trans HAL.out.size HC.out.size, fun b h1 h2 => (HC.out.block b (by have := HAL.out.size; omega) h2).trans (HAL.out.block b h1)⟩
end BilA
end Go.Proofs.YtcilbmhkhllmjaaGreatDoor
