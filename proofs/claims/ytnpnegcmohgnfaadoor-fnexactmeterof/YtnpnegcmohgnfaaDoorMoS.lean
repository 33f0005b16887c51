/-
  The meter of a name, the model's MeterOf. The conditions: all in the catalog is small, the name too.
-/
import Derived.Test.YtnpnegcmohgnfaaDoorMoI
import Derived.Test.YtnpnegcmohgnfaaDoorSCa
namespace Go.Proofs.YtnpnegcmohgnfaaDoor
open Go.ChangeShapes Go.WideShapes Go.ChangeAt Go.RowKit
set_option linter.unusedVariables false
namespace CatR
open EvtR (Pt)
/-- Where a name stands first, -1 where it doesn't. -/
def atB (ms : List Me) (t : ByteArray) (r : Int) : Prop := (∃ k : Nat, k < ms.length ∧ r = k ∧ mN ms k = t ∧ ∀ i, i < k → mN ms i ≠ t) ∨ (r = -1 ∧ ∀ i, i < ms.length → mN ms i ≠ t)
set_option maxRecDepth 100000 in
set_option maxHeartbeats 4000000 in
theorem spec_at (ma : Option Addr) (mc : Nat) (ca : Option Addr) (cl cc : Nat) (ms : List Me) (t : ByteArray) (w : World) (hl : ms.length ≤ 1048576) (hM : Mes ma ms.length ms w) :
    Calls Tryd.prog 39 #[.agg #[.slice ma ms.length mc, .slice ca cl cc], .string t] w fun e w' => ∃ r, e = .returned (.int .i64 r) ∧ atB ms t r ∧ Below w.heap.size w w' := by
  have HM := hid_intro hM
  have HA : Hid (∀ r, (∃ k : Nat, k < ms.length ∧ r = (k : Int) ∧ mN ms k = t ∧ ∀ i, i < k → mN ms i ≠ t) ∨ (r = -1 ∧ ∀ i, i < ms.length → mN ms i ≠ t) → atB ms t r) := hid_intro (fun r h => h)
  have HB0 : Hid (Below w.heap.size w (w.alloc (.cells #[.slice ma ms.length mc, .slice ca cl cc] 31))) := hid_intro ((Below.refl _ _).alloc (Nat.le_refl _) _)
  have HX0 : Hid (Blk w.heap.size [.slice ma ms.length mc, .slice ca cl cc] (w.alloc (.cells #[.slice ma ms.length mc, .slice ca cl cc] 31))) := hid_intro (Blk.new w _ _)
  generalize hml : ms.length = ml at *
  clear hM
  go_enter Tryd.func39, Tryd.ntmps39
  go_wp2_with fail
  go_loopw [5] (fun z wr => ∃ k : Nat, k ≤ ml ∧ z = .int .i64 k ∧ Hid (∀ i, i < k → mN ms i ≠ t) ∧ Hid (Below w.heap.size w wr) ∧ Hid (Blk w.heap.size [.slice ma ml mc, .slice ca cl cc] wr)) (fun z _ => ml - (intOf z).toNat)
  case atStart => exact ⟨0, by omega, rfl, hid_intro (fun i h => absurd h (by omega)), HB0, HX0⟩
  case round =>
    obtain ⟨k, hk, rfl, HK, HB, HX⟩ := hrel
    have x0 : wr.cell? ⟨w.heap.size, 0, none⟩ = some (.slice ma ml mc) := HX.out.2 0 (by simp)
    have xl := HX.out.1
    by_cases hlt : k < ml
    · have hlt2 : (k : Int) < (ml : Int) := by omega
      obtain ⟨b, off, rfl, hbl, ta, tc, c0, c1, c2, c3, c4, c5, hTT⟩ := mes_at (HM.out.below HB.out) k hlt
      replace c0 : wr.cell? ⟨b, off + k * 6, none⟩ = some (.string (mN ms k)) := c0
      clear c1 c2 c3 c4 c5 hTT
      by_cases he : mN ms k = t
      · have HR := hid_intro (HA.out (k : Int) (.inl ⟨k, hlt, rfl, he, HK.out⟩))
        rw [he] at c0
        clear he
        go_wp2_with fail
        go_ret
        exact ⟨_, rfl, HR.out, HB.out⟩
      · have HK2 : Hid (∀ i, i < k + 1 → mN ms i ≠ t) := hid_intro (fun i hi => by
          by_cases e : i = k
          · subst e; exact he
          · exact HK.out i (by omega))
        have hb := beq_no he
        have hne : (mN ms k).toList ≠ t.toList := by simpa using hb
        clear he
        generalize mN ms k = n at *
        go_wp2_with fail
        go_roundw
        case rel => exact ⟨k + 1, by omega, by go_num, HK2, HB, HX⟩
        case measure => simp [intOf]; omega
    · have hlt2 : ¬ (k : Int) < (ml : Int) := by omega
      have HR := hid_intro (HA.out (-1) (.inr ⟨rfl, fun i hi => HK.out i (by omega)⟩))
      go_wp2_with fail
      go_ret
      exact ⟨_, rfl, HR.out, HB.out⟩
set_option maxRecDepth 100000 in
set_option maxHeartbeats 4000000 in
theorem spec_me (b off cap : Nat) (r : Me) (w : World) (h5 : r.ts.length ≤ 1048576) (hI : Tis (some ⟨b, off, none⟩) r.ts.length r.ts w) :
    Calls Tryd.prog 40 #[.agg #[.string r.n, .int .i64 r.g, .bool r.wh, .int .i64 r.f, .int .i64 r.l, .slice (some ⟨b, off, none⟩) r.ts.length cap]] w fun e w' => ResM w r e w' := by
  obtain ⟨n, g, wh, f, l, ts⟩ := r
  simp only at *
  unfold ResM
  simp only
  obtain ⟨i0, hi, hz0, hz1, hz2⟩ := info_parts infoT
  have HL := hid_intro (tisC_len ts)
  have H1 := hid_intro (tisC_one ts)
  have HTC := hid_intro (fun W (hW : Below w.heap.size w W) => tis_cells (hI.below hW))
  have HOT := hid_intro (fun (W : World) base v (h : W.ownsRow base 88 2 v ts.length (tisC ts)) => own_tisz h)
  generalize tisC ts = C at *
  generalize ts.length = tl at *
  have HB0 : Hid (Below w.heap.size w (((w.alloc (.cells #[.string n, .int .i64 g, .bool wh, .int .i64 f, .int .i64 l, .slice (some ⟨b, off, none⟩) tl cap] 40)).alloc (.cells #[.string ⟨#[]⟩, .int .i64 0, .bool false, .int .i64 0, .int .i64 0, .slice none 0 0] 40)).alloc (.cells #[] 88))) := hid_intro ((((Below.refl _ _).alloc (Nat.le_refl _) _).alloc (by simp) _).alloc (by simp; omega) _)
  have HP0 : Hid (Pt w.heap.size 6 (((w.alloc (.cells #[.string n, .int .i64 g, .bool wh, .int .i64 f, .int .i64 l, .slice (some ⟨b, off, none⟩) tl cap] 40)).alloc (.cells #[.string ⟨#[]⟩, .int .i64 0, .bool false, .int .i64 0, .int .i64 0, .slice none 0 0] 40)).alloc (.cells #[] 88))) := hid_intro (((pt_new w [.string n, .int .i64 g, .bool wh, .int .i64 f, .int .i64 l, .slice (some ⟨b, off, none⟩) tl cap] 40).below ((Below.refl _ _).alloc (Nat.le_refl _) _)).below ((Below.refl _ _).alloc (Nat.le_refl _) _))
  have HQ0 : Hid (Pt (w.heap.size + 1) 6 (((w.alloc (.cells #[.string n, .int .i64 g, .bool wh, .int .i64 f, .int .i64 l, .slice (some ⟨b, off, none⟩) tl cap] 40)).alloc (.cells #[.string ⟨#[]⟩, .int .i64 0, .bool false, .int .i64 0, .int .i64 0, .slice none 0 0] 40)).alloc (.cells #[] 88))) := hid_intro ((show Pt (w.heap.size + 1) 6 ((w.alloc (.cells #[.string n, .int .i64 g, .bool wh, .int .i64 f, .int .i64 l, .slice (some ⟨b, off, none⟩) tl cap] 40)).alloc (.cells #[.string ⟨#[]⟩, .int .i64 0, .bool false, .int .i64 0, .int .i64 0, .slice none 0 0] 40)) by have := pt_new (w.alloc (.cells #[.string n, .int .i64 g, .bool wh, .int .i64 f, .int .i64 l, .slice (some ⟨b, off, none⟩) tl cap] 40)) [.string ⟨#[]⟩, .int .i64 0, .bool false, .int .i64 0, .int .i64 0, .slice none 0 0] 40; simpa using this).below ((Below.refl _ _).alloc (Nat.le_refl _) _))
  have HX0 : Hid (Blk w.heap.size [.string n, .int .i64 g, .bool wh, .int .i64 f, .int .i64 l, .slice (some ⟨b, off, none⟩) tl cap] (((w.alloc (.cells #[.string n, .int .i64 g, .bool wh, .int .i64 f, .int .i64 l, .slice (some ⟨b, off, none⟩) tl cap] 40)).alloc (.cells #[.string ⟨#[]⟩, .int .i64 0, .bool false, .int .i64 0, .int .i64 0, .slice none 0 0] 40)).alloc (.cells #[] 88))) := hid_intro (((Blk.new w _ _).alloc _).alloc _)
  have HE0 : Hid (((((w.alloc (.cells #[.string n, .int .i64 g, .bool wh, .int .i64 f, .int .i64 l, .slice (some ⟨b, off, none⟩) tl cap] 40)).alloc (.cells #[.string ⟨#[]⟩, .int .i64 0, .bool false, .int .i64 0, .int .i64 0, .slice none 0 0] 40)).alloc (.cells #[] 88))).ownsRow (w.heap.size + 2) 88 2 (.slice (some ⟨w.heap.size + 1 + 1, 0, none⟩) 0 0) 0 []) := hid_intro (by
    have := World.ownsRow_made ((w.alloc (.cells #[.string n, .int .i64 g, .bool wh, .int .i64 f, .int .i64 l, .slice (some ⟨b, off, none⟩) tl cap] 40)).alloc (.cells #[.string ⟨#[]⟩, .int .i64 0, .bool false, .int .i64 0, .int .i64 0, .slice none 0 0] 40)) (e := 88) (size := 2) (base := w.heap.size + 2) #[] 0 (by simp) (by unfold maxLen; omega) (by simp)
    simpa using this)
  have HN : Hid (∀ j u, C[j]? = some u → ((((w.alloc (.cells #[.string n, .int .i64 g, .bool wh, .int .i64 f, .int .i64 l, .slice (some ⟨b, off, none⟩) tl cap] 40)).alloc (.cells #[.string ⟨#[]⟩, .int .i64 0, .bool false, .int .i64 0, .int .i64 0, .slice none 0 0] 40)).alloc (.cells #[] 88))).cell? ((⟨b, off, none⟩ : Addr).add j) = some u) := hid_intro (fun j u hj => by rw [Addr.add_lit]; exact HTC.out _ HB0.out j u hj)
  go_enter Tryd.func40, Tryd.ntmps40
  go_wp2_with (at_builtin; refine wpList_append_own _ rfl _ _ 38 rfl (w.heap.size + 2) 88 i0 (.agg #[.int .i64 0, .int .i64 0]) 2 16 Tryd.underlying38 hi hz0 hz1 hz2 rfl (by decide) _ _ _ rfl HE0.out ⟨b, off, none⟩ tl cap C rfl HL.out HN.out H1.out (by unfold maxLen; omega) (by omega) (by simp) ?_)
  intro v1 w2 hown hgrow hne
  have HO : Hid (w2.ownsRow (w.heap.size + 2) 88 2 v1 tl C) := hid_intro (by first | exact hown | simpa using hown)
  have hrow : ∀ k, (Value.slice (some ⟨w.heap.size + 1 + 1, 0, none⟩) 0 0).ownBlock = some k → k = w.heap.size + 2 := fun k e => by simp [Value.ownBlock] at e; omega
  have HB2 : Hid (Below w.heap.size w w2) := hid_intro (HB0.out.grown hgrow HB0.out.size (fun k e => by have := hrow k e; omega))
  have HP2 := hid_intro (pt_grown HP0.out hgrow (fun e => by have := hrow _ e.symm; omega))
  have HQ2 := hid_intro (pt_grown HQ0.out hgrow (fun e => by have := hrow _ e.symm; omega))
  have k := fun o => World.cell?_of_block (a := ⟨w.heap.size, o, none⟩) (hgrow.block w.heap.size HX0.out.1 (fun e => by have := hrow _ e.symm; omega))
  have d0 : w2.cell? ⟨w.heap.size, 0, none⟩ = some (.string n) := (k 0).trans (HX0.out.2 0 (by simp))
  have d1 : w2.cell? ⟨w.heap.size, 1, none⟩ = some (.int .i64 g) := (k 1).trans (HX0.out.2 1 (by simp))
  have d2 : w2.cell? ⟨w.heap.size, 2, none⟩ = some (.bool wh) := (k 2).trans (HX0.out.2 2 (by simp))
  have d3 : w2.cell? ⟨w.heap.size, 3, none⟩ = some (.int .i64 f) := (k 3).trans (HX0.out.2 3 (by simp))
  have d4 : w2.cell? ⟨w.heap.size, 4, none⟩ = some (.int .i64 l) := (k 4).trans (HX0.out.2 4 (by simp))
  obtain ⟨ao, cp, rfl, hT, hP⟩ := HOT.out w2 _ v1 HO.out
  have HT2 := hid_intro hT
  have HO2 := hid_intro hP
  obtain ⟨v5, d5⟩ := HP2.out.has 5 (by omega)
  have g5 := HP2.out.free 5 (by omega)
  have l2 := HP2.out.lt
  have q := HQ2.out.lt
  obtain ⟨y0, e0⟩ := HQ2.out.has 0 (by omega)
  obtain ⟨y1, e1⟩ := HQ2.out.has 1 (by omega)
  obtain ⟨y2, e2⟩ := HQ2.out.has 2 (by omega)
  obtain ⟨y3, e3⟩ := HQ2.out.has 3 (by omega)
  obtain ⟨y4, e4⟩ := HQ2.out.has 4 (by omega)
  obtain ⟨y5, e5⟩ := HQ2.out.has 5 (by omega)
  have z0 := HQ2.out.free 0 (by omega)
  have z1 := HQ2.out.free 1 (by omega)
  have z2 := HQ2.out.free 2 (by omega)
  have z3 := HQ2.out.free 3 (by omega)
  have z4 := HQ2.out.free 4 (by omega)
  have z5 := HQ2.out.free 5 (by omega)
  clear hT hP hown hgrow hne k hrow hI
  go_wp2_with fail
  refine bodyPost_ret (v := .agg #[.string n, .int .i64 g, .bool wh, .int .i64 f, .int .i64 l, .slice ao tl cp]) (by simp [results, Tryd.results40, go_sem, e0, e1, e2, e3, e4, e5]) rfl ⟨ao, cp, rfl, ?_, ?_, ?_⟩
  · rcases Nat.eq_zero_or_pos tl with h0 | h0
    · exact ⟨HT2.out.1, .inl h0⟩
    · obtain ⟨g', e1, e2, e3⟩ := HO2.out.resolve_left (by omega)
      subst e1
      exact ((((((HT2.out.far (by omega) _ _).far (by omega) _ _).far (by omega) _ _).far (by omega) _ _).far (by omega) _ _).far (by omega) _ _).far (by omega) _ _
  · refine HO2.out.imp id (fun ⟨g', e1, e2, e3⟩ => ⟨g', e1, by omega, ?_⟩)
    exact ((((((e3.far (by omega) _ _).far (by omega) _ _).far (by omega) _ _).far (by omega) _ _).far (by omega) _ _).far (by omega) _ _).far (by omega) _ _
  · exact ((((((HB2.out.setCell (Nat.le_refl _) _).setCell (by simp) _).setCell (by simp) _).setCell (by simp) _).setCell (by simp) _).setCell (by simp) _).setCell (by simp) _
theorem mO_long (c : Ca) (t : ByteArray) (h : 20 < t.size) : mO c t = Me.zero := by
  unfold mO
  cases hc : caB c
  · rfl
  · rw [cond_true]
    refine mFd_none t c.ms (fun i hi e => ?_)
    have hr := (((caB_iff.1 hc).1).2 i hi).1
    have := (name_le hr.1).2
    have e2 : (c.ms.getD i Me.zero).n = t := e
    rw [e2] at this
    omega
set_option maxRecDepth 100000 in
set_option maxHeartbeats 4000000 in
theorem spec_mo (v : Value) (c : Ca) (t : ByteArray) (w : World) (ht : t.size ≤ 1048576) (hS : c.Small) (hC : IsCa v c w) :
    Calls Tryd.prog 16 #[v, .string t] w fun e w' => ResM w (mO c t) e w' := by
  have HCA := hid_intro (fun W (hW : Below w.heap.size w W) => spec_ca v c W hS (hC.below hW))
  obtain ⟨ma, mc, ca, cc, rfl, hM, hR⟩ := hC
  have HAT := hid_intro (fun W (hW : Below w.heap.size w W) => spec_at ma mc ca c.cs.length cc c.ms t W hS.ml (hM.below hW))
  have HMO : Hid (mO c t = bif caB c then mFd t c.ms else Me.zero) := rfl
  have HLG := hid_intro (mO_long c t)
  have HMM := hid_intro (fun W (hW : Below w.heap.size w W) => hM.below hW)
  have HHIT := hid_intro (mFd_hit t c.ms)
  have HNON := hid_intro (mFd_none t c.ms)
  have HSM := hid_intro hS.ms
  have HRT : Hid (caB c = true → MsRight c.ms ∧ CsRight c.cs) := hid_intro caB_iff.1
  have HATB : Hid (∀ r, atB c.ms t r → (∃ k : Nat, k < c.ms.length ∧ r = (k : Int) ∧ mN c.ms k = t ∧ ∀ i, i < k → mN c.ms i ≠ t) ∨ (r = -1 ∧ ∀ i, i < c.ms.length → mN c.ms i ≠ t)) := hid_intro (fun r h => h)
  generalize mO c t = RES at *
  generalize caB c = R at *
  generalize hml : c.ms.length = ml at *
  generalize c.cs.length = cl at *
  have HB0 : Hid (Below w.heap.size w ((w.alloc (.cells #[.slice ma ml mc, .slice ca cl cc] 31)).alloc (.cells #[.string ⟨#[]⟩, .int .i64 0, .bool false, .int .i64 0, .int .i64 0, .slice none 0 0] 40))) := hid_intro (((Below.refl _ _).alloc (Nat.le_refl _) _).alloc (by simp) _)
  have HX0 : Hid (Blk w.heap.size [.slice ma ml mc, .slice ca cl cc] ((w.alloc (.cells #[.slice ma ml mc, .slice ca cl cc] 31)).alloc (.cells #[.string ⟨#[]⟩, .int .i64 0, .bool false, .int .i64 0, .int .i64 0, .slice none 0 0] 40))) := hid_intro ((Blk.new w _ _).alloc _)
  have HQ0 : Hid (Pt (w.heap.size + 1) 6 ((w.alloc (.cells #[.slice ma ml mc, .slice ca cl cc] 31)).alloc (.cells #[.string ⟨#[]⟩, .int .i64 0, .bool false, .int .i64 0, .int .i64 0, .slice none 0 0] 40))) := hid_intro (by have := pt_new (w.alloc (.cells #[.slice ma ml mc, .slice ca cl cc] 31)) [.string ⟨#[]⟩, .int .i64 0, .bool false, .int .i64 0, .int .i64 0, .slice none 0 0] 40; simpa using this)
  clear hM hR hS
  go_enter Tryd.func16, Tryd.ntmps16
  go_wp2_with fail
  refine (HAT.out _ HB0.out).mono ?_
  rintro e w1 ⟨r, rfl, hat, hb1⟩
  have HB1 := hid_intro (HB0.out.trans (hb1.mono HB0.out.size))
  have HX1 := hid_intro (HX0.out.below hb1)
  have HQ1 := hid_intro (HQ0.out.below hb1)
  clear hb1 HB0 HX0 HQ0
  by_cases hbig : 8000 < t.size
  · have hbig' : (8000 : Int) < (t.size : Int) := by omega
    obtain rfl := HLG.out (by omega)
    have q := HQ1.out.lt
    obtain ⟨y0, e0⟩ := HQ1.out.has 0 (by omega)
    obtain ⟨y1, e1⟩ := HQ1.out.has 1 (by omega)
    obtain ⟨y2, e2⟩ := HQ1.out.has 2 (by omega)
    obtain ⟨y3, e3⟩ := HQ1.out.has 3 (by omega)
    obtain ⟨y4, e4⟩ := HQ1.out.has 4 (by omega)
    obtain ⟨y5, e5⟩ := HQ1.out.has 5 (by omega)
    have z0 := HQ1.out.free 0 (by omega)
    have z1 := HQ1.out.free 1 (by omega)
    have z2 := HQ1.out.free 2 (by omega)
    have z3 := HQ1.out.free 3 (by omega)
    have z4 := HQ1.out.free 4 (by omega)
    have z5 := HQ1.out.free 5 (by omega)
    go_wp2_with fail
    refine bodyPost_ret (v := .agg #[.string ⟨#[]⟩, .int .i64 0, .bool false, .int .i64 0, .int .i64 0, .slice none 0 0]) (by simp [results, Tryd.results16, go_sem, e0, e1, e2, e3, e4, e5]) rfl (res_zero ?_)
    exact (((((HB1.out.setCell (by simp) _).setCell (by simp) _).setCell (by simp) _).setCell (by simp) _).setCell (by simp) _).setCell (by simp) _
  have hbig' : ¬ (8000 : Int) < (t.size : Int) := by omega
  rcases HATB.out r hat with ⟨k, hk, rfl, hkt, hkn⟩ | ⟨rfl, hno⟩
  · have hk0 : ¬ (k : Int) < 0 := by omega
    have x0 : w1.cell? ⟨w.heap.size, 0, none⟩ = some (.slice ma ml mc) := HX1.out.2 0 (by simp)
    have x1 : w1.cell? ⟨w.heap.size, 1, none⟩ = some (.slice ca cl cc) := HX1.out.2 1 (by simp)
    have xl := HX1.out.1
    have HF := hid_intro (HHIT.out k (by omega) hkn hkt)
    clear hat hkt hkn
    go_wp2_with fail
    refine (HCA.out _ HB1.out).mono ?_
    rintro e w2 ⟨rfl, hb2⟩
    have HB2 := hid_intro (HB1.out.trans (hb2.mono HB1.out.size))
    have HX2 := hid_intro (HX1.out.below hb2)
    have HQ2 := hid_intro (HQ1.out.below hb2)
    clear hb2 x0 x1 xl HB1 HX1 HQ1
    cases R
    · rw [cond_false] at HMO
      obtain rfl := HMO.out
      have q := HQ2.out.lt
      obtain ⟨y0, e0⟩ := HQ2.out.has 0 (by omega)
      obtain ⟨y1, e1⟩ := HQ2.out.has 1 (by omega)
      obtain ⟨y2, e2⟩ := HQ2.out.has 2 (by omega)
      obtain ⟨y3, e3⟩ := HQ2.out.has 3 (by omega)
      obtain ⟨y4, e4⟩ := HQ2.out.has 4 (by omega)
      obtain ⟨y5, e5⟩ := HQ2.out.has 5 (by omega)
      have z0 := HQ2.out.free 0 (by omega)
      have z1 := HQ2.out.free 1 (by omega)
      have z2 := HQ2.out.free 2 (by omega)
      have z3 := HQ2.out.free 3 (by omega)
      have z4 := HQ2.out.free 4 (by omega)
      have z5 := HQ2.out.free 5 (by omega)
      go_wp2_with fail
      refine bodyPost_ret (v := .agg #[.string ⟨#[]⟩, .int .i64 0, .bool false, .int .i64 0, .int .i64 0, .slice none 0 0]) (by simp [results, Tryd.results16, go_sem, e0, e1, e2, e3, e4, e5]) rfl (res_zero ?_)
      exact (((((HB2.out.setCell (by simp) _).setCell (by simp) _).setCell (by simp) _).setCell (by simp) _).setCell (by simp) _).setCell (by simp) _
    · rw [cond_true, HF.out] at HMO
      have x0 : w2.cell? ⟨w.heap.size, 0, none⟩ = some (.slice ma ml mc) := HX2.out.2 0 (by simp)
      have xl := HX2.out.1
      obtain ⟨b, off, rfl, hbl, ta, tc, c0, c1, c2, c3, c4, c5, hT⟩ := mes_at (HMM.out _ HB2.out) k hk
      have hkm : (k : Int) < (ml : Int) := by omega
      have HSK := hid_intro (HSM.out k (by omega))
      have HTR : Hid (1 ≤ (c.ms.getD k Me.zero).ts.length) := hid_intro (((HRT.out rfl).1.2 k (by omega)).1.2.2.2.2.1)
      have HL5 : Hid (∀ W, Below w2.heap.size w2 W → Calls Tryd.prog 40 #[.agg #[.string (c.ms.getD k Me.zero).n, .int .i64 (c.ms.getD k Me.zero).g, .bool (c.ms.getD k Me.zero).wh, .int .i64 (c.ms.getD k Me.zero).f, .int .i64 (c.ms.getD k Me.zero).l, .slice ta (c.ms.getD k Me.zero).ts.length tc]] W fun e w' => ResM W (c.ms.getD k Me.zero) e w') := hid_intro (fun W hW => by
        rcases hT.2 with h0 | ⟨b', off', rfl, _⟩
        · exact absurd h0 (by have := HTR.out; omega)
        · exact spec_me b' off' tc _ W HSK.out.2 (hT.below hW))
      generalize c.ms.getD k Me.zero = X at *
      obtain ⟨n, g, wh, f, l, ts⟩ := X
      obtain rfl := HMO.out
      simp only at HL5 c0 c1 c2 c3 c4 c5
      clear hT HF HMO HLG HMM HHIT HNON HSM HATB HCA HAT HSK HTR HRT
      go_wp2_with fail
      refine (HL5.out _ (Below.refl _ _)).mono ?_
      rintro e w4 ⟨ta', tc', rfl, hT4, hO4, hb4⟩
      simp only at hT4 hO4
      have HB4 := hid_intro (HB2.out.trans (hb4.mono HB2.out.size))
      have HQ4 := hid_intro (HQ2.out.below hb4)
      have HT4 := hid_intro hT4
      have HO4 := hid_intro hO4
      have hq3 := HQ2.out.lt
      have hw3 := HB2.out.size
      clear hT4 hO4 hb4 x0 xl c0 c1 c2 c3 c4 c5
      have q := HQ4.out.lt
      obtain ⟨y0, e0⟩ := HQ4.out.has 0 (by omega)
      obtain ⟨y1, e1⟩ := HQ4.out.has 1 (by omega)
      obtain ⟨y2, e2⟩ := HQ4.out.has 2 (by omega)
      obtain ⟨y3, e3⟩ := HQ4.out.has 3 (by omega)
      obtain ⟨y4, e4⟩ := HQ4.out.has 4 (by omega)
      obtain ⟨y5, e5⟩ := HQ4.out.has 5 (by omega)
      have z0 := HQ4.out.free 0 (by omega)
      have z1 := HQ4.out.free 1 (by omega)
      have z2 := HQ4.out.free 2 (by omega)
      have z3 := HQ4.out.free 3 (by omega)
      have z4 := HQ4.out.free 4 (by omega)
      have z5 := HQ4.out.free 5 (by omega)
      go_wp2_with fail
      refine bodyPost_ret (v := .agg #[.string n, .int .i64 g, .bool wh, .int .i64 f, .int .i64 l, .slice ta' ts.length tc']) (by simp [results, Tryd.results16, go_sem, e0, e1, e2, e3, e4, e5]) rfl ⟨ta', tc', rfl, ?_, ?_, ?_⟩
      · rcases Nat.eq_zero_or_pos ts.length with h0 | h0
        · exact ⟨rfl, .inl h0⟩
        · obtain ⟨g', e1, e2, e3⟩ := HO4.out.resolve_left (by omega)
          subst e1
          exact (((((HT4.out.far (by omega) _ _).far (by omega) _ _).far (by omega) _ _).far (by omega) _ _).far (by omega) _ _).far (by omega) _ _
      · refine HO4.out.imp id (fun ⟨g', e1, e2, e3⟩ => ⟨g', e1, by omega, ?_⟩)
        exact (((((e3.far (by omega) _ _).far (by omega) _ _).far (by omega) _ _).far (by omega) _ _).far (by omega) _ _).far (by omega) _ _
      · exact (((((HB4.out.setCell (by simp) _).setCell (by simp) _).setCell (by simp) _).setCell (by simp) _).setCell (by simp) _).setCell (by simp) _
  · have HZ : Hid (RES = Me.zero) := hid_intro (by rw [HMO.out, HNON.out (fun i hi => hno i (by omega))]; cases R <;> rfl)
    obtain rfl := HZ.out
    clear hat hno
    have q := HQ1.out.lt
    obtain ⟨y0, e0⟩ := HQ1.out.has 0 (by omega)
    obtain ⟨y1, e1⟩ := HQ1.out.has 1 (by omega)
    obtain ⟨y2, e2⟩ := HQ1.out.has 2 (by omega)
    obtain ⟨y3, e3⟩ := HQ1.out.has 3 (by omega)
    obtain ⟨y4, e4⟩ := HQ1.out.has 4 (by omega)
    obtain ⟨y5, e5⟩ := HQ1.out.has 5 (by omega)
    have z0 := HQ1.out.free 0 (by omega)
    have z1 := HQ1.out.free 1 (by omega)
    have z2 := HQ1.out.free 2 (by omega)
    have z3 := HQ1.out.free 3 (by omega)
    have z4 := HQ1.out.free 4 (by omega)
    have z5 := HQ1.out.free 5 (by omega)
    go_wp2_with fail
    refine bodyPost_ret (v := .agg #[.string ⟨#[]⟩, .int .i64 0, .bool false, .int .i64 0, .int .i64 0, .slice none 0 0]) (by simp [results, Tryd.results16, go_sem, e0, e1, e2, e3, e4, e5]) rfl (res_zero ?_)
    exact (((((HB1.out.setCell (by simp) _).setCell (by simp) _).setCell (by simp) _).setCell (by simp) _).setCell (by simp) _).setCell (by simp) _
end CatR
end Go.Proofs.YtnpnegcmohgnfaaDoor
