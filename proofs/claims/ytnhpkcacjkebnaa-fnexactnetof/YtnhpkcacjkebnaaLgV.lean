/-
  NetOf on both sides. The conditions: documents that are small, months that are numbers of 64 bits, accounts of at most 1048576 bytes.
-/
import Derived.Test.YtnhpkcacjkebnaaLgT
import Derived.Test.YtnhpkcacjkebnaaNtW
namespace Go.Proofs.Ytnhpkcacjkebnaa
open Go.ChangeShapes Go.WideShapes Go.ChangeAt Go.RowKit
set_option linter.unusedVariables false
namespace LedR
open LinR RowG LtR NetR DocR
theorem net_size {a : ByteArray} {m : Int} : ∀ (ds : List D) (L : List N), (∀ d ∈ ds, ∀ e ∈ d.ls, e.i.size ≤ 1048576) → (∀ y ∈ L, y.i.size ≤ 1048576) → ∀ y ∈ ds.foldl (fun L d => bif of a m d then all L d.ls 1 else L) L, y.i.size ≤ 1048576
  | [], L, _, hL => hL
  | d :: ds, L, h, hL => by
    rw [List.foldl_cons]
    refine net_size ds _ (fun d hd => h d (by simp [hd])) ?_
    cases of a m d
    · exact hL
    · exact all_size hL (h d (by simp))
/-- Both answers. -/
def netB (ds : List D) (a : ByteArray) (m : Int) : List N := bif lB ds then clL (net ds a m) else []
theorem name_small {s : ByteArray} (h : NameR.nameB s = true) : s.size ≤ 8000 := by
  unfold NameR.nameB at h
  simp only [decide_eq_true_eq] at h
  omega
theorem net_long {ds : List D} {a : ByteArray} {m : Int} (h : LRight ds) (ha : 8000 < a.size) : net ds a m = [] := by
  refine net_zero ?_
  cases hc : cnt ds a m with
  | zero => rfl
  | succ n =>
    obtain ⟨i, hi, e1, e2⟩ := mem_cnt (ds := ds) (a := a) (m := m) (by omega)
    have h1 := (h.2.1 i hi).1
    unfold dB at h1
    simp only [Bool.and_eq_true] at h1
    have := name_small h1.1
    rw [e1] at this
    omega
theorem netB_len {ds : List D} {a : ByteArray} {m : Int} : (netB ds a m).length ≤ 180 := by
  unfold netB
  cases h : lB ds
  · simp
  · have hr := lB_iff.1 h
    have h1 := (net_facts (ds := ds) ds.length (Nat.le_refl _) hr.2.1 a m).2.1
    rw [List.take_length] at h1
    have h2 := hr.1
    simp only [cond_true, clL]
    cases ovB (net ds a m)
    · simp
    · have h3 := List.length_filter_le nz (net ds a m)
      simp only [cond_true]
      omega
theorem ov_net {ds : List D} (h : LRight ds) (a : ByteArray) (m : Int) : ovB (net ds a m) = true := by
  by_cases hc : cnt ds a m = 0
  · rw [net_zero hc]; rfl
  · obtain ⟨i, hi, rfl, rfl⟩ := mem_cnt hc
    exact h.2.2 i hi
theorem fldR (c : Int) (mb : Option Nat) (w : World) : (Instr.field 70 (.agg #[.int .i64 c, .map mb]) 1).run Try.prog w = .ok (.map mb) w := by kernel_rfl
set_option maxRecDepth 100000 in
set_option maxHeartbeats 4000000 in
theorem impl_net (ao : Option Addr) (cap : Nat) (ds : List D) (a : ByteArray) (m : Int) (w : World) (hlen : ds.length ≤ 1048576) (hSm : ∀ d ∈ ds, d.Sm) (hwf : ∀ d ∈ ds, (Lit.int .i64 d.mo).wf = true) (hg : Good a m) (hI : Dcs ao ds w) :
    Calls Try.prog 20 #[.slice ao ds.length cap, .string a, .int .i64 m] w fun e w' => ResL w (netB ds a m) e w' := by
  have H1 := hid_intro (irows ao cap ds w hlen hSm hwf hI)
  unfold RowsR at H1
  have HKY := hid_intro (keyP hg)
  have HG := hid_intro hg
  have HSz := hid_intro (net_size (a := a) (m := m) ds [] (fun d hd => (hSm d hd).2.2) (fun y h => by cases h))
  have HNL := hid_intro (fun h : LRight ds => (net_facts (ds := ds) ds.length (Nat.le_refl _) h.2.1 a m).2.1)
  have HT : Hid (netB ds a m = bif lB ds then clL (net ds a m) else []) := rfl
  have HOV := hid_intro (fun h : lB ds = true => ov_net (lB_iff.1 h) a m)
  have HLR := hid_intro (fun h : lB ds = true => lB_iff.1 h)
  have HCL : Hid (clL (net ds a m) = bif ovB (net ds a m) then (net ds a m).filter nz else []) := rfl
  have HZR : Hid (∀ h : cnt ds a m = 0, net ds a m = []) := hid_intro net_zero
  obtain ⟨T, hT0⟩ : ∃ T, netB ds a m = T := ⟨_, rfl⟩
  rw [hT0] at HT ⊢
  obtain ⟨len, hl0⟩ : ∃ len, ds.length = len := ⟨_, rfl⟩
  rw [hl0] at H1 ⊢
  have HL := hid_intro hl0
  clear hI hSm hwf hg hT0 hl0
  go_enter Try.func20, Try.ntmps20
  go_wp2_with fail
  refine H1.out.mono ?_
  rintro e w1 ⟨hb, ⟨hlb, c, rfl⟩ | ⟨hlb, M, rfl, hrows⟩⟩
  · have HB := hid_intro hb
    have HE : Hid (T = []) := hid_intro (by rw [HT.out, hlb]; rfl)
    clear hb hlb
    go_wp2_with fail
    go_ret
    rw [HE.out]
    exact resL_nil HB.out _ _
  · have HB := hid_intro hb
    have HE : Hid (T = (net ds a m).filter nz) := hid_intro (by rw [HT.out, hlb, cond_true, HCL.out, HOV.out hlb]; rfl)
    have HLR2 := hid_intro (HLR.out hlb)
    obtain ⟨Dm, f, h1, h2, h3, h4⟩ := hrows
    by_cases hc : cnt ds a m = 0
    · have hhas : Maps.has Dm (kP a m) = false := by
        cases hh : Maps.has Dm (kP a m)
        · rfl
        · obtain ⟨a', m', g, e, hn⟩ := h2 _ hh
          obtain ⟨rfl, rfl⟩ := kP_inj HG.out g e
          exact absurd hc hn
      obtain ⟨v, ps, hrun, hv⟩ := h1.lookup keyedP Try.underlying63 (zeroR _) (zd := .held (.agg #[.int .i64 0, .map none])) (zp := []) rfl HKY.out
      obtain rfl : v = .agg #[.int .i64 0, .map none] := by
        rw [Maps.atKey_of_not_has hhas] at hv
        simp [RV] at hv
        exact hv.1
      have HLN := hid_intro (lines_nil w1)
      have hfl := fldR 0 none w1
      have HE2 : Hid (T = []) := hid_intro (by rw [HE.out, HZR.out hc]; rfl)
      clear h1 h2 h3 h4 hv hb hlb hhas hc
      go_wp2_with fail
      refine HLN.out.mono ?_
      rintro e w2 ⟨v, rfl, ho, hb2⟩
      have HB2 := hid_intro (HB.out.trans (hb2.mono HB.out.size))
      have HO2 := hid_intro (own_low ho HB.out.size)
      clear ho hb2
      go_wp2_with fail
      go_ret
      rw [HE2.out]
      exact resL_own HO2.out HB2.out
    · obtain ⟨_, hatk, _, _, Dn, M', hM', hNO, hNN⟩ := h3 a m hc
      obtain ⟨v, ps, hrun, hv⟩ := h1.lookup keyedP Try.underlying63 (zeroR _) (zd := .held (.agg #[.int .i64 0, .map none])) (zp := []) rfl HKY.out
      obtain rfl : v = .agg #[.int .i64 (cnt ds a m : Nat), .map (some (f a m))] := by
        rw [hatk] at hv
        simp [RV] at hv
        exact hv.1
      have h30 := HLR2.out.1
      have hnl := HNL.out HLR2.out
      rw [List.take_length] at hnl
      have HLN := hid_intro (lines_any (f a m) M' Dn (net ds a m) w1 hNO (by omega) hNN (by omega) HSz.out)
      have hfl := fldR (cnt ds a m : Nat) (some (f a m)) w1
      generalize ((cnt ds a m : Nat) : Int) = cc at *
      generalize f a m = nb at *
      clear h1 h2 h3 h4 hv hb hlb hc hatk hNO hNN
      go_wp2_with fail
      refine HLN.out.mono ?_
      rintro e w2 ⟨v, rfl, ho, hb2⟩
      have HB2 := hid_intro (HB.out.trans (hb2.mono HB.out.size))
      have HO2 := hid_intro (own_low ho HB.out.size)
      clear ho hb2
      go_wp2_with fail
      go_ret
      rw [HE.out]
      exact resL_own HO2.out HB2.out
set_option maxRecDepth 100000 in
set_option maxHeartbeats 4000000 in
theorem snet (ao : Option Addr) (cap : Nat) (ds : List D) (a : ByteArray) (m : Int) (w : World) (hR : LRight ds) (hI : Dcs ao ds w) :
    Calls Try.prog 40 #[.slice ao ds.length cap, .string a, .int .i64 m] w fun e w' => ∃ v, e = .returned v ∧ OwnN w' w.heap.size v (clL (net ds a m)) ∧ Below w.heap.size w w' := by
  have H1 := hid_intro (ssum ao cap ds a m w hR.1 hR.2.1 hI)
  have HNL : Hid ((net ds a m).length ≤ 1000) := hid_intro (by have h := (net_facts (ds := ds) ds.length (Nat.le_refl _) hR.2.1 a m).2.1; rw [List.take_length] at h; have := hR.1; omega)
  generalize ds.length = len at *
  generalize net ds a m = L at *
  clear hI hR
  go_enter Try.func40, Try.ntmps40
  go_wp2_with fail
  refine H1.out.mono ?_
  rintro e w1 ⟨v, rfl, hv, hb1⟩
  have HB1 := hid_intro hb1
  obtain ⟨g, cp, rfl, h1, h2, h3, h4, h5⟩ := hv.open
  have H2 := hid_intro (sclean (some ⟨g, 0, none⟩) cp L w1 (by have := HNL.out; omega) h5)
  clear hv h5 hb1
  generalize L.length = ll at *
  generalize ovB L = rr at *
  go_wp2_with fail
  refine H2.out.mono ?_
  rintro e w2 ⟨v2, rfl, hv2, hb2⟩
  have HB2 := hid_intro (HB1.out.trans (hb2.mono HB1.out.size))
  have HV2 : Hid (OwnN w2 w.heap.size v2 (clL L)) := hid_intro ⟨own_low hv2.1 HB1.out.size, hv2.2⟩
  clear hv2 hb2
  go_wp2_with fail
  go_ret
  exact ⟨_, rfl, HV2.out, HB2.out⟩
set_option maxRecDepth 100000 in
set_option maxHeartbeats 4000000 in
theorem spec_net (ao : Option Addr) (cap : Nat) (ds : List D) (a : ByteArray) (m : Int) (w : World) (hlen : ds.length ≤ 1048576) (hSm : ∀ d ∈ ds, d.Sm) (ha : a.size ≤ 1048576) (hI : Dcs ao ds w) :
    Calls Try.prog 19 #[.slice ao ds.length cap, .string a, .int .i64 m] w fun e w' => ResL w (netB ds a m) e w' := by
  have H1 := hid_intro (spec_ledger ao cap ds w hlen hSm hI)
  have HK := hid_intro (fun W (h : Below w.heap.size w W) (r : lB ds = true) => snet ao cap ds a m W (lB_iff.1 r) (hI.below h))
  have HT : Hid (netB ds a m = bif lB ds then clL (net ds a m) else []) := rfl
  have HLA : Hid (400 < ds.length → lB ds = false) := hid_intro (fun h => lB_no (fun hr => by have := hr.1; omega))
  have HLG : Hid (8000 < a.size → netB ds a m = []) := hid_intro (fun h => by
    unfold netB
    cases hb : lB ds
    · rfl
    · rw [cond_true, net_long (lB_iff.1 hb) h]; rfl)
  generalize clL (net ds a m) = C at *
  generalize netB ds a m = T at *
  generalize lB ds = r at *
  generalize ds.length = len at *
  generalize hsz : a.size = sz at *
  clear hI hSm
  have HBz := hid_intro (fun W (h : Below w.heap.size w W) => h.alloc h.size (.cells #[] 45))
  by_cases qa : 400 < len
  · have qa2 : (400 : Int) < (len : Int) := by omega
    have HE : Hid (T = []) := hid_intro (by rw [HT.out, HLA.out qa]; rfl)
    go_enter Try.func19, Try.ntmps19
    go_wp2_with fail
    go_ret
    rw [HE.out]
    exact resL_nil (HBz.out _ (Below.refl _ _)) _ _
  have qa2 : ¬ (400 : Int) < (len : Int) := by omega
  by_cases qb : 8000 < sz
  · have qb2 : (8000 : Int) < (sz : Int) := by omega
    have HE := hid_intro (HLG.out qb)
    go_enter Try.func19, Try.ntmps19
    go_wp2_with fail
    go_ret
    rw [HE.out]
    exact resL_nil (HBz.out _ (Below.refl _ _)) _ _
  have qb2 : ¬ (8000 : Int) < (sz : Int) := by omega
  cases r
  · have HE : Hid (T = []) := HT
    go_enter Try.func19, Try.ntmps19
    go_wp2_with fail
    refine H1.out.mono ?_
    rintro e w1 ⟨rfl, hb1⟩
    have HB := hid_intro hb1
    clear hb1
    go_wp2_with fail
    go_ret
    rw [HE.out]
    exact resL_nil (HBz.out _ HB.out) _ _
  · have HE : Hid (T = C) := HT
    go_enter Try.func19, Try.ntmps19
    go_wp2_with fail
    refine H1.out.mono ?_
    rintro e w1 ⟨rfl, hb1⟩
    have HB := hid_intro hb1
    clear hb1
    have H2 := hid_intro (HK.out w1 HB.out (by trivial))
    go_wp2_with fail
    refine H2.out.mono ?_
    rintro e w2 ⟨v, rfl, hv, hb2⟩
    have HB2 := hid_intro (HB.out.trans (hb2.mono HB.out.size))
    have HV := hid_intro (own_low hv.1 HB.out.size)
    clear hv hb2
    go_wp2_with fail
    go_ret
    rw [HE.out]
    exact resL_own HV.out HB2.out
end LedR
end Go.Proofs.Ytnhpkcacjkebnaa
