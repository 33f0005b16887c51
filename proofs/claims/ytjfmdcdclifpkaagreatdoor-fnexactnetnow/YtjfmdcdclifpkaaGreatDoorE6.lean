/-
  An engine's sources are right: both sides say the same, whatever their marks. The condition: at most 1048576 sources with names of at most 1048576 bytes.
  Lists of entries: what is read of a row of them, the law's own copies, and lists held against each other. The condition: at most 1048576 entries.
-/
import Derived.Deep.RegionWith
import Derived.Test.YtjfmdcdclifpkaaGreatDoorE5
namespace Go.Proofs.YtjfmdcdclifpkaaGreatDoor
open Go.ChangeShapes Go.WideShapes Go.ChangeAt Go.RowKit
set_option linter.unusedVariables false
namespace EngR
open RowG LtR StxR OwG
open NameR (nameB)
open CatR (Cr Crs CrAt crs_at)
/-- The names of sources. -/
def nmS (ss : List Cr) : List ByteArray := ss.map (·.a)
theorem nmS_len (ss : List Cr) : (nmS ss).length = ss.length := List.length_map ..
theorem nmS_get (ss : List Cr) (k : Nat) (hk : k < ss.length) : (nmS ss).getD k tz = (ss.getD k Cr.zero).a := by simp [nmS, List.getD, hk]
/-- Is that a minute? -/
def minB (m : Int) : Bool := decide (0 ≤ m ∧ m ≤ 121000000)
def MOk (ss : List Cr) (k : Nat) : Prop := ∀ i, i < k → minB (ss.getD i Cr.zero).m = true
/-- Are these right sources? -/
def srcB (ss : List Cr) : Bool := ss.all (fun x => minB x.m) && nsB (nmS ss)
theorem srcB_mark {ss : List Cr} {k : Nat} (hk : k < ss.length) (h : minB (ss.getD k Cr.zero).m = false) : srcB ss = false := by
  unfold srcB
  rw [Bool.and_eq_false_iff]
  refine .inl (List.all_eq_false.2 ⟨ss[k], List.getElem_mem hk, ?_⟩)
  simp only [List.getD, List.getElem?_eq_getElem hk, Option.getD_some] at h
  simp [h]
theorem srcB_name {ss : List Cr} (h : nsB (nmS ss) = false) : srcB ss = false := by unfold srcB; rw [h, Bool.and_false]
theorem srcB_all {ss : List Cr} (h : MOk ss ss.length) : srcB ss = nsB (nmS ss) := by
  unfold srcB
  rw [List.all_eq_true.2 (fun x hx => ?_), Bool.true_and]
  obtain ⟨i, hi, rfl⟩ := List.getElem_of_mem hx
  have := h i hi
  simpa [List.getD, hi] using this
theorem MOk.zero (ss : List Cr) : MOk ss 0 := fun i h => absurd h (by omega)
theorem MOk.more {ss : List Cr} {k : Nat} (h : MOk ss k) (h1 : minB (ss.getD k Cr.zero).m = true) : MOk ss (k + 1) := by
  intro i hi
  by_cases e : i = k
  · subst e; exact h1
  · exact h i (by omega)
set_option maxRecDepth 100000 in
set_option maxHeartbeats 4000000 in
theorem spec_srcsA (ao : Option Addr) (cap : Nat) (ss : List Cr) (w : World) (hlen : ss.length ≤ 1048576) (hS : ∀ i, i < ss.length → (ss.getD i Cr.zero).a.size ≤ 1048576) (hI : Crs ao ss.length ss w) :
    Calls Tryz.prog 64 #[.slice ao ss.length cap] w fun e w' => e = .returned (.bool (srcB ss)) ∧ Below w.heap.size w w' := by
  obtain ⟨ns, hns⟩ : ∃ z, z = nmS ss := ⟨_, rfl⟩
  have hnl : ns.length = ss.length := by rw [hns]; exact nmS_len ss
  have HT0 : Hid (∀ k, k < ss.length → ¬ (lt (ahd ns k) (ns.getD k tz) = true ∧ nameB (ns.getD k tz) = true) → srcB ss = false) := hid_intro (fun k hk h => srcB_name (by rw [← hns]; exact nsB_false (by omega) h))
  have HT1 : Hid (∀ k, k < ss.length → minB (ss.getD k Cr.zero).m = false → srcB ss = false) := hid_intro (fun k hk h => srcB_mark hk h)
  have HTE : Hid (NOk ns ss.length → MOk ss ss.length → srcB ss = decide (1 ≤ ss.length ∧ ss.length ≤ 3)) := hid_intro (fun h h1 => by
    rw [srcB_all h1, ← hns]
    rw [← hnl] at h ⊢
    by_cases e : 1 ≤ ns.length ∧ ns.length ≤ 3
    · rw [decide_eq_true e]; exact nsB_yes ⟨e, h⟩
    · rw [decide_eq_false e]; exact nsB_no (fun hr => e hr.1))
  have HN : Hid (∀ k, k < ss.length → (ss.getD k Cr.zero).a = ns.getD k tz) := hid_intro (fun k hk => by rw [hns, nmS_get ss k hk])
  clear hns hnl
  have HI := hid_intro hI
  have HS := hid_intro hS
  obtain ⟨len, hl⟩ : ∃ len, len = ss.length := ⟨_, rfl⟩
  rw [← hl] at hlen ⊢
  have HL := hid_intro hl
  clear hI hS hl
  generalize srcB ss = R at *
  go_enter Tryz.func64, Tryz.ntmps64
  go_wp2_with fail
  go_loopw [3] (fun z wr => ∃ k : Nat, k ≤ len ∧ z = .int .i64 k ∧ Hid (NOk ns k) ∧ Hid (MOk ss k) ∧ Hid (Below w.heap.size w wr)) (fun z _ => len - (intOf z).toNat)
  case atStart => exact ⟨0, by omega, rfl, hid_intro (NOk.zero ns), hid_intro (MOk.zero ss), hid_intro (Below.refl _ _)⟩
  case round =>
    obtain ⟨k, hk, rfl, HK, HKM, HB⟩ := hrel
    by_cases hlt : k < len
    · have hlt2 : (k : Int) < (len : Int) := by omega
      obtain ⟨b, off, rfl, hbl, c0, c1⟩ := crs_at (HI.out.below HB.out) k (by have := HL.out; omega)
      have hsz := HS.out k (by have := HL.out; omega)
      have HM9 := hid_intro (fun h1 => HKM.out.more (k := k) h1)
      have HF9 := hid_intro (HT1.out k (by have := HL.out; omega))
      rw [HN.out k (by have := HL.out; omega)] at hsz c0
      obtain ⟨ym, hym⟩ : ∃ z, z = (ss.getD k Cr.zero).m := ⟨_, rfl⟩
      rw [← hym] at c1 HM9 HF9
      clear hym
      have H2 := hid_intro (fun w => EvtR.sminute_any ym w)
      have HM := hid_intro (fun h1 h2 => HK.out.more (k := k) h1 h2)
      have HF := hid_intro (HT0.out k (by have := HL.out; omega))
      rcases (show k = 0 ∨ ∃ j, k = j + 1 from by rcases k with _ | j; exact .inl rfl; exact .inr ⟨j, rfl⟩) with rfl | ⟨j, hkj⟩
      · have HA : Hid (ahd ns 0 = ⟨#[]⟩) := rfl
        simp only [Nat.zero_mul, Nat.add_zero] at c0 c1
        generalize ahd ns 0 = a at *
        generalize ns.getD 0 tz = xi at *
        have H1 := hid_intro (fun w => NameR.spec_any xi w hsz)
        have HP := hid_intro (name_posN (s := xi))
        generalize nameB xi = b1 at *
        cases b1
        · have HR : Hid (R = false) := hid_intro (HF.out (fun h => absurd h.2 (by simp)))
          clear HM HF HP
          go_wp2_with fail
          go_quiet ((first | (go_at_call 115; exact Calls.quiet_of_same (H1.out _)) | (go_at_call 47; exact Calls.quiet_of_same (H2.out _))))
          go_wp2_with fail
          go_ret
          exact ⟨ret_bool HR.out.symm, bdN HB.out _⟩
        · have HM2 := hid_intro (HM.out (by rw [HA.out]; exact lt_empty (HP.out rfl)) rfl)
          clear HM HF HP
          generalize hq9 : minB ym = b9 at *
          unfold minB at hq9
          rw [hq9] at H2
          clear hq9
          cases b9
          · have HR : Hid (R = false) := hid_intro (HF9.out rfl)
            go_wp2_with fail
            go_quiet ((first | (go_at_call 115; exact Calls.quiet_of_same (H1.out _)) | (go_at_call 47; exact Calls.quiet_of_same (H2.out _))))
            go_wp2_with fail
            go_ret
            exact ⟨ret_bool HR.out.symm, bdN HB.out _⟩
          · have HM3 := hid_intro (HM9.out rfl)
            go_wp2_with fail
            go_quiet ((first | (go_at_call 115; exact Calls.quiet_of_same (H1.out _)) | (go_at_call 47; exact Calls.quiet_of_same (H2.out _))))
            go_wp2_with fail
            go_roundw
            case rel => exact ⟨0 + 1, by omega, by go_num, HM2, HM3, hid_intro (bdN HB.out _)⟩
            case measure => simp [intOf]; omega
      · obtain ⟨b', off', hbo, hbl', d0, d1⟩ := crs_at (HI.out.below HB.out) j (by have := HL.out; omega)
        obtain ⟨rfl, rfl⟩ : b = b' ∧ off = off' := by simpa using hbo
        have HA : Hid (ahd ns k = ns.getD j tz) := hid_intro (by rw [hkj]; rfl)
        rw [HN.out j (by have := HL.out; omega)] at d0
        clear d1 hbl' hbo
        generalize ns.getD j tz = yi at *
        generalize ahd ns k = a at *
        generalize ns.getD k tz = xi at *
        have H1 := hid_intro (fun w => NameR.spec_any xi w hsz)
        generalize nameB xi = b1 at *
        have hj1 : IntKind.i64.wrap ((k : Int) - 1) = (j : Int) := by rw [IntKind.wrap_i64]; omega
        have hj2 : 0 < k := by omega
        have hj3 : (j : Int) < (len : Int) := by omega
        clear hkj
        cases b1
        · have HR : Hid (R = false) := hid_intro (HF.out (fun h => absurd h.2 (by simp)))
          clear HM HF
          go_wp2_with fail
          go_quiet ((first | (go_at_call 115; exact Calls.quiet_of_same (H1.out _)) | (go_at_call 47; exact Calls.quiet_of_same (H2.out _))))
          go_wp2_with fail
          go_ret
          exact ⟨ret_bool HR.out.symm, bdN HB.out _⟩
        rcases le_casesN xi yi with ⟨q1, q2⟩ | ⟨q1, q3, q4, q2⟩ | ⟨q1, q3, q4, q2⟩
        · have HR : Hid (R = false) := hid_intro (HF.out (fun h => by rw [HA.out, q2] at h; exact absurd h.1 (by simp)))
          have q5 : Op.bytesLess yi.toList xi.toList = false := lt_asymm q1
          clear HM HF q2
          go_wp2_with fail
          go_quiet ((first | (go_at_call 115; exact Calls.quiet_of_same (H1.out _)) | (go_at_call 47; exact Calls.quiet_of_same (H2.out _))))
          go_wp2_with fail
          go_ret
          exact ⟨ret_bool HR.out.symm, bdN HB.out _⟩
        · have HR : Hid (R = false) := hid_intro (HF.out (fun h => by rw [HA.out, q2] at h; exact absurd h.1 (by simp)))
          obtain rfl := toList_inj q3
          have q5 : Op.bytesLess xi.toList xi.toList = false := q1
          clear HM HF q2 q3 q4
          go_wp2_with fail
          go_quiet ((first | (go_at_call 115; exact Calls.quiet_of_same (H1.out _)) | (go_at_call 47; exact Calls.quiet_of_same (H2.out _))))
          go_wp2_with fail
          go_ret
          exact ⟨ret_bool HR.out.symm, bdN HB.out _⟩
        · have q5 : Op.bytesLess yi.toList xi.toList = true := q2
          have HM2 := hid_intro (HM.out (by rw [HA.out]; exact q2) rfl)
          clear HM HF q2
          generalize hq9 : minB ym = b9 at *
          unfold minB at hq9
          rw [hq9] at H2
          clear hq9
          cases b9
          · have HR : Hid (R = false) := hid_intro (HF9.out rfl)
            go_wp2_with fail
            go_quiet ((first | (go_at_call 115; exact Calls.quiet_of_same (H1.out _)) | (go_at_call 47; exact Calls.quiet_of_same (H2.out _))))
            go_wp2_with fail
            go_ret
            exact ⟨ret_bool HR.out.symm, bdN HB.out _⟩
          · have HM3 := hid_intro (HM9.out rfl)
            go_wp2_with fail
            go_quiet ((first | (go_at_call 115; exact Calls.quiet_of_same (H1.out _)) | (go_at_call 47; exact Calls.quiet_of_same (H2.out _))))
            go_wp2_with fail
            go_roundw
            case rel => exact ⟨k + 1, by omega, by go_num, HM2, HM3, hid_intro (bdN HB.out _)⟩
            case measure => simp [intOf]; omega
    · have hlt2 : ¬ (k : Int) < (len : Int) := by omega
      obtain rfl : k = len := by omega
      have HR := hid_intro (HTE.out (by rw [← HL.out]; exact HK.out) (by rw [← HL.out]; exact HKM.out))
      rw [← HL.out] at HR
      rcases (show k = 0 ∨ (1 ≤ k ∧ k ≤ 3) ∨ 3 < k by omega) with rfl | ⟨h1, h3⟩ | h3
      · go_wp2_with (go_at_call 99; go_in)
        go_ret
        exact ⟨ret_bool (by rw [HR.out]; rfl), HB.out⟩
      · have h1' : (1 : Int) ≤ (k : Int) := by omega
        have h3' : (k : Int) ≤ 3 := by omega
        have HR2 : Hid (R = true) := hid_intro (by rw [HR.out]; exact decide_eq_true ⟨h1, h3⟩)
        clear HR h1 h3
        go_wp2_with (go_at_call 99; go_in)
        go_ret
        exact ⟨ret_bool HR2.out.symm, HB.out⟩
      · have h1' : (1 : Int) ≤ (k : Int) := by omega
        have h3' : ¬ (k : Int) ≤ 3 := by omega
        have HR2 : Hid (R = false) := hid_intro (by rw [HR.out]; exact decide_eq_false (by omega))
        clear HR h3
        go_wp2_with (go_at_call 99; go_in)
        go_ret
        exact ⟨ret_bool HR2.out.symm, HB.out⟩
theorem infoSt : (Tryz.prog.info? 9).map (fun i => (i.zero, i.size, i.bytes)) = some (some (.string ⟨#[]⟩), 1, 16) := by kernel_rfl
theorem st_one (x : ByteArray) : ∀ u ∈ [Value.string x], u.oneCell' = true := by
  intro u hu
  simp at hu
  subst hu
  rfl
theorem nmS_take (ss : List Cr) (k : Nat) (hk : k < ss.length) : (nmS ss).take (k + 1) = (nmS ss).take k ++ [(ss.getD k Cr.zero).a] := by
  have h := RowG.take_more (z := tz) (nmS ss) k (by rw [nmS_len]; exact hk)
  rw [nmS_get ss k hk] at h
  exact h
set_option maxRecDepth 100000 in
set_option maxHeartbeats 4000000 in
theorem impl_srcs (ao : Option Addr) (cap : Nat) (ss : List Cr) (w : World) (hlen : ss.length ≤ 1048576) (hS : ∀ i, i < ss.length → (ss.getD i Cr.zero).a.size ≤ 1048576) (hI : Crs ao ss.length ss w) :
    Calls Tryz.prog 79 #[.slice ao ss.length cap] w fun e w' => e = .returned (.bool (srcB ss)) ∧ Below w.heap.size w w' := by
  obtain ⟨gi, gj, gz0, gz1, gz2⟩ := info_parts infoSt
  have HT1 : Hid (∀ k, k < ss.length → minB (ss.getD k Cr.zero).m = false → srcB ss = false) := hid_intro (fun k hk h => srcB_mark hk h)
  have HTE : Hid (MOk ss ss.length → srcB ss = nsB (nmS ss)) := hid_intro (fun h => srcB_all h)
  have HTK := hid_intro (nmS_take ss)
  have HSZ : Hid (∀ e ∈ nmS ss, e.size ≤ 1048576) := hid_intro (fun e he => by
    obtain ⟨x, hx, rfl⟩ := List.mem_map.1 he
    obtain ⟨i, hi, rfl⟩ := List.getElem_of_mem hx
    have := hS i hi
    simpa [List.getD, hi] using this)
  have HI := hid_intro hI
  obtain ⟨len, hl⟩ : ∃ len, len = ss.length := ⟨_, rfl⟩
  rw [← hl] at hlen ⊢
  have HL := hid_intro hl
  obtain ⟨ns, hns⟩ : ∃ z, z = nmS ss := ⟨_, rfl⟩
  have HNL : Hid (ns.length = len) := hid_intro (by rw [hns, nmS_len, hl])
  rw [← hns] at HTE HTK HSZ
  clear hI hl hS hns
  generalize srcB ss = R at *
  go_enter Tryz.func79, Tryz.ntmps79
  go_wp2_with fail
  go_loopw [3, 8] (fun x z wr => ∃ (k : Nat) (sa : Option Addr) (sc : Nat), k ≤ len ∧ x = .slice sa k sc ∧ z = .int .i64 k ∧ Hid (MOk ss k) ∧ Hid (wr.ownsRow w.heap.size 9 1 (.slice sa k sc) k (cellsAll tcells (ns.take k))) ∧ Hid (Below w.heap.size w wr)) (fun _ z _ => len - (intOf z).toNat)
  case atStart => exact ⟨0, none, 0, by omega, rfl, rfl, hid_intro (MOk.zero ss), hid_intro (World.ownsRow_nil _ _ _ _), hid_intro (Below.refl _ _)⟩
  case round =>
    obtain ⟨k, sa, sc, hk, rfl, rfl, HK, HO, HB⟩ := hrel
    by_cases hlt : k < len
    · have hlt2 : (k : Int) < (len : Int) := by omega
      obtain ⟨b, off, rfl, hbl, c0, c1⟩ := crs_at (HI.out.below HB.out) k (by have := HL.out; omega)
      have HM9 := hid_intro (fun h1 => HK.out.more (k := k) h1)
      have HF9 := hid_intro (HT1.out k (by have := HL.out; omega))
      have HTK9 := hid_intro (HTK.out k (by have := HL.out; omega))
      generalize ss.getD k Cr.zero = X at *
      obtain ⟨xn, xm⟩ := X
      dsimp only at c0 c1 HM9 HF9 HTK9
      have H2 := hid_intro (fun w => EvtR.minute_any xm w)
      have hal : Below wr.heap.size wr (wr.alloc (.cells #[.string xn, .int .i64 xm] 87)) := (Below.refl _ _).alloc (Nat.le_refl _) _
      have hal2 : Below wr.heap.size wr ((wr.alloc (.cells #[.string xn, .int .i64 xm] 87)).alloc (.cells #[.string xn] 9)) := hal.alloc (by simp) _
      have HB1 := hid_intro (HB.out.trans (hal.mono HB.out.size))
      have HB2 := hid_intro (HB.out.trans (hal2.mono HB.out.size))
      have HO2 := hid_intro (RowG.own_below HO.out hal2)
      have HNW : Hid (∀ j u, ([.string xn] : List Value)[j]? = some u → ((wr.alloc (.cells #[.string xn, .int .i64 xm] 87)).alloc (.cells #[.string xn] 9)).cell? ((⟨wr.heap.size + 1, 0, none⟩ : Addr).add j) = some u) := hid_intro (by
        have h := new_cells (wr.alloc (.cells #[.string xn, .int .i64 xm] 87)) [.string xn] 9
        rwa [show (wr.alloc (.cells #[.string xn, .int .i64 xm] 87)).heap.size = wr.heap.size + 1 by simp] at h)
      have hbase : w.heap.size ≤ ((wr.alloc (.cells #[.string xn, .int .i64 xm] 87)).alloc (.cells #[.string xn] 9)).heap.size := HB2.out.size
      have HBS := hid_intro hbase
      have sz1 : k + 1 ≤ maxLen := by unfold maxLen; omega
      have sz2 : (k + 1) * 16 ≤ 140737488355328 := by omega
      clear hal hal2 hbase HB HO
      generalize hq9 : minB xm = b9 at *
      unfold minB at hq9
      rw [hq9] at H2
      clear hq9
      cases b9
      · have HR : Hid (R = false) := hid_intro (HF9.out rfl)
        go_wp2_with (go_at_call 131; refine (H2.out _).mono ?_; rintro e w' ⟨rfl, rfl⟩)
        go_ret
        exact ⟨ret_bool HR.out.symm, HB1.out⟩
      · have HM3 := hid_intro (HM9.out rfl)
        go_wp2_with (first | (go_at_call 131; refine (H2.out _).mono ?_; rintro e w' ⟨rfl, rfl⟩) | (at_builtin; refine wpList_append_own _ rfl _ _ 101 rfl w.heap.size 9 gi (.string ⟨#[]⟩) 1 16 Tryz.underlying101 gj gz0 gz1 gz2 rfl (by decide) _ _ _ rfl HO2.out ⟨wr.heap.size + 1, 0, none⟩ 1 1 [.string xn] rfl rfl HNW.out (st_one xn) sz1 sz2 HBS.out ?_))
        intro v9 w9 hown hgrow hne
        have HB9 := hid_intro (HB2.out.grown hgrow HB2.out.size (fun _ e => (HO2.out.lt _ e).1))
        have hS9 : w9.ownsRow w.heap.size 9 1 v9 (k + 1) (cellsAll tcells (ns.take (k + 1))) := by
          rw [HTK9.out, cellsAll_snoc]
          exact hown
        obtain ⟨sb, sq, rfl⟩ := own_form hown
        have HS9 := hid_intro hS9
        clear hown hgrow hne hS9 HB1 HB2 HO2 HNW HBS
        go_wp2_with fail
        go_roundw
        case rel => exact ⟨k + 1, some ⟨sb, 0, none⟩, sq, by omega, rfl, by go_num, HM3, HS9, HB9⟩
        case measure => simp [intOf]; omega
    · have hlt2 : ¬ (k : Int) < (len : Int) := by omega
      obtain rfl : k = len := by omega
      have HR : Hid (R = nsB ns) := hid_intro (HTE.out (by rw [← HL.out]; exact HK.out))
      have HTA : Hid (ns.take k = ns) := hid_intro (by rw [← HNL.out]; exact List.take_length)
      rw [HTA.out] at HO
      obtain ⟨ao', cap', e1, hm⟩ := RowG.own_made (cells := tcells) (z := tz) (fun _ => rfl) (xs := ns) (by have := HO.out; rwa [← HNL.out] at this)
      simp only [Value.slice.injEq] at e1
      obtain ⟨rfl, _, rfl⟩ := e1
      have H5 := hid_intro (impl_names sa sc ns wr (by have := HNL.out; omega) HSZ.out hm.rws)
      rw [HNL.out, ← HR.out] at H5
      clear hm HO
      go_wp2_with (go_at_call 132; refine H5.out.mono ?_; rintro e w' ⟨rfl, hb⟩)
      go_ret
      exact ⟨rfl, HB.out.trans (hb.mono HB.out.size)⟩
end EngR
end Go.Proofs.YtjfmdcdclifpkaaGreatDoor
namespace Go.Proofs.YtjfmdcdclifpkaaGreatDoor
open Go.ChangeShapes Go.WideShapes Go.ChangeAt Go.RowKit
set_option linter.unusedVariables false
namespace SeenR
open RowG
open EvtR (Pt)
/-- An entry. -/
structure N where
  i : ByteArray
  n : Int
  s : Int
def N.v (e : N) : Value := .agg #[.string e.i, .int .i64 e.n, .int .i64 e.s]
def N.zero : N := ⟨⟨#[]⟩, 0, 0⟩
def N.cells (e : N) : List Value := [.string e.i, .int .i64 e.n, .int .i64 e.s]
theorem N.len (e : N) : e.cells.length = 3 := rfl
/-- The row holds these entries. -/
def Ens (ao : Option Addr) (es : List N) (w : World) : Prop := Rws 3 N.cells N.zero ao es w
theorem Ens.below {ao : Option Addr} {es : List N} {w w' : World} (h : Ens ao es w) (hb : Below w.heap.size w w') : Ens ao es w' := Rws.below h hb
theorem Ens.at {ao : Option Addr} {es : List N} {w : World} (h : Ens ao es w) (j : Nat) (hj : j < es.length) : ∃ b off, ao = some ⟨b, off, none⟩ ∧ b < w.heap.size ∧ w.cell? ⟨b, off + j * 3, none⟩ = some (.string (es.getD j N.zero).i) ∧ w.cell? ⟨b, off + j * 3 + 1, none⟩ = some (.int .i64 (es.getD j N.zero).n) ∧ w.cell? ⟨b, off + j * 3 + 2, none⟩ = some (.int .i64 (es.getD j N.zero).s) := by
  obtain ⟨b, off, h1, h2, h3⟩ := Rws.at h j hj
  exact ⟨b, off, h1, h2, h3 0 (by omega), h3 1 (by omega), h3 2 (by omega)⟩
/-- How many letters the entries hold. -/
def szL (es : List N) : Int := (es.map (fun e => (e.i.size : Int))).sum
theorem szL_nn (es : List N) : 0 ≤ szL es := by
  unfold szL
  induction es with
  | nil => simp
  | cons e es ih => simp only [List.map_cons, List.sum_cons]; omega
theorem szL_take (es : List N) (k : Nat) (h : k < es.length) : szL (es.take (k + 1)) = szL (es.take k) + ((es.getD k N.zero).i.size : Int) := by
  unfold szL
  rw [take_more (z := N.zero) es k h, List.map_append, List.sum_append]
  simp
theorem szL_le (es : List N) (k : Nat) : szL (es.take k) ≤ szL es := by
  have := szL_nn (es.drop k)
  have e : szL es = szL (es.take k) + szL (es.drop k) := by
    unfold szL
    rw [← List.sum_append, ← List.map_append, List.take_append_drop]
  omega
/-- What is left of the law's size. -/
def szR (es : List N) : Int := if (es.length : Int) + szL es ≤ 1048576 then 1048576 - (es.length : Int) - szL es else -1
theorem sz_any (i : ByteArray) (n s left : Int) (h1 : i.size ≤ maxLen) (hl : 0 ≤ left) (hl2 : left ≤ 1048576) (w : World) :
    Calls Tryz.prog 58 #[.agg #[.string i, .int .i64 n, .int .i64 s], .int .i64 left] w fun e w' => e = .returned (.int .i64 (if (i.size : Int) ≤ left then left - (i.size : Int) else -1)) ∧ Below w.heap.size w w' := by
  unfold maxLen at *
  have HB := hid_intro ((Below.refl w.heap.size w).alloc (Nat.le_refl _) (Obj.cells #[.string i, .int .i64 n, .int .i64 s] 99))
  rcases (show (left - (i.size : Int) < 0) ∨ (¬ left - (i.size : Int) < 0) by omega) with q1 | q1
  all_goals
    go_enter Tryz.func58, Tryz.ntmps58
    go_wp2_with fail
    go_ret
    refine ⟨ret_int ?_, HB.out⟩
    first | rfl | omega | (rw [if_neg (by omega)]; done) | (rw [if_pos (by omega)]; done)
set_option maxHeartbeats 4000000 in
theorem szs_any (ao : Option Addr) (cap : Nat) (es : List N) (w : World) (hm : es.length ≤ maxLen) (hI : Ens ao es w) (hw : ∀ e ∈ es, e.i.size ≤ maxLen) :
    Calls Tryz.prog 21 #[.slice ao es.length cap, .int .i64 1048576] w fun e w' => e = .returned (.int .i64 (szR es)) ∧ Below w.heap.size w w' := by
  obtain ⟨len, hlen⟩ : ∃ len, len = es.length := ⟨_, rfl⟩
  rw [← hlen] at hm ⊢
  have HZ := hid_intro hlen
  have HI := hid_intro hI
  have HW := hid_intro hw
  have HR : Hid (szR es = if (es.length : Int) + szL es ≤ 1048576 then 1048576 - (es.length : Int) - szL es else -1) := rfl
  generalize szR es = R at *
  unfold maxLen at hm
  clear hI hw hlen
  by_cases hbig : 1048576 < len
  · have hl2 : (1048576 : Int) - (len : Int) < 0 := by omega
    have HN : Hid (R = -1) := hid_intro (by rw [HR.out, if_neg]; have := szL_nn es; have := HZ.out; omega)
    go_enter Tryz.func21, Tryz.ntmps21
    go_wp2_with fail
    go_ret
    exact ⟨ret_int HN.out.symm, Below.refl _ _⟩
  have hl : (len : Int) ≤ 1048576 := by omega
  have hl2 : ¬ (1048576 : Int) - (len : Int) < 0 := by omega
  go_enter Tryz.func21, Tryz.ntmps21
  go_wp2_with fail
  go_loopw [5, 1] (fun x y w' => ∃ (j : Nat) (L : Int), j ≤ len ∧ x = .int .i64 j ∧ y = .int .i64 L ∧ 0 ≤ L ∧ L ≤ 1048576 ∧ Hid (L = 1048576 - (len : Int) - szL (es.take j)) ∧ Hid (Below w.heap.size w w')) (fun x y w' => len - (intOf x).toNat)
  case atStart => exact ⟨0, 1048576 - (len : Int), Nat.zero_le _, rfl, rfl, by omega, by omega, hid_intro (by simp [szL]), hid_intro (Below.refl _ _)⟩
  case round =>
    obtain ⟨j, L, hj, rfl, rfl, l0, l1, HL, HB⟩ := hrel
    by_cases hlt : j < len
    · obtain ⟨b, off, rfl, hbl, c0, c1, c2⟩ := (HI.out.below HB.out).at j (by have := HZ.out; omega)
      have HS := hid_intro (szL_take es j (by have := HZ.out; omega))
      have q1 := HW.out _ (getD_mem (z := N.zero) es j (by have := HZ.out; omega))
      generalize es.getD j N.zero = E1 at *
      obtain ⟨i, n, s⟩ := E1
      have HS : Hid (szL (es.take (j + 1)) = szL (es.take j) + (i.size : Int)) := HS
      have HC := hid_intro (fun w => sz_any i n s L q1 l0 l1 w)
      have hlt2 : (j : Int) < (len : Int) := by omega
      clear q1
      by_cases hs : (i.size : Int) ≤ L
      · rw [if_pos hs] at HC
        have HN : Hid (L - (i.size : Int) = 1048576 - (len : Int) - szL (es.take (j + 1))) := hid_intro (by rw [HS.out, HL.out]; omega)
        have r0 : 0 ≤ L - (i.size : Int) := by omega
        have r1 : L - (i.size : Int) ≤ 1048576 := by omega
        generalize L - (i.size : Int) = L2 at *
        clear hs
        go_wp2_with fail
        refine (HC.out _).mono ?_
        rintro e w1 ⟨rfl, hb⟩
        have HB1 := hid_intro (HB.out.trans (hb.mono HB.out.size))
        clear hb HB c0 c1 c2
        have r2 : ¬ L2 < 0 := by omega
        go_wp2_with fail
        go_roundw
        case rel => exact ⟨j + 1, L2, by omega, by go_num, rfl, r0, r1, HN, HB1⟩
        case measure => simp [intOf]; omega
      · rw [if_neg hs] at HC
        have HN : Hid (R = -1) := hid_intro (by rw [HR.out, if_neg]; have := szL_le es (j + 1); have := HS.out; have := HL.out; have := HZ.out; omega)
        go_wp2_with fail
        refine (HC.out _).mono ?_
        rintro e w1 ⟨rfl, hb⟩
        have HB1 := hid_intro (HB.out.trans (hb.mono HB.out.size))
        clear hb HB c0 c1 c2
        go_wp2_with fail
        go_ret
        exact ⟨ret_int HN.out.symm, HB1.out⟩
    · obtain rfl : j = len := by omega
      have HN : Hid (R = L) := hid_intro (by
        have e := HL.out
        rw [List.take_of_length_le (by have := HZ.out; omega)] at e
        rw [HR.out, if_pos (by have := HZ.out; omega)]; have := HZ.out; omega)
      go_wp2_with fail
      go_ret
      exact ⟨ret_int HN.out.symm, HB.out⟩
theorem infoN : (Tryz.prog.info? 119).map (fun i => (i.zero, i.size, i.bytes)) = some (some (.agg #[.string ⟨#[]⟩, .int .i64 0, .int .i64 0]), 3, 32) := by kernel_rfl
theorem row_full3 {w : World} {base e g n s : Nat} {xs : List Value} (h : w.ownsRow base e s (.slice (some ⟨g, 0, none⟩) n n) n xs) : Pt g (n * s) w := by
  rcases h.2 with ⟨h1, _⟩ | ⟨g', cap, cur, h1, _, hg, _, _, hs, _⟩
  · simp at h1
  · simp at h1
    obtain ⟨rfl, rfl⟩ := h1
    refine ⟨(Array.getElem?_eq_some_iff.1 hg).1, fun o ho => ⟨cur[o]'(by omega), ?_⟩, fun o ho => ?_⟩
    · have : o < cur.size := by omega
      simp [World.cell?, hg, this]
    · simp [World.frozen?, hg]
theorem toEntry_any (i : ByteArray) (n s : Int) (w : World) :
    Calls Tryz.prog 75 #[.agg #[.string i, .int .i64 n, .int .i64 s]] w fun e w' => e = .returned (.agg #[.string i, .int .i64 n, .int .i64 s]) ∧ Below w.heap.size w w' := by
  go_enter Tryz.func75, Tryz.ntmps75
  go_wp2_with fail
  refine bodyPost_ret (v := .agg #[.string i, .int .i64 n, .int .i64 s]) (by simp [results, Tryz.results75, go_sem]) rfl ⟨rfl, ?_⟩
  repeat' first | exact Below.refl _ _ | apply Below.setCell | apply Below.alloc
  all_goals first | omega | (simp; done) | (simp; omega)
/-- One more cell of a row that is being laid. -/
theorem fill_step {f : Nat → Option Value} {w wr : World} {m j : Nat} (hb : Below w.heap.size w wr) (hp : Pt w.heap.size m wr) (hw : Wr f j w.heap.size wr) (hj : j < m) (v : Value) (hv : f j = some v) :
    Below w.heap.size w (wr.setCell ⟨w.heap.size, j, none⟩ v) ∧ Pt w.heap.size m (wr.setCell ⟨w.heap.size, j, none⟩ v) ∧ Wr f (j + 1) w.heap.size (wr.setCell ⟨w.heap.size, j, none⟩ v) :=
  ⟨hb.setCell (Nat.le_refl _) _, hp.set _ _, hw.more hp hj v hv⟩
set_option maxRecDepth 100000 in
set_option maxHeartbeats 4000000 in
theorem toEns_any (ao : Option Addr) (cap : Nat) (es : List N) (w : World) (hlen : es.length ≤ 1048576) (hI : Ens ao es w) :
    Calls Tryz.prog 28 #[.slice ao es.length cap] w fun e w' => e = .returned (.slice (some ⟨w.heap.size, 0, none⟩) es.length es.length) ∧ Ens (some ⟨w.heap.size, 0, none⟩) es w' ∧ Pt w.heap.size (es.length * 3) w' ∧ Below w.heap.size w w' := by
  obtain ⟨i0, hi, hz0, hz1, hz2⟩ := info_parts infoN
  have HI := hid_intro hI
  have HWS : Hid (∀ wr, Wr (cellAt 3 N.cells N.zero es) (es.length * 3) w.heap.size wr → w.heap.size < wr.heap.size → Ens (some ⟨w.heap.size, 0, none⟩) es wr) := hid_intro (fun wr h hl => Wr.rws h hl)
  have HZ : Hid (∀ k, k < es.length → True) := hid_intro (fun _ _ => trivial)
  obtain ⟨len, hl⟩ : ∃ len, len = es.length := ⟨_, rfl⟩
  rw [← hl] at hlen HWS ⊢
  have HL := hid_intro hl
  clear hI hl
  go_enter Tryz.func28, Tryz.ntmps28
  go_wp2_with (at_make; refine wpList_make_full _ rfl _ _ 40 rfl w.heap.size 119 i0 (.agg #[.string ⟨#[]⟩, .int .i64 0, .int .i64 0]) 3 Tryz.underlying40 hi hz0 hz1 .i64 .i64 _ _ len rfl rfl rfl rfl ?b2 ?b3 ?b4 ?_)
  case b2 => rw [hz2]; omega
  case b3 => unfold maxLen; omega
  case b4 => exact Nat.le_refl _
  intro wm hown hgrow
  have HB0 : Hid (Below w.heap.size w wm) := hid_intro ((Below.refl _ _).grown hgrow (Nat.le_refl _) (fun k e => by cases e))
  have HP0 := hid_intro (row_full3 hown)
  clear hown hgrow hi hz0 hz1 hz2
  go_wp2_with fail
  go_loopw [4] (fun z wr => ∃ k : Nat, k ≤ len ∧ z = .int .i64 k ∧ Hid (Below w.heap.size w wr) ∧ Hid (Pt w.heap.size (len * 3) wr) ∧ Hid (Wr (cellAt 3 N.cells N.zero es) (k * 3) w.heap.size wr)) (fun z _ => len - (intOf z).toNat)
  case atStart => exact ⟨0, by omega, rfl, HB0, HP0, hid_intro (fun o ho => absurd ho (by omega))⟩
  case round =>
    obtain ⟨k, hk, rfl, HB, HP, HW⟩ := hrel
    by_cases hlt : k < len
    · have hlt2 : (k : Int) < (len : Int) := by omega
      obtain ⟨b, off, rfl, hbl, c0, c1, c2⟩ := (HI.out.below HB.out).at k (by have := HL.out; omega)
      have HX := hid_intro (cellAt_of (k := 3) (cells := N.cells) (z := N.zero) (xs := es) k)
      generalize es.getD k N.zero = X at *
      obtain ⟨xi, xn, xs⟩ := X
      have HC := hid_intro (fun w => toEntry_any xi xn xs w)
      go_wp2_with fail
      refine (HC.out _).mono ?_
      rintro e w1 ⟨rfl, hb⟩
      replace HW := hid_intro (HW.out.below HP.out hb)
      replace HP := hid_intro (HP.out.below hb)
      replace HB := hid_intro (HB.out.trans (hb.mono HB.out.size))
      have HS0 := hid_intro (fill_step HB.out HP.out HW.out (by omega) (.string xi) (HX.out 0 (by omega)))
      have HS1 := hid_intro (fill_step HS0.out.1 HS0.out.2.1 HS0.out.2.2 (by omega) (.int .i64 xn) (HX.out 1 (by omega)))
      have HS2 := hid_intro (fill_step HS1.out.1 HS1.out.2.1 HS1.out.2.2 (by omega) (.int .i64 xs) (HX.out 2 (by omega)))
      obtain ⟨v0, d0⟩ := HP.out.has (k * 3) (by omega)
      obtain ⟨v1, d1⟩ := HP.out.has (k * 3 + 1) (by omega)
      obtain ⟨v2, d2⟩ := HP.out.has (k * 3 + 2) (by omega)
      have z0 := HP.out.free (k * 3) (by omega)
      have z1 := HP.out.free (k * 3 + 1) (by omega)
      have z2 := HP.out.free (k * 3 + 2) (by omega)
      clear hb c0 c1 c2 HX HS0 HS1
      go_wp2_with fail
      go_roundw
      case rel => exact ⟨k + 1, by omega, by go_num, hid_intro HS2.out.1, hid_intro HS2.out.2.1, hid_intro (by rw [show (k + 1) * 3 = k * 3 + 1 + 1 + 1 by omega]; exact HS2.out.2.2)⟩
      case measure => simp [intOf]; omega
    · have hlt2 : ¬ (k : Int) < (len : Int) := by omega
      obtain rfl : k = len := by omega
      go_wp2_with fail
      go_ret
      exact ⟨rfl, HWS.out _ HW.out HP.out.lt, HP.out, HB.out⟩
theorem eqEntry_any (i : ByteArray) (n s : Int) (w : World) : Calls Tryz.prog 89 #[.agg #[.string i, .int .i64 n, .int .i64 s], .agg #[.string i, .int .i64 n, .int .i64 s]] w fun e w' => e = .returned (.bool true) ∧ Below w.heap.size w w' := by
  go_enter Tryz.func89, Tryz.ntmps89
  go_wp2
  go_ret
  refine ⟨rfl, ?_⟩
  repeat' first | exact Below.refl _ _ | apply Below.setCell | apply Below.alloc
  all_goals first | omega | (simp; done) | (simp; omega)
set_option maxHeartbeats 4000000 in
theorem eqEns_any (ao bo : Option Addr) (cap cap' : Nat) (es : List N) (w : World) (hlen : es.length ≤ 1048576) (hI : Ens ao es w) (hJ : Ens bo es w) :
    Calls Tryz.prog 36 #[.slice ao es.length cap, .slice bo es.length cap'] w fun e w' => e = .returned (.bool true) ∧ Below w.heap.size w w' := by
  have HI := hid_intro hI
  have HJ := hid_intro hJ
  obtain ⟨len, hl⟩ : ∃ len, len = es.length := ⟨_, rfl⟩
  rw [← hl] at hlen ⊢
  have HL := hid_intro hl
  clear hI hJ hl
  go_enter Tryz.func36, Tryz.ntmps36
  go_wp2_with fail
  go_loopw [5] (fun z wr => ∃ k : Nat, k ≤ len ∧ z = .int .i64 k ∧ Hid (Below w.heap.size w wr)) (fun z _ => len - (intOf z).toNat)
  case atStart => exact ⟨0, by omega, rfl, hid_intro (Below.refl _ _)⟩
  case round =>
    obtain ⟨k, hk, rfl, HW⟩ := hrel
    by_cases hlt : k < len
    · have hlt2 : (k : Int) < (len : Int) := by omega
      obtain ⟨b, off, rfl, _, c0, c1, c2⟩ := (HI.out.below HW.out).at k (by have := HL.out; omega)
      obtain ⟨b', off', rfl, _, e0, e1, e2⟩ := (HJ.out.below HW.out).at k (by have := HL.out; omega)
      generalize es.getD k N.zero = X at *
      obtain ⟨xi, xn, xs⟩ := X
      have HC := hid_intro (fun w => eqEntry_any xi xn xs w)
      go_wp2_with fail
      go_region_with (go_at_call 89; refine (HC.out _).mono ?_; rintro e w1 ⟨rfl, hb⟩)
      all_goals (
        have HB1 := hid_intro (HW.out.drew.trans (hb.mono HW.out.drew.size))
        clear hb c0 c1 c2 e0 e1 e2
        go_wp2_with fail
        go_roundw
        case rel => exact ⟨k + 1, by omega, by go_num, HB1⟩
        case measure => simp [intOf]; omega)
    · have hlt2 : ¬ (k : Int) < (len : Int) := by omega
      go_wp2_with fail
      go_ret
      exact ⟨rfl, HW.out⟩
end SeenR
end Go.Proofs.YtjfmdcdclifpkaaGreatDoor
