/-
  What the program calls right credits. The condition: at most 1048576 of them, each account of at most 1048576 bytes.
  What the program calls a right catalog. The conditions: all in it is small; the program's own error stands in its variable.
  The model's count of documents of an account and month, and what they come to. The conditions: at most 1048576 documents to count, at most 30 that are right to add.
  The program's rows of a ledger, one document more. No condition.
-/
import Derived.Test.YtjfmdcdclifpkaaGreatDoorE25
namespace Go.Proofs.YtjfmdcdclifpkaaGreatDoor
open Go.ChangeShapes Go.WideShapes Go.ChangeAt Go.RowKit
set_option linter.unusedVariables false
namespace CatR
/-- The account ahead, none ahead of the first. -/
def cP (cs : List Cr) : Nat → ByteArray
  | 0 => ⟨#[]⟩
  | k + 1 => cA cs k
theorem leq_yes {a p : ByteArray} (h : (Op.bytesLess a.toList p.toList || (a.toList == p.toList)) = true) : lt p a = false := by
  rw [Bool.or_eq_true] at h
  rcases h with h | h
  · exact lt_asymm h
  · rw [toList_inj (beq_iff_eq.1 h)]; exact lt_irrefl _
theorem leq_no {a p : ByteArray} (h : (Op.bytesLess a.toList p.toList || (a.toList == p.toList)) = false) : lt p a = true := by
  rw [Bool.or_eq_false_iff] at h
  cases h2 : lt p a
  · have := lt_total h2 h.1
    rw [this] at h
    simp at h
  · rfl
theorem cs_le {cs : List Cr} {k : Nat} (hk : k < cs.length) (h : (Op.bytesLess (cA cs k).toList (cP cs k).toList || ((cA cs k).toList == (cP cs k).toList)) = true) : csB cs = false := by
  have h2 := leq_yes h
  match k, hk, h2 with
  | 0, hk, h2 =>
    refine cs_name hk ?_
    apply NameR.name_size
    rcases Nat.lt_or_ge (cA cs 0).size 1 with h3 | h3
    · exact .inl h3
    · have := lt_empty h3
      rw [show lt ⟨#[]⟩ (cA cs 0) = lt (cP cs 0) (cA cs 0) from rfl, h2] at this
      cases this
  | k + 1, hk, h2 => exact cs_flat hk (by omega) h2
theorem cs_go {cs : List Cr} {k : Nat} (h : COk cs k) (hl : (Op.bytesLess (cA cs k).toList (cP cs k).toList || ((cA cs k).toList == (cP cs k).toList)) = false) (hn : NameR.nameB (cA cs k) = true) (hm : 0 ≤ cM cs k ∧ cM cs k ≤ 1000000000000) : COk cs (k + 1) := by
  refine h.more hn hm (fun h0 => ?_)
  have h2 := leq_no hl
  match k, h0, h2 with
  | k + 1, _, h2 => exact h2
set_option maxRecDepth 100000 in
set_option maxHeartbeats 8000000 in
theorem impl_cs (ao : Option Addr) (len cap : Nat) (cs : List Cr) (w : World) (hlen : len ≤ 1048576) (hS : ∀ i, i < len → (cs.getD i Cr.zero).a.size ≤ 1048576) (hI : Crs ao len cs w) :
    Calls Tryz.prog 130 #[.slice ao len cap] w fun e w' => e = .returned (.bool (csB cs)) ∧ Below w.heap.size w w' := by
  have hz := hI.1
  by_cases h6 : 6 < len
  · have h6' : (6 : Int) < (len : Int) := by omega
    have HR := hid_intro (cs_many (cs := cs) (by omega))
    clear hI hS
    go_enter Tryz.func130, Tryz.ntmps130
    go_wp2_with fail
    go_ret
    exact ⟨ret_bool HR.out.symm, Below.refl _ _⟩
  · have h6' : ¬ (6 : Int) < (len : Int) := by omega
    have HI := hid_intro hI
    have HS := hid_intro hS
    have HZ := hid_intro hz
    clear hI hS
    go_enter Tryz.func130, Tryz.ntmps130
    go_wp2_with fail
    go_loopw [3, 11] (fun x z wr => ∃ k : Nat, k ≤ len ∧ x = .string (cP cs k) ∧ z = .int .i64 k ∧ Hid (COk cs k) ∧ Hid (Below w.heap.size w wr)) (fun x z _ => len - (intOf z).toNat)
    case atStart => exact ⟨0, by omega, rfl, rfl, hid_intro (COk.zero cs), hid_intro (Below.refl _ _)⟩
    case round =>
      obtain ⟨k, hk, rfl, rfl, HK, HB⟩ := hrel
      by_cases hlt : k < len
      · have hlt2 : (k : Int) < (len : Int) := by omega
        have hkl : k < cs.length := by have := HZ.out; omega
        obtain ⟨b, off, rfl, hbl, d0, d1⟩ := crs_at (HI.out.below HB.out) k hlt
        have c0 : wr.cell? ⟨b, off + k * 2, none⟩ = some (.string (cA cs k)) := d0
        have c1 : wr.cell? ⟨b, off + k * 2 + 1, none⟩ = some (.int .i64 (cM cs k)) := d1
        clear d0 d1
        have hsz : (cA cs k).size ≤ 1048576 := HS.out k hlt
        have HN := hid_intro (fun w => NameR.impl_any (cA cs k) w hsz)
        have HW := hid_intro (fun w => within64 (cM cs k) 0 1000000000000 w)
        have HLE := hid_intro (cs_le hkl)
        have HNA := hid_intro (cs_name hkl)
        have HMI := hid_intro (cs_micro hkl)
        have HGO := hid_intro (cs_go HK.out)
        have HP : Hid (cP cs (k + 1) = cA cs k) := rfl
        generalize NameR.nameB (cA cs k) = r at *
        generalize cA cs k = a at *
        generalize cP cs k = p at *
        generalize cM cs k = m at *
        have HAl := hid_intro (fun o => HB.out.alloc HB.out.size o)
        cases hle : (Op.bytesLess a.toList p.toList || (a.toList == p.toList))
        · cases r
          · have HR := hid_intro (HNA.out rfl)
            go_wp2_with (first | (go_at_call 180; refine (HN.out _).mono ?_; rintro e w' ⟨rfl, rfl⟩) | (go_at_call 50; refine (HW.out _).mono ?_; rintro e w' ⟨rfl, rfl⟩))
            go_ret
            exact ⟨ret_bool HR.out.symm, HAl.out _⟩
          · by_cases hm : 0 ≤ m ∧ m ≤ 1000000000000
            · have HM := hid_intro (HGO.out hle rfl hm)
              rw [decide_eq_true hm] at HW
              go_wp2_with (first | (go_at_call 180; refine (HN.out _).mono ?_; rintro e w' ⟨rfl, rfl⟩) | (go_at_call 50; refine (HW.out _).mono ?_; rintro e w' ⟨rfl, rfl⟩))
              go_roundw
              case rel => exact ⟨k + 1, by omega, by rw [HP.out], by go_num, HM, hid_intro (HAl.out _)⟩
              case measure => simp [intOf]; omega
            · have HR := hid_intro (HMI.out hm)
              rw [decide_eq_false hm] at HW
              go_wp2_with (first | (go_at_call 180; refine (HN.out _).mono ?_; rintro e w' ⟨rfl, rfl⟩) | (go_at_call 50; refine (HW.out _).mono ?_; rintro e w' ⟨rfl, rfl⟩))
              go_ret
              exact ⟨ret_bool HR.out.symm, HAl.out _⟩
        · have HR := hid_intro (HLE.out hle)
          go_wp2_with fail
          go_ret
          exact ⟨ret_bool HR.out.symm, HAl.out _⟩
      · obtain rfl : k = len := by omega
        have HR : Hid (csB cs = true) := hid_intro (cs_end (by have := HZ.out; omega) (by rw [HZ.out]; exact HK.out))
        go_wp2_with fail
        go_ret
        exact ⟨ret_bool HR.out.symm, HB.out⟩
end CatR
end Go.Proofs.YtjfmdcdclifpkaaGreatDoor
namespace Go.Proofs.YtjfmdcdclifpkaaGreatDoor
open Go.ChangeShapes Go.WideShapes Go.ChangeAt Go.RowKit
set_option linter.unusedVariables false
namespace CatR
set_option maxHeartbeats 4000000 in
theorem impl_ca (v : Value) (c : Ca) (w : World) (hS : c.Small) (hC : IsCa v c w) (hL : Laid w) :
    Calls Tryz.prog 78 #[v] w fun e w' => e = .returned (.bool (caB c)) ∧ Below w.heap.size w w' := by
  obtain ⟨ma, mc, ca, cc, rfl, hM, hR⟩ := hC
  obtain ⟨ms, cs⟩ := c
  obtain ⟨s1, s2, s3, s4⟩ := hS
  simp only at *
  obtain ⟨V, hV⟩ := mes_v hM
  have HM : Hid (∀ W, Below w.heap.size w W → Calls Tryz.prog 129 #[.slice ma ms.length mc] W fun e w' => e = .returned (.bool (msB ms)) ∧ Below W.heap.size W w') := hid_intro (fun W hW => impl_ms ma ms.length mc ms V W rfl s1 s2 (hV.below hW) (hL.below hW))
  have HR : Hid (∀ W, Below w.heap.size w W → Calls Tryz.prog 130 #[.slice ca cs.length cc] W fun e w' => e = .returned (.bool (csB cs)) ∧ Below W.heap.size W w') := hid_intro (fun W hW => impl_cs ca cs.length cc cs W s3 s4 (hR.below hW))
  have HV : Hid (caB ⟨ms, cs⟩ = (msB ms && csB cs)) := rfl
  clear hM hR s1 s2 s3 s4 hV hL
  generalize msB ms = r1 at *
  generalize csB cs = r2 at *
  generalize caB ⟨ms, cs⟩ = R at *
  generalize ms.length = ml at *
  generalize cs.length = cl at *
  have HB : Hid (Below w.heap.size w (w.alloc (.cells #[.slice ma ml mc, .slice ca cl cc] 38))) := hid_intro ((Below.refl _ _).alloc (Nat.le_refl _) _)
  have hw1 : ∀ w1, Below (w.alloc (.cells #[.slice ma ml mc, .slice ca cl cc] 38)).heap.size (w.alloc (.cells #[.slice ma ml mc, .slice ca cl cc] 38)) w1 → w.heap.size < w1.heap.size ∧ w1.cell? ⟨w.heap.size, 1, none⟩ = some (.slice ca cl cc) := fun w1 hb => ⟨by have := hb.size; simp at this; omega, (hb.cell (p := ⟨w.heap.size, 1, none⟩) (by simp)).trans (by simp [go_sem])⟩
  have HW1 := hid_intro hw1
  clear hw1
  go_enter Tryz.func78, Tryz.ntmps78
  go_wp2_with fail
  refine (HM.out _ HB.out).mono ?_
  rintro e w1 ⟨rfl, hb1⟩
  have HB1 := hid_intro (HB.out.trans (hb1.mono HB.out.size))
  obtain ⟨hl, p1⟩ := HW1.out _ hb1
  clear hb1
  cases r1
  · go_wp2_with fail
    go_ret
    exact ⟨ret_bool (by rw [HV.out]; rfl), HB1.out⟩
  · go_wp2_with fail
    refine (HR.out _ HB1.out).mono ?_
    rintro e w2 ⟨rfl, hb2⟩
    have HB2 := hid_intro (HB1.out.trans (hb2.mono HB1.out.size))
    clear hb2
    go_wp2_with fail
    go_ret
    exact ⟨ret_bool (by rw [HV.out]; rfl), HB2.out⟩
end CatR
end Go.Proofs.YtjfmdcdclifpkaaGreatDoor
namespace Go.Proofs.YtjfmdcdclifpkaaGreatDoor
open Go.ChangeShapes Go.WideShapes Go.ChangeAt Go.RowKit
set_option linter.unusedVariables false
namespace LedR
open LinR RowG LtR NetR DocR
theorem of_cases (a : ByteArray) (m : Int) (x : D) : ((x.a.toList == a.toList) = false ∧ of a m x = false) ∨ ((x.a.toList == a.toList) = true ∧ (x.mo == m) = false ∧ of a m x = false) ∨ ((x.a.toList == a.toList) = true ∧ (x.mo == m) = true ∧ of a m x = true) := by
  unfold of
  cases (x.a.toList == a.toList) <;> cases (x.mo == m) <;> simp
set_option maxRecDepth 100000 in
set_option maxHeartbeats 4000000 in
theorem scount (ao : Option Addr) (cap : Nat) (ds : List D) (n : Nat) (a : ByteArray) (m : Int) (w : World) (hn : n ≤ ds.length) (hlen : ds.length ≤ 1048576) (hI : Dcs ao ds w) :
    Calls Tryz.prog 118 #[.slice ao ds.length cap, .int .i64 n, .string a, .int .i64 m] w fun e w' => e = .returned (.int .i64 (cnt (ds.take n) a m : Nat)) ∧ Below w.heap.size w w' := by
  have HI := hid_intro hI
  have HN := hid_intro hn
  obtain ⟨len, hl⟩ : ∃ len, len = ds.length := ⟨_, rfl⟩
  rw [← hl] at hlen hn ⊢
  have HL := hid_intro hl
  have HCL : Hid (∀ k, cnt (ds.take k) a m ≤ 1048576) := hid_intro (fun k => by have h1 := cnt_le (ds.take k) a m; have h2 := (List.take_sublist k ds).length_le; omega)
  clear hI hl
  go_enter Tryz.func118, Tryz.ntmps118
  go_wp2_with fail
  go_loopw [9, 10] (fun c z wr => ∃ k : Nat, k ≤ n ∧ z = .int .i64 k ∧ c = .int .i64 (cnt (ds.take k) a m : Nat) ∧ Hid (Below w.heap.size w wr)) (fun c z _ => n - (intOf z).toNat)
  case atStart => exact ⟨0, by omega, rfl, rfl, hid_intro (Below.refl _ _)⟩
  case round =>
    obtain ⟨k, hk, rfl, rfl, HB⟩ := hrel
    have hcl := HCL.out k
    by_cases hlt : k < n
    · have hlt2 : (k : Int) < (n : Int) := by omega
      have hkl2 : (k : Int) < (len : Int) := by omega
      have hkl : k < ds.length := by have := HL.out; omega
      obtain ⟨b, off, la, lc, rfl, hbl, c0, c1, c2, c3, _⟩ := (HI.out.below HB.out).at k hkl
      have HC := hid_intro (cnt_more ds k hkl a m)
      have HO := hid_intro (of_cases a m (ds.getD k D.zero))
      generalize ds.getD k D.zero = X at *
      obtain ⟨xa, xm, xs, xl⟩ := X
      dsimp only at c0 c1
      rcases HO.out with ⟨q1, q2⟩ | ⟨q1, q3, q2⟩ | ⟨q1, q3, q2⟩
      · dsimp only at q1
        rw [q2, cond_false, Nat.add_zero] at HC
        go_wp2_with fail
        go_roundw
        case rel => exact ⟨k + 1, by omega, by go_num, by rw [HC.out]; rfl, HB⟩
        case measure => simp [intOf]; omega
      · dsimp only at q1 q3
        rw [q2, cond_false, Nat.add_zero] at HC
        go_wp2_with fail
        go_roundw
        case rel => exact ⟨k + 1, by omega, by go_num, by rw [HC.out]; rfl, HB⟩
        case measure => simp [intOf]; omega
      · dsimp only at q1 q3
        rw [q2, cond_true] at HC
        generalize cnt (ds.take k) a m = C at *
        go_wp2_with fail
        go_roundw
        case rel => exact ⟨k + 1, by omega, by go_num, by rw [HC.out]; go_num, HB⟩
        case measure => simp [intOf]; omega
    · have hlt2 : ¬ (k : Int) < (n : Int) := by omega
      obtain rfl : k = n := by omega
      go_wp2_with fail
      go_ret
      exact ⟨rfl, HB.out⟩
set_option maxRecDepth 100000 in
set_option maxHeartbeats 4000000 in
theorem ssum (ao : Option Addr) (cap : Nat) (ds : List D) (a : ByteArray) (m : Int) (w : World) (hlen : ds.length ≤ 30) (hS : SOk ds ds.length) (hI : Dcs ao ds w) :
    Calls Tryz.prog 71 #[.slice ao ds.length cap, .string a, .int .i64 m] w fun e w' => ∃ v, e = .returned v ∧ OwnN w' w.heap.size v (net ds a m) ∧ Below w.heap.size w w' := by
  have HI := hid_intro hI
  have HS := hid_intro hS
  obtain ⟨len, hl⟩ : ∃ len, len = ds.length := ⟨_, rfl⟩
  have HEND : Hid (net (ds.take len) a m = net ds a m) := hid_intro (by rw [hl, List.take_length])
  rw [← hl] at hlen ⊢
  have HL := hid_intro hl
  have HE := hid_intro (own_empty w w.heap.size 72 2 (Nat.le_refl _))
  clear hI hl hS
  go_enter Tryz.func71, Tryz.ntmps71
  go_wp2_with fail
  go_loopw [7, 8] (fun v z wr => ∃ k : Nat, k ≤ len ∧ z = .int .i64 k ∧ Hid (OwnN wr w.heap.size v (net (ds.take k) a m)) ∧ Hid (Below w.heap.size w wr)) (fun v z _ => len - (intOf z).toNat)
  case atStart => exact ⟨0, by omega, rfl, hid_intro ⟨HE.out, fun e => by cases e⟩, hid_intro (al _ _)⟩
  case round =>
    obtain ⟨k, hk, rfl, HV, HB⟩ := hrel
    by_cases hlt : k < len
    · have hlt2 : (k : Int) < (len : Int) := by omega
      have hkl : k < ds.length := by have := HL.out; omega
      obtain ⟨b, off, la, lc, rfl, hbl, c0, c1, c2, c3, hLi⟩ := (HI.out.below HB.out).at k hkl
      have HLi := hid_intro hLi
      have HNM := hid_intro (net_more ds k hkl a m)
      have HNF := hid_intro (net_facts (ds := ds) k (by omega) (fun i hi => HS.out i (by omega)) a m)
      have HRG := hid_intro (dB_lines (HS.out k hkl).1)
      have HO := hid_intro (of_cases a m (ds.getD k D.zero))
      clear hLi
      generalize ds.getD k D.zero = X at *
      obtain ⟨xa, xm, xs, xl⟩ := X
      dsimp only at c0 c1 c3
      rcases HO.out with ⟨q1, q2⟩ | ⟨q1, q3, q2⟩ | ⟨q1, q3, q2⟩
      · dsimp only at q1
        rw [q2, cond_false] at HNM
        go_wp2_with fail
        go_roundw
        case rel => exact ⟨k + 1, by omega, by go_num, hid_intro (by rw [HNM.out]; exact HV.out), HB⟩
        case measure => simp [intOf]; omega
      · dsimp only at q1 q3
        rw [q2, cond_false] at HNM
        go_wp2_with fail
        go_roundw
        case rel => exact ⟨k + 1, by omega, by go_num, hid_intro (by rw [HNM.out]; exact HV.out), HB⟩
        case measure => simp [intOf]; omega
      · dsimp only at q1 q3
        rw [q2, cond_true] at HNM
        obtain ⟨g, cp, rfl, g1, g2, g3, g4, g5⟩ := HV.out.open
        have h6 : xl.length ≤ 6 := HRG.out.1
        have HAD := hid_intro (sadd g 0 cp (net (ds.take k) a m) la lc xl 1 (6000000000000000 * (k : Int)) wr (.inl rfl) (by omega) (right_bd HRG.out) HNF.out.1 (by have := HNF.out.2.1; omega) (by omega) HNF.out.2.2 g5 HLi.out)
        generalize net (ds.take k) a m = NL at *
        generalize xl.length = ll at *
        generalize NL.length = nl at *
        clear g5
        go_wp2_with fail
        refine HAD.out.mono ?_
        rintro e w2 ⟨v, rfl, hv, hb⟩
        have HV2 : Hid (OwnN w2 w.heap.size v (all NL xl 1)) := hid_intro ⟨own_low hv.1 HB.out.size, hv.2⟩
        have HB2 := hid_intro (HB.out.trans (hb.mono HB.out.size))
        clear hv hb
        go_wp2_with fail
        go_roundw
        case rel => exact ⟨k + 1, by omega, by go_num, hid_intro (by rw [HNM.out]; exact HV2.out), HB2⟩
        case measure => simp [intOf]; omega
    · have hlt2 : ¬ (k : Int) < (len : Int) := by omega
      obtain rfl : k = len := by omega
      rw [HEND.out] at HV
      go_wp2_with fail
      go_ret
      exact ⟨_, rfl, HV.out, HB.out⟩
end LedR
end Go.Proofs.YtjfmdcdclifpkaaGreatDoor
namespace Go.Proofs.YtjfmdcdclifpkaaGreatDoor
open Go.ChangeShapes Go.WideShapes Go.ChangeAt Go.RowKit
set_option linter.unusedVariables false
namespace LedR
open LinR RowG LtR NetR DocR
theorem rows_step {rb M k nb : Nat} {ds : List D} {W W' : World} {Dm : DataW Value} {f : ByteArray → Int → Nat} (hk : k < ds.length) (hg : Good (ds.getD k D.zero).a (ds.getD k D.zero).mo)
    (h1 : W.ownsMap Tryz.prog 141 RV rb M Dm)
    (h2 : ∀ kl, Maps.has Dm kl = true → ∃ a m, Good a m ∧ kl = kP a m ∧ cnt (ds.take k) a m ≠ 0)
    (h3 : ∀ a m, cnt (ds.take k) a m ≠ 0 → Good a m ∧ (∀ z, Dm.atKey (kP a m) z = .held (.agg #[.int .i64 (cnt (ds.take k) a m : Nat), .map (some (f a m))])) ∧ rb < f a m ∧ f a m < W.heap.size ∧ ∃ Dn M', M' ≤ 6 * (ds.take k).length ∧ W.ownsMap Tryz.prog 9 (plainElem (H := Value) Tryz.prog 2) (f a m) M' Dn ∧ NetM Dn (net (ds.take k) a m))
    (h4 : ∀ a m a' m', cnt (ds.take k) a m ≠ 0 → cnt (ds.take k) a' m' ≠ 0 → f a m = f a' m' → a = a' ∧ m = m')
    (hnb : rb < nb ∧ nb < W'.heap.size)
    (hnew : (cnt (ds.take k) (ds.getD k D.zero).a (ds.getD k D.zero).mo ≠ 0 ∧ nb = f (ds.getD k D.zero).a (ds.getD k D.zero).mo) ∨ (cnt (ds.take k) (ds.getD k D.zero).a (ds.getD k D.zero).mo = 0 ∧ W.heap.size ≤ nb))
    (hrows : W'.ownsMap Tryz.prog 141 RV rb (M + 1) (Dm.put (kP (ds.getD k D.zero).a (ds.getD k D.zero).mo) (.held (.agg #[.int .i64 ((cnt (ds.take k) (ds.getD k D.zero).a (ds.getD k D.zero).mo : Nat) + 1), .map (some nb)]))))
    (hnet : ∃ Dn M', M' ≤ 6 * (k + 1) ∧ W'.ownsMap Tryz.prog 9 (plainElem (H := Value) Tryz.prog 2) nb M' Dn ∧ NetM Dn (all (net (ds.take k) (ds.getD k D.zero).a (ds.getD k D.zero).mo) (ds.getD k D.zero).ls 1))
    (hoth : ∀ b, b < W.heap.size → b ≠ rb → b ≠ nb → W'.heap[b]? = W.heap[b]?) (hsz : W.heap.size ≤ W'.heap.size) :
    RowsM rb (M + 1) (ds.take (k + 1)) W' := by
  have htl : (ds.take (k + 1)).length = k + 1 := by simp; omega
  have htk : (ds.take k).length = k := by simp; omega
  have hcm := fun a m => cnt_more ds k hk a m
  have hnm := fun a m => net_more ds k hk a m
  generalize hX : ds.getD k D.zero = X at *
  have hself : of X.a X.mo X = true := of_self X
  have hoth2 : ∀ a m, ¬ (a = X.a ∧ m = X.mo) → of a m X = false := by
    intro a m hn
    cases h : of a m X
    · rfl
    · obtain ⟨e1, e2⟩ := of_iff.1 h
      exact absurd ⟨e1.symm, e2.symm⟩ hn
  have hkeep : ∀ b n Dn, b < W.heap.size → b ≠ rb → b ≠ nb → W.ownsMap Tryz.prog 9 (plainElem (H := Value) Tryz.prog 2) b n Dn → W'.ownsMap Tryz.prog 9 (plainElem (H := Value) Tryz.prog 2) b n Dn := by
    intro b n Dn hb n1 n2 ⟨es, clock, q1, q2⟩
    exact ⟨es, clock, (hoth b hb n1 n2).trans q1, q2⟩
  have hmono : ∀ a m, cnt (ds.take k) a m ≠ 0 → cnt (ds.take (k + 1)) a m ≠ 0 := fun a m h => by rw [hcm]; omega
  obtain ⟨f', hf1, hf2⟩ : ∃ f' : ByteArray → Int → Nat, f' X.a X.mo = nb ∧ ∀ a m, ¬ (a = X.a ∧ m = X.mo) → f' a m = f a m := ⟨fun a m => if a = X.a ∧ m = X.mo then nb else f a m, by simp, fun a m h => by simp [h]⟩
  refine ⟨_, f', hrows, fun kl hh => ?_, fun a m hc => ?_, fun a m a' m' hc hc' e => ?_⟩
  · by_cases e : kl = kP X.a X.mo
    · exact ⟨X.a, X.mo, hg, e, by rw [hcm, hself, cond_true]; omega⟩
    · rw [Maps.has_put_other e] at hh
      obtain ⟨a, m, g, e2, hc⟩ := h2 kl hh
      exact ⟨a, m, g, e2, hmono a m hc⟩
  · by_cases e : a = X.a ∧ m = X.mo
    · obtain ⟨rfl, rfl⟩ := e
      obtain ⟨Dn, M', q1, q2, q3⟩ := hnet
      refine ⟨hg, fun z => ?_, ?_, ?_, Dn, M', by rw [htl]; exact q1, ?_, ?_⟩
      · rw [Maps.atKey_put_same h1.isMap (kP_key _ _), hcm, hself, cond_true, hf1]
        rfl
      · rw [hf1]; exact hnb.1
      · rw [hf1]; exact hnb.2
      · rw [hf1]; exact q2
      · rw [hnm, hself, cond_true]; exact q3
    · have h0 := hoth2 a m e
      rw [hcm, h0, cond_false, Nat.add_zero] at hc
      obtain ⟨g, p1, p2, p3, Dn, M', p4, p5, p6⟩ := h3 a m hc
      have hne : f a m ≠ nb := by
        rcases hnew with ⟨hn, en⟩ | ⟨_, hn⟩
        · intro e2
          exact e (h4 a m X.a X.mo hc hn (e2.trans en))
        · omega
      refine ⟨g, fun z => ?_, ?_, ?_, Dn, M', by rw [htl]; rw [htk] at p4; omega, ?_, ?_⟩
      · rw [Maps.atKey_put_other (fun e2 => e (kP_inj g hg e2)), p1, hcm, h0, cond_false, Nat.add_zero, hf2 a m e]
      · rw [hf2 a m e]; exact p2
      · rw [hf2 a m e]; omega
      · rw [hf2 a m e]; exact hkeep _ _ _ p3 (by omega) hne p5
      · rw [hnm, h0, cond_false]; exact p6
  · have key : ∀ a m, cnt (ds.take (k + 1)) a m ≠ 0 → ¬ (a = X.a ∧ m = X.mo) → cnt (ds.take k) a m ≠ 0 ∧ f a m ≠ nb := by
      intro a m hc hn
      rw [hcm, hoth2 a m hn, cond_false, Nat.add_zero] at hc
      refine ⟨hc, ?_⟩
      rcases hnew with ⟨hn2, en⟩ | ⟨_, hn2⟩
      · intro e2
        exact hn (h4 a m X.a X.mo hc hn2 (e2.trans en))
      · have := (h3 a m hc).2.2.2.1; omega
    by_cases e1 : a = X.a ∧ m = X.mo
    · by_cases e2 : a' = X.a ∧ m' = X.mo
      · exact ⟨e1.1.trans e2.1.symm, e1.2.trans e2.2.symm⟩
      · rw [e1.1, e1.2, hf1, hf2 a' m' e2] at e
        exact absurd e.symm (key a' m' hc' e2).2
    · by_cases e2 : a' = X.a ∧ m' = X.mo
      · rw [e2.1, e2.2, hf1, hf2 a m e1] at e
        exact absurd e (key a m hc e1).2
      · rw [hf2 a m e1, hf2 a' m' e2] at e
        exact h4 a m a' m' (key a m hc e1).1 (key a' m' hc' e2).1 e
end LedR
end Go.Proofs.YtjfmdcdclifpkaaGreatDoor
