/-
  FnSeal: for all bytes the law's call returns true, and the bytes read as they did: a drawn text is got back from its seal; with any one byte turned it is refused; a CRC goes on from text to text. No condition.
-/
import Derived.Test.YtipiieooghampaaDrawSeal
import Derived.Lib.ConvBytes
import Derived.Deep.RegionWith
import Derived.ChangeOld
namespace Go.Proofs.Ytipiieooghampaa
open Go.ChangeShapes Go.WideShapes Go.ChangeAt Go.RowKit
open Go.ChangeMaps (open_string shut_string)
set_option linter.unusedVariables false
namespace FnSealL
open DrawR
/-- '[]byte(s)': the new row's cells. -/
theorem fresh_cell (w : World) (s : ByteArray) (j : Nat) (hj : j < s.size) : (Lib.bytesWorld w 5 s).cell? ⟨w.heap.size, j, none⟩ = some (.int .u8 (s[j].toNat : Int)) := by
  rw [Lib.bytesWorld_cell w 5 s j hj]
  simp [List.getD, List.getElem?_eq_getElem (show j < s.data.toList.length from hj)]
  rfl
theorem fresh_free (w : World) (s : ByteArray) (j : Nat) (hj : j < s.size) : (Lib.bytesWorld w 5 s).frozen? ⟨w.heap.size, j, none⟩ = false := by
  have h := Lib.bytesWorld_at_new w 5 s
  have hs : s.size ≤ (Lib.bytesCells w 5 s).size := by simp [Lib.bytesCells]
  simp [World.frozen?, h]
  omega
theorem fresh_below (w : World) (s : ByteArray) : Below w.heap.size w (Lib.bytesWorld w 5 s) :=
  ⟨rfl, rfl, rfl, by rw [Lib.bytesWorld_size]; omega, fun k hk => Lib.bytesWorld_at_old w 5 s k hk⟩
/-- The tail: a CRC goes on. -/
theorem both_more (c : Int) (u : ByteArray) (hu : u.size ≤ 8000) : ∃ m : Int, (∀ w, Calls Try.prog 11 #[.int .i64 c, .string u] w fun e w' => e = .returned (.int .i64 m) ∧ w' = w) ∧ (∀ w, Calls Try.prog 10 #[.int .i64 c, .string u] w fun e w' => e = .returned (.int .i64 m) ∧ w' = w) := by
  by_cases h8 : 0 ≤ c ∧ c ≤ 4294967295
  · exact ⟨_, fun w => CrcR.spec_more c u w hu h8, fun w => CrcR.impl_more c u w hu h8⟩
  · exact ⟨_, fun w => CrcR.spec_more_bad c u w (by omega) (by omega), fun w => CrcR.impl_more_bad c u w (by omega) (by omega)⟩
/-- What a turned byte is: a byte, and another one. -/
theorem turn_bd (c : UInt8) (v : Int) (h0 : 0 ≤ v) (h1 : v < 255) : (0 ≤ bits .xor .u8 (c.toNat : Int) (IntKind.u8.wrap (IntKind.i64.wrap (1 + v))) ∧ bits .xor .u8 (c.toNat : Int) (IntKind.u8.wrap (IntKind.i64.wrap (1 + v))) ≤ 255) ∧ bits .xor .u8 (c.toNat : Int) (IntKind.u8.wrap (IntKind.i64.wrap (1 + v))) ≠ (c.toNat : Int) := by
  have e : IntKind.u8.wrap (IntKind.i64.wrap (1 + v)) = 1 + v := by rw [IntKind.wrap_i64, IntKind.wrap_u8']; omega
  rw [e]
  obtain ⟨d, hd⟩ : ∃ d : Nat, 1 + v = d := ⟨(1 + v).toNat, by omega⟩
  rw [hd]
  have hc := UInt8.toNat_lt c
  rw [u8_xor_nat c.toNat d (by omega) (by omega)]
  have h2 : c.toNat ^^^ d < 256 := Nat.xor_lt_two_pow (n := 8) (by omega) (by omega)
  refine ⟨⟨by omega, by omega⟩, fun h => ?_⟩
  have h3 : c.toNat ^^^ d = c.toNat := by omega
  have h4 : c.toNat ^^^ (c.toNat ^^^ d) = c.toNat ^^^ c.toNat := by rw [h3]
  rw [← Nat.xor_assoc, Nat.xor_self, Nat.zero_xor] at h4
  omega
/-- The text with byte j turned to X. -/
def xsOf (S : ByteArray) (j : Nat) (X : Int) : List Int := (S.data.toList.map (fun c => (c.toNat : Int))).set j X
theorem xs_size (S : ByteArray) (j : Nat) (X : Int) : (strOfNums (xsOf S j X)).size = S.size := by
  rw [strOfNums_size]; unfold xsOf; rw [List.length_set, List.length_map]; rfl
theorem xs_data (S : ByteArray) (j : Nat) (X : Int) : (strOfNums (xsOf S j X)).data.toList = S.data.toList.set j (UInt8.ofNat X.toNat) := by
  rw [strOfNums_data]; unfold xsOf
  rw [List.map_set, List.map_map]
  congr 1
  have : ((fun n : Int => UInt8.ofNat n.toNat) ∘ fun c : UInt8 => (c.toNat : Int)) = id := by
    funext c; simp
  rw [this, List.map_id]
theorem xs_none (S t : ByteArray) (hS : S = SealR.sealB t) (j : Nat) (hj : j < S.size) (X : Int) (hX : (0 ≤ X ∧ X ≤ 255) ∧ X ≠ (S[j].toNat : Int)) : UnsealR.okU (strOfNums (xsOf S j X)) = false := by
  have hl : j < S.data.toList.length := hj
  have e0 : S.data.toList[j] = S[j] := rfl
  have hne : S[j] ≠ UInt8.ofNat X.toNat := by
    intro e
    have h2 : S[j].toNat = (UInt8.ofNat X.toNat).toNat := by rw [← e]
    rw [UInt8.toNat_ofNat'] at h2
    omega
  refine UnsealR.okU_turned t _ (S.data.toList.take j) (S.data.toList.drop (j + 1)) S[j] (UInt8.ofNat X.toNat) hne ?_ ?_
  · rw [← hS, ← e0, ← List.drop_eq_getElem_cons hl, List.take_append_drop]
  · rw [xs_data, List.set_eq_take_append_cons_drop, if_pos hl]
theorem xs_get (S : ByteArray) (j : Nat) (X : Int) (i : Nat) (hi : i < S.size) : (xsOf S j X).getD i 0 = if j = i then X else (S[i].toNat : Int) := by
  unfold xsOf
  have hl : i < (S.data.toList.map (fun c => (c.toNat : Int))).length := by rw [List.length_map]; exact hi
  rw [List.getD, List.getElem?_set]
  split
  · next h => subst h; simp [show j < S.size from hi]
  · rw [List.getElem?_eq_getElem hl]; simp; rfl
theorem xs_cell (W : World) (S : ByteArray) (G j : Nat) (X : Int) (h : ∀ i (hi : i < S.size), W.cell? ⟨G, i, none⟩ = some (.int .u8 (S[i].toNat : Int))) (hj : j < S.size) :
    ∀ i, i < S.size → (W.setCell ⟨G, j, none⟩ (.int .u8 X)).drew.cell? ⟨G, i, none⟩ = some (.int .u8 ((xsOf S j X).getD i 0)) := by
  intro i hi
  rw [xs_get S j X i hi]
  show (W.setCell ⟨G, j, none⟩ (.int .u8 X)).cell? ⟨G, i, none⟩ = _
  by_cases e : j = i
  · subst e
    rw [if_pos rfl, World.cell?_setCell_same _ _ _ (h j hj)]
  · rw [if_neg e, World.cell?_setCell_other _ _ _ _ (fun h => e (Addr.mk.inj h).2.1), h i hi]
theorem un_seal (t : ByteArray) (ht : t.size ≤ 7996) (w : World) :
    Calls Try.prog 8 #[.string (SealR.sealB t)] w fun e w' => e = .returned (.agg #[.string t, .int .i64 0, .int .i64 0]) ∧ Below w.heap.size w w' := by
  have h := UnsealR.impl_un (SealR.sealB t) w (by rw [UnsealR.sealB_size]; omega) (by rw [UnsealR.sealB_size]; omega) true (UnsealR.okU_seal t)
  have e : (SealR.sealB t).extract 0 ((SealR.sealB t).size - 4) = t := by
    rw [UnsealR.sealB_size, Nat.add_sub_cancel]
    unfold SealR.sealB
    exact ByteArray.extract_append_eq_left rfl
  rw [e] at h
  exact h
theorem code_field (w : World) : (Instr.field 27 (.agg #[.string ⟨#[]⟩, .int .i64 0, .int .i64 5]) 2).run Try.prog w = .ok (.int .i64 5) w := by kernel_rfl
def seals (t v : ByteArray) : Prop := (∀ w, Calls Try.prog 6 #[.string t] w fun e w' => e = .returned (.string v) ∧ Below w.heap.size w w') ∧ (∀ w, Calls Try.prog 5 #[.string t] w fun e w' => e = .returned (.string v) ∧ Below w.heap.size w w')
set_option maxRecDepth 100000 in
set_option maxHeartbeats 4000000 in
theorem law_in (ac am : Option Addr) (lc cc lm cm : Nat) (w : World) (hc : lc ≤ 1048576) (hm : lm ≤ 1048576) (hBc : Bytes ac lc w) (hBm : Bytes am lm w) :
    Calls Try.prog 3 #[.slice ac lc cc, .slice am lm cm] w fun e w' => e = .returned (.bool true) ∧ Below w.heap.size w w' := by
  have HM := hid_intro hBm
  have h1 := drawSeal_any ac lc cc w hc hBc
  clear hBc hBm
  have hc2 : ¬ (1048576 : Int) < (lc : Int) := by omega
  have hm2 : ¬ (1048576 : Int) < (lm : Int) := by omega
  go_enter Try.func3, Try.ntmps3
  go_wp2_with fail
  refine h1.mono ?_
  rintro e w1 ⟨⟨t, rfl, ht⟩, hb1⟩
  have HB1 := hid_intro hb1
  clear hb1 h1
  by_cases h8 : t.size ≤ 7996
  · obtain ⟨S, hS⟩ : ∃ S, S = SealR.sealB t := ⟨_, rfl⟩
    have hs1 := fun w => SealR.spec_seal t w h8
    have hi1 := fun w => SealR.impl_seal t w h8
    rw [← hS] at hs1 hi1
    have HS := hid_intro hS
    have hsz : S.size = t.size + 4 := by rw [hS]; exact UnsealR.sealB_size t
    have HZ := hid_intro hsz
    have hz4 : 4 ≤ S.size := by omega
    have hz8 : S.size ≤ 8000 := by omega
    clear hS hsz
    have hne : S.toList.isEmpty = false := by
      rw [ByteArray.toList_eq]
      cases hq : S.data.toList with
      | nil => have : S.data.toList.length = S.size := rfl; rw [hq] at this; simp at this; omega
      | cons _ _ => rfl
    have hcv := fun w => Lib.run_convert_string_bytes (P := Try.prog) w 9 22 5 S Try.underlying9 Try.underlying22 Try.underlying5
    go_wp2_with (first | (go_at_call 5; refine (hi1 _).mono ?_; rintro e w2 ⟨rfl, hb2⟩; have HB2 := hid_intro (HB1.out.trans (hb2.mono HB1.out.size)); clear hb2) | (go_at_call 6; refine (hs1 _).mono ?_; rintro e w3 ⟨rfl, hb3⟩; have HB3 := hid_intro (HB2.out.trans (hb3.mono HB2.out.size)); clear hb3))
    have hbw : Below w.heap.size w (Lib.bytesWorld w3 5 S) := HB3.out.trans ((fresh_below w3 S).mono HB3.out.size)
    have HBW := hid_intro hbw
    refine (lwAt_any am lm cm 0 S.size _ hm (by omega) (HM.out.below hbw)).mono ?_
    rintro e w4 ⟨⟨v, rfl, hv0, hv1⟩, hw4⟩
    rw [hw4]
    clear hw4 w4 hcv hbw
    have hv2 : v < (S.size : Int) := hv1 (by omega)
    clear hv1
    obtain ⟨j, rfl⟩ : ∃ j : Nat, v = j := ⟨v.toNat, by omega⟩
    have hj : j < S.size := by omega
    have hcell := fresh_cell w3 S j hj
    have hfree := fresh_free w3 S j hj
    have hbd : (S[j].toNat : Int) ≤ 255 := by have := UInt8.toNat_lt S[j]; omega
    obtain ⟨G, hG⟩ : ∃ G, G = w3.heap.size := ⟨_, rfl⟩
    have HG := hid_intro hG
    rw [← hG] at hcell hfree ⊢
    clear hG
    obtain ⟨W4, hW4⟩ : ∃ W4, W4 = Lib.bytesWorld w3 5 S := ⟨_, rfl⟩
    have HW4 := hid_intro hW4
    rw [← hW4] at hcell hfree HBW ⊢
    clear hW4
    obtain ⟨C, hC⟩ : ∃ C, C = grownCap w3 S.size 0 5 := ⟨_, rfl⟩
    rw [← hC]
    clear hC
    have h2 := fun W (hb : Below w.heap.size w W) => lwAt_any am lm cm 1 255 W hm (by omega) (HM.out.below hb)
    go_wp2_with fail
    go_region_with (go_at_call 7; refine (h2 _ (by first | exact HBW.out.drew | exact HBW.out)).mono ?_; rintro e w5 ⟨⟨v2, rfl, hx0, hx1⟩, rfl⟩; have hx2 : v2 < 255 := hx1 (by omega); clear hx1)
    all_goals
      obtain ⟨X, hX⟩ : ∃ X, X = bits .xor .u8 (S[j].toNat : Int) (IntKind.u8.wrap (IntKind.i64.wrap (1 + v2))) := ⟨_, rfl⟩
      have hXb := turn_bd S[j] v2 hx0 hx2
      rw [← hX] at hXb ⊢
      clear hX
      obtain ⟨S', hS'⟩ : ∃ S', S' = strOfNums (xsOf S j X) := ⟨_, rfl⟩
      have hz' : S'.size = S.size := by rw [hS']; exact xs_size S j X
      have hok' : UnsealR.okU S' = false := by rw [hS']; exact xs_none S t HS.out j hj X hXb
      have hun' : ∀ w, Calls Try.prog 8 #[.string S'] w fun e w' => e = .returned (.agg #[.string ⟨#[]⟩, .int .i64 0, .int .i64 5]) ∧ Below w.heap.size w w' := fun w => UnsealR.impl_un S' w (by omega) (by omega) false hok'
      have hun := fun w => un_seal t h8 w
      rw [← HS.out] at hun
      obtain ⟨W5, hW5⟩ : ∃ W5, W5 = (W4.setCell ⟨G, j, none⟩ (.int .u8 X)).drew := ⟨_, rfl⟩
      have hGl : w.heap.size ≤ G := by rw [HG.out]; exact HB3.out.size
      have HB5 : Hid (Below w.heap.size w W5) := hid_intro (by rw [hW5]; exact (HBW.out.setCell hGl _).drew)
      have hGs : G < W5.heap.size := by
        rw [hW5, HW4.out, HG.out]
        simp [Lib.bytesWorld_size]
      have HC : Hid (∀ i, i < S.size → W5.cell? ⟨G, i, none⟩ = some (.int .u8 ((xsOf S j X).getD i 0))) := hid_intro (by
        rw [hW5, HW4.out]
        exact xs_cell _ S G j X (fun i hi => by rw [HG.out]; exact fresh_cell w3 S i hi) hj)
      rw [← hW5]
      have hcv2 : Hid (∀ w6, Below W5.heap.size W5 w6 → (convert 22 9 (.slice (some ⟨G, 0, none⟩) S.size C)).run Try.prog w6 = .ok (.string S') w6) := hid_intro (by
        intro w6 hb6
        rw [hS']
        refine run_convert_bytes_arg w6 22 5 Try.underlying22 Try.underlying5 G 0 S.size C (xsOf S j X) (by rw [← strOfNums_size]; exact xs_size S j X) ?_ 9 Try.underlying9
        intro i hi
        rw [Nat.zero_add, hb6.cell (p := ⟨G, i, none⟩) hGs]
        exact HC.out i hi)
      have hfld := code_field
      clear hW5 hcell hfree h2 hS' hz' hok' hXb HC
      go_wp2_with (first | (go_at_call_of 8 (Value.string S); refine (hun _).mono ?_; rintro e w6 ⟨rfl, hb6⟩; have hcv := hcv2.out w6 hb6; have HB6 := hid_intro (HB5.out.trans (hb6.mono HB5.out.size)); clear hb6) | (go_at_call_of 8 (Value.string S'); refine (hun' _).mono ?_; rintro e w7 ⟨rfl, hb7⟩; have HB7 := hid_intro (HB6.out.trans (hb7.mono HB6.out.size)); clear hb7 hcv))
      refine (drawMore_any am lm cm _ hm (HM.out.below HB7.out)).mono ?_
      rintro e w8 ⟨⟨c, u, rfl, hu, hcr1, hcr2⟩, hb8⟩
      have HB8 := hid_intro (HB7.out.trans (hb8.mono HB7.out.size))
      clear hb8
      by_cases hbig : (8000 : Int) < (t.size : Int) + (u.size : Int)
      · go_wp2
        go_ret
        exact ⟨rfl, HB8.out⟩
      obtain ⟨m, hsm, him⟩ := both_more c u (by omega)
      obtain ⟨n0, hn0⟩ : ∃ n0, n0 = CrcR.crcV 0 t := ⟨_, rfl⟩
      have hc0 := fun w => CrcR.impl_crc t w (by omega)
      have hn1 := SealR.crcV_bd 0 t
      have hcm := fun w => CrcR.impl_more (CrcR.crcV 0 t) u w (by omega) hn1
      rw [CrcR.crcV_more] at hcm
      have hsum : (t ++ u).size = t.size + u.size := ByteArray.size_append
      have hca := fun w => CrcR.impl_crc (t ++ u) w (by omega)
      rw [← hn0] at hc0 hcm hn1
      clear hn0 hsum
      obtain ⟨n2, hn2⟩ : ∃ n2, n2 = CrcR.crcV 0 (t ++ u) := ⟨_, rfl⟩
      rw [← hn2] at hcm hca
      clear hn2
      have hfit : t.size + u.size ≤ 9223372036854775807 := by omega
      go_wp2_with (first | (go_at_call_of 10 (Value.int IntKind.i64 c); refine (him _).mono ?_; rintro e w9 ⟨rfl, rfl⟩) | (go_at_call 11; refine (hsm _).mono ?_; rintro e w9 ⟨rfl, rfl⟩) | (go_at_call_of 12 (Value.string t); refine (hc0 _).mono ?_; rintro e w9 ⟨rfl, rfl⟩) | (go_at_call_of 10 (Value.int IntKind.i64 n0); refine (hcm _).mono ?_; rintro e w9 ⟨rfl, rfl⟩) | (go_at_call_of 12 (Value.string (t ++ u)); refine (hca _).mono ?_; rintro e w9 ⟨rfl, rfl⟩))
      go_ret
      exact ⟨rfl, HB8.out⟩
  · have hs1 := fun w => SealR.spec_seal_big t w (by omega) (by omega)
    have hi1 := fun w => SealR.impl_seal_big t w (by omega) (by omega)
    go_wp2_with (first | (go_at_call 5; refine (hi1 _).mono ?_; rintro e w2 ⟨rfl, hb2⟩; have HB2 := hid_intro (HB1.out.trans (hb2.mono HB1.out.size)); clear hb2) | (go_at_call 6; refine (hs1 _).mono ?_; rintro e w3 ⟨rfl, hb3⟩; have HB3 := hid_intro (HB2.out.trans (hb3.mono HB2.out.size)); clear hb3))
    refine (drawMore_any am lm cm _ hm (HM.out.below HB3.out)).mono ?_
    rintro e w8 ⟨⟨c, u, rfl, hu, hcr1, hcr2⟩, hb8⟩
    have HB8 := hid_intro (HB3.out.trans (hb8.mono HB3.out.size))
    clear hb8
    by_cases hbig : (8000 : Int) < (t.size : Int) + (u.size : Int)
    · go_wp2
      go_ret
      exact ⟨rfl, HB8.out⟩
    obtain ⟨m, hsm, him⟩ := both_more c u (by omega)
    obtain ⟨n0, hn0⟩ : ∃ n0, n0 = CrcR.crcV 0 t := ⟨_, rfl⟩
    have hc0 := fun w => CrcR.impl_crc t w (by omega)
    have hn1 := SealR.crcV_bd 0 t
    have hcm := fun w => CrcR.impl_more (CrcR.crcV 0 t) u w (by omega) hn1
    rw [CrcR.crcV_more] at hcm
    have hsum : (t ++ u).size = t.size + u.size := ByteArray.size_append
    have hca := fun w => CrcR.impl_crc (t ++ u) w (by omega)
    rw [← hn0] at hc0 hcm hn1
    clear hn0 hsum
    obtain ⟨n2, hn2⟩ : ∃ n2, n2 = CrcR.crcV 0 (t ++ u) := ⟨_, rfl⟩
    rw [← hn2] at hcm hca
    clear hn2
    have hfit : t.size + u.size ≤ 9223372036854775807 := by omega
    go_wp2_with (first | (go_at_call_of 10 (Value.int IntKind.i64 c); refine (him _).mono ?_; rintro e w9 ⟨rfl, rfl⟩) | (go_at_call 11; refine (hsm _).mono ?_; rintro e w9 ⟨rfl, rfl⟩) | (go_at_call_of 12 (Value.string t); refine (hc0 _).mono ?_; rintro e w9 ⟨rfl, rfl⟩) | (go_at_call_of 10 (Value.int IntKind.i64 n0); refine (hcm _).mono ?_; rintro e w9 ⟨rfl, rfl⟩) | (go_at_call_of 12 (Value.string (t ++ u)); refine (hca _).mono ?_; rintro e w9 ⟨rfl, rfl⟩))
    go_ret
    exact ⟨rfl, HB8.out⟩
theorem walk (a0 : Option Addr) (len0 cap0 : Nat) (z0 : List Int) (a1 : Option Addr) (len1 cap1 : Nat) (z1 : List Int) (w : World) (w0 : IsRow .u8 w a0 len0 cap0 z0) (w1 : IsRow .u8 w a1 len1 cap1 z1) :
    Calls Try.prog 3 #[.slice a0 len0 cap0, .slice a1 len1 cap1] w fun e w' => e = .returned (.bool true) ∧ Below w.heap.size w w' := by
  have l0 := w0.len
  have l1 := w1.len
  unfold maxLen at l0 l1
  by_cases h0 : len0 ≤ 1048576
  · by_cases h1 : len1 ≤ 1048576
    · exact law_in a0 a1 len0 cap0 len1 cap1 w h0 h1 w0.bytes w1.bytes
    · have q0 : ¬ (1048576 : Int) < (len0 : Int) := by omega
      have q1 : (1048576 : Int) < (len1 : Int) := by omega
      clear w0 w1
      go_enter Try.func3, Try.ntmps3
      go_wp2
      go_ret
      exact ⟨rfl, Below.refl _ _⟩
  · have q0 : (1048576 : Int) < (len0 : Int) := by omega
    clear w0 w1
    go_enter Try.func3, Try.ntmps3
    go_wp2
    go_ret
    exact ⟨rfl, Below.refl _ _⟩
theorem laidOut : laidOutB Try.prog = true := by kernel_rfl
theorem own : ownKnob Try.prog.godebug = none := by kernel_rfl
set_option maxRecDepth 100000 in
theorem lifted (os : Os) (started : os.Started) (H : Type) (enc : TypeId × Value → H) :
    ReturnsInHanded {} Try.checked os 3 .any (Rows.fnSealSpec.pre6 enc Try.prog Try.f3 Rows.fnSealRow.domain false) (Rows.fnSealSpec.post enc Try.prog Try.f3 false true false false) := by
  refine returnsInHanded_of_change (C := Try.checked) own started (by kernel_rfl) Try.func3
    (ChangeSpec.witness6 (enc := enc) (C := Try.checked) false ⟨#[], #[.slice none 0 0, .slice none 0 0], []⟩ 8 (by kernel_rfl) (by kernel_rfl) (by kernel_rfl) (by kernel_rfl)) ?_
  intro W base args ds gs before hval0 hW hcnd _
  have hval : ∀ (j : Nat) t v, Try.f3.params[j]? = some t → args[j]? = some v → Value.okWide Try.prog W .any base t v := hval0
  have hW' := hW
  obtain ⟨p, q, hA0, hV, rfl, hfz, hnd⟩ := hW
  have hA : DataW.TrodAll enc Try.prog W 0 (fun _ => true) true Try.f3.params.toList args.toList ds p := hA0
  rw [Try.params3] at hA hval
  obtain ⟨v0, vs0, d0, ds0, p0, q0, hargs, rfl, rfl, h0, r0⟩ := trodAll_cons hA
  obtain ⟨v1, vs1, d1, ds1, p1, q1, rfl, rfl, rfl, h1, r1⟩ := trodAll_cons r0
  obtain ⟨rfl, rfl, rfl⟩ := trodAll_nil r1
  obtain rfl : args = #[v0, v1] := by cases args; simp_all
  obtain ⟨rfl, rfl⟩ := trodVars_none hV
  obtain ⟨a0, len0, cap0, rfl⟩ := okWide_slice Try.underlying22 (hval 0 22 v0 rfl rfl)
  have k0 := h0
  have lt0 : ∀ x ∈ p0, x.block < W.heap.size := by obtain ⟨m, hm⟩ := k0; exact DataW.trod_lt m _ _ _ hm
  obtain ⟨z0, w0⟩ : ∃ zs, IsRow .u8 W a0 len0 cap0 zs := by
    obtain ⟨fuel, hf⟩ := h0
    rcases open_ints Try.underlying22 Try.underlying5 (by kernel_rfl) hf with ⟨hcs, _⟩ | ⟨x, l, c, zs, hcs, _, hl, hm, hz, _, hcell, hwz⟩
    · simp [Value.cells] at hcs
      obtain ⟨rfl, rfl, rfl⟩ := hcs
      exact ⟨[], .inl ⟨rfl, rfl, rfl, rfl⟩⟩
    · simp [Value.cells] at hcs
      obtain ⟨rfl, rfl, rfl⟩ := hcs
      exact ⟨zs, .inr ⟨_, rfl, hl, hm, by simpa using hz, hcell, hwz⟩⟩
  obtain ⟨a1, len1, cap1, rfl⟩ := okWide_slice Try.underlying22 (hval 1 22 v1 rfl rfl)
  have k1 := h1
  have lt1 : ∀ x ∈ p1, x.block < W.heap.size := by obtain ⟨m, hm⟩ := k1; exact DataW.trod_lt m _ _ _ hm
  obtain ⟨z1, w1⟩ : ∃ zs, IsRow .u8 W a1 len1 cap1 zs := by
    obtain ⟨fuel, hf⟩ := h1
    rcases open_ints Try.underlying22 Try.underlying5 (by kernel_rfl) hf with ⟨hcs, _⟩ | ⟨x, l, c, zs, hcs, _, hl, hm, hz, _, hcell, hwz⟩
    · simp [Value.cells] at hcs
      obtain ⟨rfl, rfl, rfl⟩ := hcs
      exact ⟨[], .inl ⟨rfl, rfl, rfl, rfl⟩⟩
    · simp [Value.cells] at hcs
      obtain ⟨rfl, rfl, rfl⟩ := hcs
      exact ⟨zs, .inr ⟨_, rfl, hl, hm, by simpa using hz, hcell, hwz⟩⟩
  clear hA0 hval0
  refine (walk a0 len0 cap0 z0 a1 len1 cap1 z1 W w0 w1).mono fun e W' ⟨he, bel⟩ => ?_
  subst he
  exact ⟨_, rfl, _, _, _, [], _, [], hW', trodAll_mk1 (shut_bool Try.underlying4 _), (trodAll_cons_mk (Below.trod laidOut (by kernel_rfl) (of_decide_eq_true (by kernel_rfl)) k0 bel lt0) (trodAll_cons_mk (Below.trod laidOut (by kernel_rfl) (of_decide_eq_true (by kernel_rfl)) k1 bel lt1) trodAll_mk0)), rfl, bel.frame _, fun h => by cases h⟩

theorem over : Rows.fnSealRow.holds Try.pinned (OpenSpec.ofChange Rows.fnSealSpec) :=
  OpenClaim.holds_of_wide 3 Try.f3 rfl rfl rfl rfl rfl rfl rfl ⟨rfl, rfl, rfl, rfl, rfl⟩ rfl rfl rfl rfl rfl (by kernel_rfl) Try.func3 (by kernel_rfl)
    (of_decide_eq_true (by kernel_rfl)) (by unfold Func.isWrapper; first | (rw [if_pos (by decide +kernel)]; kernel_rfl) | (rw [if_neg (by decide +kernel)]; exact ⟨rfl, rfl⟩))
    (fun os started H enc _ => lifted os started H enc)


end FnSealL
/-- THE STATEMENT -/
theorem fnSeal_holds : Rows.FnSealSaid := FnSealL.over
#print axioms fnSeal_holds
end Go.Proofs.Ytipiieooghampaa
