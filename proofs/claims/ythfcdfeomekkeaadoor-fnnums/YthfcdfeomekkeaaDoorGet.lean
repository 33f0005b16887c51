/-
  The program's reading of a number at a place ('readNum', by goto): what it hands back is 'rd'. The condition: the text has at most 8000 bytes.
-/
import Derived.Test.YthfcdfeomekkeaaDoorGetMath
import Derived.Deep.QuietTactic
import Derived.BigQuiet
namespace Go.Proofs.YthfcdfeomekkeaaDoor
open Go.ChangeShapes Go.WideShapes Go.ChangeAt Go.RowKit
open Go.ChangeMaps (open_string shut_string)
set_option linter.unusedVariables false
namespace GetR
theorem and1 (u : Nat) (h : u < 18446744073709551616) : bits .and .u64 (u : Int) 1 = ((u % 2 : Nat) : Int) := by
  have := u64_and_nat u 1 h (by omega)
  rw [show ((1 : Nat) : Int) = 1 from rfl] at this
  rw [this]
  congr 1
  exact Nat.and_two_pow_sub_one_eq_mod u 1
theorem neg_bits (u : Nat) (h : u < 18446744073709551616) : wrap64 (bits .xor .u64 IntKind.u64.max ((u : Int) / 2)) = -((u / 2 : Nat) : Int) - 1 := by
  rw [xor_ones _ (by omega) (by omega)]; simp only [wrap64]; omega
theorem unfold_any (u : Nat) (w : World) (h : u < 18446744073709551616) :
    Calls Tryd.prog 24 #[.int .u64 u] w fun e w' => e = .returned (.int .i64 (unz u)) ∧ w' = w := by
  have h1 := and1 u h
  by_cases ho : u % 2 = 1
  · have hq : (bits .and .u64 (u : Int) 1 == 1) = true := by rw [h1, ho]; rfl
    have HN : Hid (wrap64 (bits .xor .u64 IntKind.u64.max ((u : Int) / 2)) = unz u) := (show _ = _ by rw [unz_odd ho]; exact neg_bits u h)
    have hu : (u : Int) ≤ 18446744073709551615 := by omega
    clear h1 ho h
    go_enter Tryd.func24, Tryd.ntmps24
    go_wp2
    go_ret
    exact ⟨ret_int HN.out, rfl⟩
  · have hq : (bits .and .u64 (u : Int) 1 == 1) = false := by rw [h1, show u % 2 = 0 by omega]; rfl
    have HN : Hid ((u : Int) / 2 = unz u) := (show _ = _ by rw [unz_even (by omega)]; omega)
    have hu : (u : Int) ≤ 18446744073709551615 := by omega
    clear h1 ho h
    go_enter Tryd.func24, Tryd.ntmps24
    go_wp2
    go_ret
    exact ⟨ret_int HN.out, rfl⟩
/-- What holds at the jumps: 0 'wrong', 1 'more', 2 'last'. -/
def Jmp (s : ByteArray) (p : Nat) (w : World) (l : Nat) (a : Act) (w' : World) : Prop :=
  (l = 0 ∧ ∃ (c : Nat) (x1 x7 x8 x9 u11 u12 u13 u14 u15 u16 u17 u18 u19 u20 u21 u22 u23 u24 u25 u26 u27 u28 u29 u30 u31 u32 u33 u34 u35 u36 u37 u38 u39 u40 u41 u42 u43 u44 u45 u46 u47 u48 u49 u50 u51 u52 : Value), a = { tmps := #[Value.string s, x1, undef, undef, Value.int .i64 0, Value.int .i64 0, Value.nilIface, x7, x8, x9, Value.pointer (some ⟨w.heap.size, 0, none⟩), u11, u12, u13, u14, u15, u16, u17, u18, u19, u20, u21, u22, u23, u24, u25, u26, u27, u28, u29, u30, u31, u32, u33, u34, u35, u36, u37, u38, u39, u40, u41, u42, u43, u44, u45, u46, u47, u48, u49, u50, u51, u52], defers := [] } ∧ w' = w.alloc (.cells #[.int .i64 c] 54) ∧ Hid (rd s p 10 0 0 = (c, 0, 0) ∧ c ≠ 0)) ∨
  (l = 1 ∧ ∃ (k u : Nat) (x1 xu x9 : Int) (x8 u11 u12 u13 u14 u15 u16 u17 u18 u19 u20 u21 u22 u23 u24 u25 u26 u27 u28 u29 u30 u31 u32 u33 u34 u35 u36 u37 u38 u39 u40 u41 u42 u43 u44 u45 u46 u47 u48 u49 u50 u51 u52 : Value), a = { tmps := #[Value.string s, Value.int .i64 x1, undef, undef, Value.int .i64 0, Value.int .i64 0, Value.nilIface, Value.int .u64 xu, x8, Value.int .i64 x9, Value.pointer (some ⟨w.heap.size, 0, none⟩), u11, u12, u13, u14, u15, u16, u17, u18, u19, u20, u21, u22, u23, u24, u25, u26, u27, u28, u29, u30, u31, u32, u33, u34, u35, u36, u37, u38, u39, u40, u41, u42, u43, u44, u45, u46, u47, u48, u49, u50, u51, u52], defers := [] } ∧ w' = w.alloc (.cells #[.int .i64 3] 54) ∧ Hid (RdI s p k u) ∧ k ≤ 9 ∧ p + k ≤ s.size ∧ x1 = (p : Int) + k ∧ xu = u ∧ x9 = 7 * (k : Int)) ∨
  (l = 2 ∧ ∃ (k u c : Nat) (x1 xu xc x9 : Int) (u11 u12 u13 u14 u15 u16 u17 u18 u19 u20 u21 u22 u23 u24 u25 u26 u27 u28 u29 u30 u31 u32 u33 u34 u35 u36 u37 u38 u39 u40 u41 u42 u43 u44 u45 u46 u47 u48 u49 u50 u51 u52 : Value), a = { tmps := #[Value.string s, Value.int .i64 x1, undef, undef, Value.int .i64 0, Value.int .i64 0, Value.nilIface, Value.int .u64 xu, Value.int .u8 xc, Value.int .i64 x9, Value.pointer (some ⟨w.heap.size, 0, none⟩), u11, u12, u13, u14, u15, u16, u17, u18, u19, u20, u21, u22, u23, u24, u25, u26, u27, u28, u29, u30, u31, u32, u33, u34, u35, u36, u37, u38, u39, u40, u41, u42, u43, u44, u45, u46, u47, u48, u49, u50, u51, u52], defers := [] } ∧ w' = w.alloc (.cells #[.int .i64 3] 54) ∧ Hid (rd s p 10 0 0 = if c = 0 ∧ 0 < k then (3, 0, 0) else (0, u, k + 1)) ∧ k ≤ 9 ∧ p + k < s.size ∧ c < 128 ∧ u < 18446744073709551616 ∧ x1 = (p : Int) + k + 1 ∧ xu = u ∧ xc = c ∧ x9 = 7 * (k : Int))
theorem rd_step {s : ByteArray} {p k u : Nat} (h : RdI s p k u) (hp : p + k < s.size) (h9 : ¬ (k = 9 ∧ 1 < s[p + k].toNat)) (hc : s[p + k].toNat < 128) :
    rd s p 10 0 0 = if s[p + k].toNat = 0 ∧ 0 < k then (3, 0, 0) else (0, u + s[p + k].toNat % 128 * 2 ^ (7 * k), k + 1) := by
  rw [h.2.2]
  split
  · next hz => exact rd_zero hp hz.1 hz.2
  · next hz => exact rd_last hp h9 hc hz
theorem or_plus0 {s : ByteArray} {p : Nat} (hp : p < s.size) :
    bits .or .u64 0 (IntKind.u64.wrap (IntKind.u64.wrap (bits .and .u8 (s[p].toNat : Int) 127))) = ((0 + s[p + 0].toNat % 128 * 2 ^ (7 * 0) : Nat) : Int) := by
  have := or_plus (rdI_zero s p) (show p + 0 < s.size from hp) (by omega)
  simpa using this
theorem ret_fault {a b : Int} {T : TypeId} (h : a = b) : Ending.returned (.tuple #[.int .i64 0, .int .i64 0, .iface T (.agg #[.int .i64 a])]) = .returned (.tuple #[.int .i64 0, .int .i64 0, .iface T (.agg #[.int .i64 b])]) := by rw [h]
theorem ret_got {a b c d : Int} (h1 : a = b) (h2 : c = d) : Ending.returned (.tuple #[.int .i64 a, .int .i64 c, .nilIface]) = .returned (.tuple #[.int .i64 b, .int .i64 d, .nilIface]) := by rw [h1, h2]
def lab (l : Nat) (a : Act) (_ : World) : Nat := match l with | 0 => 0 | 1 => 100 - (intOf (a.tmps.getD 9 undef)).toNat | _ => 1
/-- What the call hands back, of what is read. -/
def Told (w : World) (p : Nat) (r : Nat × Nat × Nat) (e : Ending) (w' : World) : Prop :=
  (r.1 = 0 → e = .returned (.tuple #[.int .i64 (unz r.2.1), .int .i64 ((p : Int) + r.2.2), .nilIface])) ∧
  (r.1 ≠ 0 → e = .returned (.tuple #[.int .i64 0, .int .i64 0, .iface 54 (.agg #[.int .i64 r.1])])) ∧ Below w.heap.size w w'
set_option maxRecDepth 100000 in
set_option maxHeartbeats 4000000 in
theorem read_any (s : ByteArray) (p : Nat) (w : World) (hs : s.size ≤ 8000) (hm : (p : Int) ≤ 9223372036854775807) :
    Calls Tryd.prog 16 #[.string s, .int .i64 p] w fun e w' => Told w p (rd s p 10 0 0) e w' := by
  go_enter Tryd.func16, Tryd.ntmps16
  go_wp2
  refine wp_scope_multi (Jmp s p w) lab ?_ ?_
  · go_wp2
    go_step3
    by_cases hp : (p : Int) < s.size
    · have hb : 0 ≤ (s[p].toNat : Int) := by omega
      have hb2 : (s[p].toNat : Int) ≤ 255 := by have := UInt8.toNat_lt s[p]; omega
      have hp0 : p + 0 < s.size := by omega
      have HO : Hid (bits .or .u64 0 (IntKind.u64.wrap (IntKind.u64.wrap (bits .and .u8 (s[p].toNat : Int) 127))) = ((0 + s[p + 0].toNat % 128 * 2 ^ (7 * 0) : Nat) : Int)) := or_plus0 (by omega)
      have HT : Hid (0 + s[p + 0].toNat % 128 * 2 ^ (7 * 0) < 18446744073709551616) := top64 (rdI_zero s p) hp0 (by omega)
      by_cases hc : (s[p].toNat : Int) < 128
      · have HR : Hid (rd s p 10 0 0 = if s[p + 0].toNat = 0 ∧ 0 < 0 then (3, 0, 0) else (0, 0 + s[p + 0].toNat % 128 * 2 ^ (7 * 0), 0 + 1)) := rd_step (rdI_zero s p) hp0 (by omega) (show s[p + 0].toNat < 128 by have : s[p + 0].toNat = s[p].toNat := rfl; omega)
        go_wp2
        go_step3
        refine .inr (.inr ⟨rfl, 0, _, s[p + 0].toNat, _, _, _, _, _, _, _, _, _, _, _, _, _, _, _, _, _, _, _, _, _, _, _, _, _, _, _, _, _, _, _, _, _, _, _, _, _, _, _, _, _, _, _, _, _, _, rfl, rfl, HR, by omega, by omega, ?_, HT.out, ?_, ?_, ?_, ?_⟩)
        · have : s[p + 0].toNat = s[p].toNat := rfl
          omega
        · omega
        · exact HO.out
        · rfl
        · rfl
      · have HI : Hid (RdI s p (0 + 1) (0 + s[p + 0].toNat % 128 * 2 ^ (7 * 0))) := rdI_more (rdI_zero s p) hp0 (by omega) (show 128 ≤ s[p + 0].toNat by have : s[p + 0].toNat = s[p].toNat := rfl; omega)
        go_wp2
        go_step3
        refine .inr (.inl ⟨rfl, 0 + 1, _, _, _, _, _, _, _, _, _, _, _, _, _, _, _, _, _, _, _, _, _, _, _, _, _, _, _, _, _, _, _, _, _, _, _, _, _, _, _, _, _, _, _, _, _, _, _, rfl, rfl, HI, by omega, by omega, ?_, ?_, ?_⟩)
        · omega
        · exact HO.out
        · rfl
    · go_wp2
      go_step3
      refine .inl ⟨rfl, 4, _, _, _, _, _, _, _, _, _, _, _, _, _, _, _, _, _, _, _, _, _, _, _, _, _, _, _, _, _, _, _, _, _, _, _, _, _, _, _, _, _, _, _, _, _, _, rfl, rfl, ?_⟩
      exact hid_intro ⟨rd_short (by omega), by omega⟩
  · rintro l a' w' (⟨rfl, c, x1, x7, x8, x9, u11, u12, u13, u14, u15, u16, u17, u18, u19, u20, u21, u22, u23, u24, u25, u26, u27, u28, u29, u30, u31, u32, u33, u34, u35, u36, u37, u38, u39, u40, u41, u42, u43, u44, u45, u46, u47, u48, u49, u50, u51, u52, rfl, rfl, HR⟩ | ⟨rfl, k, u, x1, xu, x9, x8, u11, u12, u13, u14, u15, u16, u17, u18, u19, u20, u21, u22, u23, u24, u25, u26, u27, u28, u29, u30, u31, u32, u33, u34, u35, u36, u37, u38, u39, u40, u41, u42, u43, u44, u45, u46, u47, u48, u49, u50, u51, u52, rfl, rfl, HR, hk, hpk, rfl, rfl, rfl⟩ | ⟨rfl, k, u, c, x1, xu, xc, x9, u11, u12, u13, u14, u15, u16, u17, u18, u19, u20, u21, u22, u23, u24, u25, u26, u27, u28, u29, u30, u31, u32, u33, u34, u35, u36, u37, u38, u39, u40, u41, u42, u43, u44, u45, u46, u47, u48, u49, u50, u51, u52, rfl, rfl, HR, hk, hpk, hc, hu, rfl, rfl, rfl, rfl⟩)
    · refine ⟨_, rfl, ?_⟩
      go_wp2
      go_quiet (fail)
      go_wp2
      rw [jumps_ret]
      go_ret3
      refine ⟨fun h => absurd h (by rw [HR.out.1]; exact HR.out.2), fun _ => ret_fault (by rw [HR.out.1]), ?_⟩
      exact below_drewN ((Below.refl _ _).alloc (Nat.le_refl _) _) _
    · refine ⟨_, rfl, ?_⟩
      by_cases hp : (p : Int) + k < s.size
      · have hpN : p + k < s.size := by omega
        have hb2 : (s[p + k].toNat : Int) ≤ 255 := by have := UInt8.toNat_lt s[p + k]; omega
        by_cases h9 : k = 9
        · have HK : Hid (k = 9) := h9
          have h63 : (7 * (k : Int) == 63) = true := by simp; omega
          clear h9
          by_cases hc1 : 1 < (s[p + k].toNat : Int)
          · have HS : Hid (rd s p 10 0 0 = (3, 0, 0)) := (show _ = _ by rw [HR.out.2.2]; exact rd_nine hpN HK.out (by omega))
            clear HR
            go_wp2
            go_step3
            refine ⟨.inl ⟨rfl, 3, _, _, _, _, _, _, _, _, _, _, _, _, _, _, _, _, _, _, _, _, _, _, _, _, _, _, _, _, _, _, _, _, _, _, _, _, _, _, _, _, _, _, _, _, _, _, rfl, rfl, hid_intro ⟨HS.out, by omega⟩⟩, ?_⟩
            simp [lab, intOf]; omega
          · have HO : Hid (bits .or .u64 (u : Int) (IntKind.u64.wrap (IntKind.u64.wrap (bits .and .u8 (s[p + k].toNat : Int) 127) * 2 ^ (7 * k))) = ((u + s[p + k].toNat % 128 * 2 ^ (7 * k) : Nat) : Int)) := or_plus HR.out hpN (by omega)
            have HT : Hid (u + s[p + k].toNat % 128 * 2 ^ (7 * k) < 18446744073709551616) := top64 HR.out hpN (by omega)
            have HR2 : Hid (rd s p 10 0 0 = if s[p + k].toNat = 0 ∧ 0 < k then (3, 0, 0) else (0, u + s[p + k].toNat % 128 * 2 ^ (7 * k), k + 1)) := rd_step HR.out hpN (by omega) (by omega)
            clear HR
            have hc : (s[p + k].toNat : Int) < 128 := by omega
            go_wp2
            go_step3
            refine ⟨.inr (.inr ⟨rfl, k, _, s[p + k].toNat, _, _, _, _, _, _, _, _, _, _, _, _, _, _, _, _, _, _, _, _, _, _, _, _, _, _, _, _, _, _, _, _, _, _, _, _, _, _, _, _, _, _, _, _, _, _, rfl, rfl, HR2, hk, hpN, by omega, HT.out, ?_, HO.out, rfl, rfl⟩), ?_⟩
            · omega
            · simp [lab, intOf]; omega
        · have HO : Hid (bits .or .u64 (u : Int) (IntKind.u64.wrap (IntKind.u64.wrap (bits .and .u8 (s[p + k].toNat : Int) 127) * 2 ^ (7 * k))) = ((u + s[p + k].toNat % 128 * 2 ^ (7 * k) : Nat) : Int)) := or_plus HR.out hpN (by omega)
          have HT : Hid (u + s[p + k].toNat % 128 * 2 ^ (7 * k) < 18446744073709551616) := top64 HR.out hpN (by omega)
          have h63 : (7 * (k : Int) == 63) = false := by simp; omega
          by_cases hc : (s[p + k].toNat : Int) < 128
          · have HR2 : Hid (rd s p 10 0 0 = if s[p + k].toNat = 0 ∧ 0 < k then (3, 0, 0) else (0, u + s[p + k].toNat % 128 * 2 ^ (7 * k), k + 1)) := rd_step HR.out hpN (by omega) (by omega)
            clear HR
            go_wp2
            go_step3
            refine ⟨.inr (.inr ⟨rfl, k, _, s[p + k].toNat, _, _, _, _, _, _, _, _, _, _, _, _, _, _, _, _, _, _, _, _, _, _, _, _, _, _, _, _, _, _, _, _, _, _, _, _, _, _, _, _, _, _, _, _, _, _, rfl, rfl, HR2, hk, hpN, by omega, HT.out, ?_, HO.out, rfl, rfl⟩), ?_⟩
            · omega
            · simp [lab, intOf]; omega
          · have HI : Hid (RdI s p (k + 1) (u + s[p + k].toNat % 128 * 2 ^ (7 * k))) := rdI_more HR.out hpN h9 (by omega)
            clear HR
            go_wp2
            go_step3
            refine ⟨.inr (.inl ⟨rfl, k + 1, _, _, _, _, _, _, _, _, _, _, _, _, _, _, _, _, _, _, _, _, _, _, _, _, _, _, _, _, _, _, _, _, _, _, _, _, _, _, _, _, _, _, _, _, _, _, _, rfl, rfl, HI, by omega, by omega, ?_, HO.out, ?_⟩), ?_⟩
            · omega
            · omega
            · simp [lab, intOf]; omega
      · have HS : Hid (rd s p 10 0 0 = (4, 0, 0)) := (show _ = _ by rw [HR.out.2.2]; exact rd_short (by omega))
        clear HR
        go_wp2
        go_step3
        refine ⟨.inl ⟨rfl, 4, _, _, _, _, _, _, _, _, _, _, _, _, _, _, _, _, _, _, _, _, _, _, _, _, _, _, _, _, _, _, _, _, _, _, _, _, _, _, _, _, _, _, _, _, _, _, rfl, rfl, hid_intro ⟨HS.out, by omega⟩⟩, ?_⟩
        simp [lab, intOf]; omega
    · refine ⟨_, rfl, ?_⟩
      have hu2 : (u : Int) ≤ 18446744073709551615 := by omega
      have h7 : 7 * (k : Int) ≤ 63 := by omega
      have h8 : (0 : Int) ≤ 7 * (k : Int) := by omega
      by_cases hc0 : c = 0
      · have q0 : ((c : Int) == 0) = true := by simp; omega
        by_cases hk0 : 0 < k
        · have q1 : (0 : Int) < 7 * (k : Int) := by omega
          have HS : Hid (rd s p 10 0 0 = (3, 0, 0)) := (show _ = _ by rw [HR.out, if_pos ⟨hc0, hk0⟩])
          clear HR hc0
          go_wp2
          go_step3
          refine ⟨.inl ⟨rfl, 3, _, _, _, _, _, _, _, _, _, _, _, _, _, _, _, _, _, _, _, _, _, _, _, _, _, _, _, _, _, _, _, _, _, _, _, _, _, _, _, _, _, _, _, _, _, _, rfl, rfl, hid_intro ⟨HS.out, by omega⟩⟩, ?_⟩
          simp [lab]
        · have q1 : ¬ (0 : Int) < 7 * (k : Int) := by omega
          have HS : Hid (rd s p 10 0 0 = (0, u, k + 1)) := (show _ = _ by rw [HR.out, if_neg (by omega)])
          clear HR hc0
          go_wp2_with (go_at_call 24; refine (unfold_any u _ (by omega)).mono ?_; rintro e w' ⟨rfl, rfl⟩)
          rw [jumps_ret]
          go_ret3
          exact ⟨fun _ => ret_got (by rw [HS.out]) (by rw [HS.out]; show _ = (p : Int) + ((k + 1 : Nat) : Int); omega), fun h => absurd (by rw [HS.out]) h, (Below.refl _ _).alloc (Nat.le_refl _) _⟩
      · have q0 : ((c : Int) == 0) = false := by simp; omega
        have HS : Hid (rd s p 10 0 0 = (0, u, k + 1)) := (show _ = _ by rw [HR.out, if_neg (by omega)])
        clear HR hc0
        go_wp2_with (go_at_call 24; refine (unfold_any u _ (by omega)).mono ?_; rintro e w' ⟨rfl, rfl⟩)
        rw [jumps_ret]
        go_ret3
        exact ⟨fun _ => ret_got (by rw [HS.out]) (by rw [HS.out]; show _ = (p : Int) + ((k + 1 : Nat) : Int); omega), fun h => absurd (by rw [HS.out]) h, (Below.refl _ _).alloc (Nat.le_refl _) _⟩
set_option maxRecDepth 100000 in
theorem read_neg (s : ByteArray) (x : Int) (w : World) (hx : x < 0) (hm : -9223372036854775808 ≤ x) :
    Calls Tryd.prog 16 #[.string s, .int .i64 x] w fun e w' => e = .returned (.tuple #[.int .i64 0, .int .i64 0, .iface 54 (.agg #[.int .i64 1])]) ∧ Below w.heap.size w w' := by
  go_enter Tryd.func16, Tryd.ntmps16
  go_wp2
  refine wp_scope_multi (fun l a' w' => l = 0 ∧ ∃ (x1 x7 x8 x9 u11 u12 u13 u14 u15 u16 u17 u18 u19 u20 u21 u22 u23 u24 u25 u26 u27 u28 u29 u30 u31 u32 u33 u34 u35 u36 u37 u38 u39 u40 u41 u42 u43 u44 u45 u46 u47 u48 u49 u50 u51 u52 : Value), a' = { tmps := #[Value.string s, x1, undef, undef, Value.int .i64 0, Value.int .i64 0, Value.nilIface, x7, x8, x9, Value.pointer (some ⟨w.heap.size, 0, none⟩), u11, u12, u13, u14, u15, u16, u17, u18, u19, u20, u21, u22, u23, u24, u25, u26, u27, u28, u29, u30, u31, u32, u33, u34, u35, u36, u37, u38, u39, u40, u41, u42, u43, u44, u45, u46, u47, u48, u49, u50, u51, u52], defers := [] } ∧ w' = w.alloc (.cells #[.int .i64 1] 54)) (fun _ _ _ => 0) ?_ ?_
  · go_wp2
    go_step3
    exact ⟨rfl, _, _, _, _, _, _, _, _, _, _, _, _, _, _, _, _, _, _, _, _, _, _, _, _, _, _, _, _, _, _, _, _, _, _, _, _, _, _, _, _, _, _, _, _, _, _, rfl, rfl⟩
  · rintro l a' w' ⟨rfl, x1, x7, x8, x9, u11, u12, u13, u14, u15, u16, u17, u18, u19, u20, u21, u22, u23, u24, u25, u26, u27, u28, u29, u30, u31, u32, u33, u34, u35, u36, u37, u38, u39, u40, u41, u42, u43, u44, u45, u46, u47, u48, u49, u50, u51, u52, rfl, rfl⟩
    refine ⟨_, rfl, ?_⟩
    go_wp2
    go_quiet (fail)
    go_wp2
    rw [jumps_ret]
    go_ret3
    exact ⟨rfl, below_drewN ((Below.refl _ _).alloc (Nat.le_refl _) _) _⟩
end GetR
end Go.Proofs.YthfcdfeomekkeaaDoor
