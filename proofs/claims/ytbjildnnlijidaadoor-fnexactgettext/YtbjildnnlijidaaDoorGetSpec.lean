/-
  The model's reading of a number at a place: what it hands back is 'rd'. The condition: the text has at most 8000 bytes.
-/
import Derived.Test.YtbjildnnlijidaaDoorGetMath
namespace Go.Proofs.YtbjildnnlijidaaDoor
open Go.ChangeShapes Go.WideShapes Go.ChangeAt Go.RowKit
open Go.ChangeMaps (open_string shut_string)
set_option linter.unusedVariables false
namespace GetR
/-- The answer, of what is read. -/
def outN (p : Nat) (r : Nat × Nat × Nat) : Value := if r.1 = 0 then .agg #[.int .i64 (unz r.2.1), .int .i64 ((p : Int) + r.2.2), .int .i64 0] else .agg #[.int .i64 0, .int .i64 0, .int .i64 r.1]
theorem outN_bad {p : Nat} {r : Nat × Nat × Nat} {c : Nat} (h : r = (c, 0, 0)) (hc : c ≠ 0) : outN p r = .agg #[.int .i64 0, .int .i64 0, .int .i64 c] := by
  rw [h]; exact if_neg hc
theorem outN_got {p : Nat} {r : Nat × Nat × Nat} {u n : Nat} (h : r = (0, u, n)) : outN p r = .agg #[.int .i64 (unz u), .int .i64 ((p : Int) + n), .int .i64 0] := by
  rw [h]; exact if_pos rfl
/-- What the model's round adds. -/
theorem add_plus {s : ByteArray} {p k u : Nat} (h : RdI s p k u) (hp : p + k < s.size) (h9 : ¬ (k = 9 ∧ 1 < s[p + k].toNat)) :
    IntKind.u64.wrap ((u : Int) + IntKind.u64.wrap ((s[p + k].toNat : Int) % 128 * 2 ^ (7 * k))) = ((u + s[p + k].toNat % 128 * 2 ^ (7 * k) : Nat) : Int) := by
  have ht := top64 h hp h9
  obtain ⟨c, hcc⟩ : ∃ c, c = s[p + k].toNat := ⟨_, rfl⟩
  rw [← hcc] at ht ⊢
  obtain ⟨q, hq⟩ : ∃ q, q = 2 ^ (7 * k) := ⟨_, rfl⟩
  have e2 : ((2 : Int) ^ (7 * k)) = ((2 ^ (7 * k) : Nat) : Int) := by simp
  rw [e2]
  rw [← hq] at ht ⊢
  have e4 : (c : Int) % 128 * ((q : Nat) : Int) = ((c % 128 * q : Nat) : Int) := by simp
  rw [e4]
  obtain ⟨m, hm⟩ : ∃ m, m = c % 128 * q := ⟨_, rfl⟩
  rw [← hm] at ht ⊢
  rw [u64wrap, u64wrap]
  omega
theorem ret_v {a b : Value} (h : a = b) : Ending.returned a = .returned b := by rw [h]
theorem odd_form (v : Nat) (h : (v : Int) ≤ 18446744073709551615) : wrap64 (-((v : Int) / 2) - 1) = -((v / 2 : Nat) : Int) - 1 := by simp only [wrap64]; omega
set_option maxRecDepth 100000 in
set_option maxHeartbeats 4000000 in
theorem spec_any (s : ByteArray) (p : Nat) (w : World) (hs : s.size ≤ 8000) (hm : (p : Int) ≤ 9223372036854775807) :
    Calls Tryd.prog 5 #[.string s, .int .i64 p] w fun e w' => e = .returned (outN p (rd s p 10 0 0)) ∧ Below w.heap.size w w' := by
  go_enter Tryd.func5, Tryd.ntmps5
  go_wp2
  go_loop [5, 6, 7, 8] (fun x i _ _ => ∃ (k u : Nat) (xi xu : Int), i = .int .i64 xi ∧ x = .int .u64 xu ∧ Hid (RdI s p k u) ∧ k ≤ 9 ∧ xi = k ∧ xu = u) (fun _ i _ _ => 10 - (intOf i).toNat)
  case atStart => exact ⟨0, 0, 0, 0, rfl, rfl, rdI_zero s p, by omega, rfl, rfl⟩
  case round =>
    obtain ⟨k, u, xi, xu, rfl, rfl, HR, hk, rfl, rfl⟩ := hrel
    by_cases hp : (p : Int) + k < s.size
    · have hpN : p + k < s.size := by omega
      have hp2 : ¬ (s.size : Int) - k ≤ p := by omega
      have hb2 : (s[p + k].toNat : Int) ≤ 255 := by have := UInt8.toNat_lt s[p + k]; omega
      by_cases hbad : k = 9 ∧ 1 < s[p + k].toNat
      · have h63 : ((k : Int) == 9) = true := by simp; omega
        have hc1 : (1 : Int) < (s[p + k].toNat : Int) := by omega
        have HS : Hid (rd s p 10 0 0 = (3, 0, 0)) := (show _ = _ by rw [HR.out.2.2]; exact rd_nine hpN hbad.1 hbad.2)
        clear HR hbad
        go_wp2
        refine bodyPost_ret (v := .agg #[.int .i64 0, .int .i64 0, .int .i64 3]) (by simp [results, Tryd.results5, go_sem]) rfl ⟨ret_v (outN_bad HS.out (by omega)).symm, (Below.refl _ _).alloc (Nat.le_refl _) _⟩
      · obtain ⟨v, hv⟩ : ∃ v, v = u + s[p + k].toNat % 128 * 2 ^ (7 * k) := ⟨_, rfl⟩
        have hV := add_plus HR.out hpN hbad
        have ht := top64 HR.out hpN hbad
        rw [← hv] at hV ht
        have hv2 : (v : Int) ≤ 18446744073709551615 := by omega
        have HV : Hid (v = u + s[p + k].toNat % 128 * 2 ^ (7 * k)) := hv
        have HB : Hid (¬ (k = 9 ∧ 1 < s[p + k].toNat)) := hbad
        clear hv hbad
        have key : ((k : Int) == 9) = false ∨ (((k : Int) == 9) = true ∧ ¬ (1 : Int) < (s[p + k].toNat : Int)) := by
          by_cases h9 : k = 9
          · refine .inr ⟨by simp; omega, ?_⟩
            have := HB.out
            omega
          · exact .inl (by simp; omega)
        by_cases hc : (s[p + k].toNat : Int) < 128
        · by_cases hz : s[p + k].toNat = 0 ∧ 0 < k
          · have q0 : ((s[p + k].toNat : Int) == 0) = true := by simp; omega
            have q1 : (0 : Int) < (k : Int) := by omega
            have HS : Hid (rd s p 10 0 0 = (3, 0, 0)) := (show _ = _ by rw [HR.out.2.2]; exact rd_zero hpN hz.1 hz.2)
            clear HR hz
            rcases key with h63 | ⟨h63, hc1⟩
            all_goals
              go_wp2
              refine bodyPost_ret (v := .agg #[.int .i64 0, .int .i64 0, .int .i64 3]) (by simp [results, Tryd.results5, go_sem]) rfl ⟨ret_v (outN_bad HS.out (by omega)).symm, (Below.refl _ _).alloc (Nat.le_refl _) _⟩
          · have HS : Hid (rd s p 10 0 0 = (0, v, k + 1)) := (show _ = _ by rw [HR.out.2.2, HV.out]; exact rd_last hpN HB.out (by omega) hz)
            have hz2 : (((s[p + k].toNat : Int) == 0) = false) ∨ (((s[p + k].toNat : Int) == 0) = true ∧ ¬ (0 : Int) < (k : Int)) := by
              by_cases h0 : s[p + k].toNat = 0
              · exact .inr ⟨by simp; omega, by omega⟩
              · exact .inl (by simp; omega)
            have HO := hid_intro (odd_form v hv2)
            clear HR hz
            by_cases hpar : v % 2 = 1
            · have q2 : ((v : Int) % 2 == 1) = true := by simp; omega
              have HF : Hid (outN p (rd s p 10 0 0) = .agg #[.int .i64 (-((v : Int) / 2) - 1), .int .i64 ((p : Int) + k + 1), .int .i64 0]) := (show _ = _ by rw [outN_got HS.out, unz_odd hpar]; congr 4)
              clear hpar HS HO
              rcases key with h63 | ⟨h63, hc1⟩
              all_goals
                rcases hz2 with q0 | ⟨q0, q1⟩
                all_goals
                  go_wp2
                  refine bodyPost_ret (v := .agg #[.int .i64 (-((v : Int) / 2) - 1), .int .i64 ((p : Int) + k + 1), .int .i64 0]) (by simp [results, Tryd.results5, go_sem]) rfl ⟨ret_v HF.out.symm, (Below.refl _ _).alloc (Nat.le_refl _) _⟩
            · have q2 : ((v : Int) % 2 == 1) = false := by simp; omega
              have HF : Hid (outN p (rd s p 10 0 0) = .agg #[.int .i64 ((v : Int) / 2), .int .i64 ((p : Int) + k + 1), .int .i64 0]) := (show _ = _ by rw [outN_got HS.out, unz_even (by omega)]; congr 4)
              clear hpar HS HO
              rcases key with h63 | ⟨h63, hc1⟩
              all_goals
                rcases hz2 with q0 | ⟨q0, q1⟩
                all_goals
                  go_wp2
                  refine bodyPost_ret (v := .agg #[.int .i64 ((v : Int) / 2), .int .i64 ((p : Int) + k + 1), .int .i64 0]) (by simp [results, Tryd.results5, go_sem]) rfl ⟨ret_v HF.out.symm, (Below.refl _ _).alloc (Nat.le_refl _) _⟩
        · rcases key with h63 | ⟨h63, hc1⟩
          · have HI : Hid (RdI s p (k + 1) v) := (show RdI _ _ _ _ by rw [HV.out]; exact rdI_more HR.out hpN (by intro e; subst e; simp at h63) (by omega))
            clear HR
            have hk8 : k + 1 ≤ 9 := HI.out.1
            go_wp2
            go_round
            case rel => exact ⟨k + 1, v, _, _, rfl, rfl, HI, hk8, by omega, rfl⟩
            case measure => simp [intOf]; omega
          · exfalso; omega
    · have HS : Hid (rd s p 10 0 0 = (4, 0, 0)) := (show _ = _ by rw [HR.out.2.2]; exact rd_short (by omega))
      have hp2 : (s.size : Int) - k ≤ p := by omega
      clear HR
      go_wp2
      refine bodyPost_ret (v := .agg #[.int .i64 0, .int .i64 0, .int .i64 4]) (by simp [results, Tryd.results5, go_sem]) rfl ⟨ret_v (outN_bad HS.out (by omega)).symm, (Below.refl _ _).alloc (Nat.le_refl _) _⟩
end GetR
end Go.Proofs.YtbjildnnlijidaaDoor
