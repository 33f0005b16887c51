/-
  The model's reading of a number at a place: what it hands back is 'rd'. The condition: the text has at most 8000 bytes.
  What is put is got: the digits of a number, read where they stand, are the number; of digits that end too early nothing is got. No condition.
  What is got was put: a number that is read is spelled by just its bytes, and so is a text. Arithmetic and bytes alone. No condition.
  What a number's and a text's reading come to, as functions of the bytes: what is read is spelled by just its bytes, and what is spelled is read. Arithmetic and bytes alone. No condition.
  A text's bytes. No condition.
  What texts come to when they are read: what is read is spelled by just its bytes, and what is spelled is read. Bytes alone. No condition.
  A number and a text read at a place, either side: what is handed back is what the bytes spell there. The condition: the text has at most 8000 bytes.
  Small facts on worlds in which one block alone was written. No condition.
  The program's reader: a number and a text read at its place, behind a fault nothing. The condition: the text has at most 8000 bytes.
  The model's reader: a number and a text read at its place, behind a fault nothing. The condition: the text has at most 8000 bytes.
  A text of seen bytes alone (33 to 126): what the program says rune by rune and what the model says byte by byte. No condition but the length.
  What a right Id and a minute are: both sides say the same. No condition but the lengths.
  The readers of both sides: texts, numbers and counts. The condition: the text has at most 8000 bytes.
  Readers that are kept while other memory grows. No condition.
  Lists of meters of one's own. No condition.
  What is shown once is used on every way to it. No condition.
  The program's reading of a meter and of a catalog. The conditions: what the readers ask for.
  Bytes that are spelled by parts: what is read is spelled by just its bytes. Bytes alone. No condition.
  Bytes put are got back: what is spelled at a place is read there. Bytes alone. No condition.
  What a catalog's text comes to when it is read, by the program and by the model: both read right catalogs alike. Bytes alone. No condition.
-/
import Derived.BigRegion
import Derived.Deep.RegionWith
import Derived.Laws.RangeAny
import Derived.Deep.QuietTactic
import Derived.BigQuiet
import Derived.Deep.CutRange
import Derived.Deep.DeepCutAuto
import Derived.Deep.RegionHeld3
import Derived.Test.YtaedolophhcjjaaDoorK3
namespace Go.Proofs.YtaedolophhcjjaaDoor
open Go.ChangeShapes Go.WideShapes Go.ChangeAt Go.RowKit
open Go.ChangeMaps (open_string shut_string)
set_option linter.unusedVariables false
namespace GetR
/-- The answer, of what is read. -/
def outN (p : Nat) (r : Nat × Nat × Nat) : Value := if r.1 = 0 then .agg #[.int .i64 (unz r.2.1), .int .i64 ((p : Int) + r.2.2), .int .i64 0] else .agg #[.int .i64 0, .int .i64 0, .int .i64 r.1]
theorem outN_bad {p : Nat} {r : Nat × Nat × Nat} {c : Nat} (h : r = (c, 0, 0)) (hc : c ≠ 0) : outN p r = .agg #[.int .i64 0, .int .i64 0, .int .i64 c] := by
  rw [h]; exact if_neg hc
theorem outN_got {p : Nat} {r : Nat × Nat × Nat} {u n : Nat} (h : r = (0, u, n)) : outN p r = .agg #[.int .i64 (unz u), .int .i64 ((p : Int) + n), .int .i64 0] := by
  rw [h]; exact if_pos rfl
/-- What the model's round adds. -/
theorem add_plus {s : ByteArray} {p k u : Nat} (h : RdI s p k u) (hp : p + k < s.size) (h9 : ¬ (k = 9 ∧ 1 < s[p + k].toNat)) :
    IntKind.u64.wrap ((u : Int) + IntKind.u64.wrap ((s[p + k].toNat : Int) % 128 * 2 ^ (7 * k))) = ((u + s[p + k].toNat % 128 * 2 ^ (7 * k) : Nat) : Int) := by
  have ht := top64 h hp h9
  obtain ⟨c, hcc⟩ : ∃ c, c = s[p + k].toNat := ⟨_, rfl⟩
  rw [← hcc] at ht ⊢
  obtain ⟨q, hq⟩ : ∃ q, q = 2 ^ (7 * k) := ⟨_, rfl⟩
  have e2 : ((2 : Int) ^ (7 * k)) = ((2 ^ (7 * k) : Nat) : Int) := by simp
  rw [e2]
  rw [← hq] at ht ⊢
  have e4 : (c : Int) % 128 * ((q : Nat) : Int) = ((c % 128 * q : Nat) : Int) := by simp
  rw [e4]
  obtain ⟨m, hm⟩ : ∃ m, m = c % 128 * q := ⟨_, rfl⟩
  rw [← hm] at ht ⊢
  rw [u64wrap, u64wrap]
  omega
theorem ret_v {a b : Value} (h : a = b) : Ending.returned a = .returned b := by rw [h]
theorem odd_form (v : Nat) (h : (v : Int) ≤ 18446744073709551615) : wrap64 (-((v : Int) / 2) - 1) = -((v / 2 : Nat) : Int) - 1 := by simp only [wrap64]; omega
set_option maxRecDepth 100000 in
set_option maxHeartbeats 4000000 in
theorem spec_any (s : ByteArray) (p : Nat) (w : World) (hs : s.size ≤ 8000) (hm : (p : Int) ≤ 9223372036854775807) :
    Calls Tryd.prog 67 #[.string s, .int .i64 p] w fun e w' => e = .returned (outN p (rd s p 10 0 0)) ∧ Below w.heap.size w w' := by
  go_enter Tryd.func67, Tryd.ntmps67
  go_wp2
  go_loop [5, 6, 7, 8] (fun x i _ _ => ∃ (k u : Nat) (xi xu : Int), i = .int .i64 xi ∧ x = .int .u64 xu ∧ Hid (RdI s p k u) ∧ k ≤ 9 ∧ xi = k ∧ xu = u) (fun _ i _ _ => 10 - (intOf i).toNat)
  case atStart => exact ⟨0, 0, 0, 0, rfl, rfl, rdI_zero s p, by omega, rfl, rfl⟩
  case round =>
    obtain ⟨k, u, xi, xu, rfl, rfl, HR, hk, rfl, rfl⟩ := hrel
    by_cases hp : (p : Int) + k < s.size
    · have hpN : p + k < s.size := by omega
      have hp2 : ¬ (s.size : Int) - k ≤ p := by omega
      have hb2 : (s[p + k].toNat : Int) ≤ 255 := by have := UInt8.toNat_lt s[p + k]; omega
      by_cases hbad : k = 9 ∧ 1 < s[p + k].toNat
      · have h63 : ((k : Int) == 9) = true := by simp; omega
        have hc1 : (1 : Int) < (s[p + k].toNat : Int) := by omega
        have HS : Hid (rd s p 10 0 0 = (3, 0, 0)) := (show _ = _ by rw [HR.out.2.2]; exact rd_nine hpN hbad.1 hbad.2)
        clear HR hbad
        go_wp2
        refine bodyPost_ret (v := .agg #[.int .i64 0, .int .i64 0, .int .i64 3]) (by simp [results, Tryd.results67, go_sem]) rfl ⟨ret_v (outN_bad HS.out (by omega)).symm, (Below.refl _ _).alloc (Nat.le_refl _) _⟩
      · obtain ⟨v, hv⟩ : ∃ v, v = u + s[p + k].toNat % 128 * 2 ^ (7 * k) := ⟨_, rfl⟩
        have hV := add_plus HR.out hpN hbad
        have ht := top64 HR.out hpN hbad
        rw [← hv] at hV ht
        have hv2 : (v : Int) ≤ 18446744073709551615 := by omega
        have HV : Hid (v = u + s[p + k].toNat % 128 * 2 ^ (7 * k)) := hv
        have HB : Hid (¬ (k = 9 ∧ 1 < s[p + k].toNat)) := hbad
        clear hv hbad
        have key : ((k : Int) == 9) = false ∨ (((k : Int) == 9) = true ∧ ¬ (1 : Int) < (s[p + k].toNat : Int)) := by
          by_cases h9 : k = 9
          · refine .inr ⟨by simp; omega, ?_⟩
            have := HB.out
            omega
          · exact .inl (by simp; omega)
        by_cases hc : (s[p + k].toNat : Int) < 128
        · by_cases hz : s[p + k].toNat = 0 ∧ 0 < k
          · have q0 : ((s[p + k].toNat : Int) == 0) = true := by simp; omega
            have q1 : (0 : Int) < (k : Int) := by omega
            have HS : Hid (rd s p 10 0 0 = (3, 0, 0)) := (show _ = _ by rw [HR.out.2.2]; exact rd_zero hpN hz.1 hz.2)
            clear HR hz
            rcases key with h63 | ⟨h63, hc1⟩
            all_goals
              go_wp2
              refine bodyPost_ret (v := .agg #[.int .i64 0, .int .i64 0, .int .i64 3]) (by simp [results, Tryd.results67, go_sem]) rfl ⟨ret_v (outN_bad HS.out (by omega)).symm, (Below.refl _ _).alloc (Nat.le_refl _) _⟩
          · have HS : Hid (rd s p 10 0 0 = (0, v, k + 1)) := (show _ = _ by rw [HR.out.2.2, HV.out]; exact rd_last hpN HB.out (by omega) hz)
            have hz2 : (((s[p + k].toNat : Int) == 0) = false) ∨ (((s[p + k].toNat : Int) == 0) = true ∧ ¬ (0 : Int) < (k : Int)) := by
              by_cases h0 : s[p + k].toNat = 0
              · exact .inr ⟨by simp; omega, by omega⟩
              · exact .inl (by simp; omega)
            have HO := hid_intro (odd_form v hv2)
            clear HR hz
            by_cases hpar : v % 2 = 1
            · have q2 : ((v : Int) % 2 == 1) = true := by simp; omega
              have HF : Hid (outN p (rd s p 10 0 0) = .agg #[.int .i64 (-((v : Int) / 2) - 1), .int .i64 ((p : Int) + k + 1), .int .i64 0]) := (show _ = _ by rw [outN_got HS.out, unz_odd hpar]; congr 4)
              clear hpar HS HO
              rcases key with h63 | ⟨h63, hc1⟩
              all_goals
                rcases hz2 with q0 | ⟨q0, q1⟩
                all_goals
                  go_wp2
                  refine bodyPost_ret (v := .agg #[.int .i64 (-((v : Int) / 2) - 1), .int .i64 ((p : Int) + k + 1), .int .i64 0]) (by simp [results, Tryd.results67, go_sem]) rfl ⟨ret_v HF.out.symm, (Below.refl _ _).alloc (Nat.le_refl _) _⟩
            · have q2 : ((v : Int) % 2 == 1) = false := by simp; omega
              have HF : Hid (outN p (rd s p 10 0 0) = .agg #[.int .i64 ((v : Int) / 2), .int .i64 ((p : Int) + k + 1), .int .i64 0]) := (show _ = _ by rw [outN_got HS.out, unz_even (by omega)]; congr 4)
              clear hpar HS HO
              rcases key with h63 | ⟨h63, hc1⟩
              all_goals
                rcases hz2 with q0 | ⟨q0, q1⟩
                all_goals
                  go_wp2
                  refine bodyPost_ret (v := .agg #[.int .i64 ((v : Int) / 2), .int .i64 ((p : Int) + k + 1), .int .i64 0]) (by simp [results, Tryd.results67, go_sem]) rfl ⟨ret_v HF.out.symm, (Below.refl _ _).alloc (Nat.le_refl _) _⟩
        · rcases key with h63 | ⟨h63, hc1⟩
          · have HI : Hid (RdI s p (k + 1) v) := (show RdI _ _ _ _ by rw [HV.out]; exact rdI_more HR.out hpN (by intro e; subst e; simp at h63) (by omega))
            clear HR
            have hk8 : k + 1 ≤ 9 := HI.out.1
            go_wp2
            go_round
            case rel => exact ⟨k + 1, v, _, _, rfl, rfl, HI, hk8, by omega, rfl⟩
            case measure => simp [intOf]; omega
          · exfalso; omega
    · have HS : Hid (rd s p 10 0 0 = (4, 0, 0)) := (show _ = _ by rw [HR.out.2.2]; exact rd_short (by omega))
      have hp2 : (s.size : Int) - k ≤ p := by omega
      clear HR
      go_wp2
      refine bodyPost_ret (v := .agg #[.int .i64 0, .int .i64 0, .int .i64 4]) (by simp [results, Tryd.results67, go_sem]) rfl ⟨ret_v (outN_bad HS.out (by omega)).symm, (Below.refl _ _).alloc (Nat.le_refl _) _⟩
end GetR
end Go.Proofs.YtaedolophhcjjaaDoor
namespace Go.Proofs.YtaedolophhcjjaaDoor
open Go.RowKit
set_option linter.unusedVariables false
namespace NumsR
open GetR NumR
theorem digs_pos (v : Nat) : 1 ≤ (digs v).length := by
  by_cases h : v < 128
  · rw [digs_last h]; simp
  · rw [digs_more (by omega)]; simp
/-- The bytes at a place are some numbers. -/
def At (s : ByteArray) (b : Nat) (l : List Int) : Prop := ∀ k, k < l.length → ∃ h : b + k < s.size, (s[b + k].toNat : Int) = l.getD k 0
theorem At.tail {s : ByteArray} {b : Nat} {x : Int} {l : List Int} (h : At s b (x :: l)) : At s (b + 1) l := by
  intro k hk
  obtain ⟨h1, h2⟩ := h (k + 1) (by simpa using hk)
  have e : b + 1 + k = b + (k + 1) := by omega
  refine ⟨by omega, ?_⟩
  simp only [e]
  rw [h2]
  simp [List.getD]
theorem At.head {s : ByteArray} {b : Nat} {x : Int} {l : List Int} (h : At s b (x :: l)) : ∃ h : b < s.size, (s[b].toNat : Int) = x := by
  obtain ⟨h1, h2⟩ := h 0 (by simp)
  exact ⟨h1, by simpa using h2⟩
theorem pow_bd {v i : Nat} (h : v * 2 ^ (7 * i) < 18446744073709551616) (hi : i = 9) : v < 2 := by
  subst hi
  refine Nat.lt_of_not_le fun h2 => ?_
  have : 2 * 2 ^ (7 * 9) ≤ v * 2 ^ (7 * 9) := Nat.mul_le_mul_right _ h2
  omega
theorem step_sum (u v i : Nat) : u + v % 128 * 2 ^ (7 * i) + v / 128 * 2 ^ (7 * (i + 1)) = u + v * 2 ^ (7 * i) := by
  have e : 2 ^ (7 * (i + 1)) = 128 * 2 ^ (7 * i) := by rw [show 7 * (i + 1) = 7 * i + 7 from by omega, Nat.pow_add, Nat.mul_comm]
  rw [e]
  obtain ⟨q, hq⟩ : ∃ q, q = 2 ^ (7 * i) := ⟨_, rfl⟩
  rw [← hq]
  have h1 : v / 128 * (128 * q) = (128 * (v / 128)) * q := by rw [← Nat.mul_assoc, Nat.mul_comm (v / 128) 128]
  rw [h1, Nat.add_assoc, ← Nat.add_mul]
  congr 2
  omega
theorem step_le (v i : Nat) (h : v * 2 ^ (7 * i) < 18446744073709551616) : v / 128 * 2 ^ (7 * (i + 1)) < 18446744073709551616 := by
  have := step_sum 0 v i
  omega
theorem rd_digs (s : ByteArray) (p : Nat) : ∀ (f v i u : Nat), At s (p + i) (digs v) → (digs v).length ≤ f → i + f = 10 → (0 < i → 0 < v) → v * 2 ^ (7 * i) < 18446744073709551616 → rd s p f i u = (0, u + v * 2 ^ (7 * i), i + (digs v).length)
  | 0, v, i, u, _, hl, _, _, _ => by have := digs_pos v; omega
  | f + 1, v, i, u, hA, hl, hf, hi, hv => by
    by_cases h : v < 128
    · rw [digs_last h] at hA ⊢
      obtain ⟨h1, h2⟩ := hA.head
      have hc : s[p + i].toNat = v := by omega
      rw [rd_last h1 (fun ⟨e, h3⟩ => by have := pow_bd hv e; omega) (by omega) (fun ⟨e, h3⟩ => by have := hi h3; omega), hc, Nat.mod_eq_of_lt h]
      rfl
    · have h128 : 128 ≤ v := by omega
      rw [digs_more h128] at hA hl ⊢
      obtain ⟨h1, h2⟩ := hA.head
      have hc : s[p + i].toNat = v % 128 + 128 := by omega
      have h9 : i ≠ 9 := fun e => by have := pow_bd hv e; omega
      rw [rd_more h1 h9 (by omega), hc]
      have hm : (v % 128 + 128) % 128 = v % 128 := by omega
      rw [hm]
      have ih := rd_digs s p f (v / 128) (i + 1) (u + v % 128 * 2 ^ (7 * i)) hA.tail (by simpa using hl) (by omega) (fun _ => by omega) (step_le v i hv)
      rw [ih, step_sum]
      simp only [List.length_cons, Prod.mk.injEq, true_and]
      omega
/-- All digits but the last one. -/
theorem rd_cut (s : ByteArray) (p : Nat) : ∀ (f v i u : Nat), At s (p + i) ((digs v).take ((digs v).length - 1)) → s.size = p + i + ((digs v).length - 1) → (digs v).length ≤ f → i + f = 10 → v * 2 ^ (7 * i) < 18446744073709551616 → rd s p f i u = (4, 0, 0)
  | 0, v, i, u, _, _, hl, _, _ => by have := digs_pos v; omega
  | f + 1, v, i, u, hA, hs, hl, hf, hv => by
    by_cases h : v < 128
    · rw [digs_last h] at hs
      exact rd_short (by simp at hs; omega)
    · have h128 : 128 ≤ v := by omega
      have hp := digs_pos (v / 128)
      rw [digs_more h128] at hA hl hs
      simp only [List.length_cons, Nat.add_sub_cancel] at hA hl hs
      obtain ⟨n, hn⟩ : ∃ n, (digs (v / 128)).length = n + 1 := ⟨(digs (v / 128)).length - 1, by omega⟩
      rw [hn, List.take_succ_cons] at hA
      obtain ⟨h1, h2⟩ := hA.head
      have hc : s[p + i].toNat = v % 128 + 128 := by omega
      have h9 : i ≠ 9 := fun e => by have := pow_bd hv e; omega
      rw [rd_more h1 h9 (by omega)]
      refine rd_cut s p f (v / 128) (i + 1) _ ?_ (by omega) (by omega) (by omega) (step_le v i hv)
      have e : (digs (v / 128)).length - 1 = n := by omega
      rw [e]
      exact hA.tail
theorem unz_fold {n : Int} (hn : -9223372036854775808 ≤ n ∧ n ≤ 9223372036854775807) : unz (foldN n).toNat = n := by
  by_cases h : n < 0
  · rw [fold_neg h, unz_odd (by omega)]; omega
  · rw [fold_pos (by omega), unz_even (by omega)]; omega
end NumsR
end Go.Proofs.YtaedolophhcjjaaDoor
namespace Go.Proofs.YtaedolophhcjjaaDoor
open Go.RowKit
set_option linter.unusedVariables false
namespace NumsR
open GetR NumR
theorem rd_back (s : ByteArray) (p : Nat) : ∀ (f i u U n : Nat), rd s p f i u = (0, U, n) → ∃ v : Nat, U = u + v * 2 ^ (7 * i) ∧ n = i + (digs v).length ∧ At s (p + i) (digs v) ∧ (0 < i → 0 < v)
  | 0, i, u, U, n, h => by simp [rd] at h
  | f + 1, i, u, U, n, h => by
    rw [rd] at h
    split at h
    · rename_i hp
      split at h
      · simp at h
      · split at h
        · rename_i h9 hc
          split at h
          · simp at h
          · rename_i hz
            simp only [Prod.mk.injEq, true_and] at h
            obtain ⟨h1, h2⟩ := h
            have hm : s[p + i].toNat % 128 = s[p + i].toNat := Nat.mod_eq_of_lt hc
            refine ⟨s[p + i].toNat, by rw [← h1, hm], by rw [digs_last hc]; simp; omega, ?_, fun hi => by omega⟩
            rw [digs_last hc]
            intro k hk
            obtain rfl : k = 0 := by simpa using hk
            exact ⟨by omega, by simp⟩
        · rename_i h9 hc
          obtain ⟨v, h1, h2, h3, h4⟩ := rd_back s p f (i + 1) _ U n h
          have hv := h4 (by omega)
          have hlt := s[p + i].toNat_lt
          refine ⟨s[p + i].toNat % 128 + 128 * v, ?_, ?_, ?_, fun _ => by omega⟩
          · rw [h1, ← step_sum u (s[p + i].toNat % 128 + 128 * v) i]
            rw [show (s[p + i].toNat % 128 + 128 * v) % 128 = s[p + i].toNat % 128 by omega, show (s[p + i].toNat % 128 + 128 * v) / 128 = v by omega]
          · rw [digs_more (by omega), show (s[p + i].toNat % 128 + 128 * v) / 128 = v by omega, h2]
            simp only [List.length_cons]
            omega
          · rw [digs_more (by omega), show (s[p + i].toNat % 128 + 128 * v) / 128 = v by omega]
            intro k hk
            cases k with
            | zero =>
              refine ⟨by omega, ?_⟩
              simp
              omega
            | succ k =>
              obtain ⟨g1, g2⟩ := h3 k (by simpa using hk)
              have e : p + i + (k + 1) = p + (i + 1) + k := by omega
              refine ⟨by omega, ?_⟩
              simp only [e, g2]
              simp [List.getD]
    · simp at h
theorem fold_unz {u : Nat} (h : u < 18446744073709551616) : (foldN (unz u)).toNat = u := by
  by_cases h1 : u % 2 = 1
  · rw [unz_odd h1, fold_neg (by omega)]; omega
  · rw [unz_even (by omega), fold_pos (by omega)]; omega
/-- Bytes at a place, as a text. -/
theorem at_extract (s : ByteArray) (p : Nat) (l : List Int) (hl : ∀ x ∈ l, 0 ≤ x ∧ x < 256) (h : At s p l) : s.extract p (p + l.length) = strOfNums l := by
  have hsz : p + l.length ≤ s.data.size ∨ l.length = 0 := by
    cases hn : l.length with
    | zero => exact .inr rfl
    | succ n =>
      obtain ⟨h1, _⟩ := h n (by omega)
      have e : s.data.size = s.size := rfl
      exact .inl (by omega)
  apply ByteArray.ext
  apply Array.toList_inj.1
  rw [strOfNums_data]
  apply List.ext_getElem
  · simp only [ByteArray.data_extract, Array.length_toList, Array.size_extract, List.length_map]
    omega
  · intro i h1 h2
    have hi : i < l.length := by simpa using h2
    obtain ⟨g1, g2⟩ := h i hi
    simp only [ByteArray.data_extract, Array.getElem_toList, Array.getElem_extract, List.getElem_map]
    have hx : l.getD i 0 = l[i] := by simp [List.getD, hi]
    have hb := hl l[i] (List.getElem_mem hi)
    apply UInt8.toNat_inj.1
    have e1 : ((s.data[p + i]'g1).toNat : Int) = l[i] := by rw [← hx]; exact g2
    rw [UInt8.toNat_ofNat']
    omega
end NumsR
end Go.Proofs.YtaedolophhcjjaaDoor
namespace Go.Proofs.YtaedolophhcjjaaDoor
open Go.RowKit
set_option linter.unusedVariables false
namespace NumsR
open GetR NumR
theorem rd_bd (s : ByteArray) (p : Nat) : ∀ f i u v n, i + f = 10 → u < 2 ^ (7 * i) → rd s p f i u = (0, v, n) → p + n ≤ s.size ∧ v < 18446744073709551616
  | 0, i, u, v, n, _, _, h => by simp [rd] at h
  | f + 1, i, u, v, n, hf, hu, h => by
    rw [rd] at h
    split at h
    · next hp =>
      split at h
      · simp at h
      · next h9 =>
        split at h
        · split at h
          · simp at h
          · simp only [Prod.mk.injEq, true_and] at h
            obtain ⟨rfl, rfl⟩ := h
            refine ⟨by omega, ?_⟩
            have hc : s[p + i].toNat % 128 ≤ 127 := by omega
            by_cases e : i = 9
            · subst e
              have h1 : u < 9223372036854775808 := hu
              have h2 : s[p + 9].toNat % 128 * 2 ^ (7 * 9) ≤ 1 * 9223372036854775808 := Nat.mul_le_mul (by omega) (Nat.le_refl _)
              omega
            · have := grow7 hu hc
              have := pow7 (show i + 1 ≤ 9 by omega)
              omega
        · exact rd_bd s p f _ _ v n (by omega) (grow7 hu (by omega)) h
    · simp at h
theorem unz_bd {u : Nat} (h : u < 18446744073709551616) : -9223372036854775808 ≤ unz u ∧ unz u ≤ 9223372036854775807 := by
  unfold unz; split <;> omega
theorem digs_bd (v : Nat) : ∀ x ∈ digs v, 0 ≤ x ∧ x < 256 := by
  induction v using Nat.strongRecOn with
  | _ v ih =>
    by_cases h : v < 128
    · rw [digs_last h]; intro x hx; simp at hx; omega
    · rw [digs_more (by omega)]
      intro x hx
      rcases List.mem_cons.1 hx with rfl | hx
      · omega
      · exact ih (v / 128) (by omega) x hx
/-- What is read as a number: it, and the place behind it. -/
def numAt (s : ByteArray) (p : Nat) : Option (Int × Nat) := if (rd s p 10 0 0).1 = 0 then some (unz (rd s p 10 0 0).2.1, p + (rd s p 10 0 0).2.2) else none
def I64 (n : Int) : Prop := -9223372036854775808 ≤ n ∧ n ≤ 9223372036854775807
theorem numAt_back {s : ByteArray} {p : Nat} {n : Int} {q : Nat} (h : numAt s p = some (n, q)) : I64 n ∧ p < q ∧ q ≤ s.size ∧ s.extract p q = numB n := by
  unfold numAt at h
  split at h
  · rename_i h0
    obtain ⟨U, k, hr⟩ : ∃ U k, rd s p 10 0 0 = (0, U, k) := ⟨(rd s p 10 0 0).2.1, (rd s p 10 0 0).2.2, Prod.ext h0 rfl⟩
    rw [hr] at h
    simp only [Option.some.injEq, Prod.mk.injEq] at h
    obtain ⟨rfl, rfl⟩ := h
    obtain ⟨b1, b2⟩ := rd_bd s p 10 0 0 U k rfl (by simp) hr
    obtain ⟨v, h1, h2, h3, _⟩ := rd_back s p 10 0 0 U k hr
    simp only [Nat.mul_zero, Nat.pow_zero, Nat.mul_one, Nat.zero_add] at h1 h2
    subst h1 h2
    have hd := digs_pos U
    refine ⟨unz_bd b2, by omega, b1, ?_⟩
    have := at_extract s p (digs U) (digs_bd U) h3
    rw [this]
    unfold numB
    rw [fold_unz b2]
  · simp at h
theorem at_of (s : ByteArray) (p : Nat) (l : List Int) (hl : ∀ x ∈ l, 0 ≤ x ∧ x < 256) (hs : p + l.length ≤ s.size) (h : s.extract p (p + l.length) = strOfNums l) : At s p l := by
  intro k hk
  refine ⟨by omega, ?_⟩
  have e := congrArg (fun b : ByteArray => b.data.toList[k]?) h
  simp only [strOfNums_data] at e
  have hsz : s.data.size = s.size := rfl
  rw [List.getElem?_eq_getElem (by simp [ByteArray.data_extract]; omega), List.getElem?_eq_getElem (by simpa using hk)] at e
  simp only [ByteArray.data_extract, Array.getElem_toList, Array.getElem_extract, List.getElem_map, Option.some.injEq] at e
  have hx : l.getD k 0 = l[k] := by simp [List.getD, hk]
  have hb := hl l[k] (List.getElem_mem hk)
  have e2 : (s[p + k]'(by omega)).toNat = (l[k]).toNat := by
    have e3 : s[p + k]'(by omega) = s.data[p + k]'(by omega) := rfl
    rw [e3, e, UInt8.toNat_ofNat']
    omega
  rw [hx, e2]
  omega
theorem numB_len (n : Int) : (numB n).size = (digs (foldN n).toNat).length := strOfNums_size _
theorem numAt_put {s : ByteArray} {p : Nat} {n : Int} (hn : I64 n) (hs : p + (numB n).size ≤ s.size) (h : s.extract p (p + (numB n).size) = numB n) : numAt s p = some (n, p + (numB n).size) := by
  have hz := numB_size hn
  rw [numB_len] at hs h hz
  have hb := fold_bd hn
  have hA := at_of s p _ (digs_bd _) hs h
  have hr := rd_digs s p 10 (foldN n).toNat 0 0 hA hz rfl (fun h => absurd h (by omega)) (by simp; omega)
  simp only [Nat.mul_zero, Nat.pow_zero, Nat.mul_one, Nat.zero_add] at hr
  unfold numAt
  rw [hr, if_pos rfl, numB_len, unz_fold hn]
end NumsR
end Go.Proofs.YtaedolophhcjjaaDoor
namespace Go.Proofs.YtaedolophhcjjaaDoor
open Go.RowKit
namespace EvtR
open NumR (numB)
/-- A text's bytes. -/
def txtB (t : ByteArray) : ByteArray := numB t.size ++ t
end EvtR
end Go.Proofs.YtaedolophhcjjaaDoor
namespace Go.Proofs.YtaedolophhcjjaaDoor
open Go.RowKit
set_option linter.unusedVariables false
namespace EvtR
open NumsR NumR
theorem cut_two (s : ByteArray) (a b c : Nat) (h1 : a ≤ b) (h2 : b ≤ c) : s.extract a c = s.extract a b ++ s.extract b c := by
  apply ByteArray.ext
  simp only [ByteArray.data_extract, ByteArray.data_append]
  rw [Array.extract_append_extract, Nat.min_eq_left h1, Nat.max_eq_right h2]
theorem cut_size (s : ByteArray) (a b : Nat) (h : b ≤ s.size) : (s.extract a b).size = b - a := by rw [ByteArray.size_extract]; omega
/-- What two texts one behind the other are. -/
theorem cut_split {s x y : ByteArray} {p : Nat} (hs : p + (x.size + y.size) ≤ s.size) (h : s.extract p (p + (x.size + y.size)) = x ++ y) : s.extract p (p + x.size) = x ∧ s.extract (p + x.size) (p + x.size + y.size) = y := by
  rw [cut_two s p (p + x.size) (p + (x.size + y.size)) (by omega) (by omega)] at h
  have e := congrArg ByteArray.data h
  simp only [ByteArray.data_append] at e
  have hl : (s.extract p (p + x.size)).data.size = x.data.size := by
    have := cut_size s p (p + x.size) (by omega)
    have e1 : (s.extract p (p + x.size)).data.size = (s.extract p (p + x.size)).size := rfl
    have e2 : x.data.size = x.size := rfl
    omega
  obtain ⟨e1, e2⟩ := Array.append_inj e hl
  refine ⟨ByteArray.ext e1, ?_⟩
  rw [Nat.add_assoc]
  exact ByteArray.ext e2
/-- What is read as a text: it, and the place behind it. -/
def txtAt (s : ByteArray) (p : Nat) : Option (ByteArray × Nat) := (numAt s p).bind fun x => if 0 ≤ x.1 ∧ x.1 ≤ 8000 ∧ x.2 + x.1.toNat ≤ s.size then some (s.extract x.2 (x.2 + x.1.toNat), x.2 + x.1.toNat) else none
theorem txtAt_back {s : ByteArray} {p : Nat} {t : ByteArray} {q : Nat} (h : txtAt s p = some (t, q)) : t.size ≤ 8000 ∧ p < q ∧ q ≤ s.size ∧ s.extract p q = txtB t := by
  unfold txtAt at h
  cases hn : numAt s p with
  | none => rw [hn] at h; simp at h
  | some x =>
    obtain ⟨n, r⟩ := x
    rw [hn] at h
    simp only [Option.bind_some] at h
    split at h
    · rename_i hc
      obtain ⟨c1, c2, c3⟩ := hc
      simp only [Option.some.injEq, Prod.mk.injEq] at h
      obtain ⟨rfl, rfl⟩ := h
      obtain ⟨_, b1, b2, b3⟩ := numAt_back hn
      have hz : (s.extract r (r + n.toNat)).size = n.toNat := by rw [cut_size s _ _ c3]; omega
      refine ⟨by omega, by omega, c3, ?_⟩
      unfold txtB
      rw [hz, cut_two s p r (r + n.toNat) (by omega) (by omega), b3, show ((n.toNat : Nat) : Int) = n by omega]
    · simp at h
theorem txtAt_put {s : ByteArray} {p : Nat} {t : ByteArray} (ht : t.size ≤ 8000) (hs : p + (txtB t).size ≤ s.size) (h : s.extract p (p + (txtB t).size) = txtB t) : txtAt s p = some (t, p + (txtB t).size) := by
  unfold txtB at hs h ⊢
  rw [ByteArray.size_append] at hs h ⊢
  obtain ⟨h1, h2⟩ := cut_split hs h
  unfold txtAt
  rw [numAt_put ⟨by omega, by omega⟩ (by omega) h1]
  simp only [Option.bind_some]
  rw [if_pos ⟨by omega, by omega, by rw [Int.toNat_natCast]; omega⟩, Int.toNat_natCast, h2]
  congr 2
  omega
end EvtR
end Go.Proofs.YtaedolophhcjjaaDoor
namespace Go.Proofs.YtaedolophhcjjaaDoor
open Go.ChangeShapes Go.WideShapes Go.ChangeAt Go.RowKit
set_option linter.unusedVariables false
namespace GetR
theorem read_got {s : ByteArray} {p : Nat} (hs : s.size ≤ 8000) (hm : (p : Int) ≤ 9223372036854775807) {u n : Nat} (h : rd s p 10 0 0 = (0, u, n)) (w : World) :
    Calls Tryd.prog 74 #[.string s, .int .i64 p] w fun e w' => e = .returned (.tuple #[.int .i64 (unz u), .int .i64 ((p : Int) + n), .nilIface]) ∧ Below w.heap.size w w' := by
  refine (read_any s p w hs hm).mono fun e w' ht => ?_
  rw [h] at ht
  exact ⟨ht.1 rfl, ht.2.2⟩
theorem read_bad {s : ByteArray} {p : Nat} (hs : s.size ≤ 8000) (hm : (p : Int) ≤ 9223372036854775807) {c : Nat} (hc : c ≠ 0) (h : rd s p 10 0 0 = (c, 0, 0)) (w : World) :
    Calls Tryd.prog 74 #[.string s, .int .i64 p] w fun e w' => e = .returned (.tuple #[.int .i64 0, .int .i64 0, .iface 110 (.agg #[.int .i64 c])]) ∧ Below w.heap.size w w' := by
  refine (read_any s p w hs hm).mono fun e w' ht => ?_
  rw [h] at ht
  exact ⟨ht.2.1 hc, ht.2.2⟩
/-- Either a number was got, or a code alone. -/
theorem rd_two (s : ByteArray) (p : Nat) : ∀ f i u, (∃ v n, rd s p f i u = (0, v, n)) ∨ ∃ c, c ≠ 0 ∧ rd s p f i u = (c, 0, 0)
  | 0, i, u => .inr ⟨3, by omega, rfl⟩
  | f + 1, i, u => by
    rw [rd]
    split
    · split
      · exact .inr ⟨3, by omega, rfl⟩
      · split
        · split
          · exact .inr ⟨3, by omega, rfl⟩
          · exact .inl ⟨_, _, rfl⟩
        · exact rd_two s p f _ _
    · exact .inr ⟨4, by omega, rfl⟩
theorem specT_bad (s : ByteArray) (x a b c : Int) (w : World) (hc : (c == 0) = false)
    (hs : ∀ w, Calls Tryd.prog 67 #[.string s, .int .i64 x] w fun e w' => e = .returned (.agg #[.int .i64 a, .int .i64 b, .int .i64 c]) ∧ Below w.heap.size w w') :
    Calls Tryd.prog 66 #[.string s, .int .i64 x] w fun e w' => e = .returned (.agg #[.string ⟨#[]⟩, .int .i64 0, .int .i64 c]) ∧ Below w.heap.size w w' := by
  have hcn : (c != 0) = true := by rw [bne, hc]; rfl
  go_enter Tryd.func66, Tryd.ntmps66
  go_wp2_with (go_at_call 67; refine (hs _).mono ?_; rintro e w1 ⟨rfl, hb1⟩; obtain ⟨hc1, hf1⟩ := bcell hb1; have hz1 : w.heap.size < w1.heap.size := by (have hz := hb1.size; simp at hz; omega))
  refine bodyPost_ret (v := .agg #[.string ⟨#[]⟩, .int .i64 0, .int .i64 c]) (by simp [results, Tryd.results66, go_sem, hc1, hz1]) rfl ⟨rfl, ?_⟩
  exact ((((bel_alloc hb1).setCell (by simp) _).setCell (by simp) _).setCell (by simp) _).alloc (by simp; omega) _
theorem specT_form (s : ByteArray) (x a b : Int) (w : World) (ha : a < 0 ∨ 8000 < a)
    (hs : ∀ w, Calls Tryd.prog 67 #[.string s, .int .i64 x] w fun e w' => e = .returned (.agg #[.int .i64 a, .int .i64 b, .int .i64 0]) ∧ Below w.heap.size w w') :
    Calls Tryd.prog 66 #[.string s, .int .i64 x] w fun e w' => e = .returned (.agg #[.string ⟨#[]⟩, .int .i64 0, .int .i64 3]) ∧ Below w.heap.size w w' := by
  have ha' : (a < 0) ∨ (¬ a < 0 ∧ 8000 < a) := by omega
  clear ha
  rcases ha' with h1 | ⟨h1, h2⟩
  all_goals
    go_enter Tryd.func66, Tryd.ntmps66
    go_wp2_with (go_at_call 67; refine (hs _).mono ?_; rintro e w1 ⟨rfl, hb1⟩; obtain ⟨hc1, hf1⟩ := bcell hb1; have hz1 : w.heap.size < w1.heap.size := by (have hz := hb1.size; simp at hz; omega))
    refine bodyPost_ret (v := .agg #[.string ⟨#[]⟩, .int .i64 0, .int .i64 3]) (by simp [results, Tryd.results66, go_sem, hc1, hz1]) rfl ⟨rfl, ?_⟩
    exact ((((bel_alloc hb1).setCell (by simp) _).setCell (by simp) _).setCell (by simp) _).alloc (by simp; omega) _
theorem specT_short (s : ByteArray) (x : Int) (m q : Nat) (w : World) (hm : m ≤ 8000) (hq : q ≤ s.size) (hs8 : s.size ≤ 8000) (hsh : s.size < q + m)
    (hs : ∀ w, Calls Tryd.prog 67 #[.string s, .int .i64 x] w fun e w' => e = .returned (.agg #[.int .i64 m, .int .i64 q, .int .i64 0]) ∧ Below w.heap.size w w') :
    Calls Tryd.prog 66 #[.string s, .int .i64 x] w fun e w' => e = .returned (.agg #[.string ⟨#[]⟩, .int .i64 0, .int .i64 4]) ∧ Below w.heap.size w w' := by
  have h1 : (s.size : Int) - m < q := by omega
  go_enter Tryd.func66, Tryd.ntmps66
  go_wp2_with (go_at_call 67; refine (hs _).mono ?_; rintro e w1 ⟨rfl, hb1⟩; obtain ⟨hc1, hf1⟩ := bcell hb1; have hz1 : w.heap.size < w1.heap.size := by (have hz := hb1.size; simp at hz; omega))
  refine bodyPost_ret (v := .agg #[.string ⟨#[]⟩, .int .i64 0, .int .i64 4]) (by simp [results, Tryd.results66, go_sem, hc1, hz1]) rfl ⟨rfl, ?_⟩
  exact ((((bel_alloc hb1).setCell (by simp) _).setCell (by simp) _).setCell (by simp) _).alloc (by simp; omega) _
set_option maxHeartbeats 2000000 in
theorem specT_got (s : ByteArray) (x : Int) (m q : Nat) (w : World) (hm : m ≤ 8000) (hs8 : s.size ≤ 8000) (hin : q + m ≤ s.size)
    (hs : ∀ w, Calls Tryd.prog 67 #[.string s, .int .i64 x] w fun e w' => e = .returned (.agg #[.int .i64 m, .int .i64 q, .int .i64 0]) ∧ Below w.heap.size w w') :
    Calls Tryd.prog 66 #[.string s, .int .i64 x] w fun e w' => e = .returned (.agg #[.string (s.extract q (q + m)), .int .i64 ((q : Int) + m), .int .i64 0]) ∧ Below w.heap.size w w' := by
  have h1 : ¬ (s.size : Int) - m < q := by omega
  have hwr : IntKind.i64.wrap ((q : Int) + m) = (q : Int) + m := by rw [IntKind.wrap_i64]; omega
  have hsl : ∀ wx, (Instr.slice 9 (.string s) (some (.int .i64 (q : Int))) (some (.int .i64 ((q : Int) + m))) none).run Tryd.prog wx = .ok (.string (s.extract q (q + m))) wx := by
    intro wx
    have := run_slice_string (P := Tryd.prog) (w := wx) 9 s .i64 .i64 (q : Int) ((q : Int) + m) Tryd.underlying9 (by omega) (by omega) (by omega)
    rw [this]
    congr 3
  go_enter Tryd.func66, Tryd.ntmps66
  go_wp2_with (go_at_call 67; refine (hs _).mono ?_; rintro e w1 ⟨rfl, hb1⟩; obtain ⟨hc1, hf1⟩ := bcell hb1; have hz1 : w.heap.size < w1.heap.size := by (have hz := hb1.size; simp at hz; omega))
  go_region
  go_wp2
  refine bodyPost_ret (v := .agg #[.string (s.extract q (q + m)), .int .i64 ((q : Int) + m), .int .i64 0]) (by simp [results, Tryd.results66, go_sem, hc1, hz1]) rfl ⟨rfl, ?_⟩
  exact (((((bel_alloc hb1).setCell (by simp) _).setCell (by simp) _).setCell (by simp) _).alloc (by simp; omega) _).drew
/-- The program's reading of a text. -/
theorem readT_bad (s : ByteArray) (x c : Int) (w : World)
    (hr : ∀ w, Calls Tryd.prog 74 #[.string s, .int .i64 x] w fun e w' => e = .returned (.tuple #[.int .i64 0, .int .i64 0, .iface 110 (.agg #[.int .i64 c])]) ∧ Below w.heap.size w w') :
    Calls Tryd.prog 73 #[.string s, .int .i64 x] w fun e w' => e = .returned (.tuple #[.string ⟨#[]⟩, .int .i64 0, .iface 110 (.agg #[.int .i64 c])]) ∧ Below w.heap.size w w' := by
  go_enter Tryd.func73, Tryd.ntmps73
  go_wp2_with (go_at_call 74; refine (hr _).mono ?_; rintro e w1 ⟨rfl, hb1⟩)
  go_ret3
  exact ⟨rfl, hb1⟩
theorem readT_form (s : ByteArray) (x a b : Int) (w : World) (ha : a < 0 ∨ 8000 < a)
    (hr : ∀ w, Calls Tryd.prog 74 #[.string s, .int .i64 x] w fun e w' => e = .returned (.tuple #[.int .i64 a, .int .i64 b, .nilIface]) ∧ Below w.heap.size w w') :
    Calls Tryd.prog 73 #[.string s, .int .i64 x] w fun e w' => e = .returned (.tuple #[.string ⟨#[]⟩, .int .i64 0, .iface 110 (.agg #[.int .i64 3])]) ∧ Below w.heap.size w w' := by
  have ha' : (a < 0) ∨ (¬ a < 0 ∧ 8000 < a) := by omega
  clear ha
  rcases ha' with h1 | ⟨h1, h2⟩
  all_goals
    go_enter Tryd.func73, Tryd.ntmps73
    go_wp2_with (go_at_call 74; refine (hr _).mono ?_; rintro e w1 ⟨rfl, hb1⟩)
    go_ret3
    exact ⟨rfl, hb1⟩
theorem readT_short (s : ByteArray) (x : Int) (m q : Nat) (w : World) (hm : m ≤ 8000) (hq : q ≤ s.size) (hs8 : s.size ≤ 8000) (hsh : s.size < q + m)
    (hr : ∀ w, Calls Tryd.prog 74 #[.string s, .int .i64 x] w fun e w' => e = .returned (.tuple #[.int .i64 m, .int .i64 q, .nilIface]) ∧ Below w.heap.size w w') :
    Calls Tryd.prog 73 #[.string s, .int .i64 x] w fun e w' => e = .returned (.tuple #[.string ⟨#[]⟩, .int .i64 0, .iface 110 (.agg #[.int .i64 4])]) ∧ Below w.heap.size w w' := by
  have h1 : (s.size : Int) - q < m := by omega
  go_enter Tryd.func73, Tryd.ntmps73
  go_wp2_with (go_at_call 74; refine (hr _).mono ?_; rintro e w1 ⟨rfl, hb1⟩)
  go_ret3
  exact ⟨rfl, hb1⟩
theorem readT_got (s : ByteArray) (x : Int) (m q : Nat) (w : World) (hm : m ≤ 8000) (hs8 : s.size ≤ 8000) (hin : q + m ≤ s.size)
    (hr : ∀ w, Calls Tryd.prog 74 #[.string s, .int .i64 x] w fun e w' => e = .returned (.tuple #[.int .i64 m, .int .i64 q, .nilIface]) ∧ Below w.heap.size w w') :
    Calls Tryd.prog 73 #[.string s, .int .i64 x] w fun e w' => e = .returned (.tuple #[.string (s.extract q (q + m)), .int .i64 ((q : Int) + m), .nilIface]) ∧ Below w.heap.size w w' := by
  have h1 : ¬ (s.size : Int) - q < m := by omega
  have hsl : ∀ wx, (Instr.slice 9 (.string s) (some (.int .i64 (q : Int))) (some (.int .i64 ((q : Int) + m))) none).run Tryd.prog wx = .ok (.string (s.extract q (q + m))) wx := by
    intro wx
    have := run_slice_string (P := Tryd.prog) (w := wx) 9 s .i64 .i64 (q : Int) ((q : Int) + m) Tryd.underlying9 (by omega) (by omega) (by omega)
    rw [this]
    congr 3
  go_enter Tryd.func73, Tryd.ntmps73
  go_wp2_with (first | (go_at_call 74; refine (hr _).mono ?_; rintro e w1 ⟨rfl, hb1⟩) | (go_at_call 28; refine (JoinR.join1 _ _ (by simp; omega)).mono ?_; rintro e w2 ⟨rfl, hb2⟩))
  go_ret3
  exact ⟨rfl, hb1.trans (hb2.mono hb1.size)⟩
end GetR
namespace EvtR
open GetR NumsR
/-- A fault of the program's. -/
def flt (c : Int) : Value := .iface 110 (.agg #[.int .i64 c])
theorem num_impl (s : ByteArray) (p : Nat) (hs : s.size ≤ 8000) (hp : p ≤ 8000) : (∃ n q, numAt s p = some (n, q) ∧ I64 n ∧ q ≤ 8000 ∧ ∀ w, Calls Tryd.prog 74 #[.string s, .int .i64 p] w fun e w' => e = .returned (.tuple #[.int .i64 n, .int .i64 (q : Nat), .nilIface]) ∧ Below w.heap.size w w') ∨ (numAt s p = none ∧ ∃ c : Int, ∀ w, Calls Tryd.prog 74 #[.string s, .int .i64 p] w fun e w' => e = .returned (.tuple #[.int .i64 0, .int .i64 0, flt c]) ∧ Below w.heap.size w w') := by
  rcases rd_two s p 10 0 0 with ⟨u, n, h⟩ | ⟨c, hc, h⟩
  · have e : numAt s p = some (unz u, p + n) := by unfold numAt; rw [h]; rfl
    obtain ⟨b1, b2, b3, b4⟩ := numAt_back e
    refine .inl ⟨_, _, e, b1, by omega, fun w => ?_⟩
    have := read_got hs (show (p : Int) ≤ 9223372036854775807 by omega) h w
    rw [show ((p : Int) + (n : Int)) = ((p + n : Nat) : Int) by omega] at this
    exact this
  · exact .inr ⟨by unfold numAt; rw [h, if_neg hc], c, fun w => read_bad hs (by omega) hc h w⟩
theorem num_spec (s : ByteArray) (p : Nat) (hs : s.size ≤ 8000) (hp : p ≤ 8000) : (∃ n q, numAt s p = some (n, q) ∧ I64 n ∧ q ≤ 8000 ∧ ∀ w, Calls Tryd.prog 67 #[.string s, .int .i64 p] w fun e w' => e = .returned (.agg #[.int .i64 n, .int .i64 (q : Nat), .int .i64 0]) ∧ Below w.heap.size w w') ∨ (numAt s p = none ∧ ∃ c : Int, (c == 0) = false ∧ ∀ w, Calls Tryd.prog 67 #[.string s, .int .i64 p] w fun e w' => e = .returned (.agg #[.int .i64 0, .int .i64 0, .int .i64 c]) ∧ Below w.heap.size w w') := by
  rcases rd_two s p 10 0 0 with ⟨u, n, h⟩ | ⟨c, hc, h⟩
  · have e : numAt s p = some (unz u, p + n) := by unfold numAt; rw [h]; rfl
    obtain ⟨b1, b2, b3, b4⟩ := numAt_back e
    refine .inl ⟨_, _, e, b1, by omega, fun w => ?_⟩
    have := GetR.spec_any s p w hs (by omega)
    rw [outN_got h, show ((p : Int) + (n : Int)) = ((p + n : Nat) : Int) by omega] at this
    exact this
  · refine .inr ⟨by unfold numAt; rw [h, if_neg hc], c, by simp; omega, fun w => ?_⟩
    have := GetR.spec_any s p w hs (by omega)
    rw [outN_bad h hc] at this
    exact this
theorem txt_impl (s : ByteArray) (p : Nat) (hs : s.size ≤ 8000) (hp : p ≤ 8000) : (∃ t q, txtAt s p = some (t, q) ∧ t.size ≤ 8000 ∧ q ≤ 8000 ∧ ∀ w, Calls Tryd.prog 73 #[.string s, .int .i64 p] w fun e w' => e = .returned (.tuple #[.string t, .int .i64 (q : Nat), .nilIface]) ∧ Below w.heap.size w w') ∨ (txtAt s p = none ∧ ∃ c : Int, ∀ w, Calls Tryd.prog 73 #[.string s, .int .i64 p] w fun e w' => e = .returned (.tuple #[.string ⟨#[]⟩, .int .i64 0, flt c]) ∧ Below w.heap.size w w') := by
  rcases num_impl s p hs hp with ⟨n, q, h, hn, hq, hc⟩ | ⟨h, c, hc⟩
  · obtain ⟨_, _, b3, _⟩ := numAt_back h
    by_cases h1 : n < 0 ∨ 8000 < n
    · exact .inr ⟨by unfold txtAt; rw [h]; simp only [Option.bind_some]; rw [if_neg (by omega)], 3, fun w => readT_form s p n q w h1 hc⟩
    · obtain ⟨m, rfl⟩ : ∃ m : Nat, n = m := ⟨n.toNat, by omega⟩
      by_cases h2 : s.size < q + m
      · exact .inr ⟨by unfold txtAt; rw [h]; simp only [Option.bind_some]; rw [if_neg (by rw [Int.toNat_natCast]; omega)], 4, fun w => readT_short s p m q w (by omega) b3 hs h2 hc⟩
      · have e : txtAt s p = some (s.extract q (q + m), q + m) := by unfold txtAt; rw [h]; simp only [Option.bind_some]; rw [if_pos ⟨by omega, by omega, by rw [Int.toNat_natCast]; omega⟩, Int.toNat_natCast]
        refine .inl ⟨_, _, e, (txtAt_back e).1, by omega, fun w => ?_⟩
        have := readT_got s p m q w (by omega) hs (by omega) hc
        rw [show ((q : Int) + (m : Int)) = ((q + m : Nat) : Int) by omega] at this
        exact this
  · exact .inr ⟨by unfold txtAt; rw [h]; rfl, c, fun w => readT_bad s p c w hc⟩
theorem txt_spec (s : ByteArray) (p : Nat) (hs : s.size ≤ 8000) (hp : p ≤ 8000) : (∃ t q, txtAt s p = some (t, q) ∧ t.size ≤ 8000 ∧ q ≤ 8000 ∧ ∀ w, Calls Tryd.prog 66 #[.string s, .int .i64 p] w fun e w' => e = .returned (.agg #[.string t, .int .i64 (q : Nat), .int .i64 0]) ∧ Below w.heap.size w w') ∨ (txtAt s p = none ∧ ∃ c : Int, (c == 0) = false ∧ ∀ w, Calls Tryd.prog 66 #[.string s, .int .i64 p] w fun e w' => e = .returned (.agg #[.string ⟨#[]⟩, .int .i64 0, .int .i64 c]) ∧ Below w.heap.size w w') := by
  rcases num_spec s p hs hp with ⟨n, q, h, hn, hq, hc⟩ | ⟨h, c, hc0, hc⟩
  · obtain ⟨_, _, b3, _⟩ := numAt_back h
    by_cases h1 : n < 0 ∨ 8000 < n
    · exact .inr ⟨by unfold txtAt; rw [h]; simp only [Option.bind_some]; rw [if_neg (by omega)], 3, by decide, fun w => specT_form s p n q w h1 hc⟩
    · obtain ⟨m, rfl⟩ : ∃ m : Nat, n = m := ⟨n.toNat, by omega⟩
      by_cases h2 : s.size < q + m
      · exact .inr ⟨by unfold txtAt; rw [h]; simp only [Option.bind_some]; rw [if_neg (by rw [Int.toNat_natCast]; omega)], 4, by decide, fun w => specT_short s p m q w (by omega) b3 hs h2 hc⟩
      · have e : txtAt s p = some (s.extract q (q + m), q + m) := by unfold txtAt; rw [h]; simp only [Option.bind_some]; rw [if_pos ⟨by omega, by omega, by rw [Int.toNat_natCast]; omega⟩, Int.toNat_natCast]
        refine .inl ⟨_, _, e, (txtAt_back e).1, by omega, fun w => ?_⟩
        have := specT_got s p m q w (by omega) hs (by omega) hc
        rw [show ((q : Int) + (m : Int)) = ((q + m : Nat) : Int) by omega] at this
        exact this
  · exact .inr ⟨by unfold txtAt; rw [h]; rfl, c, hc0, fun w => specT_bad s p 0 0 c w hc0 hc⟩
end EvtR
end Go.Proofs.YtaedolophhcjjaaDoor
namespace Go.Proofs.YtaedolophhcjjaaDoor
open Go.ChangeShapes Go.WideShapes Go.ChangeAt Go.RowKit
namespace EvtR
theorem rset (w : World) (b o : Nat) (v : Value) : w.grownBy (w.setCell ⟨b, o, none⟩ v) (some b) := by
  refine ⟨rfl, rfl, rfl, by simp, fun k hk hne => ?_⟩
  simp only [World.setCell]
  rw [Array.getElem?_modify, if_neg (fun e => hne (by rw [e]))]
theorem rgrown {w w' : World} (hb : Below w.heap.size w w') (row : Option Nat) : w.grownBy w' row := ⟨hb.os, hb.tape, hb.output, hb.size, fun k hk _ => hb.block k hk⟩
theorem gtrans {w w1 w2 : World} {g : Nat} (h1 : w.grownBy w1 (some g)) (h2 : w1.grownBy w2 (some g)) : w.grownBy w2 (some g) :=
  ⟨h2.os.trans h1.os, h2.tape.trans h1.tape, h2.output.trans h1.output, Nat.le_trans h1.size h2.size, fun k hk hne => (h2.block k (by have := h1.size; omega) hne).trans (h1.block k hk hne)⟩
theorem undrew {w w1 : World} {r : Option Nat} (h : w.drew.grownBy w1 r) : w.grownBy w1 r := ⟨h.os, h.tape, h.output, h.size, h.block⟩
end EvtR
end Go.Proofs.YtaedolophhcjjaaDoor
namespace Go.Proofs.YtaedolophhcjjaaDoor
open Go.ChangeShapes Go.WideShapes Go.ChangeAt Go.RowKit
set_option linter.unusedVariables false
namespace EvtR
open GetR NumsR
/-- The reader's block. -/
def RdB (g : Nat) (s : ByteArray) (p : Nat) (f : Value) (w : World) : Prop := g < w.heap.size ∧ w.cell? ⟨g, 0, none⟩ = some (.string s) ∧ w.cell? ⟨g, 1, none⟩ = some (.int .i64 p) ∧ w.cell? ⟨g, 2, none⟩ = some f ∧ w.frozen? ⟨g, 0, none⟩ = false ∧ w.frozen? ⟨g, 1, none⟩ = false ∧ w.frozen? ⟨g, 2, none⟩ = false
theorem RdB.below {g : Nat} {s : ByteArray} {p : Nat} {f : Value} {w w' : World} (h : RdB g s p f w) (hb : Below w.heap.size w w') : RdB g s p f w' := by
  obtain ⟨hl, c0, c1, c2, f0, f1, f2⟩ := h
  have c := fun o => hb.cell (p := ⟨g, o, none⟩) hl
  have z := fun o => hb.frozen (p := ⟨g, o, none⟩) hl
  exact ⟨by have := hb.size; omega, (c 0).trans c0, (c 1).trans c1, (c 2).trans c2, (z 0).trans f0, (z 1).trans f1, (z 2).trans f2⟩
theorem RdB.set {g : Nat} {s : ByteArray} {p : Nat} {f : Value} {w : World} (h : RdB g s p f w) (q : Nat) (f' : Value) : RdB g s q f' ((w.setCell ⟨g, 1, none⟩ (.int .i64 q)).setCell ⟨g, 2, none⟩ f') := by
  obtain ⟨hl, c0, c1, c2, f0, f1, f2⟩ := h
  exact ⟨by simpa using hl, by simp [go_sem, c0], by simp [go_sem, c1], by simp [go_sem, c2], by simp [go_sem, f0], by simp [go_sem, f1], by simp [go_sem, f2]⟩
set_option maxHeartbeats 4000000 in
theorem num_got (g : Nat) (s : ByteArray) (p q : Nat) (n : Int) (w : World) (hR : RdB g s p .nilIface w)
    (hr : ∀ w, Calls Tryd.prog 74 #[.string s, .int .i64 p] w fun e w' => e = .returned (.tuple #[.int .i64 n, .int .i64 (q : Nat), .nilIface]) ∧ Below w.heap.size w w') :
    Calls Tryd.prog 62 #[.pointer (some ⟨g, 0, none⟩)] w fun e w' => e = .returned (.int .i64 n) ∧ RdB g s q (.nilIface) w' ∧ w.grownBy w' (some g) := by
  have HR := hid_intro hR
  have HH := hid_intro hr
  obtain ⟨hl, c0, c1, c2, f0, f1, f2⟩ := hR
  clear hr
  go_enter Tryd.func62, Tryd.ntmps62
  go_wp2_with fail
  go_region_with (go_at_call 74; refine (HH.out _).mono ?_; rintro e w1 ⟨rfl, hb⟩; have HB := hid_intro hb; have HR1 := hid_intro (RdB.below (show RdB g s p .nilIface w.drew from HR.out) hb); obtain ⟨hl1, d0, d1, d2, e0, e1, e2⟩ := HR1.out; clear hb)
  all_goals (
    go_wp2_with fail
    go_ret
    exact ⟨rfl, HR1.out.set q _, gtrans (gtrans (undrew (rgrown HB.out _)) (rset _ g 1 _)) (rset _ g 2 _)⟩)
set_option maxHeartbeats 4000000 in
theorem num_bad (g : Nat) (s : ByteArray) (p q : Nat) (c : Int) (w : World) (hR : RdB g s p .nilIface w)
    (hr : ∀ w, Calls Tryd.prog 74 #[.string s, .int .i64 p] w fun e w' => e = .returned (.tuple #[.int .i64 0, .int .i64 (q : Nat), flt c]) ∧ Below w.heap.size w w') :
    Calls Tryd.prog 62 #[.pointer (some ⟨g, 0, none⟩)] w fun e w' => e = .returned (.int .i64 0) ∧ RdB g s q (flt c) w' ∧ w.grownBy w' (some g) := by
  unfold flt at *
  have HR := hid_intro hR
  have HH := hid_intro hr
  obtain ⟨hl, c0, c1, c2, f0, f1, f2⟩ := hR
  clear hr
  go_enter Tryd.func62, Tryd.ntmps62
  go_wp2_with fail
  go_region_with (go_at_call 74; refine (HH.out _).mono ?_; rintro e w1 ⟨rfl, hb⟩; have HB := hid_intro hb; have HR1 := hid_intro (RdB.below (show RdB g s p .nilIface w.drew from HR.out) hb); obtain ⟨hl1, d0, d1, d2, e0, e1, e2⟩ := HR1.out; clear hb)
  all_goals (
    go_wp2_with fail
    go_ret
    exact ⟨rfl, HR1.out.set q _, gtrans (gtrans (undrew (rgrown HB.out _)) (rset _ g 1 _)) (rset _ g 2 _)⟩)
theorem num_flt (g : Nat) (s : ByteArray) (p : Nat) (c : Int) (w : World) (hR : RdB g s p (flt c) w) :
    Calls Tryd.prog 62 #[.pointer (some ⟨g, 0, none⟩)] w fun e w' => e = .returned (.int .i64 0) ∧ w' = w := by
  unfold flt at hR
  obtain ⟨hl, c0, c1, c2, f0, f1, f2⟩ := hR
  go_enter Tryd.func62, Tryd.ntmps62
  go_wp2_with fail
  go_ret
  exact ⟨rfl, rfl⟩
set_option maxHeartbeats 4000000 in
theorem word_got (g : Nat) (s : ByteArray) (p q : Nat) (t : ByteArray) (w : World) (hR : RdB g s p .nilIface w)
    (hr : ∀ w, Calls Tryd.prog 73 #[.string s, .int .i64 p] w fun e w' => e = .returned (.tuple #[.string t, .int .i64 (q : Nat), .nilIface]) ∧ Below w.heap.size w w') :
    Calls Tryd.prog 61 #[.pointer (some ⟨g, 0, none⟩)] w fun e w' => e = .returned (.string t) ∧ RdB g s q (.nilIface) w' ∧ w.grownBy w' (some g) := by
  have HR := hid_intro hR
  have HH := hid_intro hr
  obtain ⟨hl, c0, c1, c2, f0, f1, f2⟩ := hR
  clear hr
  go_enter Tryd.func61, Tryd.ntmps61
  go_wp2_with fail
  go_region_with (go_at_call 73; refine (HH.out _).mono ?_; rintro e w1 ⟨rfl, hb⟩; have HB := hid_intro hb; have HR1 := hid_intro (RdB.below (show RdB g s p .nilIface w.drew from HR.out) hb); obtain ⟨hl1, d0, d1, d2, e0, e1, e2⟩ := HR1.out; clear hb)
  all_goals (
    go_wp2_with fail
    go_ret
    exact ⟨rfl, HR1.out.set q _, gtrans (gtrans (undrew (rgrown HB.out _)) (rset _ g 1 _)) (rset _ g 2 _)⟩)
set_option maxHeartbeats 4000000 in
theorem word_bad (g : Nat) (s : ByteArray) (p q : Nat) (c : Int) (w : World) (hR : RdB g s p .nilIface w)
    (hr : ∀ w, Calls Tryd.prog 73 #[.string s, .int .i64 p] w fun e w' => e = .returned (.tuple #[.string ⟨#[]⟩, .int .i64 (q : Nat), flt c]) ∧ Below w.heap.size w w') :
    Calls Tryd.prog 61 #[.pointer (some ⟨g, 0, none⟩)] w fun e w' => e = .returned (.string ⟨#[]⟩) ∧ RdB g s q (flt c) w' ∧ w.grownBy w' (some g) := by
  unfold flt at *
  have HR := hid_intro hR
  have HH := hid_intro hr
  obtain ⟨hl, c0, c1, c2, f0, f1, f2⟩ := hR
  clear hr
  go_enter Tryd.func61, Tryd.ntmps61
  go_wp2_with fail
  go_region_with (go_at_call 73; refine (HH.out _).mono ?_; rintro e w1 ⟨rfl, hb⟩; have HB := hid_intro hb; have HR1 := hid_intro (RdB.below (show RdB g s p .nilIface w.drew from HR.out) hb); obtain ⟨hl1, d0, d1, d2, e0, e1, e2⟩ := HR1.out; clear hb)
  all_goals (
    go_wp2_with fail
    go_ret
    exact ⟨rfl, HR1.out.set q _, gtrans (gtrans (undrew (rgrown HB.out _)) (rset _ g 1 _)) (rset _ g 2 _)⟩)
theorem word_flt (g : Nat) (s : ByteArray) (p : Nat) (c : Int) (w : World) (hR : RdB g s p (flt c) w) :
    Calls Tryd.prog 61 #[.pointer (some ⟨g, 0, none⟩)] w fun e w' => e = .returned (.string ⟨#[]⟩) ∧ w' = w := by
  unfold flt at hR
  obtain ⟨hl, c0, c1, c2, f0, f1, f2⟩ := hR
  go_enter Tryd.func61, Tryd.ntmps61
  go_wp2_with fail
  go_ret
  exact ⟨rfl, rfl⟩
/-- What a read leaves: the reader behind it, with or without a fault. -/
def After (g : Nat) (s : ByteArray) (o : Option Nat) (w : World) : Prop := match o with
  | some p => p ≤ 8000 ∧ RdB g s p .nilIface w
  | none => ∃ p c, RdB g s p (flt c) w
/-- A number read by the reader. -/
theorem rnum (g : Nat) (s : ByteArray) (o : Option Nat) (w : World) (hs : s.size ≤ 8000) (h : After g s o w) :
    Calls Tryd.prog 62 #[.pointer (some ⟨g, 0, none⟩)] w fun e w' => e = .returned (.int .i64 (((o.bind (numAt s)).map (·.1)).getD 0)) ∧ After g s ((o.bind (numAt s)).map (·.2)) w' ∧ w.grownBy w' (some g) := by
  cases o with
  | none =>
    obtain ⟨p, c, h⟩ := h
    exact (num_flt g s p c w h).mono fun e w' ⟨h1, h2⟩ => by subst h2; exact ⟨h1, ⟨p, c, h⟩, ⟨rfl, rfl, rfl, Nat.le_refl _, fun _ _ _ => rfl⟩⟩
  | some p =>
    rcases num_impl s p hs h.1 with ⟨n, q, hn, _, hq, hc⟩ | ⟨hn, c, hc⟩
    · refine (num_got g s p q n w h.2 hc).mono fun e w' ⟨h1, h2, h3⟩ => ?_
      simp only [Option.bind_some, hn]
      exact ⟨h1, ⟨hq, h2⟩, h3⟩
    · refine (num_bad g s p 0 c w h.2 hc).mono fun e w' ⟨h1, h2, h3⟩ => ?_
      simp only [Option.bind_some, hn]
      exact ⟨h1, ⟨0, c, h2⟩, h3⟩
/-- A text read by the reader. -/
theorem rword (g : Nat) (s : ByteArray) (o : Option Nat) (w : World) (hs : s.size ≤ 8000) (h : After g s o w) :
    Calls Tryd.prog 61 #[.pointer (some ⟨g, 0, none⟩)] w fun e w' => e = .returned (.string (((o.bind (txtAt s)).map (·.1)).getD ⟨#[]⟩)) ∧ After g s ((o.bind (txtAt s)).map (·.2)) w' ∧ w.grownBy w' (some g) := by
  cases o with
  | none =>
    obtain ⟨p, c, h⟩ := h
    exact (word_flt g s p c w h).mono fun e w' ⟨h1, h2⟩ => by subst h2; exact ⟨h1, ⟨p, c, h⟩, ⟨rfl, rfl, rfl, Nat.le_refl _, fun _ _ _ => rfl⟩⟩
  | some p =>
    rcases txt_impl s p hs h.1 with ⟨n, q, hn, _, hq, hc⟩ | ⟨hn, c, hc⟩
    · refine (word_got g s p q n w h.2 hc).mono fun e w' ⟨h1, h2, h3⟩ => ?_
      simp only [Option.bind_some, hn]
      exact ⟨h1, ⟨hq, h2⟩, h3⟩
    · refine (word_bad g s p 0 c w h.2 hc).mono fun e w' ⟨h1, h2, h3⟩ => ?_
      simp only [Option.bind_some, hn]
      exact ⟨h1, ⟨0, c, h2⟩, h3⟩
end EvtR
end Go.Proofs.YtaedolophhcjjaaDoor
namespace Go.Proofs.YtaedolophhcjjaaDoor
open Go.ChangeShapes Go.WideShapes Go.ChangeAt Go.RowKit
set_option linter.unusedVariables false
namespace EvtR
open GetR NumsR
/-- The model's reader's block. -/
def SRB (g : Nat) (s : ByteArray) (p : Nat) (b : Bool) (w : World) : Prop := g < w.heap.size ∧ w.cell? ⟨g, 0, none⟩ = some (.string s) ∧ w.cell? ⟨g, 1, none⟩ = some (.int .i64 p) ∧ w.cell? ⟨g, 2, none⟩ = some (.bool b) ∧ w.frozen? ⟨g, 0, none⟩ = false ∧ w.frozen? ⟨g, 1, none⟩ = false ∧ w.frozen? ⟨g, 2, none⟩ = false
theorem SRB.below {g : Nat} {s : ByteArray} {p : Nat} {b : Bool} {w w' : World} (h : SRB g s p b w) (hb : Below w.heap.size w w') : SRB g s p b w' := by
  obtain ⟨hl, c0, c1, c2, f0, f1, f2⟩ := h
  have c := fun o => hb.cell (p := ⟨g, o, none⟩) hl
  have z := fun o => hb.frozen (p := ⟨g, o, none⟩) hl
  exact ⟨by have := hb.size; omega, (c 0).trans c0, (c 1).trans c1, (c 2).trans c2, (z 0).trans f0, (z 1).trans f1, (z 2).trans f2⟩
theorem SRB.setAt {g : Nat} {s : ByteArray} {p : Nat} {b : Bool} {w : World} (h : SRB g s p b w) (q : Nat) : SRB g s q b (w.setCell ⟨g, 1, none⟩ (.int .i64 q)) := by
  obtain ⟨hl, c0, c1, c2, f0, f1, f2⟩ := h
  exact ⟨by simpa using hl, by simp [go_sem, c0], by simp [go_sem, c1], by simp [go_sem, c2], by simp [go_sem, f0], by simp [go_sem, f1], by simp [go_sem, f2]⟩
theorem SRB.setBad {g : Nat} {s : ByteArray} {p : Nat} {b : Bool} {w : World} (h : SRB g s p b w) : SRB g s p true (w.setCell ⟨g, 2, none⟩ (.bool true)) := by
  obtain ⟨hl, c0, c1, c2, f0, f1, f2⟩ := h
  exact ⟨by simpa using hl, by simp [go_sem, c0], by simp [go_sem, c1], by simp [go_sem, c2], by simp [go_sem, f0], by simp [go_sem, f1], by simp [go_sem, f2]⟩
/-- A new block of three cells. -/
def N3 (B : Nat) (a b c : Value) (w : World) : Prop := B < w.heap.size ∧ w.cell? ⟨B, 0, none⟩ = some a ∧ w.cell? ⟨B, 1, none⟩ = some b ∧ w.cell? ⟨B, 2, none⟩ = some c ∧ w.frozen? ⟨B, 0, none⟩ = false ∧ w.frozen? ⟨B, 1, none⟩ = false ∧ w.frozen? ⟨B, 2, none⟩ = false
theorem N3.new (W : World) (T : TypeId) (a b c : Value) : N3 W.heap.size a b c (W.alloc (.cells #[a, b, c] T)) :=
  ⟨by simp, by simp [go_sem], by simp [go_sem], by simp [go_sem], by simp [go_sem], by simp [go_sem], by simp [go_sem]⟩
theorem N3.below {B : Nat} {a b c : Value} {w w' : World} (h : N3 B a b c w) (hb : Below w.heap.size w w') : N3 B a b c w' := by
  obtain ⟨hl, c0, c1, c2, f0, f1, f2⟩ := h
  have c := fun o => hb.cell (p := ⟨B, o, none⟩) hl
  have z := fun o => hb.frozen (p := ⟨B, o, none⟩) hl
  exact ⟨by have := hb.size; omega, (c 0).trans c0, (c 1).trans c1, (c 2).trans c2, (z 0).trans f0, (z 1).trans f1, (z 2).trans f2⟩
theorem then2 {a b P : Prop} (ha : a) (hb : b) (k : a → b → P) : P := k ha hb
theorem then1 {a P : Prop} (ha : a) (k : a → P) : P := k ha
theorem SRB.other {g : Nat} {s : ByteArray} {p : Nat} {b : Bool} {w : World} (h : SRB g s p b w) {X : Nat} (hX : X ≠ g) (o : Nat) (v : Value) : SRB g s p b (w.setCell ⟨X, o, none⟩ v) := by
  obtain ⟨hl, c0, c1, c2, f0, f1, f2⟩ := h
  have e := (rset w X o v).block g hl (by simp; exact fun h => hX h.symm)
  have c := fun k => World.cell?_of_block (a := ⟨g, k, none⟩) e
  have z := fun k => World.frozen?_of_block (a := ⟨g, k, none⟩) e
  exact ⟨by simpa using hl, (c 0).trans c0, (c 1).trans c1, (c 2).trans c2, (z 0).trans f0, (z 1).trans f1, (z 2).trans f2⟩
theorem gnew {w wx : World} {g X o : Nat} {v : Value} (h : w.grownBy wx (some g)) (hX : w.heap.size ≤ X) : w.grownBy (wx.setCell ⟨X, o, none⟩ v) (some g) := by
  have hg := rset wx X o v
  refine ⟨hg.os.trans h.os, hg.tape.trans h.tape, hg.output.trans h.output, by have := h.size; have := hg.size; omega, fun k hk hne => ?_⟩
  have hs := h.size
  exact (hg.block k (by omega) (by intro e; cases e; omega)).trans (h.block k hk hne)
theorem galloc {w w1 : World} {g : Nat} (h : w.grownBy w1 (some g)) (o : Obj) : w.grownBy (w1.alloc o) (some g) := gtrans h (World.grownBy_alloc w1 o _)
set_option maxHeartbeats 4000000 in
theorem snum_got (g : Nat) (s : ByteArray) (p q : Nat) (n : Int) (w : World) (hR : SRB g s p false w)
    (hr : ∀ w, Calls Tryd.prog 67 #[.string s, .int .i64 p] w fun e w' => e = .returned (.agg #[.int .i64 n, .int .i64 (q : Nat), .int .i64 0]) ∧ Below w.heap.size w w') :
    Calls Tryd.prog 39 #[.pointer (some ⟨g, 0, none⟩)] w fun e w' => e = .returned (.int .i64 n) ∧ SRB g s q false w' ∧ w.grownBy w' (some g) := by
  have HR := hid_intro hR
  have HH := hid_intro hr
  obtain ⟨hl, c0, c1, c2, f0, f1, f2⟩ := hR
  have hne : w.heap.size ≠ g := by omega
  clear hr
  go_enter Tryd.func39, Tryd.ntmps39
  go_wp2_with fail
  go_region_with (go_at_call 67; refine (HH.out _).mono ?_; rintro e w1 ⟨rfl, hb⟩; have HB := hid_intro hb; first | (refine then2 (SRB.below (SRB.below (show SRB g s p false w.drew from HR.out) ((Below.refl _ _).alloc (Nat.le_refl _) _)) hb) (show N3 w.heap.size (.int .i64 0) (.int .i64 0) (.int .i64 0) w1 from N3.below (N3.new w.drew 100 (.int .i64 0) (.int .i64 0) (.int .i64 0)) hb) ?_; intro hX hZ; have HX := hid_intro hX; obtain ⟨zl, z0, z1, z2, y0, y1, y2⟩ := hZ; obtain ⟨hl1, d0, d1, d2, e0, e1, e2⟩ := hX) | (refine then1 (SRB.below (show SRB g s p false w.drew from HR.out) hb) ?_; intro hX; have HX := hid_intro hX; have hl0 : ¬ w1.heap.size = g := (by have := hX.1; omega); obtain ⟨hl1, d0, d1, d2, e0, e1, e2⟩ := hX); clear hb)
  all_goals (
    go_wp2_with fail
    go_ret
    first
      | (have hzl := zl; exact ⟨rfl, ((((HX.out.other hne 0 _).other hne 1 _).other hne 2 _).setAt q), gtrans (gnew (gnew (gnew (undrew (gtrans (World.grownBy_alloc _ _ _) (rgrown HB.out _))) (Nat.le_refl _)) (Nat.le_refl _)) (Nat.le_refl _)) (rset _ g 1 _)⟩)
      | exact ⟨rfl, (HX.out.setAt q).below ((Below.refl _ _).alloc (Nat.le_refl _) _), galloc (gtrans (undrew (rgrown HB.out _)) (rset _ g 1 _)) _⟩)
set_option maxHeartbeats 4000000 in
theorem snum_bad (g : Nat) (s : ByteArray) (p q : Nat) (n : Int) (c : Int) (hc : (c == 0) = false) (w : World) (hR : SRB g s p false w)
    (hr : ∀ w, Calls Tryd.prog 67 #[.string s, .int .i64 p] w fun e w' => e = .returned (.agg #[.int .i64 n, .int .i64 (q : Nat), .int .i64 c]) ∧ Below w.heap.size w w') :
    Calls Tryd.prog 39 #[.pointer (some ⟨g, 0, none⟩)] w fun e w' => e = .returned (.int .i64 0) ∧ SRB g s p true w' ∧ w.grownBy w' (some g) := by
  have HR := hid_intro hR
  have HH := hid_intro hr
  obtain ⟨hl, c0, c1, c2, f0, f1, f2⟩ := hR
  have hne : w.heap.size ≠ g := by omega
  have hcn : ¬ c = 0 := by simpa using hc
  have hcn2 : (c != 0) = true := by simp [hcn]
  clear hr
  go_enter Tryd.func39, Tryd.ntmps39
  go_wp2_with fail
  go_region_with (go_at_call 67; refine (HH.out _).mono ?_; rintro e w1 ⟨rfl, hb⟩; have HB := hid_intro hb; first | (refine then2 (SRB.below (SRB.below (show SRB g s p false w.drew from HR.out) ((Below.refl _ _).alloc (Nat.le_refl _) _)) hb) (show N3 w.heap.size (.int .i64 0) (.int .i64 0) (.int .i64 0) w1 from N3.below (N3.new w.drew 100 (.int .i64 0) (.int .i64 0) (.int .i64 0)) hb) ?_; intro hX hZ; have HX := hid_intro hX; obtain ⟨zl, z0, z1, z2, y0, y1, y2⟩ := hZ; obtain ⟨hl1, d0, d1, d2, e0, e1, e2⟩ := hX) | (refine then1 (SRB.below (show SRB g s p false w.drew from HR.out) hb) ?_; intro hX; have HX := hid_intro hX; have hl0 : ¬ w1.heap.size = g := (by have := hX.1; omega); obtain ⟨hl1, d0, d1, d2, e0, e1, e2⟩ := hX); clear hb)
  all_goals (
    go_wp2_with fail
    go_ret
    first
      | (have hzl := zl; exact ⟨rfl, ((((HX.out.other hne 0 _).other hne 1 _).other hne 2 _).setBad), gtrans (gnew (gnew (gnew (undrew (gtrans (World.grownBy_alloc _ _ _) (rgrown HB.out _))) (Nat.le_refl _)) (Nat.le_refl _)) (Nat.le_refl _)) (rset _ g 2 _)⟩)
      | exact ⟨rfl, HX.out.setBad.below ((Below.refl _ _).alloc (Nat.le_refl _) _), galloc (gtrans (undrew (rgrown HB.out _)) (rset _ g 2 _)) _⟩)
set_option maxHeartbeats 4000000 in
theorem snum_flt (g : Nat) (s : ByteArray) (p q : Nat) (n : Int) (c : Int) (w : World) (hR : SRB g s p true w)
    (hr : ∀ w, Calls Tryd.prog 67 #[.string s, .int .i64 p] w fun e w' => e = .returned (.agg #[.int .i64 n, .int .i64 (q : Nat), .int .i64 c]) ∧ Below w.heap.size w w') :
    Calls Tryd.prog 39 #[.pointer (some ⟨g, 0, none⟩)] w fun e w' => e = .returned (.int .i64 0) ∧ SRB g s p true w' ∧ w.grownBy w' (some g) := by
  have HR := hid_intro hR
  have HH := hid_intro hr
  obtain ⟨hl, c0, c1, c2, f0, f1, f2⟩ := hR
  have hne : w.heap.size ≠ g := by omega
  clear hr
  go_enter Tryd.func39, Tryd.ntmps39
  go_wp2_with fail
  go_region_with (go_at_call 67; refine (HH.out _).mono ?_; rintro e w1 ⟨rfl, hb⟩; have HB := hid_intro hb; first | (refine then2 (SRB.below (SRB.below (show SRB g s p true w.drew from HR.out) ((Below.refl _ _).alloc (Nat.le_refl _) _)) hb) (show N3 w.heap.size (.int .i64 0) (.int .i64 0) (.int .i64 0) w1 from N3.below (N3.new w.drew 100 (.int .i64 0) (.int .i64 0) (.int .i64 0)) hb) ?_; intro hX hZ; have HX := hid_intro hX; obtain ⟨zl, z0, z1, z2, y0, y1, y2⟩ := hZ; obtain ⟨hl1, d0, d1, d2, e0, e1, e2⟩ := hX) | (refine then1 (SRB.below (show SRB g s p true w.drew from HR.out) hb) ?_; intro hX; have HX := hid_intro hX; have hl0 : ¬ w1.heap.size = g := (by have := hX.1; omega); obtain ⟨hl1, d0, d1, d2, e0, e1, e2⟩ := hX); clear hb)
  all_goals (
    go_wp2_with fail
    go_ret
    first
      | (have hzl := zl; exact ⟨rfl, ((((HX.out.other hne 0 _).other hne 1 _).other hne 2 _).setBad), gtrans (gnew (gnew (gnew (undrew (gtrans (World.grownBy_alloc _ _ _) (rgrown HB.out _))) (Nat.le_refl _)) (Nat.le_refl _)) (Nat.le_refl _)) (rset _ g 2 _)⟩)
      | exact ⟨rfl, HX.out.setBad.below ((Below.refl _ _).alloc (Nat.le_refl _) _), galloc (gtrans (undrew (rgrown HB.out _)) (rset _ g 2 _)) _⟩)
set_option maxHeartbeats 4000000 in
theorem stext_got (g : Nat) (s : ByteArray) (p q : Nat) (t : ByteArray) (w : World) (hR : SRB g s p false w)
    (hr : ∀ w, Calls Tryd.prog 66 #[.string s, .int .i64 p] w fun e w' => e = .returned (.agg #[.string t, .int .i64 (q : Nat), .int .i64 0]) ∧ Below w.heap.size w w') :
    Calls Tryd.prog 38 #[.pointer (some ⟨g, 0, none⟩)] w fun e w' => e = .returned (.string t) ∧ SRB g s q false w' ∧ w.grownBy w' (some g) := by
  have HR := hid_intro hR
  have HH := hid_intro hr
  obtain ⟨hl, c0, c1, c2, f0, f1, f2⟩ := hR
  have hne : w.heap.size ≠ g := by omega
  clear hr
  go_enter Tryd.func38, Tryd.ntmps38
  go_wp2_with fail
  go_region_with (go_at_call 66; refine (HH.out _).mono ?_; rintro e w1 ⟨rfl, hb⟩; have HB := hid_intro hb; first | (refine then2 (SRB.below (SRB.below (show SRB g s p false w.drew from HR.out) ((Below.refl _ _).alloc (Nat.le_refl _) _)) hb) (show N3 w.heap.size (.string ⟨#[]⟩) (.int .i64 0) (.int .i64 0) w1 from N3.below (N3.new w.drew 97 (.string ⟨#[]⟩) (.int .i64 0) (.int .i64 0)) hb) ?_; intro hX hZ; have HX := hid_intro hX; obtain ⟨zl, z0, z1, z2, y0, y1, y2⟩ := hZ; obtain ⟨hl1, d0, d1, d2, e0, e1, e2⟩ := hX) | (refine then1 (SRB.below (show SRB g s p false w.drew from HR.out) hb) ?_; intro hX; have HX := hid_intro hX; have hl0 : ¬ w1.heap.size = g := (by have := hX.1; omega); obtain ⟨hl1, d0, d1, d2, e0, e1, e2⟩ := hX); clear hb)
  all_goals (
    go_wp2_with fail
    go_ret
    first
      | (have hzl := zl; exact ⟨rfl, ((((HX.out.other hne 0 _).other hne 1 _).other hne 2 _).setAt q), gtrans (gnew (gnew (gnew (undrew (gtrans (World.grownBy_alloc _ _ _) (rgrown HB.out _))) (Nat.le_refl _)) (Nat.le_refl _)) (Nat.le_refl _)) (rset _ g 1 _)⟩)
      | exact ⟨rfl, (HX.out.setAt q).below ((Below.refl _ _).alloc (Nat.le_refl _) _), galloc (gtrans (undrew (rgrown HB.out _)) (rset _ g 1 _)) _⟩)
set_option maxHeartbeats 4000000 in
theorem stext_bad (g : Nat) (s : ByteArray) (p q : Nat) (t : ByteArray) (c : Int) (hc : (c == 0) = false) (w : World) (hR : SRB g s p false w)
    (hr : ∀ w, Calls Tryd.prog 66 #[.string s, .int .i64 p] w fun e w' => e = .returned (.agg #[.string t, .int .i64 (q : Nat), .int .i64 c]) ∧ Below w.heap.size w w') :
    Calls Tryd.prog 38 #[.pointer (some ⟨g, 0, none⟩)] w fun e w' => e = .returned (.string ⟨#[]⟩) ∧ SRB g s p true w' ∧ w.grownBy w' (some g) := by
  have HR := hid_intro hR
  have HH := hid_intro hr
  obtain ⟨hl, c0, c1, c2, f0, f1, f2⟩ := hR
  have hne : w.heap.size ≠ g := by omega
  have hcn : ¬ c = 0 := by simpa using hc
  have hcn2 : (c != 0) = true := by simp [hcn]
  clear hr
  go_enter Tryd.func38, Tryd.ntmps38
  go_wp2_with fail
  go_region_with (go_at_call 66; refine (HH.out _).mono ?_; rintro e w1 ⟨rfl, hb⟩; have HB := hid_intro hb; first | (refine then2 (SRB.below (SRB.below (show SRB g s p false w.drew from HR.out) ((Below.refl _ _).alloc (Nat.le_refl _) _)) hb) (show N3 w.heap.size (.string ⟨#[]⟩) (.int .i64 0) (.int .i64 0) w1 from N3.below (N3.new w.drew 97 (.string ⟨#[]⟩) (.int .i64 0) (.int .i64 0)) hb) ?_; intro hX hZ; have HX := hid_intro hX; obtain ⟨zl, z0, z1, z2, y0, y1, y2⟩ := hZ; obtain ⟨hl1, d0, d1, d2, e0, e1, e2⟩ := hX) | (refine then1 (SRB.below (show SRB g s p false w.drew from HR.out) hb) ?_; intro hX; have HX := hid_intro hX; have hl0 : ¬ w1.heap.size = g := (by have := hX.1; omega); obtain ⟨hl1, d0, d1, d2, e0, e1, e2⟩ := hX); clear hb)
  all_goals (
    go_wp2_with fail
    go_ret
    first
      | (have hzl := zl; exact ⟨rfl, ((((HX.out.other hne 0 _).other hne 1 _).other hne 2 _).setBad), gtrans (gnew (gnew (gnew (undrew (gtrans (World.grownBy_alloc _ _ _) (rgrown HB.out _))) (Nat.le_refl _)) (Nat.le_refl _)) (Nat.le_refl _)) (rset _ g 2 _)⟩)
      | exact ⟨rfl, HX.out.setBad.below ((Below.refl _ _).alloc (Nat.le_refl _) _), galloc (gtrans (undrew (rgrown HB.out _)) (rset _ g 2 _)) _⟩)
set_option maxHeartbeats 4000000 in
theorem stext_flt (g : Nat) (s : ByteArray) (p q : Nat) (t : ByteArray) (c : Int) (w : World) (hR : SRB g s p true w)
    (hr : ∀ w, Calls Tryd.prog 66 #[.string s, .int .i64 p] w fun e w' => e = .returned (.agg #[.string t, .int .i64 (q : Nat), .int .i64 c]) ∧ Below w.heap.size w w') :
    Calls Tryd.prog 38 #[.pointer (some ⟨g, 0, none⟩)] w fun e w' => e = .returned (.string ⟨#[]⟩) ∧ SRB g s p true w' ∧ w.grownBy w' (some g) := by
  have HR := hid_intro hR
  have HH := hid_intro hr
  obtain ⟨hl, c0, c1, c2, f0, f1, f2⟩ := hR
  have hne : w.heap.size ≠ g := by omega
  clear hr
  go_enter Tryd.func38, Tryd.ntmps38
  go_wp2_with fail
  go_region_with (go_at_call 66; refine (HH.out _).mono ?_; rintro e w1 ⟨rfl, hb⟩; have HB := hid_intro hb; first | (refine then2 (SRB.below (SRB.below (show SRB g s p true w.drew from HR.out) ((Below.refl _ _).alloc (Nat.le_refl _) _)) hb) (show N3 w.heap.size (.string ⟨#[]⟩) (.int .i64 0) (.int .i64 0) w1 from N3.below (N3.new w.drew 97 (.string ⟨#[]⟩) (.int .i64 0) (.int .i64 0)) hb) ?_; intro hX hZ; have HX := hid_intro hX; obtain ⟨zl, z0, z1, z2, y0, y1, y2⟩ := hZ; obtain ⟨hl1, d0, d1, d2, e0, e1, e2⟩ := hX) | (refine then1 (SRB.below (show SRB g s p true w.drew from HR.out) hb) ?_; intro hX; have HX := hid_intro hX; have hl0 : ¬ w1.heap.size = g := (by have := hX.1; omega); obtain ⟨hl1, d0, d1, d2, e0, e1, e2⟩ := hX); clear hb)
  all_goals (
    go_wp2_with fail
    go_ret
    first
      | (have hzl := zl; exact ⟨rfl, ((((HX.out.other hne 0 _).other hne 1 _).other hne 2 _).setBad), gtrans (gnew (gnew (gnew (undrew (gtrans (World.grownBy_alloc _ _ _) (rgrown HB.out _))) (Nat.le_refl _)) (Nat.le_refl _)) (Nat.le_refl _)) (rset _ g 2 _)⟩)
      | exact ⟨rfl, HX.out.setBad.below ((Below.refl _ _).alloc (Nat.le_refl _) _), galloc (gtrans (undrew (rgrown HB.out _)) (rset _ g 2 _)) _⟩)
/-- What a read of the model's leaves: the reader behind it, with or without a fault. -/
def SAfter (g : Nat) (s : ByteArray) (o : Option Nat) (w : World) : Prop := match o with
  | some p => p ≤ 8000 ∧ SRB g s p false w
  | none => ∃ p, p ≤ 8000 ∧ SRB g s p true w
theorem srnum (g : Nat) (s : ByteArray) (o : Option Nat) (w : World) (hs : s.size ≤ 8000) (h : SAfter g s o w) :
    Calls Tryd.prog 39 #[.pointer (some ⟨g, 0, none⟩)] w fun e w' => e = .returned (.int .i64 (((o.bind (numAt s)).map (·.1)).getD 0)) ∧ SAfter g s ((o.bind (numAt s)).map (·.2)) w' ∧ w.grownBy w' (some g) := by
  cases o with
  | none =>
    obtain ⟨p, hp, h⟩ := h
    rcases num_spec s p hs hp with ⟨n, q, hn, _, hq, hc⟩ | ⟨hn, c, hc0, hc⟩
    · exact (snum_flt g s p q n 0 w h hc).mono fun e w' ⟨h1, h2, h3⟩ => ⟨h1, ⟨p, hp, h2⟩, h3⟩
    · exact (snum_flt g s p 0 0 c w h hc).mono fun e w' ⟨h1, h2, h3⟩ => ⟨h1, ⟨p, hp, h2⟩, h3⟩
  | some p =>
    rcases num_spec s p hs h.1 with ⟨n, q, hn, _, hq, hc⟩ | ⟨hn, c, hc0, hc⟩
    · refine (snum_got g s p q n w h.2 hc).mono fun e w' ⟨h1, h2, h3⟩ => ?_
      simp only [Option.bind_some, hn]
      exact ⟨h1, ⟨hq, h2⟩, h3⟩
    · refine (snum_bad g s p 0 0 c hc0 w h.2 hc).mono fun e w' ⟨h1, h2, h3⟩ => ?_
      simp only [Option.bind_some, hn]
      exact ⟨h1, ⟨p, h.1, h2⟩, h3⟩
theorem srtext (g : Nat) (s : ByteArray) (o : Option Nat) (w : World) (hs : s.size ≤ 8000) (h : SAfter g s o w) :
    Calls Tryd.prog 38 #[.pointer (some ⟨g, 0, none⟩)] w fun e w' => e = .returned (.string (((o.bind (txtAt s)).map (·.1)).getD ⟨#[]⟩)) ∧ SAfter g s ((o.bind (txtAt s)).map (·.2)) w' ∧ w.grownBy w' (some g) := by
  cases o with
  | none =>
    obtain ⟨p, hp, h⟩ := h
    rcases txt_spec s p hs hp with ⟨n, q, hn, _, hq, hc⟩ | ⟨hn, c, hc0, hc⟩
    · exact (stext_flt g s p q n 0 w h hc).mono fun e w' ⟨h1, h2, h3⟩ => ⟨h1, ⟨p, hp, h2⟩, h3⟩
    · exact (stext_flt g s p 0 ⟨#[]⟩ c w h hc).mono fun e w' ⟨h1, h2, h3⟩ => ⟨h1, ⟨p, hp, h2⟩, h3⟩
  | some p =>
    rcases txt_spec s p hs h.1 with ⟨n, q, hn, _, hq, hc⟩ | ⟨hn, c, hc0, hc⟩
    · refine (stext_got g s p q n w h.2 hc).mono fun e w' ⟨h1, h2, h3⟩ => ?_
      simp only [Option.bind_some, hn]
      exact ⟨h1, ⟨hq, h2⟩, h3⟩
    · refine (stext_bad g s p 0 ⟨#[]⟩ c hc0 w h.2 hc).mono fun e w' ⟨h1, h2, h3⟩ => ?_
      simp only [Option.bind_some, hn]
      exact ⟨h1, ⟨p, h.1, h2⟩, h3⟩
end EvtR
end Go.Proofs.YtaedolophhcjjaaDoor
namespace Go.Proofs.YtaedolophhcjjaaDoor
open Go.ChangeShapes Go.WideShapes Go.ChangeAt Go.RowKit
set_option linter.unusedVariables false
namespace WordR
def seen (c : Int) : Bool := decide (33 ≤ c ∧ c ≤ 126)
def upTo (s : ByteArray) (k : Nat) : Prop := ∀ i (h : i < s.size), i < k → seen (s[i].toNat : Int) = true
def upToDec (s : ByteArray) (k : Nat) : Decidable (upTo s k) := inferInstanceAs (Decidable (∀ i (h : i < s.size), i < k → seen (s[i].toNat : Int) = true))
/-- Are all bytes seen ones? -/
def printB (s : ByteArray) : Bool := @decide (upTo s s.size) (upToDec s s.size)
theorem print_no {s : ByteArray} {k : Nat} (h : k < s.size) (hb : seen (s[k].toNat : Int) = false) : printB s = false := by
  unfold printB; simp; intro hu; have := hu k h h; simp [hb] at this
theorem print_yes {s : ByteArray} (hu : upTo s s.size) : printB s = true := by unfold printB; simpa using hu
theorem upTo_zero (s : ByteArray) : upTo s 0 := fun _ _ h => absurd h (by omega)
theorem upTo_succ {s : ByteArray} {k : Nat} (hu : upTo s k) (h : k < s.size) (hb : seen (s[k].toNat : Int) = true) : upTo s (k + 1) := by
  intro i hi hk
  by_cases e : i = k
  · subst e; exact hb
  · exact hu i hi (by omega)
theorem hid_intro' {p : Prop} (h : p) : Hid p := h
theorem byte_lt (s : ByteArray) (k : Nat) (h : k < s.size) : (s[k].toNat : Int) < 256 := by
  have := s[k].toNat_lt; omega
end WordR
end Go.Proofs.YtaedolophhcjjaaDoor
namespace Go.Proofs.YtaedolophhcjjaaDoor
open Go.ChangeShapes Go.WideShapes Go.ChangeAt Go.RowKit
set_option linter.unusedVariables false
namespace EvtR
open WordR
theorem hid_intro {p : Prop} (h : p) : Hid p := h
def idB (s : ByteArray) : Bool := decide (1 ≤ s.size ∧ s.size ≤ 20) && printB s
theorem within_any (n low high : Int) (w : World) :
    Calls Tryd.prog 48 #[.int .i64 n, .int .i64 low, .int .i64 high] w fun e w' => e = .returned (.bool (decide (low ≤ n ∧ n ≤ high))) ∧ w' = w := by
  rcases (show (¬ low ≤ n) ∨ (low ≤ n ∧ ¬ n ≤ high) ∨ (low ≤ n ∧ n ≤ high) by omega) with h | ⟨h1, h2⟩ | ⟨h1, h2⟩
  all_goals
    go_enter Tryd.func48, Tryd.ntmps48
    go_wp2
    go_ret
    exact ⟨ret_bool (by first | (simp [*]; done) | (simp; omega)), rfl⟩
theorem is_any (n low high : Int) (w : World) :
    Calls Tryd.prog 51 #[.int .i64 n, .int .i64 low, .int .i64 high] w fun e w' => e = .returned (.bool (decide (low ≤ n ∧ n ≤ high))) ∧ w' = w := by
  rcases (show (¬ low ≤ n) ∨ (low ≤ n ∧ ¬ n ≤ high) ∨ (low ≤ n ∧ n ≤ high) by omega) with h | ⟨h1, h2⟩ | ⟨h1, h2⟩
  all_goals
    go_enter Tryd.func51, Tryd.ntmps51
    go_wp2
    go_ret
    exact ⟨ret_bool (by first | (simp [*]; done) | (simp; omega)), rfl⟩
theorem empty_of (i : ByteArray) (h : i.size = 0) : i.toList = [] := by
  rw [ByteArray.toList_eq]
  exact List.eq_nil_of_length_eq_zero h
theorem full_of (i : ByteArray) (h : i.size ≠ 0) : i.toList ≠ [] ∧ i.toList.isEmpty = false := by
  have a : i.toList ≠ [] := by
    rw [ByteArray.toList_eq]
    intro e
    exact h (show i.data.toList.length = 0 by rw [e]; rfl)
  exact ⟨a, by cases hl : i.toList with
    | nil => exact absurd hl a
    | cons x l => rfl⟩
end EvtR
end Go.Proofs.YtaedolophhcjjaaDoor
namespace Go.Proofs.YtaedolophhcjjaaDoor
open Go.ChangeShapes Go.WideShapes Go.ChangeAt Go.RowKit
set_option linter.unusedVariables false
namespace EvtR
open GetR NumsR
theorem rdrewN {B : Nat} {a w : World} (h : Below B a w) (n : Nat) : Below B a (w.drewN n) := ⟨h.os, h.tape, h.output, h.size, h.block⟩
theorem ended_any (g : Nat) (s : ByteArray) (o : Option Nat) (w : World) (hs : s.size ≤ 8000) (h : After g s o w) :
    Calls Tryd.prog 32 #[.pointer (some ⟨g, 0, none⟩)] w fun e w' => e = .returned (.bool (decide (o = some s.size))) ∧ Below w.heap.size w w' := by
  cases o with
  | none =>
    obtain ⟨p, c, hR⟩ := h
    unfold flt at hR
    obtain ⟨hl, c0, c1, c2, f0, f1, f2⟩ := hR
    go_enter Tryd.func32, Tryd.ntmps32
    go_wp2_with fail
    go_quiet (fail)
    go_wp2
    go_ret
    exact ⟨rfl, rdrewN (Below.refl _ _) _⟩
  | some p =>
    obtain ⟨hp, hl, c0, c1, c2, f0, f1, f2⟩ := h
    by_cases he : p = s.size
    · subst he
      go_enter Tryd.func32, Tryd.ntmps32
      go_wp2_with fail
      go_quiet (fail)
      go_wp2
      go_ret
      exact ⟨ret_bool (by simp), rdrewN (Below.refl _ _) _⟩
    · have he' : ¬ (p : Int) = (s.size : Int) := by omega
      go_enter Tryd.func32, Tryd.ntmps32
      go_wp2_with fail
      go_quiet (fail)
      go_wp2
      go_ret
      exact ⟨ret_bool (by simp [he]; exact he'), rdrewN (Below.refl _ _) _⟩
/-- A text read, with or without a fault ahead. -/
def rT (s : ByteArray) (o : Option Nat) : ByteArray := ((o.bind (txtAt s)).map (·.1)).getD ⟨#[]⟩
def pT (s : ByteArray) (o : Option Nat) : Option Nat := (o.bind (txtAt s)).map (·.2)
def rN (s : ByteArray) (o : Option Nat) : Int := ((o.bind (numAt s)).map (·.1)).getD 0
def pN (s : ByteArray) (o : Option Nat) : Option Nat := (o.bind (numAt s)).map (·.2)
theorem After.lt {g : Nat} {s : ByteArray} {o : Option Nat} {w : World} (h : After g s o w) : g < w.heap.size := by
  cases o with
  | none => obtain ⟨p, c, h⟩ := h; exact h.1
  | some p => exact h.2.1
theorem After.below {g : Nat} {s : ByteArray} {o : Option Nat} {w w' : World} (h : After g s o w) (hb : Below w.heap.size w w') : After g s o w' := by
  cases o with
  | none => obtain ⟨p, c, h⟩ := h; exact ⟨p, c, h.below hb⟩
  | some p => exact ⟨h.1, h.2.below hb⟩
theorem After.alloc {g : Nat} {s : ByteArray} {o : Option Nat} {w : World} (h : After g s o w) (x : Obj) : After g s o (w.alloc x) := h.below ((Below.refl _ _).alloc (Nat.le_refl _) x)
theorem gnew' {w wx : World} {g X o : Nat} {v : Value} (h : w.grownBy wx (some g)) (hX : w.heap.size ≤ X) : w.grownBy (wx.setCell ⟨X, o, none⟩ v) (some g) := by
  have hg := rset wx X o v
  refine ⟨hg.os.trans h.os, hg.tape.trans h.tape, hg.output.trans h.output, by have := h.size; have := hg.size; omega, fun k hk hne => ?_⟩
  have hs := h.size
  exact (hg.block k (by omega) (by intro e; cases e; omega)).trans (h.block k hk hne)
theorem After.other {g : Nat} {s : ByteArray} {o : Option Nat} {w : World} (h : After g s o w) {X : Nat} (hX : X ≠ g) (k : Nat) (v : Value) : After g s o (w.setCell ⟨X, k, none⟩ v) := by
  have key : ∀ p f, RdB g s p f w → RdB g s p f (w.setCell ⟨X, k, none⟩ v) := by
    intro p f hr
    obtain ⟨hl, c0, c1, c2, f0, f1, f2⟩ := hr
    have e := (rset w X k v).block g hl (by simp; exact fun h => hX h.symm)
    have c := fun j => World.cell?_of_block (a := ⟨g, j, none⟩) e
    have z := fun j => World.frozen?_of_block (a := ⟨g, j, none⟩) e
    exact ⟨by simpa using hl, (c 0).trans c0, (c 1).trans c1, (c 2).trans c2, (z 0).trans f0, (z 1).trans f1, (z 2).trans f2⟩
  cases o with
  | none => obtain ⟨p, c, h⟩ := h; exact ⟨p, c, key _ _ h⟩
  | some p => exact ⟨h.1, key _ _ h.2⟩
/-- What one call of a reader leaves. -/
abbrev Reads (f : Nat) (g : Nat) (s : ByteArray) (o o' : Option Nat) (v : Value) : Prop := ∀ w, After g s o w → Calls Tryd.prog f #[.pointer (some ⟨g, 0, none⟩)] w fun e w' => e = .returned v ∧ After g s o' w' ∧ w.grownBy w' (some g)
theorem rT_size (s : ByteArray) (o : Option Nat) : (rT s o).size ≤ 8000 := by
  unfold rT
  cases h : o.bind (txtAt s) with
  | none => exact Nat.zero_le _
  | some x =>
    obtain ⟨t, q⟩ := x
    obtain ⟨p, rfl, hp⟩ := Option.bind_eq_some_iff.1 h
    simpa using (txtAt_back hp).1
theorem After.rdb {g : Nat} {s : ByteArray} {o : Option Nat} {w : World} (h : After g s o w) : ∃ p f, RdB g s p f w := by
  cases o with
  | none => obtain ⟨p, c, h⟩ := h; exact ⟨p, _, h⟩
  | some p => exact ⟨p, _, h.2⟩
/-- How many, and the place or fault behind it. -/
def rC (s : ByteArray) (o : Option Nat) (m : Nat) : Nat := if 0 ≤ rN s o ∧ rN s o ≤ m then (rN s o).toNat else 0
def pC (s : ByteArray) (o : Option Nat) (m : Nat) : Option Nat := if 0 ≤ rN s o ∧ rN s o ≤ m then pN s o else none
theorem rC_le (s : ByteArray) (o : Option Nat) (m : Nat) : rC s o m ≤ m := by
  unfold rC
  split <;> omega
set_option maxHeartbeats 4000000 in
theorem rcount (g : Nat) (s : ByteArray) (o : Option Nat) (m : Nat) (w : World) (hs : s.size ≤ 8000) (h : After g s o w) :
    Calls Tryd.prog 59 #[.pointer (some ⟨g, 0, none⟩), .int .i64 m] w fun e w' => e = .returned (.int .i64 (rC s o m)) ∧ After g s (pC s o m) w' ∧ w.grownBy w' (some g) := by
  have H1 : Hid (∀ w1, After g s o w1 → Calls Tryd.prog 62 #[.pointer (some ⟨g, 0, none⟩)] w1 fun e w' => e = .returned (.int .i64 (rN s o)) ∧ After g s (pN s o) w' ∧ w1.grownBy w' (some g)) := hid_intro (fun w1 h => rnum _ s o w1 hs h)
  have HC : Hid (rC s o m = if 0 ≤ rN s o ∧ rN s o ≤ m then (rN s o).toNat else 0) := rfl
  have HP : Hid (pC s o m = if 0 ≤ rN s o ∧ rN s o ≤ m then pN s o else none) := rfl
  generalize rN s o = c at *
  generalize pN s o = o0 at *
  generalize rC s o m = C at *
  generalize pC s o m = o1 at *
  have HA := hid_intro h
  clear h
  go_enter Tryd.func59, Tryd.ntmps59
  go_wp2_with fail
  refine (H1.out _ HA.out).mono ?_
  rintro e w1 ⟨rfl, hA, hg⟩
  have HG := hid_intro hg
  have HWI := hid_intro (fun w => within_any c 0 m w)
  by_cases k : 0 ≤ c ∧ c ≤ m
  · rw [decide_eq_true k] at HWI
    have e1 : (C : Int) = c := by rw [HC.out, if_pos k]; omega
    have e2 : o1 = o0 := by rw [HP.out, if_pos k]
    clear HC HP hg
    subst e1
    subst e2
    go_wp2_with (go_at_call 48; refine (HWI.out _).mono ?_; rintro e w' ⟨rfl, rfl⟩)
    go_ret
    exact ⟨rfl, hA, HG.out⟩
  · rw [decide_eq_false k] at HWI
    have e1 : C = 0 := by rw [HC.out, if_neg k]
    have e2 : o1 = none := by rw [HP.out, if_neg k]
    obtain ⟨p, f, hR⟩ := hA.rdb
    have HR := hid_intro hR
    obtain ⟨hl, c0, c1, c2, f0, f1, f2⟩ := hR
    clear HC HP hg hA
    subst e1
    subst e2
    go_wp2_with (go_at_call 48; refine (HWI.out _).mono ?_; rintro e w' ⟨rfl, rfl⟩)
    go_ret
    refine ⟨rfl, ⟨p, 3, ?_⟩, ?_⟩
    · obtain ⟨hl, c0, c1, c2, f0, f1, f2⟩ := HR.out
      exact ⟨by simpa using hl, by simp [go_sem, c0], by simp [go_sem, c1], by simp [go_sem, c2, flt], by simp [go_sem, f0], by simp [go_sem, f1], by simp [go_sem, f2]⟩
    · refine gtrans HG.out ?_
      first | exact rset _ g 2 _ | exact gtrans (World.grownBy_alloc _ _ _) (rset _ g 2 _)
theorem SAfter.lt {g : Nat} {s : ByteArray} {o : Option Nat} {w : World} (h : SAfter g s o w) : g < w.heap.size := by
  cases o with
  | none => obtain ⟨p, hp, h⟩ := h; exact h.1
  | some p => exact h.2.1
theorem SAfter.grown {g : Nat} {s : ByteArray} {o : Option Nat} {w w' : World} {row : Option Nat} (h : SAfter g s o w) (hg : w.grownBy w' row) (hne : some g ≠ row) : SAfter g s o w' := by
  have key : ∀ p f, SRB g s p f w → SRB g s p f w' := by
    intro p f hr
    obtain ⟨hl, c0, c1, c2, f0, f1, f2⟩ := hr
    have e := hg.block g hl hne
    have c := fun j => World.cell?_of_block (a := ⟨g, j, none⟩) e
    have z := fun j => World.frozen?_of_block (a := ⟨g, j, none⟩) e
    exact ⟨by have := hg.size; omega, (c 0).trans c0, (c 1).trans c1, (c 2).trans c2, (z 0).trans f0, (z 1).trans f1, (z 2).trans f2⟩
  cases o with
  | none => obtain ⟨p, c, h⟩ := h; exact ⟨p, c, key _ _ h⟩
  | some p => exact ⟨h.1, key _ _ h.2⟩
theorem SAfter.open {g : Nat} {s : ByteArray} {o : Option Nat} {w : World} (h : SAfter g s o w) : ∃ p, SRB g s p (decide (o = none)) w := by
  cases o with
  | none => obtain ⟨p, hp, h⟩ := h; exact ⟨p, by simpa using h⟩
  | some p => exact ⟨p, by simpa using h.2⟩
theorem many_any (g : Nat) (s : ByteArray) (o0 : Option Nat) (M : Nat) (w : World) (hs : s.size ≤ 8000) (h : SAfter g s o0 w) :
    Calls Tryd.prog 36 #[.pointer (some ⟨g, 0, none⟩), .int .i64 M] w fun e w' => (if 0 ≤ rN s o0 ∧ rN s o0 ≤ (M : Int) then e = .returned (.int .i64 (rN s o0)) ∧ SAfter g s (pN s o0) w' else e = .returned (.int .i64 0) ∧ SAfter g s none w') ∧ w.grownBy w' (some g) := by
  have H1 : Hid (∀ w, SAfter g s o0 w → Calls Tryd.prog 39 #[.pointer (some ⟨g, 0, none⟩)] w fun e w' => e = .returned (.int .i64 (rN s o0)) ∧ SAfter g s (pN s o0) w' ∧ w.grownBy w' (some g)) := hid_intro (fun w h => srnum g s _ w hs h)
  have HI := hid_intro (fun w => is_any (rN s o0) 0 (M : Int) w)
  have HA := hid_intro h
  generalize rN s o0 = c at *
  generalize pN s o0 = o at *
  clear h
  by_cases hc : 0 ≤ c ∧ c ≤ (M : Int)
  · simp only [if_pos hc]
    rw [decide_eq_true hc] at HI
    go_enter Tryd.func36, Tryd.ntmps36
    go_wp2_with fail
    refine (H1.out _ HA.out).mono ?_
    rintro e w1 ⟨rfl, hA, hg⟩
    have HA1 := hid_intro hA
    have HG1 := hid_intro hg
    clear hA hg
    go_wp2_with (go_at_call 51; refine (HI.out _).mono ?_; rintro e w' ⟨rfl, rfl⟩)
    go_ret
    exact ⟨⟨rfl, HA1.out⟩, HG1.out⟩
  · simp only [if_neg hc]
    rw [decide_eq_false hc] at HI
    go_enter Tryd.func36, Tryd.ntmps36
    go_wp2_with fail
    refine (H1.out _ HA.out).mono ?_
    rintro e w1 ⟨rfl, hA, hg⟩
    have HG1 := hid_intro hg
    clear hg
    obtain ⟨p, b, hp, hR⟩ : ∃ p b, p ≤ 8000 ∧ SRB g s p b w1 := by
      cases o with
      | none => obtain ⟨p, hp, h⟩ := hA; exact ⟨p, _, hp, h⟩
      | some p => exact ⟨p, _, hA.1, hA.2⟩
    have HR := hid_intro hR
    obtain ⟨hl, c0, c1, c2, f0, f1, f2⟩ := hR
    clear hA
    go_wp2_with (go_at_call 51; refine (HI.out _).mono ?_; rintro e w' ⟨rfl, rfl⟩)
    go_ret
    exact ⟨⟨rfl, p, hp, HR.out.setBad⟩, gtrans HG1.out (rset _ g 2 _)⟩
end EvtR
end Go.Proofs.YtaedolophhcjjaaDoor
namespace Go.Proofs.YtaedolophhcjjaaDoor
open Go.ChangeShapes Go.WideShapes Go.ChangeAt Go.RowKit
set_option linter.unusedVariables false
namespace OwG
open EvtR (Pt After SAfter gtrans)
theorem after_grown {g : Nat} {s : ByteArray} {o : Option Nat} {w w' : World} {row : Option Nat} (h : After g s o w) (hg : w.grownBy w' row) (hne : some g ≠ row) : After g s o w' := by
  have key : ∀ p f, EvtR.RdB g s p f w → EvtR.RdB g s p f w' := by
    intro p f hr
    obtain ⟨hl, c0, c1, c2, f0, f1, f2⟩ := hr
    have e := hg.block g hl hne
    have c := fun j => World.cell?_of_block (a := ⟨g, j, none⟩) e
    have z := fun j => World.frozen?_of_block (a := ⟨g, j, none⟩) e
    exact ⟨by have := hg.size; omega, (c 0).trans c0, (c 1).trans c1, (c 2).trans c2, (z 0).trans f0, (z 1).trans f1, (z 2).trans f2⟩
  cases o with
  | none => obtain ⟨p, c, h⟩ := h; exact ⟨p, c, key _ _ h⟩
  | some p => exact ⟨h.1, key _ _ h.2⟩
theorem satt {g : Nat} {s : ByteArray} {o : Option Nat} {w w' : World} (h : SAfter g s o w) (hb : Below w.heap.size w w') : SAfter g s o w' := h.grown (EvtR.rgrown hb none) (by simp)
end OwG
end Go.Proofs.YtaedolophhcjjaaDoor
namespace Go.Proofs.YtaedolophhcjjaaDoor
open Go.ChangeShapes Go.WideShapes Go.ChangeAt Go.RowKit
set_option linter.unusedVariables false
namespace CatR
open OwG
open RowG (MadeG Rws cellsAll hid_intro)
open EvtR (Pt After SAfter Reads gtrans)
open DocR (BlkW)
def Ti.cells (t : Ti) : List Value := [.int .i64 t.u, .int .i64 t.p]
theorem Ti.len (t : Ti) : t.cells.length = 2 := rfl
def Cr.cells (t : Cr) : List Value := [.string t.a, .int .i64 t.m]
theorem Cr.len (t : Cr) : t.cells.length = 2 := rfl
/-- A meter with the place of its tiers. -/
structure MA where
  m : Me
  ta : Option Addr
  tc : Nat
def MA.v (x : MA) : Value := .slice x.ta x.m.ts.length x.tc
def MA.cells (x : MA) : List Value := [.string x.m.n, .int .i64 x.m.g, .bool x.m.wh, .int .i64 x.m.f, .int .i64 x.m.l, x.v]
theorem MA.len (x : MA) : x.cells.length = 6 := rfl
def MA.zero : MA := ⟨Me.zero, none, 0⟩
/-- Its tiers are its own. -/
def TnO (base : Nat) (x : MA) (W : World) : Prop := W.ownsRow base 72 2 x.v x.m.ts.length (cellsAll Ti.cells x.m.ts)
def AptM (x y : MA) : Prop := ∀ b, x.v.ownBlock = some b → y.v.ownBlock ≠ some b
/-- A list of meters of one's own, the tiers' blocks below a limit. -/
def MsL (base lim : Nat) (v : Value) (ms : List Me) (W : World) : Prop := ∃ xs : List MA, xs.map MA.m = ms ∧ W.ownsRow base 37 6 v ms.length (cellsAll MA.cells xs) ∧ (∀ x ∈ xs, TnO base x W) ∧ xs.Pairwise AptM ∧ ∀ x ∈ xs, ∀ b, x.v.ownBlock = some b → b < lim
def MsO (base : Nat) (v : Value) (ms : List Me) (W : World) : Prop := ∃ lim, MsL base lim v ms W
theorem MsO.lim {base : Nat} {v : Value} {ms : List Me} {W : World} (h : MsO base v ms W) : MsL base W.heap.size v ms W := by
  obtain ⟨lim, xs, h1, h2, h3, h4, _⟩ := h
  exact ⟨xs, h1, h2, h3, h4, fun x hx b hb => ((h3 x hx).lt b hb).2⟩
theorem mso_nil (base : Nat) (W : World) : MsO base (.slice none 0 0) [] W := ⟨0, [], rfl, World.ownsRow_nil _ _ _ _, (fun x h => absurd h (by simp)), List.Pairwise.nil, fun x h => absurd h (by simp)⟩
theorem MsL.far {base lim g : Nat} {v : Value} {ms : List Me} {W W' : World} (h : MsL base lim v ms W) (hg : W.grownBy W' (some g)) (hlt : g < base) : MsL base lim v ms W' := by
  obtain ⟨xs, h1, h2, h3, h4, h5⟩ := h
  exact ⟨xs, h1, own_keepG h2 hg hlt, fun x hx => own_keepG (h3 x hx) hg hlt, h4, h5⟩
theorem MsL.below {base lim : Nat} {v : Value} {ms : List Me} {W W' : World} (h : MsL base lim v ms W) (hb : Below W.heap.size W W') : MsL base lim v ms W' := by
  obtain ⟨xs, h1, h2, h3, h4, h5⟩ := h
  exact ⟨xs, h1, RowG.own_below h2 hb, fun x hx => RowG.own_below (h3 x hx) hb, h4, h5⟩
theorem MsO.far {base g : Nat} {v : Value} {ms : List Me} {W W' : World} (h : MsO base v ms W) (hg : W.grownBy W' (some g)) (hlt : g < base) : MsO base v ms W' := h.imp fun _ h => h.far hg hlt
theorem MsO.below {base : Nat} {v : Value} {ms : List Me} {W W' : World} (h : MsO base v ms W) (hb : Below W.heap.size W W') : MsO base v ms W' := h.imp fun _ h => h.below hb
theorem MsO.low {base base' : Nat} {v : Value} {ms : List Me} {W : World} (h : MsO base v ms W) (hb : base' ≤ base) : MsO base' v ms W := by
  obtain ⟨lim, xs, h1, h2, h3, h4, h5⟩ := h
  exact ⟨lim, xs, h1, own_low h2 hb, fun x hx => own_low (h3 x hx) hb, h4, h5⟩
/-- Another list's append leaves it. -/
theorem MsO.other {base base' e size n : Nat} {v v' : Value} {ms : List Me} {xs' : List Value} {W W' : World} (h : MsO base v ms W) (ho : W.ownsRow base' e size v' n xs') (hg : W.grownBy W' v'.ownBlock) (h1 : e ≠ 37) (h2 : e ≠ 72) : MsO base v ms W' := by
  obtain ⟨lim, xs, q1, q2, q3, q4, q5⟩ := h
  exact ⟨lim, xs, q1, own_keepO q2 hg (own_apart q2 ho h1), fun x hx => own_keepO (q3 x hx) hg (own_apart (q3 x hx) ho h2), q4, q5⟩
theorem mso_snoc {base lim : Nat} {v v' : Value} {xs : List MA} {ms : List Me} {m : Me} {ta : Option Addr} {tc : Nat} {W W9 : World} (hms : xs.map MA.m = ms) (hLn : ∀ x ∈ xs, TnO base x W) (hPw : xs.Pairwise AptM) (hlim : ∀ x ∈ xs, ∀ b, x.v.ownBlock = some b → b < lim) (hbl : base ≤ lim)
    (hnew : W.ownsRow lim 72 2 (.slice ta m.ts.length tc) m.ts.length (cellsAll Ti.cells m.ts)) (hO : W.ownsRow base 37 6 v ms.length (cellsAll MA.cells xs)) (hgrow : W.grownBy W9 v.ownBlock)
    (hown : W9.ownsRow base 37 6 v' (ms.length + 1) (cellsAll MA.cells xs ++ [.string m.n, .int .i64 m.g, .bool m.wh, .int .i64 m.f, .int .i64 m.l, .slice ta m.ts.length tc])) : MsO base v' (ms ++ [m]) W9 := by
  have hk : ∀ x : MA, TnO base x W → TnO base x W9 := fun x hx => own_keepO hx hgrow (own_apart hx hO (by decide))
  have hn : TnO base ⟨m, ta, tc⟩ W9 := hk ⟨m, ta, tc⟩ (own_low hnew hbl)
  refine ⟨W9.heap.size, xs ++ [⟨m, ta, tc⟩], by rw [List.map_append, hms]; rfl, ?_, ?_, ?_, ?_⟩
  · rw [cellsAll_snoc, List.length_append]
    exact hown
  · intro x hx
    rcases List.mem_append.1 hx with h | h
    · exact hk x (hLn x h)
    · rw [List.mem_singleton] at h
      subst h
      exact hn
  · refine List.pairwise_append.2 ⟨hPw, List.pairwise_singleton _ _, fun x hx y hy => ?_⟩
    rw [List.mem_singleton] at hy
    subst hy
    intro b h1 h2
    have p1 := hlim x hx b h1
    have p2 := hnew.lt b h2
    omega
  · intro x hx b hb
    rcases List.mem_append.1 hx with h | h
    · exact ((hk x (hLn x h)).lt b hb).2
    · rw [List.mem_singleton] at h
      subst h
      exact (hn.lt b hb).2
theorem own_tis {w : World} {base n c : Nat} {ao : Option Addr} {ts : List Ti} (h : w.ownsRow base 72 2 (.slice ao n c) n (cellsAll Ti.cells ts)) (hn : n = ts.length) : Tis ao n ts w := by
  subst hn
  obtain ⟨ao', cap, e, hm⟩ := RowG.own_made (z := Ti.zero) Ti.len h
  cases e
  refine ⟨rfl, ?_⟩
  rcases hm.rws with h0 | ⟨b, off, rfl, hl, hc⟩
  · exact .inl h0
  · exact .inr ⟨b, off, rfl, hl, fun i hi => ⟨hc i hi 0 (by omega), hc i hi 1 (by omega)⟩⟩
theorem own_crs {w : World} {base n c : Nat} {ao : Option Addr} {ts : List Cr} (h : w.ownsRow base 53 2 (.slice ao n c) n (cellsAll Cr.cells ts)) (hn : n = ts.length) : Crs ao n ts w := by
  subst hn
  obtain ⟨ao', cap, e, hm⟩ := RowG.own_made (z := Cr.zero) Cr.len h
  cases e
  refine ⟨rfl, ?_⟩
  rcases hm.rws with h0 | ⟨b, off, rfl, hl, hc⟩
  · exact .inl h0
  · exact .inr ⟨b, off, rfl, hl, fun i hi => ⟨hc i hi 0 (by omega), hc i hi 1 (by omega)⟩⟩
theorem MsO.mes {base : Nat} {v : Value} {ms : List Me} {W : World} (h : MsO base v ms W) : ∃ ao cap, v = .slice ao ms.length cap ∧ Mes ao ms.length ms W := by
  obtain ⟨lim, xs, h1, h2, h3, _⟩ := h
  have hl : ms.length = xs.length := by rw [← h1]; simp
  rw [hl] at h2
  obtain ⟨ao, cap, rfl, hm⟩ := RowG.own_made (z := MA.zero) MA.len h2
  refine ⟨ao, cap, by rw [hl], rfl, ?_⟩
  rcases hm.rws with h0 | ⟨b, off, rfl, hb, hc⟩
  · exact .inl (by omega)
  · refine .inr ⟨b, off, rfl, hb, fun i hi => ?_⟩
    have hx : i < xs.length := by omega
    have e : ms.getD i Me.zero = (xs.getD i MA.zero).m := by
      rw [← h1]
      simp [List.getD, hx]
    have hmem := RowG.getD_mem (z := MA.zero) xs i hx
    have c := hc i hx
    rw [e]
    generalize xs.getD i MA.zero = X at *
    exact ⟨X.ta, X.tc, c 0 (by omega), c 1 (by omega), c 2 (by omega), c 3 (by omega), c 4 (by omega), c 5 (by omega), own_tis (h3 X hmem) rfl⟩
theorem me_one (m : Me) (ta : Option Addr) (tc : Nat) : ∀ u ∈ ([.string m.n, .int .i64 m.g, .bool m.wh, .int .i64 m.f, .int .i64 m.l, .slice ta m.ts.length tc] : List Value), u.oneCell' = true := by
  intro u hu
  simp at hu
  rcases hu with rfl | rfl | rfl | rfl | rfl | rfl <;> rfl
theorem ti_one (x y : Int) : ∀ u ∈ [Value.int .i64 x, Value.int .i64 y], u.oneCell' = true := by
  intro u hu
  simp at hu
  rcases hu with rfl | rfl <;> rfl
theorem cr_one (x : ByteArray) (y : Int) : ∀ u ∈ [Value.string x, Value.int .i64 y], u.oneCell' = true := by
  intro u hu
  simp at hu
  rcases hu with rfl | rfl <;> rfl
theorem infoTi : (Tryd.prog.info? 72).map (fun i => (i.zero, i.size, i.bytes)) = some (some (.agg #[.int .i64 0, .int .i64 0]), 2, 16) := by kernel_rfl
theorem infoCr : (Tryd.prog.info? 53).map (fun i => (i.zero, i.size, i.bytes)) = some (some (.agg #[.string ⟨#[]⟩, .int .i64 0]), 2, 24) := by kernel_rfl
theorem infoMe : (Tryd.prog.info? 37).map (fun i => (i.zero, i.size, i.bytes)) = some (some (.agg #[.string ⟨#[]⟩, .int .i64 0, .bool false, .int .i64 0, .int .i64 0, .slice none 0 0]), 6, 72) := by kernel_rfl
end CatR
end Go.Proofs.YtaedolophhcjjaaDoor
namespace Go.Proofs.YtaedolophhcjjaaDoor
open Go.ChangeShapes Go.WideShapes Go.ChangeAt Go.RowKit
set_option linter.unusedVariables false
namespace MemoR
theorem memo0 {goal : Prop} (F : World → Prop) {G : World → Prop} (h1 : Hid (∀ W, F W → G W) → goal) (h2 : ∀ W, F W → G W) : goal := h1 h2
theorem memo1 {goal : Prop} (F : Nat → World → Prop) {G : Nat → World → Prop} (h1 : Hid (∀ x0 W, F x0 W → G x0 W) → goal) (h2 : ∀ x0 W, F x0 W → G x0 W) : goal := h1 h2
theorem memo2 {goal : Prop} (F : Nat → Nat → World → Prop) {G : Nat → Nat → World → Prop} (h1 : Hid (∀ x0 x1 W, F x0 x1 W → G x0 x1 W) → goal) (h2 : ∀ x0 x1 W, F x0 x1 W → G x0 x1 W) : goal := h1 h2
theorem memo3 {goal : Prop} (F : Nat → Nat → Nat → World → Prop) {G : Nat → Nat → Nat → World → Prop} (h1 : Hid (∀ x0 x1 x2 W, F x0 x1 x2 W → G x0 x1 x2 W) → goal) (h2 : ∀ x0 x1 x2 W, F x0 x1 x2 W → G x0 x1 x2 W) : goal := h1 h2
theorem memo4 {goal : Prop} (F : Nat → Nat → Nat → Nat → World → Prop) {G : Nat → Nat → Nat → Nat → World → Prop} (h1 : Hid (∀ x0 x1 x2 x3 W, F x0 x1 x2 x3 W → G x0 x1 x2 x3 W) → goal) (h2 : ∀ x0 x1 x2 x3 W, F x0 x1 x2 x3 W → G x0 x1 x2 x3 W) : goal := h1 h2
theorem memo5 {goal : Prop} (F : Nat → Nat → Nat → Nat → Nat → World → Prop) {G : Nat → Nat → Nat → Nat → Nat → World → Prop} (h1 : Hid (∀ x0 x1 x2 x3 x4 W, F x0 x1 x2 x3 x4 W → G x0 x1 x2 x3 x4 W) → goal) (h2 : ∀ x0 x1 x2 x3 x4 W, F x0 x1 x2 x3 x4 W → G x0 x1 x2 x3 x4 W) : goal := h1 h2
theorem memo6 {goal : Prop} (F : Nat → Nat → Nat → Nat → Nat → Nat → World → Prop) {G : Nat → Nat → Nat → Nat → Nat → Nat → World → Prop} (h1 : Hid (∀ x0 x1 x2 x3 x4 x5 W, F x0 x1 x2 x3 x4 x5 W → G x0 x1 x2 x3 x4 x5 W) → goal) (h2 : ∀ x0 x1 x2 x3 x4 x5 W, F x0 x1 x2 x3 x4 x5 W → G x0 x1 x2 x3 x4 x5 W) : goal := h1 h2
theorem memo7 {goal : Prop} (F : Nat → Nat → Nat → Nat → Nat → Nat → Nat → World → Prop) {G : Nat → Nat → Nat → Nat → Nat → Nat → Nat → World → Prop} (h1 : Hid (∀ x0 x1 x2 x3 x4 x5 x6 W, F x0 x1 x2 x3 x4 x5 x6 W → G x0 x1 x2 x3 x4 x5 x6 W) → goal) (h2 : ∀ x0 x1 x2 x3 x4 x5 x6 W, F x0 x1 x2 x3 x4 x5 x6 W → G x0 x1 x2 x3 x4 x5 x6 W) : goal := h1 h2
theorem memo8 {goal : Prop} (F : Nat → Nat → Nat → Nat → Nat → Nat → Nat → Nat → World → Prop) {G : Nat → Nat → Nat → Nat → Nat → Nat → Nat → Nat → World → Prop} (h1 : Hid (∀ x0 x1 x2 x3 x4 x5 x6 x7 W, F x0 x1 x2 x3 x4 x5 x6 x7 W → G x0 x1 x2 x3 x4 x5 x6 x7 W) → goal) (h2 : ∀ x0 x1 x2 x3 x4 x5 x6 x7 W, F x0 x1 x2 x3 x4 x5 x6 x7 W → G x0 x1 x2 x3 x4 x5 x6 x7 W) : goal := h1 h2
theorem memo9 {goal : Prop} (F : Nat → Nat → Nat → Nat → Nat → Nat → Nat → Nat → Nat → World → Prop) {G : Nat → Nat → Nat → Nat → Nat → Nat → Nat → Nat → Nat → World → Prop} (h1 : Hid (∀ x0 x1 x2 x3 x4 x5 x6 x7 x8 W, F x0 x1 x2 x3 x4 x5 x6 x7 x8 W → G x0 x1 x2 x3 x4 x5 x6 x7 x8 W) → goal) (h2 : ∀ x0 x1 x2 x3 x4 x5 x6 x7 x8 W, F x0 x1 x2 x3 x4 x5 x6 x7 x8 W → G x0 x1 x2 x3 x4 x5 x6 x7 x8 W) : goal := h1 h2
end MemoR
end Go.Proofs.YtaedolophhcjjaaDoor
namespace Go.Proofs.YtaedolophhcjjaaDoor
open Go.ChangeShapes Go.WideShapes Go.ChangeAt Go.RowKit
set_option linter.unusedVariables false
namespace CatR
open OwG
open RowG (MadeG Rws cellsAll hid_intro)
open EvtR (Pt After SAfter Reads gtrans)
open DocR (BlkW)
open MemoR
set_option maxRecDepth 100000 in
set_option maxHeartbeats 16000000 in
theorem ime_in (g : Nat) (s : ByteArray) (o0 o1 o2 o3 o4 o5 : Option Nat) (a : ByteArray) (ag fr le : Int) (wh : Bool) (F C : Nat) (PH : Nat → Option Nat) (LH : Nat → List Ti) (hh ss : Nat → Int) (w : World) (hA : After g s o0 w)
    (r1 : Reads 61 g s o0 o1 (.string a)) (r2 : Reads 62 g s o1 o2 (.int .i64 ag)) (rf : ∀ w, After g s o2 w → Calls Tryd.prog 59 #[.pointer (some ⟨g, 0, none⟩), .int .i64 1] w fun e w' => e = .returned (.int .i64 (F : Nat)) ∧ After g s o3 w' ∧ w.grownBy w' (some g)) (r3 : Reads 62 g s o3 o4 (.int .i64 fr)) (r4 : Reads 62 g s o4 o5 (.int .i64 le))
    (rc2 : ∀ w, After g s o5 w → Calls Tryd.prog 59 #[.pointer (some ⟨g, 0, none⟩), .int .i64 5] w fun e w' => e = .returned (.int .i64 (C : Nat)) ∧ After g s (PH 0) w' ∧ w.grownBy w' (some g))
    (rh : ∀ k, ∃ om, Reads 62 g s (PH k) om (.int .i64 (hh k)) ∧ Reads 62 g s om (PH (k + 1)) (.int .i64 (ss k)))
    (hF : (F = 0 ∧ wh = false) ∨ (F = 1 ∧ wh = true)) (hC : C ≤ 5) (hH0 : LH 0 = []) (hHM : ∀ k, LH (k + 1) = LH k ++ [⟨hh k, ss k⟩]) :
    Calls Tryd.prog 60 #[.pointer (some ⟨g, 0, none⟩)] w fun e w' => ∃ ta tc, e = .returned (.agg #[.string a, .int .i64 ag, .bool wh, .int .i64 fr, .int .i64 le, .slice ta C tc]) ∧ w'.ownsRow w.heap.size 72 2 (.slice ta C tc) C (cellsAll Ti.cells (LH C)) ∧ After g s (PH C) w' ∧ w.grownBy w' (some g) := by
  obtain ⟨j0, gi, gz0, gz1, gz2⟩ := info_parts infoTi
  have R1 := hid_intro r1
  have R2 := hid_intro r2
  have RF := hid_intro rf
  have R3 := hid_intro r3
  have R4 := hid_intro r4
  have RC2 := hid_intro rc2
  have RH := hid_intro rh
  have HH0 := hid_intro hH0
  have HHM := hid_intro hHM
  have hgw : g < w.heap.size := hA.lt
  obtain ⟨W0, hW0⟩ : ∃ W0, W0 = w.alloc (.cells #[.string ⟨#[]⟩, .int .i64 0, .bool false, .int .i64 0, .int .i64 0, .slice none 0 0] 37) := ⟨_, rfl⟩
  have HA : Hid (After g s o0 W0) := hid_intro (by rw [hW0]; exact hA.alloc _)
  have HG : Hid (w.grownBy W0 (some g)) := hid_intro (by rw [hW0]; exact World.grownBy_alloc w _ _)
  have HR : Hid (BlkW w.heap.size [.string ⟨#[]⟩, .int .i64 0, .bool false, .int .i64 0, .int .i64 0, .slice none 0 0] W0) := hid_intro (by rw [hW0]; exact BlkW.new w [.string ⟨#[]⟩, .int .i64 0, .bool false, .int .i64 0, .int .i64 0, .slice none 0 0] 37)
  have HW := hid_intro hW0
  clear r1 r2 rf r3 r4 rc2 rh hH0 hHM hA hW0
  have gsz3 : 0 < 2 := by omega
  rcases hF with ⟨rfl, rfl⟩ | ⟨rfl, rfl⟩
  · go_enter Tryd.func60, Tryd.ntmps60
    go_wp2_with fail
    rw [← HW.out]
    clear HW
    refine (R1.out _ HA.out).mono ?_
    rintro e q0 ⟨rfl, hA, hq⟩
    replace HA := hid_intro hA
    replace HG := hid_intro (gtrans HG.out hq)
    replace HR := hid_intro (blkW_grown HR.out hq (by simp; omega))
    clear hA hq
    go_wp2_with fail
    refine (R2.out _ HA.out).mono ?_
    rintro e q1 ⟨rfl, hA, hq⟩
    replace HA := hid_intro hA
    replace HG := hid_intro (gtrans HG.out hq)
    replace HR := hid_intro (blkW_grown HR.out hq (by simp; omega))
    clear hA hq
    go_wp2_with fail
    refine (RF.out _ HA.out).mono ?_
    rintro e q2 ⟨rfl, hA, hq⟩
    replace HA := hid_intro hA
    replace HG := hid_intro (gtrans HG.out hq)
    replace HR := hid_intro (blkW_grown HR.out hq (by simp; omega))
    clear hA hq
    go_wp2_with fail
    refine (R3.out _ HA.out).mono ?_
    rintro e q3 ⟨rfl, hA, hq⟩
    replace HA := hid_intro hA
    replace HG := hid_intro (gtrans HG.out hq)
    replace HR := hid_intro (blkW_grown HR.out hq (by simp; omega))
    clear hA hq
    go_wp2_with fail
    refine (R4.out _ HA.out).mono ?_
    rintro e q4 ⟨rfl, hA, hq⟩
    replace HA := hid_intro hA
    replace HG := hid_intro (gtrans HG.out hq)
    replace HR := hid_intro (blkW_grown HR.out hq (by simp; omega))
    clear hA hq
    obtain ⟨wA, hwA⟩ : ∃ z, z = q4.alloc (.cells #[.string a, .int .i64 ag, .bool false, .int .i64 fr, .int .i64 le, .slice none 0 0] 37) := ⟨_, rfl⟩
    have HV : Hid (BlkW q4.heap.size [.string a, .int .i64 ag, .bool false, .int .i64 fr, .int .i64 le, .slice none 0 0] wA) := hid_intro (by rw [hwA]; exact BlkW.new q4 [.string a, .int .i64 ag, .bool false, .int .i64 fr, .int .i64 le, .slice none 0 0] 37)
    have hlo : w.heap.size < q4.heap.size := HR.out.1.1
    replace HA : Hid (After g s o5 wA) := hid_intro (by rw [hwA]; exact HA.out.alloc _)
    replace HG : Hid (w.grownBy wA (some g)) := hid_intro (by rw [hwA]; exact galloc HG.out _)
    replace HR : Hid (BlkW w.heap.size [.string ⟨#[]⟩, .int .i64 0, .bool false, .int .i64 0, .int .i64 0, .slice none 0 0] wA) := hid_intro (by rw [hwA]; exact HR.out.below ((Below.refl _ _).alloc (Nat.le_refl _) _))
    have HW := hid_intro hwA
    obtain ⟨bV, hbV⟩ : ∃ z, z = q4.heap.size := ⟨_, rfl⟩
    rw [← hbV] at HV hlo
    have HBV := hid_intro hbV
    clear hwA hbV
    go_wp2_with fail
    rw [← HW.out, ← HBV.out]
    clear HW HBV
    refine (RC2.out _ HA.out).mono ?_
    rintro e wC ⟨rfl, hA, hq⟩
    replace HA := hid_intro hA
    replace HG := hid_intro (gtrans HG.out hq)
    replace HR := hid_intro (blkW_grown HR.out hq (by simp; omega))
    replace HV := hid_intro (blkW_grown HV.out hq (by simp; omega))
    clear hA hq
    go_wp2_with fail
    go_loopw [18] (fun z wr => ∃ (k : Nat) (ha : Option Addr) (hc : Nat), k ≤ C ∧ z = .int .i64 k ∧ Hid (After g s (PH k) wr) ∧ Hid (w.grownBy wr (some g)) ∧ Hid (BlkW w.heap.size [.string ⟨#[]⟩, .int .i64 0, .bool false, .int .i64 0, .int .i64 0, .slice none 0 0] wr) ∧ Hid (BlkW bV [.string a, .int .i64 ag, .bool false, .int .i64 fr, .int .i64 le, .slice ha k hc] wr) ∧ Hid (wr.ownsRow (bV + 1) 72 2 (.slice ha k hc) k (cellsAll Ti.cells (LH k)))) (fun z _ => C - (intOf z).toNat)
    case atStart => exact ⟨0, none, 0, by omega, rfl, HA, HG, HR, HV, hid_intro (by rw [HH0.out]; exact World.ownsRow_nil _ _ _ _)⟩
    case round =>
      clear HA HG HR HV
      obtain ⟨k, ha, hc, hk2, rfl, HA, HG, HR, HV, HO⟩ := hrel
      by_cases hlt3 : k < C
      · have hlt2 : (k : Int) < (C : Int) := by omega
        obtain ⟨om, rd1, rd2⟩ := RH.out k
        have RD1 := hid_intro rd1
        have RD2 := hid_intro rd2
        clear rd1 rd2
        have HLM := hid_intro (HHM.out k)
        generalize hh k = X at *
        generalize ss k = Y at *
        have sz1 : k + 1 ≤ maxLen := by unfold maxLen; omega
        have sz2 : (k + 1) * 16 ≤ 140737488355328 := by omega
        have hA0 := EvtR.After.below HA.out (Below.refl wr.heap.size wr).drew
        have hG0 := gtrans HG.out (EvtR.rgrown (Below.refl wr.heap.size wr).drew _)
        have hR0 := HR.out.below (Below.refl wr.heap.size wr).drew
        have hV0 := HV.out.below (Below.refl wr.heap.size wr).drew
        have hO0 := RowG.own_below HO.out (Below.refl wr.heap.size wr).drew
        have hbg : g < bV := by omega
        go_wp2_with fail
        refine wp_region_held_drew (S := (fun _ => True)) (by kernel_rfl) trivial (fun hHeld => ?_)
        generalize wr.drew = kd at *
        apply memo3 (fun bN sb sc W => (True) ∧ (After g s (PH (k + 1)) W) ∧ (w.grownBy W (some g)) ∧ (BlkW w.heap.size [.string ⟨#[]⟩, .int .i64 0, .bool false, .int .i64 0, .int .i64 0, .slice none 0 0] W) ∧ (BlkW bV [.string a, .int .i64 ag, .bool false, .int .i64 fr, .int .i64 le, .slice ha k hc] W) ∧ (W.ownsRow (bV + 1) 72 2 (.slice (some ⟨sb, 0, none⟩) (k + 1) sc) (k + 1) (cellsAll Ti.cells (LH (k + 1)))) ∧ True)
        intro N1_3_5_7_8
        apply memo1 (fun bN W => (True) ∧ (After g s (PH (k + 1)) W) ∧ (w.grownBy W (some g)) ∧ (BlkW w.heap.size [.string ⟨#[]⟩, .int .i64 0, .bool false, .int .i64 0, .int .i64 0, .slice none 0 0] W) ∧ (BlkW bV [.string a, .int .i64 ag, .bool false, .int .i64 fr, .int .i64 le, .slice ha k hc] W) ∧ (W.ownsRow (bV + 1) 72 2 (.slice ha k hc) k (cellsAll Ti.cells (LH k))) ∧ (∀ j u, ([.int .i64 X, .int .i64 Y] : List Value)[j]? = some u → W.cell? ((⟨bN, 0, none⟩ : Addr).add j) = some u) ∧ (bV < bN) ∧ True)
        intro N1_3_5_7
        apply memo0 (fun  W => (True) ∧ (After g s (PH (k + 1)) W) ∧ (w.grownBy W (some g)) ∧ (BlkW w.heap.size [.string ⟨#[]⟩, .int .i64 0, .bool false, .int .i64 0, .int .i64 0, .slice none 0 0] W) ∧ (BlkW bV [.string a, .int .i64 ag, .bool false, .int .i64 fr, .int .i64 le, .slice ha k hc] W) ∧ (W.ownsRow (bV + 1) 72 2 (.slice ha k hc) k (cellsAll Ti.cells (LH k))) ∧ True)
        intro N1_3_5
        apply memo1 (fun bN W => (True) ∧ (After g s (PH (k + 1)) W) ∧ (w.grownBy W (some g)) ∧ (BlkW w.heap.size [.string ⟨#[]⟩, .int .i64 0, .bool false, .int .i64 0, .int .i64 0, .slice none 0 0] W) ∧ (BlkW bV [.string a, .int .i64 ag, .bool false, .int .i64 fr, .int .i64 le, .slice ha k hc] W) ∧ (W.ownsRow (bV + 1) 72 2 (.slice ha k hc) k (cellsAll Ti.cells (LH k))) ∧ (∀ j u, ([.int .i64 X, .int .i64 Y] : List Value)[j]? = some u → W.cell? ((⟨bN, 0, none⟩ : Addr).add j) = some u) ∧ (bV < bN) ∧ True)
        intro N3_5_7
        apply memo0 (fun  W => (True) ∧ (After g s om W) ∧ (w.grownBy W (some g)) ∧ (BlkW w.heap.size [.string ⟨#[]⟩, .int .i64 0, .bool false, .int .i64 0, .int .i64 0, .slice none 0 0] W) ∧ (BlkW bV [.string a, .int .i64 ag, .bool false, .int .i64 fr, .int .i64 le, .slice ha k hc] W) ∧ (W.ownsRow (bV + 1) 72 2 (.slice ha k hc) k (cellsAll Ti.cells (LH k))) ∧ True)
        intro N1_3
        apply memo0 (fun  W => (True) ∧ (After g s (PH (k + 1)) W) ∧ (w.grownBy W (some g)) ∧ (BlkW w.heap.size [.string ⟨#[]⟩, .int .i64 0, .bool false, .int .i64 0, .int .i64 0, .slice none 0 0] W) ∧ (BlkW bV [.string a, .int .i64 ag, .bool false, .int .i64 fr, .int .i64 le, .slice ha k hc] W) ∧ (W.ownsRow (bV + 1) 72 2 (.slice ha k hc) k (cellsAll Ti.cells (LH k))) ∧ True)
        intro N3_5
        apply memo0 (fun  W => (True) ∧ (After g s (PH k) W) ∧ (w.grownBy W (some g)) ∧ (BlkW w.heap.size [.string ⟨#[]⟩, .int .i64 0, .bool false, .int .i64 0, .int .i64 0, .slice none 0 0] W) ∧ (BlkW bV [.string a, .int .i64 ag, .bool false, .int .i64 fr, .int .i64 le, .slice ha k hc] W) ∧ (W.ownsRow (bV + 1) 72 2 (.slice ha k hc) k (cellsAll Ti.cells (LH k))) ∧ True)
        intro N1
        apply memo0 (fun  W => (True) ∧ (After g s om W) ∧ (w.grownBy W (some g)) ∧ (BlkW w.heap.size [.string ⟨#[]⟩, .int .i64 0, .bool false, .int .i64 0, .int .i64 0, .slice none 0 0] W) ∧ (BlkW bV [.string a, .int .i64 ag, .bool false, .int .i64 fr, .int .i64 le, .slice ha k hc] W) ∧ (W.ownsRow (bV + 1) 72 2 (.slice ha k hc) k (cellsAll Ti.cells (LH k))) ∧ True)
        intro N3
        · refine wpAnyH_take (i := 0) (oi := { dst := some 20, op := Op.fieldAddr 37 (Operand.tmp 3) 5, type := 0, pos := "l05_catalog.go:175", after := #[], guard := none }) (v := ?_) rfl (by kernel_rfl) (by kernel_rfl) (by kernel_rfl) (fun _ _ _ h => h) (Or.inl ⟨by rfl, ?_⟩) (by assumption) ?_
          rotate_left
          · (intro w hSw; (try dsimp only at hSw); go_simp) <;> with_reducible rfl
          try simp only [Act.put, List.setIfInBounds_toArray, List.set_cons_zero, List.set_cons_succ]
          refine wpAnyH_take (i := 2) (oi := { dst := some 22, op := Op.move (Operand.tmp 0), type := 57, pos := "l05_catalog.go:175", after := #[], guard := none }) (v := ?_) rfl (by kernel_rfl) (by kernel_rfl) (by kernel_rfl) (fun _ _ _ h => h) (Or.inl ⟨by rfl, ?_⟩) (by assumption) ?_
          rotate_left
          · (intro w hSw; (try dsimp only at hSw); go_simp) <;> with_reducible rfl
          try simp only [Act.put, List.setIfInBounds_toArray, List.set_cons_zero, List.set_cons_succ]
          refine wpAnyH_take (i := 4) (oi := { dst := some 24, op := Op.move (Operand.tmp 0), type := 57, pos := "l05_catalog.go:175", after := #[], guard := none }) (v := ?_) rfl (by kernel_rfl) (by kernel_rfl) (by kernel_rfl) (fun _ _ _ h => h) (Or.inl ⟨by rfl, ?_⟩) (by assumption) ?_
          rotate_left
          · (intro w hSw; (try dsimp only at hSw); go_simp) <;> with_reducible rfl
          try simp only [Act.put, List.setIfInBounds_toArray, List.set_cons_zero, List.set_cons_succ]
          refine wpAnyH_ready (rs := [1, 3]) (by kernel_rfl) (by simp) ?_
          refine AllReadyH.cons (o := { dst := some 21, op := Op.load 35 (Operand.tmp 20), type := 35, pos := "l05_catalog.go:175", after := #[{ on := 0, ground := Ground.data }], guard := none }) rfl (fun K hK => ?_) (AllReadyH.cons (o := { dst := some 23, op := Op.call { callee := Callee.value (Operand.func 62), args := #[Operand.tmp 22], argTypes := #[57] }, type := 2, pos := "l05_catalog.go:175", after := #[{ on := 2, ground := Ground.data }], guard := none }) rfl (fun K hK => ?_) AllReadyH.nil)
          · have c6 := hV0.1.2 5 (by simp)
            have l6 := hV0.1.1
            simp only [List.getElem?_cons_zero, List.getElem?_cons_succ] at c6
            go_simp
            try go_wp2_with fail
            refine hK.out _ _ trivial (fun _ => ?_)
            clear hK K
            try simp only [Act.put, List.setIfInBounds_toArray, List.set_cons_zero, List.set_cons_succ]
            clear c6 l6
            exact N1.out  kd ⟨trivial, hA0, hG0, hR0, hV0, hO0, trivial⟩
          · go_simp
            go_at_call 62
            refine (RD1.out _ hA0).mono ?_
            rintro e q1 ⟨rfl, hA1, hq1⟩
            try go_wp2_with fail
            have hG1 := gtrans hG0 hq1
            have hR1 := blkW_grown hR0 hq1 (by simp; omega)
            have hV1 := blkW_grown hV0 hq1 (by simp; omega)
            have hO1 := own_keepG hO0 hq1 (by omega)
            refine hK.out _ _ trivial (fun _ => ?_)
            clear hK K
            try simp only [Act.put, List.setIfInBounds_toArray, List.set_cons_zero, List.set_cons_succ]
            exact N3.out  q1 ⟨trivial, hA1, hG1, hR1, hV1, hO1, trivial⟩
        · rintro  W ⟨hTr, hA0, hG0, hR0, hV0, hO0, _⟩
          refine wpAnyH_ready (rs := [1, 5]) (by kernel_rfl) (by simp) ?_
          refine AllReadyH.cons (o := { dst := some 21, op := Op.load 35 (Operand.tmp 20), type := 35, pos := "l05_catalog.go:175", after := #[{ on := 0, ground := Ground.data }], guard := none }) rfl (fun K hK => ?_) (AllReadyH.cons (o := { dst := some 25, op := Op.call { callee := Callee.value (Operand.func 62), args := #[Operand.tmp 24], argTypes := #[57] }, type := 2, pos := "l05_catalog.go:175", after := #[{ on := 4, ground := Ground.data }, { on := 3, ground := Ground.chain }], guard := none }) rfl (fun K hK => ?_) AllReadyH.nil)
          · have c6 := hV0.1.2 5 (by simp)
            have l6 := hV0.1.1
            simp only [List.getElem?_cons_zero, List.getElem?_cons_succ] at c6
            go_simp
            try go_wp2_with fail
            refine hK.out _ _ trivial (fun _ => ?_)
            clear hK K
            try simp only [Act.put, List.setIfInBounds_toArray, List.set_cons_zero, List.set_cons_succ]
            clear c6 l6
            exact N1_3.out  W ⟨trivial, hA0, hG0, hR0, hV0, hO0, trivial⟩
          · go_simp
            go_at_call 62
            refine (RD2.out _ hA0).mono ?_
            rintro e q1 ⟨rfl, hA1, hq1⟩
            try go_wp2_with fail
            have hG1 := gtrans hG0 hq1
            have hR1 := blkW_grown hR0 hq1 (by simp; omega)
            have hV1 := blkW_grown hV0 hq1 (by simp; omega)
            have hO1 := own_keepG hO0 hq1 (by omega)
            refine hK.out _ _ trivial (fun _ => ?_)
            clear hK K
            try simp only [Act.put, List.setIfInBounds_toArray, List.set_cons_zero, List.set_cons_succ]
            refine wpAnyH_take (i := 6) (oi := { dst := some 26, op := Op.build 72 #[(0, Operand.tmp 23), (1, Operand.tmp 25)], type := 72, pos := "l05_catalog.go:175", after := #[{ on := 3, ground := Ground.data }, { on := 5, ground := Ground.data }], guard := none }) (v := ?_) rfl (by kernel_rfl) (by kernel_rfl) (by kernel_rfl) (fun _ _ _ h => h) (Or.inl ⟨by rfl, ?_⟩) (by assumption) ?_
            rotate_left
            · (intro w hSw; (try dsimp only at hSw); go_simp) <;> with_reducible rfl
            try simp only [Act.put, List.setIfInBounds_toArray, List.set_cons_zero, List.set_cons_succ]
            exact N3_5.out  q1 ⟨trivial, hA1, hG1, hR1, hV1, hO1, trivial⟩
        · rintro  W ⟨hTr, hA0, hG0, hR0, hV0, hO0, _⟩
          refine wpAnyH_ready (rs := [3]) (by kernel_rfl) (by simp) ?_
          refine AllReadyH.cons (o := { dst := some 23, op := Op.call { callee := Callee.value (Operand.func 62), args := #[Operand.tmp 22], argTypes := #[57] }, type := 2, pos := "l05_catalog.go:175", after := #[{ on := 2, ground := Ground.data }], guard := none }) rfl (fun K hK => ?_) AllReadyH.nil
          go_simp
          go_at_call 62
          refine (RD1.out _ hA0).mono ?_
          rintro e q1 ⟨rfl, hA1, hq1⟩
          try go_wp2_with fail
          have hG1 := gtrans hG0 hq1
          have hR1 := blkW_grown hR0 hq1 (by simp; omega)
          have hV1 := blkW_grown hV0 hq1 (by simp; omega)
          have hO1 := own_keepG hO0 hq1 (by omega)
          refine hK.out _ _ trivial (fun _ => ?_)
          clear hK K
          try simp only [Act.put, List.setIfInBounds_toArray, List.set_cons_zero, List.set_cons_succ]
          exact N1_3.out  q1 ⟨trivial, hA1, hG1, hR1, hV1, hO1, trivial⟩
        · rintro  W ⟨hTr, hA0, hG0, hR0, hV0, hO0, _⟩
          refine wpAnyH_ready (rs := [1, 7]) (by kernel_rfl) (by simp) ?_
          refine AllReadyH.cons (o := { dst := some 21, op := Op.load 35 (Operand.tmp 20), type := 35, pos := "l05_catalog.go:175", after := #[{ on := 0, ground := Ground.data }], guard := none }) rfl (fun K hK => ?_) (AllReadyH.cons (o := { dst := some 27, op := Op.buildSlice 35 1 #[(0, Operand.tmp 26)], type := 35, pos := "l05_catalog.go:175", after := #[{ on := 6, ground := Ground.data }], guard := none }) rfl (fun K hK => ?_) AllReadyH.nil)
          · have c6 := hV0.1.2 5 (by simp)
            have l6 := hV0.1.1
            simp only [List.getElem?_cons_zero, List.getElem?_cons_succ] at c6
            go_simp
            try go_wp2_with fail
            refine hK.out _ _ trivial (fun _ => ?_)
            clear hK K
            try simp only [Act.put, List.setIfInBounds_toArray, List.set_cons_zero, List.set_cons_succ]
            clear c6 l6
            exact N1_3_5.out  W ⟨trivial, hA0, hG0, hR0, hV0, hO0, trivial⟩
          · go_simp
            try go_wp2_with fail
            have hA1 := hA0.alloc (Obj.cells #[.int .i64 X, .int .i64 Y] 72)
            have hG1 := galloc hG0 (Obj.cells #[.int .i64 X, .int .i64 Y] 72)
            have hR1 := hR0.below ((Below.refl W.heap.size W).alloc (Nat.le_refl _) (Obj.cells #[.int .i64 X, .int .i64 Y] 72))
            have hV1 := hV0.below ((Below.refl W.heap.size W).alloc (Nat.le_refl _) (Obj.cells #[.int .i64 X, .int .i64 Y] 72))
            have hO1 := RowG.own_below hO0 ((Below.refl W.heap.size W).alloc (Nat.le_refl _) (Obj.cells #[.int .i64 X, .int .i64 Y] 72))
            have hnw : ∀ j u, ([.int .i64 X, .int .i64 Y] : List Value)[j]? = some u → (W.alloc (Obj.cells #[.int .i64 X, .int .i64 Y] 72)).cell? ((⟨W.heap.size, 0, none⟩ : Addr).add j) = some u := new_cells W [.int .i64 X, .int .i64 Y] 72
            have hlb : bV < W.heap.size := hV0.1.1
            refine hK.out _ _ trivial (fun _ => ?_)
            clear hK K
            try simp only [Act.put, List.setIfInBounds_toArray, List.set_cons_zero, List.set_cons_succ]
            obtain ⟨bN, hbN⟩ : ∃ z, z = W.heap.size := ⟨_, rfl⟩
            rw [← hbN] at hnw hlb ⊢
            obtain ⟨k1, hk1⟩ : ∃ z, z = W.alloc (Obj.cells #[.int .i64 X, .int .i64 Y] 72) := ⟨_, rfl⟩
            rw [← hk1] at hnw hA1 hG1 hR1 hV1 hO1 ⊢
            exact N3_5_7.out bN k1 ⟨trivial, hA1, hG1, hR1, hV1, hO1, hnw, hlb, trivial⟩
        · rintro  W ⟨hTr, hA0, hG0, hR0, hV0, hO0, _⟩
          refine wpAnyH_ready (rs := [5]) (by kernel_rfl) (by simp) ?_
          refine AllReadyH.cons (o := { dst := some 25, op := Op.call { callee := Callee.value (Operand.func 62), args := #[Operand.tmp 24], argTypes := #[57] }, type := 2, pos := "l05_catalog.go:175", after := #[{ on := 4, ground := Ground.data }, { on := 3, ground := Ground.chain }], guard := none }) rfl (fun K hK => ?_) AllReadyH.nil
          go_simp
          go_at_call 62
          refine (RD2.out _ hA0).mono ?_
          rintro e q1 ⟨rfl, hA1, hq1⟩
          try go_wp2_with fail
          have hG1 := gtrans hG0 hq1
          have hR1 := blkW_grown hR0 hq1 (by simp; omega)
          have hV1 := blkW_grown hV0 hq1 (by simp; omega)
          have hO1 := own_keepG hO0 hq1 (by omega)
          refine hK.out _ _ trivial (fun _ => ?_)
          clear hK K
          try simp only [Act.put, List.setIfInBounds_toArray, List.set_cons_zero, List.set_cons_succ]
          refine wpAnyH_take (i := 6) (oi := { dst := some 26, op := Op.build 72 #[(0, Operand.tmp 23), (1, Operand.tmp 25)], type := 72, pos := "l05_catalog.go:175", after := #[{ on := 3, ground := Ground.data }, { on := 5, ground := Ground.data }], guard := none }) (v := ?_) rfl (by kernel_rfl) (by kernel_rfl) (by kernel_rfl) (fun _ _ _ h => h) (Or.inl ⟨by rfl, ?_⟩) (by assumption) ?_
          rotate_left
          · (intro w hSw; (try dsimp only at hSw); go_simp) <;> with_reducible rfl
          try simp only [Act.put, List.setIfInBounds_toArray, List.set_cons_zero, List.set_cons_succ]
          exact N1_3_5.out  q1 ⟨trivial, hA1, hG1, hR1, hV1, hO1, trivial⟩
        · rintro bN W ⟨hTr, hA0, hG0, hR0, hV0, hO0, hnw, hlb, _⟩
          refine wpAnyH_ready (rs := [1]) (by kernel_rfl) (by simp) ?_
          refine AllReadyH.cons (o := { dst := some 21, op := Op.load 35 (Operand.tmp 20), type := 35, pos := "l05_catalog.go:175", after := #[{ on := 0, ground := Ground.data }], guard := none }) rfl (fun K hK => ?_) AllReadyH.nil
          have c6 := hV0.1.2 5 (by simp)
          have l6 := hV0.1.1
          simp only [List.getElem?_cons_zero, List.getElem?_cons_succ] at c6
          go_simp
          try go_wp2_with fail
          refine hK.out _ _ trivial (fun _ => ?_)
          clear hK K
          try simp only [Act.put, List.setIfInBounds_toArray, List.set_cons_zero, List.set_cons_succ]
          clear c6 l6
          exact N1_3_5_7.out bN W ⟨trivial, hA0, hG0, hR0, hV0, hO0, hnw, hlb, trivial⟩
        · rintro  W ⟨hTr, hA0, hG0, hR0, hV0, hO0, _⟩
          refine wpAnyH_ready (rs := [7]) (by kernel_rfl) (by simp) ?_
          refine AllReadyH.cons (o := { dst := some 27, op := Op.buildSlice 35 1 #[(0, Operand.tmp 26)], type := 35, pos := "l05_catalog.go:175", after := #[{ on := 6, ground := Ground.data }], guard := none }) rfl (fun K hK => ?_) AllReadyH.nil
          go_simp
          try go_wp2_with fail
          have hA1 := hA0.alloc (Obj.cells #[.int .i64 X, .int .i64 Y] 72)
          have hG1 := galloc hG0 (Obj.cells #[.int .i64 X, .int .i64 Y] 72)
          have hR1 := hR0.below ((Below.refl W.heap.size W).alloc (Nat.le_refl _) (Obj.cells #[.int .i64 X, .int .i64 Y] 72))
          have hV1 := hV0.below ((Below.refl W.heap.size W).alloc (Nat.le_refl _) (Obj.cells #[.int .i64 X, .int .i64 Y] 72))
          have hO1 := RowG.own_below hO0 ((Below.refl W.heap.size W).alloc (Nat.le_refl _) (Obj.cells #[.int .i64 X, .int .i64 Y] 72))
          have hnw : ∀ j u, ([.int .i64 X, .int .i64 Y] : List Value)[j]? = some u → (W.alloc (Obj.cells #[.int .i64 X, .int .i64 Y] 72)).cell? ((⟨W.heap.size, 0, none⟩ : Addr).add j) = some u := new_cells W [.int .i64 X, .int .i64 Y] 72
          have hlb : bV < W.heap.size := hV0.1.1
          refine hK.out _ _ trivial (fun _ => ?_)
          clear hK K
          try simp only [Act.put, List.setIfInBounds_toArray, List.set_cons_zero, List.set_cons_succ]
          obtain ⟨bN, hbN⟩ : ∃ z, z = W.heap.size := ⟨_, rfl⟩
          rw [← hbN] at hnw hlb ⊢
          obtain ⟨k1, hk1⟩ : ∃ z, z = W.alloc (Obj.cells #[.int .i64 X, .int .i64 Y] 72) := ⟨_, rfl⟩
          rw [← hk1] at hnw hA1 hG1 hR1 hV1 hO1 ⊢
          exact N1_3_5_7.out bN k1 ⟨trivial, hA1, hG1, hR1, hV1, hO1, hnw, hlb, trivial⟩
        · rintro bN W ⟨hTr, hA0, hG0, hR0, hV0, hO0, hnw, hlb, _⟩
          refine wpAnyH_ready (rs := [8]) (by kernel_rfl) (by simp) ?_
          refine AllReadyH.cons (o := { dst := some 28, op := Op.call { callee := Callee.builtin Builtin.append, args := #[Operand.tmp 21, Operand.tmp 27], argTypes := #[35, 35] }, type := 35, pos := "l05_catalog.go:175", after := #[{ on := 1, ground := Ground.data }, { on := 7, ground := Ground.data }, { on := 5, ground := Ground.chain }], guard := none }) rfl (fun K hK => ?_) AllReadyH.nil
          refine DocR.step_append_own rfl _ _ 35 rfl (bV + 1) 72 j0 (.agg #[.int .i64 0, .int .i64 0]) 2 16 Tryd.underlying35 gi gz0 gz1 gz2 rfl gsz3 _ _ _ rfl hO0 ⟨bN, 0, none⟩ 1 1 [.int .i64 X, .int .i64 Y] rfl rfl hnw (ti_one X Y) sz1 sz2 (hV0.1.1) ?_
          intro v9 w9 hown hgrow hne
          have hA1 := after_grown hA0 hgrow (fun e => by have := (hO0.lt _ e.symm).1; omega)
          have hG1 := gnewR hG0 hgrow (fun X e => by have := (hO0.lt _ e).1; omega)
          have hR1 := blkW_grown hR0 hgrow (fun e => by have := (hO0.lt _ e.symm).1; omega)
          have hV1 := blkW_grown hV0 hgrow (fun e => by have := (hO0.lt _ e.symm).1; omega)
          have hO1 : w9.ownsRow (bV + 1) 72 2 v9 (k + 1) (cellsAll Ti.cells (LH (k + 1))) := by rw [HLM.out, cellsAll_snoc]; exact hown
          obtain ⟨sb, sc, rfl⟩ := own_form hO1
          clear hown hgrow hne hnw
          refine hK.out _ _ trivial (fun _ => ?_)
          clear hK K
          try simp only [Act.put, List.setIfInBounds_toArray, List.set_cons_zero, List.set_cons_succ]
          refine wpAnyH_take (i := 9) (oi := { dst := some 29, op := Op.fieldAddr 37 (Operand.tmp 3) 5, type := 0, pos := "l05_catalog.go:175", after := #[{ on := 0, ground := Ground.phase }, { on := 1, ground := Ground.phase }, { on := 2, ground := Ground.phase }, { on := 3, ground := Ground.phase }, { on := 4, ground := Ground.phase }, { on := 5, ground := Ground.phase }, { on := 6, ground := Ground.phase }, { on := 7, ground := Ground.phase }, { on := 8, ground := Ground.phase }], guard := none }) (v := ?_) rfl (by kernel_rfl) (by kernel_rfl) (by kernel_rfl) (fun _ _ _ h => h) (Or.inl ⟨by rfl, ?_⟩) (by assumption) ?_
          rotate_left
          · (intro w hSw; (try dsimp only at hSw); go_simp) <;> with_reducible rfl
          try simp only [Act.put, List.setIfInBounds_toArray, List.set_cons_zero, List.set_cons_succ]
          exact N1_3_5_7_8.out bN sb sc w9 ⟨trivial, hA1, hG1, hR1, hV1, hO1, trivial⟩
        · rintro bN sb sc W ⟨hTr, hA0, hG0, hR0, hV0, hO0, _⟩
          refine wpAnyH_ready (rs := [10]) (by kernel_rfl) (by simp) ?_
          refine AllReadyH.cons (o := { dst := none, op := Op.store 35 (Operand.tmp 29) (Operand.tmp 28), type := 0, pos := "l05_catalog.go:175", after := #[{ on := 9, ground := Ground.data }, { on := 8, ground := Ground.data }, { on := 8, ground := Ground.chain }, { on := 0, ground := Ground.phase }, { on := 1, ground := Ground.phase }, { on := 2, ground := Ground.phase }, { on := 3, ground := Ground.phase }, { on := 4, ground := Ground.phase }, { on := 5, ground := Ground.phase }, { on := 6, ground := Ground.phase }, { on := 7, ground := Ground.phase }, { on := 8, ground := Ground.phase }], guard := none }) rfl (fun K hK => ?_) AllReadyH.nil
          have c6 := hV0.1.2 5 (by simp)
          have l6 := hV0.1.1
          have f6 := hV0.2 5 (by simp)
          simp only [List.getElem?_cons_zero, List.getElem?_cons_succ] at c6
          go_simp
          try go_wp2_with fail
          have hg := RowG.grown_set W bV 5 (.slice (some ⟨sb, 0, none⟩) (k + 1) sc)
          have hA9 := after_grown hA0 hg (by simp; omega)
          have hG9 := gnewG hG0 hg (by omega)
          have hR9 := blkW_grown hR0 hg (by simp; omega)
          have hV9 := hV0.set 5 (.slice (some ⟨sb, 0, none⟩) (k + 1) sc) (by simp)
          have hO9 := own_keepG hO0 hg (by omega)
          simp only [List.set_cons_zero, List.set_cons_succ] at hV9
          refine hK.out _ _ trivial (fun _ => ?_)
          clear hK K
          try simp only [Act.put, List.setIfInBounds_toArray, List.set_cons_zero, List.set_cons_succ]
          generalize (W.setCell ⟨bV, 5, none⟩ (.slice (some ⟨sb, 0, none⟩) (k + 1) sc)) = kk at *
          refine wpAnyH_done (by kernel_rfl) ?_ _
          have HA9 := hid_intro hA9
          have HG9 := hid_intro hG9
          have HR9 := hid_intro hR9
          have HV9 := hid_intro hV9
          have HO9 := hid_intro hO9
          clear hA9 hG9 hR9 hV9 hO9 hg c6 l6 f6
          go_wp2_with fail
          go_roundw
          case rel => exact ⟨k + 1, some ⟨sb, 0, none⟩, sc, by omega, by go_num, HA9, HG9, HR9, HV9, HO9⟩
          case measure => simp [intOf]; omega
      · have hlt2 : ¬ (k : Int) < (C : Int) := by omega
        obtain rfl : k = C := by omega
        obtain ⟨⟨vl, vk⟩, _⟩ := HV.out
        have v0 : wr.cell? ⟨bV, 0, none⟩ = some (.string a) := vk 0 (by simp)
        have v1 : wr.cell? ⟨bV, 1, none⟩ = some (.int .i64 ag) := vk 1 (by simp)
        have v2 : wr.cell? ⟨bV, 2, none⟩ = some (.bool false) := vk 2 (by simp)
        have v3 : wr.cell? ⟨bV, 3, none⟩ = some (.int .i64 fr) := vk 3 (by simp)
        have v4 : wr.cell? ⟨bV, 4, none⟩ = some (.int .i64 le) := vk 4 (by simp)
        have v5 : wr.cell? ⟨bV, 5, none⟩ = some (.slice ha k hc) := vk 5 (by simp)
        obtain ⟨⟨rl, rk⟩, rf⟩ := HR.out
        have p0 : wr.cell? ⟨w.heap.size, 0, none⟩ = some (.string ⟨#[]⟩) := rk 0 (by simp)
        have f0 : wr.frozen? ⟨w.heap.size, 0, none⟩ = false := rf 0 (by simp)
        have p1 : wr.cell? ⟨w.heap.size, 1, none⟩ = some (.int .i64 0) := rk 1 (by simp)
        have f1 : wr.frozen? ⟨w.heap.size, 1, none⟩ = false := rf 1 (by simp)
        have p2 : wr.cell? ⟨w.heap.size, 2, none⟩ = some (.bool false) := rk 2 (by simp)
        have f2 : wr.frozen? ⟨w.heap.size, 2, none⟩ = false := rf 2 (by simp)
        have p3 : wr.cell? ⟨w.heap.size, 3, none⟩ = some (.int .i64 0) := rk 3 (by simp)
        have f3 : wr.frozen? ⟨w.heap.size, 3, none⟩ = false := rf 3 (by simp)
        have p4 : wr.cell? ⟨w.heap.size, 4, none⟩ = some (.int .i64 0) := rk 4 (by simp)
        have f4 : wr.frozen? ⟨w.heap.size, 4, none⟩ = false := rf 4 (by simp)
        have p5 : wr.cell? ⟨w.heap.size, 5, none⟩ = some (.slice none 0 0) := rk 5 (by simp)
        have f5 : wr.frozen? ⟨w.heap.size, 5, none⟩ = false := rf 5 (by simp)
        have hg := StR.stL_grown w.heap.size [.string a, .int .i64 ag, .bool false, .int .i64 fr, .int .i64 le, .slice ha k hc] 0 wr
        have HA9 := hid_intro (after_grown HA.out hg (by simp; omega))
        have HG9 := hid_intro (gnewG HG.out hg (Nat.le_refl _))
        have HO9 := hid_intro (own_keepG HO.out hg (by omega))
        simp only [StR.stL, Nat.zero_add, Nat.reduceAdd] at HA9 HG9 HO9
        clear vk rk rf hg HA HG HR HV HO
        go_wp2_with fail
        refine bodyPost_ret (v := .agg #[.string a, .int .i64 ag, .bool false, .int .i64 fr, .int .i64 le, .slice ha k hc]) (by simp [results, Tryd.results60, go_sem, p0, p1, p2, p3, p4, p5]) rfl ⟨_, _, rfl, own_low HO9.out (by omega), HA9.out, HG9.out⟩
  · go_enter Tryd.func60, Tryd.ntmps60
    go_wp2_with fail
    rw [← HW.out]
    clear HW
    refine (R1.out _ HA.out).mono ?_
    rintro e q0 ⟨rfl, hA, hq⟩
    replace HA := hid_intro hA
    replace HG := hid_intro (gtrans HG.out hq)
    replace HR := hid_intro (blkW_grown HR.out hq (by simp; omega))
    clear hA hq
    go_wp2_with fail
    refine (R2.out _ HA.out).mono ?_
    rintro e q1 ⟨rfl, hA, hq⟩
    replace HA := hid_intro hA
    replace HG := hid_intro (gtrans HG.out hq)
    replace HR := hid_intro (blkW_grown HR.out hq (by simp; omega))
    clear hA hq
    go_wp2_with fail
    refine (RF.out _ HA.out).mono ?_
    rintro e q2 ⟨rfl, hA, hq⟩
    replace HA := hid_intro hA
    replace HG := hid_intro (gtrans HG.out hq)
    replace HR := hid_intro (blkW_grown HR.out hq (by simp; omega))
    clear hA hq
    go_wp2_with fail
    refine (R3.out _ HA.out).mono ?_
    rintro e q3 ⟨rfl, hA, hq⟩
    replace HA := hid_intro hA
    replace HG := hid_intro (gtrans HG.out hq)
    replace HR := hid_intro (blkW_grown HR.out hq (by simp; omega))
    clear hA hq
    go_wp2_with fail
    refine (R4.out _ HA.out).mono ?_
    rintro e q4 ⟨rfl, hA, hq⟩
    replace HA := hid_intro hA
    replace HG := hid_intro (gtrans HG.out hq)
    replace HR := hid_intro (blkW_grown HR.out hq (by simp; omega))
    clear hA hq
    obtain ⟨wA, hwA⟩ : ∃ z, z = q4.alloc (.cells #[.string a, .int .i64 ag, .bool true, .int .i64 fr, .int .i64 le, .slice none 0 0] 37) := ⟨_, rfl⟩
    have HV : Hid (BlkW q4.heap.size [.string a, .int .i64 ag, .bool true, .int .i64 fr, .int .i64 le, .slice none 0 0] wA) := hid_intro (by rw [hwA]; exact BlkW.new q4 [.string a, .int .i64 ag, .bool true, .int .i64 fr, .int .i64 le, .slice none 0 0] 37)
    have hlo : w.heap.size < q4.heap.size := HR.out.1.1
    replace HA : Hid (After g s o5 wA) := hid_intro (by rw [hwA]; exact HA.out.alloc _)
    replace HG : Hid (w.grownBy wA (some g)) := hid_intro (by rw [hwA]; exact galloc HG.out _)
    replace HR : Hid (BlkW w.heap.size [.string ⟨#[]⟩, .int .i64 0, .bool false, .int .i64 0, .int .i64 0, .slice none 0 0] wA) := hid_intro (by rw [hwA]; exact HR.out.below ((Below.refl _ _).alloc (Nat.le_refl _) _))
    have HW := hid_intro hwA
    obtain ⟨bV, hbV⟩ : ∃ z, z = q4.heap.size := ⟨_, rfl⟩
    rw [← hbV] at HV hlo
    have HBV := hid_intro hbV
    clear hwA hbV
    go_wp2_with fail
    rw [← HW.out, ← HBV.out]
    clear HW HBV
    refine (RC2.out _ HA.out).mono ?_
    rintro e wC ⟨rfl, hA, hq⟩
    replace HA := hid_intro hA
    replace HG := hid_intro (gtrans HG.out hq)
    replace HR := hid_intro (blkW_grown HR.out hq (by simp; omega))
    replace HV := hid_intro (blkW_grown HV.out hq (by simp; omega))
    clear hA hq
    go_wp2_with fail
    go_loopw [18] (fun z wr => ∃ (k : Nat) (ha : Option Addr) (hc : Nat), k ≤ C ∧ z = .int .i64 k ∧ Hid (After g s (PH k) wr) ∧ Hid (w.grownBy wr (some g)) ∧ Hid (BlkW w.heap.size [.string ⟨#[]⟩, .int .i64 0, .bool false, .int .i64 0, .int .i64 0, .slice none 0 0] wr) ∧ Hid (BlkW bV [.string a, .int .i64 ag, .bool true, .int .i64 fr, .int .i64 le, .slice ha k hc] wr) ∧ Hid (wr.ownsRow (bV + 1) 72 2 (.slice ha k hc) k (cellsAll Ti.cells (LH k)))) (fun z _ => C - (intOf z).toNat)
    case atStart => exact ⟨0, none, 0, by omega, rfl, HA, HG, HR, HV, hid_intro (by rw [HH0.out]; exact World.ownsRow_nil _ _ _ _)⟩
    case round =>
      clear HA HG HR HV
      obtain ⟨k, ha, hc, hk2, rfl, HA, HG, HR, HV, HO⟩ := hrel
      by_cases hlt3 : k < C
      · have hlt2 : (k : Int) < (C : Int) := by omega
        obtain ⟨om, rd1, rd2⟩ := RH.out k
        have RD1 := hid_intro rd1
        have RD2 := hid_intro rd2
        clear rd1 rd2
        have HLM := hid_intro (HHM.out k)
        generalize hh k = X at *
        generalize ss k = Y at *
        have sz1 : k + 1 ≤ maxLen := by unfold maxLen; omega
        have sz2 : (k + 1) * 16 ≤ 140737488355328 := by omega
        have hA0 := EvtR.After.below HA.out (Below.refl wr.heap.size wr).drew
        have hG0 := gtrans HG.out (EvtR.rgrown (Below.refl wr.heap.size wr).drew _)
        have hR0 := HR.out.below (Below.refl wr.heap.size wr).drew
        have hV0 := HV.out.below (Below.refl wr.heap.size wr).drew
        have hO0 := RowG.own_below HO.out (Below.refl wr.heap.size wr).drew
        have hbg : g < bV := by omega
        go_wp2_with fail
        refine wp_region_held_drew (S := (fun _ => True)) (by kernel_rfl) trivial (fun hHeld => ?_)
        generalize wr.drew = kd at *
        apply memo3 (fun bN sb sc W => (True) ∧ (After g s (PH (k + 1)) W) ∧ (w.grownBy W (some g)) ∧ (BlkW w.heap.size [.string ⟨#[]⟩, .int .i64 0, .bool false, .int .i64 0, .int .i64 0, .slice none 0 0] W) ∧ (BlkW bV [.string a, .int .i64 ag, .bool true, .int .i64 fr, .int .i64 le, .slice ha k hc] W) ∧ (W.ownsRow (bV + 1) 72 2 (.slice (some ⟨sb, 0, none⟩) (k + 1) sc) (k + 1) (cellsAll Ti.cells (LH (k + 1)))) ∧ True)
        intro N1_3_5_7_8
        apply memo1 (fun bN W => (True) ∧ (After g s (PH (k + 1)) W) ∧ (w.grownBy W (some g)) ∧ (BlkW w.heap.size [.string ⟨#[]⟩, .int .i64 0, .bool false, .int .i64 0, .int .i64 0, .slice none 0 0] W) ∧ (BlkW bV [.string a, .int .i64 ag, .bool true, .int .i64 fr, .int .i64 le, .slice ha k hc] W) ∧ (W.ownsRow (bV + 1) 72 2 (.slice ha k hc) k (cellsAll Ti.cells (LH k))) ∧ (∀ j u, ([.int .i64 X, .int .i64 Y] : List Value)[j]? = some u → W.cell? ((⟨bN, 0, none⟩ : Addr).add j) = some u) ∧ (bV < bN) ∧ True)
        intro N1_3_5_7
        apply memo0 (fun  W => (True) ∧ (After g s (PH (k + 1)) W) ∧ (w.grownBy W (some g)) ∧ (BlkW w.heap.size [.string ⟨#[]⟩, .int .i64 0, .bool false, .int .i64 0, .int .i64 0, .slice none 0 0] W) ∧ (BlkW bV [.string a, .int .i64 ag, .bool true, .int .i64 fr, .int .i64 le, .slice ha k hc] W) ∧ (W.ownsRow (bV + 1) 72 2 (.slice ha k hc) k (cellsAll Ti.cells (LH k))) ∧ True)
        intro N1_3_5
        apply memo1 (fun bN W => (True) ∧ (After g s (PH (k + 1)) W) ∧ (w.grownBy W (some g)) ∧ (BlkW w.heap.size [.string ⟨#[]⟩, .int .i64 0, .bool false, .int .i64 0, .int .i64 0, .slice none 0 0] W) ∧ (BlkW bV [.string a, .int .i64 ag, .bool true, .int .i64 fr, .int .i64 le, .slice ha k hc] W) ∧ (W.ownsRow (bV + 1) 72 2 (.slice ha k hc) k (cellsAll Ti.cells (LH k))) ∧ (∀ j u, ([.int .i64 X, .int .i64 Y] : List Value)[j]? = some u → W.cell? ((⟨bN, 0, none⟩ : Addr).add j) = some u) ∧ (bV < bN) ∧ True)
        intro N3_5_7
        apply memo0 (fun  W => (True) ∧ (After g s om W) ∧ (w.grownBy W (some g)) ∧ (BlkW w.heap.size [.string ⟨#[]⟩, .int .i64 0, .bool false, .int .i64 0, .int .i64 0, .slice none 0 0] W) ∧ (BlkW bV [.string a, .int .i64 ag, .bool true, .int .i64 fr, .int .i64 le, .slice ha k hc] W) ∧ (W.ownsRow (bV + 1) 72 2 (.slice ha k hc) k (cellsAll Ti.cells (LH k))) ∧ True)
        intro N1_3
        apply memo0 (fun  W => (True) ∧ (After g s (PH (k + 1)) W) ∧ (w.grownBy W (some g)) ∧ (BlkW w.heap.size [.string ⟨#[]⟩, .int .i64 0, .bool false, .int .i64 0, .int .i64 0, .slice none 0 0] W) ∧ (BlkW bV [.string a, .int .i64 ag, .bool true, .int .i64 fr, .int .i64 le, .slice ha k hc] W) ∧ (W.ownsRow (bV + 1) 72 2 (.slice ha k hc) k (cellsAll Ti.cells (LH k))) ∧ True)
        intro N3_5
        apply memo0 (fun  W => (True) ∧ (After g s (PH k) W) ∧ (w.grownBy W (some g)) ∧ (BlkW w.heap.size [.string ⟨#[]⟩, .int .i64 0, .bool false, .int .i64 0, .int .i64 0, .slice none 0 0] W) ∧ (BlkW bV [.string a, .int .i64 ag, .bool true, .int .i64 fr, .int .i64 le, .slice ha k hc] W) ∧ (W.ownsRow (bV + 1) 72 2 (.slice ha k hc) k (cellsAll Ti.cells (LH k))) ∧ True)
        intro N1
        apply memo0 (fun  W => (True) ∧ (After g s om W) ∧ (w.grownBy W (some g)) ∧ (BlkW w.heap.size [.string ⟨#[]⟩, .int .i64 0, .bool false, .int .i64 0, .int .i64 0, .slice none 0 0] W) ∧ (BlkW bV [.string a, .int .i64 ag, .bool true, .int .i64 fr, .int .i64 le, .slice ha k hc] W) ∧ (W.ownsRow (bV + 1) 72 2 (.slice ha k hc) k (cellsAll Ti.cells (LH k))) ∧ True)
        intro N3
        · refine wpAnyH_take (i := 0) (oi := { dst := some 20, op := Op.fieldAddr 37 (Operand.tmp 3) 5, type := 0, pos := "l05_catalog.go:175", after := #[], guard := none }) (v := ?_) rfl (by kernel_rfl) (by kernel_rfl) (by kernel_rfl) (fun _ _ _ h => h) (Or.inl ⟨by rfl, ?_⟩) (by assumption) ?_
          rotate_left
          · (intro w hSw; (try dsimp only at hSw); go_simp) <;> with_reducible rfl
          try simp only [Act.put, List.setIfInBounds_toArray, List.set_cons_zero, List.set_cons_succ]
          refine wpAnyH_take (i := 2) (oi := { dst := some 22, op := Op.move (Operand.tmp 0), type := 57, pos := "l05_catalog.go:175", after := #[], guard := none }) (v := ?_) rfl (by kernel_rfl) (by kernel_rfl) (by kernel_rfl) (fun _ _ _ h => h) (Or.inl ⟨by rfl, ?_⟩) (by assumption) ?_
          rotate_left
          · (intro w hSw; (try dsimp only at hSw); go_simp) <;> with_reducible rfl
          try simp only [Act.put, List.setIfInBounds_toArray, List.set_cons_zero, List.set_cons_succ]
          refine wpAnyH_take (i := 4) (oi := { dst := some 24, op := Op.move (Operand.tmp 0), type := 57, pos := "l05_catalog.go:175", after := #[], guard := none }) (v := ?_) rfl (by kernel_rfl) (by kernel_rfl) (by kernel_rfl) (fun _ _ _ h => h) (Or.inl ⟨by rfl, ?_⟩) (by assumption) ?_
          rotate_left
          · (intro w hSw; (try dsimp only at hSw); go_simp) <;> with_reducible rfl
          try simp only [Act.put, List.setIfInBounds_toArray, List.set_cons_zero, List.set_cons_succ]
          refine wpAnyH_ready (rs := [1, 3]) (by kernel_rfl) (by simp) ?_
          refine AllReadyH.cons (o := { dst := some 21, op := Op.load 35 (Operand.tmp 20), type := 35, pos := "l05_catalog.go:175", after := #[{ on := 0, ground := Ground.data }], guard := none }) rfl (fun K hK => ?_) (AllReadyH.cons (o := { dst := some 23, op := Op.call { callee := Callee.value (Operand.func 62), args := #[Operand.tmp 22], argTypes := #[57] }, type := 2, pos := "l05_catalog.go:175", after := #[{ on := 2, ground := Ground.data }], guard := none }) rfl (fun K hK => ?_) AllReadyH.nil)
          · have c6 := hV0.1.2 5 (by simp)
            have l6 := hV0.1.1
            simp only [List.getElem?_cons_zero, List.getElem?_cons_succ] at c6
            go_simp
            try go_wp2_with fail
            refine hK.out _ _ trivial (fun _ => ?_)
            clear hK K
            try simp only [Act.put, List.setIfInBounds_toArray, List.set_cons_zero, List.set_cons_succ]
            clear c6 l6
            exact N1.out  kd ⟨trivial, hA0, hG0, hR0, hV0, hO0, trivial⟩
          · go_simp
            go_at_call 62
            refine (RD1.out _ hA0).mono ?_
            rintro e q1 ⟨rfl, hA1, hq1⟩
            try go_wp2_with fail
            have hG1 := gtrans hG0 hq1
            have hR1 := blkW_grown hR0 hq1 (by simp; omega)
            have hV1 := blkW_grown hV0 hq1 (by simp; omega)
            have hO1 := own_keepG hO0 hq1 (by omega)
            refine hK.out _ _ trivial (fun _ => ?_)
            clear hK K
            try simp only [Act.put, List.setIfInBounds_toArray, List.set_cons_zero, List.set_cons_succ]
            exact N3.out  q1 ⟨trivial, hA1, hG1, hR1, hV1, hO1, trivial⟩
        · rintro  W ⟨hTr, hA0, hG0, hR0, hV0, hO0, _⟩
          refine wpAnyH_ready (rs := [1, 5]) (by kernel_rfl) (by simp) ?_
          refine AllReadyH.cons (o := { dst := some 21, op := Op.load 35 (Operand.tmp 20), type := 35, pos := "l05_catalog.go:175", after := #[{ on := 0, ground := Ground.data }], guard := none }) rfl (fun K hK => ?_) (AllReadyH.cons (o := { dst := some 25, op := Op.call { callee := Callee.value (Operand.func 62), args := #[Operand.tmp 24], argTypes := #[57] }, type := 2, pos := "l05_catalog.go:175", after := #[{ on := 4, ground := Ground.data }, { on := 3, ground := Ground.chain }], guard := none }) rfl (fun K hK => ?_) AllReadyH.nil)
          · have c6 := hV0.1.2 5 (by simp)
            have l6 := hV0.1.1
            simp only [List.getElem?_cons_zero, List.getElem?_cons_succ] at c6
            go_simp
            try go_wp2_with fail
            refine hK.out _ _ trivial (fun _ => ?_)
            clear hK K
            try simp only [Act.put, List.setIfInBounds_toArray, List.set_cons_zero, List.set_cons_succ]
            clear c6 l6
            exact N1_3.out  W ⟨trivial, hA0, hG0, hR0, hV0, hO0, trivial⟩
          · go_simp
            go_at_call 62
            refine (RD2.out _ hA0).mono ?_
            rintro e q1 ⟨rfl, hA1, hq1⟩
            try go_wp2_with fail
            have hG1 := gtrans hG0 hq1
            have hR1 := blkW_grown hR0 hq1 (by simp; omega)
            have hV1 := blkW_grown hV0 hq1 (by simp; omega)
            have hO1 := own_keepG hO0 hq1 (by omega)
            refine hK.out _ _ trivial (fun _ => ?_)
            clear hK K
            try simp only [Act.put, List.setIfInBounds_toArray, List.set_cons_zero, List.set_cons_succ]
            refine wpAnyH_take (i := 6) (oi := { dst := some 26, op := Op.build 72 #[(0, Operand.tmp 23), (1, Operand.tmp 25)], type := 72, pos := "l05_catalog.go:175", after := #[{ on := 3, ground := Ground.data }, { on := 5, ground := Ground.data }], guard := none }) (v := ?_) rfl (by kernel_rfl) (by kernel_rfl) (by kernel_rfl) (fun _ _ _ h => h) (Or.inl ⟨by rfl, ?_⟩) (by assumption) ?_
            rotate_left
            · (intro w hSw; (try dsimp only at hSw); go_simp) <;> with_reducible rfl
            try simp only [Act.put, List.setIfInBounds_toArray, List.set_cons_zero, List.set_cons_succ]
            exact N3_5.out  q1 ⟨trivial, hA1, hG1, hR1, hV1, hO1, trivial⟩
        · rintro  W ⟨hTr, hA0, hG0, hR0, hV0, hO0, _⟩
          refine wpAnyH_ready (rs := [3]) (by kernel_rfl) (by simp) ?_
          refine AllReadyH.cons (o := { dst := some 23, op := Op.call { callee := Callee.value (Operand.func 62), args := #[Operand.tmp 22], argTypes := #[57] }, type := 2, pos := "l05_catalog.go:175", after := #[{ on := 2, ground := Ground.data }], guard := none }) rfl (fun K hK => ?_) AllReadyH.nil
          go_simp
          go_at_call 62
          refine (RD1.out _ hA0).mono ?_
          rintro e q1 ⟨rfl, hA1, hq1⟩
          try go_wp2_with fail
          have hG1 := gtrans hG0 hq1
          have hR1 := blkW_grown hR0 hq1 (by simp; omega)
          have hV1 := blkW_grown hV0 hq1 (by simp; omega)
          have hO1 := own_keepG hO0 hq1 (by omega)
          refine hK.out _ _ trivial (fun _ => ?_)
          clear hK K
          try simp only [Act.put, List.setIfInBounds_toArray, List.set_cons_zero, List.set_cons_succ]
          exact N1_3.out  q1 ⟨trivial, hA1, hG1, hR1, hV1, hO1, trivial⟩
        · rintro  W ⟨hTr, hA0, hG0, hR0, hV0, hO0, _⟩
          refine wpAnyH_ready (rs := [1, 7]) (by kernel_rfl) (by simp) ?_
          refine AllReadyH.cons (o := { dst := some 21, op := Op.load 35 (Operand.tmp 20), type := 35, pos := "l05_catalog.go:175", after := #[{ on := 0, ground := Ground.data }], guard := none }) rfl (fun K hK => ?_) (AllReadyH.cons (o := { dst := some 27, op := Op.buildSlice 35 1 #[(0, Operand.tmp 26)], type := 35, pos := "l05_catalog.go:175", after := #[{ on := 6, ground := Ground.data }], guard := none }) rfl (fun K hK => ?_) AllReadyH.nil)
          · have c6 := hV0.1.2 5 (by simp)
            have l6 := hV0.1.1
            simp only [List.getElem?_cons_zero, List.getElem?_cons_succ] at c6
            go_simp
            try go_wp2_with fail
            refine hK.out _ _ trivial (fun _ => ?_)
            clear hK K
            try simp only [Act.put, List.setIfInBounds_toArray, List.set_cons_zero, List.set_cons_succ]
            clear c6 l6
            exact N1_3_5.out  W ⟨trivial, hA0, hG0, hR0, hV0, hO0, trivial⟩
          · go_simp
            try go_wp2_with fail
            have hA1 := hA0.alloc (Obj.cells #[.int .i64 X, .int .i64 Y] 72)
            have hG1 := galloc hG0 (Obj.cells #[.int .i64 X, .int .i64 Y] 72)
            have hR1 := hR0.below ((Below.refl W.heap.size W).alloc (Nat.le_refl _) (Obj.cells #[.int .i64 X, .int .i64 Y] 72))
            have hV1 := hV0.below ((Below.refl W.heap.size W).alloc (Nat.le_refl _) (Obj.cells #[.int .i64 X, .int .i64 Y] 72))
            have hO1 := RowG.own_below hO0 ((Below.refl W.heap.size W).alloc (Nat.le_refl _) (Obj.cells #[.int .i64 X, .int .i64 Y] 72))
            have hnw : ∀ j u, ([.int .i64 X, .int .i64 Y] : List Value)[j]? = some u → (W.alloc (Obj.cells #[.int .i64 X, .int .i64 Y] 72)).cell? ((⟨W.heap.size, 0, none⟩ : Addr).add j) = some u := new_cells W [.int .i64 X, .int .i64 Y] 72
            have hlb : bV < W.heap.size := hV0.1.1
            refine hK.out _ _ trivial (fun _ => ?_)
            clear hK K
            try simp only [Act.put, List.setIfInBounds_toArray, List.set_cons_zero, List.set_cons_succ]
            obtain ⟨bN, hbN⟩ : ∃ z, z = W.heap.size := ⟨_, rfl⟩
            rw [← hbN] at hnw hlb ⊢
            obtain ⟨k1, hk1⟩ : ∃ z, z = W.alloc (Obj.cells #[.int .i64 X, .int .i64 Y] 72) := ⟨_, rfl⟩
            rw [← hk1] at hnw hA1 hG1 hR1 hV1 hO1 ⊢
            exact N3_5_7.out bN k1 ⟨trivial, hA1, hG1, hR1, hV1, hO1, hnw, hlb, trivial⟩
        · rintro  W ⟨hTr, hA0, hG0, hR0, hV0, hO0, _⟩
          refine wpAnyH_ready (rs := [5]) (by kernel_rfl) (by simp) ?_
          refine AllReadyH.cons (o := { dst := some 25, op := Op.call { callee := Callee.value (Operand.func 62), args := #[Operand.tmp 24], argTypes := #[57] }, type := 2, pos := "l05_catalog.go:175", after := #[{ on := 4, ground := Ground.data }, { on := 3, ground := Ground.chain }], guard := none }) rfl (fun K hK => ?_) AllReadyH.nil
          go_simp
          go_at_call 62
          refine (RD2.out _ hA0).mono ?_
          rintro e q1 ⟨rfl, hA1, hq1⟩
          try go_wp2_with fail
          have hG1 := gtrans hG0 hq1
          have hR1 := blkW_grown hR0 hq1 (by simp; omega)
          have hV1 := blkW_grown hV0 hq1 (by simp; omega)
          have hO1 := own_keepG hO0 hq1 (by omega)
          refine hK.out _ _ trivial (fun _ => ?_)
          clear hK K
          try simp only [Act.put, List.setIfInBounds_toArray, List.set_cons_zero, List.set_cons_succ]
          refine wpAnyH_take (i := 6) (oi := { dst := some 26, op := Op.build 72 #[(0, Operand.tmp 23), (1, Operand.tmp 25)], type := 72, pos := "l05_catalog.go:175", after := #[{ on := 3, ground := Ground.data }, { on := 5, ground := Ground.data }], guard := none }) (v := ?_) rfl (by kernel_rfl) (by kernel_rfl) (by kernel_rfl) (fun _ _ _ h => h) (Or.inl ⟨by rfl, ?_⟩) (by assumption) ?_
          rotate_left
          · (intro w hSw; (try dsimp only at hSw); go_simp) <;> with_reducible rfl
          try simp only [Act.put, List.setIfInBounds_toArray, List.set_cons_zero, List.set_cons_succ]
          exact N1_3_5.out  q1 ⟨trivial, hA1, hG1, hR1, hV1, hO1, trivial⟩
        · rintro bN W ⟨hTr, hA0, hG0, hR0, hV0, hO0, hnw, hlb, _⟩
          refine wpAnyH_ready (rs := [1]) (by kernel_rfl) (by simp) ?_
          refine AllReadyH.cons (o := { dst := some 21, op := Op.load 35 (Operand.tmp 20), type := 35, pos := "l05_catalog.go:175", after := #[{ on := 0, ground := Ground.data }], guard := none }) rfl (fun K hK => ?_) AllReadyH.nil
          have c6 := hV0.1.2 5 (by simp)
          have l6 := hV0.1.1
          simp only [List.getElem?_cons_zero, List.getElem?_cons_succ] at c6
          go_simp
          try go_wp2_with fail
          refine hK.out _ _ trivial (fun _ => ?_)
          clear hK K
          try simp only [Act.put, List.setIfInBounds_toArray, List.set_cons_zero, List.set_cons_succ]
          clear c6 l6
          exact N1_3_5_7.out bN W ⟨trivial, hA0, hG0, hR0, hV0, hO0, hnw, hlb, trivial⟩
        · rintro  W ⟨hTr, hA0, hG0, hR0, hV0, hO0, _⟩
          refine wpAnyH_ready (rs := [7]) (by kernel_rfl) (by simp) ?_
          refine AllReadyH.cons (o := { dst := some 27, op := Op.buildSlice 35 1 #[(0, Operand.tmp 26)], type := 35, pos := "l05_catalog.go:175", after := #[{ on := 6, ground := Ground.data }], guard := none }) rfl (fun K hK => ?_) AllReadyH.nil
          go_simp
          try go_wp2_with fail
          have hA1 := hA0.alloc (Obj.cells #[.int .i64 X, .int .i64 Y] 72)
          have hG1 := galloc hG0 (Obj.cells #[.int .i64 X, .int .i64 Y] 72)
          have hR1 := hR0.below ((Below.refl W.heap.size W).alloc (Nat.le_refl _) (Obj.cells #[.int .i64 X, .int .i64 Y] 72))
          have hV1 := hV0.below ((Below.refl W.heap.size W).alloc (Nat.le_refl _) (Obj.cells #[.int .i64 X, .int .i64 Y] 72))
          have hO1 := RowG.own_below hO0 ((Below.refl W.heap.size W).alloc (Nat.le_refl _) (Obj.cells #[.int .i64 X, .int .i64 Y] 72))
          have hnw : ∀ j u, ([.int .i64 X, .int .i64 Y] : List Value)[j]? = some u → (W.alloc (Obj.cells #[.int .i64 X, .int .i64 Y] 72)).cell? ((⟨W.heap.size, 0, none⟩ : Addr).add j) = some u := new_cells W [.int .i64 X, .int .i64 Y] 72
          have hlb : bV < W.heap.size := hV0.1.1
          refine hK.out _ _ trivial (fun _ => ?_)
          clear hK K
          try simp only [Act.put, List.setIfInBounds_toArray, List.set_cons_zero, List.set_cons_succ]
          obtain ⟨bN, hbN⟩ : ∃ z, z = W.heap.size := ⟨_, rfl⟩
          rw [← hbN] at hnw hlb ⊢
          obtain ⟨k1, hk1⟩ : ∃ z, z = W.alloc (Obj.cells #[.int .i64 X, .int .i64 Y] 72) := ⟨_, rfl⟩
          rw [← hk1] at hnw hA1 hG1 hR1 hV1 hO1 ⊢
          exact N1_3_5_7.out bN k1 ⟨trivial, hA1, hG1, hR1, hV1, hO1, hnw, hlb, trivial⟩
        · rintro bN W ⟨hTr, hA0, hG0, hR0, hV0, hO0, hnw, hlb, _⟩
          refine wpAnyH_ready (rs := [8]) (by kernel_rfl) (by simp) ?_
          refine AllReadyH.cons (o := { dst := some 28, op := Op.call { callee := Callee.builtin Builtin.append, args := #[Operand.tmp 21, Operand.tmp 27], argTypes := #[35, 35] }, type := 35, pos := "l05_catalog.go:175", after := #[{ on := 1, ground := Ground.data }, { on := 7, ground := Ground.data }, { on := 5, ground := Ground.chain }], guard := none }) rfl (fun K hK => ?_) AllReadyH.nil
          refine DocR.step_append_own rfl _ _ 35 rfl (bV + 1) 72 j0 (.agg #[.int .i64 0, .int .i64 0]) 2 16 Tryd.underlying35 gi gz0 gz1 gz2 rfl gsz3 _ _ _ rfl hO0 ⟨bN, 0, none⟩ 1 1 [.int .i64 X, .int .i64 Y] rfl rfl hnw (ti_one X Y) sz1 sz2 (hV0.1.1) ?_
          intro v9 w9 hown hgrow hne
          have hA1 := after_grown hA0 hgrow (fun e => by have := (hO0.lt _ e.symm).1; omega)
          have hG1 := gnewR hG0 hgrow (fun X e => by have := (hO0.lt _ e).1; omega)
          have hR1 := blkW_grown hR0 hgrow (fun e => by have := (hO0.lt _ e.symm).1; omega)
          have hV1 := blkW_grown hV0 hgrow (fun e => by have := (hO0.lt _ e.symm).1; omega)
          have hO1 : w9.ownsRow (bV + 1) 72 2 v9 (k + 1) (cellsAll Ti.cells (LH (k + 1))) := by rw [HLM.out, cellsAll_snoc]; exact hown
          obtain ⟨sb, sc, rfl⟩ := own_form hO1
          clear hown hgrow hne hnw
          refine hK.out _ _ trivial (fun _ => ?_)
          clear hK K
          try simp only [Act.put, List.setIfInBounds_toArray, List.set_cons_zero, List.set_cons_succ]
          refine wpAnyH_take (i := 9) (oi := { dst := some 29, op := Op.fieldAddr 37 (Operand.tmp 3) 5, type := 0, pos := "l05_catalog.go:175", after := #[{ on := 0, ground := Ground.phase }, { on := 1, ground := Ground.phase }, { on := 2, ground := Ground.phase }, { on := 3, ground := Ground.phase }, { on := 4, ground := Ground.phase }, { on := 5, ground := Ground.phase }, { on := 6, ground := Ground.phase }, { on := 7, ground := Ground.phase }, { on := 8, ground := Ground.phase }], guard := none }) (v := ?_) rfl (by kernel_rfl) (by kernel_rfl) (by kernel_rfl) (fun _ _ _ h => h) (Or.inl ⟨by rfl, ?_⟩) (by assumption) ?_
          rotate_left
          · (intro w hSw; (try dsimp only at hSw); go_simp) <;> with_reducible rfl
          try simp only [Act.put, List.setIfInBounds_toArray, List.set_cons_zero, List.set_cons_succ]
          exact N1_3_5_7_8.out bN sb sc w9 ⟨trivial, hA1, hG1, hR1, hV1, hO1, trivial⟩
        · rintro bN sb sc W ⟨hTr, hA0, hG0, hR0, hV0, hO0, _⟩
          refine wpAnyH_ready (rs := [10]) (by kernel_rfl) (by simp) ?_
          refine AllReadyH.cons (o := { dst := none, op := Op.store 35 (Operand.tmp 29) (Operand.tmp 28), type := 0, pos := "l05_catalog.go:175", after := #[{ on := 9, ground := Ground.data }, { on := 8, ground := Ground.data }, { on := 8, ground := Ground.chain }, { on := 0, ground := Ground.phase }, { on := 1, ground := Ground.phase }, { on := 2, ground := Ground.phase }, { on := 3, ground := Ground.phase }, { on := 4, ground := Ground.phase }, { on := 5, ground := Ground.phase }, { on := 6, ground := Ground.phase }, { on := 7, ground := Ground.phase }, { on := 8, ground := Ground.phase }], guard := none }) rfl (fun K hK => ?_) AllReadyH.nil
          have c6 := hV0.1.2 5 (by simp)
          have l6 := hV0.1.1
          have f6 := hV0.2 5 (by simp)
          simp only [List.getElem?_cons_zero, List.getElem?_cons_succ] at c6
          go_simp
          try go_wp2_with fail
          have hg := RowG.grown_set W bV 5 (.slice (some ⟨sb, 0, none⟩) (k + 1) sc)
          have hA9 := after_grown hA0 hg (by simp; omega)
          have hG9 := gnewG hG0 hg (by omega)
          have hR9 := blkW_grown hR0 hg (by simp; omega)
          have hV9 := hV0.set 5 (.slice (some ⟨sb, 0, none⟩) (k + 1) sc) (by simp)
          have hO9 := own_keepG hO0 hg (by omega)
          simp only [List.set_cons_zero, List.set_cons_succ] at hV9
          refine hK.out _ _ trivial (fun _ => ?_)
          clear hK K
          try simp only [Act.put, List.setIfInBounds_toArray, List.set_cons_zero, List.set_cons_succ]
          generalize (W.setCell ⟨bV, 5, none⟩ (.slice (some ⟨sb, 0, none⟩) (k + 1) sc)) = kk at *
          refine wpAnyH_done (by kernel_rfl) ?_ _
          have HA9 := hid_intro hA9
          have HG9 := hid_intro hG9
          have HR9 := hid_intro hR9
          have HV9 := hid_intro hV9
          have HO9 := hid_intro hO9
          clear hA9 hG9 hR9 hV9 hO9 hg c6 l6 f6
          go_wp2_with fail
          go_roundw
          case rel => exact ⟨k + 1, some ⟨sb, 0, none⟩, sc, by omega, by go_num, HA9, HG9, HR9, HV9, HO9⟩
          case measure => simp [intOf]; omega
      · have hlt2 : ¬ (k : Int) < (C : Int) := by omega
        obtain rfl : k = C := by omega
        obtain ⟨⟨vl, vk⟩, _⟩ := HV.out
        have v0 : wr.cell? ⟨bV, 0, none⟩ = some (.string a) := vk 0 (by simp)
        have v1 : wr.cell? ⟨bV, 1, none⟩ = some (.int .i64 ag) := vk 1 (by simp)
        have v2 : wr.cell? ⟨bV, 2, none⟩ = some (.bool true) := vk 2 (by simp)
        have v3 : wr.cell? ⟨bV, 3, none⟩ = some (.int .i64 fr) := vk 3 (by simp)
        have v4 : wr.cell? ⟨bV, 4, none⟩ = some (.int .i64 le) := vk 4 (by simp)
        have v5 : wr.cell? ⟨bV, 5, none⟩ = some (.slice ha k hc) := vk 5 (by simp)
        obtain ⟨⟨rl, rk⟩, rf⟩ := HR.out
        have p0 : wr.cell? ⟨w.heap.size, 0, none⟩ = some (.string ⟨#[]⟩) := rk 0 (by simp)
        have f0 : wr.frozen? ⟨w.heap.size, 0, none⟩ = false := rf 0 (by simp)
        have p1 : wr.cell? ⟨w.heap.size, 1, none⟩ = some (.int .i64 0) := rk 1 (by simp)
        have f1 : wr.frozen? ⟨w.heap.size, 1, none⟩ = false := rf 1 (by simp)
        have p2 : wr.cell? ⟨w.heap.size, 2, none⟩ = some (.bool false) := rk 2 (by simp)
        have f2 : wr.frozen? ⟨w.heap.size, 2, none⟩ = false := rf 2 (by simp)
        have p3 : wr.cell? ⟨w.heap.size, 3, none⟩ = some (.int .i64 0) := rk 3 (by simp)
        have f3 : wr.frozen? ⟨w.heap.size, 3, none⟩ = false := rf 3 (by simp)
        have p4 : wr.cell? ⟨w.heap.size, 4, none⟩ = some (.int .i64 0) := rk 4 (by simp)
        have f4 : wr.frozen? ⟨w.heap.size, 4, none⟩ = false := rf 4 (by simp)
        have p5 : wr.cell? ⟨w.heap.size, 5, none⟩ = some (.slice none 0 0) := rk 5 (by simp)
        have f5 : wr.frozen? ⟨w.heap.size, 5, none⟩ = false := rf 5 (by simp)
        have hg := StR.stL_grown w.heap.size [.string a, .int .i64 ag, .bool true, .int .i64 fr, .int .i64 le, .slice ha k hc] 0 wr
        have HA9 := hid_intro (after_grown HA.out hg (by simp; omega))
        have HG9 := hid_intro (gnewG HG.out hg (Nat.le_refl _))
        have HO9 := hid_intro (own_keepG HO.out hg (by omega))
        simp only [StR.stL, Nat.zero_add, Nat.reduceAdd] at HA9 HG9 HO9
        clear vk rk rf hg HA HG HR HV HO
        go_wp2_with fail
        refine bodyPost_ret (v := .agg #[.string a, .int .i64 ag, .bool true, .int .i64 fr, .int .i64 le, .slice ha k hc]) (by simp [results, Tryd.results60, go_sem, p0, p1, p2, p3, p4, p5]) rfl ⟨_, _, rfl, own_low HO9.out (by omega), HA9.out, HG9.out⟩
end CatR
end Go.Proofs.YtaedolophhcjjaaDoor
namespace Go.Proofs.YtaedolophhcjjaaDoor
open Go.ChangeShapes Go.WideShapes Go.ChangeAt Go.RowKit
set_option linter.unusedVariables false
namespace SpR
open EvtR (rT pT rN pN rC pC rC_le txtAt txtAt_back txtB cut_two cut_size rT_size)
open NumsR (numAt numAt_back I64)
open NumR (numB numB_size)
open JoinR (joinB)
open DocR (joinB_app joinB_one)
/-- A text's bytes. -/
def txB (t : ByteArray) : ByteArray := numB t.size ++ t
/-- These bytes are spelled by these parts. -/
def Sp (s : ByteArray) (p q : Nat) (L : List ByteArray) : Prop := p ≤ q ∧ q ≤ s.size ∧ s.extract p q = joinB L
theorem sp_nil {s : ByteArray} {p : Nat} (h : p ≤ s.size) : Sp s p p [] := ⟨Nat.le_refl _, h, by
  apply ByteArray.ext
  simp [joinB]⟩
theorem sp_app {s : ByteArray} {p q r : Nat} {L L' : List ByteArray} (h : Sp s p q L) (h' : Sp s q r L') : Sp s p r (L ++ L') :=
  ⟨Nat.le_trans h.1 h'.1, h'.2.1, by rw [cut_two s p q r h.1 h'.1, h.2.2, h'.2.2, joinB_app]⟩
theorem sp_one {s : ByteArray} {p q : Nat} {L : List ByteArray} (h : Sp s p q L) : Sp s p q [joinB L] := ⟨h.1, h.2.1, by rw [joinB_one]; exact h.2.2⟩
theorem sp_txt {s : ByteArray} {o : Option Nat} {q : Nat} (h : pT s o = some q) : ∃ p, o = some p ∧ Sp s p q [txB (rT s o)] ∧ p < q := by
  cases o with
  | none => cases h
  | some p =>
    unfold pT at h
    simp only [Option.bind_some, Option.map_eq_some_iff] at h
    obtain ⟨⟨t, r⟩, h1, rfl⟩ := h
    have e : rT s (some p) = t := by unfold rT; simp [h1]
    obtain ⟨b1, b2, b3, b4⟩ := txtAt_back h1
    refine ⟨p, rfl, ⟨Nat.le_of_lt b2, b3, ?_⟩, b2⟩
    rw [e, b4, joinB_one]
    rfl
theorem sp_num {s : ByteArray} {o : Option Nat} {q : Nat} (h : pN s o = some q) : ∃ p, o = some p ∧ Sp s p q [numB (rN s o)] ∧ p < q := by
  cases o with
  | none => cases h
  | some p =>
    unfold pN at h
    simp only [Option.bind_some, Option.map_eq_some_iff] at h
    obtain ⟨⟨n, r⟩, h1, rfl⟩ := h
    have e : rN s (some p) = n := by unfold rN; simp [h1]
    obtain ⟨b1, b2, b3, b4⟩ := numAt_back h1
    refine ⟨p, rfl, ⟨Nat.le_of_lt b2, b3, ?_⟩, b2⟩
    rw [e, b4, joinB_one]
theorem sp_cnt {s : ByteArray} {o : Option Nat} {M q : Nat} (h : pC s o M = some q) : ∃ p, o = some p ∧ Sp s p q [numB (rC s o M)] ∧ p < q := by
  unfold pC at h
  split at h
  · rename_i k
    obtain ⟨p, e, h1, h2⟩ := sp_num h
    refine ⟨p, e, ?_, h2⟩
    have e2 : ((rC s o M : Nat) : Int) = rN s o := by
      unfold rC
      rw [if_pos k]
      omega
    rw [e2]
    exact h1
  · cases h
theorem cut_whole (s : ByteArray) : s.extract 0 s.size = s := by
  apply ByteArray.ext
  rw [ByteArray.data_extract]
  exact Array.extract_size
theorem rN_i64 (s : ByteArray) (o : Option Nat) : I64 (rN s o) := by
  unfold rN
  cases h : o.bind (numAt s) with
  | none => exact ⟨by simp, by simp⟩
  | some x =>
    obtain ⟨n, q⟩ := x
    obtain ⟨p, rfl, hp⟩ := Option.bind_eq_some_iff.1 h
    simpa using (numAt_back hp).1
theorem pC_none (s : ByteArray) (M : Nat) : pC s none M = none := by
  unfold pC
  split <;> rfl
end SpR
end Go.Proofs.YtaedolophhcjjaaDoor
namespace Go.Proofs.YtaedolophhcjjaaDoor
open Go.ChangeShapes Go.WideShapes Go.ChangeAt Go.RowKit
set_option linter.unusedVariables false
namespace SpR
open EvtR (rT pT rN pN rC pC rC_le txtAt txtAt_back txtAt_put txtB cut_two cut_size cut_split rT_size)
open NumsR (numAt numAt_back numAt_put I64)
open NumR (numB numB_size)
open JoinR (joinB)
open DocR (joinB_app joinB_one)
/-- These parts stand at a place. -/
def Sq (s : ByteArray) (p : Nat) (L : List ByteArray) : Prop := p + (joinB L).size ≤ s.size ∧ s.extract p (p + (joinB L).size) = joinB L
theorem sq_app {s : ByteArray} {p : Nat} {L L' : List ByteArray} (h : Sq s p (L ++ L')) : Sq s p L ∧ Sq s (p + (joinB L).size) L' := by
  obtain ⟨h1, h2⟩ := h
  rw [joinB_app, ByteArray.size_append] at h1 h2
  obtain ⟨e1, e2⟩ := cut_split h1 h2
  exact ⟨⟨by omega, e1⟩, ⟨by omega, e2⟩⟩
theorem sq_cons {s : ByteArray} {p : Nat} {x : ByteArray} {L : List ByteArray} (h : Sq s p (x :: L)) : Sq s p [x] ∧ Sq s (p + x.size) L := by
  have := sq_app (L := [x]) (L' := L) h
  rw [joinB_one] at this
  exact this
theorem sq_one {s : ByteArray} {p : Nat} {L : List ByteArray} (h : Sq s p [joinB L]) : Sq s p L := by
  obtain ⟨h1, h2⟩ := h
  rw [joinB_one] at h1 h2
  exact ⟨h1, h2⟩
theorem sq_whole (L : List ByteArray) : Sq (joinB L) 0 L := ⟨by omega, by rw [Nat.zero_add]; exact cut_whole _⟩
theorem num_sq {s : ByteArray} {p : Nat} {n : Int} (hn : I64 n) (h : Sq s p [numB n]) : rN s (some p) = n ∧ pN s (some p) = some (p + (numB n).size) := by
  obtain ⟨h1, h2⟩ := h
  rw [joinB_one] at h1 h2
  have := numAt_put hn h1 h2
  unfold rN pN
  simp [this]
theorem txt_sq {s : ByteArray} {p : Nat} {t : ByteArray} (ht : t.size ≤ 8000) (h : Sq s p [txB t]) : rT s (some p) = t ∧ pT s (some p) = some (p + (txB t).size) := by
  obtain ⟨h1, h2⟩ := h
  rw [joinB_one] at h1 h2
  have := txtAt_put (s := s) (p := p) (t := t) ht h1 h2
  unfold rT pT
  simp [this]
  rfl
theorem cnt_sq {s : ByteArray} {p n M : Nat} (hn : n ≤ M) (hM : M ≤ 1000) (h : Sq s p [numB (n : Int)]) : rC s (some p) M = n ∧ pC s (some p) M = some (p + (numB (n : Int)).size) := by
  obtain ⟨e1, e2⟩ := num_sq (n := (n : Int)) ⟨by omega, by omega⟩ h
  unfold rC pC
  rw [e1, e2]
  have k : 0 ≤ (n : Int) ∧ (n : Int) ≤ (M : Int) := by omega
  rw [if_pos k, if_pos k]
  exact ⟨by simp, rfl⟩
end SpR
end Go.Proofs.YtaedolophhcjjaaDoor
namespace Go.Proofs.YtaedolophhcjjaaDoor
open Go.ChangeShapes Go.WideShapes Go.ChangeAt Go.RowKit
set_option linter.unusedVariables false
namespace CatR
open EvtR (rT pT rN pN rC pC rC_le rT_size cut_size)
open NumR (numB)
open NumsR (I64)
open JoinR (joinB)
open SpR (Sp sp_nil sp_app sp_one sp_txt sp_num sp_cnt cut_whole rN_i64 pC_none Sq sq_app sq_cons sq_one sq_whole num_sq txt_sq cnt_sq)
/-- So many tiers read, and the place behind them. -/
def tisR (s : ByteArray) : Option Nat → Nat → List Ti × Option Nat
  | o, 0 => ([], o)
  | o, k + 1 => (⟨rN s o, rN s (pN s o)⟩ :: (tisR s (pN s (pN s o)) k).1, (tisR s (pN s (pN s o)) k).2)
theorem tisR_len (s : ByteArray) : ∀ (k : Nat) (o : Option Nat), (tisR s o k).1.length = k
  | 0, _ => rfl
  | k + 1, o => by simp [tisR, tisR_len s k]
theorem tisR_none (s : ByteArray) : ∀ k : Nat, (tisR s none k).2 = none
  | 0 => rfl
  | k + 1 => by
    show (tisR s (pN s (pN s none)) k).2 = none
    exact tisR_none s k
theorem tisR_snoc (s : ByteArray) : ∀ (k : Nat) (o : Option Nat), tisR s o (k + 1) = ((tisR s o k).1 ++ [⟨rN s (tisR s o k).2, rN s (pN s (tisR s o k).2)⟩], pN s (pN s (tisR s o k).2))
  | 0, _ => rfl
  | k + 1, o => by
    have h := tisR_snoc s k (pN s (pN s o))
    show ((⟨rN s o, rN s (pN s o)⟩ : Ti) :: (tisR s (pN s (pN s o)) (k + 1)).1, (tisR s (pN s (pN s o)) (k + 1)).2) = _
    rw [h]
    rfl
theorem sp_tis (s : ByteArray) : ∀ (k : Nat) (o : Option Nat) (q : Nat), (∀ p, o = some p → p ≤ s.size) → (tisR s o k).2 = some q → ∃ p, o = some p ∧ Sp s p q ((tisR s o k).1.flatMap tiP)
  | 0, o, q, hp, h => ⟨q, h, sp_nil (hp q h)⟩
  | k + 1, o, q, hp, h => by
    have h1 : (tisR s (pN s (pN s o)) k).2 = some q := h
    obtain ⟨r, e, h2⟩ := sp_tis s k (pN s (pN s o)) q (fun p e => by obtain ⟨_, _, h3, _⟩ := sp_num e; exact h3.2.1) h1
    obtain ⟨p1, e1, h3, _⟩ := sp_num e
    obtain ⟨p, e2, h4, _⟩ := sp_num e1
    refine ⟨p, e2, ?_⟩
    have := sp_app h4 (sp_app h3 h2)
    exact this
theorem tis_put (s : ByteArray) : ∀ (ts : List Ti) (p : Nat), (∀ t ∈ ts, I64 t.u ∧ I64 t.p) → Sq s p (ts.flatMap tiP) → tisR s (some p) ts.length = (ts, some (p + (joinB (ts.flatMap tiP)).size))
  | [], p, _, h => rfl
  | t :: ts, p, hb, h => by
    have h0 : Sq s p (numB t.u :: (numB t.p :: ts.flatMap tiP)) := h
    obtain ⟨h1, h2⟩ := sq_cons h0
    obtain ⟨h3, h4⟩ := sq_cons h2
    obtain ⟨b1, b2⟩ := hb t (List.mem_cons_self ..)
    obtain ⟨e1, e2⟩ := num_sq b1 h1
    obtain ⟨e3, e4⟩ := num_sq b2 h3
    have ih := tis_put s ts _ (fun t ht => hb t (List.mem_cons_of_mem _ ht)) h4
    show ((⟨rN s (some p), rN s (pN s (some p))⟩ : Ti) :: (tisR s (pN s (pN s (some p))) ts.length).1, (tisR s (pN s (pN s (some p))) ts.length).2) = _
    rw [e2, e4, ih, e1, e3]
    refine Prod.ext rfl ?_
    simp only [Option.some.injEq]
    have e : (t :: ts).flatMap tiP = [numB t.u] ++ ([numB t.p] ++ ts.flatMap tiP) := rfl
    rw [e, joinB_app, joinB_app, ByteArray.size_append, ByteArray.size_append, joinB_one, joinB_one]
    omega
/-- Is it read by the model (its flag any number), or by the program? -/
def mF (b : Bool) (s : ByteArray) (o : Option Nat) : Option Nat := bif b then pN s o else pC s o 1
def mW (b : Bool) (s : ByteArray) (o : Option Nat) : Bool := bif b then decide (rN s o = 1) else decide (rC s o 1 = 1)
def mO2 (s : ByteArray) (o : Option Nat) : Option Nat := pN s (pT s o)
def mO3 (b : Bool) (s : ByteArray) (o : Option Nat) : Option Nat := mF b s (mO2 s o)
def mO5 (b : Bool) (s : ByteArray) (o : Option Nat) : Option Nat := pN s (pN s (mO3 b s o))
def mC (b : Bool) (s : ByteArray) (o : Option Nat) : Nat := rC s (mO5 b s o) 5
def mO6 (b : Bool) (s : ByteArray) (o : Option Nat) : Option Nat := pC s (mO5 b s o) 5
def meR (b : Bool) (s : ByteArray) (o : Option Nat) : Me := ⟨rT s o, rN s (pT s o), mW b s (mO2 s o), rN s (mO3 b s o), rN s (pN s (mO3 b s o)), (tisR s (mO6 b s o) (mC b s o)).1⟩
def meQ (b : Bool) (s : ByteArray) (o : Option Nat) : Option Nat := (tisR s (mO6 b s o) (mC b s o)).2
theorem meR_len (b : Bool) (s : ByteArray) (o : Option Nat) : (meR b s o).ts.length = mC b s o := tisR_len s _ _
theorem meQ_none (b : Bool) (s : ByteArray) : meQ b s none = none := by
  have e3 : mO3 b s none = none := by
    unfold mO3 mF
    rw [show mO2 s none = none from rfl]
    cases b
    · exact pC_none s 1
    · rfl
  unfold meQ mO6
  rw [show mO5 b s none = none by unfold mO5; rw [e3]; rfl, pC_none]
  exact tisR_none s _
theorem sp_me {s : ByteArray} {o : Option Nat} {q : Nat} (h : meQ false s o = some q) : ∃ p, o = some p ∧ Sp s p q [meBy (meR false s o)] ∧ p < q := by
  obtain ⟨p7, e7, h7⟩ := sp_tis s _ _ q (fun p e => by obtain ⟨_, _, h3, _⟩ := sp_cnt e; exact h3.2.1) h
  obtain ⟨p6, e6, h6, _⟩ := sp_cnt e7
  obtain ⟨p5, e5, h5, _⟩ := sp_num e6
  obtain ⟨p4, e4, h4, _⟩ := sp_num e5
  have e4' : pC s (mO2 s o) 1 = some p4 := e4
  obtain ⟨p3, e3, h3, _⟩ := sp_cnt e4'
  obtain ⟨p2, e2, h2, _⟩ := sp_num e3
  obtain ⟨p1, e1, h1, l1⟩ := sp_txt e2
  have hh := sp_app h1 (sp_app h2 (sp_app h3 (sp_app h4 (sp_app h5 (sp_app h6 h7)))))
  have a2 := h2.1
  have a3 := h3.1
  have a4 := h4.1
  have a5 := h5.1
  have a6 := h6.1
  have a7 := h7.1
  refine ⟨p1, e1, ?_, by omega⟩
  have efl : ((rC s (mO2 s o) 1 : Nat) : Int) = fl (mW false s (mO2 s o)) := by
    have := rC_le s (mO2 s o) 1
    unfold mW fl
    simp only [cond_false, decide_eq_true_eq]
    split <;> omega
  rw [efl] at hh
  have e : meBy (meR false s o) = joinB ([SpR.txB (rT s o)] ++ ([numB (rN s (pT s o))] ++ ([numB (fl (mW false s (mO2 s o)))] ++ ([numB (rN s (mO3 false s o))] ++ ([numB (rN s (pN s (mO3 false s o)))] ++ ([numB (mC false s o)] ++ (tisR s (mO6 false s o) (mC false s o)).1.flatMap tiP)))))) := by
    unfold meBy meP meH
    rw [meR_len]
    rfl
  rw [e]
  exact sp_one hh
theorem mright_i64 {m : Me} (h : MRight m) : m.n.size ≤ 20 ∧ m.ts.length ≤ 5 ∧ I64 m.g ∧ I64 m.f ∧ I64 m.l ∧ ∀ t ∈ m.ts, I64 t.u ∧ I64 t.p := by
  obtain ⟨⟨b0, b1⟩, b2, b3, b4, b5⟩ := mright_bd h
  refine ⟨b0, b1, ⟨by omega, by omega⟩, ⟨by omega, by omega⟩, ⟨by omega, by omega⟩, fun t ht => ?_⟩
  obtain ⟨i, hi, rfl⟩ := List.getElem_of_mem ht
  have e : m.ts.getD i Ti.zero = m.ts[i] := by simp [List.getD, hi]
  have h5 := b5 i hi
  unfold tU tP at h5
  rw [e] at h5
  exact ⟨⟨by omega, by omega⟩, ⟨by omega, by omega⟩⟩
theorem me_put (b : Bool) {s : ByteArray} {p : Nat} {m : Me} (hm : MRight m) (h : Sq s p [meBy m]) : meR b s (some p) = m ∧ meQ b s (some p) = some (p + (meBy m).size) := by
  have h0 : Sq s p (SpR.txB m.n :: (numB m.g :: (numB (fl m.wh) :: (numB m.f :: (numB m.l :: (numB (m.ts.length : Int) :: m.ts.flatMap tiP)))))) := sq_one h
  obtain ⟨k0, k1, k2, k3, k4, k5⟩ := mright_i64 hm
  obtain ⟨h1, h2⟩ := sq_cons h0
  obtain ⟨h3, h4⟩ := sq_cons h2
  obtain ⟨h5, h6⟩ := sq_cons h4
  obtain ⟨h7, h8⟩ := sq_cons h6
  obtain ⟨h9, h10⟩ := sq_cons h8
  obtain ⟨h11, h12⟩ := sq_cons h10
  obtain ⟨e1, e2⟩ := txt_sq (by omega) h1
  obtain ⟨e3, e4⟩ := num_sq k2 h3
  have hfl : fl m.wh = ((if m.wh = true then 1 else 0 : Nat) : Int) := by unfold fl; split <;> rfl
  have efl := fl_bd m.wh
  obtain ⟨e5, e6⟩ := num_sq (n := fl m.wh) ⟨by omega, by omega⟩ h5
  have e56 : mF b s (some (p + (SpR.txB m.n).size + (numB m.g).size)) = some (p + (SpR.txB m.n).size + (numB m.g).size + (numB (fl m.wh)).size) ∧ mW b s (some (p + (SpR.txB m.n).size + (numB m.g).size)) = m.wh := by
    cases b
    · have h5' := h5
      rw [hfl] at h5'
      obtain ⟨c1, c2⟩ := cnt_sq (M := 1) (by split <;> omega) (by omega) h5'
      unfold mF mW
      simp only [cond_false]
      rw [c1, c2, ← hfl]
      refine ⟨rfl, ?_⟩
      cases m.wh <;> rfl
    · unfold mF mW
      simp only [cond_true]
      rw [e5, e6]
      refine ⟨rfl, ?_⟩
      cases m.wh <;> rfl
  obtain ⟨e7, e8⟩ := num_sq k3 h7
  obtain ⟨e9, e10⟩ := num_sq k4 h9
  obtain ⟨e11, e12⟩ := cnt_sq (M := 5) k1 (by omega) h11
  have e13 := tis_put s m.ts _ k5 h12
  have o2 : mO2 s (some p) = some (p + (SpR.txB m.n).size + (numB m.g).size) := by unfold mO2; rw [e2, e4]
  have o3 : mO3 b s (some p) = some (p + (SpR.txB m.n).size + (numB m.g).size + (numB (fl m.wh)).size) := by unfold mO3; rw [o2, e56.1]
  have o5 : mO5 b s (some p) = some (p + (SpR.txB m.n).size + (numB m.g).size + (numB (fl m.wh)).size + (numB m.f).size + (numB m.l).size) := by unfold mO5; rw [o3, e8, e10]
  have o6 : mO6 b s (some p) = some (p + (SpR.txB m.n).size + (numB m.g).size + (numB (fl m.wh)).size + (numB m.f).size + (numB m.l).size + (numB (m.ts.length : Int)).size) := by unfold mO6; rw [o5, e12]
  have oc : mC b s (some p) = m.ts.length := by unfold mC; rw [o5, e11]
  constructor
  · unfold meR
    rw [o2, o3, o6, oc, e13, e56.2, e1, e2, e3, e7, e8, e9]
  · unfold meQ
    rw [o6, oc, e13]
    simp only [Option.some.injEq]
    have e : meBy m = joinB ([SpR.txB m.n] ++ ([numB m.g] ++ ([numB (fl m.wh)] ++ ([numB m.f] ++ ([numB m.l] ++ ([numB (m.ts.length : Int)] ++ m.ts.flatMap tiP)))))) := rfl
    rw [e]
    simp only [joinB_app, ByteArray.size_append, joinB_one]
    omega
/-- So many meters, credits, read, and the place behind them. -/
def mesR (b : Bool) (s : ByteArray) : Option Nat → Nat → List Me × Option Nat
  | o, 0 => ([], o)
  | o, k + 1 => (meR b s o :: (mesR b s (meQ b s o) k).1, (mesR b s (meQ b s o) k).2)
def crsR (s : ByteArray) : Option Nat → Nat → List Cr × Option Nat
  | o, 0 => ([], o)
  | o, k + 1 => (⟨rT s o, rN s (pT s o)⟩ :: (crsR s (pN s (pT s o)) k).1, (crsR s (pN s (pT s o)) k).2)
theorem mesR_len (b : Bool) (s : ByteArray) : ∀ (k : Nat) (o : Option Nat), (mesR b s o k).1.length = k
  | 0, _ => rfl
  | k + 1, o => by simp [mesR, mesR_len b s k]
theorem crsR_len (s : ByteArray) : ∀ (k : Nat) (o : Option Nat), (crsR s o k).1.length = k
  | 0, _ => rfl
  | k + 1, o => by simp [crsR, crsR_len s k]
theorem mesR_snoc (b : Bool) (s : ByteArray) : ∀ (k : Nat) (o : Option Nat), mesR b s o (k + 1) = ((mesR b s o k).1 ++ [meR b s (mesR b s o k).2], meQ b s (mesR b s o k).2)
  | 0, _ => rfl
  | k + 1, o => by
    have h := mesR_snoc b s k (meQ b s o)
    show (meR b s o :: (mesR b s (meQ b s o) (k + 1)).1, (mesR b s (meQ b s o) (k + 1)).2) = _
    rw [h]
    rfl
theorem crsR_snoc (s : ByteArray) : ∀ (k : Nat) (o : Option Nat), crsR s o (k + 1) = ((crsR s o k).1 ++ [⟨rT s (crsR s o k).2, rN s (pT s (crsR s o k).2)⟩], pN s (pT s (crsR s o k).2))
  | 0, _ => rfl
  | k + 1, o => by
    have h := crsR_snoc s k (pN s (pT s o))
    show ((⟨rT s o, rN s (pT s o)⟩ : Cr) :: (crsR s (pN s (pT s o)) (k + 1)).1, (crsR s (pN s (pT s o)) (k + 1)).2) = _
    rw [h]
    rfl
theorem crsR_none (s : ByteArray) : ∀ k : Nat, (crsR s none k).2 = none
  | 0 => rfl
  | k + 1 => by
    show (crsR s (pN s (pT s none)) k).2 = none
    exact crsR_none s k
theorem sp_mes (s : ByteArray) : ∀ (k : Nat) (o : Option Nat) (q : Nat), (∀ p, o = some p → p ≤ s.size) → (mesR false s o k).2 = some q → ∃ p, o = some p ∧ Sp s p q ((mesR false s o k).1.map meBy)
  | 0, o, q, hp, h => ⟨q, h, sp_nil (hp q h)⟩
  | k + 1, o, q, hp, h => by
    have h1 : (mesR false s (meQ false s o) k).2 = some q := h
    obtain ⟨r, e, h2⟩ := sp_mes s k (meQ false s o) q (fun p e => by obtain ⟨_, _, h3, _⟩ := sp_me e; exact h3.2.1) h1
    obtain ⟨p, e2, h3, _⟩ := sp_me e
    exact ⟨p, e2, sp_app h3 h2⟩
theorem sp_crs (s : ByteArray) : ∀ (k : Nat) (o : Option Nat) (q : Nat), (∀ p, o = some p → p ≤ s.size) → (crsR s o k).2 = some q → ∃ p, o = some p ∧ Sp s p q ((crsR s o k).1.flatMap crP)
  | 0, o, q, hp, h => ⟨q, h, sp_nil (hp q h)⟩
  | k + 1, o, q, hp, h => by
    have h1 : (crsR s (pN s (pT s o)) k).2 = some q := h
    obtain ⟨r, e, h2⟩ := sp_crs s k (pN s (pT s o)) q (fun p e => by obtain ⟨_, _, h3, _⟩ := sp_num e; exact h3.2.1) h1
    obtain ⟨p1, e1, h3, _⟩ := sp_num e
    obtain ⟨p, e2, h4, _⟩ := sp_txt e1
    refine ⟨p, e2, ?_⟩
    have := sp_app h4 (sp_app h3 h2)
    exact this
theorem mes_put (b : Bool) (s : ByteArray) : ∀ (ms : List Me) (p : Nat), (∀ m ∈ ms, MRight m) → Sq s p (ms.map meBy) → mesR b s (some p) ms.length = (ms, some (p + (joinB (ms.map meBy)).size))
  | [], p, _, h => rfl
  | m :: ms, p, hb, h => by
    obtain ⟨h1, h2⟩ := sq_cons (x := meBy m) (L := ms.map meBy) h
    obtain ⟨e1, e2⟩ := me_put b (hb m (List.mem_cons_self ..)) h1
    have ih := mes_put b s ms _ (fun t ht => hb t (List.mem_cons_of_mem _ ht)) h2
    show (meR b s (some p) :: (mesR b s (meQ b s (some p)) ms.length).1, (mesR b s (meQ b s (some p)) ms.length).2) = _
    rw [e2, ih, e1]
    refine Prod.ext rfl ?_
    simp only [Option.some.injEq]
    have e : (m :: ms).map meBy = [meBy m] ++ ms.map meBy := rfl
    rw [e, joinB_app, ByteArray.size_append, joinB_one]
    omega
theorem crs_put (s : ByteArray) : ∀ (cs : List Cr) (p : Nat), (∀ c ∈ cs, c.a.size ≤ 8000 ∧ I64 c.m) → Sq s p (cs.flatMap crP) → crsR s (some p) cs.length = (cs, some (p + (joinB (cs.flatMap crP)).size))
  | [], p, _, h => rfl
  | c :: cs, p, hb, h => by
    have h0 : Sq s p (SpR.txB c.a :: (numB c.m :: cs.flatMap crP)) := h
    obtain ⟨h1, h2⟩ := sq_cons h0
    obtain ⟨h3, h4⟩ := sq_cons h2
    obtain ⟨b1, b2⟩ := hb c (List.mem_cons_self ..)
    obtain ⟨e1, e2⟩ := txt_sq b1 h1
    obtain ⟨e3, e4⟩ := num_sq b2 h3
    have ih := crs_put s cs _ (fun t ht => hb t (List.mem_cons_of_mem _ ht)) h4
    show ((⟨rT s (some p), rN s (pT s (some p))⟩ : Cr) :: (crsR s (pN s (pT s (some p))) cs.length).1, (crsR s (pN s (pT s (some p))) cs.length).2) = _
    rw [e2, e4, ih, e1, e3]
    refine Prod.ext rfl ?_
    simp only [Option.some.injEq]
    have e : (c :: cs).flatMap crP = [SpR.txB c.a] ++ ([numB c.m] ++ cs.flatMap crP) := rfl
    rw [e, joinB_app, joinB_app, ByteArray.size_append, ByteArray.size_append, joinB_one, joinB_one]
    omega
def cN0 (s : ByteArray) : Nat := rC s (some 0) 6
def cO0 (s : ByteArray) : Option Nat := pC s (some 0) 6
def cOM (b : Bool) (s : ByteArray) : Option Nat := (mesR b s (cO0 s) (cN0 s)).2
def cN1 (b : Bool) (s : ByteArray) : Nat := rC s (cOM b s) 6
def cO1 (b : Bool) (s : ByteArray) : Option Nat := pC s (cOM b s) 6
/-- The catalog that is read, and the place behind it. -/
def caR' (b : Bool) (s : ByteArray) : Ca := ⟨(mesR b s (cO0 s) (cN0 s)).1, (crsR s (cO1 b s) (cN1 b s)).1⟩
def cOE (b : Bool) (s : ByteArray) : Option Nat := (crsR s (cO1 b s) (cN1 b s)).2
theorem ca_back {s : ByteArray} {q : Nat} (h : cOE false s = some q) : q ≤ s.size ∧ 0 < q ∧ s.extract 0 q = joinB (caP (caR' false s)) := by
  obtain ⟨p3, e3, h3⟩ := sp_crs s _ _ q (fun p e => by obtain ⟨_, _, h3, _⟩ := sp_cnt e; exact h3.2.1) h
  obtain ⟨p2, e2, h2, _⟩ := sp_cnt e3
  obtain ⟨p1, e1, h1⟩ := sp_mes s _ _ p2 (fun p e => by obtain ⟨_, _, h3, _⟩ := sp_cnt e; exact h3.2.1) e2
  obtain ⟨p0, e0, h0, l0⟩ := sp_cnt e1
  cases e0
  have hh := sp_app (sp_app (sp_app h0 h1) h2) h3
  have a1 := h1.1
  have a2 := h2.1
  have a3 := h3.1
  refine ⟨hh.2.1, by omega, ?_⟩
  rw [hh.2.2]
  have n1 : (caR' false s).ms.length = cN0 s := mesR_len false s _ _
  have n2 : (caR' false s).cs.length = cN1 false s := crsR_len s _ _
  unfold caP
  rw [n1, n2]
  rfl
theorem ca_put (b : Bool) {s : ByteArray} {c : Ca} (hc : caB c = true) (hs : s = joinB (caP c)) : caR' b s = c ∧ cOE b s = some s.size := by
  obtain ⟨⟨m6, hm⟩, ⟨c6, hcr⟩⟩ := caB_iff.1 hc
  have hm2 : ∀ m ∈ c.ms, MRight m := fun m hmm => by
    obtain ⟨i, hi, rfl⟩ := List.getElem_of_mem hmm
    have e : c.ms.getD i Me.zero = c.ms[i] := by simp [List.getD, hi]
    have := (hm i hi).1
    rw [e] at this
    exact this
  have hc2 : ∀ x ∈ c.cs, x.a.size ≤ 8000 ∧ I64 x.m := fun x hx => by
    obtain ⟨i, hi, rfl⟩ := List.getElem_of_mem hx
    have e : c.cs.getD i Cr.zero = c.cs[i] := by simp [List.getD, hi]
    obtain ⟨⟨u1, u2, u3⟩, _⟩ := hcr i hi
    have u4 := (name_le u1).2
    unfold cA at u4
    unfold cM at u2 u3
    rw [e] at u4 u2 u3
    exact ⟨by omega, ⟨by omega, by omega⟩⟩
  have h0 : Sq s 0 ((([numB (c.ms.length : Int)] ++ c.ms.map meBy) ++ [numB (c.cs.length : Int)]) ++ c.cs.flatMap crP) := by
    rw [hs]
    exact sq_whole _
  obtain ⟨h1, h2⟩ := sq_app h0
  obtain ⟨h3, h4⟩ := sq_app h1
  obtain ⟨h5, h6⟩ := sq_app h3
  rw [joinB_one, Nat.zero_add] at h6
  obtain ⟨e1, e2⟩ := cnt_sq (M := 6) m6 (by omega) h5
  rw [Nat.zero_add] at e2
  have e3 := mes_put b s c.ms _ hm2 h6
  have sz : ∀ L : List ByteArray, (joinB ([numB (c.ms.length : Int)] ++ L)).size = (numB (c.ms.length : Int)).size + (joinB L).size := fun L => by rw [joinB_app, ByteArray.size_append, joinB_one]
  rw [sz, Nat.zero_add] at h4
  obtain ⟨e4, e5⟩ := cnt_sq (M := 6) c6 (by omega) h4
  rw [joinB_app ([numB (c.ms.length : Int)] ++ c.ms.map meBy), ByteArray.size_append, sz, joinB_one, Nat.zero_add] at h2
  have e6 := crs_put s c.cs _ hc2 h2
  have o0 : cO0 s = some (numB (c.ms.length : Int)).size := e2
  have n0 : cN0 s = c.ms.length := e1
  have oM : cOM b s = some ((numB (c.ms.length : Int)).size + (joinB (c.ms.map meBy)).size) := by unfold cOM; rw [o0, n0, e3]
  have n1 : cN1 b s = c.cs.length := by unfold cN1; rw [oM, e4]
  have o1 : cO1 b s = some ((numB (c.ms.length : Int)).size + (joinB (c.ms.map meBy)).size + (numB (c.cs.length : Int)).size) := by unfold cO1; rw [oM, e5]
  constructor
  · unfold caR'
    rw [o0, n0, e3, o1, n1, e6]
  · unfold cOE
    rw [o1, n1, e6]
    simp only [Option.some.injEq]
    have hz := congrArg ByteArray.size hs
    unfold caP at hz
    rw [joinB_app, joinB_app ([numB (c.ms.length : Int)] ++ c.ms.map meBy), joinB_app [numB (c.ms.length : Int)], joinB_one, joinB_one] at hz
    simp only [ByteArray.size_append] at hz
    omega
/-- What the model asks of what it reads is what the program asks of what it reads, and then both read one catalog. -/
theorem ca_same (s : ByteArray) : (cOE true s ≠ none ∧ s.size ≠ 0 ∧ caBy (caR' true s) = s) ↔ (cOE false s = some s.size ∧ caB (caR' false s) = true) := by
  constructor
  · rintro ⟨h1, h2, h3⟩
    unfold caBy at h3
    split at h3
    · rename_i hc
      obtain ⟨e1, e2⟩ := ca_put false hc h3.symm
      exact ⟨e2, by rw [e1]; exact hc⟩
    · rw [← h3] at h2
      exact absurd rfl h2
  · rintro ⟨h1, h2⟩
    obtain ⟨b1, b2, b3⟩ := ca_back h1
    rw [cut_whole] at b3
    obtain ⟨e1, e2⟩ := ca_put true h2 b3
    refine ⟨by rw [e2]; simp, by omega, ?_⟩
    unfold caBy
    rw [e1, if_pos h2, ← b3]
theorem ca_one {s : ByteArray} (h : cOE false s = some s.size ∧ caB (caR' false s) = true) : caR' true s = caR' false s := by
  obtain ⟨b1, b2, b3⟩ := ca_back h.1
  rw [cut_whole] at b3
  exact (ca_put true h.2 b3).1
end CatR
end Go.Proofs.YtaedolophhcjjaaDoor
