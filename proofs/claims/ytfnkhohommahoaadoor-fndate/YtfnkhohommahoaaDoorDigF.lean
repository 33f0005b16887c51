/-
  Digits read, as the model does, as one function of the text. The condition: the text has at most ten bytes.
-/
import Derived.Test.YtfnkhohommahoaaDoorDigits
namespace Go.Proofs.YtfnkhohommahoaaDoor
open Go.ChangeShapes Go.WideShapes Go.ChangeAt Go.RowKit
set_option linter.unusedVariables false
namespace DecR
def digF : List UInt8 → Nat → Int
  | [], acc => acc
  | c :: r, acc => if 48 ≤ c.toNat ∧ c.toNat ≤ 57 then digF r (10 * acc + (c.toNat - 48)) else -1
/-- What the model reads. -/
def digV (s : ByteArray) : Int := digF s.data.toList 0
theorem digF_val : ∀ (ds : List Nat) (l : List UInt8) (acc : Nat), l.map (·.toNat) = ds.map (48 + ·) → (∀ d ∈ ds, d < 10) → digF l acc = ((ds.foldl (fun n d => 10 * n + d) acc : Nat) : Int)
  | [], [], acc, _, _ => rfl
  | [], c :: r, acc, h, _ => by simp at h
  | d :: ds, [], acc, h, _ => by simp at h
  | d :: ds, c :: r, acc, h, hd => by
    simp only [List.map_cons, List.cons.injEq] at h
    obtain ⟨hc, hr⟩ := h
    have hd0 := hd d (List.mem_cons_self ..)
    have hs : c.toNat - 48 = d := by omega
    rw [digF, if_pos (by omega), hs, digF_val ds r _ hr (fun x hx => hd x (List.mem_cons_of_mem _ hx)), List.foldl_cons]
theorem digF_list (s : ByteArray) (ds : List Nat) (h : IsDig s ds) : s.data.toList.map (·.toNat) = ds.map (48 + ·) := by
  have hs := dig_size s ds h
  apply List.ext_getElem
  · rw [List.length_map, List.length_map, Array.length_toList]; exact hs
  · intro k h1 h2
    rw [List.length_map] at h1 h2
    rw [List.getElem_map, List.getElem_map]
    exact dig_byte s ds h k (by rw [hs]; exact h2) h2
theorem digV_dig (s : ByteArray) (ds : List Nat) (h : IsDig s ds) : digV s = (valD ds : Int) := digF_val ds _ 0 (digF_list s ds h) h.2
theorem drop_byte (s : ByteArray) (k : Nat) (hk : k < s.size) : s.data.toList.drop k = s[k] :: s.data.toList.drop (k + 1) := by
  have h : k < s.data.toList.length := by rw [Array.length_toList]; exact hk
  rw [List.drop_eq_getElem_cons h]; rfl
set_option maxRecDepth 100000 in
set_option maxHeartbeats 4000000 in
theorem digits_fun (s : ByteArray) (hl : s.size ≤ 10) (w : World) : Calls Tryd.prog 55 #[.string s] w fun e w' => e = .returned (.int .i64 (digV s)) ∧ w' = w := by
  go_enter Tryd.func55, Tryd.ntmps55
  go_wp2_with fail
  go_loop [3, 4] (fun x z => ∃ k n : Nat, k ≤ s.size ∧ z = .int .i64 (k : Int) ∧ x = .int .i64 (n : Int) ∧ n < 10 ^ k ∧ Hid (digF (s.data.toList.drop k) n = digV s)) (fun _ z => s.size - (intOf z).toNat)
  case atStart => exact ⟨0, 0, by omega, rfl, rfl, by decide, hid_intro rfl⟩
  case round =>
    obtain ⟨k, n, hk, rfl, rfl, hn, HV⟩ := hrel
    by_cases hlt : k < s.size
    · have hlt2 : (k : Int) < (s.size : Int) := by omega
      have hn2 : n < 10000000000 := Nat.lt_of_lt_of_le hn (Nat.le_trans (Nat.pow_le_pow_right (by omega) (show k ≤ 10 by omega)) (by decide))
      have HF := hid_intro HV.out
      rw [drop_byte s k hlt, digF] at HF
      obtain ⟨c, hc⟩ : ∃ c : Int, (s[k].toNat : Int) = c := ⟨_, rfl⟩
      have HC := hid_intro hc
      by_cases h1 : 48 ≤ c
      · by_cases h2 : c ≤ 57
        · have HN : Hid (digF (s.data.toList.drop (k + 1)) (10 * n + (c - 48).toNat) = digV s) := hid_intro (by
            have h := HF.out
            have hcc := HC.out
            rw [if_pos (by omega)] at h
            rw [← h, show (c - 48).toNat = s[k].toNat - 48 by omega])
          have HP : Hid (10 * n + (c - 48).toNat < 10 ^ (k + 1)) := hid_intro (by rw [Nat.pow_succ]; omega)
          have h3 : ¬ c < 48 := by omega
          have h4 : ¬ 57 < c := by omega
          have e1 : wrap64 (10 * (n : Int)) = 10 * n := by unfold wrap64; omega
          have e2 : wrap64 (10 * (n : Int) + (c - 48)) = 10 * n + (c - 48) := by unfold wrap64; omega
          have e3 : 10 * (n : Int) + (c - 48) = ((10 * n + (c - 48).toNat : Nat) : Int) := by omega
          have HE := hid_intro e3
          clear HV HF e3 hn
          go_wp2_with fail
          go_round
          case rel => exact ⟨k + 1, 10 * n + (c - 48).toNat, by omega, by go_num, by rw [HE.out], HP.out, HN⟩
          case measure => simp [intOf]; omega
        · have h3 : ¬ c < 48 := by omega
          have h4 : 57 < c := by omega
          have HO : Hid (digV s = -1) := hid_intro (by
            have h := HF.out
            have hcc := HC.out
            rw [if_neg (by omega)] at h
            exact h.symm)
          clear HV HF
          go_wp2_with fail
          go_ret
          exact ⟨by rw [HO.out]; rfl, rfl⟩
      · have h3 : c < 48 := by omega
        have HO : Hid (digV s = -1) := hid_intro (by
            have h := HF.out
            have hcc := HC.out
            rw [if_neg (by omega)] at h
            exact h.symm)
        clear HV HF
        go_wp2_with fail
        go_ret
        exact ⟨by rw [HO.out]; rfl, rfl⟩
    · have hlt2 : ¬ (k : Int) < (s.size : Int) := by omega
      have HO : Hid (digV s = (n : Int)) := hid_intro (by
        have h := HV.out
        rw [List.drop_of_length_le (by rw [Array.length_toList]; show s.size ≤ k; omega), digF] at h
        exact h.symm)
      clear HV
      go_wp2_with fail
      go_ret
      exact ⟨by rw [HO.out]; rfl, rfl⟩
end DecR
end Go.Proofs.YtfnkhohommahoaaDoor
