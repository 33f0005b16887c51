/-
  Digits read, as the model does: some number, and of digits alone their value. The condition: the text has at most ten bytes.
-/
import Derived.Test.YtfnkhohommahoaaDoorFmt4
namespace Go.Proofs.YtfnkhohommahoaaDoor
open Go.ChangeShapes Go.WideShapes Go.ChangeAt Go.RowKit
set_option linter.unusedVariables false
namespace DecR
/-- The value of digits. -/
def valD (ds : List Nat) : Nat := ds.foldl (fun n d => 10 * n + d) 0
theorem valD_snoc (ds : List Nat) (d : Nat) : valD (ds ++ [d]) = 10 * valD ds + d := by unfold valD; rw [List.foldl_append]; rfl
/-- These are digits, and the text is theirs. -/
def IsDig (s : ByteArray) (ds : List Nat) : Prop := s = digT ds ∧ ∀ d ∈ ds, d < 10
theorem dig_byte (s : ByteArray) (ds : List Nat) (h : IsDig s ds) (k : Nat) (hk : k < s.size) (hk2 : k < ds.length) : s[k].toNat = 48 + ds[k] := by
  obtain ⟨rfl, hd⟩ := h
  have hlt := hd ds[k] (List.getElem_mem hk2)
  show ((digT ds).data[k]'hk).toNat = _
  simp only [digT, strOfNums, List.getElem_toArray, List.getElem_map, List.map_map, Function.comp]
  simp
  omega
theorem dig_size (s : ByteArray) (ds : List Nat) (h : IsDig s ds) : s.size = ds.length := by
  rw [h.1]; unfold digT; rw [strOfNums_size, List.length_map]
theorem take_val (ds : List Nat) (k : Nat) (hk : k < ds.length) : valD (ds.take (k + 1)) = 10 * valD (ds.take k) + ds[k] := by
  rw [List.take_succ_eq_append_getElem hk, valD_snoc]
def DigOut (s : ByteArray) (e : Ending) : Prop := ∃ v : Int, e = .returned (.int .i64 v) ∧ ∀ ds, IsDig s ds → v = (valD ds : Int)
set_option maxRecDepth 100000 in
set_option maxHeartbeats 4000000 in
theorem digits_any (s : ByteArray) (hl : s.size ≤ 10) (w : World) : Calls Tryd.prog 55 #[.string s] w fun e w' => DigOut s e ∧ w' = w := by
  go_enter Tryd.func55, Tryd.ntmps55
  go_wp2_with fail
  go_loop [3, 4] (fun x z => ∃ k n : Nat, k ≤ s.size ∧ z = .int .i64 (k : Int) ∧ x = .int .i64 (n : Int) ∧ n < 10 ^ k ∧ Hid (∀ ds, IsDig s ds → n = valD (ds.take k))) (fun _ z => s.size - (intOf z).toNat)
  case atStart => exact ⟨0, 0, by omega, rfl, rfl, by decide, hid_intro (fun ds _ => rfl)⟩
  case round =>
    obtain ⟨k, n, hk, rfl, rfl, hn, HV⟩ := hrel
    by_cases hlt : k < s.size
    · have hlt2 : (k : Int) < (s.size : Int) := by omega
      have hn2 : n < 10000000000 := Nat.lt_of_lt_of_le hn (Nat.le_trans (Nat.pow_le_pow_right (by omega) (show k ≤ 10 by omega)) (by decide))
      obtain ⟨c, hc⟩ : ∃ c : Int, (s[k].toNat : Int) = c := ⟨_, rfl⟩
      have HC := hid_intro hc
      by_cases h1 : 48 ≤ c
      · by_cases h2 : c ≤ 57
        · have HN : Hid (∀ ds, IsDig s ds → (10 * n + (c - 48).toNat) = valD (ds.take (k + 1))) := hid_intro (fun ds h => by
            have hkd : k < ds.length := by rw [← dig_size s ds h]; exact hlt
            have := dig_byte s ds h k hlt hkd
            rw [take_val ds k hkd, ← HV.out ds h]
            have := HC.out
            omega)
          have HP : Hid (10 * n + (c - 48).toNat < 10 ^ (k + 1)) := hid_intro (by rw [Nat.pow_succ]; omega)
          have h3 : ¬ c < 48 := by omega
          have h4 : ¬ 57 < c := by omega
          have e1 : wrap64 (10 * (n : Int)) = 10 * n := by unfold wrap64; omega
          have e2 : wrap64 (10 * (n : Int) + (c - 48)) = 10 * n + (c - 48) := by unfold wrap64; omega
          have e3 : 10 * (n : Int) + (c - 48) = ((10 * n + (c - 48).toNat : Nat) : Int) := by omega
          have HE := hid_intro e3
          clear HV e3 hn
          go_wp2_with fail
          go_round
          case rel => exact ⟨k + 1, 10 * n + (c - 48).toNat, by omega, by go_num, by rw [HE.out], HP.out, HN⟩
          case measure => simp [intOf]; omega
        · have h3 : ¬ c < 48 := by omega
          have h4 : 57 < c := by omega
          have HO : Hid (DigOut s (.returned (.int .i64 (-1)))) := hid_intro ⟨-1, rfl, fun ds h => by
            have hkd : k < ds.length := by rw [← dig_size s ds h]; exact hlt
            have h5 := dig_byte s ds h k hlt hkd
            have h6 := h.2 ds[k] (List.getElem_mem hkd)
            have := HC.out
            omega⟩
          clear HV
          go_wp2_with fail
          go_ret
          exact ⟨HO.out, rfl⟩
      · have h3 : c < 48 := by omega
        have HO : Hid (DigOut s (.returned (.int .i64 (-1)))) := hid_intro ⟨-1, rfl, fun ds h => by
          have hkd : k < ds.length := by rw [← dig_size s ds h]; exact hlt
          have h5 := dig_byte s ds h k hlt hkd
          have h6 := h.2 ds[k] (List.getElem_mem hkd)
          have := HC.out
          omega⟩
        clear HV
        go_wp2_with fail
        go_ret
        exact ⟨HO.out, rfl⟩
    · have hlt2 : ¬ (k : Int) < (s.size : Int) := by omega
      have HO : Hid (DigOut s (.returned (.int .i64 (n : Int)))) := hid_intro ⟨n, rfl, fun ds h => by rw [HV.out ds h, List.take_of_length_le (by have := dig_size s ds h; omega)]⟩
      clear HV
      go_wp2_with fail
      go_ret
      exact ⟨HO.out, rfl⟩
end DecR
end Go.Proofs.YtfnkhohommahoaaDoor
