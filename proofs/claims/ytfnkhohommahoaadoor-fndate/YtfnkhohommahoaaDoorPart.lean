/-
  A part of a date read: some number, and of digits alone their value. The conditions: the text has one to four bytes; the two variables of strconv that hold its errors hold errors.
-/
import Derived.Test.YtfnkhohommahoaaDoorDigits
import Derived.Test.YtfnkhohommahoaaDoorShelf
import Derived.Lib.ParseIntB
namespace Go.Proofs.YtfnkhohommahoaaDoor
open Go.ChangeShapes Go.WideShapes Go.ChangeAt Go.RowKit
set_option linter.unusedVariables false
namespace DecR
theorem parseM : ∀ (ds : List Nat) (l : List UInt8) (acc : Nat), l.map (·.toNat) = ds.map (48 + ·) → (∀ d ∈ ds, d < 10) → (acc + 1) * 10 ^ ds.length ≤ 10000 → Lib.parseUintM (2 ^ 64 - 1) acc l = .ok (ds.foldl (fun n d => 10 * n + d) acc)
  | [], [], acc, _, _, _ => rfl
  | [], c :: r, acc, h, _, _ => by simp at h
  | d :: ds, [], acc, h, _, _ => by simp at h
  | d :: ds, c :: r, acc, h, hd, hb => by
    simp only [List.map_cons, List.cons.injEq] at h
    obtain ⟨hc, hr⟩ := h
    have hd0 := hd d (List.mem_cons_self ..)
    have hb2 : (acc * 10 + d + 1) * 10 ^ ds.length ≤ 10000 := by
      refine Nat.le_trans (Nat.mul_le_mul_right _ (show acc * 10 + d + 1 ≤ (acc + 1) * 10 by omega)) ?_
      rw [List.length_cons, Nat.pow_succ] at hb
      rw [Nat.mul_assoc, Nat.mul_comm 10]
      exact hb
    have hacc : acc * 10 + d + 1 ≤ 10000 := Nat.le_trans (Nat.le_mul_of_pos_right _ (Nat.pow_pos (by omega))) hb2
    have hs : c.toNat - 48 = d := by omega
    rw [Lib.parseUintM, if_pos (by omega), hs, if_neg (by omega), if_neg (by omega), parseM ds r _ hr (fun x hx => hd x (List.mem_cons_of_mem _ hx)) hb2, List.foldl_cons, Nat.mul_comm acc 10]
theorem dig_list (s : ByteArray) (ds : List Nat) (h : IsDig s ds) : s.data.toList.map (·.toNat) = ds.map (48 + ·) := by
  have hs := dig_size s ds h
  apply List.ext_getElem
  · rw [List.length_map, List.length_map, Array.length_toList]; exact hs
  · intro k h1 h2
    rw [List.length_map] at h1 h2
    rw [List.getElem_map, List.getElem_map]
    exact dig_byte s ds h k (by rw [hs]; exact h2) h2
theorem valD_lt (ds : List Nat) (hl : ds.length ≤ 4) (hd : ∀ d ∈ ds, d < 10) : valD ds < 100000 := by
  match ds, hl with
  | [], _ => decide
  | [a], _ => have := hd a (by simp); simp only [valD, List.foldl]; omega
  | [a, b], _ => have := hd a (by simp); have := hd b (by simp); simp only [valD, List.foldl]; omega
  | [a, b, c], _ => have := hd a (by simp); have := hd b (by simp); have := hd c (by simp); simp only [valD, List.foldl]; omega
  | [a, b, c, d], _ => have := hd a (by simp); have := hd b (by simp); have := hd c (by simp); have := hd d (by simp); simp only [valD, List.foldl]; omega
  | a :: b :: c :: d :: e :: r, h => simp at h
theorem dig_parse (s : ByteArray) (ds : List Nat) (h : IsDig s ds) (h1 : 0 < s.size) (h2 : s.size ≤ 4) : Lib.parseIntB 64 s.data.toList = .ok (valD ds : Int) := by
  have hs := dig_size s ds h
  have hll := dig_list s ds h
  have hv := valD_lt ds (by omega) h.2
  have hM := parseM ds s.data.toList 0 hll h.2 (by
    rw [Nat.zero_add, Nat.one_mul]
    exact Nat.le_trans (Nat.pow_le_pow_right (by omega) (show ds.length ≤ 4 by omega)) (by decide))
  rw [show ds.foldl (fun n d => 10 * n + d) 0 = valD ds from rfl] at hM
  generalize hl : s.data.toList = l at hll hM
  cases l with
  | nil => 
    have : s.data.toList.length = 0 := by rw [hl]; rfl
    rw [Array.length_toList] at this
    exact absurd (show s.size = 0 from this) (by omega)
  | cons c r =>
    cases ds with
    | nil => simp at hll
    | cons d dr =>
      have hc : c.toNat = 48 + d := by simp only [List.map_cons, List.cons.injEq] at hll; exact hll.1
      have hn : ¬ (c.toNat = 43 ∨ c.toNat = 45) := by omega
      have hn2 : ¬ c.toNat = 45 := by omega
      have hU : Lib.parseUintB 64 (if c.toNat = 43 ∨ c.toNat = 45 then r else c :: r) = .ok (valD (d :: dr)) := by
        rw [if_neg hn, Lib.parseUintB, if_neg (by simp)]; exact hM
      have hp : (2 : Nat) ^ (64 - 1) = 9223372036854775808 := by decide
      simp only [Lib.parseIntB]
      rw [hU]
      show (if ¬ c.toNat = 45 ∧ 2 ^ (64 - 1) ≤ valD (d :: dr) then Lib.NumEnd.range else if c.toNat = 45 ∧ 2 ^ (64 - 1) < valD (d :: dr) then Lib.NumEnd.range else Lib.NumEnd.ok (if c.toNat = 45 then -(valD (d :: dr) : Int) else (valD (d :: dr) : Int))) = _
      rw [hp, if_neg (by omega), if_neg (by omega), if_neg hn2]
/-- What a part is. -/
def partV (s : ByteArray) : Int := match Lib.parseIntB 64 s.data.toList with
  | .ok v => v
  | _ => 0
/-- Of digits alone it is their value. -/
theorem partV_dig (s : ByteArray) (ds : List Nat) (h : IsDig s ds) (h1 : 0 < s.size) (h2 : s.size ≤ 4) : partV s = (valD ds : Int) := by
  unfold partV; rw [dig_parse s ds h h1 h2]
/-- A package variable that holds an error, or none. -/
def HoldsErr (w : World) (g : Nat) : Prop := ∃ ev, w.cell? ⟨g, 0, none⟩ = some ev ∧ (ev = .nilIface ∨ ∃ te pe, ev = .iface te pe)
theorem bel_bytes2 (w : World) (e : TypeId) (s : ByteArray) : Below w.heap.size w (Lib.bytesWorld w e s) where
  os := rfl
  tape := rfl
  output := rfl
  size := by rw [Lib.bytesWorld_size]; omega
  block := fun k hk => Lib.bytesWorld_at_old w e s k hk
set_option maxRecDepth 100000 in
set_option maxHeartbeats 4000000 in
theorem part_any (s : ByteArray) (h1 : 0 < s.size) (h2 : s.size ≤ 4) (w : World) (hS : HoldsErr w 2) (hR : HoldsErr w 3) : Calls Tryd.prog 54 #[.string s] w fun e w' => e = .returned (.int .i64 (partV s)) ∧ Below w.heap.size w w' := by
  cases hp : Lib.parseIntB 64 s.data.toList with
  | ok v =>
    have HO : Hid (partV s = v) := hid_intro (by unfold partV; rw [hp])
    have HC := hid_intro (Tryd.strconv_ParseInt_10_at64_ok s (by omega) v hp)
    clear hp
    go_enter Tryd.func54, Tryd.ntmps54
    go_wp2_with fail
    refine (HC.out _).mono ?_
    rintro e w' ⟨rfl, hw⟩
    have HB : Hid (Below w.heap.size w w') := hid_intro (by
      rcases hw with rfl | ⟨t, rfl⟩
      · exact Below.refl _ _
      · exact bel_bytes2 _ _ _)
    clear hw
    go_wp2_with fail
    go_ret
    exact ⟨by rw [HO.out]; rfl, HB.out⟩
  | «syntax» =>
    obtain ⟨ev, hv, hev⟩ := hS
    have HO : Hid (partV s = 0) := hid_intro (by unfold partV; rw [hp])
    have HC := hid_intro (Tryd.strconv_ParseInt_10_at64_syntax s (by omega) hp ev w hv hev)
    clear hp hv hev
    go_enter Tryd.func54, Tryd.ntmps54
    go_wp2_with fail
    refine HC.out.mono ?_
    rintro e w' ⟨N, rfl, hN, hcell, hB⟩
    have HB := hid_intro hB
    clear hB hcell hN
    go_wp2_with fail
    go_ret
    exact ⟨by rw [HO.out]; rfl, HB.out⟩
  | range =>
    obtain ⟨ev, hv, hev⟩ := hR
    have HO : Hid (partV s = 0) := hid_intro (by unfold partV; rw [hp])
    have HC := hid_intro (Tryd.strconv_ParseInt_10_at64_range s (by omega) hp ev w hv hev)
    clear hp hv hev
    go_enter Tryd.func54, Tryd.ntmps54
    go_wp2_with fail
    refine HC.out.mono ?_
    rintro e w' ⟨N, rfl, hN, hcell, hB⟩
    have HB := hid_intro hB
    clear hB hcell hN
    go_wp2_with fail
    go_ret
    exact ⟨by rw [HO.out]; rfl, HB.out⟩
end DecR
end Go.Proofs.YtfnkhohommahoaaDoor
