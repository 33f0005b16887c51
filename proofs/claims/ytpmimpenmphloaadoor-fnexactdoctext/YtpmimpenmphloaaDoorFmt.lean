/-
  Numbers as digits, as the library writes them: one digit, and four. The condition: the library's table stands in its variable.
-/
import Derived.Test.YtpmimpenmphloaaDoorLen64
import Derived.RegionTactic
namespace Go.Proofs.YtpmimpenmphloaaDoor
open Go.ChangeShapes Go.WideShapes Go.ChangeAt Go.RowKit
set_option linter.unusedVariables false
namespace DecR
theorem hid_intro {p : Prop} (h : p) : Hid p := h
/-- The variable holds the library's table of powers, as far as it is read. -/
def Pows (w : World) : Prop := 0 < w.heap.size ∧ w.cell? ⟨0, 3, none⟩ = some (.int .u64 1000)
theorem Pows.below {w w' : World} (h : Pows w) (hb : Below w.heap.size w w') : Pows w' :=
  ⟨by have := hb.size; have := h.1; omega, by rw [hb.cell (p := ⟨0, 3, none⟩) h.1]; exact h.2⟩
theorem log_any (k : Nat) (h : k = 11 ∨ k = 12) (w : World) : Calls Tryd.prog 43 #[.int .i64 k] w fun e w' => e = .returned (.int .i64 3) ∧ w' = w := by
  rcases h with rfl | rfl
  all_goals
    go_enter Tryd.func43, Tryd.ntmps43
    go_wp2
    go_ret
    exact ⟨rfl, rfl⟩
theorem bits_of (u k : Nat) (h1 : 1970 ≤ u) (h2 : u ≤ 2200) (hb : DivR.Bits u k) : k = 11 ∨ k = 12 := by
  obtain ⟨a, b, c⟩ := hb
  have l1 : ¬ k ≤ 10 := fun h => by
    have : 2 ^ k ≤ 2 ^ 10 := Nat.pow_le_pow_right (by omega) h
    omega
  have l2 : ¬ 13 ≤ k := fun h => by
    have : 2 ^ 12 ≤ 2 ^ (k - 1) := Nat.pow_le_pow_right (by omega) (by omega)
    omega
  omega
theorem nd_any (u : Nat) (h1 : 1970 ≤ u) (h2 : u ≤ 2200) (w : World) (hP : Pows w) : Calls Tryd.prog 40 #[.int .u64 u] w fun e w' => e = .returned (.int .i64 4) ∧ w' = w := by
  obtain ⟨hp1, hp2⟩ := hP
  have HL := hid_intro (fun w => DivR.len_inner u u u (u / 256) (.inl ⟨by omega, rfl⟩) (.inl ⟨by omega, rfl⟩) (.inr ⟨by omega, by omega⟩) (by omega) (by omega) w)
  have hu : (1000 : Int) ≤ (u : Int) := by omega
  go_enter Tryd.func40, Tryd.ntmps40
  go_wp2_with fail
  refine (HL.out _).mono ?_
  rintro e w1 ⟨⟨k, rfl, hk, hb⟩, rfl⟩
  have hk2 := bits_of u k h1 h2 hb
  have HG := hid_intro (fun w => log_any k hk2 w)
  clear hk hb hk2
  go_wp2_with fail
  refine (HG.out _).mono ?_
  rintro e w2 ⟨rfl, rfl⟩
  go_wp2
  go_ret
  exact ⟨rfl, rfl⟩
/-- The library's text of the numbers 00 to 99. -/
abbrev sm : ByteArray := { data := #[48, 48, 48, 49, 48, 50, 48, 51, 48, 52, 48, 53, 48, 54, 48, 55, 48, 56, 48, 57, 49, 48, 49, 49, 49, 50, 49, 51, 49, 52, 49, 53, 49, 54, 49, 55, 49, 56, 49, 57, 50, 48, 50, 49, 50, 50, 50, 51, 50, 52, 50, 53, 50, 54, 50, 55, 50, 56, 50, 57, 51, 48, 51, 49, 51, 50, 51, 51, 51, 52, 51, 53, 51, 54, 51, 55, 51, 56, 51, 57, 52, 48, 52, 49, 52, 50, 52, 51, 52, 52, 52, 53, 52, 54, 52, 55, 52, 56, 52, 57, 53, 48, 53, 49, 53, 50, 53, 51, 53, 52, 53, 53, 53, 54, 53, 55, 53, 56, 53, 57, 54, 48, 54, 49, 54, 50, 54, 51, 54, 52, 54, 53, 54, 54, 54, 55, 54, 56, 54, 57, 55, 48, 55, 49, 55, 50, 55, 51, 55, 52, 55, 53, 55, 54, 55, 55, 55, 56, 55, 57, 56, 48, 56, 49, 56, 50, 56, 51, 56, 52, 56, 53, 56, 54, 56, 55, 56, 56, 56, 57, 57, 48, 57, 49, 57, 50, 57, 51, 57, 52, 57, 53, 57, 54, 57, 55, 57, 56, 57, 57] }
theorem sm_all : (List.range 100).all (fun c => decide ((sm.data.getD (2 * c) 0).toNat = 48 + c / 10) && decide ((sm.data.getD (2 * c + 1) 0).toNat = 48 + c % 10)) = true := by decide +kernel
theorem sm_size : sm.size = 200 := by decide +kernel
theorem sm_at (i : Nat) (h : i < sm.size) : sm[i] = sm.data.getD i 0 := by
  show sm.data[i]'h = _
  rw [Array.getD_eq_getD_getElem?, Array.getElem?_eq_getElem h]
  rfl
theorem sm_hi (c : Nat) (hc : c < 100) (h : 2 * c < sm.size) : ((sm[2 * c].toNat : Nat) : Int) = ((48 + c / 10 : Nat) : Int) := by
  have := List.all_eq_true.1 sm_all c (List.mem_range.2 hc)
  simp only [Bool.and_eq_true, decide_eq_true_eq] at this
  rw [sm_at, this.1]
theorem sm_lo (c : Nat) (hc : c < 100) (h : 2 * c + 1 < sm.size) : ((sm[2 * c + 1].toNat : Nat) : Int) = ((48 + c % 10 : Nat) : Int) := by
  have := List.all_eq_true.1 sm_all c (List.mem_range.2 hc)
  simp only [Bool.and_eq_true, decide_eq_true_eq] at this
  rw [sm_at, this.2]
/-- What is left when the four digits are written. -/
def wrote (w : World) (B a b c d : Nat) : World := ((((w.setCell ⟨B, 4, none⟩ (.int .u8 ((48 + d : Nat) : Int))).setCell ⟨B, 3, none⟩ (.int .u8 ((48 + c : Nat) : Int))).setCell ⟨B, 2, none⟩ (.int .u8 ((48 + b : Nat) : Int))).setCell ⟨B, 1, none⟩ (.int .u8 ((48 + a : Nat) : Int))).drew.drew
theorem wrote_eq (w : World) (B a b c d : Nat) (x1 x2 x3 x4 : Int) (h1 : x1 = ((48 + d : Nat) : Int)) (h2 : x2 = ((48 + c : Nat) : Int)) (h3 : x3 = ((48 + b : Nat) : Int)) (h4 : x4 = ((48 + a : Nat) : Int)) :
    ((((w.setCell ⟨B, 4, none⟩ (.int .u8 x1)).setCell ⟨B, 3, none⟩ (.int .u8 x2)).setCell ⟨B, 2, none⟩ (.int .u8 x3)).setCell ⟨B, 1, none⟩ (.int .u8 x4)).drew.drew = wrote w B a b c d := by
  subst h1 h2 h3 h4; rfl
set_option maxRecDepth 100000 in
set_option maxHeartbeats 8000000 in
theorem fb_any (n B c : Nat) (v1 v2 v3 v4 : Value) (h : 1970 ≤ n) (h2 : n ≤ 2200) (w : World) (c1 : w.cell? ⟨B, 1, none⟩ = some v1) (c2 : w.cell? ⟨B, 2, none⟩ = some v2) (c3 : w.cell? ⟨B, 3, none⟩ = some v3) (c4 : w.cell? ⟨B, 4, none⟩ = some v4)
    (f1 : w.frozen? ⟨B, 1, none⟩ = false) (f2 : w.frozen? ⟨B, 2, none⟩ = false) (f3 : w.frozen? ⟨B, 3, none⟩ = false) (f4 : w.frozen? ⟨B, 4, none⟩ = false) :
    Calls Tryd.prog 41 #[.slice (some ⟨B, 1, none⟩) 4 c, .int .u64 n] w fun e w' => e = .returned (.tuple #[]) ∧ w' = wrote w B (n / 100 / 10) (n / 100 % 10) (n % 100 / 10) (n % 100 % 10) := by
  have h3 : (1970 : Int) ≤ (n : Int) := by omega
  have h4 : (n : Int) ≤ 2200 := by omega
  obtain ⟨A, hA⟩ : ∃ A, A = n / 100 := ⟨_, rfl⟩
  obtain ⟨C, hC⟩ : ∃ C, C = n % 100 := ⟨_, rfl⟩
  have e1 : (n : Int) % 10000 / 100 * 2 = ((2 * A : Nat) : Int) := by omega
  have e2 : (n : Int) % 100 * 2 = ((2 * C : Nat) : Int) := by omega
  have e3 : (n : Int) / 10000 = 0 := by omega
  have b1 : (2 * C : Nat) < 199 := by omega
  have b2 : (2 * A : Nat) < 199 := by omega
  obtain ⟨P, hP⟩ : ∃ P, P = 2 * A := ⟨_, rfl⟩
  obtain ⟨Q, hQ⟩ : ∃ Q, Q = 2 * C := ⟨_, rfl⟩
  rw [← hP] at e1 b2
  rw [← hQ] at e2 b1
  have HP := hid_intro hP
  have HQ := hid_intro hQ
  have HA := hid_intro hA
  have HC := hid_intro hC
  have b3 : (Q : Int) < 200 := by omega
  have b4 : (P : Int) < 200 := by omega
  have b5 : (Q : Int) + 1 < 200 := by omega
  have b6 : (P : Int) + 1 < 200 := by omega
  have b7 : Q + 1 < 200 := by omega
  have b8 : P + 1 < 200 := by omega
  have b9 : Q < 200 := by omega
  have b10 : P < 200 := by omega
  have k1 : IntKind.u32.wrap ((Q : Int) + 1) = (Q : Int) + 1 := by rw [IntKind.wrap_u32]; omega
  have b11 : (0 : Int) ≤ (Q : Int) + 1 := by omega
  have b12 : (0 : Int) ≤ (P : Int) + 1 := by omega
  have k2 : IntKind.u32.wrap ((P : Int) + 1) = (P : Int) + 1 := by rw [IntKind.wrap_u32]; omega
  clear h h2 hA hC hP hQ
  go_enter Tryd.func41, Tryd.ntmps41
  go_wp2_with fail
  go_loop [1, 4] (fun x z => x = .int .u64 n ∧ z = .int .i64 4) (fun _ _ => 0)
  case atStart => exact ⟨rfl, rfl⟩
  case round =>
    obtain ⟨rfl, rfl⟩ := hrel
    go_wp2_with fail
    go_region
    go_wp2_with fail
    go_region
    go_wp2_with fail
    have hA := HA.out
    have hC := HC.out
    have hP := HP.out
    have hQ := HQ.out
    subst hP hQ
    have s1 := sm_lo C (by omega) (by rw [sm_size]; omega)
    have s2 := sm_hi C (by omega) (by rw [sm_size]; omega)
    have s3 := sm_lo A (by omega) (by rw [sm_size]; omega)
    have s4 := sm_hi A (by omega) (by rw [sm_size]; omega)
    subst hA hC
    refine bodyPost_end (v := .tuple #[]) (by simp [results, Tryd.results41, go_sem]) rfl ⟨rfl, ?_⟩
    exact wrote_eq w B _ _ _ _ _ _ _ _ s1 s2 s3 s4
end DecR
end Go.Proofs.YtpmimpenmphloaaDoor
