/-
  What is sold, and what is gone: the program's closures. The condition: sizes of at most 1048576.
  What strings.Compare hands back.
  How an engine's windows stand, on both sides. The condition: none beyond the values.
  A region that draws its order, in a class of worlds that all hold some facts: one walk of the order of the text serves. No condition.
-/
import Derived.Shelf.Small.Strs
import Derived.Ground.SlgmProg
import Derived.Shelf.SortM.Plain
import Derived.Shelf.SortM.SortNone
import Derived.Test.YtjfmdcdclifpkaaGreatDoorProg
import Derived.Deep.RegionHeld3
import Derived.BigQuiet
import Derived.Deep.QuietTactic
import Derived.Test.YtjfmdcdclifpkaaGreatDoorE22
namespace Go.Proofs.YtjfmdcdclifpkaaGreatDoor
open Go.ChangeShapes Go.WideShapes Go.ChangeAt Go.RowKit
set_option linter.unusedVariables false
namespace EngR
open CatR
/-- Is there a meter of that name? -/
def sellB (ms : List Me) (t : ByteArray) : Bool := ms.any (fun m => decide (m.n = t))
theorem sell1 (n : ByteArray) (g : Int) (wh : Bool) (f l : Int) (ta : Option Addr) (tl tc : Nat) (t : ByteArray) (B : Nat) (w : World) (hB : B < w.heap.size) (hc : w.cell? ⟨B, 0, none⟩ = some (.string t)) :
    Calls Tryz.prog 188 #[.agg #[.string n, .int .i64 g, .bool wh, .int .i64 f, .int .i64 l, .slice ta tl tc], .pointer (some ⟨B, 0, none⟩)] w fun e w' => e = .returned (.bool (decide (n = t))) ∧ Below w.heap.size w w' := by
  have HB : Hid (Below w.heap.size w (w.alloc (.cells #[.string n, .int .i64 g, .bool wh, .int .i64 f, .int .i64 l, .slice ta tl tc] 171))) := hid_intro ((Below.refl _ _).alloc (Nat.le_refl _) _)
  by_cases h : n = t
  · subst h
    go_enter Tryz.func188, Tryz.ntmps188
    go_wp2_with fail
    go_ret
    exact ⟨by simp, HB.out⟩
  · have hne2 : (n.toList == t.toList) = false := by simpa using fun q => h (LtR.toList_inj q)
    rw [decide_eq_false h]
    go_enter Tryz.func188, Tryz.ntmps188
    go_wp2_with fail
    go_ret
    exact ⟨rfl, HB.out⟩
set_option maxHeartbeats 4000000 in
theorem idxM (ma : Option Addr) (mc : Nat) (ms : List Me) (t : ByteArray) (B : Nat) (w : World) (hM : Mes ma ms.length ms w) (hlen : ms.length ≤ 1048576) (hB : B < w.heap.size) (hc : w.cell? ⟨B, 0, none⟩ = some (.string t)) :
    Calls Tryz.prog 220 #[.slice ma ms.length mc, .func (.func 188) #[] #[.pointer (some ⟨B, 0, none⟩)]] w fun e w' => (∃ n : Int, e = .returned (.int .i64 n) ∧ ((0 ≤ n) = (sellB ms t = true))) ∧ Below w.heap.size w w' := by
  have HM := hid_intro hM
  have HC := hid_intro hc
  have HY : Hid (∀ k, k < ms.length → (ms.getD k Me.zero).n = t → (∀ n : Int, 0 ≤ n → ((0 ≤ n) = (sellB ms t = true)))) := hid_intro (fun k hk e n hn => by
    have h1 : sellB ms t = true := List.any_eq_true.2 ⟨ms[k], List.getElem_mem hk, by simpa [List.getD, hk] using e⟩
    simp [hn, h1])
  have HNo : Hid ((∀ i, i < ms.length → (ms.getD i Me.zero).n ≠ t) → ((0 ≤ (-1 : Int)) = (sellB ms t = true))) := hid_intro (fun h => by
    have h1 : sellB ms t = false := by
      cases hq : sellB ms t with
      | false => rfl
      | true =>
        obtain ⟨m, hm, hn⟩ := List.any_eq_true.1 hq
        obtain ⟨i, hi, rfl⟩ := List.getElem_of_mem hm
        exact absurd (by simpa [List.getD, hi] using hn) (h i hi)
    simp [h1])
  generalize (sellB ms t = true) = SB at *
  obtain ⟨len, hl⟩ : ∃ len, len = ms.length := ⟨_, rfl⟩
  rw [← hl] at hlen HY HNo ⊢
  have HL := hid_intro hl
  clear hM hc hl
  go_enter Tryz.func220, Tryz.ntmps220
  go_wp2_with fail
  go_loopw [5, 8] (fun y z wr => ∃ k : Nat, k ≤ len ∧ z = .int .i64 k ∧ Hid (∀ i, i < k → (ms.getD i Me.zero).n ≠ t) ∧ Hid (Below w.heap.size w wr)) (fun _ z _ => len - (intOf z).toNat)
  case atStart => exact ⟨0, by omega, rfl, hid_intro (fun i hi => absurd hi (by omega)), hid_intro (Below.refl _ _)⟩
  case round =>
    obtain ⟨k, hk, rfl, HN, HB⟩ := hrel
    by_cases hlt : k < len
    · have hlt2 : (k : Int) < (len : Int) := by omega
      obtain ⟨b, off, rfl, hbl, ta, tc, c0, c1, c2, c3, c4, c5, hT⟩ := mes_at (HM.out.below HB.out) k (by have := HL.out; omega)
      have HYk := hid_intro (HY.out k (by omega))
      have HNk : Hid ((ms.getD k Me.zero).n ≠ t → ∀ i, i < k + 1 → (ms.getD i Me.zero).n ≠ t) := hid_intro (fun h i hi => by
        by_cases e : i = k
        · subst e; exact h
        · exact HN.out i (by omega))
      have hBl : B < wr.heap.size := by have := HB.out.size; omega
      have hcw : wr.cell? ⟨B, 0, none⟩ = some (.string t) := (HB.out.cell (p := ⟨B, 0, none⟩) hB).trans HC.out
      generalize ms.getD k Me.zero = X at *
      obtain ⟨xn, xg, xw, xf, xl, xt⟩ := X
      dsimp only at c0 c1 c2 c3 c4 c5 HYk HNk
      have HS := hid_intro (sell1 xn xg xw xf xl ta xt.length tc t B wr hBl hcw)
      generalize xt.length = tl at *
      clear hT hcw
      by_cases he : xn = t
      · rw [decide_eq_true he] at HS
        have HR := hid_intro (HYk.out he (k : Int) (by omega))
        clear he
        go_wp2_with fail
        refine HS.out.mono ?_
        rintro e w1 ⟨rfl, hb⟩
        have HB1 := hid_intro (HB.out.trans (hb.mono HB.out.size))
        clear hb c0 c1 c2 c3 c4 c5
        go_wp2_with fail
        go_ret
        exact ⟨⟨_, rfl, HR.out⟩, HB1.out⟩
      · rw [decide_eq_false he] at HS
        have HN2 := hid_intro (HNk.out he)
        clear he
        go_wp2_with fail
        refine HS.out.mono ?_
        rintro e w1 ⟨rfl, hb⟩
        have HB1 := hid_intro (HB.out.trans (hb.mono HB.out.size))
        clear hb c0 c1 c2 c3 c4 c5
        go_wp2_with fail
        go_roundw
        case rel => exact ⟨k + 1, by omega, by go_num, HN2, HB1⟩
        case measure => simp [intOf]; omega
    · have hlt2 : ¬ (k : Int) < (len : Int) := by omega
      have HR := hid_intro (HNo.out (fun i hi => HN.out i (by omega)))
      go_wp2_with fail
      go_ret
      exact ⟨⟨_, rfl, iff_of_eq HR.out⟩, HB.out⟩
set_option maxHeartbeats 4000000 in
theorem isells (ma ca : Option Addr) (mc cl cc : Nat) (ms : List Me) (t : ByteArray) (w : World) (hM : Mes ma ms.length ms w) (hlen : ms.length ≤ 1048576) :
    Calls Tryz.prog 138 #[.agg #[.slice ma ms.length mc, .slice ca cl cc], .string t] w fun e w' => e = .returned (.bool (sellB ms t)) ∧ Below w.heap.size w w' := by
  obtain ⟨W, hW⟩ : ∃ z, z = (w.alloc (.cells #[.slice ma ms.length mc, .slice ca cl cc] 38)).alloc (.cells #[.string t] 9) := ⟨_, rfl⟩
  have HB : Hid (Below w.heap.size w W) := hid_intro (by rw [hW]; exact ((Below.refl _ _).alloc (Nat.le_refl _) _).alloc (by simp) _)
  have hl : w.heap.size + 1 < W.heap.size := by rw [hW]; simp
  have hc : W.cell? ⟨w.heap.size + 1, 0, none⟩ = some (.string t) := by rw [hW]; simp [go_sem]
  have HI : Hid (∀ W2, Below W.heap.size W W2 → Calls Tryz.prog 220 #[.slice ma ms.length mc, .func (.func 188) #[] #[.pointer (some ⟨w.heap.size + 1, 0, none⟩)]] W2 fun e w' => (∃ n : Int, e = .returned (.int .i64 n) ∧ ((0 ≤ n) = (sellB ms t = true))) ∧ Below W2.heap.size W2 w') := hid_intro (fun W2 h2 => idxM ma mc ms t _ W2 ((hM.below HB.out).below h2) hlen (by have := h2.size; omega) ((h2.cell (p := ⟨w.heap.size + 1, 0, none⟩) hl).trans hc))
  have HR : Hid (∀ n : Int, ((0 ≤ n) = (sellB ms t = true)) → decide (0 ≤ n) = sellB ms t) := hid_intro (fun n h => by
    cases hq : sellB ms t with
    | true => rw [hq] at h; simp only [eq_self, eq_iff_iff, iff_true] at h; exact decide_eq_true h
    | false => rw [hq] at h; simp only [Bool.false_eq_true, eq_iff_iff, iff_false] at h; exact decide_eq_false h)
  generalize hq : (sellB ms t = true) = SB at *
  clear hq
  generalize sellB ms t = R at *
  have HW := hid_intro hW
  clear hW hM
  generalize ms.length = ml at *
  go_enter Tryz.func138, Tryz.ntmps138
  go_wp2_with (go_at_call 187; go_in)
  rw [← HW.out]
  refine (HI.out _ (Below.refl _ _)).mono ?_
  rintro e w1 ⟨⟨n, rfl, hn⟩, hb⟩
  have HB1 := hid_intro (HB.out.trans (hb.mono HB.out.size))
  have HN := hid_intro (HR.out n hn)
  clear hb hn
  go_wp2_with fail
  go_ret
  exact ⟨ret_bool HN.out, HB1.out⟩
theorem at_sell {ms : List Me} {t : ByteArray} {r : Int} (h : atB ms t r) : decide (r < 0) = !sellB ms t := by
  rcases h with ⟨k, hk, rfl, e, _⟩ | ⟨rfl, hn⟩
  · have h1 : sellB ms t = true := List.any_eq_true.2 ⟨ms[k], List.getElem_mem hk, by unfold mN at e; simpa [List.getD, hk] using e⟩
    rw [h1]
    simp
  · have h1 : sellB ms t = false := by
      cases hq : sellB ms t with
      | false => rfl
      | true =>
        obtain ⟨m, hm, hn2⟩ := List.any_eq_true.1 hq
        obtain ⟨i, hi, rfl⟩ := List.getElem_of_mem hm
        exact absurd (by unfold mN; simpa [List.getD, hi] using hn2) (hn i hi)
    rw [h1]
    simp
end EngR
namespace EngR
open SeenR (Ens)
open RowG (hid_intro)
/-- Is there an entry ahead of that minute? -/
def goneB (es : List SeenR.N) (v : Int) : Bool := es.any (fun e => decide (e.n < v))
theorem gone1 (i : ByteArray) (n s v : Int) (B : Nat) (w : World) (hB : B < w.heap.size) (hc : w.cell? ⟨B, 0, none⟩ = some (.int .i64 v)) :
    Calls Tryz.prog 134 #[.agg #[.string i, .int .i64 n, .int .i64 s], .pointer (some ⟨B, 0, none⟩)] w fun e w' => e = .returned (.bool (decide (n < v))) ∧ Below w.heap.size w w' := by
  have HB : Hid (Below w.heap.size w (w.alloc (.cells #[.string i, .int .i64 n, .int .i64 s] 119))) := hid_intro ((Below.refl _ _).alloc (Nat.le_refl _) _)
  go_enter Tryz.func134, Tryz.ntmps134
  go_wp2_with fail
  go_ret
  exact ⟨rfl, HB.out⟩
set_option maxHeartbeats 4000000 in
theorem idxE (ma : Option Addr) (mc : Nat) (ms : List SeenR.N) (t : Int) (B : Nat) (w : World) (hM : Ens ma ms w) (hlen : ms.length ≤ 1048576) (hB : B < w.heap.size) (hc : w.cell? ⟨B, 0, none⟩ = some (.int .i64 t)) :
    Calls Tryz.prog 185 #[.slice ma ms.length mc, .func (.func 134) #[] #[.pointer (some ⟨B, 0, none⟩)]] w fun e w' => (∃ n : Int, e = .returned (.int .i64 n) ∧ ((0 ≤ n) = (goneB ms t = true))) ∧ Below w.heap.size w w' := by
  have HM := hid_intro hM
  have HC := hid_intro hc
  have HY : Hid (∀ k, k < ms.length → (ms.getD k SeenR.N.zero).n < t → (∀ n : Int, 0 ≤ n → ((0 ≤ n) = (goneB ms t = true)))) := hid_intro (fun k hk e n hn => by
    have h1 : goneB ms t = true := List.any_eq_true.2 ⟨ms[k], List.getElem_mem hk, by simpa [List.getD, hk] using e⟩
    simp [hn, h1])
  have HNo : Hid ((∀ i, i < ms.length → t ≤ (ms.getD i SeenR.N.zero).n) → ((0 ≤ (-1 : Int)) = (goneB ms t = true))) := hid_intro (fun h => by
    have h1 : goneB ms t = false := by
      cases hq : goneB ms t with
      | false => rfl
      | true =>
        obtain ⟨m, hm, hn⟩ := List.any_eq_true.1 hq
        obtain ⟨i, hi, rfl⟩ := List.getElem_of_mem hm
        exact absurd (show (ms.getD i SeenR.N.zero).n < t by simpa [List.getD, hi] using hn) (Int.not_lt.2 (h i hi))
    simp [h1])
  generalize (goneB ms t = true) = SB at *
  obtain ⟨len, hl⟩ : ∃ len, len = ms.length := ⟨_, rfl⟩
  rw [← hl] at hlen HY HNo ⊢
  have HL := hid_intro hl
  clear hM hc hl
  go_enter Tryz.func185, Tryz.ntmps185
  go_wp2_with fail
  go_loopw [5, 8] (fun y z wr => ∃ k : Nat, k ≤ len ∧ z = .int .i64 k ∧ Hid (∀ i, i < k → t ≤ (ms.getD i SeenR.N.zero).n) ∧ Hid (Below w.heap.size w wr)) (fun _ z _ => len - (intOf z).toNat)
  case atStart => exact ⟨0, by omega, rfl, hid_intro (fun i hi => absurd hi (by omega)), hid_intro (Below.refl _ _)⟩
  case round =>
    obtain ⟨k, hk, rfl, HN, HB⟩ := hrel
    by_cases hlt : k < len
    · have hlt2 : (k : Int) < (len : Int) := by omega
      obtain ⟨b, off, rfl, hbl, c0, c1, c2⟩ := (HM.out.below HB.out).at k (by have := HL.out; omega)
      have HYk := hid_intro (HY.out k (by omega))
      have HNk : Hid (t ≤ (ms.getD k SeenR.N.zero).n → ∀ i, i < k + 1 → t ≤ (ms.getD i SeenR.N.zero).n) := hid_intro (fun h i hi => by
        by_cases e : i = k
        · subst e; exact h
        · exact HN.out i (by omega))
      have hBl : B < wr.heap.size := by have := HB.out.size; omega
      have hcw : wr.cell? ⟨B, 0, none⟩ = some (.int .i64 t) := (HB.out.cell (p := ⟨B, 0, none⟩) hB).trans HC.out
      generalize ms.getD k SeenR.N.zero = X at *
      obtain ⟨xi, xn, xs⟩ := X
      dsimp only at c0 c1 c2 HYk HNk
      have HS := hid_intro (gone1 xi xn xs t B wr hBl hcw)
      clear hcw
      by_cases he : xn < t
      · rw [decide_eq_true he] at HS
        have HR := hid_intro (HYk.out he (k : Int) (by omega))
        clear he
        go_wp2_with fail
        refine HS.out.mono ?_
        rintro e w1 ⟨rfl, hb⟩
        have HB1 := hid_intro (HB.out.trans (hb.mono HB.out.size))
        clear hb c0 c1 c2
        go_wp2_with fail
        go_ret
        exact ⟨⟨_, rfl, HR.out⟩, HB1.out⟩
      · rw [decide_eq_false he] at HS
        have HN2 := hid_intro (HNk.out (by omega))
        clear he
        go_wp2_with fail
        refine HS.out.mono ?_
        rintro e w1 ⟨rfl, hb⟩
        have HB1 := hid_intro (HB.out.trans (hb.mono HB.out.size))
        clear hb c0 c1 c2
        go_wp2_with fail
        go_roundw
        case rel => exact ⟨k + 1, by omega, by go_num, HN2, HB1⟩
        case measure => simp [intOf]; omega
    · have hlt2 : ¬ (k : Int) < (len : Int) := by omega
      have HR := hid_intro (HNo.out (fun i hi => HN.out i (by omega)))
      go_wp2_with fail
      go_ret
      exact ⟨⟨_, rfl, iff_of_eq HR.out⟩, HB.out⟩
set_option maxHeartbeats 4000000 in
theorem icont (ma : Option Addr) (mc : Nat) (es : List SeenR.N) (v : Int) (B : Nat) (w : World) (hM : Ens ma es w) (hlen : es.length ≤ 1048576) (hB : B < w.heap.size) (hc : w.cell? ⟨B, 0, none⟩ = some (.int .i64 v)) :
    Calls Tryz.prog 136 #[.slice ma es.length mc, .func (.func 134) #[] #[.pointer (some ⟨B, 0, none⟩)]] w fun e w' => e = .returned (.bool (goneB es v)) ∧ Below w.heap.size w w' := by
  have HI := hid_intro (idxE ma mc es v B w hM hlen hB hc)
  have HR : Hid (∀ n : Int, ((0 ≤ n) = (goneB es v = true)) → decide (0 ≤ n) = goneB es v) := hid_intro (fun n h => by
    cases hq : goneB es v with
    | true => rw [hq] at h; simp only [eq_self, eq_iff_iff, iff_true] at h; exact decide_eq_true h
    | false => rw [hq] at h; simp only [Bool.false_eq_true, eq_iff_iff, iff_false] at h; exact decide_eq_false h)
  generalize hq : (goneB es v = true) = SB at *
  clear hq
  generalize goneB es v = R at *
  clear hM
  generalize es.length = el at *
  go_enter Tryz.func136, Tryz.ntmps136
  go_wp2_with fail
  refine HI.out.mono ?_
  rintro e w1 ⟨⟨n, rfl, hn⟩, hb⟩
  have HB1 := hid_intro hb
  have HN := hid_intro (HR.out n hn)
  clear hb hn
  go_wp2_with fail
  go_ret
  exact ⟨ret_bool HN.out, HB1.out⟩
end EngR
end Go.Proofs.YtjfmdcdclifpkaaGreatDoor
namespace Go.Proofs
open Go.Shelf
def Tryz.lays106_ren : Go.Shelf.Ren := ⟨fun | 106 => 190 | 213 => 221 | 265 => 238 | n => n, fun | 9 => 9 | 3 => 3 | n => n, fun | n => n⟩
theorem Tryz.lays106 : Go.Proofs.Lays.n106 Tryz.prog Tryz.lays106_ren := {
  mixed := by kernel_rfl
  f106 := Tryz.func190.trans (congrArg some (by kernel_rfl))
  f213 := Tryz.func221.trans (congrArg some (by kernel_rfl))
  f265 := Tryz.func238.trans (congrArg some (by kernel_rfl))
  t3 := Tryz.underlying3
  a3 := Tryz.isAgg3
  z3 := Tryz.sizeOf3
  v3 := Tryz.zeroValue3
  t9 := Tryz.underlying9
  a9 := Tryz.isAgg9
  z9 := Tryz.sizeOf9
  v9 := Tryz.zeroValue9 }
open Go.RowKit in
theorem Tryz.strings_Compare (a b : ByteArray) (w : World) :
    Calls Tryz.prog 190 #[.string a, .string b] w fun e w' => e = .returned (.int .i64 (Lib.compareBytes a.data.toList b.data.toList)) ∧ w' = w := Any.strings_Compare Tryz.lays106 a b w
end Go.Proofs
namespace Go.Proofs.YtjfmdcdclifpkaaGreatDoor
open Go.ChangeShapes Go.WideShapes Go.ChangeAt Go.RowKit
set_option linter.unusedVariables false
namespace WinR
open RowG LtR
open Go.Op (bytesLess)
open CatR (Blk Blk.new)
theorem cmp_cases : ∀ (a b : List UInt8), (Lib.compareBytes a b = -1 ∧ bytesLess a b = true ∧ a ≠ b) ∨ (Lib.compareBytes a b = 0 ∧ bytesLess a b = false ∧ a = b) ∨ (Lib.compareBytes a b = 1 ∧ bytesLess a b = false ∧ a ≠ b)
  | [], [] => .inr (.inl ⟨rfl, rfl, rfl⟩)
  | [], _ :: _ => .inl ⟨rfl, rfl, by simp⟩
  | _ :: _, [] => .inr (.inr ⟨rfl, rfl, by simp⟩)
  | a :: xs, b :: ys => by
    unfold Lib.compareBytes bytesLess
    by_cases h1 : a < b
    · have hne : a ≠ b := fun e => by subst e; exact absurd h1 (by simp)
      exact .inl ⟨by rw [if_pos h1], by simp [h1], by simp [hne]⟩
    · rw [if_neg h1]
      by_cases h2 : b < a
      · have hne : a ≠ b := fun e => by subst e; exact absurd h2 (by simp)
        exact .inr (.inr ⟨by rw [if_pos h2], by simp [h1, hne], by simp [hne]⟩)
      · rw [if_neg h2]
        obtain rfl : a = b := UInt8.le_antisymm (UInt8.not_lt.1 h2) (UInt8.not_lt.1 h1)
        rcases cmp_cases xs ys with ⟨c1, c2, c3⟩ | ⟨c1, c2, c3⟩ | ⟨c1, c2, c3⟩
        · exact .inl ⟨c1, by simp [c2], by simp [c3]⟩
        · exact .inr (.inl ⟨c1, by simp [c2], by simp [c3]⟩)
        · exact .inr (.inr ⟨c1, by simp [c2], by simp [c3]⟩)
/-- One window stands ahead of another one. -/
def wlt (x y : Wd) : Bool := if x.a = y.a then (if x.mo = y.mo then lt x.m y.m else decide (x.mo < y.mo)) else lt x.a y.a
def ci (x y : Int) : Int := if x < y then -1 else if y < x then 1 else 0
def cb (x y : ByteArray) : Int := Lib.compareBytes x.data.toList y.data.toList
def or3 (a b c : Int) : Int := if a ≠ 0 then a else if b ≠ 0 then b else c
theorem cb_cases (x y : ByteArray) : (cb x y = -1 ∧ lt x y = true ∧ x ≠ y) ∨ (cb x y = 0 ∧ lt x y = false ∧ x = y) ∨ (cb x y = 1 ∧ lt x y = false ∧ x ≠ y) := by
  have e : ∀ z : ByteArray, z.toList = z.data.toList := fun z => by first | rfl | simp | exact ByteArray.toList_eq z
  unfold cb lt
  rw [e, e]
  rcases cmp_cases x.data.toList y.data.toList with ⟨c1, c2, c3⟩ | ⟨c1, c2, c3⟩ | ⟨c1, c2, c3⟩
  · exact .inl ⟨c1, c2, fun h => c3 (by rw [h])⟩
  · exact .inr (.inl ⟨c1, c2, ByteArray.ext (Array.toList_inj.1 c3)⟩)
  · exact .inr (.inr ⟨c1, c2, fun h => c3 (by rw [h])⟩)
theorem order_lt (x y : Wd) : (or3 (cb x.a y.a) (ci x.mo y.mo) (cb x.m y.m) < 0) = (wlt x y = true) := by
  unfold or3 wlt ci
  rcases cb_cases x.a y.a with ⟨c1, c2, c3⟩ | ⟨c1, c2, c3⟩ | ⟨c1, c2, c3⟩
  · simp [c1, c2, c3]
  · rw [c1, if_pos c3]
    simp only [ne_eq, not_true, if_false]
    rcases (show x.mo < y.mo ∨ x.mo = y.mo ∨ y.mo < x.mo by omega) with h | h | h
    · simp [h, show ¬ x.mo = y.mo by omega]
    · rw [if_pos h]
      simp only [h, Int.lt_irrefl, if_false, not_true]
      rcases cb_cases x.m y.m with ⟨d1, d2, d3⟩ | ⟨d1, d2, d3⟩ | ⟨d1, d2, d3⟩ <;> simp [d1, d2]
    · have h1 : ¬ x.mo < y.mo := by omega
      have h2 : ¬ x.mo = y.mo := by omega
      simp [h, h1, h2]
  · simp [c1, c2, c3]
theorem icb (x y : ByteArray) (w : World) : Calls Tryz.prog 190 #[.string x, .string y] w fun e w' => e = .returned (.int .i64 (cb x y)) ∧ w' = w := Tryz.strings_Compare x y w
theorem icmp (x y : Int) (w : World) : Calls Tryz.prog 191 #[.int .i64 x, .int .i64 y] w fun e w' => e = .returned (.int .i64 (ci x y)) ∧ w' = w := by
  unfold ci
  rcases (show x < y ∨ (¬ x < y ∧ y < x) ∨ (¬ x < y ∧ ¬ y < x) by omega) with h | ⟨h, h2⟩ | ⟨h, h2⟩
  · rw [if_pos h]
    go_enter Tryz.func191, Tryz.ntmps191
    go_wp2
    go_ret
    exact ⟨rfl, rfl⟩
  · rw [if_neg h, if_pos h2]
    go_enter Tryz.func191, Tryz.ntmps191
    go_wp2
    go_ret
    exact ⟨rfl, rfl⟩
  · rw [if_neg h, if_neg h2]
    go_enter Tryz.func191, Tryz.ntmps191
    go_wp2
    go_ret
    exact ⟨rfl, rfl⟩
theorem ior (a b c : Int) (w : World) : Calls Tryz.prog 189 #[.slice (some ⟨w.heap.size, 0, none⟩) 3 3] (w.alloc (.cells #[.int .i64 a, .int .i64 b, .int .i64 c] 3)) fun e w' => e = .returned (.int .i64 (or3 a b c)) ∧ w' = w.alloc (.cells #[.int .i64 a, .int .i64 b, .int .i64 c] 3) := by
  obtain ⟨W, hW⟩ : ∃ z, z = w.alloc (.cells #[.int .i64 a, .int .i64 b, .int .i64 c] 3) := ⟨_, rfl⟩
  have h := Blk.new w [.int .i64 a, .int .i64 b, .int .i64 c] 3
  rw [show (w.alloc (.cells [Value.int .i64 a, .int .i64 b, .int .i64 c].toArray 3)) = W from hW.symm] at h
  rw [← hW]
  clear hW
  generalize w.heap.size = g at *
  obtain ⟨hl, hc⟩ := h
  have c0 : W.cell? ⟨g, 0, none⟩ = some (.int .i64 a) := hc 0 (by simp)
  have c1 : W.cell? ⟨g, 1, none⟩ = some (.int .i64 b) := hc 1 (by simp)
  have c2 : W.cell? ⟨g, 2, none⟩ = some (.int .i64 c) := hc 2 (by simp)
  clear hc
  go_enter Tryz.func189, Tryz.ntmps189
  go_wp2_with fail
  go_loopw [8, 5] (fun z y wr => ∃ k : Nat, k ≤ 3 ∧ z = .int .i64 k ∧ wr = W ∧ (1 ≤ k → a = 0) ∧ (2 ≤ k → b = 0) ∧ (3 ≤ k → c = 0)) (fun z _ _ => 3 - (intOf z).toNat)
  case atStart => exact ⟨0, by omega, rfl, rfl, by omega, by omega, by omega⟩
  case round =>
    obtain ⟨k, hk, rfl, rfl, h1, h2, h3⟩ := hrel
    rcases (show k = 0 ∨ k = 1 ∨ k = 2 ∨ k = 3 by omega) with rfl | rfl | rfl | rfl
    · by_cases q : a = 0
      · go_wp2_with fail
        go_roundw
        case rel => exact ⟨1, by omega, by go_num, trivial, fun _ => q, by omega, by omega⟩
        case measure => simp [intOf]
      · have hR : or3 a b c = a := by unfold or3; rw [if_pos q]
        go_wp2_with fail
        go_ret
        exact ⟨ret_int hR.symm, rfl⟩
    · have q0 := h1 (by omega)
      by_cases q : b = 0
      · go_wp2_with fail
        go_roundw
        case rel => exact ⟨2, by omega, by go_num, trivial, fun _ => q0, fun _ => q, by omega⟩
        case measure => simp [intOf]
      · have hR : or3 a b c = b := by unfold or3; rw [if_neg (by simp [q0]), if_pos q]
        go_wp2_with fail
        go_ret
        exact ⟨ret_int hR.symm, rfl⟩
    · have q0 := h1 (by omega)
      have q1 := h2 (by omega)
      have hR : or3 a b c = c := by unfold or3; rw [if_neg (by simp [q0]), if_neg (by simp [q1])]
      by_cases q : c = 0
      · go_wp2_with fail
        go_roundw
        case rel => exact ⟨3, by omega, by go_num, trivial, fun _ => q0, fun _ => q1, fun _ => q⟩
        case measure => simp [intOf]
      · go_wp2_with fail
        go_ret
        exact ⟨ret_int hR.symm, rfl⟩
    · have q0 := h1 (by omega)
      have q1 := h2 (by omega)
      have q2 := h3 (by omega)
      have hR : or3 a b c = 0 := by unfold or3; simp [q0, q1, q2]
      go_wp2_with fail
      go_ret
      exact ⟨ret_int hR.symm, rfl⟩
/-- What is read through the region that draws. -/
def OB (w : World) (xa xm ya ym : ByteArray) (xo yo : Int) (W : World) : Prop := Below w.heap.size w W ∧ w.heap.size + 1 < W.heap.size ∧ W.cell? ⟨w.heap.size, 0, none⟩ = some (.string xa) ∧ W.cell? ⟨w.heap.size, 1, none⟩ = some (.string xm) ∧ W.cell? ⟨w.heap.size, 2, none⟩ = some (.int .i64 xo) ∧ W.cell? ⟨w.heap.size + 1, 0, none⟩ = some (.string ya) ∧ W.cell? ⟨w.heap.size + 1, 1, none⟩ = some (.string ym) ∧ W.cell? ⟨w.heap.size + 1, 2, none⟩ = some (.int .i64 yo)
theorem OB.below {w : World} {xa xm ya ym : ByteArray} {xo yo : Int} {W W' : World} (h : OB w xa xm ya ym xo yo W) (hb : Below W.heap.size W W') : OB w xa xm ya ym xo yo W' := by
  obtain ⟨h0, h1, c0, c1, c2, d0, d1, d2⟩ := h
  have f := fun o => hb.cell (p := ⟨w.heap.size, o, none⟩) (show w.heap.size < W.heap.size by omega)
  have g := fun o => hb.cell (p := ⟨w.heap.size + 1, o, none⟩) h1
  have := hb.size
  exact ⟨h0.trans (hb.mono h0.size), by omega, (f _).trans c0, (f _).trans c1, (f _).trans c2, (g _).trans d0, (g _).trans d1, (g _).trans d2⟩
set_option maxRecDepth 100000 in
set_option maxHeartbeats 4000000 in
theorem iorder_in (xa xm : ByteArray) (xo xe xs xx : Int) (xta : Option Addr) (xtl xtc : Nat) (xha : Option Addr) (xhl xhc : Nat) (ya ym : ByteArray) (yo ye ys yx : Int) (yta : Option Addr) (ytl ytc : Nat) (yha : Option Addr) (yhl yhc : Nat) (w : World) :
    Calls Tryz.prog 139 #[.agg #[.string xa, .string xm, .int .i64 xo, .int .i64 xe, .int .i64 xs, .int .i64 xx, .slice xta xtl xtc, .slice xha xhl xhc], .agg #[.string ya, .string ym, .int .i64 yo, .int .i64 ye, .int .i64 ys, .int .i64 yx, .slice yta ytl ytc, .slice yha yhl yhc]] w fun e w' => e = .returned (.int .i64 (or3 (cb xa ya) (ci xo yo) (cb xm ym))) ∧ Below w.heap.size w w' := by
  have HC := hid_intro icb
  have HI := hid_intro icmp
  have HO := hid_intro ior
  have HS0 : Hid (OB w xa xm ya ym xo yo ((w.alloc (.cells #[.string xa, .string xm, .int .i64 xo, .int .i64 xe, .int .i64 xs, .int .i64 xx, .slice xta xtl xtc, .slice xha xhl xhc] 115)).alloc (.cells #[.string ya, .string ym, .int .i64 yo, .int .i64 ye, .int .i64 ys, .int .i64 yx, .slice yta ytl ytc, .slice yha yhl yhc] 115))) := hid_intro ⟨((Below.refl _ _).alloc (Nat.le_refl _) _).alloc (by simp) _, by simp, by simp [go_sem], by simp [go_sem], by simp [go_sem], by simp [go_sem], by simp [go_sem], by simp [go_sem]⟩
  have HS1 := hid_intro (HS0.out.below (Below.refl _ _).drew)
  go_enter Tryz.func139, Tryz.ntmps139
  go_wp2_with fail
  -- REGION
  refine wp_region_held_drew (S := (fun W => Below w.heap.size w W ∧ w.heap.size + 1 < W.heap.size ∧ W.cell? ⟨w.heap.size, 0, none⟩ = some (.string xa) ∧ W.cell? ⟨w.heap.size, 1, none⟩ = some (.string xm) ∧ W.cell? ⟨w.heap.size, 2, none⟩ = some (.int .i64 xo) ∧ W.cell? ⟨w.heap.size + 1, 0, none⟩ = some (.string ya) ∧ W.cell? ⟨w.heap.size + 1, 1, none⟩ = some (.string ym) ∧ W.cell? ⟨w.heap.size + 1, 2, none⟩ = some (.int .i64 yo))) (by kernel_rfl) HS1.out (fun hHeld => ?_)
  obtain ⟨kd, hkd⟩ : ∃ z, z = ((w.alloc (.cells #[.string xa, .string xm, .int .i64 xo, .int .i64 xe, .int .i64 xs, .int .i64 xx, .slice xta xtl xtc, .slice xha xhl xhc] 115)).alloc (.cells #[.string ya, .string ym, .int .i64 yo, .int .i64 ye, .int .i64 ys, .int .i64 yx, .slice yta ytl ytc, .slice yha yhl yhc] 115)).drew := ⟨_, rfl⟩
  rw [← hkd]
  have HS2 := HS1
  rw [← hkd] at HS2 hHeld
  clear hkd HS1 HS0
  refine wpAnyH_take (i := 0) (oi := { dst := some 5, op := Op.fieldAddr 115 (Operand.tmp 2) 0, type := 0, pos := "l10_engine.go:108", after := #[], guard := none }) (v := ?_) rfl (by kernel_rfl) (by kernel_rfl) (by kernel_rfl) (fun _ _ _ h => h) (Or.inl ⟨by rfl, ?_⟩) (by assumption) ?_
  rotate_left
  · (intro w hSw; (try dsimp only at hSw); go_simp) <;> with_reducible rfl
  try simp only [Act.put, List.setIfInBounds_toArray, List.set_cons_zero, List.set_cons_succ]
  refine wpAnyH_take (i := 1) (oi := { dst := some 6, op := Op.load 9 (Operand.tmp 5), type := 9, pos := "l10_engine.go:108", after := #[{ on := 0, ground := Ground.data }], guard := none }) (v := ?_) rfl (by kernel_rfl) (by kernel_rfl) (by kernel_rfl) (fun _ _ _ h => h) (Or.inl ⟨by rfl, ?_⟩) (by assumption) ?_
  rotate_left
  · (intro w hSw; (try dsimp only at hSw); go_simp) <;> with_reducible rfl
  try simp only [Act.put, List.setIfInBounds_toArray, List.set_cons_zero, List.set_cons_succ]
  refine wpAnyH_take (i := 2) (oi := { dst := some 7, op := Op.fieldAddr 115 (Operand.tmp 3) 0, type := 0, pos := "l10_engine.go:108", after := #[], guard := none }) (v := ?_) rfl (by kernel_rfl) (by kernel_rfl) (by kernel_rfl) (fun _ _ _ h => h) (Or.inl ⟨by rfl, ?_⟩) (by assumption) ?_
  rotate_left
  · (intro w hSw; (try dsimp only at hSw); go_simp) <;> with_reducible rfl
  try simp only [Act.put, List.setIfInBounds_toArray, List.set_cons_zero, List.set_cons_succ]
  refine wpAnyH_take (i := 3) (oi := { dst := some 8, op := Op.load 9 (Operand.tmp 7), type := 9, pos := "l10_engine.go:108", after := #[{ on := 2, ground := Ground.data }], guard := none }) (v := ?_) rfl (by kernel_rfl) (by kernel_rfl) (by kernel_rfl) (fun _ _ _ h => h) (Or.inl ⟨by rfl, ?_⟩) (by assumption) ?_
  rotate_left
  · (intro w hSw; (try dsimp only at hSw); go_simp) <;> with_reducible rfl
  try simp only [Act.put, List.setIfInBounds_toArray, List.set_cons_zero, List.set_cons_succ]
  refine wpAnyH_take (i := 5) (oi := { dst := some 10, op := Op.fieldAddr 115 (Operand.tmp 2) 2, type := 0, pos := "l10_engine.go:108", after := #[], guard := none }) (v := ?_) rfl (by kernel_rfl) (by kernel_rfl) (by kernel_rfl) (fun _ _ _ h => h) (Or.inl ⟨by rfl, ?_⟩) (by assumption) ?_
  rotate_left
  · (intro w hSw; (try dsimp only at hSw); go_simp) <;> with_reducible rfl
  try simp only [Act.put, List.setIfInBounds_toArray, List.set_cons_zero, List.set_cons_succ]
  refine wpAnyH_take (i := 6) (oi := { dst := some 11, op := Op.load 2 (Operand.tmp 10), type := 2, pos := "l10_engine.go:108", after := #[{ on := 5, ground := Ground.data }], guard := none }) (v := ?_) rfl (by kernel_rfl) (by kernel_rfl) (by kernel_rfl) (fun _ _ _ h => h) (Or.inl ⟨by rfl, ?_⟩) (by assumption) ?_
  rotate_left
  · (intro w hSw; (try dsimp only at hSw); go_simp) <;> with_reducible rfl
  try simp only [Act.put, List.setIfInBounds_toArray, List.set_cons_zero, List.set_cons_succ]
  refine wpAnyH_take (i := 7) (oi := { dst := some 12, op := Op.fieldAddr 115 (Operand.tmp 3) 2, type := 0, pos := "l10_engine.go:108", after := #[], guard := none }) (v := ?_) rfl (by kernel_rfl) (by kernel_rfl) (by kernel_rfl) (fun _ _ _ h => h) (Or.inl ⟨by rfl, ?_⟩) (by assumption) ?_
  rotate_left
  · (intro w hSw; (try dsimp only at hSw); go_simp) <;> with_reducible rfl
  try simp only [Act.put, List.setIfInBounds_toArray, List.set_cons_zero, List.set_cons_succ]
  refine wpAnyH_take (i := 8) (oi := { dst := some 13, op := Op.load 2 (Operand.tmp 12), type := 2, pos := "l10_engine.go:108", after := #[{ on := 7, ground := Ground.data }], guard := none }) (v := ?_) rfl (by kernel_rfl) (by kernel_rfl) (by kernel_rfl) (fun _ _ _ h => h) (Or.inl ⟨by rfl, ?_⟩) (by assumption) ?_
  rotate_left
  · (intro w hSw; (try dsimp only at hSw); go_simp) <;> with_reducible rfl
  try simp only [Act.put, List.setIfInBounds_toArray, List.set_cons_zero, List.set_cons_succ]
  refine wpAnyH_take (i := 10) (oi := { dst := some 15, op := Op.fieldAddr 115 (Operand.tmp 2) 1, type := 0, pos := "l10_engine.go:108", after := #[], guard := none }) (v := ?_) rfl (by kernel_rfl) (by kernel_rfl) (by kernel_rfl) (fun _ _ _ h => h) (Or.inl ⟨by rfl, ?_⟩) (by assumption) ?_
  rotate_left
  · (intro w hSw; (try dsimp only at hSw); go_simp) <;> with_reducible rfl
  try simp only [Act.put, List.setIfInBounds_toArray, List.set_cons_zero, List.set_cons_succ]
  refine wpAnyH_take (i := 11) (oi := { dst := some 16, op := Op.load 9 (Operand.tmp 15), type := 9, pos := "l10_engine.go:108", after := #[{ on := 10, ground := Ground.data }], guard := none }) (v := ?_) rfl (by kernel_rfl) (by kernel_rfl) (by kernel_rfl) (fun _ _ _ h => h) (Or.inl ⟨by rfl, ?_⟩) (by assumption) ?_
  rotate_left
  · (intro w hSw; (try dsimp only at hSw); go_simp) <;> with_reducible rfl
  try simp only [Act.put, List.setIfInBounds_toArray, List.set_cons_zero, List.set_cons_succ]
  refine wpAnyH_take (i := 12) (oi := { dst := some 17, op := Op.fieldAddr 115 (Operand.tmp 3) 1, type := 0, pos := "l10_engine.go:108", after := #[], guard := none }) (v := ?_) rfl (by kernel_rfl) (by kernel_rfl) (by kernel_rfl) (fun _ _ _ h => h) (Or.inl ⟨by rfl, ?_⟩) (by assumption) ?_
  rotate_left
  · (intro w hSw; (try dsimp only at hSw); go_simp) <;> with_reducible rfl
  try simp only [Act.put, List.setIfInBounds_toArray, List.set_cons_zero, List.set_cons_succ]
  refine wpAnyH_take (i := 13) (oi := { dst := some 18, op := Op.load 9 (Operand.tmp 17), type := 9, pos := "l10_engine.go:108", after := #[{ on := 12, ground := Ground.data }], guard := none }) (v := ?_) rfl (by kernel_rfl) (by kernel_rfl) (by kernel_rfl) (fun _ _ _ h => h) (Or.inl ⟨by rfl, ?_⟩) (by assumption) ?_
  rotate_left
  · (intro w hSw; (try dsimp only at hSw); go_simp) <;> with_reducible rfl
  try simp only [Act.put, List.setIfInBounds_toArray, List.set_cons_zero, List.set_cons_succ]
  refine wpAnyH_ready (rs := [4]) (by kernel_rfl) (by simp) ?_
  refine AllReadyH.cons (o := { dst := some 9, op := Op.call { callee := Callee.value (Operand.func 190), args := #[Operand.tmp 6, Operand.tmp 8], argTypes := #[9, 9] }, type := 3, pos := "l10_engine.go:108", after := #[{ on := 1, ground := Ground.data }, { on := 3, ground := Ground.data }], guard := none }) rfl (fun K hK => ?_) AllReadyH.nil
  go_simp
  go_at_call 190
  refine (HC.out _ _ _).mono ?_
  rintro e w' ⟨rfl, rfl⟩
  try go_wp2_with fail
  refine hK.out _ _ HS2.out (fun _ => ?_)
  clear hK K
  try simp only [Act.put, List.setIfInBounds_toArray, List.set_cons_zero, List.set_cons_succ]
  refine wpAnyH_ready (rs := [9]) (by kernel_rfl) (by simp) ?_
  refine AllReadyH.cons (o := { dst := some 14, op := Op.call { callee := Callee.value (Operand.func 191), args := #[Operand.tmp 11, Operand.tmp 13], argTypes := #[2, 2] }, type := 3, pos := "l10_engine.go:108", after := #[{ on := 6, ground := Ground.data }, { on := 8, ground := Ground.data }, { on := 4, ground := Ground.chain }], guard := none }) rfl (fun K hK => ?_) AllReadyH.nil
  go_simp
  go_at_call 191
  refine (HI.out _ _ _).mono ?_
  rintro e w' ⟨rfl, rfl⟩
  try go_wp2_with fail
  refine hK.out _ _ HS2.out (fun _ => ?_)
  clear hK K
  try simp only [Act.put, List.setIfInBounds_toArray, List.set_cons_zero, List.set_cons_succ]
  refine wpAnyH_ready (rs := [14]) (by kernel_rfl) (by simp) ?_
  refine AllReadyH.cons (o := { dst := some 19, op := Op.call { callee := Callee.value (Operand.func 190), args := #[Operand.tmp 16, Operand.tmp 18], argTypes := #[9, 9] }, type := 3, pos := "l10_engine.go:108", after := #[{ on := 11, ground := Ground.data }, { on := 13, ground := Ground.data }, { on := 9, ground := Ground.chain }], guard := none }) rfl (fun K hK => ?_) AllReadyH.nil
  go_simp
  go_at_call 190
  refine (HC.out _ _ _).mono ?_
  rintro e w' ⟨rfl, rfl⟩
  try go_wp2_with fail
  refine hK.out _ _ HS2.out (fun _ => ?_)
  clear hK K
  try simp only [Act.put, List.setIfInBounds_toArray, List.set_cons_zero, List.set_cons_succ]
  refine wpAnyH_ready (rs := [15]) (by kernel_rfl) (by simp) ?_
  refine AllReadyH.cons (o := { dst := some 20, op := Op.buildSlice 273 3 #[(0, Operand.tmp 9), (1, Operand.tmp 14), (2, Operand.tmp 19)], type := 273, pos := "l10_engine.go:108", after := #[{ on := 4, ground := Ground.data }, { on := 9, ground := Ground.data }, { on := 14, ground := Ground.data }], guard := none }) rfl (fun K hK => ?_) AllReadyH.nil
  go_simp
  try go_wp2_with fail
  have hk := OB.below (w := w) (xa := xa) (xm := xm) (ya := ya) (ym := ym) (xo := xo) (yo := yo) HS2.out ((Below.refl _ _).alloc (Nat.le_refl _) (.cells #[.int .i64 (cb xa ya), .int .i64 (ci xo yo), .int .i64 (cb xm ym)] 3))
  refine hK.out _ _ hk (fun _ => ?_)
  clear hK K
  try simp only [Act.put, List.setIfInBounds_toArray, List.set_cons_zero, List.set_cons_succ]
  refine wpAnyH_ready (rs := [16]) (by kernel_rfl) (by simp) ?_
  refine AllReadyH.cons (o := { dst := some 21, op := Op.call { callee := Callee.value (Operand.func 189), args := #[Operand.tmp 20], argTypes := #[273] }, type := 3, pos := "l10_engine.go:108", after := #[{ on := 15, ground := Ground.data }, { on := 14, ground := Ground.chain }], guard := none }) rfl (fun K hK => ?_) AllReadyH.nil
  go_simp
  go_at_call 189
  refine (HO.out _ _ _ _).mono ?_
  rintro e w' ⟨rfl, rfl⟩
  try go_wp2_with fail
  refine hK.out _ _ hk (fun _ => ?_)
  clear hK K
  try simp only [Act.put, List.setIfInBounds_toArray, List.set_cons_zero, List.set_cons_succ]
  refine wpAnyH_take (i := 17) (oi := { dst := some 4, op := Op.assign (Operand.tmp 21), type := 3, pos := "l10_engine.go:108", after := #[{ on := 16, ground := Ground.data }, { on := 16, ground := Ground.chain }, { on := 0, ground := Ground.phase }, { on := 1, ground := Ground.phase }, { on := 2, ground := Ground.phase }, { on := 3, ground := Ground.phase }, { on := 4, ground := Ground.phase }, { on := 5, ground := Ground.phase }, { on := 6, ground := Ground.phase }, { on := 7, ground := Ground.phase }, { on := 8, ground := Ground.phase }, { on := 9, ground := Ground.phase }, { on := 10, ground := Ground.phase }, { on := 11, ground := Ground.phase }, { on := 12, ground := Ground.phase }, { on := 13, ground := Ground.phase }, { on := 14, ground := Ground.phase }, { on := 15, ground := Ground.phase }, { on := 16, ground := Ground.phase }], guard := none }) (v := ?_) rfl (by kernel_rfl) (by kernel_rfl) (by kernel_rfl) (fun _ _ _ h => h) (Or.inl ⟨by rfl, ?_⟩) (by assumption) ?_
  rotate_left
  · (intro w hSw; (try dsimp only at hSw); go_simp) <;> with_reducible rfl
  try simp only [Act.put, List.setIfInBounds_toArray, List.set_cons_zero, List.set_cons_succ]
  refine wpAnyH_done (by kernel_rfl) ?_ _
  have HB9 := hid_intro hk.1
  clear hk
  go_wp2_with fail
  go_ret
  exact ⟨rfl, HB9.out⟩
/-- Both sides in their own words. -/
theorem iorder (x y : Wd) (ta ha ta' ha' : Option Addr) (tc hc tc' hc' : Nat) (w : World) : Calls Tryz.prog 139 #[.agg (wcells x ta tc ha hc), .agg (wcells y ta' tc' ha' hc')] w fun e w' => (∃ n : Int, e = .returned (.int .i64 n) ∧ ((n < 0) = (wlt x y = true))) ∧ Below w.heap.size w w' :=
  (iorder_in x.a x.m x.mo x.ev x.su x.mx ta _ tc ha _ hc y.a y.m y.mo y.ev y.su y.mx ta' _ tc' ha' _ hc' w).mono fun e w' h => ⟨⟨_, h.1, order_lt x y⟩, h.2⟩
set_option maxHeartbeats 4000000 in
theorem sless_in (xa xm : ByteArray) (xo xe xs xx : Int) (xta : Option Addr) (xtl xtc : Nat) (xha : Option Addr) (xhl xhc : Nat) (ya ym : ByteArray) (yo ye ys yx : Int) (yta : Option Addr) (ytl ytc : Nat) (yha : Option Addr) (yhl yhc : Nat) (w : World) :
    Calls Tryz.prog 68 #[.agg #[.string xa, .string xm, .int .i64 xo, .int .i64 xe, .int .i64 xs, .int .i64 xx, .slice xta xtl xtc, .slice xha xhl xhc], .agg #[.string ya, .string ym, .int .i64 yo, .int .i64 ye, .int .i64 ys, .int .i64 yx, .slice yta ytl ytc, .slice yha yhl yhc]] w fun e w' => e = .returned (.bool (if xa = ya then (if xo = yo then lt xm ym else decide (xo < yo)) else lt xa ya)) ∧ Below w.heap.size w w' := by
  have HB : Hid (Below w.heap.size w ((w.alloc (.cells #[.string xa, .string xm, .int .i64 xo, .int .i64 xe, .int .i64 xs, .int .i64 xx, .slice xta xtl xtc, .slice xha xhl xhc] 115)).alloc (.cells #[.string ya, .string ym, .int .i64 yo, .int .i64 ye, .int .i64 ys, .int .i64 yx, .slice yta ytl ytc, .slice yha yhl yhc] 115))) := hid_intro (((Below.refl _ _).alloc (Nat.le_refl _) _).alloc (by simp) _)
  by_cases h : xa = ya
  · rw [if_pos h]
    by_cases h2 : xo = yo
    · rw [if_pos h2]
      subst h h2
      go_enter Tryz.func68, Tryz.ntmps68
      go_wp2_with fail
      go_ret
      exact ⟨rfl, HB.out⟩
    · rw [if_neg h2]
      subst h
      go_enter Tryz.func68, Tryz.ntmps68
      go_wp2_with fail
      go_ret
      exact ⟨rfl, HB.out⟩
  · rw [if_neg h]
    have hne : xa.toList ≠ ya.toList := fun q => h (toList_inj q)
    have hne2 : (xa.toList == ya.toList) = false := by simpa using hne
    go_enter Tryz.func68, Tryz.ntmps68
    go_wp2_with fail
    go_ret
    exact ⟨rfl, HB.out⟩
theorem sless (x y : Wd) (ta ha ta' ha' : Option Addr) (tc hc tc' hc' : Nat) (w : World) : Calls Tryz.prog 68 #[.agg (wcells x ta tc ha hc), .agg (wcells y ta' tc' ha' hc')] w fun e w' => e = .returned (.bool (wlt x y)) ∧ Below w.heap.size w w' :=
  sless_in x.a x.m x.mo x.ev x.su x.mx ta _ tc ha _ hc y.a y.m y.mo y.ev y.su y.mx ta' _ tc' ha' _ hc' w
end WinR
end Go.Proofs.YtjfmdcdclifpkaaGreatDoor
namespace Go.Proofs.YtjfmdcdclifpkaaGreatDoor
open Go.ChangeShapes Go.WideShapes Go.ChangeAt Go.RowKit
/-- A world that holds some facts. -/
structure HW (S : World → Prop) where
  w : World
  h : S w
theorem wp_region_hw {P : Program} {id : Nat} {Q : Exit → Act → World → Prop} {a : Act} {w : World} {l : List Oper} (S : World → Prop) (hm : P.follows .mixedOrders = true) (hB : Region.lexB .any l.toArray = true) (hC : S w.drew)
    (h : wpQuiet P l.toArray (fun w' => ∃ s : HW S, w' = s.w) (fun a' => ∀ w', (∃ s : HW S, w' = s.w) → Q .normal a' w') l a) : (Code.region id l.toArray true).wp P Q a w :=
  wp_region_quiet (C := fun w' => ∃ s : HW S, w' = s.w) hm hB ⟨⟨_, hC⟩, rfl⟩ (by simpa using h)
end Go.Proofs.YtjfmdcdclifpkaaGreatDoor
