/-
  What a window comes to as a number, on both sides. The conditions: texts of at most 1048576 bytes, lists of at most 1048576; the program's table stands in its variable.
-/
import Derived.Test.YtalapnklmngoeaaDoorWdN
import Derived.Test.YtalapnklmngoeaaDoorWdSr
namespace Go.Proofs.YtalapnklmngoeaaDoor
open Go.ChangeShapes Go.WideShapes Go.ChangeAt Go.RowKit
set_option linter.unusedVariables false
namespace WinR
open RowG LtR
open CatR (Blk Blk.new)
open DateR (Laid)
/-- The greater one; the greatest sum of an hour. -/
def grt (p q : Int) : Int := if q < p then p else q
def pk (hs : List H) : Int := hs.foldl (fun p x => grt p x.s) 0
theorem pk_take (hs : List H) (k : Nat) (h : k < hs.length) : pk (hs.take (k + 1)) = grt (pk (hs.take k)) (hs.getD k H.zero).s := by
  unfold pk
  rw [take_more (z := H.zero) hs k h, List.foldl_append]
  rfl
/-- A window's number. -/
def valV (x : Wd) (g : Int) : Int := if g = 1 then x.su else if g = 2 then x.mx else if g = 3 then (x.ts.length : Int) else if g = 4 then pk x.hs else 0
def valueV (x : Wd) (g : Int) : Int := bif wB x then valV x g else 0
theorem smax_any (p q : Int) (w : World) : Calls Tryd.prog 24 #[.int .i64 p, .int .i64 q] w fun e w' => e = .returned (.int .i64 (grt p q)) ∧ w' = w := by
  unfold grt
  by_cases h : q < p
  · rw [if_pos h]
    go_enter Tryd.func24, Tryd.ntmps24
    go_wp2
    go_ret
    exact ⟨rfl, rfl⟩
  · rw [if_neg h]
    go_enter Tryd.func24, Tryd.ntmps24
    go_wp2
    go_ret
    exact ⟨rfl, rfl⟩
theorem agg1 (a m : ByteArray) (mo ev su mx : Int) (ta : Option Addr) (tl tc : Nat) (ha : Option Addr) (hl hc : Nat) (w : World) : Calls Tryd.prog 28 #[.agg #[.string a, .string m, .int .i64 mo, .int .i64 ev, .int .i64 su, .int .i64 mx, .slice ta tl tc, .slice ha hl hc]] w fun e w' => e = .returned (.int .i64 su) ∧ Below w.heap.size w w' := by
  go_enter Tryd.func28, Tryd.ntmps28
  go_wp2
  go_ret
  exact ⟨rfl, (Below.refl _ _).alloc (Nat.le_refl _) _⟩
theorem agg2 (a m : ByteArray) (mo ev su mx : Int) (ta : Option Addr) (tl tc : Nat) (ha : Option Addr) (hl hc : Nat) (w : World) : Calls Tryd.prog 29 #[.agg #[.string a, .string m, .int .i64 mo, .int .i64 ev, .int .i64 su, .int .i64 mx, .slice ta tl tc, .slice ha hl hc]] w fun e w' => e = .returned (.int .i64 mx) ∧ Below w.heap.size w w' := by
  go_enter Tryd.func29, Tryd.ntmps29
  go_wp2
  go_ret
  exact ⟨rfl, (Below.refl _ _).alloc (Nat.le_refl _) _⟩
theorem agg3 (a m : ByteArray) (mo ev su mx : Int) (ta : Option Addr) (tl tc : Nat) (ha : Option Addr) (hl hc : Nat) (w : World) : Calls Tryd.prog 30 #[.agg #[.string a, .string m, .int .i64 mo, .int .i64 ev, .int .i64 su, .int .i64 mx, .slice ta tl tc, .slice ha hl hc]] w fun e w' => e = .returned (.int .i64 (tl : Int)) ∧ Below w.heap.size w w' := by
  go_enter Tryd.func30, Tryd.ntmps30
  go_wp2
  go_ret
  exact ⟨rfl, (Below.refl _ _).alloc (Nat.le_refl _) _⟩
set_option maxHeartbeats 4000000 in
theorem impl_peak (a m : ByteArray) (mo ev su mx : Int) (tv : Value) (ha : Option Addr) (hs : List H) (hc : Nat) (w : World) (hlen : hs.length ≤ 1048576) (hI : Hrs ha hs w) :
    Calls Tryd.prog 31 #[.agg #[.string a, .string m, .int .i64 mo, .int .i64 ev, .int .i64 su, .int .i64 mx, tv, .slice ha hs.length hc]] w fun e w' => e = .returned (.int .i64 (pk hs)) ∧ Below w.heap.size w w' := by
  have HI := hid_intro hI
  obtain ⟨len, hl⟩ : ∃ len, len = hs.length := ⟨_, rfl⟩
  rw [← hl] at hlen ⊢
  have HL := hid_intro hl
  have HE : Hid (pk (hs.take len) = pk hs) := hid_intro (by rw [List.take_of_length_le (by omega)])
  generalize pk hs = R at *
  clear hI hl
  have HB0 : Hid (Below w.heap.size w (w.alloc (.cells #[.string a, .string m, .int .i64 mo, .int .i64 ev, .int .i64 su, .int .i64 mx, tv, .slice ha len hc] 30))) := hid_intro ((Below.refl _ _).alloc (Nat.le_refl _) _)
  go_enter Tryd.func31, Tryd.ntmps31
  go_wp2_with fail
  go_loopw [3, 9] (fun y z wr => ∃ k : Nat, k ≤ len ∧ y = .int .i64 (pk (hs.take k)) ∧ z = .int .i64 k ∧ Hid (Below w.heap.size w wr)) (fun y z _ => len - (intOf z).toNat)
  case atStart => exact ⟨0, by omega, rfl, rfl, HB0⟩
  case round =>
    obtain ⟨k, hk, rfl, rfl, HB⟩ := hrel
    by_cases hlt1 : k < len
    · have hlt2 : (k : Int) < (len : Int) := by omega
      obtain ⟨b, off, rfl, hbl, c0, c1⟩ := (HI.out.below HB.out).at k (by have := HL.out; omega)
      have HP := hid_intro (pk_take hs k (by have := HL.out; omega))
      generalize hs.getD k H.zero = X at *
      obtain ⟨xh, xs⟩ := X
      dsimp only at c0 c1 HP
      generalize pk (hs.take k) = T at *
      by_cases hm : xs < T
      · have HP2 : Hid (pk (hs.take (k + 1)) = T) := hid_intro (by rw [HP.out]; unfold grt; rw [if_pos hm])
        have hm2 : max T xs = T := by omega
        have hm3 : ¬ T < xs := by omega
        have hm4 : ¬ T ≤ xs := by omega
        go_wp2_with fail
        go_roundw
        case rel => exact ⟨k + 1, by omega, by first | (rw [HP2.out]; done) | (rw [HP2.out]; congr 1; omega), by go_num, hid_intro (HB.out.alloc HB.out.size _)⟩
        case measure => simp [intOf]; omega
      · have HP2 : Hid (pk (hs.take (k + 1)) = xs) := hid_intro (by rw [HP.out]; unfold grt; rw [if_neg hm])
        have hm2 : max T xs = xs := by omega
        have hm4 : T ≤ xs := by omega
        go_wp2_with fail
        go_roundw
        case rel => exact ⟨k + 1, by omega, by first | (rw [HP2.out]; done) | (rw [HP2.out]; congr 1; omega), by go_num, hid_intro (HB.out.alloc HB.out.size _)⟩
        case measure => simp [intOf]; omega
    · have hlt2 : ¬ (k : Int) < (len : Int) := by omega
      obtain rfl : k = len := by omega
      have HE2 := HE.out
      generalize pk (hs.take k) = T at *
      subst HE2
      go_wp2_with fail
      go_ret
      exact ⟨rfl, HB.out⟩
theorem impl_aggs (w : World) : Calls Tryd.prog 16 #[] w fun e w' => ∃ g, e = .returned (.slice (some ⟨g, 0, none⟩) 4 4) ∧ Blk g [.int .i64 1, .func (.func 28) #[] #[], .int .i64 2, .func (.func 29) #[] #[], .int .i64 3, .func (.func 30) #[] #[], .int .i64 4, .func (.func 31) #[] #[]] w' ∧ Below w.heap.size w w' := by
  go_enter Tryd.func16, Tryd.ntmps16
  go_wp2_with fail
  go_ret
  exact ⟨_, rfl, Blk.new w [.int .i64 1, .func (.func 28) #[] #[], .int .i64 2, .func (.func 29) #[] #[], .int .i64 3, .func (.func 30) #[] #[], .int .i64 4, .func (.func 31) #[] #[]] _, (Below.refl _ _).alloc (Nat.le_refl _) _⟩
set_option maxRecDepth 100000 in
set_option maxHeartbeats 8000000 in
theorem value_in (a m : ByteArray) (mo ev su mx : Int) (ta : Option Addr) (tl tc : Nat) (ha : Option Addr) (hl hc : Nat) (g P : Int) (w : World)
    (h2 : ∀ W, Calls Tryd.prog 28 #[.agg #[.string a, .string m, .int .i64 mo, .int .i64 ev, .int .i64 su, .int .i64 mx, .slice ta tl tc, .slice ha hl hc]] W fun e w' => e = .returned (.int .i64 su) ∧ Below W.heap.size W w')
    (h3 : ∀ W, Calls Tryd.prog 29 #[.agg #[.string a, .string m, .int .i64 mo, .int .i64 ev, .int .i64 su, .int .i64 mx, .slice ta tl tc, .slice ha hl hc]] W fun e w' => e = .returned (.int .i64 mx) ∧ Below W.heap.size W w')
    (h4 : ∀ W, Calls Tryd.prog 30 #[.agg #[.string a, .string m, .int .i64 mo, .int .i64 ev, .int .i64 su, .int .i64 mx, .slice ta tl tc, .slice ha hl hc]] W fun e w' => e = .returned (.int .i64 (tl : Int)) ∧ Below W.heap.size W w')
    (h5 : ∀ W, Below w.heap.size w W → Calls Tryd.prog 31 #[.agg #[.string a, .string m, .int .i64 mo, .int .i64 ev, .int .i64 su, .int .i64 mx, .slice ta tl tc, .slice ha hl hc]] W fun e w' => e = .returned (.int .i64 P) ∧ Below W.heap.size W w')
    (h1 : ∀ W, Below w.heap.size w W → Calls Tryd.prog 15 #[.agg #[.string a, .string m, .int .i64 mo, .int .i64 ev, .int .i64 su, .int .i64 mx, .slice ta tl tc, .slice ha hl hc]] W fun e w' => e = .returned (.bool true) ∧ Below W.heap.size W w') :
    Calls Tryd.prog 7 #[.agg #[.string a, .string m, .int .i64 mo, .int .i64 ev, .int .i64 su, .int .i64 mx, .slice ta tl tc, .slice ha hl hc], .int .i64 g] w fun e w' => e = .returned (.int .i64 (if g = 1 then su else if g = 2 then mx else if g = 3 then (tl : Int) else if g = 4 then P else 0)) ∧ Below w.heap.size w w' := by
  have H1 := hid_intro h1
  have H2 := hid_intro h2
  have H3 := hid_intro h3
  have H4 := hid_intro h4
  have H5 := hid_intro h5
  have H0 := hid_intro impl_aggs
  clear h1 h2 h3 h4 h5
  have HV : Hid (∀ v, v = (if g = 1 then su else if g = 2 then mx else if g = 3 then (tl : Int) else if g = 4 then P else 0) → v = (if g = 1 then su else if g = 2 then mx else if g = 3 then (tl : Int) else if g = 4 then P else 0)) := hid_intro (fun _ h => h)
  generalize hR : (if g = 1 then su else if g = 2 then mx else if g = 3 then (tl : Int) else if g = 4 then P else 0) = R
  have HR := hid_intro hR
  clear hR HV
  have HB0 : Hid (Below w.heap.size w (w.alloc (.cells #[.string a, .string m, .int .i64 mo, .int .i64 ev, .int .i64 su, .int .i64 mx, .slice ta tl tc, .slice ha hl hc] 30))) := hid_intro ((Below.refl _ _).alloc (Nat.le_refl _) _)
  have HX0 := hid_intro (Blk.new w [.string a, .string m, .int .i64 mo, .int .i64 ev, .int .i64 su, .int .i64 mx, .slice ta tl tc, .slice ha hl hc] 30)
  go_enter Tryd.func7, Tryd.ntmps7
  go_wp2_with fail
  refine (H1.out _ HB0.out).mono ?_
  rintro e w1 ⟨rfl, hb1⟩
  have HB1 := hid_intro (HB0.out.trans (hb1.mono HB0.out.size))
  have HX1 := hid_intro (HX0.out.below hb1)
  clear hb1 HB0 HX0
  go_wp2_with fail
  refine (H0.out _).mono ?_
  rintro e w2 ⟨G, rfl, hA2, hb2⟩
  have HB2 := hid_intro (HB1.out.trans (hb2.mono HB1.out.size))
  have HX2 := hid_intro (HX1.out.below hb2)
  have HA2 := hid_intro hA2
  clear hb2 hA2 HB1 HX1
  go_wp2_with fail
  go_loopw [12] (fun z wr => ∃ k : Nat, k ≤ 4 ∧ z = .int .i64 k ∧ Hid (∀ j : Nat, j < k → g ≠ (j : Int) + 1) ∧ Hid (Below w.heap.size w wr) ∧ Hid (Blk w.heap.size [.string a, .string m, .int .i64 mo, .int .i64 ev, .int .i64 su, .int .i64 mx, .slice ta tl tc, .slice ha hl hc] wr) ∧ Hid (Blk G [.int .i64 1, .func (.func 28) #[] #[], .int .i64 2, .func (.func 29) #[] #[], .int .i64 3, .func (.func 30) #[] #[], .int .i64 4, .func (.func 31) #[] #[]] wr)) (fun z _ => 4 - (intOf z).toNat)
  case atStart => exact ⟨0, by omega, rfl, hid_intro (fun j hj => absurd hj (by omega)), HB2, HX2, HA2⟩
  case round =>
    obtain ⟨k, hk, rfl, HN, HB, HX, HA⟩ := hrel
    have hxl := HX.out.1
    have hgl := HA.out.1
    rcases (show k = 0 ∨ k = 1 ∨ k = 2 ∨ k = 3 ∨ k = 4 by omega) with rfl | rfl | rfl | rfl | rfl
    · have k0 : wr.cell? ⟨G, 0, none⟩ = some (.int .i64 1) := HA.out.2 0 (by simp)
      have k1 : wr.cell? ⟨G, 1, none⟩ = some (.func (.func 28) #[] #[]) := HA.out.2 1 (by simp)
      have HBa := hid_intro (HB.out.alloc HB.out.size (.cells #[.int .i64 1, .func (.func 28) #[] #[]] 43))
      have HXa := hid_intro (HX.out.alloc (.cells #[.int .i64 1, .func (.func 28) #[] #[]] 43))
      have HAa := hid_intro (HA.out.alloc (.cells #[.int .i64 1, .func (.func 28) #[] #[]] 43))
      by_cases hg : g = 1
      · subst hg
        have HR2 : Hid (R = su) := hid_intro (by have h := HR.out; simpa using h.symm)
        have x0 : wr.cell? ⟨w.heap.size, 0, none⟩ = some (.string a) := HX.out.2 0 (by simp)
        have x1 : wr.cell? ⟨w.heap.size, 1, none⟩ = some (.string m) := HX.out.2 1 (by simp)
        have x2 : wr.cell? ⟨w.heap.size, 2, none⟩ = some (.int .i64 mo) := HX.out.2 2 (by simp)
        have x3 : wr.cell? ⟨w.heap.size, 3, none⟩ = some (.int .i64 ev) := HX.out.2 3 (by simp)
        have x4 : wr.cell? ⟨w.heap.size, 4, none⟩ = some (.int .i64 su) := HX.out.2 4 (by simp)
        have x5 : wr.cell? ⟨w.heap.size, 5, none⟩ = some (.int .i64 mx) := HX.out.2 5 (by simp)
        have x6 : wr.cell? ⟨w.heap.size, 6, none⟩ = some (.slice ta tl tc) := HX.out.2 6 (by simp)
        have x7 : wr.cell? ⟨w.heap.size, 7, none⟩ = some (.slice ha hl hc) := HX.out.2 7 (by simp)
        go_wp2_with fail
        refine (H2.out _).mono ?_
        rintro e w3 ⟨rfl, hb3⟩
        have HB3 := hid_intro (HBa.out.trans (hb3.mono HBa.out.size))
        clear hb3
        go_wp2_with fail
        go_ret
        exact ⟨ret_int HR2.out.symm, HB3.out⟩
      · have hg2 : ((1 : Int) == g) = false := by simp; omega
        have hg3 : ¬ (1 : Int) = g := by omega
        go_wp2_with fail
        go_roundw
        case rel => exact ⟨1, by omega, by go_num, hid_intro (fun j hj => by
          by_cases e : j = 0
          · subst e; simpa using hg
          · exact HN.out j (by omega)), HBa, HXa, HAa⟩
        case measure => simp [intOf]
    · have k0 : wr.cell? ⟨G, 2, none⟩ = some (.int .i64 2) := HA.out.2 2 (by simp)
      have k1 : wr.cell? ⟨G, 3, none⟩ = some (.func (.func 29) #[] #[]) := HA.out.2 3 (by simp)
      have HBa := hid_intro (HB.out.alloc HB.out.size (.cells #[.int .i64 2, .func (.func 29) #[] #[]] 43))
      have HXa := hid_intro (HX.out.alloc (.cells #[.int .i64 2, .func (.func 29) #[] #[]] 43))
      have HAa := hid_intro (HA.out.alloc (.cells #[.int .i64 2, .func (.func 29) #[] #[]] 43))
      by_cases hg : g = 2
      · subst hg
        have HR2 : Hid (R = mx) := hid_intro (by have h := HR.out; simpa using h.symm)
        have x0 : wr.cell? ⟨w.heap.size, 0, none⟩ = some (.string a) := HX.out.2 0 (by simp)
        have x1 : wr.cell? ⟨w.heap.size, 1, none⟩ = some (.string m) := HX.out.2 1 (by simp)
        have x2 : wr.cell? ⟨w.heap.size, 2, none⟩ = some (.int .i64 mo) := HX.out.2 2 (by simp)
        have x3 : wr.cell? ⟨w.heap.size, 3, none⟩ = some (.int .i64 ev) := HX.out.2 3 (by simp)
        have x4 : wr.cell? ⟨w.heap.size, 4, none⟩ = some (.int .i64 su) := HX.out.2 4 (by simp)
        have x5 : wr.cell? ⟨w.heap.size, 5, none⟩ = some (.int .i64 mx) := HX.out.2 5 (by simp)
        have x6 : wr.cell? ⟨w.heap.size, 6, none⟩ = some (.slice ta tl tc) := HX.out.2 6 (by simp)
        have x7 : wr.cell? ⟨w.heap.size, 7, none⟩ = some (.slice ha hl hc) := HX.out.2 7 (by simp)
        go_wp2_with fail
        refine (H3.out _).mono ?_
        rintro e w3 ⟨rfl, hb3⟩
        have HB3 := hid_intro (HBa.out.trans (hb3.mono HBa.out.size))
        clear hb3
        go_wp2_with fail
        go_ret
        exact ⟨ret_int HR2.out.symm, HB3.out⟩
      · have hg2 : ((2 : Int) == g) = false := by simp; omega
        have hg3 : ¬ (2 : Int) = g := by omega
        go_wp2_with fail
        go_roundw
        case rel => exact ⟨2, by omega, by go_num, hid_intro (fun j hj => by
          by_cases e : j = 1
          · subst e; simpa using hg
          · exact HN.out j (by omega)), HBa, HXa, HAa⟩
        case measure => simp [intOf]
    · have k0 : wr.cell? ⟨G, 4, none⟩ = some (.int .i64 3) := HA.out.2 4 (by simp)
      have k1 : wr.cell? ⟨G, 5, none⟩ = some (.func (.func 30) #[] #[]) := HA.out.2 5 (by simp)
      have HBa := hid_intro (HB.out.alloc HB.out.size (.cells #[.int .i64 3, .func (.func 30) #[] #[]] 43))
      have HXa := hid_intro (HX.out.alloc (.cells #[.int .i64 3, .func (.func 30) #[] #[]] 43))
      have HAa := hid_intro (HA.out.alloc (.cells #[.int .i64 3, .func (.func 30) #[] #[]] 43))
      by_cases hg : g = 3
      · subst hg
        have HR2 : Hid (R = (tl : Int)) := hid_intro (by have h := HR.out; simpa using h.symm)
        have x0 : wr.cell? ⟨w.heap.size, 0, none⟩ = some (.string a) := HX.out.2 0 (by simp)
        have x1 : wr.cell? ⟨w.heap.size, 1, none⟩ = some (.string m) := HX.out.2 1 (by simp)
        have x2 : wr.cell? ⟨w.heap.size, 2, none⟩ = some (.int .i64 mo) := HX.out.2 2 (by simp)
        have x3 : wr.cell? ⟨w.heap.size, 3, none⟩ = some (.int .i64 ev) := HX.out.2 3 (by simp)
        have x4 : wr.cell? ⟨w.heap.size, 4, none⟩ = some (.int .i64 su) := HX.out.2 4 (by simp)
        have x5 : wr.cell? ⟨w.heap.size, 5, none⟩ = some (.int .i64 mx) := HX.out.2 5 (by simp)
        have x6 : wr.cell? ⟨w.heap.size, 6, none⟩ = some (.slice ta tl tc) := HX.out.2 6 (by simp)
        have x7 : wr.cell? ⟨w.heap.size, 7, none⟩ = some (.slice ha hl hc) := HX.out.2 7 (by simp)
        go_wp2_with fail
        refine (H4.out _).mono ?_
        rintro e w3 ⟨rfl, hb3⟩
        have HB3 := hid_intro (HBa.out.trans (hb3.mono HBa.out.size))
        clear hb3
        go_wp2_with fail
        go_ret
        exact ⟨ret_int HR2.out.symm, HB3.out⟩
      · have hg2 : ((3 : Int) == g) = false := by simp; omega
        have hg3 : ¬ (3 : Int) = g := by omega
        go_wp2_with fail
        go_roundw
        case rel => exact ⟨3, by omega, by go_num, hid_intro (fun j hj => by
          by_cases e : j = 2
          · subst e; simpa using hg
          · exact HN.out j (by omega)), HBa, HXa, HAa⟩
        case measure => simp [intOf]
    · have k0 : wr.cell? ⟨G, 6, none⟩ = some (.int .i64 4) := HA.out.2 6 (by simp)
      have k1 : wr.cell? ⟨G, 7, none⟩ = some (.func (.func 31) #[] #[]) := HA.out.2 7 (by simp)
      have HBa := hid_intro (HB.out.alloc HB.out.size (.cells #[.int .i64 4, .func (.func 31) #[] #[]] 43))
      have HXa := hid_intro (HX.out.alloc (.cells #[.int .i64 4, .func (.func 31) #[] #[]] 43))
      have HAa := hid_intro (HA.out.alloc (.cells #[.int .i64 4, .func (.func 31) #[] #[]] 43))
      by_cases hg : g = 4
      · subst hg
        have HR2 : Hid (R = P) := hid_intro (by have h := HR.out; simpa using h.symm)
        have x0 : wr.cell? ⟨w.heap.size, 0, none⟩ = some (.string a) := HX.out.2 0 (by simp)
        have x1 : wr.cell? ⟨w.heap.size, 1, none⟩ = some (.string m) := HX.out.2 1 (by simp)
        have x2 : wr.cell? ⟨w.heap.size, 2, none⟩ = some (.int .i64 mo) := HX.out.2 2 (by simp)
        have x3 : wr.cell? ⟨w.heap.size, 3, none⟩ = some (.int .i64 ev) := HX.out.2 3 (by simp)
        have x4 : wr.cell? ⟨w.heap.size, 4, none⟩ = some (.int .i64 su) := HX.out.2 4 (by simp)
        have x5 : wr.cell? ⟨w.heap.size, 5, none⟩ = some (.int .i64 mx) := HX.out.2 5 (by simp)
        have x6 : wr.cell? ⟨w.heap.size, 6, none⟩ = some (.slice ta tl tc) := HX.out.2 6 (by simp)
        have x7 : wr.cell? ⟨w.heap.size, 7, none⟩ = some (.slice ha hl hc) := HX.out.2 7 (by simp)
        go_wp2_with fail
        refine (H5.out _ HBa.out).mono ?_
        rintro e w3 ⟨rfl, hb3⟩
        have HB3 := hid_intro (HBa.out.trans (hb3.mono HBa.out.size))
        clear hb3
        go_wp2_with fail
        go_ret
        exact ⟨ret_int HR2.out.symm, HB3.out⟩
      · have hg2 : ((4 : Int) == g) = false := by simp; omega
        have hg3 : ¬ (4 : Int) = g := by omega
        go_wp2_with fail
        go_roundw
        case rel => exact ⟨4, by omega, by go_num, hid_intro (fun j hj => by
          by_cases e : j = 3
          · subst e; simpa using hg
          · exact HN.out j (by omega)), HBa, HXa, HAa⟩
        case measure => simp [intOf]
    · have HR2 : Hid (R = 0) := hid_intro (by
        have h := HR.out
        have n0 := HN.out 0 (by omega)
        have n1 := HN.out 1 (by omega)
        have n2 := HN.out 2 (by omega)
        have n3 := HN.out 3 (by omega)
        rw [if_neg (by omega), if_neg (by omega), if_neg (by omega), if_neg (by omega)] at h
        exact h.symm)
      go_wp2_with fail
      go_ret
      exact ⟨ret_int HR2.out.symm, HB.out⟩
theorem value_no (a m : ByteArray) (mo ev su mx : Int) (ta : Option Addr) (tl tc : Nat) (ha : Option Addr) (hl hc : Nat) (g : Int) (w : World)
    (h1 : ∀ W, Below w.heap.size w W → Calls Tryd.prog 15 #[.agg #[.string a, .string m, .int .i64 mo, .int .i64 ev, .int .i64 su, .int .i64 mx, .slice ta tl tc, .slice ha hl hc]] W fun e w' => e = .returned (.bool false) ∧ Below W.heap.size W w') :
    Calls Tryd.prog 7 #[.agg #[.string a, .string m, .int .i64 mo, .int .i64 ev, .int .i64 su, .int .i64 mx, .slice ta tl tc, .slice ha hl hc], .int .i64 g] w fun e w' => e = .returned (.int .i64 0) ∧ Below w.heap.size w w' := by
  have H1 := hid_intro h1
  clear h1
  have HB0 : Hid (Below w.heap.size w (w.alloc (.cells #[.string a, .string m, .int .i64 mo, .int .i64 ev, .int .i64 su, .int .i64 mx, .slice ta tl tc, .slice ha hl hc] 30))) := hid_intro ((Below.refl _ _).alloc (Nat.le_refl _) _)
  go_enter Tryd.func7, Tryd.ntmps7
  go_wp2_with fail
  refine (H1.out _ HB0.out).mono ?_
  rintro e w1 ⟨rfl, hb1⟩
  have HB1 := hid_intro (HB0.out.trans (hb1.mono HB0.out.size))
  clear hb1
  go_wp2_with fail
  go_ret
  exact ⟨rfl, HB1.out⟩
theorem impl_value (x : Wd) (g : Int) (ta : Option Addr) (tc : Nat) (ha : Option Addr) (hc : Nat) (w : World) (h1 : x.a.size ≤ 1048576) (h2 : x.m.size ≤ 1048576) (h3 : x.ts.length ≤ 1048576) (h4 : ∀ t ∈ x.ts, t.size ≤ 1048576) (h5 : x.hs.length ≤ 1048576) (hL : Laid w) (hT : Tgs ta x.ts w) (hH : Hrs ha x.hs w) :
    Calls Tryd.prog 7 #[.agg (wcells x ta tc ha hc), .int .i64 g] w fun e w' => e = .returned (.int .i64 (valueV x g)) ∧ Below w.heap.size w w' := by
  have hr := fun W (hW : Below w.heap.size w W) => impl_window_right x ta tc ha hc W h1 h2 h3 h4 h5 (hL.below hW) (hT.below hW) (hH.below hW)
  unfold valueV valV
  cases hb : wB x
  · rw [hb] at hr
    exact value_no x.a x.m x.mo x.ev x.su x.mx ta x.ts.length tc ha x.hs.length hc g w hr
  · rw [hb] at hr
    exact value_in x.a x.m x.mo x.ev x.su x.mx ta x.ts.length tc ha x.hs.length hc g (pk x.hs) w (fun W => agg1 _ _ _ _ _ _ _ _ _ _ _ _ W) (fun W => agg2 _ _ _ _ _ _ _ _ _ _ _ _ W) (fun W => agg3 _ _ _ _ _ _ _ _ _ _ _ _ W) (fun W hW => impl_peak _ _ _ _ _ _ _ ha x.hs hc W h5 (hH.below hW)) hr
set_option maxRecDepth 100000 in
set_option maxHeartbeats 8000000 in
theorem svalue_in (a m : ByteArray) (mo ev su mx : Int) (ta : Option Addr) (tl tc : Nat) (ha : Option Addr) (hs : List H) (hc : Nat) (g : Int) (w : World) (hlen : hs.length ≤ 1048576) (hH : Hrs ha hs w) :
    Calls Tryd.prog 12 #[.agg #[.string a, .string m, .int .i64 mo, .int .i64 ev, .int .i64 su, .int .i64 mx, .slice ta tl tc, .slice ha hs.length hc], .int .i64 g] w fun e w' => e = .returned (.int .i64 (if g = 1 then su else if g = 2 then mx else if g = 3 then (tl : Int) else if g = 4 then pk hs else 0)) ∧ Below w.heap.size w w' := by
  have HI := hid_intro hH
  obtain ⟨hl, hhl⟩ : ∃ hl, hl = hs.length := ⟨_, rfl⟩
  rw [← hhl] at hlen ⊢
  have HL := hid_intro hhl
  have HE : Hid (pk (hs.take hl) = pk hs) := hid_intro (by rw [List.take_of_length_le (by omega)])
  clear hH hhl
  have HB0 : Hid (Below w.heap.size w (w.alloc (.cells #[.string a, .string m, .int .i64 mo, .int .i64 ev, .int .i64 su, .int .i64 mx, .slice ta tl tc, .slice ha hl hc] 30))) := hid_intro ((Below.refl _ _).alloc (Nat.le_refl _) _)
  have HX0 := hid_intro (Blk.new w [.string a, .string m, .int .i64 mo, .int .i64 ev, .int .i64 su, .int .i64 mx, .slice ta tl tc, .slice ha hl hc] 30)
  by_cases g1 : g = 1
  · subst g1
    rw [if_pos rfl]
    go_enter Tryd.func12, Tryd.ntmps12
    go_wp2_with fail
    go_ret
    exact ⟨rfl, HB0.out⟩
  by_cases g2 : g = 2
  · subst g2
    rw [if_neg (by omega), if_pos rfl]
    go_enter Tryd.func12, Tryd.ntmps12
    go_wp2_with fail
    go_ret
    exact ⟨rfl, HB0.out⟩
  by_cases g3 : g = 3
  · subst g3
    rw [if_neg (by omega), if_neg (by omega), if_pos rfl]
    go_enter Tryd.func12, Tryd.ntmps12
    go_wp2_with fail
    go_ret
    exact ⟨rfl, HB0.out⟩
  by_cases g4 : g = 4
  · subst g4
    rw [if_neg (by omega), if_neg (by omega), if_neg (by omega), if_pos rfl]
    generalize pk hs = R at *
    go_enter Tryd.func12, Tryd.ntmps12
    go_wp2_with fail
    go_loopw [5, 6] (fun y z wr => ∃ k : Nat, k ≤ hl ∧ y = .int .i64 (pk (hs.take k)) ∧ z = .int .i64 k ∧ Hid (Below w.heap.size w wr) ∧ Hid (Blk w.heap.size [.string a, .string m, .int .i64 mo, .int .i64 ev, .int .i64 su, .int .i64 mx, .slice ta tl tc, .slice ha hl hc] wr)) (fun y z _ => hl - (intOf z).toNat)
    case atStart => exact ⟨0, by omega, rfl, rfl, HB0, HX0⟩
    case round =>
      obtain ⟨k, hk, rfl, rfl, HB, HX⟩ := hrel
      have hxl := HX.out.1
      have x7 : wr.cell? ⟨w.heap.size, 7, none⟩ = some (.slice ha hl hc) := HX.out.2 7 (by simp)
      by_cases hlt1 : k < hl
      · have hlt2 : (k : Int) < (hl : Int) := by omega
        obtain ⟨b, off, rfl, hbl, c0, c1⟩ := (HI.out.below HB.out).at k (by have := HL.out; omega)
        have HP := hid_intro (pk_take hs k (by have := HL.out; omega))
        generalize hs.getD k H.zero = X at *
        obtain ⟨xh, xs⟩ := X
        dsimp only at c0 c1 HP
        generalize pk (hs.take k) = T at *
        have HM := hid_intro (fun w => smax_any T xs w)
        generalize grt T xs = T2 at *
        go_wp2_with fail
        refine (HM.out _).mono ?_
        rintro e w2 ⟨rfl, rfl⟩
        go_wp2_with fail
        go_roundw
        case rel => exact ⟨k + 1, by omega, by rw [HP.out], by go_num, HB, HX⟩
        case measure => simp [intOf]; omega
      · have hlt2 : ¬ (k : Int) < (hl : Int) := by omega
        obtain rfl : k = hl := by omega
        have HE2 := HE.out
        generalize pk (hs.take k) = T at *
        subst HE2
        go_wp2_with fail
        go_ret
        exact ⟨rfl, HB.out⟩
  · rw [if_neg g1, if_neg g2, if_neg g3, if_neg g4]
    have q1 : (g == 1) = false := by simpa using g1
    have q2 : (g == 2) = false := by simpa using g2
    have q3 : (g == 3) = false := by simpa using g3
    have q4 : (g == 4) = false := by simpa using g4
    go_enter Tryd.func12, Tryd.ntmps12
    go_wp2_with fail
    go_ret
    exact ⟨rfl, HB0.out⟩
theorem svalue_all (a m : ByteArray) (mo ev su mx : Int) (ta : Option Addr) (tl tc : Nat) (ha : Option Addr) (hl hc : Nat) (g V : Int) (r : Bool) (w : World)
    (h1 : ∀ W, Below w.heap.size w W → Calls Tryd.prog 11 #[.agg #[.string a, .string m, .int .i64 mo, .int .i64 ev, .int .i64 su, .int .i64 mx, .slice ta tl tc, .slice ha hl hc]] W fun e w' => e = .returned (.bool r) ∧ Below W.heap.size W w')
    (h2 : ∀ W, Below w.heap.size w W → Calls Tryd.prog 12 #[.agg #[.string a, .string m, .int .i64 mo, .int .i64 ev, .int .i64 su, .int .i64 mx, .slice ta tl tc, .slice ha hl hc], .int .i64 g] W fun e w' => e = .returned (.int .i64 V) ∧ Below W.heap.size W w') :
    Calls Tryd.prog 5 #[.agg #[.string a, .string m, .int .i64 mo, .int .i64 ev, .int .i64 su, .int .i64 mx, .slice ta tl tc, .slice ha hl hc], .int .i64 g] w fun e w' => e = .returned (.int .i64 (bif r then V else 0)) ∧ Below w.heap.size w w' := by
  have H1 := hid_intro h1
  have H2 := hid_intro h2
  clear h1 h2
  have HB0 : Hid (Below w.heap.size w (w.alloc (.cells #[.string a, .string m, .int .i64 mo, .int .i64 ev, .int .i64 su, .int .i64 mx, .slice ta tl tc, .slice ha hl hc] 30))) := hid_intro ((Below.refl _ _).alloc (Nat.le_refl _) _)
  have HX0 := hid_intro (Blk.new w [.string a, .string m, .int .i64 mo, .int .i64 ev, .int .i64 su, .int .i64 mx, .slice ta tl tc, .slice ha hl hc] 30)
  cases r
  · go_enter Tryd.func5, Tryd.ntmps5
    go_wp2_with fail
    refine (H1.out _ HB0.out).mono ?_
    rintro e w1 ⟨rfl, hb1⟩
    have HB1 := hid_intro (HB0.out.trans (hb1.mono HB0.out.size))
    clear hb1
    go_wp2_with fail
    go_ret
    exact ⟨rfl, HB1.out⟩
  · go_enter Tryd.func5, Tryd.ntmps5
    go_wp2_with fail
    refine (H1.out _ HB0.out).mono ?_
    rintro e w1 ⟨rfl, hb1⟩
    have HB1 := hid_intro (HB0.out.trans (hb1.mono HB0.out.size))
    have HX1 := hid_intro (HX0.out.below hb1)
    clear hb1
    obtain ⟨xl, xc⟩ := HX1.out
    have x0 : w1.cell? ⟨w.heap.size, 0, none⟩ = some (.string a) := xc 0 (by simp)
    have x1 : w1.cell? ⟨w.heap.size, 1, none⟩ = some (.string m) := xc 1 (by simp)
    have x2 : w1.cell? ⟨w.heap.size, 2, none⟩ = some (.int .i64 mo) := xc 2 (by simp)
    have x3 : w1.cell? ⟨w.heap.size, 3, none⟩ = some (.int .i64 ev) := xc 3 (by simp)
    have x4 : w1.cell? ⟨w.heap.size, 4, none⟩ = some (.int .i64 su) := xc 4 (by simp)
    have x5 : w1.cell? ⟨w.heap.size, 5, none⟩ = some (.int .i64 mx) := xc 5 (by simp)
    have x6 : w1.cell? ⟨w.heap.size, 6, none⟩ = some (.slice ta tl tc) := xc 6 (by simp)
    have x7 : w1.cell? ⟨w.heap.size, 7, none⟩ = some (.slice ha hl hc) := xc 7 (by simp)
    clear xc
    go_wp2_with fail
    refine (H2.out _ HB1.out).mono ?_
    rintro e w2 ⟨rfl, hb2⟩
    have HB2 := hid_intro (HB1.out.trans (hb2.mono HB1.out.size))
    clear hb2
    go_wp2_with fail
    go_ret
    exact ⟨rfl, HB2.out⟩
theorem spec_value (x : Wd) (g : Int) (ta : Option Addr) (tc : Nat) (ha : Option Addr) (hc : Nat) (w : World) (h1 : x.a.size ≤ 1048576) (h2 : x.m.size ≤ 1048576) (h3 : x.ts.length ≤ 1048576) (h4 : ∀ t ∈ x.ts, t.size ≤ 1048576) (h5 : x.hs.length ≤ 1048576) (hT : Tgs ta x.ts w) (hH : Hrs ha x.hs w) :
    Calls Tryd.prog 5 #[.agg (wcells x ta tc ha hc), .int .i64 g] w fun e w' => e = .returned (.int .i64 (valueV x g)) ∧ Below w.heap.size w w' :=
  svalue_all x.a x.m x.mo x.ev x.su x.mx ta x.ts.length tc ha x.hs.length hc g _ _ w (fun W hW => spec_window_right x ta tc ha hc W h1 h2 h3 h4 (hT.below hW) (hH.below hW)) (fun W hW => svalue_in x.a x.m x.mo x.ev x.su x.mx ta x.ts.length tc ha x.hs hc g W h5 (hH.below hW))
end WinR
end Go.Proofs.YtalapnklmngoeaaDoor
