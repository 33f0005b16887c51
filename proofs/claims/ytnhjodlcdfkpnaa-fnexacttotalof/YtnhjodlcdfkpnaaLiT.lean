/-
  What lines come to: both sides say the same. The condition: at most 1048576 lines, whose Meters have at most 1048576 bytes.
-/
import Derived.Test.YtnhjodlcdfkpnaaLiR
namespace Go.Proofs.Ytnhjodlcdfkpnaa
open Go.ChangeShapes Go.WideShapes Go.ChangeAt Go.RowKit
set_option linter.unusedVariables false
namespace LinR
open RowG LtR
def sumL (es : List N) : Int := (es.map (fun e => e.n)).sum
def totL (es : List N) : Int := bif sB es then sumL es else 0
theorem sum_take (es : List N) (k : Nat) (h : k < es.length) : sumL (es.take (k + 1)) = sumL (es.take k) + (es.getD k N.zero).n := by
  unfold sumL
  rw [take_more (z := N.zero) es k h, List.map_append, List.sum_append]
  simp
theorem num_in {n : Int} (h : nOk n = true) : -1000000000000000 ≤ n ∧ n ≤ 1000000000000000 := by unfold nOk at h; simpa using h
theorem line_in {es : List N} (h : SRight es) (k : Nat) (hk : k < es.length) : -1000000000000000 ≤ (es.getD k N.zero).n ∧ (es.getD k N.zero).n ≤ 1000000000000000 := by
  have := (h.2 k hk).2
  unfold lOk at this
  simp only [Bool.and_eq_true] at this
  exact num_in this.2.1
theorem sum_in {es : List N} (h : SRight es) : ∀ k, k ≤ es.length → -(1000000000000000 * (k : Int)) ≤ sumL (es.take k) ∧ sumL (es.take k) ≤ 1000000000000000 * (k : Int)
  | 0, _ => by simp [sumL]
  | k + 1, hk => by
    have h1 := sum_in h k (by omega)
    have h2 := line_in h k (by omega)
    rw [sum_take es k (by omega)]
    push_cast
    omega
set_option maxRecDepth 100000 in
set_option maxHeartbeats 4000000 in
theorem impl_total (ao : Option Addr) (cap : Nat) (es : List N) (w : World) (hlen : es.length ≤ 1048576) (hS : ∀ e ∈ es, e.i.size ≤ 1048576) (hI : Lis ao es w) :
    Calls Try.prog 12 #[.slice ao es.length cap] w fun e w' => e = .returned (.int .i64 (totL es)) ∧ Below w.heap.size w w' := by
  have H1 := hid_intro (impl_lines ao cap es w hlen hS hI)
  have HT : Hid (totL es = bif sB es then sumL es else 0) := rfl
  have HR := hid_intro (sB_iff (es := es)).1
  have HI := hid_intro hI
  generalize totL es = T at *
  generalize sB es = r at *
  obtain ⟨len, hl⟩ : ∃ len, len = es.length := ⟨_, rfl⟩
  rw [← hl] at hlen H1 ⊢
  have HL := hid_intro hl
  clear hI hS hl
  cases r
  · go_enter Try.func12, Try.ntmps12
    go_wp2_with fail
    refine (H1.out).mono ?_
    rintro e w1 ⟨rfl, hb1⟩
    have HB := hid_intro hb1
    clear hb1
    go_wp2_with fail
    go_ret
    exact ⟨ret_int HT.out.symm, HB.out⟩
  · have HQ := hid_intro (HR.out rfl)
    have h6 : len ≤ 6 := by have := HQ.out.1; have := HL.out; omega
    go_enter Try.func12, Try.ntmps12
    go_wp2_with fail
    refine (H1.out).mono ?_
    rintro e w1 ⟨rfl, hb1⟩
    have HB := hid_intro hb1
    clear hb1
    go_wp2_with fail
    go_loopw [3, 11] (fun x z wr => ∃ (k : Nat) (t : Int), k ≤ len ∧ x = .int .i64 t ∧ z = .int .i64 k ∧ Hid (t = sumL (es.take k)) ∧ Hid (Below w.heap.size w wr)) (fun x z _ => len - (intOf z).toNat)
    case atStart => exact ⟨0, 0, by omega, rfl, rfl, hid_intro (by simp [sumL]), HB⟩
    case round =>
      obtain ⟨k, t, hk, rfl, rfl, HS, HB⟩ := hrel
      by_cases hlt : k < len
      · have hlt2 : (k : Int) < (len : Int) := by omega
        obtain ⟨b, off, rfl, hbl, c0, c1⟩ := (HI.out.below HB.out).at k (by have := HL.out; omega)
        have HN := hid_intro (sum_take es k (by have := HL.out; omega))
        have hw : wrap64 (t + (es.getD k N.zero).n) = t + (es.getD k N.zero).n := by
          have a := sum_in HQ.out k (by have := HL.out; omega)
          have b := line_in HQ.out k (by have := HL.out; omega)
          rw [← HS.out] at a
          unfold wrap64; omega
        generalize es.getD k N.zero = X at *
        obtain ⟨xi, xn⟩ := X
        dsimp only at c0 c1 hw HN
        have HAl := hid_intro (fun o => HB.out.alloc HB.out.size o)
        go_wp2_with fail
        go_roundw
        case rel => exact ⟨k + 1, t + xn, by omega, by first | rfl | rw [hw], by go_num, hid_intro (by rw [HN.out, HS.out]), hid_intro (HAl.out _)⟩
        case measure => simp [intOf]; omega
      · have hlt2 : ¬ (k : Int) < (len : Int) := by omega
        obtain rfl : k = len := by omega
        have HE : Hid (es.take k = es) := hid_intro (List.take_of_length_le (by have := HL.out; omega))
        rw [HE.out] at HS
        go_wp2_with fail
        go_ret
        exact ⟨ret_int (by rw [HT.out, HS.out]; rfl), HB.out⟩
set_option maxRecDepth 100000 in
set_option maxHeartbeats 4000000 in
theorem spec_total (ao : Option Addr) (cap : Nat) (es : List N) (w : World) (hlen : es.length ≤ 1048576) (hS : ∀ e ∈ es, e.i.size ≤ 1048576) (hI : Lis ao es w) :
    Calls Try.prog 11 #[.slice ao es.length cap] w fun e w' => e = .returned (.int .i64 (totL es)) ∧ Below w.heap.size w w' := by
  by_cases h4 : 400 < es.length
  · have HT : Hid (totL es = 0) := hid_intro (by unfold totL; rw [sB_long (by omega)]; rfl)
    generalize totL es = T at *
    obtain ⟨len, hl⟩ : ∃ len, len = es.length := ⟨_, rfl⟩
    rw [← hl] at hlen h4 ⊢
    have h4' : (400 : Int) < (len : Int) := by omega
    clear hI hS hl
    go_enter Try.func11, Try.ntmps11
    go_wp2_with fail
    go_ret
    exact ⟨ret_int HT.out.symm, Below.refl _ _⟩
  have H1 := hid_intro (spec_lines ao cap es w hlen hS hI)
  have HT : Hid (totL es = bif sB es then sumL es else 0) := rfl
  have HR := hid_intro (sB_iff (es := es)).1
  have HI := hid_intro hI
  generalize totL es = T at *
  generalize sB es = r at *
  obtain ⟨len, hl⟩ : ∃ len, len = es.length := ⟨_, rfl⟩
  rw [← hl] at hlen H1 h4 ⊢
  have HL := hid_intro hl
  have h4' : ¬ (400 : Int) < (len : Int) := by omega
  clear hI hS hl
  cases r
  · go_enter Try.func11, Try.ntmps11
    go_wp2_with fail
    refine (H1.out).mono ?_
    rintro e w1 ⟨rfl, hb1⟩
    have HB := hid_intro hb1
    clear hb1
    go_wp2_with fail
    go_ret
    exact ⟨ret_int HT.out.symm, HB.out⟩
  · have HQ := hid_intro (HR.out rfl)
    have h6 : len ≤ 6 := by have := HQ.out.1; have := HL.out; omega
    go_enter Try.func11, Try.ntmps11
    go_wp2_with fail
    refine (H1.out).mono ?_
    rintro e w1 ⟨rfl, hb1⟩
    have HB := hid_intro hb1
    clear hb1
    go_wp2_with fail
    go_loopw [3, 4] (fun x z wr => ∃ (k : Nat) (t : Int), k ≤ len ∧ x = .int .i64 t ∧ z = .int .i64 k ∧ Hid (t = sumL (es.take k)) ∧ Hid (Below w.heap.size w wr)) (fun x z _ => len - (intOf z).toNat)
    case atStart => exact ⟨0, 0, by omega, rfl, rfl, hid_intro (by simp [sumL]), HB⟩
    case round =>
      obtain ⟨k, t, hk, rfl, rfl, HS, HB⟩ := hrel
      by_cases hlt : k < len
      · have hlt2 : (k : Int) < (len : Int) := by omega
        obtain ⟨b, off, rfl, hbl, c0, c1⟩ := (HI.out.below HB.out).at k (by have := HL.out; omega)
        have HN := hid_intro (sum_take es k (by have := HL.out; omega))
        have hw : wrap64 (t + (es.getD k N.zero).n) = t + (es.getD k N.zero).n := by
          have a := sum_in HQ.out k (by have := HL.out; omega)
          have b := line_in HQ.out k (by have := HL.out; omega)
          rw [← HS.out] at a
          unfold wrap64; omega
        generalize es.getD k N.zero = X at *
        obtain ⟨xi, xn⟩ := X
        dsimp only at c0 c1 hw HN
        have HAl := hid_intro (fun o => HB.out.alloc HB.out.size o)
        go_wp2_with fail
        go_roundw
        case rel => exact ⟨k + 1, t + xn, by omega, by first | rfl | rw [hw], by go_num, hid_intro (by rw [HN.out, HS.out]), by first | exact HB | exact hid_intro (HAl.out _)⟩
        case measure => simp [intOf]; omega
      · have hlt2 : ¬ (k : Int) < (len : Int) := by omega
        obtain rfl : k = len := by omega
        have HE : Hid (es.take k = es) := hid_intro (List.take_of_length_le (by have := HL.out; omega))
        rw [HE.out] at HS
        go_wp2_with fail
        go_ret
        exact ⟨ret_int (by rw [HT.out, HS.out]; rfl), HB.out⟩
end LinR
end Go.Proofs.Ytnhjodlcdfkpnaa
