/-
  math/bits.Div64: a number of two words in parts, as often as it is in, and what is left. No condition.
-/
import Derived.Test.YtaihfidbpkbnkaaDoorDivMath
import Derived.RegionTactic
import Derived.ChangeAlike
namespace Go.Proofs.YtaihfidbpkbnkaaDoor
open Go.ChangeShapes Go.WideShapes Go.ChangeAt Go.RowKit
set_option linter.unusedVariables false
namespace DivR
theorem meas {q' q : Nat} (h : q' < q) : (intOf (.int .u64 (q' : Int))).toNat < (intOf (.int .u64 (q : Int))).toNat := by simpa [intOf] using h
theorem ends (hi lo c s u n1 n0 y q1 u2 q0 : Nat) (hy : y = c * 2 ^ s) (hN : u * 18446744073709551616 + (n1 * 4294967296 + n0) = (hi * 18446744073709551616 + lo) * 2 ^ s) (hq1 : (u * 4294967296 + n1) / y = q1) (hu2 : u2 = (u * 4294967296 + n1) % y) (hq0 : (u2 * 4294967296 + n0) / y = q0) (hy0 : 0 < y) :
    q1 * 4294967296 + q0 = (hi * 18446744073709551616 + lo) / c ∧ (u2 * 4294967296 + n0) % y = (hi * 18446744073709551616 + lo) % c * 2 ^ s := by
  obtain ⟨b1, b2⟩ := FixM.knuth_both (u := u) (n1 := n1) (n0 := n0) hy0
  rw [hN, hy, Nat.mul_div_mul_right _ _ (Nat.two_pow_pos s)] at b1
  rw [hN, hy, Nat.mul_mod_mul_right] at b2
  rw [hy] at hq1 hu2 hq0 ⊢
  rw [hq1, ← hu2, hq0] at b1
  rw [← hu2] at b2
  exact ⟨b1, b2⟩
set_option maxRecDepth 100000 in
set_option maxHeartbeats 8000000 in
theorem div_inner (hi lo c s : Nat) (hlo : lo < 18446744073709551616) (hhi : hi < c) (hs63 : s ≤ 63) (hy1 : 9223372036854775808 ≤ c * 2 ^ s) (hy2 : c * 2 ^ s < 18446744073709551616) (hQ : (hi * 18446744073709551616 + lo) / c < 18446744073709551616)
    (hs : ∀ w, Calls Tryd.prog 102 #[.int .u64 c] w fun e w' => e = .returned (.int .i64 (s : Int)) ∧ w' = w) (c0 : ((c : Int) == 0) = false) (c1 : ¬ (c : Int) ≤ hi) (h0 : ((hi : Int) == 0) = false) (w : World) :
    Calls Tryd.prog 98 #[.int .u64 hi, .int .u64 lo, .int .u64 c] w fun e w' => e = .returned (.tuple #[.int .u64 (((hi * 18446744073709551616 + lo) / c : Nat) : Int), .int .u64 (((hi * 18446744073709551616 + lo) % c : Nat) : Int)]) ∧ Below w.heap.size w w' := by
  have HS := hid_intro hs
  obtain ⟨y, t, h', ls, u, n10, y1, y0, n1, n0, k1, k2, k3, k4, k5, k6, k7, k8, k9, k10, k11, k12, k13, k14, HP⟩ := prep hi lo c s hlo hhi hs63 hy1 hy2
  have HY2 : Hid (y < 18446744073709551616) := hid_intro (by rw [HP.out.1]; exact hy2)
  have HY0 : Hid (0 < y) := hid_intro (by rw [HP.out.1]; omega)
  have HQ := hid_intro hQ
  obtain ⟨q, m, r, t5, t6, t1, t2, t3, t4⟩ := start u y1 (Nat.lt_trans HP.out.2.2.2.2.2.2.2.1 HY2.out) (Nat.le_of_lt (Nat.lt_of_lt_of_le (by decide) HP.out.2.2.1))
  have HQR := hid_intro (And.intro t5 t6)
  clear hs hlo hhi hs63 hy1 hy2 hQ t5 t6
  go_enter Tryd.func98, Tryd.ntmps98
  go_wp2_with fail
  refine (HS.out _).mono ?_
  rintro e w1 ⟨rfl, rfl⟩
  go_wp2_with fail
  go_loop [15, 16] (fun a b => ∃ q r : Nat, a = .int .u64 q ∧ b = .int .u64 r ∧ Hid (Inv u y1 y n1 q r)) (fun a _ => (intOf a).toNat)
  case atStart => exact ⟨q, r, rfl, rfl, by rw [HQR.out.1, HQR.out.2]; exact inv_start u y1 y0 y n1 HP.out.2.1 HP.out.2.2.1 HP.out.2.2.2.1 HP.out.2.2.2.2.1 HP.out.2.2.2.2.2.1 HP.out.2.2.2.2.2.2.2.1⟩
  case round =>
    clear t1 t2 t3 t4
    obtain ⟨q, r, rfl, rfl, HI⟩ := hrel
    have HRD := round u y1 y0 y n1 q r HP.out.2.1 HP.out.2.2.1 HP.out.2.2.2.1 HP.out.2.2.2.2.1 HP.out.2.2.2.2.2.1 HP.out.2.2.2.2.2.2.2.1 HI.out
    rcases HRD with ⟨hc, q1, r', e1, e2, ⟨hb, hT⟩ | ⟨hb, hI⟩⟩ | ⟨hc, g, h, i, e3, e4, e5, ⟨hd, q1, r', e1, e2, ⟨hb, hT⟩ | ⟨hb, hI⟩⟩ | ⟨hd, hT⟩⟩
    · obtain ⟨i1', i2', i3', u2, i1, i2, i3, i4, i5, i6⟩ := mid u y n1 q1 HY2.out HY0.out hT.out
      have HT1 := hid_intro hT.out
      have HU2 := hid_intro (And.intro i5 i6)
      obtain ⟨p, m2, z, j5, j6, j1, j2, j3, j4⟩ := start u2 y1 (Nat.lt_trans i6 HY2.out) (Nat.le_of_lt (Nat.lt_of_lt_of_le (by decide) HP.out.2.2.1))
      have HPZ := hid_intro (And.intro j5 j6)
      clear i5 i6 j5 j6
      go_wp2_with fail
      go_loop [16, 18] (fun b a => ∃ q r : Nat, a = .int .u64 q ∧ b = .int .u64 r ∧ Hid (Inv u2 y1 y n0 q r)) (fun _ a => (intOf a).toNat)
      case atStart => exact ⟨p, z, rfl, rfl, by rw [HPZ.out.1, HPZ.out.2]; exact inv_start u2 y1 y0 y n0 HP.out.2.1 HP.out.2.2.1 HP.out.2.2.2.1 HP.out.2.2.2.2.1 HP.out.2.2.2.2.2.2.1 HU2.out.2⟩
      case round =>
        clear j1 j2 j3 j4 i1 i2 i3 i4
        obtain ⟨q, r, rfl, rfl, HI⟩ := hrel
        have HRD := round u2 y1 y0 y n0 q r HP.out.2.1 HP.out.2.2.1 HP.out.2.2.2.1 HP.out.2.2.2.2.1 HP.out.2.2.2.2.2.2.1 HU2.out.2 HI.out
        rcases HRD with ⟨hc, q0, r', e1, e2, ⟨hb, hT⟩ | ⟨hb, hI⟩⟩ | ⟨hc, g, h, i, e3, e4, e5, ⟨hd, q0, r', e1, e2, ⟨hb, hT⟩ | ⟨hb, hI⟩⟩ | ⟨hd, hT⟩⟩
        · obtain ⟨f1, f2⟩ := ends hi lo c s u n1 n0 y q1 u2 q0 HP.out.1 HP.out.2.2.2.2.2.2.2.2 HT1.out HU2.out.1 hT.out HY0.out
          obtain ⟨a1, a2, a3, a4, a5, b1, b2, b3, b4, b5, b6, b7⟩ := fin u2 y n0 q1 q0 s c _ _ HY2.out HY0.out hT.out HQ.out f1 f2
          clear f1 f2
          go_wp2_with fail
          go_ret2
          exact ⟨rfl, Below.refl _ _⟩
        · go_wp2_with fail
          go_round
          case rel => exact ⟨q0, r', rfl, rfl, hI.out.1⟩
          case measure => exact meas hI.out.2
        · obtain ⟨f1, f2⟩ := ends hi lo c s u n1 n0 y q1 u2 q0 HP.out.1 HP.out.2.2.2.2.2.2.2.2 HT1.out HU2.out.1 hT.out HY0.out
          obtain ⟨a1, a2, a3, a4, a5, b1, b2, b3, b4, b5, b6, b7⟩ := fin u2 y n0 q1 q0 s c _ _ HY2.out HY0.out hT.out HQ.out f1 f2
          clear f1 f2
          go_wp2_with fail
          go_ret2
          exact ⟨rfl, Below.refl _ _⟩
        · go_wp2_with fail
          go_round
          case rel => exact ⟨q0, r', rfl, rfl, hI.out.1⟩
          case measure => exact meas hI.out.2
        · obtain ⟨f1, f2⟩ := ends hi lo c s u n1 n0 y q1 u2 q HP.out.1 HP.out.2.2.2.2.2.2.2.2 HT1.out HU2.out.1 hT.out HY0.out
          obtain ⟨a1, a2, a3, a4, a5, b1, b2, b3, b4, b5, b6, b7⟩ := fin u2 y n0 q1 q s c _ _ HY2.out HY0.out hT.out HQ.out f1 f2
          clear f1 f2
          go_wp2_with fail
          go_ret2
          exact ⟨rfl, Below.refl _ _⟩
    · go_wp2_with fail
      go_round
      case rel => exact ⟨q1, r', rfl, rfl, hI.out.1⟩
      case measure => exact meas hI.out.2
    · obtain ⟨i1', i2', i3', u2, i1, i2, i3, i4, i5, i6⟩ := mid u y n1 q1 HY2.out HY0.out hT.out
      have HT1 := hid_intro hT.out
      have HU2 := hid_intro (And.intro i5 i6)
      obtain ⟨p, m2, z, j5, j6, j1, j2, j3, j4⟩ := start u2 y1 (Nat.lt_trans i6 HY2.out) (Nat.le_of_lt (Nat.lt_of_lt_of_le (by decide) HP.out.2.2.1))
      have HPZ := hid_intro (And.intro j5 j6)
      clear i5 i6 j5 j6
      go_wp2_with fail
      go_loop [16, 18] (fun b a => ∃ q r : Nat, a = .int .u64 q ∧ b = .int .u64 r ∧ Hid (Inv u2 y1 y n0 q r)) (fun _ a => (intOf a).toNat)
      case atStart => exact ⟨p, z, rfl, rfl, by rw [HPZ.out.1, HPZ.out.2]; exact inv_start u2 y1 y0 y n0 HP.out.2.1 HP.out.2.2.1 HP.out.2.2.2.1 HP.out.2.2.2.2.1 HP.out.2.2.2.2.2.2.1 HU2.out.2⟩
      case round =>
        clear j1 j2 j3 j4 i1 i2 i3 i4
        obtain ⟨q, r, rfl, rfl, HI⟩ := hrel
        have HRD := round u2 y1 y0 y n0 q r HP.out.2.1 HP.out.2.2.1 HP.out.2.2.2.1 HP.out.2.2.2.2.1 HP.out.2.2.2.2.2.2.1 HU2.out.2 HI.out
        rcases HRD with ⟨hc, q0, r', e1, e2, ⟨hb, hT⟩ | ⟨hb, hI⟩⟩ | ⟨hc, g, h, i, e3, e4, e5, ⟨hd, q0, r', e1, e2, ⟨hb, hT⟩ | ⟨hb, hI⟩⟩ | ⟨hd, hT⟩⟩
        · obtain ⟨f1, f2⟩ := ends hi lo c s u n1 n0 y q1 u2 q0 HP.out.1 HP.out.2.2.2.2.2.2.2.2 HT1.out HU2.out.1 hT.out HY0.out
          obtain ⟨a1, a2, a3, a4, a5, b1, b2, b3, b4, b5, b6, b7⟩ := fin u2 y n0 q1 q0 s c _ _ HY2.out HY0.out hT.out HQ.out f1 f2
          clear f1 f2
          go_wp2_with fail
          go_ret2
          exact ⟨rfl, Below.refl _ _⟩
        · go_wp2_with fail
          go_round
          case rel => exact ⟨q0, r', rfl, rfl, hI.out.1⟩
          case measure => exact meas hI.out.2
        · obtain ⟨f1, f2⟩ := ends hi lo c s u n1 n0 y q1 u2 q0 HP.out.1 HP.out.2.2.2.2.2.2.2.2 HT1.out HU2.out.1 hT.out HY0.out
          obtain ⟨a1, a2, a3, a4, a5, b1, b2, b3, b4, b5, b6, b7⟩ := fin u2 y n0 q1 q0 s c _ _ HY2.out HY0.out hT.out HQ.out f1 f2
          clear f1 f2
          go_wp2_with fail
          go_ret2
          exact ⟨rfl, Below.refl _ _⟩
        · go_wp2_with fail
          go_round
          case rel => exact ⟨q0, r', rfl, rfl, hI.out.1⟩
          case measure => exact meas hI.out.2
        · obtain ⟨f1, f2⟩ := ends hi lo c s u n1 n0 y q1 u2 q HP.out.1 HP.out.2.2.2.2.2.2.2.2 HT1.out HU2.out.1 hT.out HY0.out
          obtain ⟨a1, a2, a3, a4, a5, b1, b2, b3, b4, b5, b6, b7⟩ := fin u2 y n0 q1 q s c _ _ HY2.out HY0.out hT.out HQ.out f1 f2
          clear f1 f2
          go_wp2_with fail
          go_ret2
          exact ⟨rfl, Below.refl _ _⟩
    · go_wp2_with fail
      go_round
      case rel => exact ⟨q1, r', rfl, rfl, hI.out.1⟩
      case measure => exact meas hI.out.2
    · obtain ⟨q1, hq1⟩ : ∃ q1, q1 = q := ⟨_, rfl⟩
      subst hq1
      obtain ⟨i1', i2', i3', u2, i1, i2, i3, i4, i5, i6⟩ := mid u y n1 q1 HY2.out HY0.out hT.out
      have HT1 := hid_intro hT.out
      have HU2 := hid_intro (And.intro i5 i6)
      obtain ⟨p, m2, z, j5, j6, j1, j2, j3, j4⟩ := start u2 y1 (Nat.lt_trans i6 HY2.out) (Nat.le_of_lt (Nat.lt_of_lt_of_le (by decide) HP.out.2.2.1))
      have HPZ := hid_intro (And.intro j5 j6)
      clear i5 i6 j5 j6
      go_wp2_with fail
      go_loop [16, 18] (fun b a => ∃ q r : Nat, a = .int .u64 q ∧ b = .int .u64 r ∧ Hid (Inv u2 y1 y n0 q r)) (fun _ a => (intOf a).toNat)
      case atStart => exact ⟨p, z, rfl, rfl, by rw [HPZ.out.1, HPZ.out.2]; exact inv_start u2 y1 y0 y n0 HP.out.2.1 HP.out.2.2.1 HP.out.2.2.2.1 HP.out.2.2.2.2.1 HP.out.2.2.2.2.2.2.1 HU2.out.2⟩
      case round =>
        clear j1 j2 j3 j4 i1 i2 i3 i4
        obtain ⟨q, r, rfl, rfl, HI⟩ := hrel
        have HRD := round u2 y1 y0 y n0 q r HP.out.2.1 HP.out.2.2.1 HP.out.2.2.2.1 HP.out.2.2.2.2.1 HP.out.2.2.2.2.2.2.1 HU2.out.2 HI.out
        rcases HRD with ⟨hc, q0, r', e1, e2, ⟨hb, hT⟩ | ⟨hb, hI⟩⟩ | ⟨hc, g, h, i, e3, e4, e5, ⟨hd, q0, r', e1, e2, ⟨hb, hT⟩ | ⟨hb, hI⟩⟩ | ⟨hd, hT⟩⟩
        · obtain ⟨f1, f2⟩ := ends hi lo c s u n1 n0 y q1 u2 q0 HP.out.1 HP.out.2.2.2.2.2.2.2.2 HT1.out HU2.out.1 hT.out HY0.out
          obtain ⟨a1, a2, a3, a4, a5, b1, b2, b3, b4, b5, b6, b7⟩ := fin u2 y n0 q1 q0 s c _ _ HY2.out HY0.out hT.out HQ.out f1 f2
          clear f1 f2
          go_wp2_with fail
          go_ret2
          exact ⟨rfl, Below.refl _ _⟩
        · go_wp2_with fail
          go_round
          case rel => exact ⟨q0, r', rfl, rfl, hI.out.1⟩
          case measure => exact meas hI.out.2
        · obtain ⟨f1, f2⟩ := ends hi lo c s u n1 n0 y q1 u2 q0 HP.out.1 HP.out.2.2.2.2.2.2.2.2 HT1.out HU2.out.1 hT.out HY0.out
          obtain ⟨a1, a2, a3, a4, a5, b1, b2, b3, b4, b5, b6, b7⟩ := fin u2 y n0 q1 q0 s c _ _ HY2.out HY0.out hT.out HQ.out f1 f2
          clear f1 f2
          go_wp2_with fail
          go_ret2
          exact ⟨rfl, Below.refl _ _⟩
        · go_wp2_with fail
          go_round
          case rel => exact ⟨q0, r', rfl, rfl, hI.out.1⟩
          case measure => exact meas hI.out.2
        · obtain ⟨f1, f2⟩ := ends hi lo c s u n1 n0 y q1 u2 q HP.out.1 HP.out.2.2.2.2.2.2.2.2 HT1.out HU2.out.1 hT.out HY0.out
          obtain ⟨a1, a2, a3, a4, a5, b1, b2, b3, b4, b5, b6, b7⟩ := fin u2 y n0 q1 q s c _ _ HY2.out HY0.out hT.out HQ.out f1 f2
          clear f1 f2
          go_wp2_with fail
          go_ret2
          exact ⟨rfl, Below.refl _ _⟩
end DivR
end Go.Proofs.YtaihfidbpkbnkaaDoor
