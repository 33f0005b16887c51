/-
  What a right meter costs: the model's side. The condition: the meter is right, so much can be rated.
-/
import Derived.Test.YtnhjodlcdfkpnaaDoorRtK
import Derived.Test.YtnhjodlcdfkpnaaDoorOuts
namespace Go.Proofs.YtnhjodlcdfkpnaaDoor
open Go.ChangeShapes Go.WideShapes Go.ChangeAt Go.RowKit
set_option linter.unusedVariables false
namespace CatR
open FixR (In out)
theorem max_any (a b : Int) (w : World) : Calls Tryd.prog 35 #[.int .i64 a, .int .i64 b] w fun e w' => e = .returned (.int .i64 (mx a b)) ∧ w' = w := by
  unfold mx
  rcases (show (a < b ∧ ¬ b < a) ∨ (¬ a < b ∧ b < a) ∨ (¬ a < b ∧ ¬ b < a ∧ a = b) by omega) with ⟨h, h2⟩ | ⟨h, h2⟩ | ⟨h, h2, h3⟩
  all_goals
    simp only [h, if_true, if_false]
    go_enter Tryd.func35, Tryd.ntmps35
    go_wp2
    go_ret
    exact ⟨by first | rfl | exact ret_int h3.symm, rfl⟩
theorem minS (a b : Int) (w : World) : Calls Tryd.prog 36 #[.int .i64 a, .int .i64 b] w fun e w' => e = .returned (.int .i64 (mn a b)) ∧ w' = w := by
  unfold mn
  by_cases h : a < b
  all_goals
    simp only [h, if_true, if_false]
    go_enter Tryd.func36, Tryd.ntmps36
    go_wp2
    go_ret
    exact ⟨rfl, rfl⟩
theorem mx_comm (a b : Int) : mx a b = mx b a := by unfold mx; split <;> split <;> omega
theorem Z3.drewN {p : Nat} {w : World} (h : Z3 p w) (n : Nat) : Z3 p (w.drewN n) := h
set_option maxRecDepth 100000 in
set_option maxHeartbeats 4000000 in
theorem spec_rate (v : Value) (m : Me) (u : Int) (w : World) (hR : MRight m) (hu : 0 ≤ u ∧ u ≤ 1000000000000) (hM : IsMe v m w) :
    Calls Tryd.prog 20 #[v, .int .i64 u] w fun e w' => e = .returned (out (rO m u).1 (rO m u).2) ∧ Below w.heap.size w w' := by
  obtain ⟨ta, tc, rfl, hT⟩ := hM
  have HAB := hid_intro (amt_bd hR.2.2.1 hu)
  have HRB := hid_intro (rt_bd hR hu)
  have HOU : Hid (∀ w, Calls Tryd.prog 37 #[.int .i64 (rt m u)] w fun e w' => e = .returned (out (rO m u).1 (rO m u).2) ∧ Below w.heap.size w w') := hid_intro (fun w => by
    by_cases h : rt m u ≤ 1000000000000000
    · rw [rO_in h]; exact FixR.outS_in _ (by unfold In; have := HRB.out; omega) w
    · rw [rO_over h]; exact FixR.outS_over _ (by unfold In; omega) w)
  have hw := used_w hu hR.2.2.1
  have HMA : Hid (∀ w, Calls Tryd.prog 35 #[.int .i64 0, .int .i64 (u - m.f)] w fun e w' => e = .returned (.int .i64 (amt m u)) ∧ w' = w) := hid_intro (fun w => by have := max_any 0 (u - m.f) w; rw [mx_comm] at this; exact this)
  have HRT0 : Hid (0 < u → rt m u = mx (bs m u) m.l) := hid_intro (fun h => if_pos h)
  have HRT1 : Hid (u ≤ 0 → rt m u = bs m u) := hid_intro (fun h => if_neg (by omega))
  have HBS : Hid (bs m u = bif m.wh then wc m.ts (amt m u) else ps m.ts (amt m u) m.ts.length) := rfl
  have HTR := hid_intro hR.2.2.2.2
  generalize (rO m u).1 = O1 at *
  generalize (rO m u).2 = O2 at *
  generalize rt m u = R at *
  generalize bs m u = B at *
  obtain ⟨nm, g, wh, f, l, ts⟩ := m
  simp only at *
  obtain ⟨W, hW⟩ : ∃ W, W = (w.alloc (Obj.cells #[.string nm, .int .i64 g, .bool wh, .int .i64 f, .int .i64 l, .slice ta ts.length tc] 31)).alloc (Obj.cells #[.int .i64 0, .int .i64 0, .int .i64 0] 27) := ⟨_, rfl⟩
  have HB0 : Hid (Below w.heap.size w W) := hid_intro (by rw [hW]; exact ((Below.refl _ _).alloc (by simp; try omega) _).alloc (by simp; try omega) _)
  have HK0 : Hid (Blk w.heap.size [.string nm, .int .i64 g, .bool wh, .int .i64 f, .int .i64 l, .slice ta ts.length tc] W) := hid_intro (by rw [hW]; exact (Blk.new w _ _).alloc _)
  have HZ0 : Hid (Z3 (w.heap.size + 1) W) := hid_intro (by rw [hW]; have := Z3.new (w.alloc (Obj.cells #[.string nm, .int .i64 g, .bool wh, .int .i64 f, .int .i64 l, .slice ta ts.length tc] 31)) 27; simpa using this)
  have HW := hid_intro hW
  have HT := hid_intro hT
  generalize amt ⟨nm, g, wh, f, l, ts⟩ u = n at *
  have hz := hT.1
  obtain ⟨len, hl⟩ : ∃ len, len = ts.length := ⟨_, rfl⟩
  have HZ := hid_intro hl
  rw [← hl] at HT HK0 HW HBS ⊢
  have h5 : len ≤ 5 := by have := (show TRight ts from HTR.out).2.1; omega
  have h1 : 1 ≤ len := by have := (show TRight ts from HTR.out).1; omega
  obtain ⟨X, hX⟩ : ∃ X, X = u - f := ⟨_, rfl⟩
  rw [← hX] at hw HMA
  have hw : wrap64 (u - f) = X := by rw [← hX]; exact hw
  clear hT hR hu hz hl hX hW
  cases wh
  · obtain rfl : B = ps ts n len := HBS.out
    go_enter Tryd.func20, Tryd.ntmps20
    go_wp2_with (go_at_call 35; refine (HMA.out _).mono ?_; rintro e w7 ⟨rfl, rfl⟩)
    rw [← HW.out]
    go_loopw [6, 7, 8] (fun x y z wr => ∃ k : Nat, k ≤ len ∧ x = .int .i64 (ps ts n k) ∧ y = .int .i64 (tA ts k) ∧ z = .int .i64 k ∧ Hid (Below w.heap.size w wr) ∧ Hid (Z3 (w.heap.size + 1) wr) ∧ Hid (Blk w.heap.size [.string nm, .int .i64 g, .bool false, .int .i64 f, .int .i64 l, .slice ta len tc] wr)) (fun x y z _ => len - (intOf z).toNat)
    case atStart => exact ⟨0, by omega, rfl, rfl, rfl, HB0, HZ0, HK0⟩
    case round =>
      obtain ⟨k, hk, rfl, rfl, rfl, HB, HZR, HK⟩ := hrel
      by_cases hlt : k < len
      · have hlt2 : (k : Int) < (len : Int) := by omega
        obtain ⟨b, off, rfl, hbl, d0, d1⟩ := tis_at (HT.out.below HB.out) k hlt
        have e0 : wr.cell? ⟨b, off + k * 2, none⟩ = some (.int .i64 (tU ts k)) := d0
        have e1 : wr.cell? ⟨b, off + k * 2 + 1, none⟩ = some (.int .i64 (tP ts k)) := d1
        clear d0 d1
        have hl1 := HK.out.1
        have c2 : wr.cell? ⟨w.heap.size, 2, none⟩ = some (.bool false) := HK.out.2 2 (by simp)
        have c4 : wr.cell? ⟨w.heap.size, 4, none⟩ = some (.int .i64 l) := HK.out.2 4 (by simp)
        have c5 : wr.cell? ⟨w.heap.size, 5, none⟩ = some (.slice (some ⟨b, off, none⟩) len tc) := HK.out.2 5 (by simp)
        have HKL : Hid (k < ts.length) := hid_intro (by have := HZ.out; omega)
        have HPB := hid_intro (part_bd HTR.out HAB.out.1 k HKL.out)
        have HM1 := hid_intro (fun w => minS n (tU ts k) w)
        have HM2 := hid_intro (fun w => minS n (tA ts k) w)
        have HSB := hid_intro (ps_all HTR.out HAB.out (k + 1) HKL.out)
        have HS1 : Hid (ps ts n (k + 1) = ps ts n k + part ts n k * tP ts k) := rfl
        have hk1 : IntKind.i64.wrap (mn n (tU ts k) - mn n (tA ts k)) = part ts n k := by
          have := HPB.out
          rw [IntKind.wrap_i64]; omega
        have HP2 := hid_intro (mul_bd HPB.out.1 (pr_bd HTR.out k HKL.out))
        obtain ⟨V, hV⟩ : ∃ V, V = part ts n k * tP ts k := ⟨_, rfl⟩
        rw [← hV] at HP2 HS1
        have hk2 : IntKind.i64.wrap (part ts n k * tP ts k) = V := by
          have h1 := HP2.out
          have := HPB.out
          rw [← hV, IntKind.wrap_i64]; omega
        have hj2 : wrap64 (part ts n k * tP ts k) = V := by
          have h1 := HP2.out
          have := HPB.out
          rw [← hV]; unfold wrap64; omega
        have hk3 : IntKind.i64.wrap (ps ts n k + V) = ps ts n (k + 1) := by
          have := HSB.out
          rw [HS1.out] at this ⊢
          rw [IntKind.wrap_i64]; omega
        have hj3 : wrap64 (ps ts n k + V) = ps ts n (k + 1) := by
          have := HSB.out
          rw [HS1.out] at this ⊢
          unfold wrap64; omega
        clear hV
        have HUA : Hid (tA ts (k + 1) = tU ts k) := rfl
        obtain ⟨S1, hS1⟩ : ∃ S1, S1 = ps ts n (k + 1) := ⟨_, rfl⟩
        rw [← hS1] at hk3 hj3
        have HS2 := hid_intro hS1
        generalize hqq : part ts n k = Q at *
        generalize mn n (tU ts k) = M1 at *
        generalize mn n (tA ts k) = M2 at *
        generalize ps ts n k = S0 at *
        generalize tA ts k = A at *
        generalize tU ts k = U at *
        generalize tP ts k = P at *
        have HAl := hid_intro (fun o => HB.out.alloc HB.out.size o)
        have HZA := hid_intro (fun o => HZR.out.below ((Below.refl _ _).alloc (Nat.le_refl _) o))
        have HKA := hid_intro (fun o => HK.out.alloc o)
        clear HPB HSB HS1 hS1 hqq HP2
        go_wp2_with fail
        go_quiet ((first | (go_at_call_of 36 (Value.int .i64 U); exact Calls.quiet_of_same (HM1.out _)) | (go_at_call_of 36 (Value.int .i64 A); exact Calls.quiet_of_same (HM2.out _))))
        go_wp2_with fail
        go_roundw
        case rel => exact ⟨k + 1, by omega, by first | (rw [← HS2.out]; done) | (rw [← HS2.out, hj2, hj3]; done) | (rw [← HS2.out, hj3]; done), by rw [HUA.out], by go_num, hid_intro (bdrewN (HAl.out _) _), hid_intro ((HZA.out _).drewN _), hid_intro ((HKA.out _).drewN _)⟩
        case measure => simp [intOf]; omega
      · have hlt2 : ¬ (k : Int) < (len : Int) := by omega
        obtain rfl : k = len := by omega
        have hl1 := HK.out.1
        have c2 : wr.cell? ⟨w.heap.size, 2, none⟩ = some (.bool false) := HK.out.2 2 (by simp)
        have c4 : wr.cell? ⟨w.heap.size, 4, none⟩ = some (.int .i64 l) := HK.out.2 4 (by simp)
        have c5 : wr.cell? ⟨w.heap.size, 5, none⟩ = some (.slice ta k tc) := HK.out.2 5 (by simp)
        have HBX := HB
        have HZX := HZR
        by_cases hu0 : 0 < u
        · have HMX := hid_intro (fun w => max_any (ps ts n k) l w)
          rw [← HRT0.out hu0] at HMX
          go_wp2_with (first | (go_at_call 35; refine (HMX.out _).mono ?_; rintro e w7 ⟨rfl, rfl⟩))
          refine (HOU.out _).mono ?_
          rintro e w5 ⟨rfl, hb5⟩
          have HB5 := hid_intro (HBX.out.trans (hb5.mono HBX.out.size))
          obtain ⟨hz, ⟨x0, d0⟩, ⟨x1, d1⟩, ⟨x2, d2⟩, y0, y1, y2⟩ := HZX.out.below hb5
          clear hb5
          unfold out
          go_wp2_with fail
          refine bodyPost_ret (v := out O1 O2) (by simp [out, results, Tryd.results20, go_sem, d0, d1, d2]) rfl ⟨rfl, ?_⟩
          exact below3 HB5.out (by omega) _ _ _
        · rw [HRT1.out (by omega)] at HOU
          go_wp2_with fail
          refine (HOU.out _).mono ?_
          rintro e w5 ⟨rfl, hb5⟩
          have HB5 := hid_intro (HBX.out.trans (hb5.mono HBX.out.size))
          obtain ⟨hz, ⟨x0, d0⟩, ⟨x1, d1⟩, ⟨x2, d2⟩, y0, y1, y2⟩ := HZX.out.below hb5
          clear hb5
          unfold out
          go_wp2_with fail
          refine bodyPost_ret (v := out O1 O2) (by simp [out, results, Tryd.results20, go_sem, d0, d1, d2]) rfl ⟨rfl, ?_⟩
          exact below3 HB5.out (by omega) _ _ _
  · obtain rfl : B = wc ts n := HBS.out
    go_enter Tryd.func20, Tryd.ntmps20
    go_wp2_with (go_at_call 35; refine (HMA.out _).mono ?_; rintro e w7 ⟨rfl, rfl⟩)
    rw [← HW.out]
    go_loopw [6, 7, 8] (fun x y z wr => ∃ k : Nat, k < len ∧ x = .int .i64 0 ∧ y = .int .i64 0 ∧ z = .int .i64 k ∧ Hid (∀ i, i < k → tU ts i < n) ∧ Hid (Below w.heap.size w wr) ∧ Hid (Z3 (w.heap.size + 1) wr) ∧ Hid (Blk w.heap.size [.string nm, .int .i64 g, .bool true, .int .i64 f, .int .i64 l, .slice ta len tc] wr)) (fun x y z _ => len - (intOf z).toNat)
    case atStart => exact ⟨0, by omega, rfl, rfl, rfl, hid_intro (fun i hi => absurd hi (by omega)), HB0, HZ0, HK0⟩
    case round =>
      obtain ⟨k, hlt, rfl, rfl, rfl, HA, HB, HZR, HK⟩ := hrel
      have hlt2 : (k : Int) < (len : Int) := by omega
      obtain ⟨b, off, rfl, hbl, d0, d1⟩ := tis_at (HT.out.below HB.out) k hlt
      have e0 : wr.cell? ⟨b, off + k * 2, none⟩ = some (.int .i64 (tU ts k)) := d0
      have e1 : wr.cell? ⟨b, off + k * 2 + 1, none⟩ = some (.int .i64 (tP ts k)) := d1
      clear d0 d1
      have hl1 := HK.out.1
      have c2 : wr.cell? ⟨w.heap.size, 2, none⟩ = some (.bool true) := HK.out.2 2 (by simp)
      have c4 : wr.cell? ⟨w.heap.size, 4, none⟩ = some (.int .i64 l) := HK.out.2 4 (by simp)
      have c5 : wr.cell? ⟨w.heap.size, 5, none⟩ = some (.slice (some ⟨b, off, none⟩) len tc) := HK.out.2 5 (by simp)
      have HAl := hid_intro (fun o => HB.out.alloc HB.out.size o)
      have HZA := hid_intro (fun o => HZR.out.below ((Below.refl _ _).alloc (Nat.le_refl _) o))
      have HKA := hid_intro (fun o => HK.out.alloc o)
      by_cases hq : n ≤ tU ts k
      · have HWC := hid_intro (wc_at (ts := ts) (n := n) (k := k) ⟨by have := HZ.out; omega, HA.out, hq⟩)
        have HWB := hid_intro (wc_bd HTR.out HAB.out (k := k) (by have := HZ.out; omega))
        have hj2 : wrap64 (n * tP ts k) = wc ts n := by
          have := HWB.out
          rw [HWC.out]; unfold wrap64; omega
        obtain ⟨V, hV⟩ : ∃ V, V = wc ts n := ⟨_, rfl⟩
        rw [← hV] at hj2 HRT0 HRT1
        generalize tU ts k = U at *
        generalize tP ts k = P at *
        have HBX := hid_intro (HAl.out (.cells #[.int .i64 U, .int .i64 P] 62))
        have HZX := hid_intro (HZA.out (.cells #[.int .i64 U, .int .i64 P] 62))
        clear HWC HWB hV
        by_cases hu0 : 0 < u
        · have HMX := hid_intro (fun w => max_any V l w)
          rw [← HRT0.out hu0] at HMX
          go_wp2_with (first | (go_at_call 35; refine (HMX.out _).mono ?_; rintro e w7 ⟨rfl, rfl⟩))
          refine (HOU.out _).mono ?_
          rintro e w5 ⟨rfl, hb5⟩
          have HB5 := hid_intro (HBX.out.trans (hb5.mono HBX.out.size))
          obtain ⟨hz, ⟨x0, d0⟩, ⟨x1, d1⟩, ⟨x2, d2⟩, y0, y1, y2⟩ := HZX.out.below hb5
          clear hb5
          unfold out
          go_wp2_with fail
          refine bodyPost_ret (v := out O1 O2) (by simp [out, results, Tryd.results20, go_sem, d0, d1, d2]) rfl ⟨rfl, ?_⟩
          exact below3 HB5.out (by omega) _ _ _
        · rw [HRT1.out (by omega)] at HOU
          go_wp2_with fail
          refine (HOU.out _).mono ?_
          rintro e w5 ⟨rfl, hb5⟩
          have HB5 := hid_intro (HBX.out.trans (hb5.mono HBX.out.size))
          obtain ⟨hz, ⟨x0, d0⟩, ⟨x1, d1⟩, ⟨x2, d2⟩, y0, y1, y2⟩ := HZX.out.below hb5
          clear hb5
          unfold out
          go_wp2_with fail
          refine bodyPost_ret (v := out O1 O2) (by simp [out, results, Tryd.results20, go_sem, d0, d1, d2]) rfl ⟨rfl, ?_⟩
          exact below3 HB5.out (by omega) _ _ _
      · have HA1 : Hid (∀ i, i < k + 1 → tU ts i < n) := hid_intro (fun i hi => by
          by_cases e : i = k
          · subst e; omega
          · exact HA.out i (by omega))
        have HK1 : Hid (k + 1 < len) := hid_intro (by have := not_all HTR.out HAB.out.2 (k := k + 1) (by have := HZ.out; omega) HA1.out; have := HZ.out; omega)
        generalize tU ts k = U at *
        generalize tP ts k = P at *
        go_wp2_with fail
        go_roundw
        case rel => exact ⟨k + 1, HK1.out, rfl, rfl, by go_num, HA1, hid_intro (HAl.out _), hid_intro (HZA.out _), hid_intro (HKA.out _)⟩
        case measure => simp [intOf]; omega
end CatR
end Go.Proofs.YtnhjodlcdfkpnaaDoor
