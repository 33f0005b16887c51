/-
  What a right meter costs: the program's side. The condition: the program's own error stands in its variable, the meter is right, so much can be rated.
-/
import Derived.Test.YtnhjodlcdfkpnaaDoorRt
import Derived.Test.YtnhjodlcdfkpnaaDoorProd
import Derived.Test.YtnhjodlcdfkpnaaDoorMeR
import Derived.Test.YtnhjodlcdfkpnaaDoorBlk
namespace Go.Proofs.YtnhjodlcdfkpnaaDoor
open Go.ChangeShapes Go.WideShapes Go.ChangeAt Go.RowKit
set_option linter.unusedVariables false
namespace CatR
open ClampR (clamp)
open FixR (In Laid Thrown product_in product_over out)
theorem in_small {a : Int} (h : 0 ≤ a ∧ a ≤ 1000000000000) : In a := by unfold In; omega
theorem part_w {a b : Int} (h : -9000000000000000000 ≤ a - b ∧ a - b ≤ 9000000000000000000) : wrap64 (a - b) = a - b := by unfold wrap64; omega
theorem sum_w {a b : Int} (h : 0 ≤ a + b ∧ a + b ≤ 9000000000000000000) : wrap64 (a + b) = a + b := by unfold wrap64; omega
/-- What comes of a reckoning that may run over. -/
def May (v : Int) (e : Ending) : Prop := e = .returned (.int .i64 v) ∨ (Thrown e ∧ 1000000000000000 < v)
set_option maxRecDepth 100000 in
set_option maxHeartbeats 4000000 in
theorem impl_parts (v : Value) (m : Me) (n : Int) (w : World) (hL : Laid w) (hR : TRight m.ts) (hn : 0 ≤ n ∧ n ≤ 1000000000000) (hM : IsMe v m w) :
    Calls Tryd.prog 54 #[v, .int .i64 n] w fun e w' => May (ps m.ts n m.ts.length) e ∧ Below w.heap.size w w' := by
  obtain ⟨ta, tc, rfl, hT⟩ := hM
  have HB0 : Hid (Below w.heap.size w (w.alloc (.cells #[.string m.n, .int .i64 m.g, .bool m.wh, .int .i64 m.f, .int .i64 m.l, .slice ta m.ts.length tc] 49))) := hid_intro ((Below.refl _ _).alloc (Nat.le_refl _) _)
  have HT := hid_intro hT
  have HL := hid_intro hL
  have HR := hid_intro hR
  have HN := hid_intro hn
  obtain ⟨nm, g, wh, f, l, ts⟩ := m
  simp only at *
  have hz := hT.1
  obtain ⟨len, hl⟩ : ∃ len, len = ts.length := ⟨_, rfl⟩
  have HZ := hid_intro hl
  rw [← hl] at HT HB0 ⊢
  have h5 : len ≤ 5 := by have := hR.2.1; omega
  clear hT hL hR hn hz hl
  go_enter Tryd.func54, Tryd.ntmps54
  go_wp2_with fail
  go_loopw [5, 6, 13] (fun x y z wr => ∃ k : Nat, k ≤ len ∧ x = .int .i64 (ps ts n k) ∧ y = .int .i64 (tA ts k) ∧ z = .int .i64 k ∧ Hid (Below w.heap.size w wr)) (fun x y z _ => len - (intOf z).toNat)
  case atStart => exact ⟨0, by omega, rfl, rfl, rfl, HB0⟩
  case round =>
    obtain ⟨k, hk, rfl, rfl, rfl, HB⟩ := hrel
    by_cases hlt : k < len
    · have hlt2 : (k : Int) < (len : Int) := by omega
      obtain ⟨b, off, rfl, hbl, d0, d1⟩ := tis_at (HT.out.below HB.out) k hlt
      have c0 : wr.cell? ⟨b, off + k * 2, none⟩ = some (.int .i64 (tU ts k)) := d0
      have c1 : wr.cell? ⟨b, off + k * 2 + 1, none⟩ = some (.int .i64 (tP ts k)) := d1
      clear d0 d1
      have HK : Hid (k < ts.length) := hid_intro (by have := HZ.out; omega)
      have HPB := hid_intro (part_bd HR.out HN.out.1 k HK.out)
      have HCL := hid_intro (fun w => ClampR.impl_any n (tA ts k) (tU ts k) w)
      have hw1 : wrap64 (clamp n (tA ts k) (tU ts k) - tA ts k) = part ts n k := by
        have := HPB.out
        unfold part at *
        exact part_w (by omega)
      have HS1 : Hid (ps ts n (k + 1) = ps ts n k + part ts n k * tP ts k) := rfl
      have HSB := hid_intro (ps_all HR.out HN.out (k + 1) HK.out)
      have HSM := hid_intro (ps_mono HR.out HN.out.1 ts.length (k + 1) (Nat.le_refl _) HK.out)
      have HPI := hid_intro (product_in (part ts n k) (tP ts k) (in_small ⟨HPB.out.1, HPB.out.2.1⟩) (in_small (by have := pr_bd HR.out k HK.out; omega)))
      have HPO := hid_intro (fun w => product_over (part ts n k) (tP ts k) (in_small ⟨HPB.out.1, HPB.out.2.1⟩) (in_small (by have := pr_bd HR.out k HK.out; omega)) (w := w))
      have HPS := hid_intro (ps_all HR.out HN.out k (by have := HK.out; omega)).1
      have HPP := hid_intro (mul_bd HPB.out.1 (pr_bd HR.out k HK.out)).1
      have HUA : Hid (tA ts (k + 1) = tU ts k) := rfl
      have hw2 : wrap64 (ps ts n k + part ts n k * tP ts k) = ps ts n (k + 1) := by
        rw [HS1.out] at HSB ⊢
        exact sum_w (by have := HSB.out; omega)
      have HIN : Hid (In (part ts n k * tP ts k) ∨ ¬ In (part ts n k * tP ts k)) := hid_intro (by unfold In; omega)
      have HOV : Hid (¬ In (part ts n k * tP ts k) → 1000000000000000 < ps ts n ts.length) := hid_intro (fun h => by
        have := HS1.out; have := HSM.out; have := HPS.out; have := HPP.out
        unfold In at h
        omega)
      generalize part ts n k * tP ts k = V at *
      generalize part ts n k = Q at *
      generalize clamp n (tA ts k) (tU ts k) = C at *
      obtain ⟨S1, hS1⟩ : ∃ S1, S1 = ps ts n (k + 1) := ⟨_, rfl⟩
      rw [← hS1] at hw2
      have HS2 := hid_intro hS1
      clear hS1
      generalize ps ts n k = S0 at *
      generalize tA ts k = A at *
      generalize tU ts k = U at *
      generalize tP ts k = P at *
      rw [← HZ.out] at HOV
      have HAl := hid_intro (fun o => HB.out.alloc HB.out.size o)
      have HLA := hid_intro (fun o => HL.out.below (HAl.out o))
      clear HPB HSB HSM HPS HPP HS1
      rcases HIN.out with hin | hin
      · have HPX := hid_intro (fun w => HPI.out hin w)
        go_wp2_with (first | (go_at_call 56; refine (HCL.out _).mono ?_; rintro e w3 ⟨rfl, rfl⟩) | (go_at_call 55; refine (HPX.out _).mono ?_; rintro e w3 ⟨rfl, rfl⟩))
        go_roundw
        case rel => exact ⟨k + 1, by omega, by rw [← HS2.out]; first | rfl | rw [hw2], by rw [HUA.out], by go_num, hid_intro (HAl.out _)⟩
        case measure => simp [intOf]; omega
      · have HPX := hid_intro (fun w hl => HPO.out w hin hl)
        have HF := hid_intro (HOV.out hin)
        go_wp2_with (first | (go_at_call 56; refine (HCL.out _).mono ?_; rintro e w3 ⟨rfl, rfl⟩) | (go_at_call 55; refine (HPX.out _ (HLA.out _)).mono ?_; rintro e w3 ⟨⟨u, x, rfl⟩, rfl⟩))
        exact ⟨rfl, .inr ⟨⟨u, x, rfl⟩, HF.out⟩, HAl.out _⟩
    · have hlt2 : ¬ (k : Int) < (len : Int) := by omega
      obtain rfl : k = len := by omega
      go_wp2_with fail
      go_ret
      exact ⟨.inl rfl, HB.out⟩
theorem lss_no {a b : Int} (h : b ≤ a) : ¬ a < b := by omega
set_option maxRecDepth 100000 in
set_option maxHeartbeats 4000000 in
theorem impl_one (v : Value) (m : Me) (n : Int) (w : World) (hL : Laid w) (hR : TRight m.ts) (hn : 0 ≤ n ∧ n ≤ 1000000000000) (hM : IsMe v m w) :
    Calls Tryd.prog 53 #[v, .int .i64 n] w fun e w' => May (wc m.ts n) e ∧ Below w.heap.size w w' := by
  obtain ⟨ta, tc, rfl, hT⟩ := hM
  obtain ⟨nm, g, wh, f, l, ts⟩ := m
  simp only at *
  have HB0 : Hid (Below w.heap.size w (w.alloc (.cells #[.string nm, .int .i64 g, .bool wh, .int .i64 f, .int .i64 l, .slice ta ts.length tc] 49))) := hid_intro ((Below.refl _ _).alloc (Nat.le_refl _) _)
  have HK0 : Hid (Blk w.heap.size [.string nm, .int .i64 g, .bool wh, .int .i64 f, .int .i64 l, .slice ta ts.length tc] (w.alloc (.cells #[.string nm, .int .i64 g, .bool wh, .int .i64 f, .int .i64 l, .slice ta ts.length tc] 49))) := hid_intro (Blk.new w _ _)
  have HT := hid_intro hT
  have HL := hid_intro hL
  have HR := hid_intro hR
  have HN := hid_intro hn
  have hz := hT.1
  obtain ⟨len, hl⟩ : ∃ len, len = ts.length := ⟨_, rfl⟩
  have HZ := hid_intro hl
  rw [← hl] at HT HB0 HK0 ⊢
  have h5 : len ≤ 5 := by have := hR.2.1; omega
  have h1 : 1 ≤ len := by have := hR.1; omega
  clear hT hL hR hn hz hl
  go_enter Tryd.func53, Tryd.ntmps53
  go_wp2_with fail
  go_loopw [5] (fun z wr => ∃ k : Nat, k < len ∧ z = .int .i64 k ∧ Hid (∀ i, i < k → tU ts i < n) ∧ Hid (Below w.heap.size w wr) ∧ Hid (Blk w.heap.size [.string nm, .int .i64 g, .bool wh, .int .i64 f, .int .i64 l, .slice ta len tc] wr)) (fun z _ => len - (intOf z).toNat)
  case atStart => exact ⟨0, by omega, rfl, hid_intro (fun i hi => absurd hi (by omega)), HB0, HK0⟩
  case round =>
    obtain ⟨k, hlt, rfl, HA, HB, HK⟩ := hrel
    have hlt2 : (k : Int) < (len : Int) := by omega
    obtain ⟨b, off, rfl, hbl, d0, d1⟩ := tis_at (HT.out.below HB.out) k hlt
    have c0 : wr.cell? ⟨b, off + k * 2, none⟩ = some (.int .i64 (tU ts k)) := d0
    have c1 : wr.cell? ⟨b, off + k * 2 + 1, none⟩ = some (.int .i64 (tP ts k)) := d1
    have c5 : wr.cell? ⟨w.heap.size, 5, none⟩ = some (.slice (some ⟨b, off, none⟩) len tc) := HK.out.2 5 (by simp)
    have hbl5 := HK.out.1
    clear d0 d1
    by_cases hq : tU ts k < n
    · have HA1 : Hid (∀ i, i < k + 1 → tU ts i < n) := hid_intro (fun i hi => by
        by_cases e : i = k
        · subst e; exact hq
        · exact HA.out i (by omega))
      have HK1 : Hid (k + 1 < len) := hid_intro (by have := not_all HR.out HN.out.2 (k := k + 1) (by have := HZ.out; omega) HA1.out; have := HZ.out; omega)
      generalize tU ts k = U at *
      go_wp2_with fail
      go_roundw
      case rel => exact ⟨k + 1, HK1.out, by go_num, HA1, HB, HK⟩
      case measure => simp [intOf]; omega
    · have HW := hid_intro (wc_at (ts := ts) (n := n) (k := k) ⟨by have := HZ.out; omega, HA.out, by omega⟩)
      have HP := hid_intro (pr_bd HR.out k (by have := HZ.out; omega))
      have HPI := hid_intro (product_in n (tP ts k) (in_small HN.out) (in_small (by have := HP.out; omega)))
      have HPO := hid_intro (fun w => product_over n (tP ts k) (in_small HN.out) (in_small (by have := HP.out; omega)) (w := w))
      have HIN : Hid (In (n * tP ts k) ∨ ¬ In (n * tP ts k)) := hid_intro (by unfold In; omega)
      have HOV : Hid (¬ In (n * tP ts k) → 1000000000000000 < wc ts n) := hid_intro (fun h => by
        have := (mul_bd HN.out.1 HP.out).1
        rw [HW.out]
        unfold In at h
        omega)
      have HL1 := hid_intro (HL.out.below HB.out)
      generalize n * tP ts k = V at *
      generalize tU ts k = U at *
      generalize tP ts k = P at *
      rcases HIN.out with hin | hin
      · have HPX := hid_intro (fun w => HPI.out hin w)
        go_wp2_with (go_at_call 55; refine (HPX.out _).mono ?_; rintro e w3 ⟨rfl, rfl⟩)
        go_ret
        exact ⟨.inl (ret_int HW.out.symm), HB.out⟩
      · have HPX := hid_intro (fun w hl => HPO.out w hin hl)
        have HF := hid_intro (HOV.out hin)
        go_wp2_with (go_at_call 55; refine (HPX.out _ HL1.out).mono ?_; rintro e w3 ⟨⟨u, x, rfl⟩, rfl⟩)
        exact ⟨rfl, .inr ⟨⟨u, x, rfl⟩, HF.out⟩, HB.out⟩
theorem used_w {a b : Int} (ha : 0 ≤ a ∧ a ≤ 1000000000000) (hb : 0 ≤ b ∧ b ≤ 1000000000) : wrap64 (a - b) = a - b := by unfold wrap64; omega
theorem mx_cases (a b : Int) : (a < b ∧ ¬ b < a ∧ ¬ b ≤ a ∧ mx a b = b) ∨ (¬ a < b ∧ b ≤ a ∧ mx a b = a) := by
  unfold mx
  by_cases h : a < b
  · exact .inl ⟨h, by omega, by omega, if_pos h⟩
  · exact .inr ⟨h, by omega, if_neg h⟩
set_option maxRecDepth 100000 in
set_option maxHeartbeats 4000000 in
theorem impl_micros (v : Value) (m : Me) (u : Int) (w : World) (hL : Laid w) (hR : MRight m) (hu : 0 ≤ u ∧ u ≤ 1000000000000) (hM : IsMe v m w) :
    Calls Tryd.prog 44 #[v, .int .i64 u] w fun e w' => May (rt m u) e ∧ Below w.heap.size w w' := by
  obtain ⟨ta, tc, rfl, hT⟩ := hM
  have HAB := hid_intro (amt_bd hR.2.2.1 hu)
  have HRB := hid_intro (rt_bd hR hu)
  have H1 : Hid (∀ W, Below w.heap.size w W → Calls Tryd.prog 53 #[.agg #[.string m.n, .int .i64 m.g, .bool m.wh, .int .i64 m.f, .int .i64 m.l, .slice ta m.ts.length tc], .int .i64 (amt m u)] W fun e w' => May (wc m.ts (amt m u)) e ∧ Below W.heap.size W w') := hid_intro (fun W hW => impl_one _ m _ W (hL.below hW) hR.2.2.2.2 HAB.out ⟨ta, tc, rfl, hT.below hW⟩)
  have H2 : Hid (∀ W, Below w.heap.size w W → Calls Tryd.prog 54 #[.agg #[.string m.n, .int .i64 m.g, .bool m.wh, .int .i64 m.f, .int .i64 m.l, .slice ta m.ts.length tc], .int .i64 (amt m u)] W fun e w' => May (ps m.ts (amt m u) m.ts.length) e ∧ Below W.heap.size W w') := hid_intro (fun W hW => impl_parts _ m _ W (hL.below hW) hR.2.2.2.2 HAB.out ⟨ta, tc, rfl, hT.below hW⟩)
  have hw := used_w hu hR.2.2.1
  have hmx := mx_cases (u - m.f) 0
  have HRT : Hid (rt m u = if 0 < u then mx (bs m u) m.l else bs m u) := rfl
  have HBS : Hid (bs m u = bif m.wh then wc m.ts (amt m u) else ps m.ts (amt m u) m.ts.length) := rfl
  have HAM : Hid (amt m u = mx (u - m.f) 0) := rfl
  have HB0 : Hid (Below w.heap.size w (w.alloc (.cells #[.string m.n, .int .i64 m.g, .bool m.wh, .int .i64 m.f, .int .i64 m.l, .slice ta m.ts.length tc] 49))) := hid_intro ((Below.refl _ _).alloc (Nat.le_refl _) _)
  generalize rt m u = R at *
  generalize bs m u = B at *
  obtain ⟨nm, g, wh, f, l, ts⟩ := m
  simp only at *
  generalize amt ⟨nm, g, wh, f, l, ts⟩ u = N at *
  generalize mx (u - f) 0 = N2 at *
  generalize wc ts N = WC at *
  generalize ps ts N ts.length = PC at *
  generalize ts.length = tl at *
  obtain ⟨X, hX⟩ : ∃ X, X = u - f := ⟨_, rfl⟩
  rw [← hX] at hmx hw
  have hw : wrap64 (u - f) = X := by rw [← hX]; exact hw
  clear hT hL hR hu hX
  have HK0 : Hid (Blk w.heap.size [.string nm, .int .i64 g, .bool wh, .int .i64 f, .int .i64 l, .slice ta tl tc] (w.alloc (.cells #[.string nm, .int .i64 g, .bool wh, .int .i64 f, .int .i64 l, .slice ta tl tc] 49))) := hid_intro (Blk.new w _ _)
  cases wh
  · obtain rfl : B = PC := HBS.out
    rcases hmx with ⟨m1, m2, m3, m4⟩ | ⟨m1, m2, m4⟩
    all_goals
      obtain rfl := HAM.out
      subst m4
      go_enter Tryd.func44, Tryd.ntmps44
      go_wp2_with fail
      refine (H2.out _ HB0.out).mono ?_
      rintro e w1 ⟨hm, hb1⟩
      have HK1 := hid_intro (HK0.out.below hb1)
      have HB1 := hid_intro (HB0.out.trans (hb1.mono HB0.out.size))
      have hl1 := HK1.out.1
      have c4 : w1.cell? ⟨w.heap.size, 4, none⟩ = some (.int .i64 l) := HK1.out.2 4 (by simp)
      clear hb1
      rcases hm with rfl | ⟨⟨t, x, rfl⟩, hov⟩
      · by_cases hu0 : 0 < u
        · rw [if_pos hu0] at HRT
          rcases mx_cases B l with ⟨q1, q2, q3, q4⟩ | ⟨q1, q2, q4⟩
          all_goals
            rw [q4] at HRT
            go_wp2_with fail
            go_ret
            exact ⟨.inl (ret_int HRT.out.symm), HB1.out⟩
        · rw [if_neg hu0] at HRT
          go_wp2_with fail
          go_ret
          exact ⟨.inl (ret_int HRT.out.symm), HB1.out⟩
      · have HF : Hid (1000000000000000 < R) := hid_intro (by have := HRB.out.2.2; omega)
        try go_wp2_with fail
        exact ⟨rfl, .inr ⟨⟨t, x, rfl⟩, HF.out⟩, HB1.out⟩
  · obtain rfl : B = WC := HBS.out
    rcases hmx with ⟨m1, m2, m3, m4⟩ | ⟨m1, m2, m4⟩
    all_goals
      obtain rfl := HAM.out
      subst m4
      go_enter Tryd.func44, Tryd.ntmps44
      go_wp2_with fail
      refine (H1.out _ HB0.out).mono ?_
      rintro e w1 ⟨hm, hb1⟩
      have HK1 := hid_intro (HK0.out.below hb1)
      have HB1 := hid_intro (HB0.out.trans (hb1.mono HB0.out.size))
      have hl1 := HK1.out.1
      have c4 : w1.cell? ⟨w.heap.size, 4, none⟩ = some (.int .i64 l) := HK1.out.2 4 (by simp)
      clear hb1
      rcases hm with rfl | ⟨⟨t, x, rfl⟩, hov⟩
      · by_cases hu0 : 0 < u
        · rw [if_pos hu0] at HRT
          rcases mx_cases B l with ⟨q1, q2, q3, q4⟩ | ⟨q1, q2, q4⟩
          all_goals
            rw [q4] at HRT
            go_wp2_with fail
            go_ret
            exact ⟨.inl (ret_int HRT.out.symm), HB1.out⟩
        · rw [if_neg hu0] at HRT
          go_wp2_with fail
          go_ret
          exact ⟨.inl (ret_int HRT.out.symm), HB1.out⟩
      · have HF : Hid (1000000000000000 < R) := hid_intro (by have := HRB.out.2.2; omega)
        try go_wp2_with fail
        exact ⟨rfl, .inr ⟨⟨t, x, rfl⟩, HF.out⟩, HB1.out⟩
end CatR
end Go.Proofs.YtnhjodlcdfkpnaaDoor
