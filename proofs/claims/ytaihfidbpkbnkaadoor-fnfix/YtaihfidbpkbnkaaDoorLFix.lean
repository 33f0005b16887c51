/-
  FnFix: for all bytes the law's call returns true, and the bytes read as they did: what is added is taken away again; a quotient times the divisor is no more than the number, and less than one divisor below it; up and down differ by one at most. The condition is the card's: the program's own error starts as its text lays it.
-/
import Derived.Test.YtaihfidbpkbnkaaDoorDrawFix
import Derived.Test.YtaihfidbpkbnkaaDoorPlus
import Derived.Test.YtaihfidbpkbnkaaDoorMinus
import Derived.Test.YtaihfidbpkbnkaaDoorTimes
import Derived.Test.YtaihfidbpkbnkaaDoorPartsS
import Derived.Deep.RegionHeld3
import Derived.Deep.DrawnRows
import Derived.Test.YtaihfidbpkbnkaaDoorSent
import Derived.Test.YtaihfidbpkbnkaaDoorCards
import Derived.Carry
import Derived.ChangeOld
import Derived.OpenVars
import Derived.SevenTiedAt
namespace Go.Proofs.YtaihfidbpkbnkaaDoor
open Go.ChangeShapes Go.WideShapes Go.ChangeAt Go.RowKit
set_option linter.unusedVariables false
namespace FnFixL
open DrawR
open FixR (out Laid In)
/-- A call of two numbers, on the program's side and on the model's. -/
def imp2 (F : FuncId) (a b n c : Int) : Prop := ∀ w, Laid w → Calls Tryd.prog F #[.int .i64 a, .int .i64 b] w fun e w' => e = .returned (.agg #[.int .i64 n, .int .i64 0, .int .i64 c]) ∧ Below w.heap.size w w'
def spe2 (F : FuncId) (a b n c : Int) : Prop := ∀ w, Calls Tryd.prog F #[.int .i64 a, .int .i64 b] w fun e w' => e = .returned (.agg #[.int .i64 n, .int .i64 0, .int .i64 c]) ∧ Below w.heap.size w w'
def imp3 (F : FuncId) (a b m n c : Int) : Prop := ∀ w, Laid w → Calls Tryd.prog F #[.int .i64 a, .int .i64 b, .int .i64 m] w fun e w' => e = .returned (.agg #[.int .i64 n, .int .i64 0, .int .i64 c]) ∧ Below w.heap.size w w'
def spe3 (F : FuncId) (a b m n c : Int) : Prop := ∀ w, Calls Tryd.prog F #[.int .i64 a, .int .i64 b, .int .i64 m] w fun e w' => e = .returned (.agg #[.int .i64 n, .int .i64 0, .int .i64 c]) ∧ Below w.heap.size w w'
structure KnownA (a b x xc y yc z zc : Int) : Prop where
  ip : imp2 9 a b x xc
  im : imp2 10 a b y yc
  it : imp2 11 a b z zc
  sp : spe2 14 a b x xc
  sm : spe2 15 a b y yc
  st : spe2 16 a b z zc
  back : xc = 0 → imp2 10 x b a 0
structure KnownB (c d mode p pc dn dc un uc nn nc : Int) : Prop where
  ip : imp3 13 c d mode p pc
  sp : spe3 17 c d mode p pc
  i0 : imp3 13 c d 0 dn dc
  i1 : imp3 13 c d 1 un uc
  i2 : imp3 13 c d 2 nn nc
  bad : dc ≠ 0 → dn = 0
  ok : dc = 0 → uc = 0 ∧ nc = 0 ∧ ∃ m, wrap64 (dn * d) = m ∧ m ≤ c ∧ wrap64 (c - m) = c - m ∧ c - m < d ∧ wrap64 (un - dn) = un - dn ∧ un - dn ≤ 1 ∧ dn ≤ un ∧ (nn = dn ∨ nn = un) ∧ ((m = c ∧ un = dn) ∨ (m ≠ c ∧ un ≠ dn))
theorem knownA (a b : Int) : ∃ x xc y yc z zc, KnownA a b x xc y yc z zc := by
  by_cases h : ¬ In a ∨ ¬ In b
  · exact ⟨0, 1, 0, 1, 0, 1, ⟨fun w _ => FixR.impl_plus_bad a b h w, fun w _ => FixR.impl_minus_bad a b h w, fun w _ => FixR.impl_times_bad a b h w, fun w => FixR.spec_plus_bad a b h w, fun w => FixR.spec_minus_bad a b h w, fun w => FixR.spec_times_bad a b h w, fun h => by cases h⟩⟩
  · have ha : In a := Classical.not_not.1 fun x => h (.inl x)
    have hb : In b := Classical.not_not.1 fun x => h (.inr x)
    obtain ⟨y, yc, i2, s2⟩ : ∃ y yc, imp2 10 a b y yc ∧ spe2 15 a b y yc := by
      by_cases hv : In (a - b)
      · exact ⟨_, 0, fun w hL => FixR.impl_minus_ok a b ha hb hv w hL, fun w => FixR.spec_minus_ok a b ha hb hv w⟩
      · exact ⟨0, 12, fun w hL => FixR.impl_minus_over a b ha hb hv w hL, fun w => FixR.spec_minus_over a b ha hb hv w⟩
    obtain ⟨z, zc, i3, s3⟩ : ∃ z zc, imp2 11 a b z zc ∧ spe2 16 a b z zc := by
      by_cases hv : In (a * b)
      · exact ⟨_, 0, fun w hL => FixR.impl_times_ok a b ha hb hv w hL, fun w => FixR.spec_times_ok a b ha hb hv w⟩
      · exact ⟨0, 12, fun w hL => FixR.impl_times_over a b ha hb hv w hL, fun w => FixR.spec_times_over a b ha hb hv w⟩
    by_cases hv : In (a + b)
    · refine ⟨_, 0, y, yc, z, zc, ⟨fun w hL => FixR.impl_plus_ok a b ha hb hv w hL, i2, i3, fun w => FixR.spec_plus_ok a b ha hb hv w, s2, s3, fun _ w hL => ?_⟩⟩
      have := FixR.impl_minus_ok (a + b) b hv hb (by rw [Int.add_sub_cancel]; exact ha) w hL
      rw [Int.add_sub_cancel] at this
      exact this
    · exact ⟨0, 12, y, yc, z, zc, ⟨fun w hL => FixR.impl_plus_over a b ha hb hv w hL, i2, i3, fun w => FixR.spec_plus_over a b ha hb hv w, s2, s3, fun h => by cases h⟩⟩
theorem parts_facts (c d : Int) (hc : In c) (hd : 1 ≤ d ∧ d ≤ 1000000000000000) :
    ∃ m, wrap64 ((c / d + FixR.up (c % d) d 0) * d) = m ∧ m ≤ c ∧ wrap64 (c - m) = c - m ∧ c - m < d ∧ wrap64 (c / d + FixR.up (c % d) d 1 - (c / d + FixR.up (c % d) d 0)) = c / d + FixR.up (c % d) d 1 - (c / d + FixR.up (c % d) d 0) ∧ c / d + FixR.up (c % d) d 1 - (c / d + FixR.up (c % d) d 0) ≤ 1 ∧ c / d + FixR.up (c % d) d 0 ≤ c / d + FixR.up (c % d) d 1 ∧ (c / d + FixR.up (c % d) d 2 = c / d + FixR.up (c % d) d 0 ∨ c / d + FixR.up (c % d) d 2 = c / d + FixR.up (c % d) d 1) ∧ ((m = c ∧ c / d + FixR.up (c % d) d 1 = c / d + FixR.up (c % d) d 0) ∨ (m ≠ c ∧ c / d + FixR.up (c % d) d 1 ≠ c / d + FixR.up (c % d) d 0)) := by
  obtain ⟨f1, f2, f3, f4, f5, f6⟩ := FixR.div_facts c d hc hd
  have e := Int.mul_ediv_add_emod c d
  have u0 : FixR.up (c % d) d 0 = 0 := by unfold FixR.up; rw [if_neg (by omega)]
  have u1 : FixR.up (c % d) d 1 = if 0 < c % d then 1 else 0 := by unfold FixR.up; simp
  have u2 : FixR.up (c % d) d 2 = if d ≤ 2 * (c % d) then 1 else 0 := by unfold FixR.up; simp
  rw [u0, u1, u2, Int.add_zero, Int.mul_comm]
  obtain ⟨hc1, hc2⟩ := hc
  generalize d * (c / d) = M at *
  generalize c / d = Q at *
  generalize c % d = R at *
  refine ⟨M, by unfold wrap64; omega, by omega, by unfold wrap64; omega, by omega, ?_, ?_, ?_, ?_, ?_⟩
  · split <;> (unfold wrap64; omega)
  · split <;> omega
  · split <;> omega
  · split <;> split <;> omega
  · split <;> omega
theorem knownB (c d mode : Int) : ∃ p pc dn dc un uc nn nc, KnownB c d mode p pc dn dc un uc nn nc := by
  obtain ⟨p, pc, hp1, hp2⟩ : ∃ p pc, imp3 13 c d mode p pc ∧ spe3 17 c d mode p pc := by
    by_cases h : FixR.partsBad c d mode
    · exact ⟨0, 1, fun w _ => FixR.impl_parts_bad c d mode h w, fun w => FixR.spec_parts_bad c d mode h w⟩
    · unfold FixR.partsBad at h
      have ha : In c := Classical.not_not.1 fun x => h (.inl x)
      have hb : 1 ≤ d ∧ d ≤ 1000000000000000 := by omega
      have hm : 0 ≤ mode ∧ mode ≤ 2 := by omega
      exact ⟨_, 0, fun w hL => FixR.impl_parts_ok c d mode ha hb hm (FixR.parts_within c d mode ha hb) w hL, fun w => FixR.spec_parts_in c d mode ha hb hm w⟩
  by_cases h : In c ∧ 1 ≤ d ∧ d ≤ 1000000000000000
  · obtain ⟨ha, hb⟩ := h
    exact ⟨p, pc, _, 0, _, 0, _, 0, ⟨hp1, hp2, fun w hL => FixR.impl_parts_ok c d 0 ha hb (by omega) (FixR.parts_within c d 0 ha hb) w hL, fun w hL => FixR.impl_parts_ok c d 1 ha hb (by omega) (FixR.parts_within c d 1 ha hb) w hL, fun w hL => FixR.impl_parts_ok c d 2 ha hb (by omega) (FixR.parts_within c d 2 ha hb) w hL, fun h => absurd rfl h, fun _ => ⟨rfl, rfl, parts_facts c d ha hb⟩⟩⟩
  · have hbad : ∀ m, FixR.partsBad c d m := fun m => by
      unfold FixR.partsBad
      by_cases hc : In c
      · have : ¬ (1 ≤ d ∧ d ≤ 1000000000000000) := fun x => h ⟨hc, x⟩
        omega
      · exact .inl hc
    exact ⟨p, pc, 0, 1, 0, 1, 0, 1, ⟨hp1, hp2, fun w _ => FixR.impl_parts_bad c d 0 (hbad 0) w, fun w _ => FixR.impl_parts_bad c d 1 (hbad 1) w, fun w _ => FixR.impl_parts_bad c d 2 (hbad 2) w, fun _ => rfl, fun h => by cases h⟩⟩
/-- What is held through the region: the four answers' own cells. -/
def Held (W : World) (X P : Nat) (x xc y yc z zc p pc : Int) (w' : World) : Prop := Below W.heap.size W w' ∧ w'.cell? ⟨X, 0, none⟩ = some (.int .i64 x) ∧ w'.cell? ⟨X, 1, none⟩ = some (.int .i64 0) ∧ w'.cell? ⟨X, 2, none⟩ = some (.int .i64 xc) ∧ w'.cell? ⟨X + 1, 0, none⟩ = some (.int .i64 y) ∧ w'.cell? ⟨X + 1, 1, none⟩ = some (.int .i64 0) ∧ w'.cell? ⟨X + 1, 2, none⟩ = some (.int .i64 yc) ∧ w'.cell? ⟨X + 1 + 1, 0, none⟩ = some (.int .i64 z) ∧ w'.cell? ⟨X + 1 + 1, 1, none⟩ = some (.int .i64 0) ∧ w'.cell? ⟨X + 1 + 1, 2, none⟩ = some (.int .i64 zc) ∧ w'.cell? ⟨P, 0, none⟩ = some (.int .i64 p) ∧ w'.cell? ⟨P, 1, none⟩ = some (.int .i64 0) ∧ w'.cell? ⟨P, 2, none⟩ = some (.int .i64 pc)
theorem Held.below {W w1 w2 : World} {X P : Nat} {x xc y yc z zc p pc : Int} (hX : X + 1 + 1 < W.heap.size) (hP : P < W.heap.size) (h : Held W X P x xc y yc z zc p pc w1) (hb : Below w1.heap.size w1 w2) : Held W X P x xc y yc z zc p pc w2 := by
  obtain ⟨h0, a0, a1, a2, b0, b1, b2, c0, c1, c2, d0, d1, d2⟩ := h
  have hs := h0.size
  refine ⟨h0.trans (hb.mono hs), ?_, ?_, ?_, ?_, ?_, ?_, ?_, ?_, ?_, ?_, ?_, ?_⟩
  all_goals (rw [hb.cell (by simp only; omega)]; assumption)
set_option maxRecDepth 100000 in
set_option maxHeartbeats 8000000 in
theorem law_in (ac am : Option Addr) (lc cc lm cm : Nat) (w : World) (hL : Laid w) (hc : lc ≤ 1048576) (hm : lm ≤ 1048576) (hBc : Bytes ac lc w) (hBm : Bytes am lm w) :
    Calls Tryd.prog 3 #[.slice ac lc cc, .slice am lm cm] w fun e w' => e = .returned (.bool true) ∧ Below w.heap.size w w' := by
  have HL := hid_intro hL
  have HM := hid_intro hBm
  have H1 := hid_intro (dplus_any ac lc cc w hc hBc)
  have HLM := hid_intro hm
  have hc2 : ¬ (1048576 : Int) < (lc : Int) := by omega
  have hm2 : ¬ (1048576 : Int) < (lm : Int) := by omega
  clear hBc hBm hc hm hL
  go_enter Tryd.func3, Tryd.ntmps3
  go_wp2_with fail
  refine H1.out.mono ?_
  rintro e w1 ⟨⟨a, b, rfl, _, _⟩, hb1⟩
  have HB1 := hid_intro hb1
  obtain ⟨x, xc, y, yc, z, zc, hA⟩ := knownA a b
  have HA := hid_intro hA
  clear hb1 H1 hA
  go_wp2_with fail
  refine (HA.out.ip _ (HL.out.below HB1.out)).mono ?_
  rintro e w2 ⟨rfl, hb2⟩
  have HB2 := hid_intro (HB1.out.trans (hb2.mono HB1.out.size))
  clear hb2 HB1
  go_wp2_with fail
  refine (HA.out.im _ (HL.out.below HB2.out)).mono ?_
  rintro e w3 ⟨rfl, hb3⟩
  have HB3 := hid_intro (HB2.out.trans (hb3.mono HB2.out.size))
  clear hb3 HB2
  go_wp2_with fail
  refine (HA.out.it _ (HL.out.below HB3.out)).mono ?_
  rintro e w4 ⟨rfl, hb4⟩
  have HB4 := hid_intro (HB3.out.trans (hb4.mono HB3.out.size))
  clear hb4 HB3
  go_wp2_with fail
  obtain ⟨W, hW⟩ : ∃ W, W = ((w4.alloc (Obj.cells #[.int .i64 x, .int .i64 0, .int .i64 xc] 26)).alloc (Obj.cells #[.int .i64 y, .int .i64 0, .int .i64 yc] 26)).alloc (Obj.cells #[.int .i64 z, .int .i64 0, .int .i64 zc] 26) := ⟨_, rfl⟩
  rw [← hW]
  have hWb : Below w4.heap.size w4 W := by rw [hW]; exact (((Below.refl _ _).alloc (by simp) _).alloc (by simp) _).alloc (by simp; try omega) _
  have HBW := hid_intro (HB4.out.trans (hWb.mono HB4.out.size))
  refine (dparts_any am lm cm _ HLM.out (HM.out.below HBW.out)).mono ?_
  rintro e w5 ⟨⟨c, d, mode, rfl, _, _, _⟩, hb5⟩
  obtain ⟨p, pc, dn, dc, un, uc, nn, nc, hK⟩ := knownB c d mode
  have HK := hid_intro hK
  have HB5 := hid_intro (HBW.out.trans (hb5.mono HBW.out.size))
  clear hK
  go_wp2_with fail
  refine (HK.out.ip _ (HL.out.below HB5.out)).mono ?_
  rintro e w6 ⟨rfl, hb6⟩
  have h56 := hb5.trans (hb6.mono hb5.size)
  have hsW : W.heap.size = w4.heap.size + 1 + 1 + 1 := by rw [hW]; simp
  have g00 : w6.cell? ⟨w4.heap.size, 0, none⟩ = some (.int .i64 x) := (h56.cell (p := ⟨w4.heap.size, 0, none⟩) (by simp only; omega)).trans (by rw [hW]; simp [go_sem])
  have g01 : w6.cell? ⟨w4.heap.size, 1, none⟩ = some (.int .i64 0) := (h56.cell (p := ⟨w4.heap.size, 1, none⟩) (by simp only; omega)).trans (by rw [hW]; simp [go_sem])
  have g02 : w6.cell? ⟨w4.heap.size, 2, none⟩ = some (.int .i64 xc) := (h56.cell (p := ⟨w4.heap.size, 2, none⟩) (by simp only; omega)).trans (by rw [hW]; simp [go_sem])
  have g10 : w6.cell? ⟨w4.heap.size + 1, 0, none⟩ = some (.int .i64 y) := (h56.cell (p := ⟨w4.heap.size + 1, 0, none⟩) (by simp only; omega)).trans (by rw [hW]; simp [go_sem])
  have g11 : w6.cell? ⟨w4.heap.size + 1, 1, none⟩ = some (.int .i64 0) := (h56.cell (p := ⟨w4.heap.size + 1, 1, none⟩) (by simp only; omega)).trans (by rw [hW]; simp [go_sem])
  have g12 : w6.cell? ⟨w4.heap.size + 1, 2, none⟩ = some (.int .i64 yc) := (h56.cell (p := ⟨w4.heap.size + 1, 2, none⟩) (by simp only; omega)).trans (by rw [hW]; simp [go_sem])
  have g20 : w6.cell? ⟨w4.heap.size + 1 + 1, 0, none⟩ = some (.int .i64 z) := (h56.cell (p := ⟨w4.heap.size + 1 + 1, 0, none⟩) (by simp only; omega)).trans (by rw [hW]; simp [go_sem])
  have g21 : w6.cell? ⟨w4.heap.size + 1 + 1, 1, none⟩ = some (.int .i64 0) := (h56.cell (p := ⟨w4.heap.size + 1 + 1, 1, none⟩) (by simp only; omega)).trans (by rw [hW]; simp [go_sem])
  have g22 : w6.cell? ⟨w4.heap.size + 1 + 1, 2, none⟩ = some (.int .i64 zc) := (h56.cell (p := ⟨w4.heap.size + 1 + 1, 2, none⟩) (by simp only; omega)).trans (by rw [hW]; simp [go_sem])
  have hs6 : w4.heap.size + 1 + 1 < w6.heap.size := by have := h56.size; omega
  have HB6 := hid_intro (HB5.out.trans (hb6.mono HB5.out.size))
  clear hb5 hb6 h56 hsW hWb hW HBW HB5 HB4 HM HLM
  go_wp2_with fail
  obtain ⟨W6, hW6⟩ : ∃ W6, W6 = w6.alloc (Obj.cells #[.int .i64 p, .int .i64 0, .int .i64 pc] 26) := ⟨_, rfl⟩
  rw [← hW6]
  have hs7 : W6.heap.size = w6.heap.size + 1 := by rw [hW6]; simp
  have hb7 : Below w6.heap.size w6 W6 := by rw [hW6]; exact (Below.refl _ _).alloc (Nat.le_refl _) _
  have q00 := (hb7.cell (p := ⟨w4.heap.size, 0, none⟩) (by simp only; omega)).trans g00
  have q01 := (hb7.cell (p := ⟨w4.heap.size, 1, none⟩) (by simp only; omega)).trans g01
  have q02 := (hb7.cell (p := ⟨w4.heap.size, 2, none⟩) (by simp only; omega)).trans g02
  have q10 := (hb7.cell (p := ⟨w4.heap.size + 1, 0, none⟩) (by simp only; omega)).trans g10
  have q11 := (hb7.cell (p := ⟨w4.heap.size + 1, 1, none⟩) (by simp only; omega)).trans g11
  have q12 := (hb7.cell (p := ⟨w4.heap.size + 1, 2, none⟩) (by simp only; omega)).trans g12
  have q20 := (hb7.cell (p := ⟨w4.heap.size + 1 + 1, 0, none⟩) (by simp only; omega)).trans g20
  have q21 := (hb7.cell (p := ⟨w4.heap.size + 1 + 1, 1, none⟩) (by simp only; omega)).trans g21
  have q22 := (hb7.cell (p := ⟨w4.heap.size + 1 + 1, 2, none⟩) (by simp only; omega)).trans g22
  have q30 : W6.cell? ⟨w6.heap.size, 0, none⟩ = some (.int .i64 p) := by rw [hW6]; simp [go_sem]
  have q31 : W6.cell? ⟨w6.heap.size, 1, none⟩ = some (.int .i64 0) := by rw [hW6]; simp [go_sem]
  have q32 : W6.cell? ⟨w6.heap.size, 2, none⟩ = some (.int .i64 pc) := by rw [hW6]; simp [go_sem]
  have HB7 := hid_intro (HB6.out.trans (hb7.mono HB6.out.size))
  have HS0 : Hid (Held W6 w4.heap.size w6.heap.size x xc y yc z zc p pc W6.drew) := hid_intro ⟨(Below.refl _ _).drew, q00, q01, q02, q10, q11, q12, q20, q21, q22, q30, q31, q32⟩
  have hX1 : w4.heap.size + 1 + 1 < W6.heap.size := by omega
  have hP1 : w6.heap.size < W6.heap.size := by omega
  clear g00 g01 g02 g10 g11 g12 g20 g21 g22 hW6 hb7
  go_region_held3 (fun w' => Below W6.heap.size W6 w' ∧ w'.cell? ⟨w4.heap.size, 0, none⟩ = some (.int .i64 x) ∧ w'.cell? ⟨w4.heap.size, 1, none⟩ = some (.int .i64 0) ∧ w'.cell? ⟨w4.heap.size, 2, none⟩ = some (.int .i64 xc) ∧ w'.cell? ⟨w4.heap.size + 1, 0, none⟩ = some (.int .i64 y) ∧ w'.cell? ⟨w4.heap.size + 1, 1, none⟩ = some (.int .i64 0) ∧ w'.cell? ⟨w4.heap.size + 1, 2, none⟩ = some (.int .i64 yc) ∧ w'.cell? ⟨w4.heap.size + 1 + 1, 0, none⟩ = some (.int .i64 z) ∧ w'.cell? ⟨w4.heap.size + 1 + 1, 1, none⟩ = some (.int .i64 0) ∧ w'.cell? ⟨w4.heap.size + 1 + 1, 2, none⟩ = some (.int .i64 zc) ∧ w'.cell? ⟨w6.heap.size, 0, none⟩ = some (.int .i64 p) ∧ w'.cell? ⟨w6.heap.size, 1, none⟩ = some (.int .i64 0) ∧ w'.cell? ⟨w6.heap.size, 2, none⟩ = some (.int .i64 pc)) (first | assumption | (exact HS0.out) | (exact Held.below hX1 hP1 (by assumption) hb))
      (first | (go_at_call 14; refine (HA.out.sp _).mono ?_; rintro e w' ⟨rfl, hb⟩) | (go_at_call 15; refine (HA.out.sm _).mono ?_; rintro e w' ⟨rfl, hb⟩) | (go_at_call 16; refine (HA.out.st _).mono ?_; rintro e w' ⟨rfl, hb⟩) | (go_at_call 17; refine (HK.out.sp _).mono ?_; rintro e w' ⟨rfl, hb⟩))
  rename_i hS
  have HS := hid_intro hS
  obtain ⟨hSb, t00, t01, t02, -⟩ := hS
  have HB8 := hid_intro (HB7.out.trans (hSb.mono HB7.out.size))
  clear hSb q00 q01 q02 q10 q11 q12 q20 q21 q22 q30 q31 q32 HS0
  have key : (xc = 0 ∧ Hid (imp2 10 x b a 0)) ∨ ¬ xc = 0 := by
    by_cases hx : xc = 0
    · exact .inl ⟨hx, hid_intro (HA.out.back hx)⟩
    · exact .inr hx
  have HK0 := hid_intro HK.out.i0
  have HK1 := hid_intro HK.out.i1
  have HK2 := hid_intro HK.out.i2
  have HBAD := hid_intro HK.out.bad
  have HOK := hid_intro HK.out.ok
  clear HA HK HB7 HB6 HS
  rcases key with ⟨rfl, HM⟩ | hx
  · go_wp2_with fail
    refine (HM.out _ (HL.out.below HB8.out)).mono ?_
    rintro e w9 ⟨rfl, hb9⟩
    have HB9 := hid_intro (HB8.out.trans (hb9.mono HB8.out.size))
    clear hb9 HB8
    go_wp2_with fail
    refine (HK0.out _ (HL.out.below HB9.out)).mono ?_
    rintro e v1 ⟨rfl, hv1⟩
    have HV1 := hid_intro (HB9.out.trans (hv1.mono HB9.out.size))
    clear hv1
    go_wp2_with fail
    refine (HK1.out _ (HL.out.below HV1.out)).mono ?_
    rintro e v2 ⟨rfl, hv2⟩
    have HV2 := hid_intro (HV1.out.trans (hv2.mono HV1.out.size))
    clear hv2 HV1
    go_wp2_with fail
    refine (HK2.out _ (HL.out.below HV2.out)).mono ?_
    rintro e v3 ⟨rfl, hv3⟩
    have HV3 := hid_intro (HV2.out.trans (hv3.mono HV2.out.size))
    clear hv3 HV2
    by_cases hd : dc = 0
    · obtain ⟨e1, e2, m, f1, f2, f3, f4, f5, f6, f7, f8, f9⟩ := HOK.out hd
      subst hd e1 e2
      clear HOK HBAD HK0 HK1 HK2
      rcases f9 with ⟨rfl, rfl⟩ | ⟨f9, f10⟩
      · obtain rfl : nn = un := by omega
        clear f8
        go_wp2_with fail
        go_ret
        refine ⟨rfl, ?_⟩
        repeat' first | exact HV3.out | apply Below.alloc
        all_goals (have := HV3.out.size; simp; omega)
      · have f11 : (m == c) = false := by simpa using f9
        have f12 : (un == dn) = false := by simpa using f10
        have f13 : ¬ dn = un := fun h => f10 h.symm
        rcases f8 with rfl | rfl
        · go_wp2_with fail
          go_ret
          refine ⟨rfl, ?_⟩
          repeat' first | exact HV3.out | apply Below.alloc
          all_goals (have := HV3.out.size; simp; omega)
        · go_wp2_with fail
          go_ret
          refine ⟨rfl, ?_⟩
          repeat' first | exact HV3.out | apply Below.alloc
          all_goals (have := HV3.out.size; simp; omega)
    · have hdn := HBAD.out hd
      subst hdn
      have hd2 : (dc == 0) = false := by simpa using hd
      clear HOK HBAD HK0 HK1 HK2
      go_wp2_with fail
      go_ret
      refine ⟨rfl, ?_⟩
      repeat' first | exact HV3.out | apply Below.alloc
      all_goals (have := HV3.out.size; simp; omega)
  · have hx2 : (xc == 0) = false := by simpa using hx
    go_wp2_with fail
    refine (HK0.out _ (HL.out.below HB8.out)).mono ?_
    rintro e v1 ⟨rfl, hv1⟩
    have HV1 := hid_intro (HB8.out.trans (hv1.mono HB8.out.size))
    clear hv1
    go_wp2_with fail
    refine (HK1.out _ (HL.out.below HV1.out)).mono ?_
    rintro e v2 ⟨rfl, hv2⟩
    have HV2 := hid_intro (HV1.out.trans (hv2.mono HV1.out.size))
    clear hv2 HV1
    go_wp2_with fail
    refine (HK2.out _ (HL.out.below HV2.out)).mono ?_
    rintro e v3 ⟨rfl, hv3⟩
    have HV3 := hid_intro (HV2.out.trans (hv3.mono HV2.out.size))
    clear hv3 HV2
    by_cases hd : dc = 0
    · obtain ⟨e1, e2, m, f1, f2, f3, f4, f5, f6, f7, f8, f9⟩ := HOK.out hd
      subst hd e1 e2
      clear HOK HBAD HK0 HK1 HK2
      rcases f9 with ⟨rfl, rfl⟩ | ⟨f9, f10⟩
      · obtain rfl : nn = un := by omega
        clear f8
        go_wp2_with fail
        go_ret
        refine ⟨rfl, ?_⟩
        repeat' first | exact HV3.out | apply Below.alloc
        all_goals (have := HV3.out.size; simp; omega)
      · have f11 : (m == c) = false := by simpa using f9
        have f12 : (un == dn) = false := by simpa using f10
        have f13 : ¬ dn = un := fun h => f10 h.symm
        rcases f8 with rfl | rfl
        · go_wp2_with fail
          go_ret
          refine ⟨rfl, ?_⟩
          repeat' first | exact HV3.out | apply Below.alloc
          all_goals (have := HV3.out.size; simp; omega)
        · go_wp2_with fail
          go_ret
          refine ⟨rfl, ?_⟩
          repeat' first | exact HV3.out | apply Below.alloc
          all_goals (have := HV3.out.size; simp; omega)
    · have hdn := HBAD.out hd
      subst hdn
      have hd2 : (dc == 0) = false := by simpa using hd
      clear HOK HBAD HK0 HK1 HK2
      go_wp2_with fail
      go_ret
      refine ⟨rfl, ?_⟩
      repeat' first | exact HV3.out | apply Below.alloc
      all_goals (have := HV3.out.size; simp; omega)
theorem walk (a0 : Option Addr) (len0 cap0 : Nat) (z0 : List Int) (a1 : Option Addr) (len1 cap1 : Nat) (z1 : List Int) (w : World) (w0 : IsRow .u8 w a0 len0 cap0 z0) (w1 : IsRow .u8 w a1 len1 cap1 z1) (hL : Laid w) :
    Calls Tryd.prog 3 #[.slice a0 len0 cap0, .slice a1 len1 cap1] w fun e w' => e = .returned (.bool true) ∧ Below w.heap.size w w' := by
  have l0 := w0.len
  have l1 := w1.len
  unfold maxLen at l0 l1
  by_cases h0 : len0 ≤ 1048576
  · by_cases h1 : len1 ≤ 1048576
    · exact law_in a0 a1 len0 cap0 len1 cap1 w hL h0 h1 w0.bytes w1.bytes
    · have q0 : ¬ (1048576 : Int) < (len0 : Int) := by omega
      have q1 : (1048576 : Int) < (len1 : Int) := by omega
      clear w0 w1 hL
      go_enter Tryd.func3, Tryd.ntmps3
      go_wp2
      go_ret
      exact ⟨rfl, Below.refl _ _⟩
  · have q0 : (1048576 : Int) < (len0 : Int) := by omega
    clear w0 w1 hL
    go_enter Tryd.func3, Tryd.ntmps3
    go_wp2
    go_ret
    exact ⟨rfl, Below.refl _ _⟩
set_option maxRecDepth 100000 in
theorem lifted (os : Os) (started : os.Started) (H : Type) (enc : TypeId × Value → H) :
    ReturnsInHanded {} Tryd.checked os 3 .any (fun w args => (Rows.fnFixSpec.pre enc Tryd.prog Tryd.f3 [] false w args ∧ laidMetH Tryd.prog Snt.laid w) ∧ sizedMet enc Tryd.prog Tryd.f3 (OpenSpec.ofChange Rows.fnFixSpec) false w args)
      (Rows.fnFixSpec.post enc Tryd.prog Tryd.f3 false true false false) := by
  refine returnsInHanded_of_change_and (C := Tryd.checked) (X := fun w _ => laidMetH Tryd.prog Snt.laid w) (fun _ _ _ hh h => h.of_heap hh) Snt.own started (by kernel_rfl) Tryd.func3
    (ChangeSpec.witness_shaped (enc := enc) (C := Tryd.checked) (os := os) (X := fun w _ => laidMetH Tryd.prog Snt.laid w) false (World.doorLaid Tryd.prog 400 os) #[.slice none 0 0, .slice none 0 0] 8 rfl (World.shaped_of_RefB (by kernel_rfl) (by kernel_rfl)) (by kernel_rfl) (by kernel_rfl) (by kernel_rfl) (Snt.door_met os _)) ?_
  intro W base args ds gs before hval0 hW _ _ hL _
  have hval : ∀ (j : Nat) t v, Tryd.f3.params[j]? = some t → args[j]? = some v → Value.okWide Tryd.prog W .any base t v := hval0
  have hW' := hW
  obtain ⟨p, q, hA0, hV0, rfl, hfz, hnd⟩ := hW
  have hA : DataW.TrodAll enc Tryd.prog W 0 (fun _ => true) true Tryd.f3.params.toList args.toList ds p := hA0
  have hV : DataW.TrodVars enc Tryd.prog W (fun _ => true) ["loop.example/g00562/impl.errRunsOver"] gs q := hV0
  rw [Tryd.params3] at hA hval
  obtain ⟨v0, v1, d0, d1, p0, p1, rfl, rfl, rfl, h0, h1⟩ := trodAll_two hA
  have k0 := h0
  have lt0 : ∀ x ∈ p0, x.block < W.heap.size := fun x hx => hW'.lt x (by simp [hx])
  obtain ⟨a0, len0, cap0, rfl⟩ := okWide_slice Tryd.underlying22 (hval 0 22 v0 rfl rfl)
  obtain ⟨z0, w0⟩ : ∃ zs, IsRow .u8 W a0 len0 cap0 zs := by
    obtain ⟨fuel, hf⟩ := h0
    rcases open_ints Tryd.underlying22 Tryd.underlying5 (by kernel_rfl) hf with ⟨hcs, _⟩ | ⟨x, l, c, zs, hcs, _, hl, hm, hz, _, hcell, hwz⟩
    · simp [Value.cells] at hcs
      obtain ⟨rfl, rfl, rfl⟩ := hcs
      exact ⟨[], .inl ⟨rfl, rfl, rfl, rfl⟩⟩
    · simp [Value.cells] at hcs
      obtain ⟨rfl, rfl, rfl⟩ := hcs
      exact ⟨zs, .inr ⟨_, rfl, hl, hm, by simpa using hz, hcell, hwz⟩⟩
  have k1 := h1
  have lt1 : ∀ x ∈ p1, x.block < W.heap.size := fun x hx => hW'.lt x (by simp [hx])
  obtain ⟨a1, len1, cap1, rfl⟩ := okWide_slice Tryd.underlying22 (hval 1 22 v1 rfl rfl)
  obtain ⟨z1, w1⟩ : ∃ zs, IsRow .u8 W a1 len1 cap1 zs := by
    obtain ⟨fuel, hf⟩ := h1
    rcases open_ints Tryd.underlying22 Tryd.underlying5 (by kernel_rfl) hf with ⟨hcs, _⟩ | ⟨x, l, c, zs, hcs, _, hl, hm, hz, _, hcell, hwz⟩
    · simp [Value.cells] at hcs
      obtain ⟨rfl, rfl, rfl⟩ := hcs
      exact ⟨[], .inl ⟨rfl, rfl, rfl, rfl⟩⟩
    · simp [Value.cells] at hcs
      obtain ⟨rfl, rfl, rfl⟩ := hcs
      exact ⟨zs, .inr ⟨_, rfl, hl, hm, by simpa using hz, hcell, hwz⟩⟩
  obtain ⟨av, hv⟩ := Snt.of_laid hL
  have hl := Snt.laid_of hv
  obtain ⟨rfl, rfl⟩ := hV.unique (vars_read1 enc Snt.gv Snt.gt Tryd.underlying83 hv trivial _)
  refine (walk a0 len0 cap0 z0 a1 len1 cap1 z1 W w0 w1 hl).mono fun e W' ⟨he, bel⟩ => ?_
  subst he
  exact ⟨_, rfl, _, _, _, _, _, _, hW', trodAll_mk1 (shut_bool Tryd.underlying4 true), trodAll_mk2 (Below.trod Snt.laidOut (by kernel_rfl) (of_decide_eq_true (by kernel_rfl)) k0 bel lt0) (Below.trod Snt.laidOut (by kernel_rfl) (of_decide_eq_true (by kernel_rfl)) k1 bel lt1), vars_read1 enc Snt.gv Snt.gt Tryd.underlying83 (Snt.var_below hl hv bel) trivial _, bel.frame _, fun h => by cases h⟩
theorem row_holds : Rows.FnFixSaid :=
  OpenClaim.holds_of_wide 3 Tryd.f3 rfl rfl rfl rfl rfl rfl rfl ⟨rfl, rfl, rfl, rfl, rfl⟩ rfl rfl rfl rfl rfl (by kernel_rfl) Tryd.func3 (by kernel_rfl)
    (of_decide_eq_true (by kernel_rfl)) (by unfold Func.isWrapper; rw [if_neg (of_decide_eq_false (by kernel_rfl))]; exact ⟨rfl, rfl⟩)
    (fun os started H enc _ => lifted os started H enc)
theorem card_holds : Rows.FnFixCardSaid :=
  Claim7.holds_tied_plain_at .later [] [.sentinel] true Rows.fnFixCard.stood.harness true
    row_holds (fun _ h => by cases h) (by kernel_rfl) (fun _ h => by cases h) fnFix_row_tie rfl ⟨rfl, rfl⟩ (by kernel_rfl) rfl
    (fun f fn hf hfn => by
      obtain rfl : f = 3 := Option.some.inj ((show Tryd.prog.funcNamed "loop.example/g00562/laws.FnFix" = some 3 by kernel_rfl).symm.trans hf) |>.symm
      obtain rfl : fn = Tryd.f3 := (Option.some.inj (Tryd.func3.symm.trans hfn)).symm
      exact ⟨by kernel_rfl, fun j t ht => by
        rw [Tryd.params3] at ht
        have hm : t ∈ [22, 22] := by simpa using Array.mem_of_getElem? ht
        have hall : ([22, 22].all fun u => !Tryd.prog.wantsStandIn u) = true := by kernel_rfl
        exact (show Tryd.prog.wantsStandIn t = false by simpa using List.all_eq_true.1 hall t hm)⟩)
    (by kernel_rfl)
end FnFixL
/-- THE STATEMENT: THE CARD -/
theorem fnFix_holds : Rows.FnFixCardSaid := FnFixL.card_holds
#print axioms fnFix_holds
end Go.Proofs.YtaihfidbpkbnkaaDoor
