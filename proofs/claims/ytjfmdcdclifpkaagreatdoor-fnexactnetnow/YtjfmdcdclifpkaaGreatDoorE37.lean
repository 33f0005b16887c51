/-
  An engine of one's own is marked, however far: nothing beside its own blocks is written. The conditions: sizes of at most 1048576.
-/
import Derived.Test.YtjfmdcdclifpkaaGreatDoorE36
namespace Go.Proofs.YtjfmdcdclifpkaaGreatDoor
open Go.ChangeShapes Go.WideShapes Go.ChangeAt Go.RowKit
set_option linter.unusedVariables false
namespace EngR
open CatR ChG
open RowG (grown_set)
open EvtR (Pt cell_far)
/-- What could be written still can. -/
def KP (w w' : World) : Prop := ∀ p n, Pt p n w → Pt p n w'
theorem KP.refl (w : World) : KP w w := fun _ _ h => h
theorem KP.below {w w1 w2 : World} (h : KP w w1) (hb : Below w1.heap.size w1 w2) : KP w w2 := fun p n q => (h p n q).below hb
theorem KP.put {w w1 : World} (h : KP w w1) (g o : Nat) (v : Value) : KP w (w1.setCell ⟨g, o, none⟩ v) := fun p n q => WinR.ptA (h p n q)
theorem KP.trans {w w1 w2 : World} (h : KP w w1) (h2 : KP w1 w2) : KP w w2 := fun p n q => h2 p n (h p n q)
set_option maxRecDepth 100000 in
set_option maxHeartbeats 4000000 in
theorem zStr (g : Nat) (ao : Option Addr) (n cap K0 : Nat) (w : World) (hn : n ≤ 1048576) (h1 : 1 ≤ K0) (hK : K0 ≤ 800000000000000000) (hao : n = 0 ∨ (ao = some ⟨g, 0, none⟩ ∧ Pt g (n * 1) w)) :
    Calls Tryz.prog 94 #[.slice ao n cap, .int .i64 K0] w fun e w' => e = .returned (.int .i64 (K0 + n : Nat)) ∧ Chg (fun b => b = g ∧ 0 < n) w w' ∧ KP w w' := by
  have HAO := hid_intro hao
  have HT : Hid (∀ (z : Int) (K : Nat), z = K → 1 ≤ K → K ≤ 900000000000000000 → ∀ w, Calls Tryz.prog 44 #[.int .i64 z] w fun e w' => (∃ T, e = .returned (.string T)) ∧ Below w.heap.size w w') := hid_intro (fun z K e h0 h w => by subst e; exact mark_some K h0 (by omega) w)
  clear hao
  go_enter Tryz.func94, Tryz.ntmps94
  go_wp2_with fail
  go_loopw [5, 1] (fun x z wr => ∃ i : Nat, x = .int .i64 (i : Int) ∧ z = .int .i64 ((K0 : Int) + (i : Int)) ∧ i ≤ n ∧ Hid (Chg (fun b => b = g ∧ 0 < n) w wr) ∧ Hid (KP w wr)) (fun x _ _ => n - (intOf x).toNat)
  case atStart => exact ⟨0, rfl, by simp, by omega, hid_intro (Chg.refl _ _), hid_intro (KP.refl _)⟩
  case round =>
    obtain ⟨i, rfl, rfl, hi, HG, HA⟩ := hrel
    by_cases hin : i = n
    · subst hin
      go_wp2_with fail
      go_ret
      exact ⟨by go_num, HG.out, HA.out⟩
    · have h1 : (i : Int) < (n : Int) := by omega
      have h0 : 0 < n := by omega
      obtain rfl : ao = some ⟨g, 0, none⟩ := by
        rcases HAO.out with q | q
        · omega
        · exact q.1
      have HP : Hid (Pt g (n * 1) wr) := hid_intro (HA.out _ _ (by
        rcases HAO.out with q | q
        · omega
        · exact q.2))
      go_wp2_with fail
      refine (HT.out _ (K0 + i) (by push_cast; omega) (by omega) (by omega) _).mono ?_
      rintro e w1 ⟨⟨T, rfl⟩, hb⟩
      replace HP := hid_intro (HP.out.below hb)
      replace HG := hid_intro (HG.out.below hb)
      replace HA := hid_intro (HA.out.below hb)
      obtain ⟨v0, c0⟩ := HP.out.has (i) (by omega)
      have f0 := HP.out.free (i) (by omega)
      have HS := hid_intro (HG.out.grown (grown_set _ g (i) (.string T)) ⟨rfl, h0⟩)
      have HK := hid_intro (HA.out.put g (i) (.string T))
      clear HG HA HP hb
      go_wp2_with fail
      go_roundw
      case rel => exact ⟨i + 1, by go_num, by (congr 1) <;> omega, by omega, HS, HK⟩
      case measure => simp [intOf]; omega
set_option maxRecDepth 100000 in
set_option maxHeartbeats 4000000 in
theorem zHrs (g : Nat) (ao : Option Addr) (n cap K0 : Nat) (w : World) (hn : n ≤ 1048576) (h1 : 1 ≤ K0) (hK : K0 ≤ 800000000000000000) (hao : n = 0 ∨ (ao = some ⟨g, 0, none⟩ ∧ Pt g (n * 2) w)) :
    Calls Tryz.prog 95 #[.slice ao n cap, .int .i64 K0] w fun e w' => e = .returned (.int .i64 (K0 + 2 * n : Nat)) ∧ Chg (fun b => b = g ∧ 0 < n) w w' ∧ KP w w' := by
  have HAO := hid_intro hao
  clear hao
  go_enter Tryz.func95, Tryz.ntmps95
  go_wp2_with fail
  go_loopw [5, 1] (fun x z wr => ∃ i : Nat, x = .int .i64 (i : Int) ∧ z = .int .i64 ((K0 : Int) + 2 * (i : Int)) ∧ i ≤ n ∧ Hid (Chg (fun b => b = g ∧ 0 < n) w wr) ∧ Hid (KP w wr)) (fun x _ _ => n - (intOf x).toNat)
  case atStart => exact ⟨0, rfl, by simp, by omega, hid_intro (Chg.refl _ _), hid_intro (KP.refl _)⟩
  case round =>
    obtain ⟨i, rfl, rfl, hi, HG, HA⟩ := hrel
    by_cases hin : i = n
    · subst hin
      go_wp2_with fail
      go_ret
      exact ⟨by go_num, HG.out, HA.out⟩
    · have h1 : (i : Int) < (n : Int) := by omega
      have h0 : 0 < n := by omega
      obtain rfl : ao = some ⟨g, 0, none⟩ := by
        rcases HAO.out with q | q
        · omega
        · exact q.1
      have HP : Hid (Pt g (n * 2) wr) := hid_intro (HA.out _ _ (by
        rcases HAO.out with q | q
        · omega
        · exact q.2))
      obtain ⟨v0, c0⟩ := HP.out.has (i * 2) (by omega)
      have f0 := HP.out.free (i * 2) (by omega)
      obtain ⟨v1, c1⟩ := HP.out.has (i * 2 + 1) (by omega)
      have f1 := HP.out.free (i * 2 + 1) (by omega)
      have HS := hid_intro ((HG.out.grown (grown_set _ g (i * 2) (.int .i64 ((K0 : Int) + 2 * (i : Int)))) ⟨rfl, h0⟩).grown (grown_set _ g (i * 2 + 1) (.int .i64 ((K0 : Int) + 2 * (i : Int) + 1))) ⟨rfl, h0⟩)
      have HK := hid_intro ((HA.out.put g (i * 2) (.int .i64 ((K0 : Int) + 2 * (i : Int)))).put g (i * 2 + 1) (.int .i64 ((K0 : Int) + 2 * (i : Int) + 1)))
      clear HG HA HP
      go_wp2_with fail
      go_roundw
      case rel => exact ⟨i + 1, by go_num, by go_num, by omega, HS, HK⟩
      case measure => simp [intOf]; omega
set_option maxRecDepth 100000 in
set_option maxHeartbeats 4000000 in
theorem zLis (g : Nat) (ao : Option Addr) (n cap K0 : Nat) (w : World) (hn : n ≤ 1048576) (h1 : 1 ≤ K0) (hK : K0 ≤ 800000000000000000) (hao : n = 0 ∨ (ao = some ⟨g, 0, none⟩ ∧ Pt g (n * 2) w)) :
    Calls Tryz.prog 12 #[.slice ao n cap, .int .i64 K0] w fun e w' => e = .returned (.int .i64 (K0 + 2 * n : Nat)) ∧ Chg (fun b => b = g ∧ 0 < n) w w' ∧ KP w w' := by
  have HAO := hid_intro hao
  have HT : Hid (∀ (z : Int) (K : Nat), z = K → 1 ≤ K → K ≤ 900000000000000000 → ∀ w, Calls Tryz.prog 44 #[.int .i64 z] w fun e w' => (∃ T, e = .returned (.string T)) ∧ Below w.heap.size w w') := hid_intro (fun z K e h0 h w => by subst e; exact mark_some K h0 (by omega) w)
  clear hao
  go_enter Tryz.func12, Tryz.ntmps12
  go_wp2_with fail
  go_loopw [5, 1] (fun x z wr => ∃ i : Nat, x = .int .i64 (i : Int) ∧ z = .int .i64 ((K0 : Int) + 2 * (i : Int)) ∧ i ≤ n ∧ Hid (Chg (fun b => b = g ∧ 0 < n) w wr) ∧ Hid (KP w wr)) (fun x _ _ => n - (intOf x).toNat)
  case atStart => exact ⟨0, rfl, by simp, by omega, hid_intro (Chg.refl _ _), hid_intro (KP.refl _)⟩
  case round =>
    obtain ⟨i, rfl, rfl, hi, HG, HA⟩ := hrel
    by_cases hin : i = n
    · subst hin
      go_wp2_with fail
      go_ret
      exact ⟨by go_num, HG.out, HA.out⟩
    · have h1 : (i : Int) < (n : Int) := by omega
      have h0 : 0 < n := by omega
      obtain rfl : ao = some ⟨g, 0, none⟩ := by
        rcases HAO.out with q | q
        · omega
        · exact q.1
      have HP : Hid (Pt g (n * 2) wr) := hid_intro (HA.out _ _ (by
        rcases HAO.out with q | q
        · omega
        · exact q.2))
      go_wp2_with fail
      refine (HT.out _ (K0 + 2 * i) (by push_cast; omega) (by omega) (by omega) _).mono ?_
      rintro e w1 ⟨⟨T, rfl⟩, hb⟩
      replace HP := hid_intro (HP.out.below hb)
      replace HG := hid_intro (HG.out.below hb)
      replace HA := hid_intro (HA.out.below hb)
      obtain ⟨v0, c0⟩ := HP.out.has (i * 2) (by omega)
      have f0 := HP.out.free (i * 2) (by omega)
      obtain ⟨v1, c1⟩ := HP.out.has (i * 2 + 1) (by omega)
      have f1 := HP.out.free (i * 2 + 1) (by omega)
      have HS := hid_intro ((HG.out.grown (grown_set _ g (i * 2) (.string T)) ⟨rfl, h0⟩).grown (grown_set _ g (i * 2 + 1) (.int .i64 ((K0 : Int) + 2 * (i : Int) + 1))) ⟨rfl, h0⟩)
      have HK := hid_intro ((HA.out.put g (i * 2) (.string T)).put g (i * 2 + 1) (.int .i64 ((K0 : Int) + 2 * (i : Int) + 1)))
      clear HG HA HP hb
      go_wp2_with fail
      go_roundw
      case rel => exact ⟨i + 1, by go_num, by go_num, by omega, HS, HK⟩
      case measure => simp [intOf]; omega
set_option maxRecDepth 100000 in
set_option maxHeartbeats 4000000 in
theorem zSrs (g : Nat) (ao : Option Addr) (n cap K0 : Nat) (w : World) (hn : n ≤ 1048576) (h1 : 1 ≤ K0) (hK : K0 ≤ 800000000000000000) (hao : n = 0 ∨ (ao = some ⟨g, 0, none⟩ ∧ Pt g (n * 2) w)) :
    Calls Tryz.prog 40 #[.slice ao n cap, .int .i64 K0] w fun e w' => e = .returned (.int .i64 (K0 + 2 * n : Nat)) ∧ Chg (fun b => b = g ∧ 0 < n) w w' ∧ KP w w' := by
  have HAO := hid_intro hao
  have HT : Hid (∀ (z : Int) (K : Nat), z = K → 1 ≤ K → K ≤ 900000000000000000 → ∀ w, Calls Tryz.prog 44 #[.int .i64 z] w fun e w' => (∃ T, e = .returned (.string T)) ∧ Below w.heap.size w w') := hid_intro (fun z K e h0 h w => by subst e; exact mark_some K h0 (by omega) w)
  clear hao
  go_enter Tryz.func40, Tryz.ntmps40
  go_wp2_with fail
  go_loopw [5, 1] (fun x z wr => ∃ i : Nat, x = .int .i64 (i : Int) ∧ z = .int .i64 ((K0 : Int) + 2 * (i : Int)) ∧ i ≤ n ∧ Hid (Chg (fun b => b = g ∧ 0 < n) w wr) ∧ Hid (KP w wr)) (fun x _ _ => n - (intOf x).toNat)
  case atStart => exact ⟨0, rfl, by simp, by omega, hid_intro (Chg.refl _ _), hid_intro (KP.refl _)⟩
  case round =>
    obtain ⟨i, rfl, rfl, hi, HG, HA⟩ := hrel
    by_cases hin : i = n
    · subst hin
      go_wp2_with fail
      go_ret
      exact ⟨by go_num, HG.out, HA.out⟩
    · have h1 : (i : Int) < (n : Int) := by omega
      have h0 : 0 < n := by omega
      obtain rfl : ao = some ⟨g, 0, none⟩ := by
        rcases HAO.out with q | q
        · omega
        · exact q.1
      have HP : Hid (Pt g (n * 2) wr) := hid_intro (HA.out _ _ (by
        rcases HAO.out with q | q
        · omega
        · exact q.2))
      go_wp2_with fail
      refine (HT.out _ (K0 + 2 * i) (by push_cast; omega) (by omega) (by omega) _).mono ?_
      rintro e w1 ⟨⟨T, rfl⟩, hb⟩
      replace HP := hid_intro (HP.out.below hb)
      replace HG := hid_intro (HG.out.below hb)
      replace HA := hid_intro (HA.out.below hb)
      obtain ⟨v0, c0⟩ := HP.out.has (i * 2) (by omega)
      have f0 := HP.out.free (i * 2) (by omega)
      obtain ⟨v1, c1⟩ := HP.out.has (i * 2 + 1) (by omega)
      have f1 := HP.out.free (i * 2 + 1) (by omega)
      have HS := hid_intro ((HG.out.grown (grown_set _ g (i * 2) (.string T)) ⟨rfl, h0⟩).grown (grown_set _ g (i * 2 + 1) (.int .i64 ((K0 : Int) + 2 * (i : Int) + 1))) ⟨rfl, h0⟩)
      have HK := hid_intro ((HA.out.put g (i * 2) (.string T)).put g (i * 2 + 1) (.int .i64 ((K0 : Int) + 2 * (i : Int) + 1)))
      clear HG HA HP hb
      go_wp2_with fail
      go_roundw
      case rel => exact ⟨i + 1, by go_num, by go_num, by omega, HS, HK⟩
      case measure => simp [intOf]; omega
set_option maxRecDepth 100000 in
set_option maxHeartbeats 4000000 in
theorem zEns (g : Nat) (ao : Option Addr) (n cap K0 : Nat) (w : World) (hn : n ≤ 1048576) (h1 : 1 ≤ K0) (hK : K0 ≤ 800000000000000000) (hao : n = 0 ∨ (ao = some ⟨g, 0, none⟩ ∧ Pt g (n * 3) w)) :
    Calls Tryz.prog 41 #[.slice ao n cap, .int .i64 K0] w fun e w' => e = .returned (.int .i64 (K0 + 3 * n : Nat)) ∧ Chg (fun b => b = g ∧ 0 < n) w w' ∧ KP w w' := by
  have HAO := hid_intro hao
  have HT : Hid (∀ (z : Int) (K : Nat), z = K → 1 ≤ K → K ≤ 900000000000000000 → ∀ w, Calls Tryz.prog 44 #[.int .i64 z] w fun e w' => (∃ T, e = .returned (.string T)) ∧ Below w.heap.size w w') := hid_intro (fun z K e h0 h w => by subst e; exact mark_some K h0 (by omega) w)
  clear hao
  go_enter Tryz.func41, Tryz.ntmps41
  go_wp2_with fail
  go_loopw [5, 1] (fun x z wr => ∃ i : Nat, x = .int .i64 (i : Int) ∧ z = .int .i64 ((K0 : Int) + 3 * (i : Int)) ∧ i ≤ n ∧ Hid (Chg (fun b => b = g ∧ 0 < n) w wr) ∧ Hid (KP w wr)) (fun x _ _ => n - (intOf x).toNat)
  case atStart => exact ⟨0, rfl, by simp, by omega, hid_intro (Chg.refl _ _), hid_intro (KP.refl _)⟩
  case round =>
    obtain ⟨i, rfl, rfl, hi, HG, HA⟩ := hrel
    by_cases hin : i = n
    · subst hin
      go_wp2_with fail
      go_ret
      exact ⟨by go_num, HG.out, HA.out⟩
    · have h1 : (i : Int) < (n : Int) := by omega
      have h0 : 0 < n := by omega
      obtain rfl : ao = some ⟨g, 0, none⟩ := by
        rcases HAO.out with q | q
        · omega
        · exact q.1
      have HP : Hid (Pt g (n * 3) wr) := hid_intro (HA.out _ _ (by
        rcases HAO.out with q | q
        · omega
        · exact q.2))
      go_wp2_with fail
      refine (HT.out _ (K0 + 3 * i) (by push_cast; omega) (by omega) (by omega) _).mono ?_
      rintro e w1 ⟨⟨T, rfl⟩, hb⟩
      replace HP := hid_intro (HP.out.below hb)
      replace HG := hid_intro (HG.out.below hb)
      replace HA := hid_intro (HA.out.below hb)
      obtain ⟨v0, c0⟩ := HP.out.has (i * 3) (by omega)
      have f0 := HP.out.free (i * 3) (by omega)
      obtain ⟨v1, c1⟩ := HP.out.has (i * 3 + 1) (by omega)
      have f1 := HP.out.free (i * 3 + 1) (by omega)
      obtain ⟨v2, c2⟩ := HP.out.has (i * 3 + 2) (by omega)
      have f2 := HP.out.free (i * 3 + 2) (by omega)
      have HS := hid_intro (((HG.out.grown (grown_set _ g (i * 3) (.string T)) ⟨rfl, h0⟩).grown (grown_set _ g (i * 3 + 1) (.int .i64 ((K0 : Int) + 3 * (i : Int) + 1))) ⟨rfl, h0⟩).grown (grown_set _ g (i * 3 + 2) (.int .i64 ((K0 : Int) + 3 * (i : Int) + 1 + 1))) ⟨rfl, h0⟩)
      have HK := hid_intro (((HA.out.put g (i * 3) (.string T)).put g (i * 3 + 1) (.int .i64 ((K0 : Int) + 3 * (i : Int) + 1))).put g (i * 3 + 2) (.int .i64 ((K0 : Int) + 3 * (i : Int) + 1 + 1)))
      clear HG HA HP hb
      go_wp2_with fail
      go_roundw
      case rel => exact ⟨i + 1, by go_num, by go_num, by omega, HS, HK⟩
      case measure => simp [intOf]; omega
/-- A list within, marked. -/
def Zin (f k g t : Nat) : Prop := ∀ (a : Option Addr) (n c : Nat) (z : Int) (K : Nat) (W : World), z = (K : Nat) → n ≤ 1048576 → 1 ≤ K → K ≤ 800000000000000000 → WinR.Inn g t a n (n * k) W → Calls Tryz.prog f #[.slice a n c, .int .i64 z] W fun e w' => e = .returned (.int .i64 (K + k * n : Nat)) ∧ Chg (fun b => g < b ∧ b < t) W w' ∧ KP W w'
theorem zin {f k : Nat} (hz : ∀ (g : Nat) (ao : Option Addr) (n cap K0 : Nat) (w : World), n ≤ 1048576 → 1 ≤ K0 → K0 ≤ 800000000000000000 → (n = 0 ∨ (ao = some ⟨g, 0, none⟩ ∧ Pt g (n * k) w)) → Calls Tryz.prog f #[.slice ao n cap, .int .i64 K0] w fun e w' => e = .returned (.int .i64 (K0 + k * n : Nat)) ∧ Chg (fun b => b = g ∧ 0 < n) w w' ∧ KP w w') (g t : Nat) : Zin f k g t := by
  intro a n c z K W e hn h1 hK hI
  subst e
  rcases hI with h0 | ⟨g', e1, e2, e3, e4⟩
  · exact (hz 0 a n c K W hn h1 hK (.inl h0)).mono fun e w' h => ⟨h.1, h.2.1.wide (fun b q => by omega), h.2.2⟩
  · exact (hz g' a n c K W hn h1 hK (.inr ⟨e1, e4⟩)).mono fun e w' h => ⟨h.1, h.2.1.wide (fun b q => by omega), h.2.2⟩
theorem zputDY {g t n o : Nat} {ds : List DocR.D} {W : World} (h : LedR.DY g t n ds W) (ho : o % 4 < 3) (v : Value) : LedR.DY g t n ds (W.setCell ⟨g, o, none⟩ v) := fun j hj => by
  obtain ⟨la, lc, c3, n1⟩ := h j hj
  exact ⟨la, lc, (cell_far _ _ (by omega) v).trans c3, WinR.Inn.put (g := g) n1⟩
theorem zchgDY {g t n : Nat} {ds : List DocR.D} {S : Nat → Prop} {W W' : World} (h : LedR.DY g t n ds W) (hg : g < W.heap.size) (hc : Chg S W W') (hS : ∀ b, S b → b ≠ g) (hk : ∀ p m, g < p → p < t → Pt p m W → Pt p m W') : LedR.DY g t n ds W' := fun j hj => by
  obtain ⟨la, lc, c3, n1⟩ := h j hj
  have f := fun o => World.cell?_of_block (a := ⟨g, o, none⟩) (hc.block g hg (fun q => hS g q rfl))
  exact ⟨la, lc, (f _).trans c3, n1.imp id (fun ⟨g', e1, e2, e3, e4⟩ => ⟨g', e1, e2, e3, hk _ _ e2 e3 e4⟩)⟩
set_option maxRecDepth 100000 in
set_option maxHeartbeats 8000000 in
theorem zDcs (g t cap K0 n : Nat) (ds : List DocR.D) (w : World) (hn : n ≤ 1048576) (hln : ∀ j, j < n → (ds.getD j LedR.D.zero).ls.length ≤ 1048576) (h1 : 1 ≤ K0) (hK : K0 ≤ 80000000000000000) (ht : g < t) (hP : Pt g (n * 4) w) (hX : LedR.DY g t n ds w) :
    Calls Tryz.prog 43 #[.slice (some ⟨g, 0, none⟩) n cap, .int .i64 K0] w fun e w' => (∃ K : Nat, e = .returned (.int .i64 K) ∧ 1 ≤ K ∧ K ≤ K0 + 4000000 * n) ∧ Chg (fun b => g ≤ b ∧ b < t) w w' ∧ KP w w' := by
  have HLN := hid_intro hln
  have HX0 := hid_intro hX
  have HP0 := hid_intro hP
  have HT : Hid (∀ (z : Int) (K : Nat), z = K → 1 ≤ K → K ≤ 900000000000000000 → ∀ w, Calls Tryz.prog 44 #[.int .i64 z] w fun e w' => (∃ T, e = .returned (.string T)) ∧ Below w.heap.size w w') := hid_intro (fun z K e h0 h w => by subst e; exact mark_some K h0 (by omega) w)
  have HZ0 : Hid (Zin 12 2 g t) := hid_intro (zin zLis g t)
  clear hln hX hP
  go_enter Tryz.func43, Tryz.ntmps43
  go_wp2_with fail
  go_loopw [5, 1] (fun x z wr => ∃ (i K : Nat), x = .int .i64 (i : Int) ∧ z = .int .i64 (K : Int) ∧ i ≤ n ∧ 1 ≤ K ∧ K ≤ K0 + 4000000 * i ∧ Hid (LedR.DY g t n ds wr) ∧ Hid (Chg (fun b => g ≤ b ∧ b < t) w wr) ∧ Hid (KP w wr)) (fun x _ _ => n - (intOf x).toNat)
  case atStart => exact ⟨0, K0, rfl, rfl, by omega, by omega, by omega, HX0, hid_intro (Chg.refl _ _), hid_intro (KP.refl _)⟩
  case round =>
    obtain ⟨i, K, rfl, rfl, hi, k0, k1, HX, HG, HA⟩ := hrel
    by_cases hin : i = n
    · subst hin
      go_wp2_with fail
      go_ret
      exact ⟨⟨K, rfl, by omega, by omega⟩, HG.out, HA.out⟩
    · have h1 : (i : Int) < (n : Int) := by omega
      have HP : Hid (Pt g (n * 4) wr) := hid_intro (HA.out _ _ HP0.out)
      have hgl := HP.out.lt
      go_wp2_with fail
      refine (HT.out _ K (by push_cast; omega) (by omega) (by omega) _).mono ?_
      rintro e w1 ⟨⟨T0, rfl⟩, hb⟩
      replace HP := hid_intro (HP.out.below hb)
      replace HX := hid_intro (zchgDY HX.out (by assumption) (Chg.of_below (S := fun _ => False) hb) (fun _ q => q.elim) (fun _ _ _ _ q => q.below hb))
      replace HG := hid_intro (HG.out.below hb)
      replace HA := hid_intro (HA.out.below hb)
      clear hb hgl
      have hgl := HP.out.lt
      obtain ⟨v0, c0⟩ := HP.out.has (i * 4) (by omega)
      have f0 := HP.out.free (i * 4) (by omega)
      obtain ⟨v1, c1⟩ := HP.out.has (i * 4 + 1) (by omega)
      have f1 := HP.out.free (i * 4 + 1) (by omega)
      obtain ⟨v2, c2⟩ := HP.out.has (i * 4 + 2) (by omega)
      have f2 := HP.out.free (i * 4 + 2) (by omega)
      obtain ⟨la, lc, hIN⟩ := HX.out i (by omega)
      obtain ⟨c3, n1⟩ := hIN
      have HN1 := hid_intro n1
      clear n1
      obtain ⟨W0, hW0⟩ : ∃ z, z = (((w1.setCell ⟨g, i * 4, none⟩ (.string T0)).setCell ⟨g, i * 4 + 1, none⟩ (.int .i64 ((K : Int) + 1))).setCell ⟨g, i * 4 + 2, none⟩ (.int .i64 ((K : Int) + 1 + 1))) := ⟨_, rfl⟩
      have HX2 : Hid (LedR.DY g t n ds W0) := hid_intro (by rw [hW0]; exact (zputDY (zputDY (zputDY HX.out (by omega) _) (by omega) _) (by omega) _))
      have HP2 : Hid (Pt g (n * 4) W0) := hid_intro (by rw [hW0]; exact (((HP.out.set _ _).set _ _).set _ _))
      have HG2 : Hid (Chg (fun b => g ≤ b ∧ b < t) w W0) := hid_intro (by rw [hW0]; exact (((HG.out.grown (grown_set _ g (i * 4) _) ⟨Nat.le_refl _, ht⟩).grown (grown_set _ g (i * 4 + 1) _) ⟨Nat.le_refl _, ht⟩).grown (grown_set _ g (i * 4 + 2) _) ⟨Nat.le_refl _, ht⟩))
      have HA2 : Hid (KP w W0) := hid_intro (by rw [hW0]; exact (((HA.out.put g (i * 4) _).put g (i * 4 + 1) _).put g (i * 4 + 2) _))
      have HM0 : Hid (WinR.Inn g t la ((ds.getD i LedR.D.zero).ls.length) (((ds.getD i LedR.D.zero).ls.length) * 2) W0) := hid_intro (by rw [hW0]; exact (WinR.Inn.put (g := g) (WinR.Inn.put (g := g) (WinR.Inn.put (g := g) HN1.out))))
      have hl := HLN.out i (by omega)
      have hl0 := hl
      clear hl
      generalize hq0 : (ds.getD i LedR.D.zero).ls.length = l0 at *
      have HQ0 := hid_intro hq0
      clear hq0
      have HW := hid_intro hW0
      clear hW0 HX HP HG HA
      clear hgl
      have hgl := HP2.out.lt
      clear HN1
      go_wp2_with fail
      rw [← HW.out]
      clear HW c0 f0 c1 f1 c2 f2
      have HX := HX2
      have HP := HP2
      have HG := HG2
      have HA := HA2
      clear HX2 HP2 HG2 HA2
      refine (HZ0.out _ _ _ _ (K + 3) _ (by push_cast; omega) hl0 (by omega) (by omega) HM0.out).mono ?_
      rintro e u0 ⟨rfl, hc, hk⟩
      replace HX := hid_intro (zchgDY HX.out hgl hc (fun b q => by omega) (fun p m _ _ h => hk p m h))
      replace HP := hid_intro (hk _ _ HP.out)
      replace HG := hid_intro (HG.out.trans (hc.wide (fun b q => by omega)))
      replace HA := hid_intro (HA.out.trans hk)
      clear hc hk
      go_wp2_with fail
      go_roundw
      case rel => exact ⟨i + 1, ((K + 3) + 2 * l0), by go_num, by go_num, by omega, by omega, by omega, HX, HG, HA⟩
      case measure => simp [intOf]; omega
theorem zputWX {g t n o : Nat} {ws : List WinR.Wd} {W : World} (h : WinR.WX g t n ws W) (ho : o % 8 < 6) (v : Value) : WinR.WX g t n ws (W.setCell ⟨g, o, none⟩ v) := fun j hj => by
  obtain ⟨ta, tc, ha, hc', c6, c7, n1, n2⟩ := h j hj
  exact ⟨ta, tc, ha, hc', (cell_far _ _ (by omega) v).trans c6, (cell_far _ _ (by omega) v).trans c7, n1.put, n2.put⟩
theorem zchgWX {g t n : Nat} {ws : List WinR.Wd} {S : Nat → Prop} {W W' : World} (h : WinR.WX g t n ws W) (hg : g < W.heap.size) (hc : Chg S W W') (hS : ∀ b, S b → b ≠ g) (hk : ∀ p m, g < p → p < t → Pt p m W → Pt p m W') : WinR.WX g t n ws W' := fun j hj => by
  obtain ⟨ta, tc, ha, hc', c6, c7, n1, n2⟩ := h j hj
  have f := fun o => World.cell?_of_block (a := ⟨g, o, none⟩) (hc.block g hg (fun q => hS g q rfl))
  exact ⟨ta, tc, ha, hc', (f _).trans c6, (f _).trans c7, n1.imp id (fun ⟨g', e1, e2, e3, e4⟩ => ⟨g', e1, e2, e3, hk _ _ e2 e3 e4⟩), n2.imp id (fun ⟨g', e1, e2, e3, e4⟩ => ⟨g', e1, e2, e3, hk _ _ e2 e3 e4⟩)⟩
set_option maxRecDepth 100000 in
set_option maxHeartbeats 8000000 in
theorem zWns (g t cap K0 n : Nat) (ws : List WinR.Wd) (w : World) (hn : n ≤ 1048576) (hln : ∀ j, j < n → (ws.getD j WinR.Wd.zero).ts.length ≤ 1048576 ∧ (ws.getD j WinR.Wd.zero).hs.length ≤ 1048576) (h1 : 1 ≤ K0) (hK : K0 ≤ 80000000000000000) (ht : g < t) (hP : Pt g (n * 8) w) (hX : WinR.WX g t n ws w) :
    Calls Tryz.prog 42 #[.slice (some ⟨g, 0, none⟩) n cap, .int .i64 K0] w fun e w' => (∃ K : Nat, e = .returned (.int .i64 K) ∧ 1 ≤ K ∧ K ≤ K0 + 4000000 * n) ∧ Chg (fun b => g ≤ b ∧ b < t) w w' ∧ KP w w' := by
  have HLN := hid_intro hln
  have HX0 := hid_intro hX
  have HP0 := hid_intro hP
  have HT : Hid (∀ (z : Int) (K : Nat), z = K → 1 ≤ K → K ≤ 900000000000000000 → ∀ w, Calls Tryz.prog 44 #[.int .i64 z] w fun e w' => (∃ T, e = .returned (.string T)) ∧ Below w.heap.size w w') := hid_intro (fun z K e h0 h w => by subst e; exact mark_some K h0 (by omega) w)
  have HZ0 : Hid (Zin 94 1 g t) := hid_intro (zin (fun g ao n cap K0 w a b c d => (zStr g ao n cap K0 w a b c d).mono fun e w' h => ⟨by rw [Nat.one_mul]; exact h.1, h.2⟩) g t)
  have HZ1 : Hid (Zin 95 2 g t) := hid_intro (zin zHrs g t)
  clear hln hX hP
  go_enter Tryz.func42, Tryz.ntmps42
  go_wp2_with fail
  go_loopw [5, 1] (fun x z wr => ∃ (i K : Nat), x = .int .i64 (i : Int) ∧ z = .int .i64 (K : Int) ∧ i ≤ n ∧ 1 ≤ K ∧ K ≤ K0 + 4000000 * i ∧ Hid (WinR.WX g t n ws wr) ∧ Hid (Chg (fun b => g ≤ b ∧ b < t) w wr) ∧ Hid (KP w wr)) (fun x _ _ => n - (intOf x).toNat)
  case atStart => exact ⟨0, K0, rfl, rfl, by omega, by omega, by omega, HX0, hid_intro (Chg.refl _ _), hid_intro (KP.refl _)⟩
  case round =>
    obtain ⟨i, K, rfl, rfl, hi, k0, k1, HX, HG, HA⟩ := hrel
    by_cases hin : i = n
    · subst hin
      go_wp2_with fail
      go_ret
      exact ⟨⟨K, rfl, by omega, by omega⟩, HG.out, HA.out⟩
    · have h1 : (i : Int) < (n : Int) := by omega
      have HP : Hid (Pt g (n * 8) wr) := hid_intro (HA.out _ _ HP0.out)
      have hgl := HP.out.lt
      go_wp2_with fail
      refine (HT.out _ K (by push_cast; omega) (by omega) (by omega) _).mono ?_
      rintro e w1 ⟨⟨T0, rfl⟩, hb⟩
      replace HP := hid_intro (HP.out.below hb)
      replace HX := hid_intro (zchgWX HX.out (by assumption) (Chg.of_below (S := fun _ => False) hb) (fun _ q => q.elim) (fun _ _ _ _ q => q.below hb))
      replace HG := hid_intro (HG.out.below hb)
      replace HA := hid_intro (HA.out.below hb)
      clear hb hgl
      have hgl := HP.out.lt
      obtain ⟨v0, c0⟩ := HP.out.has (i * 8) (by omega)
      have f0 := HP.out.free (i * 8) (by omega)
      obtain ⟨W0, hW0⟩ : ∃ z, z = (w1.setCell ⟨g, i * 8, none⟩ (.string T0)) := ⟨_, rfl⟩
      have HX2 : Hid (WinR.WX g t n ws W0) := hid_intro (by rw [hW0]; exact (zputWX HX.out (by omega) _))
      have HP2 : Hid (Pt g (n * 8) W0) := hid_intro (by rw [hW0]; exact (HP.out.set _ _))
      have HG2 : Hid (Chg (fun b => g ≤ b ∧ b < t) w W0) := hid_intro (by rw [hW0]; exact (HG.out.grown (grown_set _ g (i * 8) _) ⟨Nat.le_refl _, ht⟩))
      have HA2 : Hid (KP w W0) := hid_intro (by rw [hW0]; exact (HA.out.put g (i * 8) _))
      have HW := hid_intro hW0
      clear hW0 HX HP HG HA
      clear hgl
      have hgl := HP2.out.lt
      go_wp2_with fail
      rw [← HW.out]
      clear HW c0 f0
      have HX := HX2
      have HP := HP2
      have HG := HG2
      have HA := HA2
      clear HX2 HP2 HG2 HA2
      refine (HT.out _ (K + 1) (by push_cast; omega) (by omega) (by omega) _).mono ?_
      rintro e w2 ⟨⟨T1, rfl⟩, hb⟩
      replace HP := hid_intro (HP.out.below hb)
      replace HX := hid_intro (zchgWX HX.out (by assumption) (Chg.of_below (S := fun _ => False) hb) (fun _ q => q.elim) (fun _ _ _ _ q => q.below hb))
      replace HG := hid_intro (HG.out.below hb)
      replace HA := hid_intro (HA.out.below hb)
      clear hb hgl
      have hgl := HP.out.lt
      obtain ⟨v1, c1⟩ := HP.out.has (i * 8 + 1) (by omega)
      have f1 := HP.out.free (i * 8 + 1) (by omega)
      obtain ⟨v2, c2⟩ := HP.out.has (i * 8 + 2) (by omega)
      have f2 := HP.out.free (i * 8 + 2) (by omega)
      obtain ⟨v3, c3⟩ := HP.out.has (i * 8 + 3) (by omega)
      have f3 := HP.out.free (i * 8 + 3) (by omega)
      obtain ⟨v4, c4⟩ := HP.out.has (i * 8 + 4) (by omega)
      have f4 := HP.out.free (i * 8 + 4) (by omega)
      obtain ⟨v5, c5⟩ := HP.out.has (i * 8 + 5) (by omega)
      have f5 := HP.out.free (i * 8 + 5) (by omega)
      obtain ⟨ta, tc, ha, hc', hIN⟩ := HX.out i (by omega)
      obtain ⟨c6, c7, n1, n2⟩ := hIN
      have HN1 := hid_intro n1
      have HN2 := hid_intro n2
      clear n1 n2
      obtain ⟨W1, hW1⟩ : ∃ z, z = (((((w2.setCell ⟨g, i * 8 + 1, none⟩ (.string T1)).setCell ⟨g, i * 8 + 2, none⟩ (.int .i64 ((K : Int) + 1 + 1))).setCell ⟨g, i * 8 + 3, none⟩ (.int .i64 ((K : Int) + 1 + 1 + 1))).setCell ⟨g, i * 8 + 4, none⟩ (.int .i64 ((K : Int) + 1 + 1 + 1 + 1))).setCell ⟨g, i * 8 + 5, none⟩ (.int .i64 ((K : Int) + 1 + 1 + 1 + 1 + 1))) := ⟨_, rfl⟩
      have HX2 : Hid (WinR.WX g t n ws W1) := hid_intro (by rw [hW1]; exact (zputWX (zputWX (zputWX (zputWX (zputWX HX.out (by omega) _) (by omega) _) (by omega) _) (by omega) _) (by omega) _))
      have HP2 : Hid (Pt g (n * 8) W1) := hid_intro (by rw [hW1]; exact (((((HP.out.set _ _).set _ _).set _ _).set _ _).set _ _))
      have HG2 : Hid (Chg (fun b => g ≤ b ∧ b < t) w W1) := hid_intro (by rw [hW1]; exact (((((HG.out.grown (grown_set _ g (i * 8 + 1) _) ⟨Nat.le_refl _, ht⟩).grown (grown_set _ g (i * 8 + 2) _) ⟨Nat.le_refl _, ht⟩).grown (grown_set _ g (i * 8 + 3) _) ⟨Nat.le_refl _, ht⟩).grown (grown_set _ g (i * 8 + 4) _) ⟨Nat.le_refl _, ht⟩).grown (grown_set _ g (i * 8 + 5) _) ⟨Nat.le_refl _, ht⟩))
      have HA2 : Hid (KP w W1) := hid_intro (by rw [hW1]; exact (((((HA.out.put g (i * 8 + 1) _).put g (i * 8 + 2) _).put g (i * 8 + 3) _).put g (i * 8 + 4) _).put g (i * 8 + 5) _))
      have HM0 : Hid (WinR.Inn g t ta ((ws.getD i WinR.Wd.zero).ts.length) (((ws.getD i WinR.Wd.zero).ts.length) * 1) W1) := hid_intro (by rw [hW1]; exact (WinR.Inn.put (g := g) (WinR.Inn.put (g := g) (WinR.Inn.put (g := g) (WinR.Inn.put (g := g) (WinR.Inn.put (g := g) HN1.out))))))
      have hl := HLN.out i (by omega)
      have hl0 := hl.1
      have hl1 := hl.2
      clear hl
      generalize hq0 : (ws.getD i WinR.Wd.zero).ts.length = l0 at *
      have HQ0 := hid_intro hq0
      clear hq0
      generalize hq1 : (ws.getD i WinR.Wd.zero).hs.length = l1 at *
      have HQ1 := hid_intro hq1
      clear hq1
      have HW := hid_intro hW1
      clear hW1 HX HP HG HA
      clear hgl
      have hgl := HP2.out.lt
      clear HN1 HN2
      go_wp2_with fail
      rw [← HW.out]
      clear HW c1 f1 c2 f2 c3 f3 c4 f4 c5 f5
      have HX := HX2
      have HP := HP2
      have HG := HG2
      have HA := HA2
      clear HX2 HP2 HG2 HA2
      refine (HZ0.out _ _ _ _ (K + 6) _ (by push_cast; omega) hl0 (by omega) (by omega) HM0.out).mono ?_
      rintro e u0 ⟨rfl, hc, hk⟩
      replace HX := hid_intro (zchgWX HX.out hgl hc (fun b q => by omega) (fun p m _ _ h => hk p m h))
      replace HP := hid_intro (hk _ _ HP.out)
      replace HG := hid_intro (HG.out.trans (hc.wide (fun b q => by omega)))
      replace HA := hid_intro (HA.out.trans hk)
      clear hc hk hgl
      have hgl := HP.out.lt
      obtain ⟨ta2, tc2, ha2, hc2, _, d7, _, m2⟩ := HX.out i (by omega)
      rw [HQ1.out] at d7 m2
      have HM1 := hid_intro m2
      clear m2
      go_wp2_with fail
      refine (HZ1.out _ _ _ _ ((K + 6) + 1 * l0) _ (by push_cast; omega) hl1 (by omega) (by omega) HM1.out).mono ?_
      rintro e u1 ⟨rfl, hc, hk⟩
      replace HX := hid_intro (zchgWX HX.out hgl hc (fun b q => by omega) (fun p m _ _ h => hk p m h))
      replace HP := hid_intro (hk _ _ HP.out)
      replace HG := hid_intro (HG.out.trans (hc.wide (fun b q => by omega)))
      replace HA := hid_intro (HA.out.trans hk)
      clear hc hk
      go_wp2_with fail
      go_roundw
      case rel => exact ⟨i + 1, (((K + 6) + 1 * l0) + 2 * l1), by go_num, by go_num, by omega, by omega, by omega, HX, HG, HA⟩
      case measure => simp [intOf]; omega
set_option maxRecDepth 100000 in
set_option maxHeartbeats 8000000 in
theorem zeng_in (ma : Option Addr) (ml mc : Nat) (ca : Option Addr) (cl cc : Nat) (sa : Option Addr) (sl sc : Nat) (ea : Option Addr) (el ec : Nat) (ua : Option Addr) (ul uc : Nat) (da : Option Addr) (dl dc : Nat) (fr : Int) (base g0 g1 g2 g3 g4 t0 t1 t2 t3 t4 : Nat) (w : World) (ho : base ≤ g0 ∧ g0 ≤ t0 ∧ t0 ≤ g1 ∧ g1 ≤ t1 ∧ t1 ≤ g2 ∧ g2 ≤ t2 ∧ t2 ≤ g3 ∧ g3 ≤ t3 ∧ t3 ≤ g4 ∧ g4 ≤ t4 ∧ t4 ≤ w.heap.size)
    (h0 : ∀ (K : Nat) W, 1 ≤ K → K ≤ 1 → Chg (fun b => base ≤ b ∧ b < g0) w W → Calls Tryz.prog 39 #[.agg #[.slice ma ml mc, .slice ca cl cc], .int .i64 (K : Nat)] W fun e w' => (∃ K' : Nat, e = .returned (.int .i64 (K' : Nat)) ∧ 1 ≤ K' ∧ K' ≤ K + 20000000000000) ∧ Chg (fun b => g0 ≤ b ∧ b < t0) W w')
    (h1 : ∀ (K : Nat) W, 1 ≤ K → K ≤ 20000000000001 → Chg (fun b => base ≤ b ∧ b < g1) w W → Calls Tryz.prog 40 #[.slice sa sl sc, .int .i64 (K : Nat)] W fun e w' => (∃ K' : Nat, e = .returned (.int .i64 (K' : Nat)) ∧ 1 ≤ K' ∧ K' ≤ K + 20000000000000) ∧ Chg (fun b => g1 ≤ b ∧ b < t1) W w')
    (h2 : ∀ (K : Nat) W, 1 ≤ K → K ≤ 40000000000001 → Chg (fun b => base ≤ b ∧ b < g2) w W → Calls Tryz.prog 41 #[.slice ea el ec, .int .i64 (K : Nat)] W fun e w' => (∃ K' : Nat, e = .returned (.int .i64 (K' : Nat)) ∧ 1 ≤ K' ∧ K' ≤ K + 20000000000000) ∧ Chg (fun b => g2 ≤ b ∧ b < t2) W w')
    (h3 : ∀ (K : Nat) W, 1 ≤ K → K ≤ 60000000000001 → Chg (fun b => base ≤ b ∧ b < g3) w W → Calls Tryz.prog 42 #[.slice ua ul uc, .int .i64 (K : Nat)] W fun e w' => (∃ K' : Nat, e = .returned (.int .i64 (K' : Nat)) ∧ 1 ≤ K' ∧ K' ≤ K + 20000000000000) ∧ Chg (fun b => g3 ≤ b ∧ b < t3) W w')
    (h4 : ∀ (K : Nat) W, 1 ≤ K → K ≤ 80000000000001 → Chg (fun b => base ≤ b ∧ b < g4) w W → Calls Tryz.prog 43 #[.slice da dl dc, .int .i64 (K : Nat)] W fun e w' => (∃ K' : Nat, e = .returned (.int .i64 (K' : Nat)) ∧ 1 ≤ K' ∧ K' ≤ K + 20000000000000) ∧ Chg (fun b => g4 ≤ b ∧ b < t4) W w') :
    Calls Tryz.prog 11 #[.agg #[.slice ma ml mc, .slice ca cl cc, .slice sa sl sc, .slice ea el ec, .slice ua ul uc, .slice da dl dc, .int .i64 fr], .int .i64 1] w fun e w' => (∃ K : Nat, e = .returned (.int .i64 K)) ∧ Chg (fun b => base ≤ b ∧ b < t4) w w' := by
  have H0 := hid_intro h0
  have H1 := hid_intro h1
  have H2 := hid_intro h2
  have H3 := hid_intro h3
  have H4 := hid_intro h4
  have HO := hid_intro ho
  clear h0 h1 h2 h3 h4 ho
  obtain ⟨W0, hW0⟩ : ∃ z, z = w.alloc (.cells #[.slice ma ml mc, .slice ca cl cc, .slice sa sl sc, .slice ea el ec, .slice ua ul uc, .slice da dl dc, .int .i64 fr] 44) := ⟨_, rfl⟩
  have C : Hid (Chg (fun b => base ≤ b ∧ b < g0) w W0) := hid_intro (by rw [hW0]; exact Chg.of_below ((Below.refl _ _).alloc (Nat.le_refl _) _))
  have X : Hid (Blk w.heap.size [.slice ma ml mc, .slice ca cl cc, .slice sa sl sc, .slice ea el ec, .slice ua ul uc, .slice da dl dc, .int .i64 fr] W0) := hid_intro (by rw [hW0]; exact Blk.new w [.slice ma ml mc, .slice ca cl cc, .slice sa sl sc, .slice ea el ec, .slice ua ul uc, .slice da dl dc, .int .i64 fr] 44)
  have HW := hid_intro hW0
  clear hW0
  go_enter Tryz.func11, Tryz.ntmps11
  go_wp2_with fail
  rw [← HW.out]
  clear HW
  refine (H0.out 1 _ (by omega) (by omega) C.out).mono ?_
  rintro e w1 ⟨⟨K1, rfl, k1, k1'⟩, hc⟩
  replace k1' : K1 ≤ 20000000000001 := by omega
  replace X := hid_intro (ChG.Chg.blk hc X.out (fun q => by have := HO.out; omega))
  replace C := hid_intro ((C.out.wide (S' := fun b => base ≤ b ∧ b < g1) (fun b q => by have := HO.out; omega)).trans (hc.wide (fun b q => by have := HO.out; omega)))
  clear hc
  have xl := X.out.1
  have x0 : w1.cell? ⟨w.heap.size, 0, none⟩ = some (.slice ma ml mc) := X.out.2 0 (by simp)
  have x1 : w1.cell? ⟨w.heap.size, 1, none⟩ = some (.slice ca cl cc) := X.out.2 1 (by simp)
  have x2 : w1.cell? ⟨w.heap.size, 2, none⟩ = some (.slice sa sl sc) := X.out.2 2 (by simp)
  have x3 : w1.cell? ⟨w.heap.size, 3, none⟩ = some (.slice ea el ec) := X.out.2 3 (by simp)
  have x4 : w1.cell? ⟨w.heap.size, 4, none⟩ = some (.slice ua ul uc) := X.out.2 4 (by simp)
  have x5 : w1.cell? ⟨w.heap.size, 5, none⟩ = some (.slice da dl dc) := X.out.2 5 (by simp)
  have x6 : w1.cell? ⟨w.heap.size, 6, none⟩ = some (.int .i64 fr) := X.out.2 6 (by simp)
  go_wp2_with fail
  refine (H1.out K1 _ k1 k1' C.out).mono ?_
  rintro e w2 ⟨⟨K2, rfl, k2, k2'⟩, hc⟩
  clear xl x0 x1 x2 x3 x4 x5 x6
  replace k2' : K2 ≤ 40000000000001 := by omega
  replace X := hid_intro (ChG.Chg.blk hc X.out (fun q => by have := HO.out; omega))
  replace C := hid_intro ((C.out.wide (S' := fun b => base ≤ b ∧ b < g2) (fun b q => by have := HO.out; omega)).trans (hc.wide (fun b q => by have := HO.out; omega)))
  clear hc
  have xl := X.out.1
  have x0 : w2.cell? ⟨w.heap.size, 0, none⟩ = some (.slice ma ml mc) := X.out.2 0 (by simp)
  have x1 : w2.cell? ⟨w.heap.size, 1, none⟩ = some (.slice ca cl cc) := X.out.2 1 (by simp)
  have x2 : w2.cell? ⟨w.heap.size, 2, none⟩ = some (.slice sa sl sc) := X.out.2 2 (by simp)
  have x3 : w2.cell? ⟨w.heap.size, 3, none⟩ = some (.slice ea el ec) := X.out.2 3 (by simp)
  have x4 : w2.cell? ⟨w.heap.size, 4, none⟩ = some (.slice ua ul uc) := X.out.2 4 (by simp)
  have x5 : w2.cell? ⟨w.heap.size, 5, none⟩ = some (.slice da dl dc) := X.out.2 5 (by simp)
  have x6 : w2.cell? ⟨w.heap.size, 6, none⟩ = some (.int .i64 fr) := X.out.2 6 (by simp)
  go_wp2_with fail
  refine (H2.out K2 _ k2 k2' C.out).mono ?_
  rintro e w3 ⟨⟨K3, rfl, k3, k3'⟩, hc⟩
  clear xl x0 x1 x2 x3 x4 x5 x6
  replace k3' : K3 ≤ 60000000000001 := by omega
  replace X := hid_intro (ChG.Chg.blk hc X.out (fun q => by have := HO.out; omega))
  replace C := hid_intro ((C.out.wide (S' := fun b => base ≤ b ∧ b < g3) (fun b q => by have := HO.out; omega)).trans (hc.wide (fun b q => by have := HO.out; omega)))
  clear hc
  have xl := X.out.1
  have x0 : w3.cell? ⟨w.heap.size, 0, none⟩ = some (.slice ma ml mc) := X.out.2 0 (by simp)
  have x1 : w3.cell? ⟨w.heap.size, 1, none⟩ = some (.slice ca cl cc) := X.out.2 1 (by simp)
  have x2 : w3.cell? ⟨w.heap.size, 2, none⟩ = some (.slice sa sl sc) := X.out.2 2 (by simp)
  have x3 : w3.cell? ⟨w.heap.size, 3, none⟩ = some (.slice ea el ec) := X.out.2 3 (by simp)
  have x4 : w3.cell? ⟨w.heap.size, 4, none⟩ = some (.slice ua ul uc) := X.out.2 4 (by simp)
  have x5 : w3.cell? ⟨w.heap.size, 5, none⟩ = some (.slice da dl dc) := X.out.2 5 (by simp)
  have x6 : w3.cell? ⟨w.heap.size, 6, none⟩ = some (.int .i64 fr) := X.out.2 6 (by simp)
  go_wp2_with fail
  refine (H3.out K3 _ k3 k3' C.out).mono ?_
  rintro e w4 ⟨⟨K4, rfl, k4, k4'⟩, hc⟩
  clear xl x0 x1 x2 x3 x4 x5 x6
  replace k4' : K4 ≤ 80000000000001 := by omega
  replace X := hid_intro (ChG.Chg.blk hc X.out (fun q => by have := HO.out; omega))
  replace C := hid_intro ((C.out.wide (S' := fun b => base ≤ b ∧ b < g4) (fun b q => by have := HO.out; omega)).trans (hc.wide (fun b q => by have := HO.out; omega)))
  clear hc
  have xl := X.out.1
  have x0 : w4.cell? ⟨w.heap.size, 0, none⟩ = some (.slice ma ml mc) := X.out.2 0 (by simp)
  have x1 : w4.cell? ⟨w.heap.size, 1, none⟩ = some (.slice ca cl cc) := X.out.2 1 (by simp)
  have x2 : w4.cell? ⟨w.heap.size, 2, none⟩ = some (.slice sa sl sc) := X.out.2 2 (by simp)
  have x3 : w4.cell? ⟨w.heap.size, 3, none⟩ = some (.slice ea el ec) := X.out.2 3 (by simp)
  have x4 : w4.cell? ⟨w.heap.size, 4, none⟩ = some (.slice ua ul uc) := X.out.2 4 (by simp)
  have x5 : w4.cell? ⟨w.heap.size, 5, none⟩ = some (.slice da dl dc) := X.out.2 5 (by simp)
  have x6 : w4.cell? ⟨w.heap.size, 6, none⟩ = some (.int .i64 fr) := X.out.2 6 (by simp)
  go_wp2_with fail
  refine (H4.out K4 _ k4 k4' C.out).mono ?_
  rintro e w5 ⟨⟨K5, rfl, k5, k5'⟩, hc⟩
  clear xl x0 x1 x2 x3 x4 x5 x6
  replace k5' : K5 ≤ 100000000000001 := by omega
  replace X := hid_intro (ChG.Chg.blk hc X.out (fun q => by have := HO.out; omega))
  replace C := hid_intro ((C.out.wide (S' := fun b => base ≤ b ∧ b < t4) (fun b q => by have := HO.out; omega)).trans (hc.wide (fun b q => by have := HO.out; omega)))
  clear hc
  go_wp2_with fail
  go_ret
  exact ⟨⟨K5, rfl⟩, C.out.wide (fun b q => by have := HO.out; omega)⟩
theorem MkE.marked {base top : Nat} {v : Value} {x : Eng} {w : World} (h : MkE base top v x w) (hS : x.Small) :
    Calls Tryz.prog 11 #[v, .int .i64 1] w fun e w' => (∃ K : Nat, e = .returned (.int .i64 K)) ∧ Chg (fun b => base ≤ b ∧ b < top) w w' := by
  obtain ⟨B, a, b, t0, g1, t1, g2, t2, g3, t3, g4, t4, rfl, ⟨⟨h0, h1⟩, ⟨h2, h3⟩, ⟨h4, h5⟩, ⟨h6, h7, h8⟩, ⟨h9, h10, h11⟩⟩, hB, l1, l2, l3, l4, l5, l6⟩ := h
  have hab : B < b := by
    obtain ⟨g, bs, q, e1, e2, e3, _⟩ := h0
    simp only [Value.agg.injEq, Array.mk.injEq, List.cons.injEq, Value.slice.injEq, Option.some.injEq, Addr.mk.injEq, and_true] at e1
    obtain ⟨e4, e5⟩ := e1
    have := e2.1
    omega
  refine (zeng_in _ _ _ _ _ _ _ _ _ _ _ _ _ _ _ _ _ _ x.fr base B g1 g2 g3 g4 t0 t1 t2 t3 t4 w (by omega) ?_ ?_ ?_ ?_ ?_).mono fun e w' h => ⟨h.1, h.2.wide (fun b q => by omega)⟩
  · intro K W k1 k2 hc
    obtain rfl : K = 1 := by omega
    have h0' := newca_kq h0 (⟨hc.size, fun k q1 q2 => hc.block k q2 (fun q => by omega)⟩ : Kq B w W)
    refine (markCa B _ x.c W t0 hS.c h0' (fun hh y e => ?_)).mono ?_
    · simp only [Value.agg.injEq, Array.mk.injEq, List.cons.injEq, Value.slice.injEq, Option.some.injEq, Addr.mk.injEq, and_true] at e
      omega
    · rintro e w' ⟨K, rfl, k1, k2, ho⟩
      exact ⟨⟨K, rfl, k1, by omega⟩, ⟨ho.os, ho.tape, ho.output, ho.size, fun k q1 q2 => ho.block k q1 (by omega)⟩⟩
  · intro K W k1 k2 hc
    refine (zSrs g1 _ x.ss.length _ K W hS.sl k1 (by omega) (.inr ⟨rfl, hc.pt h2 (fun q => by omega)⟩)).mono ?_
    rintro e w' ⟨rfl, hc, _⟩
    have := hS.sl
    exact ⟨⟨_, rfl, by omega, by omega⟩, hc.wide (fun b q => by omega)⟩
  · intro K W k1 k2 hc
    refine (zEns g2 _ x.es.length _ K W hS.el k1 (by omega) (.inr ⟨rfl, hc.pt h4 (fun q => by omega)⟩)).mono ?_
    rintro e w' ⟨rfl, hc, _⟩
    have := hS.el
    exact ⟨⟨_, rfl, by omega, by omega⟩, hc.wide (fun b q => by omega)⟩
  · intro K W k1 k2 hc
    refine (zWns g3 t3 _ K x.ws.length x.ws W hS.wl (fun j hj => ⟨(hS.ws j hj).2.2.1, (hS.ws j hj).2.2.2.2⟩) k1 (by omega) h8 (hc.pt h6 (fun q => by omega)) (zchgWX h7 h6.lt hc (fun b q => by omega) (fun p m q1 q2 q3 => hc.pt q3 (fun q => by omega)))).mono ?_
    rintro e w' ⟨⟨K2, rfl, k3, k4⟩, hc, _⟩
    have := hS.wl
    exact ⟨⟨K2, rfl, k3, by omega⟩, hc⟩
  · intro K W k1 k2 hc
    refine (zDcs g4 t4 _ K x.ds.length x.ds W hS.dl (fun j hj => (hS.ds _ (RowG.getD_mem (z := LedR.D.zero) x.ds j hj)).2.1) k1 (by omega) h11 (hc.pt h9 (fun q => by omega)) (zchgDY h10 h9.lt hc (fun b q => by omega) (fun p m q1 q2 q3 => hc.pt q3 (fun q => by omega)))).mono ?_
    rintro e w' ⟨⟨K2, rfl, k3, k4⟩, hc, _⟩
    have := hS.dl
    exact ⟨⟨K2, rfl, k3, by omega⟩, hc⟩
end EngR
end Go.Proofs.YtjfmdcdclifpkaaGreatDoor
