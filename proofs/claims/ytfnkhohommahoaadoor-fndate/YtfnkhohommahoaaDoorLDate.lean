/-
  FnDate: for all bytes the law's call returns true, and the bytes read as they did: a right date comes back from its day, and from its text; the next day is the next date; seven days on it is the same day of the week. The condition is the card's: the program's table, the library's tables and its two errors start as their text lays them.
-/
import Derived.Test.YtfnkhohommahoaaDoorDateLaw
import Derived.Deep.CutRange
import Derived.Deep.QuietTactic
import Derived.BigQuiet
import Derived.Test.YtfnkhohommahoaaDoorDateBoth
import Derived.Test.YtfnkhohommahoaaDoorDrawDate2
import Derived.Test.YtfnkhohommahoaaDoorTablR
import Derived.Test.YtfnkhohommahoaaDoorCards
import Derived.Carry
import Derived.OpenVars
import Derived.Lib.SmallJoins
import Derived.SevenTiedAt
namespace Go.Proofs.YtfnkhohommahoaaDoor
open Go.ChangeShapes Go.WideShapes Go.ChangeAt Go.RowKit
set_option linter.unusedVariables false
namespace FnDateL
open DrawR (Bytes IsRow ddate_any dread_any dday_any dmdays_any dleap_any hid_intro DB grown_of)
open DateR (date dout All wd)
open DateM
open LayR (Laid)
/-- What is known of a date. -/
structure KnownD (Y M D n : Int) (T : ByteArray) (r : Bool) : Prop where
  ni : ∀ w, Laid w → Calls Tryd.prog 7 #[date Y M D] w fun e w' => e = .returned (.int .i64 n) ∧ Below w.heap.size w w'
  ns : ∀ w, Calls Tryd.prog 13 #[date Y M D] w fun e w' => e = .returned (.int .i64 n) ∧ Below w.heap.size w w'
  ti : ∀ w, Laid w → Calls Tryd.prog 8 #[date Y M D] w fun e w' => e = .returned (.string T) ∧ Below w.heap.size w w'
  ts : ∀ w, Calls Tryd.prog 14 #[date Y M D] w fun e w' => e = .returned (.string T) ∧ Below w.heap.size w w'
  ri : ∀ w, Laid w → Calls Tryd.prog 19 #[date Y M D] w fun e w' => e = .returned (.bool r) ∧ Below w.heap.size w w'
  rs : ∀ w, Calls Tryd.prog 20 #[date Y M D] w fun e w' => e = .returned (.bool r) ∧ Below w.heap.size w w'
  back : r = true → (∀ w, Laid w → Calls Tryd.prog 17 #[.int .i64 n] w fun e w' => e = .returned (date Y M D) ∧ Below w.heap.size w w') ∧ (∀ w, Laid w → Calls Tryd.prog 15 #[.string T] w fun e w' => e = .returned (dout Y M D 0) ∧ Below w.heap.size w w')
theorem knownD (Y M D : Int) : ∃ n T r, KnownD Y M D n T r := by
  obtain ⟨T, t1, t2, ti, ts⟩ := DateR.text_both Y M D
  refine ⟨_, T, rightB Y M D, fun w hL => DateR.impl_dayof Y M D w hL.1, fun w => DateR.spec_dayof Y M D w, fun w hL => ti w hL.1 hL.2.1, ts, fun w hL => DateR.impl_right Y M D w hL.1, fun w => DateR.spec_right Y M D w, fun hr => ⟨?_, ?_⟩⟩
  · rw [if_pos hr]
    obtain ⟨b1, b2⟩ := num_bd Y M D hr
    obtain ⟨y, m, d, hd, hi, _⟩ := DateR.dateof_both (num Y M D)
    rcases hd with ⟨_, _, h1, h2⟩ | ⟨h1, _⟩
    · obtain ⟨rfl, rfl, rfl⟩ := num_inj y m d Y M D h1 hr h2
      exact fun w hL => hi w hL.1
    · exact absurd ⟨b1, b2⟩ h1
  · obtain ⟨y', m', d', e1, e2, e3, hT⟩ := t1 hr
    have hs : T.size ≤ 1048576 := by
      rw [hT]
      unfold DateR.dateT
      simp only [ByteArray.size_append, DecR.digT_size]
      exact Nat.le_trans (Nat.le_refl 10) (by omega)
    obtain ⟨y, m, d, c, hi, _, hb⟩ := DateR.read_both T hs
    rw [e1, e2, e3] at hr
    obtain ⟨rfl, rfl, rfl, rfl⟩ := hb y' m' d' hr hT
    rw [e1, e2, e3]
    exact hi
/-- What is known of a day. -/
structure KnownK (k y m d g : Int) : Prop where
  di : ∀ w, Laid w → Calls Tryd.prog 17 #[.int .i64 k] w fun e w' => e = .returned (date y m d) ∧ Below w.heap.size w w'
  ds : ∀ w, Calls Tryd.prog 18 #[.int .i64 k] w fun e w' => e = .returned (date y m d) ∧ Below w.heap.size w w'
  gi : ∀ w, Calls Tryd.prog 25 #[.int .i64 k] w fun e w' => e = .returned (.int .i64 g) ∧ w' = w
  gs : ∀ w, Calls Tryd.prog 26 #[.int .i64 k] w fun e w' => e = .returned (.int .i64 g) ∧ w' = w
  next : 0 ≤ k → k ≤ 80000 → ∃ y' m' d' g' v : Int, (∀ w, Laid w → Calls Tryd.prog 17 #[.int .i64 (k + 1)] w fun e w' => e = .returned (date y' m' d') ∧ Below w.heap.size w w') ∧ (∀ w, Laid w → Calls Tryd.prog 7 #[date y m d] w fun e w' => e = .returned (.int .i64 k) ∧ Below w.heap.size w w') ∧ (∀ w, Calls Tryd.prog 25 #[.int .i64 (k + 7)] w fun e w' => e = .returned (.int .i64 g) ∧ w' = w) ∧ (∀ w, Calls Tryd.prog 25 #[.int .i64 (k + 1)] w fun e w' => e = .returned (.int .i64 g') ∧ w' = w) ∧ g ≠ g' ∧ (∀ w, DateR.Laid w → Calls Tryd.prog 21 #[.int .i64 y, .int .i64 m] w fun e w' => e = .returned (.int .i64 v) ∧ w' = w) ∧ 1 ≤ d ∧ d ≤ 31 ∧ ((d' = d + 1 ∧ m' = m) ∨ (d' = 1 ∧ d = v))
theorem knownK (k : Int) : ∃ y m d g, KnownK k y m d g := by
  obtain ⟨y, m, d, hd, hi, hs⟩ := DateR.dateof_both k
  refine ⟨y, m, d, wd k, fun w hL => hi w hL.1, hs, DateR.impl_wd k, DateR.spec_wd k, fun k0 k1 => ?_⟩
  obtain ⟨y', m', d', hd', hi', _⟩ := DateR.dateof_both (k + 1)
  have hy := ys_231
  rcases hd with ⟨_, _, h1, h2⟩ | ⟨hx, _⟩
  · rcases hd' with ⟨_, _, h1', h2'⟩ | ⟨hx, _⟩
    · obtain ⟨_, _, _, _, d1, d2⟩ := (right_iff y m d).1 h1
      have b := md_bd y m
      refine ⟨y', m', d', wd (k + 1), mdays y m, fun w hL => hi' w hL.1, fun w hL => ?_, fun w => ?_, DateR.impl_wd (k + 1), ?_, fun w hL => DateR.impl_md y m w hL, d1, by omega, next_day y m d y' m' d' h1 h1' (by omega)⟩
      · have := DateR.impl_dayof_in y m d w hL.1 h1
        rw [h2] at this
        exact this
      · have := DateR.impl_wd (k + 7) w
        rw [show wd (k + 7) = wd k by unfold wd; rw [if_pos (by omega), if_pos (by omega)]; omega] at this
        exact this
      · unfold wd
        rw [if_pos (by omega), if_pos (by omega)]
        omega
    · omega
  · omega
/-- What lies below, and a date's block. -/
def BoxQ (w : World) (B : Nat) (Y M D : Int) (w' : World) : Prop := Below w.heap.size w w' ∧ w.heap.size ≤ B ∧ B < w'.heap.size ∧ w'.cell? ⟨B, 0, none⟩ = some (.int .i64 Y) ∧ w'.cell? ⟨B, 1, none⟩ = some (.int .i64 M) ∧ w'.cell? ⟨B, 2, none⟩ = some (.int .i64 D)
theorem BoxQ.below {w w1 w2 : World} {B : Nat} {Y M D : Int} (h : BoxQ w B Y M D w1) (hb : Below w1.heap.size w1 w2) : BoxQ w B Y M D w2 := by
  obtain ⟨h0, h1, hl, c0, c1, c2⟩ := h
  have hs := hb.size
  have f := fun o => hb.cell (p := ⟨B, o, none⟩) hl
  exact ⟨h0.trans (hb.mono h0.size), h1, by omega, (f 0).trans c0, (f 1).trans c1, (f 2).trans c2⟩
theorem BoxQ.all {w w1 : World} {B : Nat} {Y M D : Int} (hL : Laid w) (h : BoxQ w B Y M D w1) : Laid w1 := All.below hL h.1
theorem BoxQ.drew {w w1 : World} {B : Nat} {Y M D : Int} (h : BoxQ w B Y M D w1) : BoxQ w B Y M D w1.drew := ⟨h.1.drew, h.2⟩
set_option maxRecDepth 100000 in
set_option maxHeartbeats 16000000 in
theorem law_in (ac ad : Option Addr) (lc cc ld cd : Nat) (w : World) (hL : Laid w) (hc : lc ≤ 1048576) (hd : ld ≤ 1048576) (hBc : Bytes ac lc w) (hBd : Bytes ad ld w) :
    Calls Tryd.prog 3 #[.slice ac lc cc, .slice ad ld cd] w fun e w' => e = .returned (.bool true) ∧ Below w.heap.size w w' := by
  have H1 := hid_intro (fun w hB => ddate_any ac lc cc w hc hB)
  have H2 := hid_intro (fun w hB => dread_any ad ld cd w hd hB)
  have H3 := hid_intro (fun w hB => dday_any ad ld cd w hd hB)
  have H4 := hid_intro (fun w hB => dmdays_any ac lc cc w hc hB)
  have H5 := hid_intro (fun w hB => dleap_any ad ld cd w hd hB)
  have HC := hid_intro hBc
  have HD := hid_intro hBd
  have HL := hid_intro hL
  have HB := hid_intro (Below.refl w.heap.size w)
  have hc2 : ¬ (1048576 : Int) < (lc : Int) := by omega
  have hd2 : ¬ (1048576 : Int) < (ld : Int) := by omega
  clear hBc hBd hL hc hd
  go_enter Tryd.func3, Tryd.ntmps3
  go_wp2_with fail
  refine (H1.out _ HC.out).mono ?_
  rintro e wd ⟨⟨Y, M, D, rfl⟩, hb⟩
  replace HB := hid_intro (hb.alloc hb.size (.cells #[.int .i64 Y, .int .i64 M, .int .i64 D] 24))
  have HW0 := hid_intro hb.size
  have HDB := hid_intro (DB.new wd 24 Y M D)
  obtain ⟨n, T, r, hK⟩ := knownD Y M D
  have KD := hid_intro hK
  have NI := hid_intro KD.out.ni
  have TI := hid_intro KD.out.ti
  clear hb hK
  unfold date at *
  go_wp2_with fail
  refine (NI.out _ (All.below HL.out HB.out)).mono ?_
  rintro e w1 ⟨rfl, hb⟩
  replace HB := hid_intro (HB.out.trans (hb.mono HB.out.size))
  replace HDB := hid_intro (HDB.out.grown (grown_of hb) (by simp))
  clear hb
  obtain ⟨dl, d0, d1, d2, _, _, _⟩ := HDB.out
  go_wp2_with fail
  refine (TI.out _ (All.below HL.out HB.out)).mono ?_
  rintro e w2 ⟨rfl, hb⟩
  replace HB := hid_intro (HB.out.trans (hb.mono HB.out.size))
  replace HDB := hid_intro (HDB.out.grown (grown_of hb) (by simp))
  clear hb
  obtain ⟨dl, d0, d1, d2, _, _, _⟩ := HDB.out
  go_wp2_with fail
  refine (H2.out _ (HD.out.below HB.out)).mono ?_
  rintro e wu ⟨⟨U, rfl, hU⟩, hb⟩
  replace HB := hid_intro (HB.out.trans (hb.mono HB.out.size))
  replace HDB := hid_intro (HDB.out.grown (grown_of hb) (by simp))
  obtain ⟨ry, rm, rd, rc, hri, hrs, _⟩ := DateR.read_both U (by omega)
  have RI := hid_intro hri
  have RS := hid_intro hrs
  clear hb hri hrs hU
  obtain ⟨dl, d0, d1, d2, _, _, _⟩ := HDB.out
  go_wp2_with fail
  refine (H3.out _ (HD.out.below HB.out)).mono ?_
  rintro e wk ⟨⟨k, rfl, k0, k1⟩, hb⟩
  replace HB := hid_intro (HB.out.trans (hb.mono HB.out.size))
  replace HDB := hid_intro (HDB.out.grown (grown_of hb) (by simp))
  obtain ⟨ky, km, kd, kg, hK⟩ := knownK k
  have KK := hid_intro hK
  clear hb hK
  obtain ⟨dl, d0, d1, d2, _, _, _⟩ := HDB.out
  go_wp2_with fail
  refine (H4.out _ (HC.out.below HB.out)).mono ?_
  rintro e wy ⟨⟨y, m, rfl⟩, hb⟩
  replace HB := hid_intro (HB.out.trans (hb.mono HB.out.size))
  replace HDB := hid_intro (HDB.out.grown (grown_of hb) (by simp))
  have MI := hid_intro (fun w (hL : Laid w) => DateR.impl_md y m w hL.1)
  have MS := hid_intro (fun w => DateR.spec_md y m w)
  generalize mdays y m = mv at *
  clear hb
  obtain ⟨dl, d0, d1, d2, _, _, _⟩ := HDB.out
  go_wp2_with fail
  refine (H5.out _ (HD.out.below HB.out)).mono ?_
  rintro e wl ⟨⟨yr, rfl⟩, hb⟩
  replace HB := hid_intro (HB.out.trans (hb.mono HB.out.size))
  replace HDB := hid_intro (HDB.out.grown (grown_of hb) (by simp))
  have LI := hid_intro (fun w => DateR.impl_leap yr w)
  have LS := hid_intro (fun w => DateR.spec_leap yr w)
  generalize leapB yr = lv at *
  clear hb H1 H2 H3 H4 H5
  unfold dout at *
  obtain ⟨dl, d0, d1, d2, _, _, _⟩ := HDB.out
  go_wp2_with fail
  have DI := hid_intro KK.out.di
  have DS := hid_intro KK.out.ds
  have NS := hid_intro KD.out.ns
  have TS := hid_intro KD.out.ts
  have RRI := hid_intro KD.out.ri
  have RRS := hid_intro KD.out.rs
  unfold date at DI DS NS TS RRI RRS
  have HQ0 := hid_intro (show BoxQ w wd.heap.size Y M D _ from ⟨HB.out, HW0.out, dl, d0, d1, d2⟩)
  have HQ1 := hid_intro HQ0.out.drew
  clear dl d0 d1 d2 HB HDB
  go_region_held3 (fun w' => Below w.heap.size w w' ∧ w.heap.size ≤ wd.heap.size ∧ wd.heap.size < w'.heap.size ∧ w'.cell? ⟨wd.heap.size, 0, none⟩ = some (.int .i64 Y) ∧ w'.cell? ⟨wd.heap.size, 1, none⟩ = some (.int .i64 M) ∧ w'.cell? ⟨wd.heap.size, 2, none⟩ = some (.int .i64 D)) (first | assumption | (exact HQ0.out) | (exact HQ1.out) | (exact BoxQ.below (w := w) (B := wd.heap.size) (Y := Y) (M := M) (D := D) (by assumption) hb))
      (first | (go_at_call 13; refine (NS.out _).mono ?_; rintro e w' ⟨rfl, hb⟩) | (go_at_call 14; refine (TS.out _).mono ?_; rintro e w' ⟨rfl, hb⟩) | (go_at_call 15; refine (RI.out _ (BoxQ.all (w := w) (B := wd.heap.size) (Y := Y) (M := M) (D := D) HL.out (by assumption))).mono ?_; rintro e w' ⟨rfl, hb⟩) | (go_at_call 16; refine (RS.out _).mono ?_; rintro e w' ⟨rfl, hb⟩) | (go_at_call 17; refine (DI.out _ (BoxQ.all (w := w) (B := wd.heap.size) (Y := Y) (M := M) (D := D) HL.out (by assumption))).mono ?_; rintro e w' ⟨rfl, hb⟩) | (go_at_call 18; refine (DS.out _).mono ?_; rintro e w' ⟨rfl, hb⟩) | (go_at_call 19; refine (RRI.out _ (BoxQ.all (w := w) (B := wd.heap.size) (Y := Y) (M := M) (D := D) HL.out (by assumption))).mono ?_; rintro e w' ⟨rfl, hb⟩) | (go_at_call 20; refine (RRS.out _).mono ?_; rintro e w' ⟨rfl, hb⟩) | (go_at_call 21; refine (MI.out _ (BoxQ.all (w := w) (B := wd.heap.size) (Y := Y) (M := M) (D := D) HL.out (by assumption))).mono ?_; rintro e w' ⟨rfl, rfl⟩) | (go_at_call 22; refine (MS.out _).mono ?_; rintro e w' ⟨rfl, hb⟩) | (go_at_call 23; refine (LI.out _).mono ?_; rintro e w' ⟨rfl, rfl⟩) | (go_at_call 24; refine (LS.out _).mono ?_; rintro e w' ⟨rfl, rfl⟩) | (go_at_call 25; refine (KK.out.gi _).mono ?_; rintro e w' ⟨rfl, rfl⟩) | (go_at_call 26; refine (KK.out.gs _).mono ?_; rintro e w' ⟨rfl, rfl⟩))
  rename_i hS
  have HQ := hid_intro (show BoxQ w wd.heap.size Y M D _ from hS)
  clear hS HQ0 HQ1 NI TI NS TS DS RI RS MI MS LI LS RRI
  obtain ⟨-, -, dl, d0, d1, d2⟩ := HQ.out
  have KB := hid_intro KD.out.back
  have HQD := hid_intro HQ.out.drew
  go_wp2_with fail
  go_cut [108] from 94 (fun q wx => q = .bool false ∧ Hid (BoxQ w wd.heap.size Y M D wx))
  case first =>
    cases r
    · have hu : undef = Value.tuple #[] := rfl
      first | go_region_with (go_at_call 20; refine (RRS.out _).mono ?_; rintro e wr ⟨rfl, hb⟩) | fail
      all_goals (
        have HQ2 := hid_intro (HQD.out.below hb)
        clear hb
        go_wp2_with fail
        go_meet
        case rel => exact ⟨rfl, HQ2⟩)
    · obtain ⟨b1, b2⟩ := KB.out rfl
      have BI := hid_intro b1
      have BR := hid_intro b2
      clear b1 b2
      unfold date at BI
      unfold dout at BR
      go_region_held3 (fun w' => Below w.heap.size w w' ∧ w.heap.size ≤ wd.heap.size ∧ wd.heap.size < w'.heap.size ∧ w'.cell? ⟨wd.heap.size, 0, none⟩ = some (.int .i64 Y) ∧ w'.cell? ⟨wd.heap.size, 1, none⟩ = some (.int .i64 M) ∧ w'.cell? ⟨wd.heap.size, 2, none⟩ = some (.int .i64 D)) (first | assumption | (exact HQ.out) | (exact HQD.out) | (exact BoxQ.below (w := w) (B := wd.heap.size) (Y := Y) (M := M) (D := D) (by assumption) hb))
        (first | (go_at_call 20; refine (RRS.out _).mono ?_; rintro e w' ⟨rfl, hb⟩) | (go_at_call 17; refine (BI.out _ (BoxQ.all (w := w) (B := wd.heap.size) (Y := Y) (M := M) (D := D) HL.out (by assumption))).mono ?_; rintro e w' ⟨rfl, hb⟩) | (go_at_call 15; refine (BR.out _ (BoxQ.all (w := w) (B := wd.heap.size) (Y := Y) (M := M) (D := D) HL.out (by assumption))).mono ?_; rintro e w' ⟨rfl, hb⟩))
      rename_i hS
      have HQ2 := hid_intro (show BoxQ w wd.heap.size Y M D _ from hS)
      clear hS
      go_wp2_with fail
      go_meet
      case rel => exact ⟨rfl, HQ2⟩
  case rest =>
    obtain ⟨rfl, HQ2⟩ := hcut
    replace HQ := HQ2
    clear HQ2 HQD dl d0 d1 d2 KB RRS
    rcases (show (¬ 0 ≤ k) ∨ (0 ≤ k ∧ ¬ k ≤ 80000) ∨ (0 ≤ k ∧ k ≤ 80000) by omega) with l1 | ⟨l1, l2⟩ | ⟨l1, l2⟩
    · go_wp2_with (first | (go_at_call 27; go_in))
      go_ret
      exact ⟨rfl, HQ.out.1⟩
    · go_wp2_with (first | (go_at_call 27; go_in))
      go_ret
      exact ⟨rfl, HQ.out.1⟩
    · obtain ⟨y', m', d', g', v, nz, nx, n7, n1, ng, nm, e1, e2, hor⟩ := KK.out.next l1 l2
      have NZ := hid_intro nz
      have NX := hid_intro nx
      have N7 := hid_intro n7
      have N1 := hid_intro n1
      have NM := hid_intro nm
      have NG := hid_intro KK.out.gi
      have HOR := hid_intro hor
      clear nz nx n7 n1 nm hor
      unfold date at NZ NX
      go_wp2_with (first | (go_at_call 27; go_in))
      refine (DI.out _ (HQ.out.all HL.out)).mono ?_
      rintro e wx ⟨rfl, hb⟩
      have HB := hid_intro (HQ.out.1.trans (hb.mono HQ.out.1.size))
      clear hb
      go_wp2_with fail
      refine (NZ.out _ (All.below HL.out (HB.out.alloc HB.out.size _))).mono ?_
      rintro e wz ⟨rfl, hb⟩
      have hX := (DB.new wx 24 ky km kd).grown (grown_of hb) (by simp)
      replace HB := hid_intro ((HB.out.alloc HB.out.size _).trans (hb.mono (HB.out.alloc HB.out.size _).size))
      have hXZ := hX.grown (World.grownBy_alloc wz (.cells #[.int .i64 y', .int .i64 m', .int .i64 d'] 24) none) (by simp)
      have hZ := DB.new wz 24 y' m' d'
      replace HB := hid_intro (HB.out.alloc HB.out.size (.cells #[.int .i64 y', .int .i64 m', .int .i64 d'] 24))
      have HX := hid_intro hXZ
      have HZ := hid_intro hZ
      obtain ⟨xl, x0, x1, x2, -, -, -⟩ := hXZ
      clear hb hX hZ
      go_wp2_with fail
      refine (NX.out _ (All.below HL.out HB.out)).mono ?_
      rintro e wv ⟨rfl, hb⟩
      replace HB := hid_intro (HB.out.trans (hb.mono HB.out.size))
      replace HX := hid_intro (HX.out.grown (grown_of hb) (by simp))
      replace HZ := hid_intro (HZ.out.grown (grown_of hb) (by simp))
      clear hb xl x0 x1 x2
      have k7 : k + 7 ≤ 80007 := by omega
      have ng2 : (kg == g') = false := by simpa using ng
      go_wp2_with fail
      refine (N7.out _).mono ?_
      rintro e w' ⟨rfl, rfl⟩
      go_wp2_with fail
      refine (NG.out _).mono ?_
      rintro e w' ⟨rfl, rfl⟩
      go_wp2_with fail
      refine (NG.out _).mono ?_
      rintro e w' ⟨rfl, rfl⟩
      go_wp2_with fail
      refine (N1.out _).mono ?_
      rintro e w' ⟨rfl, rfl⟩
      obtain ⟨xl, x0, x1, x2, -, -, -⟩ := HX.out
      obtain ⟨zl, z0, z1, z2, -, -, -⟩ := HZ.out
      go_wp2_with fail
      have HLV := hid_intro (All.below HL.out HB.out).1
      have HZD : Hid ((d' = kd + 1 ∧ m' = km) ∨ (¬ d' = kd + 1 ∧ d' = 1 ∧ kd = v)) := hid_intro (by have := HOR.out; omega)
      clear N7 NG N1 NX NZ DI HOR KK
      have kd0 : ¬ kd = 0 := by omega
      have kd1 : ¬ (1 : Int) = kd + 1 := by omega
      have kd2 : ((1 : Int) == kd + 1) = false := by simpa using kd1
      have kd3 : (kd == 0) = false := by simpa using kd0
      rcases HZD.out with ⟨rfl, rfl⟩ | ⟨hne, rfl, rfl⟩
      · go_quiet ((go_at_call 21; exact Calls.quiet_of_same (NM.out _ (by first | exact HLV.out | exact DateR.Laid.drewN HLV.out _))))
        go_wp2
        go_ret
        exact ⟨rfl, DateR.bel_drewN HB.out _⟩
      · go_quiet ((go_at_call 21; exact Calls.quiet_of_same (NM.out _ (by first | exact HLV.out | exact DateR.Laid.drewN HLV.out _))))
        go_wp2
        go_ret
        exact ⟨rfl, DateR.bel_drewN HB.out _⟩
set_option maxRecDepth 100000 in
theorem walk (a0 : Option Addr) (len0 cap0 : Nat) (z0 : List Int) (a1 : Option Addr) (len1 cap1 : Nat) (z1 : List Int) (w : World) (w0 : IsRow .u8 w a0 len0 cap0 z0) (w1 : IsRow .u8 w a1 len1 cap1 z1) (hL : Laid w) :
    Calls Tryd.prog 3 #[.slice a0 len0 cap0, .slice a1 len1 cap1] w fun e w' => e = .returned (.bool true) ∧ Below w.heap.size w w' := by
  have l0 := w0.len
  have l1 := w1.len
  unfold maxLen at l0 l1
  by_cases h0 : len0 ≤ 1048576
  · by_cases h1 : len1 ≤ 1048576
    · exact law_in a0 a1 len0 cap0 len1 cap1 w hL h0 h1 w0.bytes w1.bytes
    · have q0 : ¬ (1048576 : Int) < (len0 : Int) := by omega
      have q1 : (1048576 : Int) < (len1 : Int) := by omega
      clear w0 w1 hL
      go_enter Tryd.func3, Tryd.ntmps3
      go_wp2
      go_ret
      exact ⟨rfl, Below.refl _ _⟩
  · have q0 : (1048576 : Int) < (len0 : Int) := by omega
    clear w0 w1 hL
    go_enter Tryd.func3, Tryd.ntmps3
    go_wp2
    go_ret
    exact ⟨rfl, Below.refl _ _⟩
set_option maxRecDepth 100000 in
theorem lifted (os : Os) (started : os.Started) (H : Type) (enc : TypeId × Value → H) :
    ReturnsInHanded {} Tryd.checked os 3 .any (fun w args => (Rows.fnDateSpec.pre enc Tryd.prog Tryd.f3 [] false w args ∧ laidMetH Tryd.prog LayR.laid w) ∧ sizedMet enc Tryd.prog Tryd.f3 (OpenSpec.ofChange Rows.fnDateSpec) false w args)
      (Rows.fnDateSpec.post enc Tryd.prog Tryd.f3 false true false false) := by
  refine returnsInHanded_of_change_and (C := Tryd.checked) (X := fun w _ => laidMetH Tryd.prog LayR.laid w) (fun _ _ _ hh h => h.of_heap hh) LayR.own started (by kernel_rfl) Tryd.func3
    (ChangeSpec.witness_shaped (enc := enc) (C := Tryd.checked) (os := os) (X := fun w _ => laidMetH Tryd.prog LayR.laid w) false (World.doorLaid Tryd.prog 400 os) #[.slice none 0 0, .slice none 0 0] 8 rfl (World.shaped_of_RefB (by kernel_rfl) (by kernel_rfl)) (by kernel_rfl) (by kernel_rfl) (by kernel_rfl) (LayR.door_met os _)) ?_
  intro W base args ds gs before hval0 hW _ _ hL _
  have hval : ∀ (j : Nat) t v, Tryd.f3.params[j]? = some t → args[j]? = some v → Value.okWide Tryd.prog W .any base t v := hval0
  have hW' := hW
  obtain ⟨p, q, hA0, hV0, rfl, hfz, hnd⟩ := hW
  have hA : DataW.TrodAll enc Tryd.prog W 0 (fun _ => true) true Tryd.f3.params.toList args.toList ds p := hA0
  have hV : DataW.TrodVars enc Tryd.prog W (fun _ => true) ["loop.example/g00562/impl.monthLengths"] gs q := hV0
  rw [Tryd.params3] at hA hval
  obtain ⟨v0, v1, d0, d1, p0, p1, rfl, rfl, rfl, h0, h1⟩ := trodAll_two hA
  have k0 := h0
  have lt0 : ∀ x ∈ p0, x.block < W.heap.size := fun x hx => hW'.lt x (by simp [hx])
  obtain ⟨a0, len0, cap0, rfl⟩ := okWide_slice Tryd.underlying22 (hval 0 22 v0 rfl rfl)
  obtain ⟨z0, w0⟩ : ∃ zs, IsRow .u8 W a0 len0 cap0 zs := by
    obtain ⟨fuel, hf⟩ := h0
    rcases open_ints Tryd.underlying22 Tryd.underlying5 (by kernel_rfl) hf with ⟨hcs, _⟩ | ⟨x, l, c, zs, hcs, _, hl, hm, hz, _, hcell, hwz⟩
    · simp [Value.cells] at hcs
      obtain ⟨rfl, rfl, rfl⟩ := hcs
      exact ⟨[], .inl ⟨rfl, rfl, rfl, rfl⟩⟩
    · simp [Value.cells] at hcs
      obtain ⟨rfl, rfl, rfl⟩ := hcs
      exact ⟨zs, .inr ⟨_, rfl, hl, hm, by simpa using hz, hcell, hwz⟩⟩
  have k1 := h1
  have lt1 : ∀ x ∈ p1, x.block < W.heap.size := fun x hx => hW'.lt x (by simp [hx])
  obtain ⟨a1, len1, cap1, rfl⟩ := okWide_slice Tryd.underlying22 (hval 1 22 v1 rfl rfl)
  obtain ⟨z1, w1⟩ : ∃ zs, IsRow .u8 W a1 len1 cap1 zs := by
    obtain ⟨fuel, hf⟩ := h1
    rcases open_ints Tryd.underlying22 Tryd.underlying5 (by kernel_rfl) hf with ⟨hcs, _⟩ | ⟨x, l, c, zs, hcs, _, hl, hm, hz, _, hcell, hwz⟩
    · simp [Value.cells] at hcs
      obtain ⟨rfl, rfl, rfl⟩ := hcs
      exact ⟨[], .inl ⟨rfl, rfl, rfl, rfl⟩⟩
    · simp [Value.cells] at hcs
      obtain ⟨rfl, rfl, rfl⟩ := hcs
      exact ⟨zs, .inr ⟨_, rfl, hl, hm, by simpa using hz, hcell, hwz⟩⟩
  have hl := LayR.of_laid hL
  obtain ⟨_, _, _, _, gd, _, rfl, _, _, _, _, _⟩ := trodVars_one hV
  refine (walk a0 len0 cap0 z0 a1 len1 cap1 z1 W w0 w1 hl).mono fun e W' ⟨he, bel⟩ => ?_
  subst he
  exact ⟨_, rfl, _, _, _, _, _, _, hW', trodAll_mk1 (shut_bool Tryd.underlying4 true), trodAll_mk2 (Below.trod LayR.laidOut (by kernel_rfl) (of_decide_eq_true (by kernel_rfl)) k0 bel lt0) (Below.trod LayR.laidOut (by kernel_rfl) (of_decide_eq_true (by kernel_rfl)) k1 bel lt1), bel.trodVars LayR.laidOut (by kernel_rfl) hV, bel.frame _, fun h => by cases h⟩
theorem row_holds : Rows.FnDateSaid :=
  OpenClaim.holds_of_wide 3 Tryd.f3 rfl rfl rfl rfl rfl rfl rfl ⟨rfl, rfl, rfl, rfl, rfl⟩ rfl rfl rfl rfl rfl (by kernel_rfl) Tryd.func3 (by kernel_rfl)
    (of_decide_eq_true (by kernel_rfl)) (by unfold Func.isWrapper; rw [if_neg (of_decide_eq_false (by kernel_rfl))]; exact ⟨rfl, rfl⟩)
    (fun os started H enc _ => lifted os started H enc)
theorem card_holds : Rows.FnDateCardSaid :=
  Claim7.holds_tied_plain_at .later [] [.data, .data, .data, .sentinel, .sentinel, .data] true Rows.fnDateCard.stood.harness true
    row_holds (fun _ h => by cases h) (by kernel_rfl) (fun _ h => by cases h) fnDate_row_tie rfl ⟨rfl, rfl⟩ (by kernel_rfl) rfl
    (fun f fn hf hfn => by
      obtain rfl : f = 3 := Option.some.inj ((show Tryd.prog.funcNamed "loop.example/g00562/laws.FnDate" = some 3 by kernel_rfl).symm.trans hf) |>.symm
      obtain rfl : fn = Tryd.f3 := (Option.some.inj (Tryd.func3.symm.trans hfn)).symm
      exact ⟨by kernel_rfl, fun j t ht => by
        rw [Tryd.params3] at ht
        have hm : t ∈ [22, 22] := by simpa using Array.mem_of_getElem? ht
        have hall : ([22, 22].all fun u => !Tryd.prog.wantsStandIn u) = true := by kernel_rfl
        exact (show Tryd.prog.wantsStandIn t = false by simpa using List.all_eq_true.1 hall t hm)⟩)
    (by kernel_rfl)
end FnDateL
/-- THE STATEMENT: THE CARD -/
theorem fnDate_holds : Rows.FnDateCardSaid := FnDateL.card_holds
#print axioms fnDate_holds
end Go.Proofs.YtfnkhohommahoaaDoor
