/-
  FnMonth: for all bytes the law's call returns true, and the bytes read as they did: a minute lies in its month, and in its hour; the first minute of a month is of it, and the one ahead is of the month ahead; a later minute is of no earlier month. The condition is the card's: the program's and the library's tables start as their text lays them.
-/
import Derived.Test.YtfnkhohommahoaaDoorMonthTxt
import Derived.Test.YtfnkhohommahoaaDoorHour
import Derived.Test.YtfnkhohommahoaaDoorDrawMon
import Derived.Test.YtfnkhohommahoaaDoorTablT
import Derived.Test.YtfnkhohommahoaaDoorCards
import Derived.Carry
import Derived.OpenVars
import Derived.Lib.SmallJoins
import Derived.SevenTiedAt
namespace Go.Proofs.YtfnkhohommahoaaDoor
open Go.ChangeShapes Go.WideShapes Go.ChangeAt Go.RowKit
set_option linter.unusedVariables false
namespace FnMonthL
open DrawR (Bytes IsRow dhour_any dmonth_any dstart_any hid_intro)
open DateR (MonthIs StartIs month_both start_both mtext_both)
open HourR (hourV)
open DateM
open LayT (Laid)
theorem month_top {n x : Int} (h : MonthIs n x) : (x = -1 ∧ ¬ (0 ≤ n ∧ n ≤ 121000000)) ∨ (0 ≤ n ∧ n ≤ 121000000 ∧ ∃ k : Nat, x = k ∧ k ≤ 2760 ∧ fd k ≤ n / 1440 ∧ n / 1440 < fd (k + 1)) := by
  rcases h with ⟨h1, h2, k, rfl, _, h3, h4⟩ | ⟨h1, rfl⟩
  · refine .inr ⟨h1, h2, k, rfl, ?_, h3, h4⟩
    have e := fd_2760
    have s := fd_step 2760
    exact fd_one h3 (show n / 1440 < fd (2760 + 1) by omega)
  · exact .inl ⟨rfl, h1⟩
theorem start_at {n x a : Int} (h : MonthIs n x) (hx : 0 ≤ x) (ha : StartIs x a) : a ≤ n := by
  rcases month_top h with ⟨rfl, _⟩ | ⟨h1, h2, k, rfl, hk, h3, h4⟩
  · omega
  · rcases ha with ⟨j, hj, _, rfl⟩ | ⟨hj, _⟩
    · obtain rfl : k = j := by omega
      omega
    · omega
theorem start_next {n x b : Int} (h : MonthIs n x) (hx : 0 ≤ x) (hx2 : x < 2760) (hb : StartIs (x + 1) b) : n < b := by
  rcases month_top h with ⟨rfl, _⟩ | ⟨h1, h2, k, rfl, hk, h3, h4⟩
  · omega
  · rcases hb with ⟨j, hj, _, rfl⟩ | ⟨hj, _⟩
    · obtain rfl : j = k + 1 := by omega
      omega
    · omega
theorem start_bd {m s : Int} (h : StartIs m s) : (s = -1 ∧ ¬ (0 ≤ m ∧ m ≤ 2760)) ∨ ∃ k : Nat, m = k ∧ k ≤ 2760 ∧ s = fd k * 1440 ∧ 0 ≤ fd k ∧ fd k ≤ 84006 := by
  rcases h with ⟨k, rfl, hk, rfl⟩ | ⟨h1, rfl⟩
  · have := fd_bd k
    have := fd_mono hk
    have := fd_2760
    exact .inr ⟨k, rfl, hk, rfl, by omega, by omega⟩
  · exact .inl ⟨rfl, h1⟩
theorem month_of_start {m s c : Int} (h : StartIs m s) (hs : 0 ≤ s) (hc : MonthIs s c) : c = m := by
  rcases start_bd h with ⟨rfl, _⟩ | ⟨k, rfl, hk, rfl, b1, b2⟩
  · omega
  · rcases month_top hc with ⟨rfl, hh⟩ | ⟨h1, h2, j, rfl, hj, h3, h4⟩
    · omega
    · have e : fd k * 1440 / 1440 = fd k := by omega
      rw [e] at h3 h4
      have := fd_step k
      have a1 : j ≤ k := fd_one h3 (by omega)
      have a2 : k ≤ j := fd_one (Int.le_refl (fd k)) h4
      omega
theorem month_ahead {m s c : Int} (h : StartIs m s) (hs : 0 < s) (hc : MonthIs (s - 1) c) : c = m - 1 := by
  rcases start_bd h with ⟨rfl, _⟩ | ⟨k, rfl, hk, rfl, b1, b2⟩
  · omega
  · obtain ⟨k, rfl⟩ : ∃ i, k = i + 1 := by
      cases k with
      | zero => rw [fd_zero] at hs; omega
      | succ i => exact ⟨i, rfl⟩
    rcases month_top hc with ⟨rfl, hh⟩ | ⟨h1, h2, j, rfl, hj, h3, h4⟩
    · omega
    · have e : (fd (k + 1) * 1440 - 1) / 1440 = fd (k + 1) - 1 := by omega
      rw [e] at h3 h4
      have := fd_step k
      have a1 : j ≤ k := fd_one h3 (by omega)
      have a2 : k ≤ j := fd_one (show fd k ≤ fd (k + 1) - 1 by omega) h4
      omega
theorem month_later {n h x y : Int} (hx : MonthIs n x) (hy : MonthIs h y) (h0 : 0 ≤ x) (h1 : n ≤ h) (h2 : h ≤ 121000000) : x ≤ y := by
  rcases month_top hx with ⟨rfl, _⟩ | ⟨a1, a2, k, rfl, hk, a3, a4⟩
  · omega
  · rcases month_top hy with ⟨rfl, hh⟩ | ⟨b1, b2, j, rfl, hj, b3, b4⟩
    · omega
    · have : k ≤ j := fd_one a3 (show n / 1440 < fd (j + 1) by omega)
      omega
theorem hour_at (n : Int) (h1 : 0 ≤ n) (h2 : n ≤ 121000000) : 0 ≤ hourV n ∧ hourV n ≤ 121000000 ∧ hourV n * 60 ≤ n ∧ n ≤ hourV n * 60 + 59 := by
  unfold hourV
  rw [if_pos ⟨h1, h2⟩, Int.tdiv_eq_ediv_of_nonneg h1]
  omega
/-- What is known of a minute, a month and another minute. -/
structure Known (n m x s a b c d H : Int) (T : ByteArray) : Prop where
  xi : ∀ w, Laid w → Calls Tryd.prog 30 #[.int .i64 n] w fun e w' => e = .returned (.int .i64 x) ∧ Below w.heap.size w w'
  xs : ∀ w, Calls Tryd.prog 33 #[.int .i64 n] w fun e w' => e = .returned (.int .i64 x) ∧ Below w.heap.size w w'
  si : ∀ w, Laid w → Calls Tryd.prog 31 #[.int .i64 m] w fun e w' => e = .returned (.int .i64 s) ∧ Below w.heap.size w w'
  ss : ∀ w, Calls Tryd.prog 34 #[.int .i64 m] w fun e w' => e = .returned (.int .i64 s) ∧ Below w.heap.size w w'
  ti : ∀ w, Laid w → Calls Tryd.prog 37 #[.int .i64 m] w fun e w' => e = .returned (.string T) ∧ Below w.heap.size w w'
  ts : ∀ w, Calls Tryd.prog 38 #[.int .i64 m] w fun e w' => e = .returned (.string T) ∧ Below w.heap.size w w'
  hi : ∀ w, Calls Tryd.prog 35 #[.int .i64 n] w fun e w' => e = .returned (.int .i64 H) ∧ w' = w
  ai : ∀ w, Laid w → Calls Tryd.prog 31 #[.int .i64 x] w fun e w' => e = .returned (.int .i64 a) ∧ Below w.heap.size w w'
  bi : ∀ w, Laid w → Calls Tryd.prog 31 #[.int .i64 (x + 1)] w fun e w' => e = .returned (.int .i64 b) ∧ Below w.heap.size w w'
  ci : ∀ w, Laid w → Calls Tryd.prog 30 #[.int .i64 s] w fun e w' => e = .returned (.int .i64 c) ∧ Below w.heap.size w w'
  di : ∀ w, Laid w → Calls Tryd.prog 30 #[.int .i64 (s - 1)] w fun e w' => e = .returned (.int .i64 d) ∧ Below w.heap.size w w'
  xb : x = -1 ∨ (0 ≤ x ∧ x ≤ 2760 ∧ ¬ n < a ∧ (x < 2760 → ¬ b ≤ n) ∧ 0 ≤ H ∧ H ≤ 121000000 ∧ ¬ n < H * 60 ∧ ¬ H * 60 + 59 < n)
  sb : s = -1 ∨ (0 ≤ s ∧ s ≤ 121000000 ∧ c = m ∧ (0 < s → d = m - 1))
  later : ∀ h : Int, ∃ y G : Int, (∀ w, Calls Tryd.prog 35 #[.int .i64 h] w fun e w' => e = .returned (.int .i64 G) ∧ w' = w) ∧ (∀ w, Calls Tryd.prog 36 #[.int .i64 h] w fun e w' => e = .returned (.int .i64 G) ∧ w' = w) ∧ (∀ w, Laid w → Calls Tryd.prog 30 #[.int .i64 h] w fun e w' => e = .returned (.int .i64 y) ∧ Below w.heap.size w w') ∧ (0 ≤ x → n ≤ h → h ≤ 121000000 → x ≤ y)
theorem known (n m : Int) : ∃ x s a b c d H T, Known n m x s a b c d H T := by
  obtain ⟨x, hx, xi, xs⟩ := month_both n
  obtain ⟨s, hs, si, ss⟩ := start_both m
  obtain ⟨T, _, ti, ts⟩ := mtext_both m
  obtain ⟨a, ha, ai, _⟩ := start_both x
  obtain ⟨b, hb, bi, _⟩ := start_both (x + 1)
  obtain ⟨c, hc, ci, _⟩ := month_both s
  obtain ⟨d, hd, di, _⟩ := month_both (s - 1)
  refine ⟨x, s, a, b, c, d, hourV n, T, fun w hL => xi w hL.1, xs, fun w hL => si w hL.1, ss, fun w hL => ti w hL.2, ts, HourR.impl_hour n, fun w hL => ai w hL.1, fun w hL => bi w hL.1, fun w hL => ci w hL.1, fun w hL => di w hL.1, ?_, ?_, ?_⟩
  · rcases month_top hx with ⟨h1, _⟩ | ⟨h1, h2, k, hk, hk2, _, _⟩
    · exact .inl h1
    · obtain ⟨q1, q2, q3, q4⟩ := hour_at n h1 h2
      have := start_at hx (by omega) ha
      exact .inr ⟨by omega, by omega, by omega, fun h3 => by have := start_next hx (by omega) h3 hb; omega, q1, q2, by omega, by omega⟩
  · rcases start_bd hs with ⟨h1, _⟩ | ⟨k, hk, hk2, e, b1, b2⟩
    · exact .inl h1
    · exact .inr ⟨by omega, by omega, month_of_start hs (by omega) hc, fun h3 => month_ahead hs h3 hd⟩
  · intro h
    obtain ⟨y, hy, yi, _⟩ := month_both h
    exact ⟨y, hourV h, HourR.impl_hour h, HourR.spec_hour h, fun w hL => yi w hL.1, fun h0 h1 h2 => month_later hx hy h0 h1 h2⟩
theorem x_cut (n x a b H : Int) (h : x = -1 ∨ (0 ≤ x ∧ x ≤ 2760 ∧ ¬ n < a ∧ (x < 2760 → ¬ b ≤ n) ∧ 0 ≤ H ∧ H ≤ 121000000 ∧ ¬ n < H * 60 ∧ ¬ H * 60 + 59 < n)) : (¬ 0 ≤ x ∧ x < 0) ∨ (0 ≤ x ∧ ¬ x < 0 ∧ x < 2760 ∧ ¬ n < a ∧ ¬ b ≤ n ∧ 0 ≤ H ∧ H ≤ 121000000 ∧ ¬ n < H * 60 ∧ ¬ H * 60 + 59 < n) ∨ (0 ≤ x ∧ ¬ x < 0 ∧ ¬ x < 2760 ∧ x ≤ 2760 ∧ ¬ n < a ∧ 0 ≤ H ∧ H ≤ 121000000 ∧ ¬ n < H * 60 ∧ ¬ H * 60 + 59 < n) := by
  rcases h with rfl | ⟨h1, h2, h3, h4, h5, h6, h7, h8⟩
  · exact .inl ⟨by omega, by omega⟩
  · by_cases q : x < 2760
    · exact .inr (.inl ⟨h1, by omega, q, h3, h4 q, h5, h6, h7, h8⟩)
    · exact .inr (.inr ⟨h1, by omega, q, h2, h3, h5, h6, h7, h8⟩)
theorem s_cut (s m c d : Int) (h : s = -1 ∨ (0 ≤ s ∧ s ≤ 121000000 ∧ c = m ∧ (0 < s → d = m - 1))) : (¬ 0 ≤ s) ∨ (0 ≤ s ∧ s ≤ 121000000 ∧ c = m ∧ ¬ 0 < s) ∨ (0 ≤ s ∧ s ≤ 121000000 ∧ c = m ∧ 0 < s ∧ d = m - 1) := by
  rcases h with rfl | ⟨h1, h2, h3, h4⟩
  · exact .inl (by omega)
  · by_cases h5 : 0 < s
    · exact .inr (.inr ⟨h1, h2, h3, h5, h4 h5⟩)
    · exact .inr (.inl ⟨h1, h2, h3, h5⟩)
set_option maxRecDepth 100000 in
set_option maxHeartbeats 8000000 in
theorem law_in (ac ad : Option Addr) (lc cc ld cd : Nat) (w : World) (hL : Laid w) (hc : lc ≤ 1048576) (hd : ld ≤ 1048576) (hBc : Bytes ac lc w) (hBd : Bytes ad ld w) :
    Calls Tryd.prog 4 #[.slice ac lc cc, .slice ad ld cd] w fun e w' => e = .returned (.bool true) ∧ Below w.heap.size w w' := by
  have H1 := hid_intro (dmonth_any ac lc cc w hc hBc)
  have H2 := hid_intro (fun w hB => dstart_any ad ld cd w hd hB)
  have H3 := hid_intro (fun w hB => dhour_any ad ld cd w hd hB)
  have HD := hid_intro hBd
  have HL := hid_intro hL
  have hc2 : ¬ (1048576 : Int) < (lc : Int) := by omega
  have hd2 : ¬ (1048576 : Int) < (ld : Int) := by omega
  clear hBc hBd hL hc hd
  go_enter Tryd.func4, Tryd.ntmps4
  go_wp2_with fail
  refine H1.out.mono ?_
  rintro e w1 ⟨⟨n, rfl, hn1, hn2⟩, hb1⟩
  have HB1 := hid_intro hb1
  clear hb1 H1
  go_wp2_with fail
  refine (H2.out _ (HD.out.below HB1.out)).mono ?_
  rintro e w2 ⟨⟨m, rfl, hm1, hm2⟩, hb2⟩
  have HB2 := hid_intro (HB1.out.trans (hb2.mono HB1.out.size))
  clear hb2 HB1 H2
  obtain ⟨x, s, a, b, c, d, H, T, hK⟩ := known n m
  have HK := hid_intro hK
  clear hK
  go_wp2_with fail
  refine (HK.out.xi _ (HL.out.below HB2.out)).mono ?_
  rintro e w3 ⟨rfl, hb3⟩
  have HB3 := hid_intro (HB2.out.trans (hb3.mono HB2.out.size))
  clear hb3 HB2
  go_wp2_with fail
  refine (HK.out.si _ (HL.out.below HB3.out)).mono ?_
  rintro e w4 ⟨rfl, hb4⟩
  have HB4 := hid_intro (HB3.out.trans (hb4.mono HB3.out.size))
  clear hb4 HB3
  go_wp2_with fail
  refine (H3.out _ (HD.out.below HB4.out)).mono ?_
  rintro e w5 ⟨⟨h, rfl, hh1, hh2⟩, hb5⟩
  have HB5 := hid_intro (HB4.out.trans (hb5.mono HB4.out.size))
  clear hb5 HB4 H3 HD
  obtain ⟨y, G, gi, gs, yi, hy⟩ := HK.out.later h
  have GI := hid_intro gi
  have GS := hid_intro gs
  have YI := hid_intro yi
  have HY := hid_intro hy
  clear gi gs yi hy
  go_wp2_with fail
  refine (HK.out.xs _).mono ?_
  rintro e w6 ⟨rfl, hb6⟩
  have HB6 := hid_intro (HB5.out.trans (hb6.mono HB5.out.size))
  clear hb6 HB5
  go_wp2_with fail
  refine (HK.out.ss _).mono ?_
  rintro e w7 ⟨rfl, hb7⟩
  have HB7 := hid_intro (HB6.out.trans (hb7.mono HB6.out.size))
  clear hb7 HB6
  go_wp2_with fail
  refine (GI.out _).mono ?_
  rintro e w' ⟨rfl, rfl⟩
  go_wp2_with fail
  refine (GS.out _).mono ?_
  rintro e w' ⟨rfl, rfl⟩
  go_wp2_with fail
  refine (HK.out.ti _ (HL.out.below HB7.out)).mono ?_
  rintro e w8 ⟨rfl, hb8⟩
  have HB8 := hid_intro (HB7.out.trans (hb8.mono HB7.out.size))
  clear hb8 HB7
  go_wp2_with fail
  refine (HK.out.ts _).mono ?_
  rintro e w9 ⟨rfl, hb9⟩
  have HB9 := hid_intro (HB8.out.trans (hb9.mono HB8.out.size))
  clear hb9 HB8
  rcases x_cut n x a b H HK.out.xb with ⟨x1, x2⟩ | ⟨x1, x2, x3, x4, x5, x6, x7, x8, x9⟩ | ⟨x1, x2, x3, x3', x4, x6, x7, x8, x9⟩
  · skip
    rcases s_cut s m c d HK.out.sb with s1 | ⟨s1, s2, s3, s4⟩ | ⟨s1, s2, s3, s4, s5⟩
    · skip
      go_wp2
      go_ret
      exact ⟨rfl, HB9.out⟩
    · subst s3
      go_wp2_with fail
      refine (HK.out.ci _ (HL.out.below HB9.out)).mono ?_
      rintro e w20 ⟨rfl, hb20⟩
      have HB20 := hid_intro (HB9.out.trans (hb20.mono HB9.out.size))
      clear hb20 HB9
      go_wp2
      go_ret
      exact ⟨rfl, HB20.out⟩
    · subst s3
      subst s5
      go_wp2_with fail
      refine (HK.out.ci _ (HL.out.below HB9.out)).mono ?_
      rintro e w20 ⟨rfl, hb20⟩
      have HB20 := hid_intro (HB9.out.trans (hb20.mono HB9.out.size))
      clear hb20 HB9
      go_wp2_with fail
      refine (HK.out.di _ (HL.out.below HB20.out)).mono ?_
      rintro e w21 ⟨rfl, hb21⟩
      have HB21 := hid_intro (HB20.out.trans (hb21.mono HB20.out.size))
      clear hb21 HB20
      go_wp2
      go_ret
      exact ⟨rfl, HB21.out⟩
  · skip
    go_wp2_with fail
    refine (HK.out.ai _ (HL.out.below HB9.out)).mono ?_
    rintro e w10 ⟨rfl, hb10⟩
    have HB10 := hid_intro (HB9.out.trans (hb10.mono HB9.out.size))
    clear hb10 HB9
    go_wp2_with fail
    refine (HK.out.bi _ (HL.out.below HB10.out)).mono ?_
    rintro e w11 ⟨rfl, hb11⟩
    have HB11 := hid_intro (HB10.out.trans (hb11.mono HB10.out.size))
    clear hb11 HB10
    go_wp2_with fail
    refine (HK.out.hi _).mono ?_
    rintro e w' ⟨rfl, rfl⟩
    go_wp2_with fail
    refine (HK.out.hi _).mono ?_
    rintro e w' ⟨rfl, rfl⟩
    rcases s_cut s m c d HK.out.sb with s1 | ⟨s1, s2, s3, s4⟩ | ⟨s1, s2, s3, s4, s5⟩
    · skip
      rcases (show (¬ n ≤ h) ∨ (n ≤ h ∧ ¬ h ≤ 121000000) ∨ (n ≤ h ∧ h ≤ 121000000) by omega) with l1 | ⟨l1, l2⟩ | ⟨l1, l2⟩
      · go_wp2
        go_ret
        exact ⟨rfl, HB11.out⟩
      · go_wp2
        go_ret
        exact ⟨rfl, HB11.out⟩
      · have l3 : x ≤ y := HY.out x1 l1 l2
        go_wp2_with (first | (go_at_call 27; go_in) | (go_at_call 30; refine (YI.out _ (HL.out.below HB11.out)).mono ?_; rintro e w90 ⟨rfl, hb90⟩))
        go_ret
        exact ⟨ret_bool (by first | rfl | simpa using l3), HB11.out.trans (hb90.mono HB11.out.size)⟩
    · subst s3
      go_wp2_with fail
      refine (HK.out.ci _ (HL.out.below HB11.out)).mono ?_
      rintro e w20 ⟨rfl, hb20⟩
      have HB20 := hid_intro (HB11.out.trans (hb20.mono HB11.out.size))
      clear hb20 HB11
      rcases (show (¬ n ≤ h) ∨ (n ≤ h ∧ ¬ h ≤ 121000000) ∨ (n ≤ h ∧ h ≤ 121000000) by omega) with l1 | ⟨l1, l2⟩ | ⟨l1, l2⟩
      · go_wp2
        go_ret
        exact ⟨rfl, HB20.out⟩
      · go_wp2
        go_ret
        exact ⟨rfl, HB20.out⟩
      · have l3 : x ≤ y := HY.out x1 l1 l2
        go_wp2_with (first | (go_at_call 27; go_in) | (go_at_call 30; refine (YI.out _ (HL.out.below HB20.out)).mono ?_; rintro e w90 ⟨rfl, hb90⟩))
        go_ret
        exact ⟨ret_bool (by first | rfl | simpa using l3), HB20.out.trans (hb90.mono HB20.out.size)⟩
    · subst s3
      subst s5
      go_wp2_with fail
      refine (HK.out.ci _ (HL.out.below HB11.out)).mono ?_
      rintro e w20 ⟨rfl, hb20⟩
      have HB20 := hid_intro (HB11.out.trans (hb20.mono HB11.out.size))
      clear hb20 HB11
      go_wp2_with fail
      refine (HK.out.di _ (HL.out.below HB20.out)).mono ?_
      rintro e w21 ⟨rfl, hb21⟩
      have HB21 := hid_intro (HB20.out.trans (hb21.mono HB20.out.size))
      clear hb21 HB20
      rcases (show (¬ n ≤ h) ∨ (n ≤ h ∧ ¬ h ≤ 121000000) ∨ (n ≤ h ∧ h ≤ 121000000) by omega) with l1 | ⟨l1, l2⟩ | ⟨l1, l2⟩
      · go_wp2
        go_ret
        exact ⟨rfl, HB21.out⟩
      · go_wp2
        go_ret
        exact ⟨rfl, HB21.out⟩
      · have l3 : x ≤ y := HY.out x1 l1 l2
        go_wp2_with (first | (go_at_call 27; go_in) | (go_at_call 30; refine (YI.out _ (HL.out.below HB21.out)).mono ?_; rintro e w90 ⟨rfl, hb90⟩))
        go_ret
        exact ⟨ret_bool (by first | rfl | simpa using l3), HB21.out.trans (hb90.mono HB21.out.size)⟩
  · skip
    go_wp2_with fail
    refine (HK.out.ai _ (HL.out.below HB9.out)).mono ?_
    rintro e w10 ⟨rfl, hb10⟩
    have HB10 := hid_intro (HB9.out.trans (hb10.mono HB9.out.size))
    clear hb10 HB9
    go_wp2_with fail
    refine (HK.out.hi _).mono ?_
    rintro e w' ⟨rfl, rfl⟩
    go_wp2_with fail
    refine (HK.out.hi _).mono ?_
    rintro e w' ⟨rfl, rfl⟩
    rcases s_cut s m c d HK.out.sb with s1 | ⟨s1, s2, s3, s4⟩ | ⟨s1, s2, s3, s4, s5⟩
    · skip
      rcases (show (¬ n ≤ h) ∨ (n ≤ h ∧ ¬ h ≤ 121000000) ∨ (n ≤ h ∧ h ≤ 121000000) by omega) with l1 | ⟨l1, l2⟩ | ⟨l1, l2⟩
      · go_wp2
        go_ret
        exact ⟨rfl, HB10.out⟩
      · go_wp2
        go_ret
        exact ⟨rfl, HB10.out⟩
      · have l3 : x ≤ y := HY.out x1 l1 l2
        go_wp2_with (first | (go_at_call 27; go_in) | (go_at_call 30; refine (YI.out _ (HL.out.below HB10.out)).mono ?_; rintro e w90 ⟨rfl, hb90⟩))
        go_ret
        exact ⟨ret_bool (by first | rfl | simpa using l3), HB10.out.trans (hb90.mono HB10.out.size)⟩
    · subst s3
      go_wp2_with fail
      refine (HK.out.ci _ (HL.out.below HB10.out)).mono ?_
      rintro e w20 ⟨rfl, hb20⟩
      have HB20 := hid_intro (HB10.out.trans (hb20.mono HB10.out.size))
      clear hb20 HB10
      rcases (show (¬ n ≤ h) ∨ (n ≤ h ∧ ¬ h ≤ 121000000) ∨ (n ≤ h ∧ h ≤ 121000000) by omega) with l1 | ⟨l1, l2⟩ | ⟨l1, l2⟩
      · go_wp2
        go_ret
        exact ⟨rfl, HB20.out⟩
      · go_wp2
        go_ret
        exact ⟨rfl, HB20.out⟩
      · have l3 : x ≤ y := HY.out x1 l1 l2
        go_wp2_with (first | (go_at_call 27; go_in) | (go_at_call 30; refine (YI.out _ (HL.out.below HB20.out)).mono ?_; rintro e w90 ⟨rfl, hb90⟩))
        go_ret
        exact ⟨ret_bool (by first | rfl | simpa using l3), HB20.out.trans (hb90.mono HB20.out.size)⟩
    · subst s3
      subst s5
      go_wp2_with fail
      refine (HK.out.ci _ (HL.out.below HB10.out)).mono ?_
      rintro e w20 ⟨rfl, hb20⟩
      have HB20 := hid_intro (HB10.out.trans (hb20.mono HB10.out.size))
      clear hb20 HB10
      go_wp2_with fail
      refine (HK.out.di _ (HL.out.below HB20.out)).mono ?_
      rintro e w21 ⟨rfl, hb21⟩
      have HB21 := hid_intro (HB20.out.trans (hb21.mono HB20.out.size))
      clear hb21 HB20
      rcases (show (¬ n ≤ h) ∨ (n ≤ h ∧ ¬ h ≤ 121000000) ∨ (n ≤ h ∧ h ≤ 121000000) by omega) with l1 | ⟨l1, l2⟩ | ⟨l1, l2⟩
      · go_wp2
        go_ret
        exact ⟨rfl, HB21.out⟩
      · go_wp2
        go_ret
        exact ⟨rfl, HB21.out⟩
      · have l3 : x ≤ y := HY.out x1 l1 l2
        go_wp2_with (first | (go_at_call 27; go_in) | (go_at_call 30; refine (YI.out _ (HL.out.below HB21.out)).mono ?_; rintro e w90 ⟨rfl, hb90⟩))
        go_ret
        exact ⟨ret_bool (by first | rfl | simpa using l3), HB21.out.trans (hb90.mono HB21.out.size)⟩
theorem walk (a0 : Option Addr) (len0 cap0 : Nat) (z0 : List Int) (a1 : Option Addr) (len1 cap1 : Nat) (z1 : List Int) (w : World) (w0 : IsRow .u8 w a0 len0 cap0 z0) (w1 : IsRow .u8 w a1 len1 cap1 z1) (hL : Laid w) :
    Calls Tryd.prog 4 #[.slice a0 len0 cap0, .slice a1 len1 cap1] w fun e w' => e = .returned (.bool true) ∧ Below w.heap.size w w' := by
  have l0 := w0.len
  have l1 := w1.len
  unfold maxLen at l0 l1
  by_cases h0 : len0 ≤ 1048576
  · by_cases h1 : len1 ≤ 1048576
    · exact law_in a0 a1 len0 cap0 len1 cap1 w hL h0 h1 w0.bytes w1.bytes
    · have q0 : ¬ (1048576 : Int) < (len0 : Int) := by omega
      have q1 : (1048576 : Int) < (len1 : Int) := by omega
      clear w0 w1 hL
      go_enter Tryd.func4, Tryd.ntmps4
      go_wp2
      go_ret
      exact ⟨rfl, Below.refl _ _⟩
  · have q0 : (1048576 : Int) < (len0 : Int) := by omega
    clear w0 w1 hL
    go_enter Tryd.func4, Tryd.ntmps4
    go_wp2
    go_ret
    exact ⟨rfl, Below.refl _ _⟩
set_option maxRecDepth 100000 in
theorem lifted (os : Os) (started : os.Started) (H : Type) (enc : TypeId × Value → H) :
    ReturnsInHanded {} Tryd.checked os 4 .any (fun w args => (Rows.fnMonthSpec.pre enc Tryd.prog Tryd.f4 [] false w args ∧ laidMetH Tryd.prog LayT.laid w) ∧ sizedMet enc Tryd.prog Tryd.f4 (OpenSpec.ofChange Rows.fnMonthSpec) false w args)
      (Rows.fnMonthSpec.post enc Tryd.prog Tryd.f4 false true false false) := by
  refine returnsInHanded_of_change_and (C := Tryd.checked) (X := fun w _ => laidMetH Tryd.prog LayT.laid w) (fun _ _ _ hh h => h.of_heap hh) LayT.own started (by kernel_rfl) Tryd.func4
    (ChangeSpec.witness_shaped (enc := enc) (C := Tryd.checked) (os := os) (X := fun w _ => laidMetH Tryd.prog LayT.laid w) false (World.doorLaid Tryd.prog 400 os) #[.slice none 0 0, .slice none 0 0] 8 rfl (World.shaped_of_RefB (by kernel_rfl) (by kernel_rfl)) (by kernel_rfl) (by kernel_rfl) (by kernel_rfl) (LayT.door_met os _)) ?_
  intro W base args ds gs before hval0 hW _ _ hL _
  have hval : ∀ (j : Nat) t v, Tryd.f4.params[j]? = some t → args[j]? = some v → Value.okWide Tryd.prog W .any base t v := hval0
  have hW' := hW
  obtain ⟨p, q, hA0, hV0, rfl, hfz, hnd⟩ := hW
  have hA : DataW.TrodAll enc Tryd.prog W 0 (fun _ => true) true Tryd.f4.params.toList args.toList ds p := hA0
  have hV : DataW.TrodVars enc Tryd.prog W (fun _ => true) ["loop.example/g00562/impl.monthLengths"] gs q := hV0
  rw [Tryd.params4] at hA hval
  obtain ⟨v0, v1, d0, d1, p0, p1, rfl, rfl, rfl, h0, h1⟩ := trodAll_two hA
  have k0 := h0
  have lt0 : ∀ x ∈ p0, x.block < W.heap.size := fun x hx => hW'.lt x (by simp [hx])
  obtain ⟨a0, len0, cap0, rfl⟩ := okWide_slice Tryd.underlying22 (hval 0 22 v0 rfl rfl)
  obtain ⟨z0, w0⟩ : ∃ zs, IsRow .u8 W a0 len0 cap0 zs := by
    obtain ⟨fuel, hf⟩ := h0
    rcases open_ints Tryd.underlying22 Tryd.underlying5 (by kernel_rfl) hf with ⟨hcs, _⟩ | ⟨x, l, c, zs, hcs, _, hl, hm, hz, _, hcell, hwz⟩
    · simp [Value.cells] at hcs
      obtain ⟨rfl, rfl, rfl⟩ := hcs
      exact ⟨[], .inl ⟨rfl, rfl, rfl, rfl⟩⟩
    · simp [Value.cells] at hcs
      obtain ⟨rfl, rfl, rfl⟩ := hcs
      exact ⟨zs, .inr ⟨_, rfl, hl, hm, by simpa using hz, hcell, hwz⟩⟩
  have k1 := h1
  have lt1 : ∀ x ∈ p1, x.block < W.heap.size := fun x hx => hW'.lt x (by simp [hx])
  obtain ⟨a1, len1, cap1, rfl⟩ := okWide_slice Tryd.underlying22 (hval 1 22 v1 rfl rfl)
  obtain ⟨z1, w1⟩ : ∃ zs, IsRow .u8 W a1 len1 cap1 zs := by
    obtain ⟨fuel, hf⟩ := h1
    rcases open_ints Tryd.underlying22 Tryd.underlying5 (by kernel_rfl) hf with ⟨hcs, _⟩ | ⟨x, l, c, zs, hcs, _, hl, hm, hz, _, hcell, hwz⟩
    · simp [Value.cells] at hcs
      obtain ⟨rfl, rfl, rfl⟩ := hcs
      exact ⟨[], .inl ⟨rfl, rfl, rfl, rfl⟩⟩
    · simp [Value.cells] at hcs
      obtain ⟨rfl, rfl, rfl⟩ := hcs
      exact ⟨zs, .inr ⟨_, rfl, hl, hm, by simpa using hz, hcell, hwz⟩⟩
  have hl := LayT.of_laid hL
  obtain ⟨_, _, _, _, gd, _, rfl, _, _, _, _, _⟩ := trodVars_one hV
  refine (walk a0 len0 cap0 z0 a1 len1 cap1 z1 W w0 w1 hl).mono fun e W' ⟨he, bel⟩ => ?_
  subst he
  exact ⟨_, rfl, _, _, _, _, _, _, hW', trodAll_mk1 (shut_bool Tryd.underlying4 true), trodAll_mk2 (Below.trod LayT.laidOut (by kernel_rfl) (of_decide_eq_true (by kernel_rfl)) k0 bel lt0) (Below.trod LayT.laidOut (by kernel_rfl) (of_decide_eq_true (by kernel_rfl)) k1 bel lt1), bel.trodVars LayT.laidOut (by kernel_rfl) hV, bel.frame _, fun h => by cases h⟩
theorem row_holds : Rows.FnMonthSaid :=
  OpenClaim.holds_of_wide 4 Tryd.f4 rfl rfl rfl rfl rfl rfl rfl ⟨rfl, rfl, rfl, rfl, rfl⟩ rfl rfl rfl rfl rfl (by kernel_rfl) Tryd.func4 (by kernel_rfl)
    (of_decide_eq_true (by kernel_rfl)) (by unfold Func.isWrapper; rw [if_neg (of_decide_eq_false (by kernel_rfl))]; exact ⟨rfl, rfl⟩)
    (fun os started H enc _ => lifted os started H enc)
theorem card_holds : Rows.FnMonthCardSaid :=
  Claim7.holds_tied_plain_at .later [] [.data, .data, .data, .data] true Rows.fnMonthCard.stood.harness true
    row_holds (fun _ h => by cases h) (by kernel_rfl) (fun _ h => by cases h) fnMonth_row_tie rfl ⟨rfl, rfl⟩ (by kernel_rfl) rfl
    (fun f fn hf hfn => by
      obtain rfl : f = 4 := Option.some.inj ((show Tryd.prog.funcNamed "loop.example/g00562/laws.FnMonth" = some 4 by kernel_rfl).symm.trans hf) |>.symm
      obtain rfl : fn = Tryd.f4 := (Option.some.inj (Tryd.func4.symm.trans hfn)).symm
      exact ⟨by kernel_rfl, fun j t ht => by
        rw [Tryd.params4] at ht
        have hm : t ∈ [22, 22] := by simpa using Array.mem_of_getElem? ht
        have hall : ([22, 22].all fun u => !Tryd.prog.wantsStandIn u) = true := by kernel_rfl
        exact (show Tryd.prog.wantsStandIn t = false by simpa using List.all_eq_true.1 hall t hm)⟩)
    (by kernel_rfl)
end FnMonthL
/-- THE STATEMENT: THE CARD -/
theorem fnMonth_holds : Rows.FnMonthCardSaid := FnMonthL.card_holds
#print axioms fnMonth_holds
end Go.Proofs.YtfnkhohommahoaaDoor
