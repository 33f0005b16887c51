/-
  The least mark of an engine's sources, on both sides. The conditions: those of an engine.
-/
import Derived.Test.YtdgomcpkbahfeaaGreatDoorE33
namespace Go.Proofs.YtdgomcpkbahfeaaGreatDoor
open Go.ChangeShapes Go.WideShapes Go.ChangeAt Go.RowKit
set_option linter.unusedVariables false
namespace EngR
open CatR
/-- The least of the first marks. -/
def mK (ss : List Cr) : Nat → Int
  | 0 => 121000000
  | k + 1 => if (ss.getD k Cr.zero).m < mK ss k then (ss.getD k Cr.zero).m else mK ss k
theorem mK_le {ss : List Cr} {k i : Nat} (h : i < k) : mK ss k ≤ (ss.getD i Cr.zero).m := by
  induction k with
  | zero => omega
  | succ k ih =>
    unfold mK
    by_cases e : i = k
    · subst e
      split <;> omega
    · have := ih (by omega)
      split <;> omega
theorem srcB_len {ss : List Cr} (h : srcB ss = true) : 1 ≤ ss.length ∧ ∀ i, i < ss.length → (ss.getD i Cr.zero).m ≤ 121000000 := by
  unfold srcB at h
  rw [Bool.and_eq_true] at h
  obtain ⟨h1, h2⟩ := h
  have h3 := (StxR.nsB_iff.1 h2).1.1
  rw [nmS_len] at h3
  refine ⟨h3, fun i hi => ?_⟩
  have h4 := List.all_eq_true.1 h1 ss[i] (List.getElem_mem hi)
  unfold minB at h4
  have h5 := (of_decide_eq_true h4).2
  simpa [List.getD, hi] using h5
set_option maxHeartbeats 4000000 in
theorem impl_least (ao : Option Addr) (cap : Nat) (ss : List Cr) (w : World) (hlen : ss.length ≤ 1048576) (hI : Crs ao ss.length ss w) :
    Calls Tryz.prog 43 #[.slice ao ss.length cap] w fun e w' => e = .returned (.int .i64 (mK ss ss.length)) ∧ Below w.heap.size w w' := by
  have HI := hid_intro hI
  obtain ⟨len, hl⟩ : ∃ len, len = ss.length := ⟨_, rfl⟩
  rw [← hl] at hlen ⊢
  have HL := hid_intro hl
  clear hI hl
  have HN : Hid (∀ k, mK ss (k + 1) = if (ss.getD k Cr.zero).m < mK ss k then (ss.getD k Cr.zero).m else mK ss k) := hid_intro (fun k => rfl)
  have HZ : Hid (mK ss 0 = 121000000) := hid_intro rfl
  generalize mK ss = M at *
  go_enter Tryz.func43, Tryz.ntmps43
  go_wp2_with fail
  go_loopw [3, 8] (fun x z wr => ∃ k : Nat, k ≤ len ∧ x = .int .i64 (M k) ∧ z = .int .i64 k ∧ Hid (Below w.heap.size w wr)) (fun _ z _ => len - (intOf z).toNat)
  case atStart => exact ⟨0, by omega, by rw [HZ.out], rfl, hid_intro (Below.refl _ _)⟩
  case round =>
    obtain ⟨k, hk, rfl, rfl, HB⟩ := hrel
    by_cases hlt : k < len
    · have hlt2 : (k : Int) < (len : Int) := by omega
      obtain ⟨b, off, rfl, hbl, c0, c1⟩ := crs_at (HI.out.below HB.out) k (by have := HL.out; omega)
      have HNK := hid_intro (HN.out k)
      generalize ss.getD k Cr.zero = X at *
      obtain ⟨xn, xm⟩ := X
      dsimp only at c0 c1 HNK
      have HB1 : Hid (Below w.heap.size w (wr.alloc (.cells #[.string xn, .int .i64 xm] 111))) := hid_intro (HB.out.alloc HB.out.size _)
      generalize M k = m0 at *
      by_cases hx : xm < m0
      · rw [if_pos hx] at HNK
        go_wp2_with fail
        go_roundw
        case rel => exact ⟨k + 1, by omega, by rw [HNK.out]; first | rfl | (simp; omega) | (congr 1; omega), by go_num, HB1⟩
        case measure => simp [intOf]; omega
      · rw [if_neg hx] at HNK
        go_wp2_with fail
        go_roundw
        case rel => exact ⟨k + 1, by omega, by rw [HNK.out]; first | rfl | (simp; omega) | (congr 1; omega), by go_num, HB1⟩
        case measure => simp [intOf]; omega
    · have hlt2 : ¬ (k : Int) < (len : Int) := by omega
      obtain rfl : k = len := by omega
      go_wp2_with fail
      go_ret
      exact ⟨rfl, HB.out⟩
theorem smin (a b : Int) (w : World) : Calls Tryz.prog 87 #[.int .i64 a, .int .i64 b] w fun e w' => e = .returned (.int .i64 (if a < b then a else b)) ∧ w' = w := by
  by_cases h : a < b
  · rw [if_pos h]
    go_enter Tryz.func87, Tryz.ntmps87
    go_wp2_with fail
    go_ret
    exact ⟨rfl, rfl⟩
  · rw [if_neg h]
    go_enter Tryz.func87, Tryz.ntmps87
    go_wp2_with fail
    go_ret
    exact ⟨rfl, rfl⟩
set_option maxHeartbeats 4000000 in
theorem smark_in (ma : Option Addr) (ml mc : Nat) (ca : Option Addr) (cl cc : Nat) (sa : Option Addr) (sc : Nat) (ea : Option Addr) (el ec : Nat) (ua : Option Addr) (ul uc : Nat) (da : Option Addr) (dl dc : Nat) (fr : Int) (ss : List Cr) (w : World)
    (hlen : ss.length ≤ 1048576) (h1 : 1 ≤ ss.length) (hI : Crs sa ss.length ss w) (hm : (ss.getD 0 Cr.zero).m ≤ 121000000) :
    Calls Tryz.prog 42 #[.agg #[.slice ma ml mc, .slice ca cl cc, .slice sa ss.length sc, .slice ea el ec, .slice ua ul uc, .slice da dl dc, .int .i64 fr]] w fun e w' => e = .returned (.int .i64 (mK ss ss.length)) ∧ Below w.heap.size w w' := by
  have HI := hid_intro hI
  have HEND : Hid (∀ k, k = ss.length → (if (ss.getD 0 Cr.zero).m < mK ss k then (ss.getD 0 Cr.zero).m else mK ss k) = mK ss k) := hid_intro (fun k hk => by
    have := mK_le (ss := ss) (k := k) (i := 0) (by omega)
    split <;> omega)
  have HNX : Hid (∀ k, mK ss (k + 1) = if (ss.getD k Cr.zero).m < mK ss k then (ss.getD k Cr.zero).m else mK ss k) := hid_intro (fun k => rfl)
  have HZ : Hid ((ss.getD 0 Cr.zero).m = if (ss.getD 0 Cr.zero).m < mK ss 0 then (ss.getD 0 Cr.zero).m else mK ss 0) := hid_intro (by
    unfold mK
    split <;> omega)
  obtain ⟨sl, hl⟩ : ∃ z, z = ss.length := ⟨_, rfl⟩
  rw [← hl] at hlen h1 HEND ⊢
  have HL := hid_intro hl
  obtain ⟨b, off, rfl, hbl, c0, c1⟩ := crs_at hI 0 (by omega)
  simp only [Nat.zero_mul, Nat.add_zero] at c0 c1
  obtain ⟨W0, hW0⟩ : ∃ z, z = w.alloc (.cells #[.slice ma ml mc, .slice ca cl cc, .slice (some ⟨b, off, none⟩) sl sc, .slice ea el ec, .slice ua ul uc, .slice da dl dc, .int .i64 fr] 43) := ⟨_, rfl⟩
  have hal : Below w.heap.size w W0 := by rw [hW0]; exact (Below.refl _ _).alloc (Nat.le_refl _) _
  have hA : Blk w.heap.size [.slice ma ml mc, .slice ca cl cc, .slice (some ⟨b, off, none⟩) sl sc, .slice ea el ec, .slice ua ul uc, .slice da dl dc, .int .i64 fr] W0 := by rw [hW0]; exact Blk.new w _ _
  have HB0 := hid_intro hal
  have HA0 := hid_intro hA
  have HW := hid_intro hW0
  obtain ⟨m0, hm0⟩ : ∃ z, z = (ss.getD 0 Cr.zero).m := ⟨_, rfl⟩
  rw [← hm0] at HEND HZ c1
  have h1' : (0 : Int) < (sl : Int) := by omega
  generalize mK ss = M at *
  clear hI hm hl hal hA hW0 hm0
  go_enter Tryz.func42, Tryz.ntmps42
  go_wp2_with fail
  rw [← HW.out]
  clear HW c0 c1
  go_loopw [3, 4] (fun x z wr => ∃ k : Nat, k ≤ sl ∧ x = .int .i64 (if m0 < M k then m0 else M k) ∧ z = .int .i64 k ∧ Hid (Blk w.heap.size [.slice ma ml mc, .slice ca cl cc, .slice (some ⟨b, off, none⟩) sl sc, .slice ea el ec, .slice ua ul uc, .slice da dl dc, .int .i64 fr] wr) ∧ Hid (Below w.heap.size w wr)) (fun _ z _ => sl - (intOf z).toNat)
  case atStart => exact ⟨0, by omega, by rw [← HZ.out], rfl, HA0, HB0⟩
  case round =>
    clear HA0 HB0
    obtain ⟨k, hk, rfl, rfl, HA, HB⟩ := hrel
    have al := HA.out.1
    have a2 : wr.cell? ⟨w.heap.size, 2, none⟩ = some (.slice (some ⟨b, off, none⟩) sl sc) := HA.out.2 2 (by simp)
    by_cases hlt : k < sl
    · have hlt2 : (k : Int) < (sl : Int) := by omega
      obtain ⟨b', off', hbo, hbl', c0, c1⟩ := crs_at (HI.out.below HB.out) k (by have := HL.out; omega)
      obtain ⟨rfl, rfl⟩ : b = b' ∧ off = off' := by simpa using hbo
      clear hbo
      have HNK := hid_intro (HNX.out k)
      generalize ss.getD k Cr.zero = X at *
      obtain ⟨xn, xm⟩ := X
      dsimp only at c0 c1 HNK
      obtain ⟨cu, hcu⟩ : ∃ z, z = (if m0 < M k then m0 else M k) := ⟨_, rfl⟩
      have HR : Hid ((if cu < xm then cu else xm) = (if m0 < M (k + 1) then m0 else M (k + 1))) := hid_intro (by
        rw [HNK.out, hcu]
        repeat' split
        all_goals omega)
      rw [← hcu]
      have HM := hid_intro (fun w => smin cu xm w)
      generalize (if cu < xm then cu else xm) = nx at *
      clear hcu
      go_wp2_with (go_at_call 87; refine (HM.out _).mono ?_; rintro e w' ⟨rfl, rfl⟩)
      go_roundw
      case rel => exact ⟨k + 1, by omega, by rw [HR.out], by go_num, HA, HB⟩
      case measure => simp [intOf]; omega
    · have hlt2 : ¬ (k : Int) < (sl : Int) := by omega
      obtain rfl : k = sl := by omega
      have HR := hid_intro (HEND.out k rfl)
      rw [HR.out]
      go_wp2_with fail
      go_ret
      exact ⟨rfl, HB.out⟩
/-- The engine's mark: -1 where it is not right. -/
def marB (x : Eng) (v : Int) : Int := if engB x v then mK x.ss x.ss.length else -1
theorem engB_src {x : Eng} {v : Int} (h : engB x v = true) : srcB x.ss = true := by
  unfold engB at h
  simp only [Bool.and_eq_true] at h
  exact h.1.1.1.1.2
set_option maxHeartbeats 4000000 in
theorem imark_in (ma : Option Addr) (ml mc : Nat) (ca : Option Addr) (cl cc : Nat) (sa : Option Addr) (sl sc : Nat) (ea : Option Addr) (el ec : Nat) (ua : Option Addr) (ul uc : Nat) (da : Option Addr) (dl dc : Nat) (fr : Int) (b : Bool) (r : Int) (w : World)
    (h1 : ∀ W, Below w.heap.size w W → Calls Tryz.prog 8 #[.agg #[.slice ma ml mc, .slice ca cl cc, .slice sa sl sc, .slice ea el ec, .slice ua ul uc, .slice da dl dc, .int .i64 fr]] W fun e w' => e = .returned (.bool b) ∧ Below W.heap.size W w')
    (h2 : b = true → ∀ W, Below w.heap.size w W → Calls Tryz.prog 43 #[.slice sa sl sc] W fun e w' => e = .returned (.int .i64 r) ∧ Below W.heap.size W w') :
    Calls Tryz.prog 11 #[.agg #[.slice ma ml mc, .slice ca cl cc, .slice sa sl sc, .slice ea el ec, .slice ua ul uc, .slice da dl dc, .int .i64 fr]] w fun e w' => e = .returned (.int .i64 (if b then r else -1)) ∧ Below w.heap.size w w' := by
  have H1 := hid_intro h1
  have H2 := hid_intro h2
  obtain ⟨W0, hW0⟩ : ∃ z, z = w.alloc (.cells #[.slice ma ml mc, .slice ca cl cc, .slice sa sl sc, .slice ea el ec, .slice ua ul uc, .slice da dl dc, .int .i64 fr] 43) := ⟨_, rfl⟩
  have hal : Below w.heap.size w W0 := by rw [hW0]; exact (Below.refl _ _).alloc (Nat.le_refl _) _
  have hA : Blk w.heap.size [.slice ma ml mc, .slice ca cl cc, .slice sa sl sc, .slice ea el ec, .slice ua ul uc, .slice da dl dc, .int .i64 fr] W0 := by rw [hW0]; exact Blk.new w _ _
  have HB0 := hid_intro hal
  have HA0 := hid_intro hA
  have HW := hid_intro hW0
  clear h1 h2 hal hA hW0
  go_enter Tryz.func11, Tryz.ntmps11
  go_wp2_with fail
  rw [← HW.out]
  clear HW
  refine (H1.out _ HB0.out).mono ?_
  rintro e w1 ⟨rfl, hb⟩
  have HB1 := hid_intro (HB0.out.trans (hb.mono HB0.out.size))
  have HA1 := hid_intro (HA0.out.below hb)
  clear hb HA0 HB0
  cases b
  · go_wp2_with fail
    go_ret
    exact ⟨rfl, HB1.out⟩
  have al := HA1.out.1
  have c2 : w1.cell? ⟨w.heap.size, 2, none⟩ = some (.slice sa sl sc) := HA1.out.2 2 (by simp)
  go_wp2_with fail
  refine (H2.out (by trivial) _ HB1.out).mono ?_
  rintro e w2 ⟨rfl, hb⟩
  have HB2 := hid_intro (HB1.out.trans (hb.mono HB1.out.size))
  clear hb
  go_wp2_with fail
  go_ret
  exact ⟨rfl, HB2.out⟩
set_option maxHeartbeats 4000000 in
theorem smark9_in (ma : Option Addr) (ml mc : Nat) (ca : Option Addr) (cl cc : Nat) (sa : Option Addr) (sl sc : Nat) (ea : Option Addr) (el ec : Nat) (ua : Option Addr) (ul uc : Nat) (da : Option Addr) (dl dc : Nat) (fr : Int) (b : Bool) (r : Int) (w : World)
    (h1 : ∀ W, Below w.heap.size w W → Calls Tryz.prog 6 #[.agg #[.slice ma ml mc, .slice ca cl cc, .slice sa sl sc, .slice ea el ec, .slice ua ul uc, .slice da dl dc, .int .i64 fr]] W fun e w' => e = .returned (.bool b) ∧ Below W.heap.size W w')
    (h2 : b = true → ∀ W, Below w.heap.size w W → Calls Tryz.prog 42 #[.agg #[.slice ma ml mc, .slice ca cl cc, .slice sa sl sc, .slice ea el ec, .slice ua ul uc, .slice da dl dc, .int .i64 fr]] W fun e w' => e = .returned (.int .i64 r) ∧ Below W.heap.size W w') :
    Calls Tryz.prog 10 #[.agg #[.slice ma ml mc, .slice ca cl cc, .slice sa sl sc, .slice ea el ec, .slice ua ul uc, .slice da dl dc, .int .i64 fr]] w fun e w' => e = .returned (.int .i64 (if b then r else -1)) ∧ Below w.heap.size w w' := by
  have H1 := hid_intro h1
  have H2 := hid_intro h2
  obtain ⟨W0, hW0⟩ : ∃ z, z = w.alloc (.cells #[.slice ma ml mc, .slice ca cl cc, .slice sa sl sc, .slice ea el ec, .slice ua ul uc, .slice da dl dc, .int .i64 fr] 43) := ⟨_, rfl⟩
  have hal : Below w.heap.size w W0 := by rw [hW0]; exact (Below.refl _ _).alloc (Nat.le_refl _) _
  have hA : Blk w.heap.size [.slice ma ml mc, .slice ca cl cc, .slice sa sl sc, .slice ea el ec, .slice ua ul uc, .slice da dl dc, .int .i64 fr] W0 := by rw [hW0]; exact Blk.new w _ _
  have HB0 := hid_intro hal
  have HA0 := hid_intro hA
  have HW := hid_intro hW0
  clear h1 h2 hal hA hW0
  go_enter Tryz.func10, Tryz.ntmps10
  go_wp2_with fail
  rw [← HW.out]
  clear HW
  refine (H1.out _ HB0.out).mono ?_
  rintro e w1 ⟨rfl, hb⟩
  have HB1 := hid_intro (HB0.out.trans (hb.mono HB0.out.size))
  have HA1 := hid_intro (HA0.out.below hb)
  clear hb HA0 HB0
  cases b
  · go_wp2_with fail
    go_ret
    exact ⟨rfl, HB1.out⟩
  have al := HA1.out.1
  have c0 : w1.cell? ⟨w.heap.size, 0, none⟩ = some (.slice ma ml mc) := HA1.out.2 0 (by simp)
  have c1 : w1.cell? ⟨w.heap.size, 1, none⟩ = some (.slice ca cl cc) := HA1.out.2 1 (by simp)
  have c2 : w1.cell? ⟨w.heap.size, 2, none⟩ = some (.slice sa sl sc) := HA1.out.2 2 (by simp)
  have c3 : w1.cell? ⟨w.heap.size, 3, none⟩ = some (.slice ea el ec) := HA1.out.2 3 (by simp)
  have c4 : w1.cell? ⟨w.heap.size, 4, none⟩ = some (.slice ua ul uc) := HA1.out.2 4 (by simp)
  have c5 : w1.cell? ⟨w.heap.size, 5, none⟩ = some (.slice da dl dc) := HA1.out.2 5 (by simp)
  have c6 : w1.cell? ⟨w.heap.size, 6, none⟩ = some (.int .i64 fr) := HA1.out.2 6 (by simp)
  go_wp2_with fail
  refine (H2.out (by trivial) _ HB1.out).mono ?_
  rintro e w2 ⟨rfl, hb⟩
  have HB2 := hid_intro (HB1.out.trans (hb.mono HB1.out.size))
  clear hb
  go_wp2_with fail
  go_ret
  exact ⟨rfl, HB2.out⟩
theorem impl_mark (val : Value) (x : Eng) (v : Int) (w : World) (hS : x.Small) (hE : IsEng val x w) (hwf : ∀ d ∈ x.ds, (Lit.int .i64 d.mo).wf = true) (hL : ∀ W, Below w.heap.size w W → CatR.Laid W) (hL2 : ∀ W, Below w.heap.size w W → DateR.Laid W)
    (hv : 0 ≤ x.fr → x.fr ≤ 2760 → ∀ W, Below w.heap.size w W → Calls Tryz.prog 74 #[.int .i64 x.fr] W fun e w' => e = .returned (.int .i64 v) ∧ Below W.heap.size W w') :
    Calls Tryz.prog 11 #[val] w fun e w' => e = .returned (.int .i64 (marB x v)) ∧ Below w.heap.size w w' := by
  have hE' := hE
  obtain ⟨ma, mc, ca, cc, sa, sc, ea, ec, ua, uc, da, dc, rfl, q1, q2, q3, _⟩ := hE'
  exact imark_in ma _ mc ca _ cc sa _ sc ea _ ec ua _ uc da _ dc x.fr (engB x v) (mK x.ss x.ss.length) w
    (fun W hW => impl_eng _ x v W hS (hE.below hW) hwf (fun W2 h2 => hL W2 (hW.trans (h2.mono hW.size))) (fun W2 h2 => hL2 W2 (hW.trans (h2.mono hW.size))) (fun a b W2 h2 => hv a b W2 (hW.trans (h2.mono hW.size))))
    (fun _ W hW => impl_least sa sc x.ss W hS.sl (q3.below hW))
theorem spec_mark (val : Value) (x : Eng) (v : Int) (w : World) (hS : x.Small) (hE : IsEng val x w)
    (hv : 0 ≤ x.fr → x.fr ≤ 2760 → ∀ W, Below w.heap.size w W → Calls Tryz.prog 25 #[.int .i64 x.fr] W fun e w' => e = .returned (.int .i64 v) ∧ Below W.heap.size W w') :
    Calls Tryz.prog 10 #[val] w fun e w' => e = .returned (.int .i64 (marB x v)) ∧ Below w.heap.size w w' := by
  have hE' := hE
  obtain ⟨ma, mc, ca, cc, sa, sc, ea, ec, ua, uc, da, dc, rfl, q1, q2, q3, _⟩ := hE'
  exact smark9_in ma _ mc ca _ cc sa _ sc ea _ ec ua _ uc da _ dc x.fr (engB x v) (mK x.ss x.ss.length) w
    (fun W hW => spec_eng _ x v W hS (hE.below hW) (fun a b W2 h2 => hv a b W2 (hW.trans (h2.mono hW.size))))
    (fun h W hW => smark_in ma _ mc ca _ cc sa sc ea _ ec ua _ uc da _ dc x.fr x.ss W hS.sl (srcB_len (engB_src h)).1 (q3.below hW) ((srcB_len (engB_src h)).2 0 (by have := (srcB_len (engB_src h)).1; omega)))
end EngR
end Go.Proofs.YtdgomcpkbahfeaaGreatDoor
