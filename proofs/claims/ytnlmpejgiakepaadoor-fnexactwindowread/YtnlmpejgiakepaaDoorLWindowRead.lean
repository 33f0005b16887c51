/-
  FnExactWindowRead: for every text the law's call returns true (the program's WindowRead hands back what the model's does, its answer owns its memory, behind another call too). The condition is the card's: the program's table starts as its text lays it.
-/
import Derived.Test.YtnlmpejgiakepaaDoorCards
import Derived.Carry
import Derived.OpenVars
import Derived.Lib.SmallJoins
import Derived.SevenTiedAt
import Derived.Test.YtnlmpejgiakepaaDoorR5
namespace Go.Proofs.YtnlmpejgiakepaaDoor
open Go.ChangeShapes Go.WideShapes Go.ChangeAt Go.RowKit
open Go.ChangeMaps (open_string shut_string)
set_option linter.unusedVariables false
namespace WindowReadL
open WinR
open RowG (MadeG)
open CatR (Blk Blk.new)
open DateR (Laid)
set_option maxRecDepth 100000 in
set_option maxHeartbeats 8000000 in
theorem law_in (M : Value → World → Prop) (MW : Nat → Option Addr → Option Addr → World → Prop) (D : Option Addr → Option Addr → World → Prop) (s : ByteArray) (A M2 : ByteArray) (mo ev su mx cd : Int) (tl hl : Nat) (Q : Int) (w : World) (hs : s.size ≤ 1048576) (hQ : ¬ Q < 0) (hL : Laid w)
    (hK2 : ∀ v W W', M v W → Below W.heap.size W W' → M v W')
    (hD : ∀ p q W W', D p q W → Below W.heap.size W W' → D p q W')
    (hS : ∀ W, Calls Tryd.prog 16 #[.string s] W fun e w' => ∃ t0 c0 h0 d0, e = .returned (.agg #[.string A, .string M2, .int .i64 mo, .int .i64 ev, .int .i64 su, .int .i64 mx, .slice t0 tl c0, .slice h0 hl d0, .int .i64 cd]) ∧ M (.agg #[.string A, .string M2, .int .i64 mo, .int .i64 ev, .int .i64 su, .int .i64 mx, .slice t0 tl c0, .slice h0 hl d0, .int .i64 cd]) w' ∧ Below W.heap.size W w')
    (hJ : ∀ W, Laid W → Calls Tryd.prog 17 #[.string s] W fun e w' => ∃ t1 c1 h1 d1, e = .returned (.agg #[.string A, .string M2, .int .i64 mo, .int .i64 ev, .int .i64 su, .int .i64 mx, .slice t1 tl c1, .slice h1 hl d1, .int .i64 cd]) ∧ M (.agg #[.string A, .string M2, .int .i64 mo, .int .i64 ev, .int .i64 su, .int .i64 mx, .slice t1 tl c1, .slice h1 hl d1, .int .i64 cd]) w' ∧ MW W.heap.size t1 h1 w' ∧ Below W.heap.size W w')
    (hG : ∀ base t1 c1 h1 d1 W W', MW base t1 h1 W → Below W.heap.size W W' → Calls Tryd.prog 14 #[.agg #[.string A, .string M2, .int .i64 mo, .int .i64 ev, .int .i64 su, .int .i64 mx, .slice t1 tl c1, .slice h1 hl d1, .int .i64 cd], .int .i64 1] W' fun e w' => e = .returned (.int .i64 Q) ∧ D t1 h1 w' ∧ Outs base W.heap.size W' w')
    (hH : ∀ t1 c1 h1 d1 W, D t1 h1 W → Calls Tryd.prog 15 #[.agg #[.string A, .string M2, .int .i64 mo, .int .i64 ev, .int .i64 su, .int .i64 mx, .slice t1 tl c1, .slice h1 hl d1, .int .i64 cd], .int .i64 1] W fun e w' => e = .returned (.int .i64 Q) ∧ Below W.heap.size W w')
    (hE : ∀ v v' W, M v W → M v' W → Calls Tryd.prog 11 #[v, v'] W fun e w' => e = .returned (.bool true) ∧ Below W.heap.size W w') :
    Calls Tryd.prog 4 #[.string s] w fun e w' => e = .returned (.bool true) ∧ Below w.heap.size w w' := by
  have HL := hid_intro hL
  have HK := hid_intro hK2
  have HD := hid_intro hD
  have HS := hid_intro hS
  have HJ := hid_intro hJ
  have HG := hid_intro hG
  have HH := hid_intro hH
  have HE := hid_intro hE
  have hs' : ¬ (1048576 : Int) < (s.size : Int) := by omega
  clear hL hK2 hD hS hJ hG hH hE
  go_enter Tryd.func4, Tryd.ntmps4
  go_wp2_with fail
  refine (HS.out _).mono ?_
  rintro e w3 ⟨t0, c0, h0, d0, rfl, hM3, hb3⟩
  have HB3 := hid_intro hb3
  have HM3 := hid_intro hM3
  clear hb3 hM3
  obtain ⟨w5, hw5⟩ : ∃ z, z = w3.alloc (.cells #[.string A, .string M2, .int .i64 mo, .int .i64 ev, .int .i64 su, .int .i64 mx, .slice t0 tl c0, .slice h0 hl d0, .int .i64 cd] 34) := ⟨_, rfl⟩
  have HN5 : Hid (Below w3.heap.size w3 w5) := hid_intro (by rw [hw5]; exact (Below.refl _ _).alloc (Nat.le_refl _) _)
  have HB5 := hid_intro (HB3.out.trans (HN5.out.mono HB3.out.size))
  have HY5 : Hid (Blk w3.heap.size [.string A, .string M2, .int .i64 mo, .int .i64 ev, .int .i64 su, .int .i64 mx, .slice t0 tl c0, .slice h0 hl d0, .int .i64 cd] w5) := hid_intro (by rw [hw5]; exact Blk.new w3 [.string A, .string M2, .int .i64 mo, .int .i64 ev, .int .i64 su, .int .i64 mx, .slice t0 tl c0, .slice h0 hl d0, .int .i64 cd] 34)
  have HL5 := hid_intro (HL.out.below HB5.out)
  have HW := hid_intro hw5
  clear hw5
  go_wp2_with fail
  rw [← HW.out]
  clear HW
  refine (HJ.out _ HL5.out).mono ?_
  rintro e w6 ⟨t1, c1, h1, d1, rfl, hM6, hN6, hb6⟩
  have HB6 := hid_intro (HB5.out.trans (hb6.mono HB5.out.size))
  have HY6 := hid_intro (HY5.out.below hb6)
  have HN6 := hid_intro (HN5.out.trans (hb6.mono HN5.out.size))
  have HM6 := hid_intro hM6
  have HW6 := hid_intro hN6
  have HZX : Hid (w.heap.size ≤ w3.heap.size) := hid_intro HB3.out.size
  have HZ5 : Hid (w3.heap.size < w5.heap.size) := hid_intro HY5.out.1
  have HZ6 : Hid (w5.heap.size ≤ w6.heap.size) := hid_intro hb6.size
  have HA6 : Hid (Below w6.heap.size w6 (w6.alloc (.cells #[.string A, .string M2, .int .i64 mo, .int .i64 ev, .int .i64 su, .int .i64 mx, .slice t1 tl c1, .slice h1 hl d1, .int .i64 cd] 34))) := hid_intro ((Below.refl _ _).alloc (Nat.le_refl _) _)
  have HB7 := hid_intro (HB6.out.trans (HA6.out.mono HB6.out.size))
  have HY7 := hid_intro (HY6.out.below HA6.out)
  have HV7 := hid_intro (Blk.new w6 [.string A, .string M2, .int .i64 mo, .int .i64 ev, .int .i64 su, .int .i64 mx, .slice t1 tl c1, .slice h1 hl d1, .int .i64 cd] 34)
  have HN7 := hid_intro (HN6.out.trans (HA6.out.mono HN6.out.size))
  have HM7 := hid_intro (HK.out _ _ _ HM6.out HA6.out)
  have HS7 := hid_intro (HK.out _ _ _ HM3.out HN7.out)
  clear hb6 hM6 hN6 HY5 HB5 HN5 HL5 HB6
  obtain ⟨pl, pc⟩ := HY6.out
  have p0 : w6.cell? ⟨w3.heap.size, 0, none⟩ = some (.string A) := pc 0 (by simp)
  have p1 : w6.cell? ⟨w3.heap.size, 1, none⟩ = some (.string M2) := pc 1 (by simp)
  have p2 : w6.cell? ⟨w3.heap.size, 2, none⟩ = some (.int .i64 mo) := pc 2 (by simp)
  have p3 : w6.cell? ⟨w3.heap.size, 3, none⟩ = some (.int .i64 ev) := pc 3 (by simp)
  have p4 : w6.cell? ⟨w3.heap.size, 4, none⟩ = some (.int .i64 su) := pc 4 (by simp)
  have p5 : w6.cell? ⟨w3.heap.size, 5, none⟩ = some (.int .i64 mx) := pc 5 (by simp)
  have p6 : w6.cell? ⟨w3.heap.size, 6, none⟩ = some (.slice t0 tl c0) := pc 6 (by simp)
  have p7 : w6.cell? ⟨w3.heap.size, 7, none⟩ = some (.slice h0 hl d0) := pc 7 (by simp)
  have p8 : w6.cell? ⟨w3.heap.size, 8, none⟩ = some (.int .i64 cd) := pc 8 (by simp)
  clear pc
  go_wp2_with fail
  refine (HE.out _ _ _ HM7.out HS7.out).mono ?_
  rintro e w8 ⟨rfl, hb8⟩
  have HB8 := hid_intro (HB7.out.trans (hb8.mono HB7.out.size))
  have HY8 := hid_intro (HY7.out.below hb8)
  have HV8 := hid_intro (HV7.out.below hb8)
  have HN8 := hid_intro (HN7.out.trans (hb8.mono HN7.out.size))
  have HA8 := hid_intro (HA6.out.trans (hb8.mono HA6.out.size))
  clear hb8 HY6 HY7 HV7 HB7 HN7 HA6 HM7 HS7 HM6 HN6
  clear p0 p1 p2 p3 p4 p5 p6 p7 p8 pl
  obtain ⟨pl, pc⟩ := HV8.out
  have p0 : w8.cell? ⟨w6.heap.size, 0, none⟩ = some (.string A) := pc 0 (by simp)
  have p1 : w8.cell? ⟨w6.heap.size, 1, none⟩ = some (.string M2) := pc 1 (by simp)
  have p2 : w8.cell? ⟨w6.heap.size, 2, none⟩ = some (.int .i64 mo) := pc 2 (by simp)
  have p3 : w8.cell? ⟨w6.heap.size, 3, none⟩ = some (.int .i64 ev) := pc 3 (by simp)
  have p4 : w8.cell? ⟨w6.heap.size, 4, none⟩ = some (.int .i64 su) := pc 4 (by simp)
  have p5 : w8.cell? ⟨w6.heap.size, 5, none⟩ = some (.int .i64 mx) := pc 5 (by simp)
  have p6 : w8.cell? ⟨w6.heap.size, 6, none⟩ = some (.slice t1 tl c1) := pc 6 (by simp)
  have p7 : w8.cell? ⟨w6.heap.size, 7, none⟩ = some (.slice h1 hl d1) := pc 7 (by simp)
  have p8 : w8.cell? ⟨w6.heap.size, 8, none⟩ = some (.int .i64 cd) := pc 8 (by simp)
  clear pc
  go_wp2_with fail
  refine (HG.out w5.heap.size t1 c1 h1 d1 w6 w8 HW6.out HA8.out).mono ?_
  rintro e w9 ⟨rfl, hD9, ho9⟩
  have HY9 := hid_intro (ho9.blk HY8.out (.inl HZ5.out))
  have HV9 := hid_intro (ho9.blk HV8.out (.inr (Nat.le_refl _)))
  have HD9 := hid_intro hD9
  have HN9 := hid_intro (HN8.out.trans (ho9.bel (B := w3.heap.size) (Nat.le_of_lt HZ5.out) HN8.out.size))
  have HB9 := hid_intro (HB8.out.trans (ho9.bel (B := w.heap.size) (Nat.le_trans HZX.out (Nat.le_of_lt HZ5.out)) HB8.out.size))
  clear hD9 ho9 HY8 HV8 HB8 HN8 HA8 HW6
  clear p0 p1 p2 p3 p4 p5 p6 p7 p8 pl
  obtain ⟨pl, pc⟩ := HV9.out
  have p0 : w9.cell? ⟨w6.heap.size, 0, none⟩ = some (.string A) := pc 0 (by simp)
  have p1 : w9.cell? ⟨w6.heap.size, 1, none⟩ = some (.string M2) := pc 1 (by simp)
  have p2 : w9.cell? ⟨w6.heap.size, 2, none⟩ = some (.int .i64 mo) := pc 2 (by simp)
  have p3 : w9.cell? ⟨w6.heap.size, 3, none⟩ = some (.int .i64 ev) := pc 3 (by simp)
  have p4 : w9.cell? ⟨w6.heap.size, 4, none⟩ = some (.int .i64 su) := pc 4 (by simp)
  have p5 : w9.cell? ⟨w6.heap.size, 5, none⟩ = some (.int .i64 mx) := pc 5 (by simp)
  have p6 : w9.cell? ⟨w6.heap.size, 6, none⟩ = some (.slice t1 tl c1) := pc 6 (by simp)
  have p7 : w9.cell? ⟨w6.heap.size, 7, none⟩ = some (.slice h1 hl d1) := pc 7 (by simp)
  have p8 : w9.cell? ⟨w6.heap.size, 8, none⟩ = some (.int .i64 cd) := pc 8 (by simp)
  clear pc
  go_wp2_with fail
  refine (HH.out t1 c1 h1 d1 _ HD9.out).mono ?_
  rintro e w10 ⟨rfl, hb10⟩
  have HY10 := hid_intro (HY9.out.below hb10)
  have HV10 := hid_intro (HV9.out.below hb10)
  have HD10 := hid_intro (HD.out _ _ _ _ HD9.out hb10)
  have HN10 := hid_intro (HN9.out.trans (hb10.mono HN9.out.size))
  have HB10 := hid_intro (HB9.out.trans (hb10.mono HB9.out.size))
  have HL10 := hid_intro (HL.out.below HB10.out)
  clear hb10 HY9 HV9 HD9 HN9 HB9
  clear p0 p1 p2 p3 p4 p5 p6 p7 p8 pl
  go_wp2_with fail
  refine (HJ.out _ HL10.out).mono ?_
  rintro e w12 ⟨t2, c2, h2, d2, rfl, hM12, _, hb12⟩
  have HY12 := hid_intro (HY10.out.below hb12)
  have HV12 := hid_intro (HV10.out.below hb12)
  have HD12 := hid_intro (HD.out _ _ _ _ HD10.out hb12)
  have HN12 := hid_intro (HN10.out.trans (hb12.mono HN10.out.size))
  have HB12 := hid_intro (HB10.out.trans (hb12.mono HB10.out.size))
  have HA12 : Hid (Below w12.heap.size w12 (w12.alloc (.cells #[.string A, .string M2, .int .i64 mo, .int .i64 ev, .int .i64 su, .int .i64 mx, .slice t2 tl c2, .slice h2 hl d2, .int .i64 cd] 34))) := hid_intro ((Below.refl _ _).alloc (Nat.le_refl _) _)
  have HM13 := hid_intro (HK.out _ _ _ hM12 HA12.out)
  have HV13 := hid_intro (HV12.out.below HA12.out)
  have HD13 := hid_intro (HD.out _ _ _ _ HD12.out HA12.out)
  have HN13 := hid_intro (HN12.out.trans (HA12.out.mono HN12.out.size))
  have HB13 := hid_intro (HB12.out.trans (HA12.out.mono HB12.out.size))
  have HS13 := hid_intro (HK.out _ _ _ HM3.out HN13.out)
  clear hb12 hM12 HY10 HV10 HD10 HN10 HB10 HV12 HD12 HN12 HB12 HL10
  obtain ⟨pl, pc⟩ := HY12.out
  have p0 : w12.cell? ⟨w3.heap.size, 0, none⟩ = some (.string A) := pc 0 (by simp)
  have p1 : w12.cell? ⟨w3.heap.size, 1, none⟩ = some (.string M2) := pc 1 (by simp)
  have p2 : w12.cell? ⟨w3.heap.size, 2, none⟩ = some (.int .i64 mo) := pc 2 (by simp)
  have p3 : w12.cell? ⟨w3.heap.size, 3, none⟩ = some (.int .i64 ev) := pc 3 (by simp)
  have p4 : w12.cell? ⟨w3.heap.size, 4, none⟩ = some (.int .i64 su) := pc 4 (by simp)
  have p5 : w12.cell? ⟨w3.heap.size, 5, none⟩ = some (.int .i64 mx) := pc 5 (by simp)
  have p6 : w12.cell? ⟨w3.heap.size, 6, none⟩ = some (.slice t0 tl c0) := pc 6 (by simp)
  have p7 : w12.cell? ⟨w3.heap.size, 7, none⟩ = some (.slice h0 hl d0) := pc 7 (by simp)
  have p8 : w12.cell? ⟨w3.heap.size, 8, none⟩ = some (.int .i64 cd) := pc 8 (by simp)
  clear pc
  go_wp2_with fail
  refine (HE.out _ _ _ HM13.out HS13.out).mono ?_
  rintro e w14 ⟨rfl, hb14⟩
  have HV14 := hid_intro (HV13.out.below hb14)
  have HD14 := hid_intro (HD.out _ _ _ _ HD13.out hb14)
  have HB14 := hid_intro (HB13.out.trans (hb14.mono HB13.out.size))
  clear hb14 HV13 HD13 HB13 HN13 HS13 HM13 HY12
  clear p0 p1 p2 p3 p4 p5 p6 p7 p8 pl
  obtain ⟨pl, pc⟩ := HV14.out
  have p0 : w14.cell? ⟨w6.heap.size, 0, none⟩ = some (.string A) := pc 0 (by simp)
  have p1 : w14.cell? ⟨w6.heap.size, 1, none⟩ = some (.string M2) := pc 1 (by simp)
  have p2 : w14.cell? ⟨w6.heap.size, 2, none⟩ = some (.int .i64 mo) := pc 2 (by simp)
  have p3 : w14.cell? ⟨w6.heap.size, 3, none⟩ = some (.int .i64 ev) := pc 3 (by simp)
  have p4 : w14.cell? ⟨w6.heap.size, 4, none⟩ = some (.int .i64 su) := pc 4 (by simp)
  have p5 : w14.cell? ⟨w6.heap.size, 5, none⟩ = some (.int .i64 mx) := pc 5 (by simp)
  have p6 : w14.cell? ⟨w6.heap.size, 6, none⟩ = some (.slice t1 tl c1) := pc 6 (by simp)
  have p7 : w14.cell? ⟨w6.heap.size, 7, none⟩ = some (.slice h1 hl d1) := pc 7 (by simp)
  have p8 : w14.cell? ⟨w6.heap.size, 8, none⟩ = some (.int .i64 cd) := pc 8 (by simp)
  clear pc
  go_wp2_with fail
  refine (HH.out t1 c1 h1 d1 _ HD14.out).mono ?_
  rintro e w15 ⟨rfl, hb15⟩
  have HB15 := hid_intro (HB14.out.trans (hb15.mono HB14.out.size))
  clear hb15 HV14 HD14
  clear p0 p1 p2 p3 p4 p5 p6 p7 p8 pl
  go_wp2_with fail
  go_ret
  exact ⟨rfl, HB15.out⟩
theorem big (s : ByteArray) (w : World) (h1 : s.size ≤ maxLen) (h : ¬ s.size ≤ 1048576) :
    Calls Tryd.prog 4 #[.string s] w fun e w' => e = .returned (.bool true) ∧ Below w.heap.size w w' := by
  unfold maxLen at h1
  have h' : (1048576 : Int) < (s.size : Int) := by omega
  go_enter Tryd.func4, Tryd.ntmps4
  go_wp2_with fail
  go_ret
  exact ⟨rfl, Below.refl _ _⟩
theorem walk (s : ByteArray) (h1 : s.size ≤ maxLen) (w : World) (hL : Laid w) :
    Calls Tryd.prog 4 #[.string s] w fun e w' => e = .returned (.bool true) ∧ Below w.heap.size w w' := by
  by_cases h : s.size ≤ 1048576
  · obtain ⟨z, cd, lt, lh, hi, hs⟩ := read_both s h
    refine law_in (fun v W => IsO v z cd W) (fun b p q W => MadeG 1 tcells tz b p z.ts W ∧ MadeG 2 H.cells H.zero b q z.hs W ∧ Apart p q z.ts.length z.hs.length) (fun p q W => MkdW p q z.ts.length z.hs.length 1 W) s z.a z.m z.mo z.ev z.su z.mx cd z.ts.length z.hs.length ((1 + z.ts.length + 2 * z.hs.length : Nat) : Int) w h (by omega) hL (fun v W W' h hb => h.below hb) (fun p q W W' h hb => h.below hb) (fun W => ?_) (fun W hW => ?_) (fun base t1 c1 h1 d1 W W' hM hb => ?_) (fun t1 c1 h1 d1 W hD => ?_) (fun v v' W h h' => eqO_any v v' z cd W lt lh h h')
    · refine (hs W).mono ?_
      rintro e w' ⟨v, rfl, hv, hb⟩
      have hi := hv.is
      obtain ⟨t0, c0, h0, d0, rfl, _⟩ := hv
      exact ⟨t0, c0, h0, d0, rfl, hi, hb⟩
    · refine (hi W hW).mono ?_
      rintro e w' ⟨v, rfl, hv, hb⟩
      have hi := hv.is
      obtain ⟨t0, c0, h0, d0, rfl, m1, m2, m3⟩ := hv
      exact ⟨t0, c0, h0, d0, rfl, hi, ⟨m1, m2, m3⟩, hb⟩
    · obtain ⟨m1, m2, m3⟩ := hM
      exact markO_in (fun W => MkdW t1 h1 z.ts.length z.hs.length 1 W) z.a z.m z.mo z.ev z.su z.mx cd _ t1 z.ts.length c1 h1 z.hs.length d1 base W.heap.size W' (fun V hV => by
        have hb' := hb.trans (hV.mono hb.size)
        exact markW_in z.a z.m z.mo z.ev z.su z.mx t1 z.ts.length c1 h1 z.hs.length d1 1 base W.heap.size V lt lh (by omega) hb'.size (m1.own.imp id (fun ⟨g, e1, e2, e3⟩ => ⟨g, e1, e2, e3.lt, by have e4 := e3.below hb'; rw [Nat.mul_one] at e4; exact e4⟩)) (m2.own.imp id (fun ⟨g, e1, e2, e3⟩ => ⟨g, e1, e2, e3.lt, e3.below hb'⟩)) m3)
    · exact heldO_in z.a z.m z.mo z.ev z.su z.mx cd _ (by omega) t1 z.ts.length c1 h1 z.hs.length d1 W (fun V hV => heldW_in z.a z.m z.mo z.ev z.su z.mx t1 z.ts.length c1 h1 z.hs.length d1 1 V lt lh (by omega) (hD.below hV))
  · exact big s w h1 h
set_option maxRecDepth 100000 in
theorem lifted (os : Os) (started : os.Started) (H : Type) (enc : TypeId × Value → H) :
    ReturnsInHanded {} Tryd.checked os 4 .any (fun w args => (Rows.fnExactWindowReadSpec.pre enc Tryd.prog Tryd.f4 [] false w args ∧ laidMetH Tryd.prog Lay.laid w) ∧ sizedMet enc Tryd.prog Tryd.f4 (OpenSpec.ofChange Rows.fnExactWindowReadSpec) false w args)
      (Rows.fnExactWindowReadSpec.post enc Tryd.prog Tryd.f4 false true false false) := by
  refine returnsInHanded_of_change_and (C := Tryd.checked) (X := fun w _ => laidMetH Tryd.prog Lay.laid w) (fun _ _ _ hh h => h.of_heap hh) Lay.own started (by kernel_rfl) Tryd.func4
    (ChangeSpec.witness_shaped (enc := enc) (C := Tryd.checked) (os := os) (X := fun w _ => laidMetH Tryd.prog Lay.laid w) false (World.doorLaid Tryd.prog 400 os) #[.string ByteArray.empty] 8 rfl (World.shaped_of_RefB (by kernel_rfl) (by kernel_rfl)) (by kernel_rfl) (by kernel_rfl) (by kernel_rfl) (Lay.door_met os _)) ?_
  intro W base args ds gs before hval0 hW _ _ hL _
  have hval : ∀ (j : Nat) t v, Tryd.f4.params[j]? = some t → args[j]? = some v → Value.okWide Tryd.prog W .any base t v := hval0
  have hW' := hW
  obtain ⟨p, q, hA0, hV0, rfl, hfz, hnd⟩ := hW
  have hA : DataW.TrodAll enc Tryd.prog W 0 (fun _ => true) true Tryd.f4.params.toList args.toList ds p := hA0
  have hV : DataW.TrodVars enc Tryd.prog W (fun _ => true) ["loop.example/g00562/impl.monthLengths"] gs q := hV0
  rw [Tryd.params4] at hA hval
  obtain ⟨v0, d0, rfl, rfl, h0⟩ := trodAll_one hA
  have k0 := h0
  have lt0 : ∀ x ∈ p, x.block < W.heap.size := fun x hx => hW'.lt x (by simp [hx])
  obtain ⟨a0, rfl, rfl, rfl, w0⟩ := open_string Tryd.underlying9 (hval 0 9 v0 rfl rfl) h0
  have hl := Lay.of_laid hL
  obtain ⟨_, _, _, _, gd, _, rfl, _, _, _, _, _⟩ := trodVars_one hV
  refine (walk a0 w0 W  hl).mono fun e W' ⟨he, bel⟩ => ?_
  subst he
  exact ⟨_, rfl, _, _, _, _, _, _, hW', trodAll_mk1 (shut_bool Tryd.underlying4 true), trodAll_mk1 (Below.trod Lay.laidOut (by kernel_rfl) (of_decide_eq_true (by kernel_rfl)) k0 bel lt0), bel.trodVars Lay.laidOut (by kernel_rfl) hV, bel.frame _, fun h => by cases h⟩
theorem row_holds : Rows.FnExactWindowReadSaid :=
  OpenClaim.holds_of_wide 4 Tryd.f4 rfl rfl rfl rfl rfl rfl rfl ⟨rfl, rfl, rfl, rfl, rfl⟩ rfl rfl rfl rfl rfl (by kernel_rfl) Tryd.func4 (by kernel_rfl)
    (of_decide_eq_true (by kernel_rfl)) (by unfold Func.isWrapper; rw [if_neg (of_decide_eq_false (by kernel_rfl))]; exact ⟨rfl, rfl⟩)
    (fun os started H enc _ => lifted os started H enc)
theorem card_holds : Rows.FnExactWindowReadCardSaid :=
  Claim7.holds_tied_plain_at .later [] [.data] true Rows.fnExactWindowReadCard.stood.harness false
    row_holds (fun _ h => by cases h) (by kernel_rfl) (fun _ h => by cases h) fnExactWindowRead_row_tie rfl ⟨rfl, rfl⟩ (by kernel_rfl) rfl
    (fun f fn hf hfn => by
      obtain rfl : f = 4 := Option.some.inj ((show Tryd.prog.funcNamed "loop.example/g00562/laws.FnExactWindowRead" = some 4 by kernel_rfl).symm.trans hf) |>.symm
      obtain rfl : fn = Tryd.f4 := (Option.some.inj (Tryd.func4.symm.trans hfn)).symm
      exact ⟨by kernel_rfl, fun j t ht => by
        rw [Tryd.params4] at ht
        have hm : t ∈ [9] := by simpa using Array.mem_of_getElem? ht
        have hall : ([9].all fun u => !Tryd.prog.wantsStandIn u) = true := by kernel_rfl
        exact (show Tryd.prog.wantsStandIn t = false by simpa using List.all_eq_true.1 hall t hm)⟩)
    (by kernel_rfl)
end WindowReadL
/-- THE STATEMENT: THE CARD -/
theorem fnExactWindowRead_holds : Rows.FnExactWindowReadCardSaid := WindowReadL.card_holds
#print axioms fnExactWindowRead_holds
end Go.Proofs.YtnlmpejgiakepaaDoor
