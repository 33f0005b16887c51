/-
  FnExactWindowOf: for every event the law's call returns true (the program's WindowOf hands back what the model's does, its answer owns its memory, behind another call too), and the arguments read as they did. The condition is the card's: the program's table starts as its text lays it.
-/
import Derived.Test.YtnfppcndadfpcaaDoorWdG
import Derived.Test.YtnfppcndadfpcaaDoorWdMk
import Derived.Test.YtnfppcndadfpcaaDoorEvtLaw
import Derived.Test.YtnfppcndadfpcaaDoorEvtIn
import Derived.Test.YtnfppcndadfpcaaDoorTabl
import Derived.Test.YtnfppcndadfpcaaDoorCards
import Derived.Carry
import Derived.OpenVars
import Derived.Lib.SmallJoins
import Derived.SevenTiedAt
namespace Go.Proofs.YtnfppcndadfpcaaDoor
open Go.ChangeShapes Go.WideShapes Go.ChangeAt Go.RowKit
set_option linter.unusedVariables false
namespace WindowOfL
open WinR
open RowG (MadeG)
open CatR (Blk Blk.new)
open DateR (Laid)
open EvtR (ev szE sz_any toEvent_any)
set_option maxRecDepth 100000 in
set_option maxHeartbeats 8000000 in
theorem law_in (M : Value → World → Prop) (MW : Nat → Option Addr → Option Addr → World → Prop) (D : Option Addr → Option Addr → World → Prop) (i a m : ByteArray) (n k : Int) (t : ByteArray) (A M2 : ByteArray) (mo ev su mx : Int) (tl hl : Nat) (left Q : Int) (w : World) (hleft : ¬ left < 0) (hQ : ¬ Q < 0) (hL : Laid w)
    (hK2 : ∀ v W W', M v W → Below W.heap.size W W' → M v W')
    (hD : ∀ p q W W', D p q W → Below W.heap.size W W' → D p q W')
    (hZ : ∀ W, Calls Tryd.prog 20 #[.agg #[.string i, .string a, .string m, .int .i64 n, .int .i64 k, .string t], .int .i64 1048576] W fun e w' => e = .returned (.int .i64 left) ∧ Below W.heap.size W w')
    (hT : ∀ W, Calls Tryd.prog 22 #[.agg #[.string i, .string a, .string m, .int .i64 n, .int .i64 k, .string t]] W fun e w' => e = .returned (.agg #[.string i, .string a, .string m, .int .i64 n, .int .i64 k, .string t]) ∧ Below W.heap.size W w')
    (hS : ∀ W, Calls Tryd.prog 21 #[.agg #[.string i, .string a, .string m, .int .i64 n, .int .i64 k, .string t]] W fun e w' => ∃ t0 c0 h0 d0, e = .returned (.agg #[.string A, .string M2, .int .i64 mo, .int .i64 ev, .int .i64 su, .int .i64 mx, .slice t0 tl c0, .slice h0 hl d0]) ∧ M (.agg #[.string A, .string M2, .int .i64 mo, .int .i64 ev, .int .i64 su, .int .i64 mx, .slice t0 tl c0, .slice h0 hl d0]) w' ∧ Below W.heap.size W w')
    (hJ : ∀ W, Laid W → Calls Tryd.prog 23 #[.agg #[.string i, .string a, .string m, .int .i64 n, .int .i64 k, .string t]] W fun e w' => ∃ t1 c1 h1 d1, e = .returned (.agg #[.string A, .string M2, .int .i64 mo, .int .i64 ev, .int .i64 su, .int .i64 mx, .slice t1 tl c1, .slice h1 hl d1]) ∧ M (.agg #[.string A, .string M2, .int .i64 mo, .int .i64 ev, .int .i64 su, .int .i64 mx, .slice t1 tl c1, .slice h1 hl d1]) w' ∧ MW W.heap.size t1 h1 w' ∧ Below W.heap.size W w')
    (hG : ∀ base t1 c1 h1 d1 W W', MW base t1 h1 W → Below W.heap.size W W' → Calls Tryd.prog 24 #[.agg #[.string A, .string M2, .int .i64 mo, .int .i64 ev, .int .i64 su, .int .i64 mx, .slice t1 tl c1, .slice h1 hl d1], .int .i64 1] W' fun e w' => e = .returned (.int .i64 Q) ∧ D t1 h1 w' ∧ Outs base W.heap.size W' w')
    (hH : ∀ t1 c1 h1 d1 W, D t1 h1 W → Calls Tryd.prog 25 #[.agg #[.string A, .string M2, .int .i64 mo, .int .i64 ev, .int .i64 su, .int .i64 mx, .slice t1 tl c1, .slice h1 hl d1], .int .i64 1] W fun e w' => e = .returned (.int .i64 Q) ∧ Below W.heap.size W w')
    (hE : ∀ v v' W, M v W → M v' W → Calls Tryd.prog 19 #[v, v'] W fun e w' => e = .returned (.bool true) ∧ Below W.heap.size W w') :
    Calls Tryd.prog 5 #[.agg #[.string i, .string a, .string m, .int .i64 n, .int .i64 k, .string t]] w fun e w' => e = .returned (.bool true) ∧ Below w.heap.size w w' := by
  have HL := hid_intro hL
  have HK := hid_intro hK2
  have HD := hid_intro hD
  have HZ := hid_intro hZ
  have HT := hid_intro hT
  have HS := hid_intro hS
  have HJ := hid_intro hJ
  have HG := hid_intro hG
  have HH := hid_intro hH
  have HE := hid_intro hE
  clear hL hK2 hD hZ hT hS hJ hG hH hE
  have HB0 : Hid (Below w.heap.size w (w.alloc (.cells #[.string i, .string a, .string m, .int .i64 n, .int .i64 k, .string t] 46))) := hid_intro ((Below.refl _ _).alloc (Nat.le_refl _) _)
  have HX0 := hid_intro (Blk.new w [.string i, .string a, .string m, .int .i64 n, .int .i64 k, .string t] 46)
  go_enter Tryd.func5, Tryd.ntmps5
  go_wp2_with fail
  refine (HZ.out _).mono ?_
  rintro e w1 ⟨rfl, hb1⟩
  have HB1 := hid_intro (HB0.out.trans (hb1.mono HB0.out.size))
  have HX1 := hid_intro (HX0.out.below hb1)
  clear hb1 HB0 HX0
  obtain ⟨pl, pc⟩ := HX1.out
  have p0 : w1.cell? ⟨w.heap.size, 0, none⟩ = some (.string i) := pc 0 (by simp)
  have p1 : w1.cell? ⟨w.heap.size, 1, none⟩ = some (.string a) := pc 1 (by simp)
  have p2 : w1.cell? ⟨w.heap.size, 2, none⟩ = some (.string m) := pc 2 (by simp)
  have p3 : w1.cell? ⟨w.heap.size, 3, none⟩ = some (.int .i64 n) := pc 3 (by simp)
  have p4 : w1.cell? ⟨w.heap.size, 4, none⟩ = some (.int .i64 k) := pc 4 (by simp)
  have p5 : w1.cell? ⟨w.heap.size, 5, none⟩ = some (.string t) := pc 5 (by simp)
  clear pc
  go_wp2_with fail
  refine (HT.out _).mono ?_
  rintro e w2 ⟨rfl, hb2⟩
  have HB2 := hid_intro (HB1.out.trans (hb2.mono HB1.out.size))
  have HX2 := hid_intro (HX1.out.below hb2)
  clear hb2 HX1 HB1
  clear p0 p1 p2 p3 p4 p5 pl
  go_wp2_with fail
  refine (HS.out _).mono ?_
  rintro e w3 ⟨t0, c0, h0, d0, rfl, hM3, hb3⟩
  have HB3 := hid_intro (HB2.out.trans (hb3.mono HB2.out.size))
  have HX3 := hid_intro (HX2.out.below hb3)
  have HM3 := hid_intro hM3
  clear hb3 hM3 HX2 HB2
  have HA3 : Hid (Below w3.heap.size w3 (w3.alloc (.cells #[.string A, .string M2, .int .i64 mo, .int .i64 ev, .int .i64 su, .int .i64 mx, .slice t0 tl c0, .slice h0 hl d0] 26))) := hid_intro ((Below.refl _ _).alloc (Nat.le_refl _) _)
  have HB4 := hid_intro (HB3.out.trans (HA3.out.mono HB3.out.size))
  have HX4 := hid_intro (HX3.out.below HA3.out)
  have HY4 := hid_intro (Blk.new w3 [.string A, .string M2, .int .i64 mo, .int .i64 ev, .int .i64 su, .int .i64 mx, .slice t0 tl c0, .slice h0 hl d0] 26)
  have HZX : Hid (w.heap.size < w3.heap.size) := hid_intro HX3.out.1
  obtain ⟨pl, pc⟩ := HX3.out
  have p0 : w3.cell? ⟨w.heap.size, 0, none⟩ = some (.string i) := pc 0 (by simp)
  have p1 : w3.cell? ⟨w.heap.size, 1, none⟩ = some (.string a) := pc 1 (by simp)
  have p2 : w3.cell? ⟨w.heap.size, 2, none⟩ = some (.string m) := pc 2 (by simp)
  have p3 : w3.cell? ⟨w.heap.size, 3, none⟩ = some (.int .i64 n) := pc 3 (by simp)
  have p4 : w3.cell? ⟨w.heap.size, 4, none⟩ = some (.int .i64 k) := pc 4 (by simp)
  have p5 : w3.cell? ⟨w.heap.size, 5, none⟩ = some (.string t) := pc 5 (by simp)
  clear pc
  go_wp2_with fail
  refine (HT.out _).mono ?_
  rintro e w5 ⟨rfl, hb5⟩
  have HB5 := hid_intro (HB4.out.trans (hb5.mono HB4.out.size))
  have HX5 := hid_intro (HX4.out.below hb5)
  have HY5 := hid_intro (HY4.out.below hb5)
  have HN5 := hid_intro (HA3.out.trans (hb5.mono HA3.out.size))
  have HL5 := hid_intro (HL.out.below HB5.out)
  clear hb5 HX3 HX4 HY4 HB3 HB4 HA3
  clear p0 p1 p2 p3 p4 p5 pl
  go_wp2_with fail
  refine (HJ.out _ HL5.out).mono ?_
  rintro e w6 ⟨t1, c1, h1, d1, rfl, hM6, hN6, hb6⟩
  have HB6 := hid_intro (HB5.out.trans (hb6.mono HB5.out.size))
  have HX6 := hid_intro (HX5.out.below hb6)
  have HY6 := hid_intro (HY5.out.below hb6)
  have HN6 := hid_intro (HN5.out.trans (hb6.mono HN5.out.size))
  have HM6 := hid_intro hM6
  have HW6 := hid_intro hN6
  have HZ5 : Hid (w3.heap.size < w5.heap.size) := hid_intro HY5.out.1
  have HZ6 : Hid (w5.heap.size ≤ w6.heap.size) := hid_intro hb6.size
  have HA6 : Hid (Below w6.heap.size w6 (w6.alloc (.cells #[.string A, .string M2, .int .i64 mo, .int .i64 ev, .int .i64 su, .int .i64 mx, .slice t1 tl c1, .slice h1 hl d1] 26))) := hid_intro ((Below.refl _ _).alloc (Nat.le_refl _) _)
  have HB7 := hid_intro (HB6.out.trans (HA6.out.mono HB6.out.size))
  have HX7 := hid_intro (HX6.out.below HA6.out)
  have HY7 := hid_intro (HY6.out.below HA6.out)
  have HV7 := hid_intro (Blk.new w6 [.string A, .string M2, .int .i64 mo, .int .i64 ev, .int .i64 su, .int .i64 mx, .slice t1 tl c1, .slice h1 hl d1] 26)
  have HN7 := hid_intro (HN6.out.trans (HA6.out.mono HN6.out.size))
  have HM7 := hid_intro (HK.out _ _ _ HM6.out HA6.out)
  have HS7 := hid_intro (HK.out _ _ _ HM3.out HN7.out)
  clear hb6 hM6 hN6 HX5 HY5 HB5 HN5 HL5 HX6 HB6
  obtain ⟨pl, pc⟩ := HY6.out
  have p0 : w6.cell? ⟨w3.heap.size, 0, none⟩ = some (.string A) := pc 0 (by simp)
  have p1 : w6.cell? ⟨w3.heap.size, 1, none⟩ = some (.string M2) := pc 1 (by simp)
  have p2 : w6.cell? ⟨w3.heap.size, 2, none⟩ = some (.int .i64 mo) := pc 2 (by simp)
  have p3 : w6.cell? ⟨w3.heap.size, 3, none⟩ = some (.int .i64 ev) := pc 3 (by simp)
  have p4 : w6.cell? ⟨w3.heap.size, 4, none⟩ = some (.int .i64 su) := pc 4 (by simp)
  have p5 : w6.cell? ⟨w3.heap.size, 5, none⟩ = some (.int .i64 mx) := pc 5 (by simp)
  have p6 : w6.cell? ⟨w3.heap.size, 6, none⟩ = some (.slice t0 tl c0) := pc 6 (by simp)
  have p7 : w6.cell? ⟨w3.heap.size, 7, none⟩ = some (.slice h0 hl d0) := pc 7 (by simp)
  clear pc
  go_wp2_with fail
  refine (HE.out _ _ _ HM7.out HS7.out).mono ?_
  rintro e w8 ⟨rfl, hb8⟩
  have HB8 := hid_intro (HB7.out.trans (hb8.mono HB7.out.size))
  have HX8 := hid_intro (HX7.out.below hb8)
  have HY8 := hid_intro (HY7.out.below hb8)
  have HV8 := hid_intro (HV7.out.below hb8)
  have HN8 := hid_intro (HN7.out.trans (hb8.mono HN7.out.size))
  have HA8 := hid_intro (HA6.out.trans (hb8.mono HA6.out.size))
  clear hb8 HY6 HX7 HY7 HV7 HB7 HN7 HA6 HM7 HS7 HM6 HN6
  clear p0 p1 p2 p3 p4 p5 p6 p7 pl
  obtain ⟨pl, pc⟩ := HV8.out
  have p0 : w8.cell? ⟨w6.heap.size, 0, none⟩ = some (.string A) := pc 0 (by simp)
  have p1 : w8.cell? ⟨w6.heap.size, 1, none⟩ = some (.string M2) := pc 1 (by simp)
  have p2 : w8.cell? ⟨w6.heap.size, 2, none⟩ = some (.int .i64 mo) := pc 2 (by simp)
  have p3 : w8.cell? ⟨w6.heap.size, 3, none⟩ = some (.int .i64 ev) := pc 3 (by simp)
  have p4 : w8.cell? ⟨w6.heap.size, 4, none⟩ = some (.int .i64 su) := pc 4 (by simp)
  have p5 : w8.cell? ⟨w6.heap.size, 5, none⟩ = some (.int .i64 mx) := pc 5 (by simp)
  have p6 : w8.cell? ⟨w6.heap.size, 6, none⟩ = some (.slice t1 tl c1) := pc 6 (by simp)
  have p7 : w8.cell? ⟨w6.heap.size, 7, none⟩ = some (.slice h1 hl d1) := pc 7 (by simp)
  clear pc
  go_wp2_with fail
  refine (HG.out w5.heap.size t1 c1 h1 d1 w6 w8 HW6.out HA8.out).mono ?_
  rintro e w9 ⟨rfl, hD9, ho9⟩
  have HX9 := hid_intro (ho9.blk HX8.out (.inl (Nat.lt_of_lt_of_le HZX.out (Nat.le_of_lt HZ5.out))))
  have HY9 := hid_intro (ho9.blk HY8.out (.inl HZ5.out))
  have HV9 := hid_intro (ho9.blk HV8.out (.inr (Nat.le_refl _)))
  have HD9 := hid_intro hD9
  have HN9 := hid_intro (HN8.out.trans (ho9.bel (B := w3.heap.size) (Nat.le_of_lt HZ5.out) HN8.out.size))
  have HB9 := hid_intro (HB8.out.trans (ho9.bel (B := w.heap.size) (Nat.le_trans (Nat.le_of_lt HZX.out) (Nat.le_of_lt HZ5.out)) HB8.out.size))
  clear hD9 ho9 HX8 HY8 HV8 HB8 HN8 HA8 HW6
  clear p0 p1 p2 p3 p4 p5 p6 p7 pl
  obtain ⟨pl, pc⟩ := HV9.out
  have p0 : w9.cell? ⟨w6.heap.size, 0, none⟩ = some (.string A) := pc 0 (by simp)
  have p1 : w9.cell? ⟨w6.heap.size, 1, none⟩ = some (.string M2) := pc 1 (by simp)
  have p2 : w9.cell? ⟨w6.heap.size, 2, none⟩ = some (.int .i64 mo) := pc 2 (by simp)
  have p3 : w9.cell? ⟨w6.heap.size, 3, none⟩ = some (.int .i64 ev) := pc 3 (by simp)
  have p4 : w9.cell? ⟨w6.heap.size, 4, none⟩ = some (.int .i64 su) := pc 4 (by simp)
  have p5 : w9.cell? ⟨w6.heap.size, 5, none⟩ = some (.int .i64 mx) := pc 5 (by simp)
  have p6 : w9.cell? ⟨w6.heap.size, 6, none⟩ = some (.slice t1 tl c1) := pc 6 (by simp)
  have p7 : w9.cell? ⟨w6.heap.size, 7, none⟩ = some (.slice h1 hl d1) := pc 7 (by simp)
  clear pc
  go_wp2_with fail
  refine (HH.out t1 c1 h1 d1 _ HD9.out).mono ?_
  rintro e w10 ⟨rfl, hb10⟩
  have HX10 := hid_intro (HX9.out.below hb10)
  have HY10 := hid_intro (HY9.out.below hb10)
  have HV10 := hid_intro (HV9.out.below hb10)
  have HD10 := hid_intro (HD.out _ _ _ _ HD9.out hb10)
  have HN10 := hid_intro (HN9.out.trans (hb10.mono HN9.out.size))
  have HB10 := hid_intro (HB9.out.trans (hb10.mono HB9.out.size))
  clear hb10 HX9 HY9 HV9 HD9 HN9 HB9
  clear p0 p1 p2 p3 p4 p5 p6 p7 pl
  obtain ⟨pl, pc⟩ := HX10.out
  have p0 : w10.cell? ⟨w.heap.size, 0, none⟩ = some (.string i) := pc 0 (by simp)
  have p1 : w10.cell? ⟨w.heap.size, 1, none⟩ = some (.string a) := pc 1 (by simp)
  have p2 : w10.cell? ⟨w.heap.size, 2, none⟩ = some (.string m) := pc 2 (by simp)
  have p3 : w10.cell? ⟨w.heap.size, 3, none⟩ = some (.int .i64 n) := pc 3 (by simp)
  have p4 : w10.cell? ⟨w.heap.size, 4, none⟩ = some (.int .i64 k) := pc 4 (by simp)
  have p5 : w10.cell? ⟨w.heap.size, 5, none⟩ = some (.string t) := pc 5 (by simp)
  clear pc
  go_wp2_with fail
  refine (HT.out _).mono ?_
  rintro e w11 ⟨rfl, hb11⟩
  have HX11 := hid_intro (HX10.out.below hb11)
  have HY11 := hid_intro (HY10.out.below hb11)
  have HV11 := hid_intro (HV10.out.below hb11)
  have HD11 := hid_intro (HD.out _ _ _ _ HD10.out hb11)
  have HN11 := hid_intro (HN10.out.trans (hb11.mono HN10.out.size))
  have HB11 := hid_intro (HB10.out.trans (hb11.mono HB10.out.size))
  have HL11 := hid_intro (HL.out.below HB11.out)
  clear hb11 HX10 HY10 HV10 HD10 HN10 HB10
  clear p0 p1 p2 p3 p4 p5 pl
  go_wp2_with fail
  refine (HJ.out _ HL11.out).mono ?_
  rintro e w12 ⟨t2, c2, h2, d2, rfl, hM12, _, hb12⟩
  have HY12 := hid_intro (HY11.out.below hb12)
  have HV12 := hid_intro (HV11.out.below hb12)
  have HD12 := hid_intro (HD.out _ _ _ _ HD11.out hb12)
  have HN12 := hid_intro (HN11.out.trans (hb12.mono HN11.out.size))
  have HB12 := hid_intro (HB11.out.trans (hb12.mono HB11.out.size))
  have HA12 : Hid (Below w12.heap.size w12 (w12.alloc (.cells #[.string A, .string M2, .int .i64 mo, .int .i64 ev, .int .i64 su, .int .i64 mx, .slice t2 tl c2, .slice h2 hl d2] 26))) := hid_intro ((Below.refl _ _).alloc (Nat.le_refl _) _)
  have HM13 := hid_intro (HK.out _ _ _ hM12 HA12.out)
  have HV13 := hid_intro (HV12.out.below HA12.out)
  have HD13 := hid_intro (HD.out _ _ _ _ HD12.out HA12.out)
  have HN13 := hid_intro (HN12.out.trans (HA12.out.mono HN12.out.size))
  have HB13 := hid_intro (HB12.out.trans (HA12.out.mono HB12.out.size))
  have HS13 := hid_intro (HK.out _ _ _ HM3.out HN13.out)
  clear hb12 hM12 HX11 HY11 HV11 HD11 HN11 HB11 HV12 HD12 HN12 HB12 HL11
  obtain ⟨pl, pc⟩ := HY12.out
  have p0 : w12.cell? ⟨w3.heap.size, 0, none⟩ = some (.string A) := pc 0 (by simp)
  have p1 : w12.cell? ⟨w3.heap.size, 1, none⟩ = some (.string M2) := pc 1 (by simp)
  have p2 : w12.cell? ⟨w3.heap.size, 2, none⟩ = some (.int .i64 mo) := pc 2 (by simp)
  have p3 : w12.cell? ⟨w3.heap.size, 3, none⟩ = some (.int .i64 ev) := pc 3 (by simp)
  have p4 : w12.cell? ⟨w3.heap.size, 4, none⟩ = some (.int .i64 su) := pc 4 (by simp)
  have p5 : w12.cell? ⟨w3.heap.size, 5, none⟩ = some (.int .i64 mx) := pc 5 (by simp)
  have p6 : w12.cell? ⟨w3.heap.size, 6, none⟩ = some (.slice t0 tl c0) := pc 6 (by simp)
  have p7 : w12.cell? ⟨w3.heap.size, 7, none⟩ = some (.slice h0 hl d0) := pc 7 (by simp)
  clear pc
  go_wp2_with fail
  refine (HE.out _ _ _ HM13.out HS13.out).mono ?_
  rintro e w14 ⟨rfl, hb14⟩
  have HV14 := hid_intro (HV13.out.below hb14)
  have HD14 := hid_intro (HD.out _ _ _ _ HD13.out hb14)
  have HB14 := hid_intro (HB13.out.trans (hb14.mono HB13.out.size))
  clear hb14 HV13 HD13 HB13 HN13 HS13 HM13 HY12
  clear p0 p1 p2 p3 p4 p5 p6 p7 pl
  obtain ⟨pl, pc⟩ := HV14.out
  have p0 : w14.cell? ⟨w6.heap.size, 0, none⟩ = some (.string A) := pc 0 (by simp)
  have p1 : w14.cell? ⟨w6.heap.size, 1, none⟩ = some (.string M2) := pc 1 (by simp)
  have p2 : w14.cell? ⟨w6.heap.size, 2, none⟩ = some (.int .i64 mo) := pc 2 (by simp)
  have p3 : w14.cell? ⟨w6.heap.size, 3, none⟩ = some (.int .i64 ev) := pc 3 (by simp)
  have p4 : w14.cell? ⟨w6.heap.size, 4, none⟩ = some (.int .i64 su) := pc 4 (by simp)
  have p5 : w14.cell? ⟨w6.heap.size, 5, none⟩ = some (.int .i64 mx) := pc 5 (by simp)
  have p6 : w14.cell? ⟨w6.heap.size, 6, none⟩ = some (.slice t1 tl c1) := pc 6 (by simp)
  have p7 : w14.cell? ⟨w6.heap.size, 7, none⟩ = some (.slice h1 hl d1) := pc 7 (by simp)
  clear pc
  go_wp2_with fail
  refine (HH.out t1 c1 h1 d1 _ HD14.out).mono ?_
  rintro e w15 ⟨rfl, hb15⟩
  have HB15 := hid_intro (HB14.out.trans (hb15.mono HB14.out.size))
  clear hb15 HV14 HD14
  clear p0 p1 p2 p3 p4 p5 p6 p7 pl
  go_wp2_with fail
  go_ret
  exact ⟨rfl, HB15.out⟩
theorem big (i a m : ByteArray) (n k : Int) (t : ByteArray) (left : Int) (w : World) (hleft : left < 0)
    (hZ : ∀ W, Calls Tryd.prog 20 #[.agg #[.string i, .string a, .string m, .int .i64 n, .int .i64 k, .string t], .int .i64 1048576] W fun e w' => e = .returned (.int .i64 left) ∧ Below W.heap.size W w') :
    Calls Tryd.prog 5 #[.agg #[.string i, .string a, .string m, .int .i64 n, .int .i64 k, .string t]] w fun e w' => e = .returned (.bool true) ∧ Below w.heap.size w w' := by
  have HZ := hid_intro hZ
  clear hZ
  have HB0 : Hid (Below w.heap.size w (w.alloc (.cells #[.string i, .string a, .string m, .int .i64 n, .int .i64 k, .string t] 46))) := hid_intro ((Below.refl _ _).alloc (Nat.le_refl _) _)
  go_enter Tryd.func5, Tryd.ntmps5
  go_wp2_with fail
  refine (HZ.out _).mono ?_
  rintro e w1 ⟨rfl, hb1⟩
  have HB1 := hid_intro (HB0.out.trans (hb1.mono HB0.out.size))
  clear hb1
  go_wp2_with fail
  go_ret
  exact ⟨rfl, HB1.out⟩
theorem walk (i a m : ByteArray) (n k : Int) (t : ByteArray) (h1 : i.size ≤ maxLen) (h2 : a.size ≤ maxLen) (h3 : m.size ≤ maxLen) (h4 : (Lit.int .i64 n).wf = true) (h5 : (Lit.int .i64 k).wf = true) (h6 : t.size ≤ maxLen) (w : World) (hL : Laid w) :
    Calls Tryd.prog 5 #[.agg #[.string i, .string a, .string m, .int .i64 n, .int .i64 k, .string t]] w fun e w' => e = .returned (.bool true) ∧ Below w.heap.size w w' := by
  have hl := fun w => sz_any i a m n k t 1048576 h1 h2 h3 h6 (by omega) (by omega) w
  by_cases h : szE i a m t ≤ 1048576
  · rw [if_pos h] at hl
    have h' := h
    unfold szE at h'
    obtain ⟨x, lt, lh, hi, hs⟩ := of_both i a m t n k (by omega) (by omega) (by omega) (by omega)
    refine law_in (fun v W => IsWd v x W) (fun b p q W => MadeG 1 tcells tz b p x.ts W ∧ MadeG 2 H.cells H.zero b q x.hs W ∧ Apart p q x.ts.length x.hs.length) (fun p q W => MkdW p q x.ts.length x.hs.length 1 W) i a m n k t x.a x.m x.mo x.ev x.su x.mx x.ts.length x.hs.length _ ((1 + x.ts.length + 2 * x.hs.length : Nat) : Int) w (by omega) (by omega) hL (fun v W W' h hb => h.below hb) (fun p q W W' h hb => h.below hb) hl (fun W => toEvent_any i a m n k t W) (fun W => ?_) (fun W hW => ?_) (fun base t1 c1 h1 d1 W W' hM hb => ?_) (fun t1 c1 h1 d1 W hD => ?_) (fun v v' W h h' => eqW_any v v' x W lt lh h h')
    · refine (hs W).mono ?_
      rintro e w' ⟨v, rfl, hv, hb⟩
      have hi := hv.is
      obtain ⟨t0, c0, h0, d0, rfl, _⟩ := hv
      exact ⟨t0, c0, h0, d0, rfl, hi, hb⟩
    · refine (hi W hW).mono ?_
      rintro e w' ⟨v, rfl, hv, hb⟩
      have hi := hv.is
      obtain ⟨t0, c0, h0, d0, rfl, m1, m2, m3⟩ := hv
      exact ⟨t0, c0, h0, d0, rfl, hi, ⟨m1, m2, m3⟩, hb⟩
    · obtain ⟨m1, m2, m3⟩ := hM
      exact markW_in x.a x.m x.mo x.ev x.su x.mx t1 x.ts.length c1 h1 x.hs.length d1 1 base W.heap.size W' lt lh (by omega) hb.size (m1.own.imp id (fun ⟨g, e1, e2, e3⟩ => ⟨g, e1, e2, e3.lt, by have e4 := e3.below hb; rw [Nat.mul_one] at e4; exact e4⟩)) (m2.own.imp id (fun ⟨g, e1, e2, e3⟩ => ⟨g, e1, e2, e3.lt, e3.below hb⟩)) m3
    · exact heldW_in x.a x.m x.mo x.ev x.su x.mx t1 x.ts.length c1 h1 x.hs.length d1 1 W lt lh (by omega) hD
  · rw [if_neg h] at hl
    exact big i a m n k t _ w (by omega) hl
set_option maxRecDepth 100000 in
theorem lifted (os : Os) (started : os.Started) (H : Type) (enc : TypeId × Value → H) :
    ReturnsInHanded {} Tryd.checked os 5 .any (fun w args => (Rows.fnExactWindowOfSpec.pre enc Tryd.prog Tryd.f5 [] false w args ∧ laidMetH Tryd.prog Lay.laid w) ∧ sizedMet enc Tryd.prog Tryd.f5 (OpenSpec.ofChange Rows.fnExactWindowOfSpec) false w args)
      (Rows.fnExactWindowOfSpec.post enc Tryd.prog Tryd.f5 false true false false) := by
  refine returnsInHanded_of_change_and (C := Tryd.checked) (X := fun w _ => laidMetH Tryd.prog Lay.laid w) (fun _ _ _ hh h => h.of_heap hh) Lay.own started (by kernel_rfl) Tryd.func5
    (ChangeSpec.witness_shaped (enc := enc) (C := Tryd.checked) (os := os) (X := fun w _ => laidMetH Tryd.prog Lay.laid w) false (World.doorLaid Tryd.prog 400 os) #[.agg #[.string ByteArray.empty, .string ByteArray.empty, .string ByteArray.empty, .int .i64 0, .int .i64 0, .string ByteArray.empty]] 8 rfl (World.shaped_of_RefB (by kernel_rfl) (by kernel_rfl)) (by kernel_rfl) (by kernel_rfl) (by kernel_rfl) (Lay.door_met os _)) ?_
  intro W base args ds gs before hval0 hW _ _ hL _
  have hval : ∀ (j : Nat) t v, Tryd.f5.params[j]? = some t → args[j]? = some v → Value.okWide Tryd.prog W .any base t v := hval0
  have hW' := hW
  obtain ⟨p, q, hA0, hV0, rfl, hfz, hnd⟩ := hW
  have hA : DataW.TrodAll enc Tryd.prog W 0 (fun _ => true) true Tryd.f5.params.toList args.toList ds p := hA0
  have hV : DataW.TrodVars enc Tryd.prog W (fun _ => true) ["loop.example/g00562/impl.monthLengths"] gs q := hV0
  rw [Tryd.params5] at hA hval
  obtain ⟨v0, d0, rfl, rfl, h0⟩ := trodAll_one hA
  have k0 := h0
  have lt0 : ∀ x ∈ p, x.block < W.heap.size := fun x hx => hW'.lt x (by simp [hx])
  obtain ⟨cs0, rfl, _⟩ := okWide_struct Tryd.underlying46 (hval 0 46 v0 rfl rfl)
  obtain ⟨fuel0, hf0⟩ := h0
  obtain ⟨i0, a0, m0, n0, k0', t0, hcs0, wi0, wa0, wm0, wn0, wk0, wt0⟩ := EvtR.event_cells Tryd.underlying46 (by kernel_rfl) (by kernel_rfl) Tryd.underlying9 Tryd.underlying9 Tryd.underlying9 Tryd.underlying2 Tryd.underlying2 Tryd.underlying9 hf0
  obtain rfl : cs0 = #[.string i0, .string a0, .string m0, .int .i64 n0, .int .i64 k0', .string t0] := by
    obtain ⟨l⟩ := cs0
    simp [Value.cells] at hcs0
    rw [hcs0]
  have hl := Lay.of_laid hL
  obtain ⟨_, _, _, _, gd, _, rfl, _, _, _, _, _⟩ := trodVars_one hV
  refine (walk i0 a0 m0 n0 k0' t0 wi0 wa0 wm0 wn0 wk0 wt0 W  hl).mono fun e W' ⟨he, bel⟩ => ?_
  subst he
  exact ⟨_, rfl, _, _, _, _, _, _, hW', trodAll_mk1 (shut_bool Tryd.underlying4 true), trodAll_mk1 (Below.trod Lay.laidOut (by kernel_rfl) (of_decide_eq_true (by kernel_rfl)) k0 bel lt0), bel.trodVars Lay.laidOut (by kernel_rfl) hV, bel.frame _, fun h => by cases h⟩
theorem row_holds : Rows.FnExactWindowOfSaid :=
  OpenClaim.holds_of_wide 5 Tryd.f5 rfl rfl rfl rfl rfl rfl rfl ⟨rfl, rfl, rfl, rfl, rfl⟩ rfl rfl rfl rfl rfl (by kernel_rfl) Tryd.func5 (by kernel_rfl)
    (of_decide_eq_true (by kernel_rfl)) (by unfold Func.isWrapper; rw [if_neg (of_decide_eq_false (by kernel_rfl))]; exact ⟨rfl, rfl⟩)
    (fun os started H enc _ => lifted os started H enc)
theorem card_holds : Rows.FnExactWindowOfCardSaid :=
  Claim7.holds_tied_plain_at .later [] [.data] true Rows.fnExactWindowOfCard.stood.harness false
    row_holds (fun _ h => by cases h) (by kernel_rfl) (fun _ h => by cases h) fnExactWindowOf_row_tie rfl ⟨rfl, rfl⟩ (by kernel_rfl) rfl
    (fun f fn hf hfn => by
      obtain rfl : f = 5 := Option.some.inj ((show Tryd.prog.funcNamed "loop.example/g00562/laws.FnExactWindowOf" = some 5 by kernel_rfl).symm.trans hf) |>.symm
      obtain rfl : fn = Tryd.f5 := (Option.some.inj (Tryd.func5.symm.trans hfn)).symm
      exact ⟨by kernel_rfl, fun j t ht => by
        rw [Tryd.params5] at ht
        have hm : t ∈ [46] := by simpa using Array.mem_of_getElem? ht
        have hall : ([46].all fun u => !Tryd.prog.wantsStandIn u) = true := by kernel_rfl
        exact (show Tryd.prog.wantsStandIn t = false by simpa using List.all_eq_true.1 hall t hm)⟩)
    (by kernel_rfl)
end WindowOfL
/-- THE STATEMENT: THE CARD -/
theorem fnExactWindowOf_holds : Rows.FnExactWindowOfCardSaid := WindowOfL.card_holds
#print axioms fnExactWindowOf_holds
end Go.Proofs.YtnfppcndadfpcaaDoor
