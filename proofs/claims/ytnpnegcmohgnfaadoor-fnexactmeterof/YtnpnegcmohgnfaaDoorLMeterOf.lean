/-
  FnExactMeterOf: for every catalog and text the law's call returns true (the program's MeterOf hands back what the model's does, writes into no catalog and keeps nothing of one; its tiers are its own, behind another call too), and what came in reads as it did. The condition: the program's own error stands in its variable.
-/
import Derived.Test.YtnpnegcmohgnfaaDoorMoS
import Derived.Test.YtnpnegcmohgnfaaDoorMkX
import Derived.Test.YtnpnegcmohgnfaaDoorCatIn
import Derived.Test.YtnpnegcmohgnfaaDoorBlk
import Derived.Test.YtnpnegcmohgnfaaDoorSentM
import Derived.Test.YtnpnegcmohgnfaaDoorCards
import Derived.Deep.RegionHeld3
namespace Go.Proofs.YtnpnegcmohgnfaaDoor
open Go.ChangeShapes Go.WideShapes Go.ChangeAt Go.RowKit
open Go.ChangeMaps (open_string shut_string)
set_option linter.unusedVariables false
namespace MeterOfL
open CatR
open EvtR (Pt)
theorem al (w : World) (o : Obj) : Below w.heap.size w (w.alloc o) := (Below.refl _ _).alloc (Nat.le_refl _) _
/-- What is held through the region that draws. -/
def BX (w5 : World) (B1 B2 : Nat) (a0 a1 b0 b1 : Value) (W : World) : Prop := Below w5.heap.size w5 W ∧ B1 < W.heap.size ∧ B2 < W.heap.size ∧ W.cell? ⟨B1, 0, none⟩ = some a0 ∧ W.cell? ⟨B1, 1, none⟩ = some a1 ∧ W.cell? ⟨B2, 0, none⟩ = some b0 ∧ W.cell? ⟨B2, 1, none⟩ = some b1
theorem BX.below {w5 : World} {B1 B2 : Nat} {a0 a1 b0 b1 : Value} {W W' : World} (h : BX w5 B1 B2 a0 a1 b0 b1 W) (hb : Below W.heap.size W W') : BX w5 B1 B2 a0 a1 b0 b1 W' := by
  obtain ⟨h0, l1, l2, p0, p1, p2, p3⟩ := h
  have f := fun o => hb.cell (p := ⟨B1, o, none⟩) l1
  have g := fun o => hb.cell (p := ⟨B2, o, none⟩) l2
  have hs := hb.size
  exact ⟨h0.trans (hb.mono h0.size), by omega, by omega, (f 0).trans p0, (f 1).trans p1, (g 0).trans p2, (g 1).trans p3⟩
theorem BX.drew {w5 : World} {B1 B2 : Nat} {a0 a1 b0 b1 : Value} {W : World} (h : BX w5 B1 B2 a0 a1 b0 b1 W) : BX w5 B1 B2 a0 a1 b0 b1 W.drew := ⟨h.1.drew, h.2⟩
theorem bel_outs {w w1 w2 : World} {base top : Nat} (h : Below w.heap.size w w1) (ho : Outs base top w1 w2) (hb : w.heap.size ≤ base) : Below w.heap.size w w2 :=
  ⟨ho.os.trans h.os, ho.tape.trans h.tape, ho.output.trans h.output, Nat.le_trans h.size ho.size, fun k hk => (ho.block k (by have := h.size; omega) (.inl (by omega))).trans (h.block k hk)⟩
theorem ob {tl base : Nat} {ta : Option Addr} {w w' : World} (h : tl = 0 ∨ ∃ b, ta = some ⟨b, 0, none⟩ ∧ base ≤ b ∧ Pt b (tl * 2) w) (hb : Below w.heap.size w w') : tl = 0 ∨ ∃ b, ta = some ⟨b, 0, none⟩ ∧ base ≤ b ∧ Pt b (tl * 2) w' :=
  h.imp id (fun ⟨b, h1, h2, h3⟩ => ⟨b, h1, h2, h3.below hb⟩)
theorem oo {tl base b0 top : Nat} {ta : Option Addr} {w w' : World} (h : tl = 0 ∨ ∃ b, ta = some ⟨b, 0, none⟩ ∧ base ≤ b ∧ Pt b (tl * 2) w) (ho : Outs b0 top w w') (ht : top ≤ base) : tl = 0 ∨ ∃ b, ta = some ⟨b, 0, none⟩ ∧ base ≤ b ∧ Pt b (tl * 2) w' :=
  h.imp id (fun ⟨b, h1, h2, h3⟩ => ⟨b, h1, h2, ho.pt h3 (.inr (by omega))⟩)
/-- A meter that was handed back. -/
def RM (T : Option Addr → World → Prop) (n : ByteArray) (g : Int) (wh : Bool) (f l : Int) (tl : Nat) (w : World) (e : Ending) (w' : World) : Prop := ∃ ta tc, e = .returned (.agg #[.string n, .int .i64 g, .bool wh, .int .i64 f, .int .i64 l, .slice ta tl tc]) ∧ T ta w' ∧ (tl = 0 ∨ ∃ b, ta = some ⟨b, 0, none⟩ ∧ w.heap.size ≤ b ∧ Pt b (tl * 2) w') ∧ Below w.heap.size w w'
set_option maxRecDepth 100000 in
set_option maxHeartbeats 8000000 in
theorem law_in (P : Prop) (M : Value → World → Prop) (N : Nat → Value → World → Prop) (L : World → Prop) (T : Option Addr → World → Prop) (ma : Option Addr) (ml mc : Nat) (ca : Option Addr) (cl cc : Nat) (t : ByteArray) (n : ByteArray) (g : Int) (wh : Bool) (f l : Int) (tl : Nat) (ht0 : ¬ (1048576 : Int) < (t.size : Int)) (w : World) (hI : M (.agg #[.slice ma ml mc, .slice ca cl cc]) w) (hL : L w)
    (hk : ∀ v w w', M v w → Below w.heap.size w w' → M v w') (hkl : ∀ w w', L w → Below w.heap.size w w' → L w') (hkn : ∀ b v w w', N b v w → Below w.heap.size w w' → N b v w') (hkt : ∀ ta w w', T ta w → Below w.heap.size w w' → T ta w')
    (hNM : ∀ b v w, N b v w → M v w)
    (hTo : ∀ ta w0 w w' base top, T ta w0 → T ta w → Outs base top w w' → w0.heap.size ≤ base → T ta w')
    (hTp : ∀ ta w w' base top, (tl = 0 ∨ ∃ b, ta = some ⟨b, 0, none⟩ ∧ top ≤ b) → T ta w → Outs base top w w' → T ta w')
    (htl : P → tl ≤ 1048576)
    (hZ : ∀ w, M (.agg #[.slice ma ml mc, .slice ca cl cc]) w → Calls Tryd.prog 7 #[.agg #[.slice ma ml mc, .slice ca cl cc], .int .i64 1048576] w fun e w' => SzOut 1048576 P e ∧ Below w.heap.size w w')
    (hT : P → ∀ v w, M v w → Calls Tryd.prog 9 #[v] w fun e w' => (∃ a b, e = .returned (.agg #[.slice (some ⟨a, 0, none⟩) ml ml, .slice (some ⟨b, 0, none⟩) cl cl]) ∧ N w.heap.size (.agg #[.slice (some ⟨a, 0, none⟩) ml ml, .slice (some ⟨b, 0, none⟩) cl cl]) w' ∧ b < w'.heap.size) ∧ Below w.heap.size w w')
    (hS : P → ∀ v w, M v w → Calls Tryd.prog 16 #[v, .string t] w fun e w' => RM T n g wh f l tl w e w')
    (hM : P → ∀ v w, M v w → L w → Calls Tryd.prog 17 #[v, .string t] w fun e w' => RM T n g wh f l tl w e w')
    (hE : P → ∀ v v' w, M v w → M v' w → Calls Tryd.prog 11 #[v, v'] w fun e w' => e = .returned (.bool true) ∧ Below w.heap.size w w')
    (hQ : P → ∀ ta tc ta' tc' w, T ta w → T ta' w → Calls Tryd.prog 18 #[.agg #[.string n, .int .i64 g, .bool wh, .int .i64 f, .int .i64 l, .slice ta tl tc], .agg #[.string n, .int .i64 g, .bool wh, .int .i64 f, .int .i64 l, .slice ta' tl tc']] w fun e w' => e = .returned (.bool true) ∧ Below w.heap.size w w')
    (hMk : P → ∀ base a b w top, N base (.agg #[.slice (some ⟨a, 0, none⟩) ml ml, .slice (some ⟨b, 0, none⟩) cl cl]) w → b < top → Calls Tryd.prog 19 #[.agg #[.slice (some ⟨a, 0, none⟩) ml ml, .slice (some ⟨b, 0, none⟩) cl cl], .int .i64 1] w fun e w' => ∃ K : Nat, e = .returned (.int .i64 K) ∧ Outs base top w w') :
    Calls Tryd.prog 6 #[.agg #[.slice ma ml mc, .slice ca cl cc], .string t] w fun e w' => e = .returned (.bool true) ∧ Below w.heap.size w w' := by
  have HI := hid_intro hI
  have HL := hid_intro hL
  have HKM := hid_intro hk
  have HKL := hid_intro hkl
  have HKN := hid_intro hkn
  have HKT := hid_intro hkt
  have HNM := hid_intro hNM
  have HTO := hid_intro hTo
  have HTP := hid_intro hTp
  have HZ := hid_intro hZ
  have HQQ := hid_intro (fun hp : P => And.intro (htl hp) (And.intro (hT hp) (And.intro (hS hp) (And.intro (hM hp) (And.intro (hE hp) (And.intro (hQ hp) (hMk hp)))))))
  clear hI hL hk hkl hkn hkt hNM hTo hTp hZ htl hT hS hM hE hQ hMk
  have HA0 : Hid (Blk w.heap.size [.slice ma ml mc, .slice ca cl cc] (w.alloc (.cells #[.slice ma ml mc, .slice ca cl cc] 25))) := hid_intro (Blk.new w _ _)
  have HB0 : Hid (Below w.heap.size w (w.alloc (.cells #[.slice ma ml mc, .slice ca cl cc] 25))) := hid_intro (al _ _)
  go_enter Tryd.func6, Tryd.ntmps6
  go_wp2_with fail
  refine (HZ.out _ (HKM.out _ _ _ HI.out HB0.out)).mono ?_
  rintro e w1 ⟨⟨L1, rfl, hL1⟩, hb1⟩
  rcases hL1 with rfl | ⟨hL1, _, hsm⟩
  · have HB1 := hid_intro (HB0.out.trans (hb1.mono HB0.out.size))
    clear hb1
    go_wp2_with fail
    go_ret
    exact ⟨rfl, HB1.out⟩
  have hL2 : ¬ L1 < 0 := by omega
  obtain ⟨htl, hT, hS, hM, hE, hQ, hMk⟩ := HQQ.out hsm
  have HT := hid_intro hT
  have HSP := hid_intro hS
  have HIM := hid_intro hM
  have HE := hid_intro hE
  have HQ := hid_intro hQ
  have HMK := hid_intro hMk
  clear HQQ hsm hT hS hM hE hQ hMk
  have HA1 := hid_intro (HA0.out.below hb1)
  have HB1 := hid_intro (HB0.out.trans (hb1.mono HB0.out.size))
  clear hb1 HA0 HB0
  have pl := HA1.out.1
  have p0 : w1.cell? ⟨w.heap.size, 0, none⟩ = some (.slice ma ml mc) := HA1.out.2 0 (by simp)
  have p1 : w1.cell? ⟨w.heap.size, 1, none⟩ = some (.slice ca cl cc) := HA1.out.2 1 (by simp)
  go_wp2_with fail
  refine (HT.out _ _ (HKM.out _ _ _ HI.out HB1.out)).mono ?_
  rintro e w2 ⟨⟨b2, c2, rfl, hN, _⟩, hb2⟩
  have HM2 := hid_intro (HNM.out _ _ _ hN)
  have HA2 := hid_intro (HA1.out.below hb2)
  have HB2 := hid_intro (HB1.out.trans (hb2.mono HB1.out.size))
  clear hb2 hN HA1 HB1 pl p0 p1
  go_wp2_with fail
  refine (HSP.out _ _ HM2.out).mono ?_
  rintro e w3 ⟨ta, tc, rfl, hT3, _, hb3⟩
  have HS3 := hid_intro hT3
  have HA3 := hid_intro (HA2.out.below hb3)
  have HB3 := hid_intro (HB2.out.trans (hb3.mono HB2.out.size))
  clear hb3 hT3 HA2 HB2 HM2
  have hal : Below w3.heap.size w3 (w3.alloc (.cells #[.string n, .int .i64 g, .bool wh, .int .i64 f, .int .i64 l, .slice ta tl tc] 40)) := al _ _
  have HWa : Hid (Blk w3.heap.size [.string n, .int .i64 g, .bool wh, .int .i64 f, .int .i64 l, .slice ta tl tc] (w3.alloc (.cells #[.string n, .int .i64 g, .bool wh, .int .i64 f, .int .i64 l, .slice ta tl tc] 40))) := hid_intro (Blk.new w3 _ _)
  have HAa := hid_intro (HA3.out.below hal)
  have HSa := hid_intro (HKT.out _ _ _ HS3.out hal)
  have HBa := hid_intro (HB3.out.trans (hal.mono HB3.out.size))
  clear hal
  have pl := HAa.out.1
  have p0 : (w3.alloc (.cells #[.string n, .int .i64 g, .bool wh, .int .i64 f, .int .i64 l, .slice ta tl tc] 40)).cell? ⟨w.heap.size, 0, none⟩ = some (.slice ma ml mc) := HAa.out.2 0 (by simp)
  have p1 : (w3.alloc (.cells #[.string n, .int .i64 g, .bool wh, .int .i64 f, .int .i64 l, .slice ta tl tc] 40)).cell? ⟨w.heap.size, 1, none⟩ = some (.slice ca cl cc) := HAa.out.2 1 (by simp)
  go_wp2_with fail
  refine (HT.out _ _ (HKM.out _ _ _ HI.out HBa.out)).mono ?_
  rintro e w4 ⟨⟨a4, b4, rfl, hN4, hb4l⟩, hb4⟩
  have e3 : (w3.alloc (.cells #[.string n, .int .i64 g, .bool wh, .int .i64 f, .int .i64 l, .slice ta tl tc] 40)).heap.size = w3.heap.size + 1 := by simp
  rw [e3] at hN4
  clear e3
  have HN4 := hid_intro hN4
  have h34 : w3.heap.size + 1 ≤ w4.heap.size := by have := hb4.size; simpa using this
  have H34 := hid_intro h34
  have HA4 := hid_intro (HAa.out.below hb4)
  have HW4 := hid_intro (HWa.out.below hb4)
  have HS4 := hid_intro (HKT.out _ _ _ HSa.out hb4)
  have HB4 := hid_intro (HBa.out.trans (hb4.mono HBa.out.size))
  clear hb4 hN4 h34 HAa HWa HSa HBa pl p0 p1
  have hal : Below w4.heap.size w4 (w4.alloc (.cells #[.slice (some ⟨a4, 0, none⟩) ml ml, .slice (some ⟨b4, 0, none⟩) cl cl] 31)) := al _ _
  have HXb : Hid (Blk w4.heap.size [.slice (some ⟨a4, 0, none⟩) ml ml, .slice (some ⟨b4, 0, none⟩) cl cl] (w4.alloc (.cells #[.slice (some ⟨a4, 0, none⟩) ml ml, .slice (some ⟨b4, 0, none⟩) cl cl] 31))) := hid_intro (Blk.new w4 _ _)
  have HAb := hid_intro (HA4.out.below hal)
  have HWb := hid_intro (HW4.out.below hal)
  have HSb := hid_intro (HKT.out _ _ _ HS4.out hal)
  have HNb := hid_intro (HKN.out _ _ _ _ HN4.out hal)
  have HBb := hid_intro (HB4.out.trans (hal.mono HB4.out.size))
  clear hal
  go_wp2_with fail
  refine (HIM.out _ _ (HNM.out _ _ _ HNb.out) (HKL.out _ _ HL.out HBb.out)).mono ?_
  rintro e w5 ⟨tg, tcg, rfl, hT5, hO5, hb5⟩
  have HU5 := hid_intro hT5
  have HO5 : Hid (tl = 0 ∨ ∃ b, tg = some ⟨b, 0, none⟩ ∧ w4.heap.size + 1 ≤ b ∧ Pt b (tl * 2) w5) := hid_intro (hO5.imp id (fun ⟨b, h1, h2, h3⟩ => ⟨b, h1, by simpa using h2, h3⟩))
  have h45 : w4.heap.size + 1 ≤ w5.heap.size := by have := hb5.size; simpa using this
  have H45 := hid_intro h45
  have HTOP : Hid (∀ b, tl ≠ 0 → tg = some ⟨b, 0, none⟩ → b < w5.heap.size) := hid_intro (fun b h0 hb => by
    obtain ⟨b', e1, _, e3⟩ := hO5.resolve_left h0
    rw [e1] at hb
    simp only [Option.some.injEq, Addr.mk.injEq, and_true] at hb
    have := e3.lt
    omega)
  have HA5 := hid_intro (HAb.out.below hb5)
  have HW5 := hid_intro (HWb.out.below hb5)
  have HS5 := hid_intro (HKT.out _ _ _ HSb.out hb5)
  have HN5 := hid_intro (HKN.out _ _ _ _ HNb.out hb5)
  have HX5 := hid_intro (HXb.out.below hb5)
  have HB5 := hid_intro (HBb.out.trans (hb5.mono HBb.out.size))
  clear hb5 hT5 hO5 h45 HAb HWb HSb HNb HXb HBb
  have hal : Below w5.heap.size w5 (w5.alloc (.cells #[.string n, .int .i64 g, .bool wh, .int .i64 f, .int .i64 l, .slice tg tl tcg] 40)) := al _ _
  have HGc : Hid (Blk w5.heap.size [.string n, .int .i64 g, .bool wh, .int .i64 f, .int .i64 l, .slice tg tl tcg] (w5.alloc (.cells #[.string n, .int .i64 g, .bool wh, .int .i64 f, .int .i64 l, .slice tg tl tcg] 40))) := hid_intro (Blk.new w5 _ _)
  have HAc := hid_intro (HA5.out.below hal)
  have HWc := hid_intro (HW5.out.below hal)
  have HSc := hid_intro (HKT.out _ _ _ HS5.out hal)
  have HNc := hid_intro (HKN.out _ _ _ _ HN5.out hal)
  have HXc := hid_intro (HX5.out.below hal)
  have HUc := hid_intro (HKT.out _ _ _ HU5.out hal)
  have HOc := hid_intro (ob HO5.out hal)
  have HBc := hid_intro (HB5.out.trans (hal.mono HB5.out.size))
  clear hal
  have ul := HWc.out.1
  have u0 : (w5.alloc (.cells #[.string n, .int .i64 g, .bool wh, .int .i64 f, .int .i64 l, .slice tg tl tcg] 40)).cell? ⟨w3.heap.size, 0, none⟩ = some (.string n) := HWc.out.2 0 (by simp)
  have u1 : (w5.alloc (.cells #[.string n, .int .i64 g, .bool wh, .int .i64 f, .int .i64 l, .slice tg tl tcg] 40)).cell? ⟨w3.heap.size, 1, none⟩ = some (.int .i64 g) := HWc.out.2 1 (by simp)
  have u2 : (w5.alloc (.cells #[.string n, .int .i64 g, .bool wh, .int .i64 f, .int .i64 l, .slice tg tl tcg] 40)).cell? ⟨w3.heap.size, 2, none⟩ = some (.bool wh) := HWc.out.2 2 (by simp)
  have u3 : (w5.alloc (.cells #[.string n, .int .i64 g, .bool wh, .int .i64 f, .int .i64 l, .slice tg tl tcg] 40)).cell? ⟨w3.heap.size, 3, none⟩ = some (.int .i64 f) := HWc.out.2 3 (by simp)
  have u4 : (w5.alloc (.cells #[.string n, .int .i64 g, .bool wh, .int .i64 f, .int .i64 l, .slice tg tl tcg] 40)).cell? ⟨w3.heap.size, 4, none⟩ = some (.int .i64 l) := HWc.out.2 4 (by simp)
  have u5 : (w5.alloc (.cells #[.string n, .int .i64 g, .bool wh, .int .i64 f, .int .i64 l, .slice tg tl tcg] 40)).cell? ⟨w3.heap.size, 5, none⟩ = some (.slice ta tl tc) := HWc.out.2 5 (by simp)
  go_wp2_with fail
  refine (HQ.out _ _ _ _ _ HUc.out HSc.out).mono ?_
  rintro e w6 ⟨rfl, hb6⟩
  have HA6 := hid_intro (HAc.out.below hb6)
  have HW6 := hid_intro (HWc.out.below hb6)
  have HS6 := hid_intro (HKT.out _ _ _ HSc.out hb6)
  have HN6 := hid_intro (HKN.out _ _ _ _ HNc.out hb6)
  have HX6 := hid_intro (HXc.out.below hb6)
  have HG6 := hid_intro (HGc.out.below hb6)
  have HU6 := hid_intro (HKT.out _ _ _ HUc.out hb6)
  have HO6 := hid_intro (ob HOc.out hb6)
  have HB6 := hid_intro (HBc.out.trans (hb6.mono HBc.out.size))
  clear hb6 HAc HWc HSc HNc HXc HGc HUc HOc HBc ul u0 u1 u2 u3 u4 u5
  have rl := HA6.out.1
  have r0 : w6.cell? ⟨w.heap.size, 0, none⟩ = some (.slice ma ml mc) := HA6.out.2 0 (by simp)
  have r1 : w6.cell? ⟨w.heap.size, 1, none⟩ = some (.slice ca cl cc) := HA6.out.2 1 (by simp)
  have sl := HX6.out.1
  have s0 : w6.cell? ⟨w4.heap.size, 0, none⟩ = some (.slice (some ⟨a4, 0, none⟩) ml ml) := HX6.out.2 0 (by simp)
  have s1 : w6.cell? ⟨w4.heap.size, 1, none⟩ = some (.slice (some ⟨b4, 0, none⟩) cl cl) := HX6.out.2 1 (by simp)
  have HS0 : Hid (BX w6 w.heap.size w4.heap.size (.slice ma ml mc) (.slice ca cl cc) (.slice (some ⟨a4, 0, none⟩) ml ml) (.slice (some ⟨b4, 0, none⟩) cl cl) w6) := hid_intro ⟨Below.refl _ _, rl, sl, r0, r1, s0, s1⟩
  have HS1 := hid_intro HS0.out.drew
  have HM5 : Hid (∀ W, Below w6.heap.size w6 W → Calls Tryd.prog 9 #[.agg #[.slice ma ml mc, .slice ca cl cc]] W fun e w' => (∃ a b, e = .returned (.agg #[.slice (some ⟨a, 0, none⟩) ml ml, .slice (some ⟨b, 0, none⟩) cl cl]) ∧ M (.agg #[.slice (some ⟨a, 0, none⟩) ml ml, .slice (some ⟨b, 0, none⟩) cl cl]) w' ∧ M (.agg #[.slice (some ⟨a4, 0, none⟩) ml ml, .slice (some ⟨b4, 0, none⟩) cl cl]) w') ∧ Below W.heap.size W w') := hid_intro (fun W hW => (HT.out _ W (HKM.out _ _ _ HI.out (HB6.out.trans (hW.mono HB6.out.size)))).mono fun e w' h => by
    obtain ⟨⟨a, b, he, h1, _⟩, hb⟩ := h
    exact ⟨⟨a, b, he, HNM.out _ _ _ h1, HNM.out _ _ _ (HKN.out _ _ _ _ HN6.out (hW.trans (hb.mono hW.size)))⟩, hb⟩)
  go_wp2_with fail
  go_region_held3 (fun W => Below w6.heap.size w6 W ∧ w.heap.size < W.heap.size ∧ w4.heap.size < W.heap.size ∧ W.cell? ⟨w.heap.size, 0, none⟩ = some (.slice ma ml mc) ∧ W.cell? ⟨w.heap.size, 1, none⟩ = some (.slice ca cl cc) ∧ W.cell? ⟨w4.heap.size, 0, none⟩ = some (.slice (some ⟨a4, 0, none⟩) ml ml) ∧ W.cell? ⟨w4.heap.size, 1, none⟩ = some (.slice (some ⟨b4, 0, none⟩) cl cl)) (first | assumption | (exact HS0.out) | (exact HS1.out) | (exact BX.below (w5 := w6) (B1 := w.heap.size) (B2 := w4.heap.size) (by assumption) hb6) | (exact BX.below (w5 := w6) (B1 := w.heap.size) (B2 := w4.heap.size) (by assumption) hb7))
    (first | (go_at_call 9; refine (HM5.out _ (by first | exact (by assumption : BX w6 _ _ _ _ _ _ _).1 | exact HS0.out.1 | exact HS1.out.1)).mono ?_; rintro e w6' ⟨⟨b6, c6, rfl, hN6, hN7⟩, hb6⟩) | (go_at_call 11; refine (HE.out _ _ _ hN7 hN6).mono ?_; rintro e w7 ⟨rfl, hb7⟩))
  rename_i hS
  have hbS := hS.1
  have HA7 := hid_intro (HA6.out.below hbS)
  have HW7 := hid_intro (HW6.out.below hbS)
  have HS7 := hid_intro (HKT.out _ _ _ HS6.out hbS)
  have HN7 := hid_intro (HKN.out _ _ _ _ HN6.out hbS)
  have HX7 := hid_intro (HX6.out.below hbS)
  have HG7 := hid_intro (HG6.out.below hbS)
  have HU7 := hid_intro (HKT.out _ _ _ HU6.out hbS)
  have HO7 := hid_intro (ob HO6.out hbS)
  have HB7 := hid_intro (HB6.out.trans (hbS.mono HB6.out.size))
  clear hS hbS HS0 HS1 HM5 HA6 HW6 HS6 HN6 HX6 HG6 HU6 HO6 HB6 hN6 hN7 hb6 hb7 rl r0 r1 sl s0 s1
  have sl := HX7.out.1
  have s0 : w7.cell? ⟨w4.heap.size, 0, none⟩ = some (.slice (some ⟨a4, 0, none⟩) ml ml) := HX7.out.2 0 (by simp)
  have s1 : w7.cell? ⟨w4.heap.size, 1, none⟩ = some (.slice (some ⟨b4, 0, none⟩) cl cl) := HX7.out.2 1 (by simp)
  go_wp2_with fail
  refine (HMK.out _ a4 b4 w7 w4.heap.size HN7.out hb4l).mono ?_
  rintro e w8 ⟨K8, rfl, ho8⟩
  have hK8 : ¬ (K8 : Int) < 0 := by omega
  have hw3 : w.heap.size ≤ w3.heap.size := HB3.out.size
  have h34 := H34.out
  have h45 := H45.out
  have HA8 := hid_intro (ho8.blk HA7.out (.inl (by omega)))
  have HW8 := hid_intro (ho8.blk HW7.out (.inl (by omega)))
  have HG8 := hid_intro (ho8.blk HG7.out (.inr (by omega)))
  have HS8 := hid_intro (HTO.out _ _ _ _ _ _ HS3.out HS7.out ho8 (by omega))
  have HU8 := hid_intro (HTP.out _ _ _ _ _ (HO7.out.imp id (fun ⟨b, h1, h2, _⟩ => ⟨b, h1, by omega⟩)) HU7.out ho8)
  have HO8 := hid_intro (oo HO7.out ho8 (by omega))
  have HB8 := hid_intro (bel_outs HB7.out ho8 (by omega))
  have HH := hid_intro (show w.heap.size ≤ w3.heap.size ∧ w3.heap.size + 1 ≤ w4.heap.size ∧ w4.heap.size + 1 ≤ w5.heap.size from ⟨hw3, h34, h45⟩)
  clear ho8 hw3 h34 h45 HA7 HW7 HG7 HS7 HU7 HO7 HB7 HN7 HX7 sl s0 s1
  have vl := HG8.out.1
  have v0 : w8.cell? ⟨w5.heap.size, 0, none⟩ = some (.string n) := HG8.out.2 0 (by simp)
  have v1 : w8.cell? ⟨w5.heap.size, 1, none⟩ = some (.int .i64 g) := HG8.out.2 1 (by simp)
  have v2 : w8.cell? ⟨w5.heap.size, 2, none⟩ = some (.bool wh) := HG8.out.2 2 (by simp)
  have v3 : w8.cell? ⟨w5.heap.size, 3, none⟩ = some (.int .i64 f) := HG8.out.2 3 (by simp)
  have v4 : w8.cell? ⟨w5.heap.size, 4, none⟩ = some (.int .i64 l) := HG8.out.2 4 (by simp)
  have v5 : w8.cell? ⟨w5.heap.size, 5, none⟩ = some (.slice tg tl tcg) := HG8.out.2 5 (by simp)
  have ul := HW8.out.1
  have u0 : w8.cell? ⟨w3.heap.size, 0, none⟩ = some (.string n) := HW8.out.2 0 (by simp)
  have u1 : w8.cell? ⟨w3.heap.size, 1, none⟩ = some (.int .i64 g) := HW8.out.2 1 (by simp)
  have u2 : w8.cell? ⟨w3.heap.size, 2, none⟩ = some (.bool wh) := HW8.out.2 2 (by simp)
  have u3 : w8.cell? ⟨w3.heap.size, 3, none⟩ = some (.int .i64 f) := HW8.out.2 3 (by simp)
  have u4 : w8.cell? ⟨w3.heap.size, 4, none⟩ = some (.int .i64 l) := HW8.out.2 4 (by simp)
  have u5 : w8.cell? ⟨w3.heap.size, 5, none⟩ = some (.slice ta tl tc) := HW8.out.2 5 (by simp)
  go_wp2_with fail
  refine (HQ.out _ _ _ _ _ HU8.out HS8.out).mono ?_
  rintro e w9 ⟨rfl, hb9⟩
  have HA9 := hid_intro (HA8.out.below hb9)
  have HW9 := hid_intro (HW8.out.below hb9)
  have HS9 := hid_intro (HKT.out _ _ _ HS8.out hb9)
  have HG9 := hid_intro (HG8.out.below hb9)
  have HU9 := hid_intro (HKT.out _ _ _ HU8.out hb9)
  have HO9 := hid_intro (ob HO8.out hb9)
  have HB9 := hid_intro (HB8.out.trans (hb9.mono HB8.out.size))
  clear hb9 HA8 HW8 HS8 HG8 HU8 HO8 HB8 ul u0 u1 u2 u3 u4 u5 vl v0 v1 v2 v3 v4 v5
  have vl := HG9.out.1
  have v0 : w9.cell? ⟨w5.heap.size, 0, none⟩ = some (.string n) := HG9.out.2 0 (by simp)
  have v1 : w9.cell? ⟨w5.heap.size, 1, none⟩ = some (.int .i64 g) := HG9.out.2 1 (by simp)
  have v2 : w9.cell? ⟨w5.heap.size, 2, none⟩ = some (.bool wh) := HG9.out.2 2 (by simp)
  have v3 : w9.cell? ⟨w5.heap.size, 3, none⟩ = some (.int .i64 f) := HG9.out.2 3 (by simp)
  have v4 : w9.cell? ⟨w5.heap.size, 4, none⟩ = some (.int .i64 l) := HG9.out.2 4 (by simp)
  have v5 : w9.cell? ⟨w5.heap.size, 5, none⟩ = some (.slice tg tl tcg) := HG9.out.2 5 (by simp)
  go_wp2_with fail
  refine (markMe n g wh f l tg tl tcg (w4.heap.size + 1) w5.heap.size w9 htl (by
    rcases Nat.eq_zero_or_pos tl with h0 | h0
    · exact .inl h0
    · obtain ⟨b, h1, h2, h3⟩ := HO9.out.resolve_left (by omega)
      exact .inr ⟨b, h1, h2, HTOP.out b (by omega) h1, h3⟩)).mono ?_
  rintro e w10 ⟨rfl, hk10, ho10⟩
  obtain ⟨hw3, h34, h45⟩ := HH.out
  have HK10 := hid_intro hk10
  have HA10 := hid_intro (ho10.blk HA9.out (.inl (by omega)))
  have HW10 := hid_intro (ho10.blk HW9.out (.inl (by omega)))
  have HG10 := hid_intro (ho10.blk HG9.out (.inr (Nat.le_refl _)))
  have HS10 := hid_intro (HTO.out _ _ _ _ _ _ HS3.out HS9.out ho10 (by omega))
  have HB10 := hid_intro (bel_outs HB9.out ho10 (by omega))
  clear hk10 ho10 hw3 h34 h45 HA9 HW9 HG9 HS9 HU9 HO9 HB9 vl v0 v1 v2 v3 v4 v5
  have HHL := hid_intro (fun w (h : MkT tg tl w) => heldMe n g wh f l tg tl tcg w htl h)
  generalize hKK : 1 + 2 * tl = KK at *
  have hKK0 : ¬ (KK : Int) < 0 := by omega
  have vl := HG10.out.1
  have v0 : w10.cell? ⟨w5.heap.size, 0, none⟩ = some (.string n) := HG10.out.2 0 (by simp)
  have v1 : w10.cell? ⟨w5.heap.size, 1, none⟩ = some (.int .i64 g) := HG10.out.2 1 (by simp)
  have v2 : w10.cell? ⟨w5.heap.size, 2, none⟩ = some (.bool wh) := HG10.out.2 2 (by simp)
  have v3 : w10.cell? ⟨w5.heap.size, 3, none⟩ = some (.int .i64 f) := HG10.out.2 3 (by simp)
  have v4 : w10.cell? ⟨w5.heap.size, 4, none⟩ = some (.int .i64 l) := HG10.out.2 4 (by simp)
  have v5 : w10.cell? ⟨w5.heap.size, 5, none⟩ = some (.slice tg tl tcg) := HG10.out.2 5 (by simp)
  go_wp2_with fail
  refine (HHL.out _ HK10.out).mono ?_
  rintro e w11 ⟨rfl, hb11⟩
  have HA11 := hid_intro (HA10.out.below hb11)
  have HW11 := hid_intro (HW10.out.below hb11)
  have HS11 := hid_intro (HKT.out _ _ _ HS10.out hb11)
  have HG11 := hid_intro (HG10.out.below hb11)
  have HK11 := hid_intro (HK10.out.below hb11)
  have HB11 := hid_intro (HB10.out.trans (hb11.mono HB10.out.size))
  clear hb11 HA10 HW10 HS10 HG10 HK10 HB10 vl v0 v1 v2 v3 v4 v5
  have pl := HA11.out.1
  have p0 : w11.cell? ⟨w.heap.size, 0, none⟩ = some (.slice ma ml mc) := HA11.out.2 0 (by simp)
  have p1 : w11.cell? ⟨w.heap.size, 1, none⟩ = some (.slice ca cl cc) := HA11.out.2 1 (by simp)
  go_wp2_with fail
  refine (HT.out _ _ (HKM.out _ _ _ HI.out HB11.out)).mono ?_
  rintro e w12 ⟨⟨a12, b12, rfl, hN12, _⟩, hb12⟩
  have HM12 := hid_intro (HNM.out _ _ _ hN12)
  have HW12 := hid_intro (HW11.out.below hb12)
  have HS12 := hid_intro (HKT.out _ _ _ HS11.out hb12)
  have HG12 := hid_intro (HG11.out.below hb12)
  have HK12 := hid_intro (HK11.out.below hb12)
  have HB12 := hid_intro (HB11.out.trans (hb12.mono HB11.out.size))
  clear hb12 hN12 HA11 HW11 HS11 HG11 HK11 HB11 pl p0 p1
  go_wp2_with fail
  refine (HIM.out _ _ HM12.out (HKL.out _ _ HL.out HB12.out)).mono ?_
  rintro e w13 ⟨th, tch, rfl, hT13, _, hb13⟩
  have HU13 := hid_intro hT13
  have HW13 := hid_intro (HW12.out.below hb13)
  have HS13 := hid_intro (HKT.out _ _ _ HS12.out hb13)
  have HG13 := hid_intro (HG12.out.below hb13)
  have HK13 := hid_intro (HK12.out.below hb13)
  have HB13 := hid_intro (HB12.out.trans (hb13.mono HB12.out.size))
  clear hb13 hT13 HW12 HS12 HG12 HK12 HB12 HM12
  have hal : Below w13.heap.size w13 (w13.alloc (.cells #[.string n, .int .i64 g, .bool wh, .int .i64 f, .int .i64 l, .slice th tl tch] 40)) := al _ _
  have HWe := hid_intro (HW13.out.below hal)
  have HSe := hid_intro (HKT.out _ _ _ HS13.out hal)
  have HGe := hid_intro (HG13.out.below hal)
  have HKe := hid_intro (HK13.out.below hal)
  have HUe := hid_intro (HKT.out _ _ _ HU13.out hal)
  have HBe := hid_intro (HB13.out.trans (hal.mono HB13.out.size))
  clear hal HW13 HS13 HG13 HK13 HU13 HB13
  have ul := HWe.out.1
  have u0 : (w13.alloc (.cells #[.string n, .int .i64 g, .bool wh, .int .i64 f, .int .i64 l, .slice th tl tch] 40)).cell? ⟨w3.heap.size, 0, none⟩ = some (.string n) := HWe.out.2 0 (by simp)
  have u1 : (w13.alloc (.cells #[.string n, .int .i64 g, .bool wh, .int .i64 f, .int .i64 l, .slice th tl tch] 40)).cell? ⟨w3.heap.size, 1, none⟩ = some (.int .i64 g) := HWe.out.2 1 (by simp)
  have u2 : (w13.alloc (.cells #[.string n, .int .i64 g, .bool wh, .int .i64 f, .int .i64 l, .slice th tl tch] 40)).cell? ⟨w3.heap.size, 2, none⟩ = some (.bool wh) := HWe.out.2 2 (by simp)
  have u3 : (w13.alloc (.cells #[.string n, .int .i64 g, .bool wh, .int .i64 f, .int .i64 l, .slice th tl tch] 40)).cell? ⟨w3.heap.size, 3, none⟩ = some (.int .i64 f) := HWe.out.2 3 (by simp)
  have u4 : (w13.alloc (.cells #[.string n, .int .i64 g, .bool wh, .int .i64 f, .int .i64 l, .slice th tl tch] 40)).cell? ⟨w3.heap.size, 4, none⟩ = some (.int .i64 l) := HWe.out.2 4 (by simp)
  have u5 : (w13.alloc (.cells #[.string n, .int .i64 g, .bool wh, .int .i64 f, .int .i64 l, .slice th tl tch] 40)).cell? ⟨w3.heap.size, 5, none⟩ = some (.slice ta tl tc) := HWe.out.2 5 (by simp)
  go_wp2_with fail
  refine (HQ.out _ _ _ _ _ HUe.out HSe.out).mono ?_
  rintro e w14 ⟨rfl, hb14⟩
  have HG14 := hid_intro (HGe.out.below hb14)
  have HK14 := hid_intro (HKe.out.below hb14)
  have HB14 := hid_intro (HBe.out.trans (hb14.mono HBe.out.size))
  clear hb14 HWe HSe HGe HKe HUe HBe ul u0 u1 u2 u3 u4 u5
  have vl := HG14.out.1
  have v0 : w14.cell? ⟨w5.heap.size, 0, none⟩ = some (.string n) := HG14.out.2 0 (by simp)
  have v1 : w14.cell? ⟨w5.heap.size, 1, none⟩ = some (.int .i64 g) := HG14.out.2 1 (by simp)
  have v2 : w14.cell? ⟨w5.heap.size, 2, none⟩ = some (.bool wh) := HG14.out.2 2 (by simp)
  have v3 : w14.cell? ⟨w5.heap.size, 3, none⟩ = some (.int .i64 f) := HG14.out.2 3 (by simp)
  have v4 : w14.cell? ⟨w5.heap.size, 4, none⟩ = some (.int .i64 l) := HG14.out.2 4 (by simp)
  have v5 : w14.cell? ⟨w5.heap.size, 5, none⟩ = some (.slice tg tl tcg) := HG14.out.2 5 (by simp)
  go_wp2_with fail
  refine (HHL.out _ HK14.out).mono ?_
  rintro e w15 ⟨rfl, hb15⟩
  have HB15 := hid_intro (HB14.out.trans (hb15.mono HB14.out.size))
  clear hb15
  go_wp2_with fail
  go_ret
  exact ⟨rfl, HB15.out⟩
theorem long (t : ByteArray) (ht : 1048576 < t.size) (hm : t.size ≤ maxLen) (ma : Option Addr) (ml mc : Nat) (ca : Option Addr) (cl cc : Nat) (w : World) :
    Calls Tryd.prog 6 #[.agg #[.slice ma ml mc, .slice ca cl cc], .string t] w fun e w' => e = .returned (.bool true) ∧ Below w.heap.size w w' := by
  unfold maxLen at hm
  have h : (1048576 : Int) < (t.size : Int) := by omega
  go_enter Tryd.func6, Tryd.ntmps6
  go_wp2_with fail
  go_ret
  exact ⟨rfl, by first | exact Below.refl _ _ | exact (Below.refl _ _).alloc (Nat.le_refl _) _⟩
theorem mF_small {t : ByteArray} : ∀ {ms : List Me}, (∀ i, i < ms.length → (ms.getD i Me.zero).Small) → (mFd t ms).ts.length ≤ 1048576
  | [], _ => by simp [mFd, Me.zero]
  | m :: ms, h => by
    rw [mFd]
    cases hb : (m.n.toList == t.toList)
    · rw [cond_false]
      exact mF_small (fun i hi => h (i + 1) (by simpa using hi))
    · rw [cond_true]
      exact (h 0 (by simp)).2
theorem mO_small {c : Ca} {t : ByteArray} (h : c.Small) : (mO c t).ts.length ≤ 1048576 := by
  unfold mO
  cases caB c
  · simp [Me.zero]
  · exact mF_small h.ms
theorem tis_outs {ao : Option Addr} {len : Nat} {ts : List Ti} {w0 w w' : World} {base top : Nat} (h0 : Tis ao len ts w0) (h : Tis ao len ts w) (ho : Outs base top w w') (hb : w0.heap.size ≤ base) : Tis ao len ts w' := by
  refine ⟨h.1, ?_⟩
  rcases h.2 with h1 | ⟨b, off, rfl, hl, hc⟩
  · exact .inl h1
  · rcases h0.2 with h1 | ⟨b', off', he, hl', _⟩
    · exact .inl h1
    · obtain ⟨rfl, rfl⟩ : b = b' ∧ off = off' := by simpa using he
      have e := ho.block b hl (.inl (by omega))
      exact .inr ⟨b, off, rfl, by have := ho.size; omega, fun j hj => ⟨(World.cell?_of_block (a := ⟨b, _, none⟩) e).trans (hc j hj).1, (World.cell?_of_block (a := ⟨b, _, none⟩) e).trans (hc j hj).2⟩⟩
theorem tis_outs2 {ao : Option Addr} {len : Nat} {ts : List Ti} {w w' : World} {base top : Nat} (hg : len = 0 ∨ ∃ b, ao = some ⟨b, 0, none⟩ ∧ top ≤ b) (h : Tis ao len ts w) (ho : Outs base top w w') : Tis ao len ts w' := by
  refine ⟨h.1, ?_⟩
  rcases hg with h1 | ⟨b0, rfl, hb⟩
  · exact .inl h1
  rcases h.2 with h1 | ⟨b, off, he, hl, hc⟩
  · exact .inl h1
  · obtain ⟨rfl, rfl⟩ : b0 = b ∧ 0 = off := by simpa using he
    have e := ho.block b0 hl (.inr hb)
    exact .inr ⟨b0, 0, rfl, by have := ho.size; omega, fun j hj => ⟨(World.cell?_of_block (a := ⟨b0, _, none⟩) e).trans (hc j hj).1, (World.cell?_of_block (a := ⟨b0, _, none⟩) e).trans (hc j hj).2⟩⟩
theorem walk (c : Ca) (v : Value) (t : ByteArray) (htm : t.size ≤ maxLen) (w : World) (hI : IsCa v c w) (hin : c.In) (hL : Laid w) :
    Calls Tryd.prog 6 #[v, .string t] w fun e w' => e = .returned (.bool true) ∧ Below w.heap.size w w' := by
  obtain ⟨ma, mc, ca, cc, rfl, hM, hR⟩ := hI
  by_cases ht : 1048576 < t.size
  · exact long t ht htm ma _ mc ca _ cc w
  · exact law_in c.Small (fun v w => IsCa v c w) (fun b v w => NewCa b v c w) Laid (fun ta w => Tis ta (mO c t).ts.length (mO c t).ts w) ma c.ms.length mc ca c.cs.length cc t (mO c t).n (mO c t).g (mO c t).wh (mO c t).f (mO c t).l (mO c t).ts.length (by omega) w ⟨ma, mc, ca, cc, rfl, hM, hR⟩ hL
      (fun v w w' h hb => h.below hb) (fun w w' h hb => h.below hb) (fun b v w w' h hb => h.below hb) (fun ta w w' h hb => h.below hb) (fun b v w h => h.is)
      (fun ta w0 w w' base top h0 h ho hb => tis_outs h0 h ho hb) (fun ta w w' base top hg h ho => tis_outs2 hg h ho) (fun hs => mO_small hs)
      (fun w h => szCa_any _ c w hin h)
      (fun hs v w h => (toCa_any v c w hs h).mono fun e w' h2 => by
        obtain ⟨⟨v', he, hN⟩, hb⟩ := h2
        have hN2 := hN
        obtain ⟨g, bs, h, rfl, _, _, _, _, hp⟩ := hN
        exact ⟨⟨g, h, he, hN2, hp.lt⟩, hb⟩)
      (fun hs v w h => spec_mo v c t w (by omega) hs h) (fun hs v w h hL => impl_mo v c t w (by omega) hs h hL) (fun hs v v' w h h' => eqCa_any v v' c w hs h h')
      (fun hs ta tc ta' tc' w h h' => eqMe_any _ _ (mO c t) w (mO_small hs) ⟨ta, tc, rfl, h⟩ ⟨ta', tc', rfl, h'⟩)
      (fun hs base a b w top hN hb => markCa base _ c w top hs hN (fun hh x e => by
        simp only [Value.agg.injEq, Array.mk.injEq, List.cons.injEq, Value.slice.injEq, Option.some.injEq, Addr.mk.injEq, and_true] at e
        omega))
set_option maxRecDepth 100000 in
theorem lifted (os : Os) (started : os.Started) (H : Type) (enc : TypeId × Value → H) :
    ReturnsInHanded {} Tryd.checked os 6 .any (fun w args => (Rows.fnExactMeterOfSpec.pre enc Tryd.prog Tryd.f6 [] false w args ∧ laidMetH Tryd.prog Snm.laid w) ∧ sizedMet enc Tryd.prog Tryd.f6 (OpenSpec.ofChange Rows.fnExactMeterOfSpec) false w args)
      (Rows.fnExactMeterOfSpec.post enc Tryd.prog Tryd.f6 false true false false) := by
  refine returnsInHanded_of_change_and (C := Tryd.checked) (X := fun w _ => laidMetH Tryd.prog Snm.laid w) (fun _ _ _ hh h => h.of_heap hh) Snm.own started (by kernel_rfl) Tryd.func6
    (ChangeSpec.witness_shaped (enc := enc) (C := Tryd.checked) (os := os) (X := fun w _ => laidMetH Tryd.prog Snm.laid w) false (World.doorLaid Tryd.prog 400 os) #[.agg #[.slice none 0 0, .slice none 0 0], .string ByteArray.empty] 8 rfl (World.shaped_of_RefB (by kernel_rfl) (by kernel_rfl)) (by kernel_rfl) (by kernel_rfl) (by kernel_rfl) (Snm.door_met os _)) ?_
  intro W base args ds gs before hval0 hW _ _ hL _
  have hval : ∀ (j : Nat) t v, Tryd.f6.params[j]? = some t → args[j]? = some v → Value.okWide Tryd.prog W .any base t v := hval0
  have hW' := hW
  obtain ⟨p, q, hA0, hV0, rfl, hfz, hnd⟩ := hW
  have hA : DataW.TrodAll enc Tryd.prog W 0 (fun _ => true) true Tryd.f6.params.toList args.toList ds p := hA0
  have hV : DataW.TrodVars enc Tryd.prog W (fun _ => true) ["loop.example/g00562/impl.errNoMeter"] gs q := hV0
  rw [Tryd.params6] at hA hval
  obtain ⟨v0, v1, d0, d1, p0, p1, rfl, rfl, rfl, h0, h1⟩ := trodAll_two hA
  have k0 := h0
  have lt0 : ∀ x ∈ p0, x.block < W.heap.size := fun x hx => hW'.lt x (by simp [hx])
  obtain ⟨cs0, rfl, _⟩ := okWide_struct Tryd.underlying25 (hval 0 25 v0 rfl rfl)
  obtain ⟨fuel0, hf0⟩ := h0
  obtain ⟨ma0, ml0, mc0, ca0, cl0, cc0, hcs0, ⟨n0, y0, t0⟩, ⟨n0', y0', t0'⟩⟩ := CatR.ca_cells Tryd.underlying25 (by kernel_rfl) (by kernel_rfl) Tryd.underlying22 Tryd.underlying23 hf0
  obtain ⟨wl0, ms0, hml0, wi0, hM0⟩ := CatR.mes_open (tt := 0) Tryd.underlying22 Tryd.underlying79 (by kernel_rfl) (by kernel_rfl) Tryd.underlying9 Tryd.underlying2 Tryd.underlying4 Tryd.underlying2 Tryd.underlying2 Tryd.underlying77 Tryd.underlying118 (by kernel_rfl) (by kernel_rfl) Tryd.underlying2 Tryd.underlying2 t0
  obtain ⟨wl0', rs0, hcl0, wi0', hR0⟩ := CatR.crs_open Tryd.underlying23 Tryd.underlying81 (by kernel_rfl) (by kernel_rfl) Tryd.underlying9 Tryd.underlying2 t0'
  subst hml0 hcl0
  obtain rfl : cs0 = #[.slice ma0 ms0.length mc0, .slice ca0 rs0.length cc0] := by
    obtain ⟨l⟩ := cs0
    simp [Value.cells] at hcs0
    rw [hcs0]
  have k1 := h1
  have lt1 : ∀ x ∈ p1, x.block < W.heap.size := fun x hx => hW'.lt x (by simp [hx])
  obtain ⟨a1, rfl, rfl, rfl, w1⟩ := open_string Tryd.underlying9 (hval 1 9 v1 rfl rfl) h1
  obtain ⟨av, hv⟩ := Snm.of_laid hL
  have hl := Snm.laid_of hv
  obtain ⟨rfl, rfl⟩ := hV.unique (vars_read1 enc Snm.gv Snm.gt Tryd.underlying66 hv trivial _)
  refine (walk ⟨ms0, rs0⟩ _ a1 w1 W ⟨ma0, mc0, ca0, cc0, rfl, hM0, hR0⟩ ⟨wl0, wi0, wl0', wi0'⟩ hl).mono fun e W' ⟨he, bel⟩ => ?_
  subst he
  exact ⟨_, rfl, _, _, _, _, _, _, hW', trodAll_mk1 (shut_bool Tryd.underlying4 true), trodAll_mk2 (Below.trod Snm.laidOut (by kernel_rfl) (of_decide_eq_true (by kernel_rfl)) k0 bel lt0) (Below.trod Snm.laidOut (by kernel_rfl) (of_decide_eq_true (by kernel_rfl)) k1 bel lt1), vars_read1 enc Snm.gv Snm.gt Tryd.underlying66 (Snm.var_below hl hv bel) trivial _, bel.frame _, fun h => by cases h⟩
theorem row_holds : Rows.FnExactMeterOfSaid :=
  OpenClaim.holds_of_wide 6 Tryd.f6 rfl rfl rfl rfl rfl rfl rfl ⟨rfl, rfl, rfl, rfl, rfl⟩ rfl rfl rfl rfl rfl (by kernel_rfl) Tryd.func6 (by kernel_rfl)
    (of_decide_eq_true (by kernel_rfl)) (by unfold Func.isWrapper; rw [if_neg (of_decide_eq_false (by kernel_rfl))]; exact ⟨rfl, rfl⟩)
    (fun os started H enc _ => lifted os started H enc)
theorem card_holds : Rows.FnExactMeterOfCardSaid :=
  Claim7.holds_tied_plain_at .later [] [.sentinel] true Rows.fnExactMeterOfCard.stood.harness true
    row_holds (fun _ h => by cases h) (by kernel_rfl) (fun _ h => by cases h) fnExactMeterOf_row_tie rfl ⟨rfl, rfl⟩ (by kernel_rfl) rfl
    (fun f fn hf hfn => by
      obtain rfl : f = 6 := Option.some.inj ((show Tryd.prog.funcNamed "loop.example/g00562/laws.FnExactMeterOf" = some 6 by kernel_rfl).symm.trans hf) |>.symm
      obtain rfl : fn = Tryd.f6 := (Option.some.inj (Tryd.func6.symm.trans hfn)).symm
      exact ⟨by kernel_rfl, fun j t ht => by
        rw [Tryd.params6] at ht
        have hm : t ∈ [25, 9] := by simpa using Array.mem_of_getElem? ht
        have hall : ([25, 9].all fun u => !Tryd.prog.wantsStandIn u) = true := by kernel_rfl
        exact (show Tryd.prog.wantsStandIn t = false by simpa using List.all_eq_true.1 hall t hm)⟩)
    (by kernel_rfl)

end MeterOfL
/-- THE STATEMENT -/
theorem fnExactMeterOf_card : Rows.FnExactMeterOfCardSaid := MeterOfL.card_holds
#print axioms fnExactMeterOf_card
end Go.Proofs.YtnpnegcmohgnfaaDoor
