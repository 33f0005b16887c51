/-
  Marks upon a list of meters of one's own, and their reading. The conditions: at most 1048576 meters, the marks below 5300001.
  What is shown once is used on every way to it. No condition.
  The program's reading of a meter and of a catalog. The conditions: what the readers ask for.
  Bytes that are spelled by parts: what is read is spelled by just its bytes. Bytes alone. No condition.
  Bytes put are got back: what is spelled at a place is read there. Bytes alone. No condition.
  What the program calls a name is what the model calls one, of every text of at most 1048576 bytes. No condition.
  What is right of tiers, meters, credits and catalogs, in numbers. No condition.
  The order of texts, what a right catalog is, and a map of meters by their names, as read. No condition.
  A text's bytes: both sides put the same. No condition but the length.
  What the program and the model call right tiers, and a right meter: they are one. The condition: the name has at most 1048576 bytes.
  The program's map of meters by their names: made, and taken from. The condition: at most 6 meters, their names of at most 1048576 bytes; the program's own error stands in its variable.
  What the model calls right tiers. The condition: at most 1048576 of them.
  What the program and the model call a right meter: they are one. The conditions: the name has at most 1048576 bytes, the tiers are at most 1048576.
  errors.Is at the program's own sentinel: of the sentinel it tells true, of nil false. No condition.
  The law's own helpers over tiers and meters: their sizes, copies, and two held against each other. The condition: the tiers are at most 1048576.
  The law's own helpers over a meter: its size, its copy, two held against each other. The condition: the tiers are at most 1048576.
  The law's own helpers over a list of meters: their size, copies, two held against each other. The condition: at most 1048576 meters, each of at most 1048576 tiers.
  What the program calls right meters. The conditions: at most 1048576 of them, each small; the program's own error stands in its variable.
  What the program calls right credits. The condition: at most 1048576 of them, each account of at most 1048576 bytes.
  The law's own copy of a list of meters, and two lists held against each other. The condition: at most 1048576 meters, each of at most 1048576 tiers.
  The law's own helpers over a list of credits: their size, copies, two held against each other. The condition: at most 1048576 of them.
  The law's own helpers over a catalog: its size, its copy, two held against each other. The condition: all in it is small.
  What the program calls a right catalog. The conditions: all in it is small; the program's own error stands in its variable.
  A region that draws its order, in a class of worlds that all hold some facts: one walk of the order of the text serves. No condition.
-/
import Derived.Deep.RegionHeld3
import Derived.Maps.OwnSet
import Derived.Deep.RegionWith
import Derived.BigQuiet
import Derived.Deep.QuietTactic
import Derived.OwnWalk
import Derived.Carry
import Derived.LaidEql
import Derived.Stop.Asserts
import Derived.RowKitTokens
import Derived.Test.YtgaihlhoegaliaaDoorC1
namespace Go.Proofs.YtgaihlhoegaliaaDoor
open Go.ChangeShapes Go.WideShapes Go.ChangeAt Go.RowKit
set_option linter.unusedVariables false
namespace CatR
open RowG (grown_set)
open ChG
open EvtR (Pt cell_put cell_far)
open MarkR (mk mT mark_any hid_intro)
/-- The flag's mark. -/
def wB (K : Nat) : Bool := (((K : Int) + 1 + 1) % 3 == 0)
theorem pt_anyM {p q n o : Nat} {W : World} {v : Value} (h : Pt p n W) : Pt p n (W.setCell ⟨q, o, none⟩ v) := by
  by_cases e : p = q
  · subst e; exact h.set _ _
  · exact OwG.pt_row h (grown_set W q o v) (by simp; exact e)
/-- Meters whose blocks may be written, each once. -/
structure MsB (base g n : Nat) (la : Nat → Option Addr) (ln lc lb : Nat → Nat) (w : World) : Prop where
  low : base ≤ g
  pt : Pt g (n * 6) w
  cell : ∀ j, j < n → w.cell? ⟨g, j * 6 + 5, none⟩ = some (.slice (la j) (ln j) (lc j))
  own : ∀ j, j < n → ln j = 0 ∨ (la j = some ⟨lb j, 0, none⟩ ∧ base ≤ lb j ∧ lb j ≠ g ∧ Pt (lb j) (ln j * 2) w)
  apart : ∀ i j, i < n → j < n → i ≠ j → ln i ≠ 0 → ln j ≠ 0 → lb i ≠ lb j
/-- The blocks of meters. -/
def FtM (g n : Nat) (ln lb : Nat → Nat) (b : Nat) : Prop := b = g ∨ ∃ j, j < n ∧ ln j ≠ 0 ∧ b = lb j
/-- The first meters are marked. -/
def MkM (g n : Nat) (la : Nat → Option Addr) (ln lc lb Kx : Nat → Nat) (w : World) : Prop := g < w.heap.size ∧ ∀ j, j < n → (w.cell? ⟨g, j * 6, none⟩ = some (.string (mT (Kx j))) ∧ w.cell? ⟨g, j * 6 + 1, none⟩ = some (.int .i64 ((Kx j : Int) + 1)) ∧ w.cell? ⟨g, j * 6 + 2, none⟩ = some (.bool (wB (Kx j))) ∧ w.cell? ⟨g, j * 6 + 3, none⟩ = some (.int .i64 ((Kx j : Int) + 1 + 1 + 1)) ∧ w.cell? ⟨g, j * 6 + 4, none⟩ = some (.int .i64 ((Kx j : Int) + 1 + 1 + 1 + 1))) ∧ w.cell? ⟨g, j * 6 + 5, none⟩ = some (.slice (la j) (ln j) (lc j)) ∧ (ln j = 0 ∨ (la j = some ⟨lb j, 0, none⟩ ∧ TM (Kx j + 5) (ln j) (lb j) w))
section
variable {base g n : Nat} {la : Nat → Option Addr} {ln lc lb Kx : Nat → Nat} {W W' : World}
theorem MsB.below (h : MsB base g n la ln lc lb W) (hb : Below W.heap.size W W') : MsB base g n la ln lc lb W' :=
  ⟨h.low, h.pt.below hb, fun j hj => (hb.cell (p := ⟨g, j * 6 + 5, none⟩) h.pt.lt).trans (h.cell j hj), fun j hj => (h.own j hj).imp id (fun ⟨e1, e2, e3, e4⟩ => ⟨e1, e2, e3, e4.below hb⟩), h.apart⟩
theorem MsB.put (h : MsB base g n la ln lc lb W) (o : Nat) (ho : o % 6 ≠ 5) (v : Value) : MsB base g n la ln lc lb (W.setCell ⟨g, o, none⟩ v) :=
  ⟨h.low, h.pt.set _ _, fun j hj => (cell_far _ _ (by omega) v).trans (h.cell j hj), fun j hj => (h.own j hj).imp id (fun ⟨e1, e2, e3, e4⟩ => ⟨e1, e2, e3, pt_anyM e4⟩), h.apart⟩
theorem MsB.grown (h : MsB base g n la ln lc lb W) {x : Nat} (hg : W.grownBy W' (some x)) (hx : x ≠ g) (ha : ∀ n', Pt x n' W → Pt x n' W') : MsB base g n la ln lc lb W' := by
  have eb := hg.block g h.pt.lt (by simp; exact fun e => hx e.symm)
  refine ⟨h.low, OwG.pt_row h.pt hg (by simp; exact fun e => hx e.symm), fun j hj => (World.cell?_of_block (a := ⟨g, j * 6 + 5, none⟩) eb).trans (h.cell j hj), fun j hj => (h.own j hj).imp id (fun ⟨e1, e2, e3, e4⟩ => ⟨e1, e2, e3, ?_⟩), h.apart⟩
  by_cases e : lb j = x
  · subst e; exact ha _ e4
  · exact OwG.pt_row e4 hg (by simp; exact e)
theorem MkM.below (h : MkM g n la ln lc lb Kx W) (hb : Below W.heap.size W W') : MkM g n la ln lc lb Kx W' := by
  refine ⟨by have := hb.size; have := h.1; omega, fun j hj => ?_⟩
  obtain ⟨⟨h0, h1, h2, h3, h4⟩, h5, h6⟩ := h.2 j hj
  have f := fun o => hb.cell (p := ⟨g, o, none⟩) h.1
  exact ⟨⟨(f _).trans h0, (f _).trans h1, (f _).trans h2, (f _).trans h3, (f _).trans h4⟩, (f _).trans h5, h6.imp id (fun ⟨e1, e2⟩ => ⟨e1, e2.below hb⟩)⟩
theorem MkM.chg {S : Nat → Prop} (h : MkM g n la ln lc lb Kx W) (hc : Chg S W W') (hg : ¬ S g) (hl : ∀ j, j < n → ln j ≠ 0 → ¬ S (lb j)) : MkM g n la ln lc lb Kx W' := by
  refine ⟨by have := hc.size; have := h.1; omega, fun j hj => ?_⟩
  obtain ⟨⟨h0, h1, h2, h3, h4⟩, h5, h6⟩ := h.2 j hj
  have eb := hc.block g h.1 hg
  have f := fun o => World.cell?_of_block (a := ⟨g, o, none⟩) eb
  refine ⟨⟨(f _).trans h0, (f _).trans h1, (f _).trans h2, (f _).trans h3, (f _).trans h4⟩, (f _).trans h5, ?_⟩
  by_cases e0 : ln j = 0
  · exact .inl e0
  · rcases h6 with h6 | ⟨e1, e2⟩
    · exact absurd h6 e0
    · exact .inr ⟨e1, e2.block hc.size (hc.block _ e2.1 (hl j hj e0))⟩
theorem MkM.put (h : MkM g n la ln lc lb Kx W) (hlb : ∀ j, j < n → ln j ≠ 0 → lb j ≠ g) (o : Nat) (ho : n * 6 ≤ o) (v : Value) : MkM g n la ln lc lb Kx (W.setCell ⟨g, o, none⟩ v) := by
  refine ⟨by have := h.1; simpa using this, fun j hj => ?_⟩
  obtain ⟨⟨h0, h1, h2, h3, h4⟩, h5, h6⟩ := h.2 j hj
  refine ⟨⟨(cell_far _ _ (by omega) v).trans h0, (cell_far _ _ (by omega) v).trans h1, (cell_far _ _ (by omega) v).trans h2, (cell_far _ _ (by omega) v).trans h3, (cell_far _ _ (by omega) v).trans h4⟩, (cell_far _ _ (by omega) v).trans h5, ?_⟩
  by_cases e0 : ln j = 0
  · exact .inl e0
  · rcases h6 with h6 | ⟨e1, e2⟩
    · exact absurd h6 e0
    · have eb := (grown_set W g o v).block (lb j) e2.1 (by simp; exact hlb j hj e0)
      exact .inr ⟨e1, e2.block (by simp) eb⟩
end
set_option maxRecDepth 100000 in
set_option maxHeartbeats 8000000 in
theorem markMB (base g n cap : Nat) (la : Nat → Option Addr) (ln lc lb Kx : Nat → Nat) (w : World) (hn : n ≤ 1048576) (hKM : ∀ j, j < n → Kx (j + 1) = Kx j + 5 + 2 * ln j) (hK : ∀ j, j ≤ n → 1 ≤ Kx j ∧ Kx j ≤ 5300001) (hln : ∀ j, j < n → ln j ≤ 1048576) (hD : MsB base g n la ln lc lb w) :
    Calls Tryd.prog 33 #[.slice (some ⟨g, 0, none⟩) n cap, .int .i64 (Kx 0 : Nat)] w fun e w' => e = .returned (.int .i64 (Kx n : Nat)) ∧ MkM g n la ln lc lb Kx w' ∧ Chg (FtM g n ln lb) w w' := by
  have HT : Hid (∀ (z : Int) (K : Nat), z = K → 1 ≤ K → K < 100000000 → ∀ w, Calls Tryd.prog 52 #[.int .i64 z] w fun e w' => e = .returned (.string (mT K)) ∧ Below w.heap.size w w') := hid_intro (fun z K e h0 h w => by subst e; exact mark_any K h0 h w)
  have HKM := hid_intro hKM
  have HK := hid_intro hK
  have HLN := hid_intro hln
  have HD := hid_intro hD
  have HM0 : Hid (MkM g 0 la ln lc lb Kx w) := hid_intro ⟨hD.pt.lt, fun j hj => absurd hj (by omega)⟩
  clear hKM hK hln hD
  go_enter Tryd.func33, Tryd.ntmps33
  go_wp2_with fail
  go_loopw [5, 1] (fun x z wr => ∃ (i : Nat), x = .int .i64 (i : Int) ∧ z = .int .i64 ((Kx i : Nat) : Int) ∧ i ≤ n ∧ Hid (MsB base g n la ln lc lb wr) ∧ Hid (MkM g i la ln lc lb Kx wr) ∧ Hid (Chg (FtM g n ln lb) w wr)) (fun x _ _ => n - (intOf x).toNat)
  case atStart => exact ⟨0, rfl, rfl, by omega, HD, HM0, hid_intro (Chg.refl _ _)⟩
  case round =>
    clear HD HM0
    obtain ⟨i, rfl, rfl, hi, HD, HM, HC⟩ := hrel
    by_cases hin : i = n
    · subst hin
      go_wp2_with fail
      go_ret
      exact ⟨rfl, HM.out, HC.out⟩
    · have h1 : (i : Int) < (n : Int) := by omega
      have hil : i < n := by omega
      obtain ⟨k0, k1⟩ := HK.out i (by omega)
      have k2 := (HK.out (i + 1) (by omega)).2
      have km := HKM.out i hil
      have hll := HLN.out i hil
      have hgl := HD.out.pt.lt
      have HLB : Hid (∀ j, j < i → ln j ≠ 0 → lb j ≠ g) := hid_intro (fun j hj e0 => by
        rcases HD.out.own j (by omega) with h | ⟨_, _, h, _⟩
        · exact absurd h e0
        · exact h)
      go_wp2_with fail
      refine (HT.out _ (Kx i) rfl (by omega) (by omega) _).mono ?_
      rintro e w1 ⟨rfl, hb⟩
      replace HD := hid_intro (HD.out.below hb)
      replace HM := hid_intro (HM.out.below hb)
      replace HC := hid_intro (HC.out.below hb)
      clear hb hgl
      obtain ⟨v0, c0⟩ := HD.out.pt.has (i * 6) (by omega)
      have f0 := HD.out.pt.free (i * 6) (by omega)
      obtain ⟨v1, c1⟩ := HD.out.pt.has (i * 6 + 1) (by omega)
      have f1 := HD.out.pt.free (i * 6 + 1) (by omega)
      obtain ⟨v2, c2⟩ := HD.out.pt.has (i * 6 + 2) (by omega)
      have f2 := HD.out.pt.free (i * 6 + 2) (by omega)
      obtain ⟨v3, c3⟩ := HD.out.pt.has (i * 6 + 3) (by omega)
      have f3 := HD.out.pt.free (i * 6 + 3) (by omega)
      obtain ⟨v4, c4⟩ := HD.out.pt.has (i * 6 + 4) (by omega)
      have f4 := HD.out.pt.free (i * 6 + 4) (by omega)
      have c5 := HD.out.cell i hil
      have hgl := HD.out.pt.lt
      have hSg : FtM g n ln lb g := .inl rfl
      have HWK : Hid (wB (Kx i) = ((((Kx i : Nat) : Int) + 1 + 1) % 3 == 0)) := rfl
      generalize hwb : wB (Kx i) = wb at *
      generalize hKi : Kx i = K at *
      have hw3 : (((K : Int) + 1 + 1) % 3 == 0) = wb := HWK.out.symm
      obtain ⟨W3, hW3⟩ : ∃ W3, W3 = (((((w1.setCell ⟨g, i * 6, none⟩ (.string (mT K))).setCell ⟨g, i * 6 + 1, none⟩ (.int .i64 ((K : Int) + 1))).setCell ⟨g, i * 6 + 2, none⟩ (.bool wb)).setCell ⟨g, i * 6 + 3, none⟩ (.int .i64 ((K : Int) + 1 + 1 + 1))).setCell ⟨g, i * 6 + 4, none⟩ (.int .i64 ((K : Int) + 1 + 1 + 1 + 1))) := ⟨_, rfl⟩
      have HD3 : Hid (MsB base g n la ln lc lb W3) := hid_intro (by rw [hW3]; exact (((((HD.out.put _ (by omega) _).put _ (by omega) _).put _ (by omega) _).put _ (by omega) _).put _ (by omega) _))
      have HM3 : Hid (MkM g i la ln lc lb Kx W3) := hid_intro (by rw [hW3]; exact (((((HM.out.put HLB.out _ (by omega) _).put HLB.out _ (by omega) _).put HLB.out _ (by omega) _).put HLB.out _ (by omega) _).put HLB.out _ (by omega) _))
      have HC3 : Hid (Chg (FtM g n ln lb) w W3) := hid_intro (by rw [hW3]; exact (((((HC.out.grown (grown_set _ g _ _) hSg).grown (grown_set _ g _ _) hSg).grown (grown_set _ g _ _) hSg).grown (grown_set _ g _ _) hSg).grown (grown_set _ g _ _) hSg))
      have p0 := HD.out.pt
      have p1 := p0.set (i * 6) (.string (mT K))
      have p2 := p1.set (i * 6 + 1) (.int .i64 ((K : Int) + 1))
      have p3 := p2.set (i * 6 + 2) (.bool wb)
      have p4 := p3.set (i * 6 + 3) (.int .i64 ((K : Int) + 1 + 1 + 1))
      have HX3 : Hid (W3.cell? ⟨g, i * 6, none⟩ = some (.string (mT K)) ∧ W3.cell? ⟨g, i * 6 + 1, none⟩ = some (.int .i64 ((K : Int) + 1)) ∧ W3.cell? ⟨g, i * 6 + 2, none⟩ = some (.bool wb) ∧ W3.cell? ⟨g, i * 6 + 3, none⟩ = some (.int .i64 ((K : Int) + 1 + 1 + 1)) ∧ W3.cell? ⟨g, i * 6 + 4, none⟩ = some (.int .i64 ((K : Int) + 1 + 1 + 1 + 1))) := hid_intro (by
        rw [hW3]
        refine ⟨?_, ?_, ?_, ?_, cell_put p4 _ (by omega) _⟩
        · rw [cell_far _ _ (by omega), cell_far _ _ (by omega), cell_far _ _ (by omega), cell_far _ _ (by omega), cell_put p0 _ (by omega)]
        · rw [cell_far _ _ (by omega), cell_far _ _ (by omega), cell_far _ _ (by omega), cell_put p1 _ (by omega)]
        · rw [cell_far _ _ (by omega), cell_far _ _ (by omega), cell_put p2 _ (by omega)]
        · rw [cell_far _ _ (by omega), cell_put p3 _ (by omega)])
      clear p0 p1 p2 p3 p4
      have HTK : Hid (mT (Kx i) = mT K) := hid_intro (by rw [hKi])
      have HKi := hid_intro hKi
      have HWB := hid_intro hwb
      generalize mT K = T0 at *
      clear HD HM HC hKi HWK hwb
      by_cases hz : ln i = 0
      · rw [hz] at c5
        have HMK0 := hid_intro (fun z => tierM0 z (la i) (lc i) W3)
        have HL0 := hid_intro hz
        go_wp2_with fail
        rw [← hW3]
        refine (HMK0.out _).mono ?_
        rintro e w4 ⟨rfl, hb⟩
        have HX4 := hid_intro (show MkM g (i + 1) la ln lc lb Kx w4 from ⟨by have := hb.size; have := HD3.out.pt.lt; omega, fun j hj => by
          by_cases e : j = i
          · subst e
            have f := fun o => hb.cell (p := ⟨g, o, none⟩) HD3.out.pt.lt
            rw [HTK.out, HKi.out, HWB.out]
            obtain ⟨x0, x1, x2, x3, x4⟩ := HX3.out
            exact ⟨⟨(f _).trans x0, (f _).trans x1, (f _).trans x2, (f _).trans x3, (f _).trans x4⟩, (f _).trans (HD3.out.cell j hil), .inl HL0.out⟩
          · exact (HM3.out.below hb).2 j (by omega)⟩)
        replace HD3 := hid_intro (HD3.out.below hb)
        replace HC3 := hid_intro (HC3.out.below hb)
        have hkk : ((Kx (i + 1) : Nat) : Int) = (K : Int) + 1 + 1 + 1 + 1 + 1 := by rw [km, hz]; omega
        clear hb hW3
        go_wp2_with fail
        go_roundw
        case rel => exact ⟨i + 1, by go_num, by rw [hkk], by omega, HD3, HX4, HC3⟩
        case measure => simp [intOf]; omega
      · rcases HD3.out.own i hil with h0 | ⟨e1, e2, e3, e4⟩
        · exact absurd h0 hz
        have HMK : Hid (∀ z : Int, z = ((K + 5 : Nat) : Int) → Calls Tryd.prog 53 #[.slice (some ⟨lb i, 0, none⟩) (ln i) (lc i), .int .i64 z] W3 fun e w' => e = .returned (.int .i64 ((K + 5) + 2 * ln i : Nat)) ∧ W3.grownBy w' (some (lb i)) ∧ (∀ n', Pt (lb i) n' W3 → Pt (lb i) n' w') ∧ TM (K + 5) (ln i) (lb i) w') := hid_intro (fun z hz => by subst hz; exact tierM (K + 5) (by omega) (by omega) (lb i) (ln i) (lc i) W3 hll e4)
        have HE1 := hid_intro e1
        have HE3 := hid_intro e3
        have HSl : Hid (FtM g n ln lb (lb i)) := hid_intro (.inr ⟨i, hil, hz, rfl⟩)
        rw [e1] at c5
        clear e4 e1
        go_wp2_with fail
        rw [← hW3]
        refine (HMK.out _ (by push_cast; omega)).mono ?_
        rintro e w4 ⟨rfl, hg4, ha4, hm4⟩
        have HX4 := hid_intro (show MkM g (i + 1) la ln lc lb Kx w4 from ⟨by have := hg4.size; have := HD3.out.pt.lt; omega, fun j hj => by
          by_cases e : j = i
          · subst e
            have eb := hg4.block g HD3.out.pt.lt (by simp; exact fun e => HE3.out e.symm)
            have f := fun o => World.cell?_of_block (a := ⟨g, o, none⟩) eb
            rw [HTK.out, HKi.out, HWB.out]
            obtain ⟨x0, x1, x2, x3, x4⟩ := HX3.out
            exact ⟨⟨(f _).trans x0, (f _).trans x1, (f _).trans x2, (f _).trans x3, (f _).trans x4⟩, (f _).trans (HD3.out.cell j hil), .inr ⟨HE1.out, hm4⟩⟩
          · have hc : Chg (fun b => b = lb i) W3 w4 := (Chg.refl _ _).grown hg4 rfl
            exact (HM3.out.chg hc (fun q => HE3.out q.symm) (fun j2 hj2 hn2 q => HD3.out.apart j2 i (by omega) hil (by omega) hn2 hz q)).2 j (by omega)⟩)
        replace HD3 := hid_intro (HD3.out.grown hg4 HE3.out ha4)
        replace HC3 := hid_intro (HC3.out.grown hg4 HSl.out)
        have hkk : ((Kx (i + 1) : Nat) : Int) = ((K + 5 + 2 * ln i : Nat) : Int) := by rw [km]
        clear hg4 ha4 hm4 hW3
        go_wp2_with fail
        go_roundw
        case rel => exact ⟨i + 1, by go_num, by rw [hkk]; go_num, by omega, HD3, HX4, HC3⟩
        case measure => simp [intOf]; omega
/-- One meter's marks, in a world grown. -/
def BoxN (w : World) (g o : Nat) (t0 : ByteArray) (n1 : Int) (b2 : Bool) (n3 n4 : Int) (v : Value) (w' : World) : Prop := Below w.heap.size w w' ∧ g < w'.heap.size ∧ w'.cell? ⟨g, o, none⟩ = some (.string t0) ∧ w'.cell? ⟨g, o + 1, none⟩ = some (.int .i64 n1) ∧ w'.cell? ⟨g, o + 2, none⟩ = some (.bool b2) ∧ w'.cell? ⟨g, o + 3, none⟩ = some (.int .i64 n3) ∧ w'.cell? ⟨g, o + 4, none⟩ = some (.int .i64 n4) ∧ w'.cell? ⟨g, o + 5, none⟩ = some v
theorem bn_below {w wr w1 w2 : World} {g o : Nat} {t0 : ByteArray} {n1 n3 n4 : Int} {b2 : Bool} {v : Value} (h : Below wr.heap.size wr w1 ∧ BoxN w g o t0 n1 b2 n3 n4 v w1) (hb : Below w1.heap.size w1 w2) : Below wr.heap.size wr w2 ∧ BoxN w g o t0 n1 b2 n3 n4 v w2 := by
  obtain ⟨h8, h0, hl, c0, c1, c2, c3, c4, c5⟩ := h
  have c := fun x => hb.cell (p := ⟨g, x, none⟩) hl
  exact ⟨h8.trans (hb.mono h8.size), h0.trans (hb.mono h0.size), by have := hb.size; omega, (c _).trans c0, (c _).trans c1, (c _).trans c2, (c _).trans c3, (c _).trans c4, (c _).trans c5⟩
set_option maxRecDepth 100000 in
set_option maxHeartbeats 8000000 in
theorem heldMB (g n cap : Nat) (la : Nat → Option Addr) (ln lc lb Kx : Nat → Nat) (w : World) (hn : n ≤ 1048576) (hKM : ∀ j, j < n → Kx (j + 1) = Kx j + 5 + 2 * ln j) (hK : ∀ j, j ≤ n → 1 ≤ Kx j ∧ Kx j ≤ 5300001) (hln : ∀ j, j < n → ln j ≤ 1048576) (hM : MkM g n la ln lc lb Kx w) :
    Calls Tryd.prog 35 #[.slice (some ⟨g, 0, none⟩) n cap, .int .i64 (Kx 0 : Nat)] w fun e w' => e = .returned (.int .i64 (Kx n : Nat)) ∧ Below w.heap.size w w' := by
  have HT : Hid (∀ (z : Int) (K : Nat), z = K → 1 ≤ K → K < 100000000 → ∀ w, Calls Tryd.prog 52 #[.int .i64 z] w fun e w' => e = .returned (.string (mT K)) ∧ Below w.heap.size w w') := hid_intro (fun z K e h0 h w => by subst e; exact mark_any K h0 h w)
  have HKM := hid_intro hKM
  have HK := hid_intro hK
  have HLN := hid_intro hln
  have HM := hid_intro hM
  clear hKM hK hln hM
  go_enter Tryd.func35, Tryd.ntmps35
  go_wp2_with fail
  go_loopw [5, 1] (fun x z wr => ∃ (i : Nat), x = .int .i64 (i : Int) ∧ z = .int .i64 ((Kx i : Nat) : Int) ∧ i ≤ n ∧ Hid (Below w.heap.size w wr)) (fun x _ _ => n - (intOf x).toNat)
  case atStart => exact ⟨0, rfl, rfl, by omega, hid_intro (Below.refl _ _)⟩
  case round =>
    obtain ⟨i, rfl, rfl, hi, HB⟩ := hrel
    by_cases hin : i = n
    · subst hin
      go_wp2_with fail
      go_ret
      exact ⟨rfl, HB.out⟩
    · have h1 : (i : Int) < (n : Int) := by omega
      have hil : i < n := by omega
      obtain ⟨k0, k1⟩ := HK.out i (by omega)
      have k2 := (HK.out (i + 1) (by omega)).2
      have km := HKM.out i hil
      have hll := HLN.out i hil
      have HMW := hid_intro (HM.out.below HB.out)
      have hgl := HMW.out.1
      obtain ⟨⟨c0, c1, c2, c3, c4⟩, c5, hL⟩ := HMW.out.2 i hil
      have HT0 := hid_intro (fun w => HT.out ((Kx i : Nat) : Int) (Kx i) rfl (by omega) (by omega) w)
      have HLW : Hid (∀ W, Below wr.heap.size wr W → (ln i = 0 ∨ (la i = some ⟨lb i, 0, none⟩ ∧ TM (Kx i + 5) (ln i) (lb i) W))) := hid_intro (fun W hW => hL.imp id (fun ⟨e1, e2⟩ => ⟨e1, e2.below hW⟩))
      have HWK : Hid (wB (Kx i) = ((((Kx i : Nat) : Int) + 1 + 1) % 3 == 0)) := rfl
      clear hL HMW
      generalize wB (Kx i) = wb at *
      generalize Kx i = K at *
      have hw3 : (((K : Int) + 1 + 1) % 3 == 0) = wb := HWK.out.symm
      generalize mT K = T0 at *
      have HS2 : Hid (Below wr.heap.size wr wr ∧ BoxN w g (i * 6) T0 ((K : Int) + 1) wb ((K : Int) + 1 + 1 + 1) ((K : Int) + 1 + 1 + 1 + 1) (.slice (la i) (ln i) (lc i)) wr) := hid_intro ⟨Below.refl _ _, HB.out, hgl, c0, c1, c2, c3, c4, c5⟩
      have HS3 : Hid (Below wr.heap.size wr wr.drew ∧ BoxN w g (i * 6) T0 ((K : Int) + 1) wb ((K : Int) + 1 + 1 + 1) ((K : Int) + 1 + 1 + 1 + 1) (.slice (la i) (ln i) (lc i)) wr.drew) := hid_intro (bn_below HS2.out (Below.refl _ _).drew)
      go_wp2_with fail
      go_region_held3 (fun w' => Below wr.heap.size wr w' ∧ Below w.heap.size w w' ∧ g < w'.heap.size ∧ w'.cell? ⟨g, i * 6, none⟩ = some (.string T0) ∧ w'.cell? ⟨g, i * 6 + 1, none⟩ = some (.int .i64 ((K : Int) + 1)) ∧ w'.cell? ⟨g, i * 6 + 2, none⟩ = some (.bool wb) ∧ w'.cell? ⟨g, i * 6 + 3, none⟩ = some (.int .i64 ((K : Int) + 1 + 1 + 1)) ∧ w'.cell? ⟨g, i * 6 + 4, none⟩ = some (.int .i64 ((K : Int) + 1 + 1 + 1 + 1)) ∧ w'.cell? ⟨g, i * 6 + 5, none⟩ = some (.slice (la i) (ln i) (lc i))) (first | assumption | (exact HS2.out) | (exact HS3.out) | (exact bn_below (by assumption) hb))
        (first | (go_at_call 52; refine (HT0.out _).mono ?_; rintro e w' ⟨rfl, hb⟩))
      rename_i hS
      have HBW := hid_intro hS.1
      have HB2 := hid_intro hS.2.1
      have HLX := hid_intro (HLW.out _ hS.1)
      obtain ⟨_, _, gl2, d0, d1, d2, d3, d4, d5⟩ := hS
      clear HS2 HS3 c0 c1 c2 c3 c4 c5 hgl HLW
      by_cases h0 : ln i = 0
      · rw [h0] at d5
        have HMK := hid_intro (fun z W => tierH0 z (la i) (lc i) W)
        have hkk : ((Kx (i + 1) : Nat) : Int) = (K : Int) + 1 + 1 + 1 + 1 + 1 := by rw [km, h0]; omega
        have hkn : ¬ (K : Int) + 1 + 1 + 1 + 1 + 1 < 0 := by omega
        go_wp2_with fail
        refine (HMK.out _ _).mono ?_
        rintro e w4 ⟨rfl, hb⟩
        replace HB2 := hid_intro (HB2.out.trans (hb.mono HB2.out.size))
        clear hb
        go_wp2_with fail
        go_roundw
        case rel => exact ⟨i + 1, by go_num, by rw [hkk], by omega, HB2⟩
        case measure => simp [intOf]; omega
      · rcases HLX.out with q | ⟨e1, e2⟩
        · exact absurd q h0
        rw [e1] at d5
        have HMK := hid_intro (fun (z : Int) (hz : z = ((K + 5 : Nat) : Int)) => by subst hz; exact tierH (K + 5) (by omega) (by omega) (lb i) (ln i) (lc i) _ hll e2)
        have hkk : ((Kx (i + 1) : Nat) : Int) = ((K + 5 + 2 * ln i : Nat) : Int) := by rw [km]
        have hkn : ¬ ((K + 5 + 2 * ln i : Nat) : Int) < 0 := by omega
        clear e2 HLX
        go_wp2_with fail
        refine (HMK.out ((K : Int) + 1 + 1 + 1 + 1 + 1) (by push_cast; omega)).mono ?_
        rintro e w4 ⟨rfl, hb⟩
        replace HB2 := hid_intro (HB2.out.trans (hb.mono HB2.out.size))
        clear hb
        generalize ((K + 5 + 2 * ln i : Nat) : Int) = Z at *
        go_wp2_with fail
        go_roundw
        case rel => exact ⟨i + 1, by go_num, by rw [hkk], by omega, HB2⟩
        case measure => simp [intOf]; omega
end CatR
end Go.Proofs.YtgaihlhoegaliaaDoor
namespace Go.Proofs.YtgaihlhoegaliaaDoor
open Go.ChangeShapes Go.WideShapes Go.ChangeAt Go.RowKit
set_option linter.unusedVariables false
namespace MemoR
theorem memo0 {goal : Prop} (F : World → Prop) {G : World → Prop} (h1 : Hid (∀ W, F W → G W) → goal) (h2 : ∀ W, F W → G W) : goal := h1 h2
theorem memo1 {goal : Prop} (F : Nat → World → Prop) {G : Nat → World → Prop} (h1 : Hid (∀ x0 W, F x0 W → G x0 W) → goal) (h2 : ∀ x0 W, F x0 W → G x0 W) : goal := h1 h2
theorem memo2 {goal : Prop} (F : Nat → Nat → World → Prop) {G : Nat → Nat → World → Prop} (h1 : Hid (∀ x0 x1 W, F x0 x1 W → G x0 x1 W) → goal) (h2 : ∀ x0 x1 W, F x0 x1 W → G x0 x1 W) : goal := h1 h2
theorem memo3 {goal : Prop} (F : Nat → Nat → Nat → World → Prop) {G : Nat → Nat → Nat → World → Prop} (h1 : Hid (∀ x0 x1 x2 W, F x0 x1 x2 W → G x0 x1 x2 W) → goal) (h2 : ∀ x0 x1 x2 W, F x0 x1 x2 W → G x0 x1 x2 W) : goal := h1 h2
theorem memo4 {goal : Prop} (F : Nat → Nat → Nat → Nat → World → Prop) {G : Nat → Nat → Nat → Nat → World → Prop} (h1 : Hid (∀ x0 x1 x2 x3 W, F x0 x1 x2 x3 W → G x0 x1 x2 x3 W) → goal) (h2 : ∀ x0 x1 x2 x3 W, F x0 x1 x2 x3 W → G x0 x1 x2 x3 W) : goal := h1 h2
theorem memo5 {goal : Prop} (F : Nat → Nat → Nat → Nat → Nat → World → Prop) {G : Nat → Nat → Nat → Nat → Nat → World → Prop} (h1 : Hid (∀ x0 x1 x2 x3 x4 W, F x0 x1 x2 x3 x4 W → G x0 x1 x2 x3 x4 W) → goal) (h2 : ∀ x0 x1 x2 x3 x4 W, F x0 x1 x2 x3 x4 W → G x0 x1 x2 x3 x4 W) : goal := h1 h2
theorem memo6 {goal : Prop} (F : Nat → Nat → Nat → Nat → Nat → Nat → World → Prop) {G : Nat → Nat → Nat → Nat → Nat → Nat → World → Prop} (h1 : Hid (∀ x0 x1 x2 x3 x4 x5 W, F x0 x1 x2 x3 x4 x5 W → G x0 x1 x2 x3 x4 x5 W) → goal) (h2 : ∀ x0 x1 x2 x3 x4 x5 W, F x0 x1 x2 x3 x4 x5 W → G x0 x1 x2 x3 x4 x5 W) : goal := h1 h2
theorem memo7 {goal : Prop} (F : Nat → Nat → Nat → Nat → Nat → Nat → Nat → World → Prop) {G : Nat → Nat → Nat → Nat → Nat → Nat → Nat → World → Prop} (h1 : Hid (∀ x0 x1 x2 x3 x4 x5 x6 W, F x0 x1 x2 x3 x4 x5 x6 W → G x0 x1 x2 x3 x4 x5 x6 W) → goal) (h2 : ∀ x0 x1 x2 x3 x4 x5 x6 W, F x0 x1 x2 x3 x4 x5 x6 W → G x0 x1 x2 x3 x4 x5 x6 W) : goal := h1 h2
theorem memo8 {goal : Prop} (F : Nat → Nat → Nat → Nat → Nat → Nat → Nat → Nat → World → Prop) {G : Nat → Nat → Nat → Nat → Nat → Nat → Nat → Nat → World → Prop} (h1 : Hid (∀ x0 x1 x2 x3 x4 x5 x6 x7 W, F x0 x1 x2 x3 x4 x5 x6 x7 W → G x0 x1 x2 x3 x4 x5 x6 x7 W) → goal) (h2 : ∀ x0 x1 x2 x3 x4 x5 x6 x7 W, F x0 x1 x2 x3 x4 x5 x6 x7 W → G x0 x1 x2 x3 x4 x5 x6 x7 W) : goal := h1 h2
theorem memo9 {goal : Prop} (F : Nat → Nat → Nat → Nat → Nat → Nat → Nat → Nat → Nat → World → Prop) {G : Nat → Nat → Nat → Nat → Nat → Nat → Nat → Nat → Nat → World → Prop} (h1 : Hid (∀ x0 x1 x2 x3 x4 x5 x6 x7 x8 W, F x0 x1 x2 x3 x4 x5 x6 x7 x8 W → G x0 x1 x2 x3 x4 x5 x6 x7 x8 W) → goal) (h2 : ∀ x0 x1 x2 x3 x4 x5 x6 x7 x8 W, F x0 x1 x2 x3 x4 x5 x6 x7 x8 W → G x0 x1 x2 x3 x4 x5 x6 x7 x8 W) : goal := h1 h2
end MemoR
end Go.Proofs.YtgaihlhoegaliaaDoor
namespace Go.Proofs.YtgaihlhoegaliaaDoor
open Go.ChangeShapes Go.WideShapes Go.ChangeAt Go.RowKit
set_option linter.unusedVariables false
namespace CatR
open OwG
open RowG (MadeG Rws cellsAll hid_intro)
open EvtR (Pt After SAfter Reads gtrans)
open DocR (BlkW)
open MemoR
set_option maxRecDepth 100000 in
set_option maxHeartbeats 16000000 in
theorem ime_in (g : Nat) (s : ByteArray) (o0 o1 o2 o3 o4 o5 : Option Nat) (a : ByteArray) (ag fr le : Int) (wh : Bool) (F C : Nat) (PH : Nat → Option Nat) (LH : Nat → List Ti) (hh ss : Nat → Int) (w : World) (hA : After g s o0 w)
    (r1 : Reads 27 g s o0 o1 (.string a)) (r2 : Reads 28 g s o1 o2 (.int .i64 ag)) (rf : ∀ w, After g s o2 w → Calls Tryd.prog 25 #[.pointer (some ⟨g, 0, none⟩), .int .i64 1] w fun e w' => e = .returned (.int .i64 (F : Nat)) ∧ After g s o3 w' ∧ w.grownBy w' (some g)) (r3 : Reads 28 g s o3 o4 (.int .i64 fr)) (r4 : Reads 28 g s o4 o5 (.int .i64 le))
    (rc2 : ∀ w, After g s o5 w → Calls Tryd.prog 25 #[.pointer (some ⟨g, 0, none⟩), .int .i64 5] w fun e w' => e = .returned (.int .i64 (C : Nat)) ∧ After g s (PH 0) w' ∧ w.grownBy w' (some g))
    (rh : ∀ k, ∃ om, Reads 28 g s (PH k) om (.int .i64 (hh k)) ∧ Reads 28 g s om (PH (k + 1)) (.int .i64 (ss k)))
    (hF : (F = 0 ∧ wh = false) ∨ (F = 1 ∧ wh = true)) (hC : C ≤ 5) (hH0 : LH 0 = []) (hHM : ∀ k, LH (k + 1) = LH k ++ [⟨hh k, ss k⟩]) :
    Calls Tryd.prog 26 #[.pointer (some ⟨g, 0, none⟩)] w fun e w' => ∃ ta tc, e = .returned (.agg #[.string a, .int .i64 ag, .bool wh, .int .i64 fr, .int .i64 le, .slice ta C tc]) ∧ w'.ownsRow w.heap.size 57 2 (.slice ta C tc) C (cellsAll Ti.cells (LH C)) ∧ After g s (PH C) w' ∧ w.grownBy w' (some g) := by
  obtain ⟨j0, gi, gz0, gz1, gz2⟩ := info_parts infoTi
  have R1 := hid_intro r1
  have R2 := hid_intro r2
  have RF := hid_intro rf
  have R3 := hid_intro r3
  have R4 := hid_intro r4
  have RC2 := hid_intro rc2
  have RH := hid_intro rh
  have HH0 := hid_intro hH0
  have HHM := hid_intro hHM
  have hgw : g < w.heap.size := hA.lt
  obtain ⟨W0, hW0⟩ : ∃ W0, W0 = w.alloc (.cells #[.string ⟨#[]⟩, .int .i64 0, .bool false, .int .i64 0, .int .i64 0, .slice none 0 0] 38) := ⟨_, rfl⟩
  have HA : Hid (After g s o0 W0) := hid_intro (by rw [hW0]; exact hA.alloc _)
  have HG : Hid (w.grownBy W0 (some g)) := hid_intro (by rw [hW0]; exact World.grownBy_alloc w _ _)
  have HR : Hid (BlkW w.heap.size [.string ⟨#[]⟩, .int .i64 0, .bool false, .int .i64 0, .int .i64 0, .slice none 0 0] W0) := hid_intro (by rw [hW0]; exact BlkW.new w [.string ⟨#[]⟩, .int .i64 0, .bool false, .int .i64 0, .int .i64 0, .slice none 0 0] 38)
  have HW := hid_intro hW0
  clear r1 r2 rf r3 r4 rc2 rh hH0 hHM hA hW0
  have gsz3 : 0 < 2 := by omega
  rcases hF with ⟨rfl, rfl⟩ | ⟨rfl, rfl⟩
  · go_enter Tryd.func26, Tryd.ntmps26
    go_wp2_with fail
    rw [← HW.out]
    clear HW
    refine (R1.out _ HA.out).mono ?_
    rintro e q0 ⟨rfl, hA, hq⟩
    replace HA := hid_intro hA
    replace HG := hid_intro (gtrans HG.out hq)
    replace HR := hid_intro (blkW_grown HR.out hq (by simp; omega))
    clear hA hq
    go_wp2_with fail
    refine (R2.out _ HA.out).mono ?_
    rintro e q1 ⟨rfl, hA, hq⟩
    replace HA := hid_intro hA
    replace HG := hid_intro (gtrans HG.out hq)
    replace HR := hid_intro (blkW_grown HR.out hq (by simp; omega))
    clear hA hq
    go_wp2_with fail
    refine (RF.out _ HA.out).mono ?_
    rintro e q2 ⟨rfl, hA, hq⟩
    replace HA := hid_intro hA
    replace HG := hid_intro (gtrans HG.out hq)
    replace HR := hid_intro (blkW_grown HR.out hq (by simp; omega))
    clear hA hq
    go_wp2_with fail
    refine (R3.out _ HA.out).mono ?_
    rintro e q3 ⟨rfl, hA, hq⟩
    replace HA := hid_intro hA
    replace HG := hid_intro (gtrans HG.out hq)
    replace HR := hid_intro (blkW_grown HR.out hq (by simp; omega))
    clear hA hq
    go_wp2_with fail
    refine (R4.out _ HA.out).mono ?_
    rintro e q4 ⟨rfl, hA, hq⟩
    replace HA := hid_intro hA
    replace HG := hid_intro (gtrans HG.out hq)
    replace HR := hid_intro (blkW_grown HR.out hq (by simp; omega))
    clear hA hq
    obtain ⟨wA, hwA⟩ : ∃ z, z = q4.alloc (.cells #[.string a, .int .i64 ag, .bool false, .int .i64 fr, .int .i64 le, .slice none 0 0] 38) := ⟨_, rfl⟩
    have HV : Hid (BlkW q4.heap.size [.string a, .int .i64 ag, .bool false, .int .i64 fr, .int .i64 le, .slice none 0 0] wA) := hid_intro (by rw [hwA]; exact BlkW.new q4 [.string a, .int .i64 ag, .bool false, .int .i64 fr, .int .i64 le, .slice none 0 0] 38)
    have hlo : w.heap.size < q4.heap.size := HR.out.1.1
    replace HA : Hid (After g s o5 wA) := hid_intro (by rw [hwA]; exact HA.out.alloc _)
    replace HG : Hid (w.grownBy wA (some g)) := hid_intro (by rw [hwA]; exact galloc HG.out _)
    replace HR : Hid (BlkW w.heap.size [.string ⟨#[]⟩, .int .i64 0, .bool false, .int .i64 0, .int .i64 0, .slice none 0 0] wA) := hid_intro (by rw [hwA]; exact HR.out.below ((Below.refl _ _).alloc (Nat.le_refl _) _))
    have HW := hid_intro hwA
    obtain ⟨bV, hbV⟩ : ∃ z, z = q4.heap.size := ⟨_, rfl⟩
    rw [← hbV] at HV hlo
    have HBV := hid_intro hbV
    clear hwA hbV
    go_wp2_with fail
    rw [← HW.out, ← HBV.out]
    clear HW HBV
    refine (RC2.out _ HA.out).mono ?_
    rintro e wC ⟨rfl, hA, hq⟩
    replace HA := hid_intro hA
    replace HG := hid_intro (gtrans HG.out hq)
    replace HR := hid_intro (blkW_grown HR.out hq (by simp; omega))
    replace HV := hid_intro (blkW_grown HV.out hq (by simp; omega))
    clear hA hq
    go_wp2_with fail
    go_loopw [18] (fun z wr => ∃ (k : Nat) (ha : Option Addr) (hc : Nat), k ≤ C ∧ z = .int .i64 k ∧ Hid (After g s (PH k) wr) ∧ Hid (w.grownBy wr (some g)) ∧ Hid (BlkW w.heap.size [.string ⟨#[]⟩, .int .i64 0, .bool false, .int .i64 0, .int .i64 0, .slice none 0 0] wr) ∧ Hid (BlkW bV [.string a, .int .i64 ag, .bool false, .int .i64 fr, .int .i64 le, .slice ha k hc] wr) ∧ Hid (wr.ownsRow (bV + 1) 57 2 (.slice ha k hc) k (cellsAll Ti.cells (LH k)))) (fun z _ => C - (intOf z).toNat)
    case atStart => exact ⟨0, none, 0, by omega, rfl, HA, HG, HR, HV, hid_intro (by rw [HH0.out]; exact World.ownsRow_nil _ _ _ _)⟩
    case round =>
      clear HA HG HR HV
      obtain ⟨k, ha, hc, hk2, rfl, HA, HG, HR, HV, HO⟩ := hrel
      by_cases hlt3 : k < C
      · have hlt2 : (k : Int) < (C : Int) := by omega
        obtain ⟨om, rd1, rd2⟩ := RH.out k
        have RD1 := hid_intro rd1
        have RD2 := hid_intro rd2
        clear rd1 rd2
        have HLM := hid_intro (HHM.out k)
        generalize hh k = X at *
        generalize ss k = Y at *
        have sz1 : k + 1 ≤ maxLen := by unfold maxLen; omega
        have sz2 : (k + 1) * 16 ≤ 140737488355328 := by omega
        have hA0 := EvtR.After.below HA.out (Below.refl wr.heap.size wr).drew
        have hG0 := gtrans HG.out (EvtR.rgrown (Below.refl wr.heap.size wr).drew _)
        have hR0 := HR.out.below (Below.refl wr.heap.size wr).drew
        have hV0 := HV.out.below (Below.refl wr.heap.size wr).drew
        have hO0 := RowG.own_below HO.out (Below.refl wr.heap.size wr).drew
        have hbg : g < bV := by omega
        go_wp2_with fail
        refine wp_region_held_drew (S := (fun _ => True)) (by kernel_rfl) trivial (fun hHeld => ?_)
        generalize wr.drew = kd at *
        apply memo3 (fun bN sb sc W => (True) ∧ (After g s (PH (k + 1)) W) ∧ (w.grownBy W (some g)) ∧ (BlkW w.heap.size [.string ⟨#[]⟩, .int .i64 0, .bool false, .int .i64 0, .int .i64 0, .slice none 0 0] W) ∧ (BlkW bV [.string a, .int .i64 ag, .bool false, .int .i64 fr, .int .i64 le, .slice ha k hc] W) ∧ (W.ownsRow (bV + 1) 57 2 (.slice (some ⟨sb, 0, none⟩) (k + 1) sc) (k + 1) (cellsAll Ti.cells (LH (k + 1)))) ∧ True)
        intro N1_3_5_7_8
        apply memo1 (fun bN W => (True) ∧ (After g s (PH (k + 1)) W) ∧ (w.grownBy W (some g)) ∧ (BlkW w.heap.size [.string ⟨#[]⟩, .int .i64 0, .bool false, .int .i64 0, .int .i64 0, .slice none 0 0] W) ∧ (BlkW bV [.string a, .int .i64 ag, .bool false, .int .i64 fr, .int .i64 le, .slice ha k hc] W) ∧ (W.ownsRow (bV + 1) 57 2 (.slice ha k hc) k (cellsAll Ti.cells (LH k))) ∧ (∀ j u, ([.int .i64 X, .int .i64 Y] : List Value)[j]? = some u → W.cell? ((⟨bN, 0, none⟩ : Addr).add j) = some u) ∧ (bV < bN) ∧ True)
        intro N1_3_5_7
        apply memo0 (fun  W => (True) ∧ (After g s (PH (k + 1)) W) ∧ (w.grownBy W (some g)) ∧ (BlkW w.heap.size [.string ⟨#[]⟩, .int .i64 0, .bool false, .int .i64 0, .int .i64 0, .slice none 0 0] W) ∧ (BlkW bV [.string a, .int .i64 ag, .bool false, .int .i64 fr, .int .i64 le, .slice ha k hc] W) ∧ (W.ownsRow (bV + 1) 57 2 (.slice ha k hc) k (cellsAll Ti.cells (LH k))) ∧ True)
        intro N1_3_5
        apply memo1 (fun bN W => (True) ∧ (After g s (PH (k + 1)) W) ∧ (w.grownBy W (some g)) ∧ (BlkW w.heap.size [.string ⟨#[]⟩, .int .i64 0, .bool false, .int .i64 0, .int .i64 0, .slice none 0 0] W) ∧ (BlkW bV [.string a, .int .i64 ag, .bool false, .int .i64 fr, .int .i64 le, .slice ha k hc] W) ∧ (W.ownsRow (bV + 1) 57 2 (.slice ha k hc) k (cellsAll Ti.cells (LH k))) ∧ (∀ j u, ([.int .i64 X, .int .i64 Y] : List Value)[j]? = some u → W.cell? ((⟨bN, 0, none⟩ : Addr).add j) = some u) ∧ (bV < bN) ∧ True)
        intro N3_5_7
        apply memo0 (fun  W => (True) ∧ (After g s om W) ∧ (w.grownBy W (some g)) ∧ (BlkW w.heap.size [.string ⟨#[]⟩, .int .i64 0, .bool false, .int .i64 0, .int .i64 0, .slice none 0 0] W) ∧ (BlkW bV [.string a, .int .i64 ag, .bool false, .int .i64 fr, .int .i64 le, .slice ha k hc] W) ∧ (W.ownsRow (bV + 1) 57 2 (.slice ha k hc) k (cellsAll Ti.cells (LH k))) ∧ True)
        intro N1_3
        apply memo0 (fun  W => (True) ∧ (After g s (PH (k + 1)) W) ∧ (w.grownBy W (some g)) ∧ (BlkW w.heap.size [.string ⟨#[]⟩, .int .i64 0, .bool false, .int .i64 0, .int .i64 0, .slice none 0 0] W) ∧ (BlkW bV [.string a, .int .i64 ag, .bool false, .int .i64 fr, .int .i64 le, .slice ha k hc] W) ∧ (W.ownsRow (bV + 1) 57 2 (.slice ha k hc) k (cellsAll Ti.cells (LH k))) ∧ True)
        intro N3_5
        apply memo0 (fun  W => (True) ∧ (After g s (PH k) W) ∧ (w.grownBy W (some g)) ∧ (BlkW w.heap.size [.string ⟨#[]⟩, .int .i64 0, .bool false, .int .i64 0, .int .i64 0, .slice none 0 0] W) ∧ (BlkW bV [.string a, .int .i64 ag, .bool false, .int .i64 fr, .int .i64 le, .slice ha k hc] W) ∧ (W.ownsRow (bV + 1) 57 2 (.slice ha k hc) k (cellsAll Ti.cells (LH k))) ∧ True)
        intro N1
        apply memo0 (fun  W => (True) ∧ (After g s om W) ∧ (w.grownBy W (some g)) ∧ (BlkW w.heap.size [.string ⟨#[]⟩, .int .i64 0, .bool false, .int .i64 0, .int .i64 0, .slice none 0 0] W) ∧ (BlkW bV [.string a, .int .i64 ag, .bool false, .int .i64 fr, .int .i64 le, .slice ha k hc] W) ∧ (W.ownsRow (bV + 1) 57 2 (.slice ha k hc) k (cellsAll Ti.cells (LH k))) ∧ True)
        intro N3
        · refine wpAnyH_take (i := 0) (oi := { dst := some 20, op := Op.fieldAddr 38 (Operand.tmp 3) 5, type := 0, pos := "l05_catalog.go:175", after := #[], guard := none }) (v := ?_) rfl (by kernel_rfl) (by kernel_rfl) (by kernel_rfl) (fun _ _ _ h => h) (Or.inl ⟨by rfl, ?_⟩) (by assumption) ?_
          rotate_left
          · (intro w hSw; (try dsimp only at hSw); go_simp) <;> with_reducible rfl
          try simp only [Act.put, List.setIfInBounds_toArray, List.set_cons_zero, List.set_cons_succ]
          refine wpAnyH_take (i := 2) (oi := { dst := some 22, op := Op.move (Operand.tmp 0), type := 45, pos := "l05_catalog.go:175", after := #[], guard := none }) (v := ?_) rfl (by kernel_rfl) (by kernel_rfl) (by kernel_rfl) (fun _ _ _ h => h) (Or.inl ⟨by rfl, ?_⟩) (by assumption) ?_
          rotate_left
          · (intro w hSw; (try dsimp only at hSw); go_simp) <;> with_reducible rfl
          try simp only [Act.put, List.setIfInBounds_toArray, List.set_cons_zero, List.set_cons_succ]
          refine wpAnyH_take (i := 4) (oi := { dst := some 24, op := Op.move (Operand.tmp 0), type := 45, pos := "l05_catalog.go:175", after := #[], guard := none }) (v := ?_) rfl (by kernel_rfl) (by kernel_rfl) (by kernel_rfl) (fun _ _ _ h => h) (Or.inl ⟨by rfl, ?_⟩) (by assumption) ?_
          rotate_left
          · (intro w hSw; (try dsimp only at hSw); go_simp) <;> with_reducible rfl
          try simp only [Act.put, List.setIfInBounds_toArray, List.set_cons_zero, List.set_cons_succ]
          refine wpAnyH_ready (rs := [1, 3]) (by kernel_rfl) (by simp) ?_
          refine AllReadyH.cons (o := { dst := some 21, op := Op.load 36 (Operand.tmp 20), type := 36, pos := "l05_catalog.go:175", after := #[{ on := 0, ground := Ground.data }], guard := none }) rfl (fun K hK => ?_) (AllReadyH.cons (o := { dst := some 23, op := Op.call { callee := Callee.value (Operand.func 28), args := #[Operand.tmp 22], argTypes := #[45] }, type := 2, pos := "l05_catalog.go:175", after := #[{ on := 2, ground := Ground.data }], guard := none }) rfl (fun K hK => ?_) AllReadyH.nil)
          · have c6 := hV0.1.2 5 (by simp)
            have l6 := hV0.1.1
            simp only [List.getElem?_cons_zero, List.getElem?_cons_succ] at c6
            go_simp
            try go_wp2_with fail
            refine hK.out _ _ trivial (fun _ => ?_)
            clear hK K
            try simp only [Act.put, List.setIfInBounds_toArray, List.set_cons_zero, List.set_cons_succ]
            clear c6 l6
            exact N1.out  kd ⟨trivial, hA0, hG0, hR0, hV0, hO0, trivial⟩
          · go_simp
            go_at_call 28
            refine (RD1.out _ hA0).mono ?_
            rintro e q1 ⟨rfl, hA1, hq1⟩
            try go_wp2_with fail
            have hG1 := gtrans hG0 hq1
            have hR1 := blkW_grown hR0 hq1 (by simp; omega)
            have hV1 := blkW_grown hV0 hq1 (by simp; omega)
            have hO1 := own_keepG hO0 hq1 (by omega)
            refine hK.out _ _ trivial (fun _ => ?_)
            clear hK K
            try simp only [Act.put, List.setIfInBounds_toArray, List.set_cons_zero, List.set_cons_succ]
            exact N3.out  q1 ⟨trivial, hA1, hG1, hR1, hV1, hO1, trivial⟩
        · rintro  W ⟨hTr, hA0, hG0, hR0, hV0, hO0, _⟩
          refine wpAnyH_ready (rs := [1, 5]) (by kernel_rfl) (by simp) ?_
          refine AllReadyH.cons (o := { dst := some 21, op := Op.load 36 (Operand.tmp 20), type := 36, pos := "l05_catalog.go:175", after := #[{ on := 0, ground := Ground.data }], guard := none }) rfl (fun K hK => ?_) (AllReadyH.cons (o := { dst := some 25, op := Op.call { callee := Callee.value (Operand.func 28), args := #[Operand.tmp 24], argTypes := #[45] }, type := 2, pos := "l05_catalog.go:175", after := #[{ on := 4, ground := Ground.data }, { on := 3, ground := Ground.chain }], guard := none }) rfl (fun K hK => ?_) AllReadyH.nil)
          · have c6 := hV0.1.2 5 (by simp)
            have l6 := hV0.1.1
            simp only [List.getElem?_cons_zero, List.getElem?_cons_succ] at c6
            go_simp
            try go_wp2_with fail
            refine hK.out _ _ trivial (fun _ => ?_)
            clear hK K
            try simp only [Act.put, List.setIfInBounds_toArray, List.set_cons_zero, List.set_cons_succ]
            clear c6 l6
            exact N1_3.out  W ⟨trivial, hA0, hG0, hR0, hV0, hO0, trivial⟩
          · go_simp
            go_at_call 28
            refine (RD2.out _ hA0).mono ?_
            rintro e q1 ⟨rfl, hA1, hq1⟩
            try go_wp2_with fail
            have hG1 := gtrans hG0 hq1
            have hR1 := blkW_grown hR0 hq1 (by simp; omega)
            have hV1 := blkW_grown hV0 hq1 (by simp; omega)
            have hO1 := own_keepG hO0 hq1 (by omega)
            refine hK.out _ _ trivial (fun _ => ?_)
            clear hK K
            try simp only [Act.put, List.setIfInBounds_toArray, List.set_cons_zero, List.set_cons_succ]
            refine wpAnyH_take (i := 6) (oi := { dst := some 26, op := Op.build 57 #[(0, Operand.tmp 23), (1, Operand.tmp 25)], type := 57, pos := "l05_catalog.go:175", after := #[{ on := 3, ground := Ground.data }, { on := 5, ground := Ground.data }], guard := none }) (v := ?_) rfl (by kernel_rfl) (by kernel_rfl) (by kernel_rfl) (fun _ _ _ h => h) (Or.inl ⟨by rfl, ?_⟩) (by assumption) ?_
            rotate_left
            · (intro w hSw; (try dsimp only at hSw); go_simp) <;> with_reducible rfl
            try simp only [Act.put, List.setIfInBounds_toArray, List.set_cons_zero, List.set_cons_succ]
            exact N3_5.out  q1 ⟨trivial, hA1, hG1, hR1, hV1, hO1, trivial⟩
        · rintro  W ⟨hTr, hA0, hG0, hR0, hV0, hO0, _⟩
          refine wpAnyH_ready (rs := [3]) (by kernel_rfl) (by simp) ?_
          refine AllReadyH.cons (o := { dst := some 23, op := Op.call { callee := Callee.value (Operand.func 28), args := #[Operand.tmp 22], argTypes := #[45] }, type := 2, pos := "l05_catalog.go:175", after := #[{ on := 2, ground := Ground.data }], guard := none }) rfl (fun K hK => ?_) AllReadyH.nil
          go_simp
          go_at_call 28
          refine (RD1.out _ hA0).mono ?_
          rintro e q1 ⟨rfl, hA1, hq1⟩
          try go_wp2_with fail
          have hG1 := gtrans hG0 hq1
          have hR1 := blkW_grown hR0 hq1 (by simp; omega)
          have hV1 := blkW_grown hV0 hq1 (by simp; omega)
          have hO1 := own_keepG hO0 hq1 (by omega)
          refine hK.out _ _ trivial (fun _ => ?_)
          clear hK K
          try simp only [Act.put, List.setIfInBounds_toArray, List.set_cons_zero, List.set_cons_succ]
          exact N1_3.out  q1 ⟨trivial, hA1, hG1, hR1, hV1, hO1, trivial⟩
        · rintro  W ⟨hTr, hA0, hG0, hR0, hV0, hO0, _⟩
          refine wpAnyH_ready (rs := [1, 7]) (by kernel_rfl) (by simp) ?_
          refine AllReadyH.cons (o := { dst := some 21, op := Op.load 36 (Operand.tmp 20), type := 36, pos := "l05_catalog.go:175", after := #[{ on := 0, ground := Ground.data }], guard := none }) rfl (fun K hK => ?_) (AllReadyH.cons (o := { dst := some 27, op := Op.buildSlice 36 1 #[(0, Operand.tmp 26)], type := 36, pos := "l05_catalog.go:175", after := #[{ on := 6, ground := Ground.data }], guard := none }) rfl (fun K hK => ?_) AllReadyH.nil)
          · have c6 := hV0.1.2 5 (by simp)
            have l6 := hV0.1.1
            simp only [List.getElem?_cons_zero, List.getElem?_cons_succ] at c6
            go_simp
            try go_wp2_with fail
            refine hK.out _ _ trivial (fun _ => ?_)
            clear hK K
            try simp only [Act.put, List.setIfInBounds_toArray, List.set_cons_zero, List.set_cons_succ]
            clear c6 l6
            exact N1_3_5.out  W ⟨trivial, hA0, hG0, hR0, hV0, hO0, trivial⟩
          · go_simp
            try go_wp2_with fail
            have hA1 := hA0.alloc (Obj.cells #[.int .i64 X, .int .i64 Y] 57)
            have hG1 := galloc hG0 (Obj.cells #[.int .i64 X, .int .i64 Y] 57)
            have hR1 := hR0.below ((Below.refl W.heap.size W).alloc (Nat.le_refl _) (Obj.cells #[.int .i64 X, .int .i64 Y] 57))
            have hV1 := hV0.below ((Below.refl W.heap.size W).alloc (Nat.le_refl _) (Obj.cells #[.int .i64 X, .int .i64 Y] 57))
            have hO1 := RowG.own_below hO0 ((Below.refl W.heap.size W).alloc (Nat.le_refl _) (Obj.cells #[.int .i64 X, .int .i64 Y] 57))
            have hnw : ∀ j u, ([.int .i64 X, .int .i64 Y] : List Value)[j]? = some u → (W.alloc (Obj.cells #[.int .i64 X, .int .i64 Y] 57)).cell? ((⟨W.heap.size, 0, none⟩ : Addr).add j) = some u := new_cells W [.int .i64 X, .int .i64 Y] 57
            have hlb : bV < W.heap.size := hV0.1.1
            refine hK.out _ _ trivial (fun _ => ?_)
            clear hK K
            try simp only [Act.put, List.setIfInBounds_toArray, List.set_cons_zero, List.set_cons_succ]
            obtain ⟨bN, hbN⟩ : ∃ z, z = W.heap.size := ⟨_, rfl⟩
            rw [← hbN] at hnw hlb ⊢
            obtain ⟨k1, hk1⟩ : ∃ z, z = W.alloc (Obj.cells #[.int .i64 X, .int .i64 Y] 57) := ⟨_, rfl⟩
            rw [← hk1] at hnw hA1 hG1 hR1 hV1 hO1 ⊢
            exact N3_5_7.out bN k1 ⟨trivial, hA1, hG1, hR1, hV1, hO1, hnw, hlb, trivial⟩
        · rintro  W ⟨hTr, hA0, hG0, hR0, hV0, hO0, _⟩
          refine wpAnyH_ready (rs := [5]) (by kernel_rfl) (by simp) ?_
          refine AllReadyH.cons (o := { dst := some 25, op := Op.call { callee := Callee.value (Operand.func 28), args := #[Operand.tmp 24], argTypes := #[45] }, type := 2, pos := "l05_catalog.go:175", after := #[{ on := 4, ground := Ground.data }, { on := 3, ground := Ground.chain }], guard := none }) rfl (fun K hK => ?_) AllReadyH.nil
          go_simp
          go_at_call 28
          refine (RD2.out _ hA0).mono ?_
          rintro e q1 ⟨rfl, hA1, hq1⟩
          try go_wp2_with fail
          have hG1 := gtrans hG0 hq1
          have hR1 := blkW_grown hR0 hq1 (by simp; omega)
          have hV1 := blkW_grown hV0 hq1 (by simp; omega)
          have hO1 := own_keepG hO0 hq1 (by omega)
          refine hK.out _ _ trivial (fun _ => ?_)
          clear hK K
          try simp only [Act.put, List.setIfInBounds_toArray, List.set_cons_zero, List.set_cons_succ]
          refine wpAnyH_take (i := 6) (oi := { dst := some 26, op := Op.build 57 #[(0, Operand.tmp 23), (1, Operand.tmp 25)], type := 57, pos := "l05_catalog.go:175", after := #[{ on := 3, ground := Ground.data }, { on := 5, ground := Ground.data }], guard := none }) (v := ?_) rfl (by kernel_rfl) (by kernel_rfl) (by kernel_rfl) (fun _ _ _ h => h) (Or.inl ⟨by rfl, ?_⟩) (by assumption) ?_
          rotate_left
          · (intro w hSw; (try dsimp only at hSw); go_simp) <;> with_reducible rfl
          try simp only [Act.put, List.setIfInBounds_toArray, List.set_cons_zero, List.set_cons_succ]
          exact N1_3_5.out  q1 ⟨trivial, hA1, hG1, hR1, hV1, hO1, trivial⟩
        · rintro bN W ⟨hTr, hA0, hG0, hR0, hV0, hO0, hnw, hlb, _⟩
          refine wpAnyH_ready (rs := [1]) (by kernel_rfl) (by simp) ?_
          refine AllReadyH.cons (o := { dst := some 21, op := Op.load 36 (Operand.tmp 20), type := 36, pos := "l05_catalog.go:175", after := #[{ on := 0, ground := Ground.data }], guard := none }) rfl (fun K hK => ?_) AllReadyH.nil
          have c6 := hV0.1.2 5 (by simp)
          have l6 := hV0.1.1
          simp only [List.getElem?_cons_zero, List.getElem?_cons_succ] at c6
          go_simp
          try go_wp2_with fail
          refine hK.out _ _ trivial (fun _ => ?_)
          clear hK K
          try simp only [Act.put, List.setIfInBounds_toArray, List.set_cons_zero, List.set_cons_succ]
          clear c6 l6
          exact N1_3_5_7.out bN W ⟨trivial, hA0, hG0, hR0, hV0, hO0, hnw, hlb, trivial⟩
        · rintro  W ⟨hTr, hA0, hG0, hR0, hV0, hO0, _⟩
          refine wpAnyH_ready (rs := [7]) (by kernel_rfl) (by simp) ?_
          refine AllReadyH.cons (o := { dst := some 27, op := Op.buildSlice 36 1 #[(0, Operand.tmp 26)], type := 36, pos := "l05_catalog.go:175", after := #[{ on := 6, ground := Ground.data }], guard := none }) rfl (fun K hK => ?_) AllReadyH.nil
          go_simp
          try go_wp2_with fail
          have hA1 := hA0.alloc (Obj.cells #[.int .i64 X, .int .i64 Y] 57)
          have hG1 := galloc hG0 (Obj.cells #[.int .i64 X, .int .i64 Y] 57)
          have hR1 := hR0.below ((Below.refl W.heap.size W).alloc (Nat.le_refl _) (Obj.cells #[.int .i64 X, .int .i64 Y] 57))
          have hV1 := hV0.below ((Below.refl W.heap.size W).alloc (Nat.le_refl _) (Obj.cells #[.int .i64 X, .int .i64 Y] 57))
          have hO1 := RowG.own_below hO0 ((Below.refl W.heap.size W).alloc (Nat.le_refl _) (Obj.cells #[.int .i64 X, .int .i64 Y] 57))
          have hnw : ∀ j u, ([.int .i64 X, .int .i64 Y] : List Value)[j]? = some u → (W.alloc (Obj.cells #[.int .i64 X, .int .i64 Y] 57)).cell? ((⟨W.heap.size, 0, none⟩ : Addr).add j) = some u := new_cells W [.int .i64 X, .int .i64 Y] 57
          have hlb : bV < W.heap.size := hV0.1.1
          refine hK.out _ _ trivial (fun _ => ?_)
          clear hK K
          try simp only [Act.put, List.setIfInBounds_toArray, List.set_cons_zero, List.set_cons_succ]
          obtain ⟨bN, hbN⟩ : ∃ z, z = W.heap.size := ⟨_, rfl⟩
          rw [← hbN] at hnw hlb ⊢
          obtain ⟨k1, hk1⟩ : ∃ z, z = W.alloc (Obj.cells #[.int .i64 X, .int .i64 Y] 57) := ⟨_, rfl⟩
          rw [← hk1] at hnw hA1 hG1 hR1 hV1 hO1 ⊢
          exact N1_3_5_7.out bN k1 ⟨trivial, hA1, hG1, hR1, hV1, hO1, hnw, hlb, trivial⟩
        · rintro bN W ⟨hTr, hA0, hG0, hR0, hV0, hO0, hnw, hlb, _⟩
          refine wpAnyH_ready (rs := [8]) (by kernel_rfl) (by simp) ?_
          refine AllReadyH.cons (o := { dst := some 28, op := Op.call { callee := Callee.builtin Builtin.append, args := #[Operand.tmp 21, Operand.tmp 27], argTypes := #[36, 36] }, type := 36, pos := "l05_catalog.go:175", after := #[{ on := 1, ground := Ground.data }, { on := 7, ground := Ground.data }, { on := 5, ground := Ground.chain }], guard := none }) rfl (fun K hK => ?_) AllReadyH.nil
          refine DocR.step_append_own rfl _ _ 36 rfl (bV + 1) 57 j0 (.agg #[.int .i64 0, .int .i64 0]) 2 16 Tryd.underlying36 gi gz0 gz1 gz2 rfl gsz3 _ _ _ rfl hO0 ⟨bN, 0, none⟩ 1 1 [.int .i64 X, .int .i64 Y] rfl rfl hnw (ti_one X Y) sz1 sz2 (hV0.1.1) ?_
          intro v9 w9 hown hgrow hne
          have hA1 := after_grown hA0 hgrow (fun e => by have := (hO0.lt _ e.symm).1; omega)
          have hG1 := gnewR hG0 hgrow (fun X e => by have := (hO0.lt _ e).1; omega)
          have hR1 := blkW_grown hR0 hgrow (fun e => by have := (hO0.lt _ e.symm).1; omega)
          have hV1 := blkW_grown hV0 hgrow (fun e => by have := (hO0.lt _ e.symm).1; omega)
          have hO1 : w9.ownsRow (bV + 1) 57 2 v9 (k + 1) (cellsAll Ti.cells (LH (k + 1))) := by rw [HLM.out, cellsAll_snoc]; exact hown
          obtain ⟨sb, sc, rfl⟩ := own_form hO1
          clear hown hgrow hne hnw
          refine hK.out _ _ trivial (fun _ => ?_)
          clear hK K
          try simp only [Act.put, List.setIfInBounds_toArray, List.set_cons_zero, List.set_cons_succ]
          refine wpAnyH_take (i := 9) (oi := { dst := some 29, op := Op.fieldAddr 38 (Operand.tmp 3) 5, type := 0, pos := "l05_catalog.go:175", after := #[{ on := 0, ground := Ground.phase }, { on := 1, ground := Ground.phase }, { on := 2, ground := Ground.phase }, { on := 3, ground := Ground.phase }, { on := 4, ground := Ground.phase }, { on := 5, ground := Ground.phase }, { on := 6, ground := Ground.phase }, { on := 7, ground := Ground.phase }, { on := 8, ground := Ground.phase }], guard := none }) (v := ?_) rfl (by kernel_rfl) (by kernel_rfl) (by kernel_rfl) (fun _ _ _ h => h) (Or.inl ⟨by rfl, ?_⟩) (by assumption) ?_
          rotate_left
          · (intro w hSw; (try dsimp only at hSw); go_simp) <;> with_reducible rfl
          try simp only [Act.put, List.setIfInBounds_toArray, List.set_cons_zero, List.set_cons_succ]
          exact N1_3_5_7_8.out bN sb sc w9 ⟨trivial, hA1, hG1, hR1, hV1, hO1, trivial⟩
        · rintro bN sb sc W ⟨hTr, hA0, hG0, hR0, hV0, hO0, _⟩
          refine wpAnyH_ready (rs := [10]) (by kernel_rfl) (by simp) ?_
          refine AllReadyH.cons (o := { dst := none, op := Op.store 36 (Operand.tmp 29) (Operand.tmp 28), type := 0, pos := "l05_catalog.go:175", after := #[{ on := 9, ground := Ground.data }, { on := 8, ground := Ground.data }, { on := 8, ground := Ground.chain }, { on := 0, ground := Ground.phase }, { on := 1, ground := Ground.phase }, { on := 2, ground := Ground.phase }, { on := 3, ground := Ground.phase }, { on := 4, ground := Ground.phase }, { on := 5, ground := Ground.phase }, { on := 6, ground := Ground.phase }, { on := 7, ground := Ground.phase }, { on := 8, ground := Ground.phase }], guard := none }) rfl (fun K hK => ?_) AllReadyH.nil
          have c6 := hV0.1.2 5 (by simp)
          have l6 := hV0.1.1
          have f6 := hV0.2 5 (by simp)
          simp only [List.getElem?_cons_zero, List.getElem?_cons_succ] at c6
          go_simp
          try go_wp2_with fail
          have hg := RowG.grown_set W bV 5 (.slice (some ⟨sb, 0, none⟩) (k + 1) sc)
          have hA9 := after_grown hA0 hg (by simp; omega)
          have hG9 := gnewG hG0 hg (by omega)
          have hR9 := blkW_grown hR0 hg (by simp; omega)
          have hV9 := hV0.set 5 (.slice (some ⟨sb, 0, none⟩) (k + 1) sc) (by simp)
          have hO9 := own_keepG hO0 hg (by omega)
          simp only [List.set_cons_zero, List.set_cons_succ] at hV9
          refine hK.out _ _ trivial (fun _ => ?_)
          clear hK K
          try simp only [Act.put, List.setIfInBounds_toArray, List.set_cons_zero, List.set_cons_succ]
          generalize (W.setCell ⟨bV, 5, none⟩ (.slice (some ⟨sb, 0, none⟩) (k + 1) sc)) = kk at *
          refine wpAnyH_done (by kernel_rfl) ?_ _
          have HA9 := hid_intro hA9
          have HG9 := hid_intro hG9
          have HR9 := hid_intro hR9
          have HV9 := hid_intro hV9
          have HO9 := hid_intro hO9
          clear hA9 hG9 hR9 hV9 hO9 hg c6 l6 f6
          go_wp2_with fail
          go_roundw
          case rel => exact ⟨k + 1, some ⟨sb, 0, none⟩, sc, by omega, by go_num, HA9, HG9, HR9, HV9, HO9⟩
          case measure => simp [intOf]; omega
      · have hlt2 : ¬ (k : Int) < (C : Int) := by omega
        obtain rfl : k = C := by omega
        obtain ⟨⟨vl, vk⟩, _⟩ := HV.out
        have v0 : wr.cell? ⟨bV, 0, none⟩ = some (.string a) := vk 0 (by simp)
        have v1 : wr.cell? ⟨bV, 1, none⟩ = some (.int .i64 ag) := vk 1 (by simp)
        have v2 : wr.cell? ⟨bV, 2, none⟩ = some (.bool false) := vk 2 (by simp)
        have v3 : wr.cell? ⟨bV, 3, none⟩ = some (.int .i64 fr) := vk 3 (by simp)
        have v4 : wr.cell? ⟨bV, 4, none⟩ = some (.int .i64 le) := vk 4 (by simp)
        have v5 : wr.cell? ⟨bV, 5, none⟩ = some (.slice ha k hc) := vk 5 (by simp)
        obtain ⟨⟨rl, rk⟩, rf⟩ := HR.out
        have p0 : wr.cell? ⟨w.heap.size, 0, none⟩ = some (.string ⟨#[]⟩) := rk 0 (by simp)
        have f0 : wr.frozen? ⟨w.heap.size, 0, none⟩ = false := rf 0 (by simp)
        have p1 : wr.cell? ⟨w.heap.size, 1, none⟩ = some (.int .i64 0) := rk 1 (by simp)
        have f1 : wr.frozen? ⟨w.heap.size, 1, none⟩ = false := rf 1 (by simp)
        have p2 : wr.cell? ⟨w.heap.size, 2, none⟩ = some (.bool false) := rk 2 (by simp)
        have f2 : wr.frozen? ⟨w.heap.size, 2, none⟩ = false := rf 2 (by simp)
        have p3 : wr.cell? ⟨w.heap.size, 3, none⟩ = some (.int .i64 0) := rk 3 (by simp)
        have f3 : wr.frozen? ⟨w.heap.size, 3, none⟩ = false := rf 3 (by simp)
        have p4 : wr.cell? ⟨w.heap.size, 4, none⟩ = some (.int .i64 0) := rk 4 (by simp)
        have f4 : wr.frozen? ⟨w.heap.size, 4, none⟩ = false := rf 4 (by simp)
        have p5 : wr.cell? ⟨w.heap.size, 5, none⟩ = some (.slice none 0 0) := rk 5 (by simp)
        have f5 : wr.frozen? ⟨w.heap.size, 5, none⟩ = false := rf 5 (by simp)
        have hg := StR.stL_grown w.heap.size [.string a, .int .i64 ag, .bool false, .int .i64 fr, .int .i64 le, .slice ha k hc] 0 wr
        have HA9 := hid_intro (after_grown HA.out hg (by simp; omega))
        have HG9 := hid_intro (gnewG HG.out hg (Nat.le_refl _))
        have HO9 := hid_intro (own_keepG HO.out hg (by omega))
        simp only [StR.stL, Nat.zero_add, Nat.reduceAdd] at HA9 HG9 HO9
        clear vk rk rf hg HA HG HR HV HO
        go_wp2_with fail
        refine bodyPost_ret (v := .agg #[.string a, .int .i64 ag, .bool false, .int .i64 fr, .int .i64 le, .slice ha k hc]) (by simp [results, Tryd.results26, go_sem, p0, p1, p2, p3, p4, p5]) rfl ⟨_, _, rfl, own_low HO9.out (by omega), HA9.out, HG9.out⟩
  · go_enter Tryd.func26, Tryd.ntmps26
    go_wp2_with fail
    rw [← HW.out]
    clear HW
    refine (R1.out _ HA.out).mono ?_
    rintro e q0 ⟨rfl, hA, hq⟩
    replace HA := hid_intro hA
    replace HG := hid_intro (gtrans HG.out hq)
    replace HR := hid_intro (blkW_grown HR.out hq (by simp; omega))
    clear hA hq
    go_wp2_with fail
    refine (R2.out _ HA.out).mono ?_
    rintro e q1 ⟨rfl, hA, hq⟩
    replace HA := hid_intro hA
    replace HG := hid_intro (gtrans HG.out hq)
    replace HR := hid_intro (blkW_grown HR.out hq (by simp; omega))
    clear hA hq
    go_wp2_with fail
    refine (RF.out _ HA.out).mono ?_
    rintro e q2 ⟨rfl, hA, hq⟩
    replace HA := hid_intro hA
    replace HG := hid_intro (gtrans HG.out hq)
    replace HR := hid_intro (blkW_grown HR.out hq (by simp; omega))
    clear hA hq
    go_wp2_with fail
    refine (R3.out _ HA.out).mono ?_
    rintro e q3 ⟨rfl, hA, hq⟩
    replace HA := hid_intro hA
    replace HG := hid_intro (gtrans HG.out hq)
    replace HR := hid_intro (blkW_grown HR.out hq (by simp; omega))
    clear hA hq
    go_wp2_with fail
    refine (R4.out _ HA.out).mono ?_
    rintro e q4 ⟨rfl, hA, hq⟩
    replace HA := hid_intro hA
    replace HG := hid_intro (gtrans HG.out hq)
    replace HR := hid_intro (blkW_grown HR.out hq (by simp; omega))
    clear hA hq
    obtain ⟨wA, hwA⟩ : ∃ z, z = q4.alloc (.cells #[.string a, .int .i64 ag, .bool true, .int .i64 fr, .int .i64 le, .slice none 0 0] 38) := ⟨_, rfl⟩
    have HV : Hid (BlkW q4.heap.size [.string a, .int .i64 ag, .bool true, .int .i64 fr, .int .i64 le, .slice none 0 0] wA) := hid_intro (by rw [hwA]; exact BlkW.new q4 [.string a, .int .i64 ag, .bool true, .int .i64 fr, .int .i64 le, .slice none 0 0] 38)
    have hlo : w.heap.size < q4.heap.size := HR.out.1.1
    replace HA : Hid (After g s o5 wA) := hid_intro (by rw [hwA]; exact HA.out.alloc _)
    replace HG : Hid (w.grownBy wA (some g)) := hid_intro (by rw [hwA]; exact galloc HG.out _)
    replace HR : Hid (BlkW w.heap.size [.string ⟨#[]⟩, .int .i64 0, .bool false, .int .i64 0, .int .i64 0, .slice none 0 0] wA) := hid_intro (by rw [hwA]; exact HR.out.below ((Below.refl _ _).alloc (Nat.le_refl _) _))
    have HW := hid_intro hwA
    obtain ⟨bV, hbV⟩ : ∃ z, z = q4.heap.size := ⟨_, rfl⟩
    rw [← hbV] at HV hlo
    have HBV := hid_intro hbV
    clear hwA hbV
    go_wp2_with fail
    rw [← HW.out, ← HBV.out]
    clear HW HBV
    refine (RC2.out _ HA.out).mono ?_
    rintro e wC ⟨rfl, hA, hq⟩
    replace HA := hid_intro hA
    replace HG := hid_intro (gtrans HG.out hq)
    replace HR := hid_intro (blkW_grown HR.out hq (by simp; omega))
    replace HV := hid_intro (blkW_grown HV.out hq (by simp; omega))
    clear hA hq
    go_wp2_with fail
    go_loopw [18] (fun z wr => ∃ (k : Nat) (ha : Option Addr) (hc : Nat), k ≤ C ∧ z = .int .i64 k ∧ Hid (After g s (PH k) wr) ∧ Hid (w.grownBy wr (some g)) ∧ Hid (BlkW w.heap.size [.string ⟨#[]⟩, .int .i64 0, .bool false, .int .i64 0, .int .i64 0, .slice none 0 0] wr) ∧ Hid (BlkW bV [.string a, .int .i64 ag, .bool true, .int .i64 fr, .int .i64 le, .slice ha k hc] wr) ∧ Hid (wr.ownsRow (bV + 1) 57 2 (.slice ha k hc) k (cellsAll Ti.cells (LH k)))) (fun z _ => C - (intOf z).toNat)
    case atStart => exact ⟨0, none, 0, by omega, rfl, HA, HG, HR, HV, hid_intro (by rw [HH0.out]; exact World.ownsRow_nil _ _ _ _)⟩
    case round =>
      clear HA HG HR HV
      obtain ⟨k, ha, hc, hk2, rfl, HA, HG, HR, HV, HO⟩ := hrel
      by_cases hlt3 : k < C
      · have hlt2 : (k : Int) < (C : Int) := by omega
        obtain ⟨om, rd1, rd2⟩ := RH.out k
        have RD1 := hid_intro rd1
        have RD2 := hid_intro rd2
        clear rd1 rd2
        have HLM := hid_intro (HHM.out k)
        generalize hh k = X at *
        generalize ss k = Y at *
        have sz1 : k + 1 ≤ maxLen := by unfold maxLen; omega
        have sz2 : (k + 1) * 16 ≤ 140737488355328 := by omega
        have hA0 := EvtR.After.below HA.out (Below.refl wr.heap.size wr).drew
        have hG0 := gtrans HG.out (EvtR.rgrown (Below.refl wr.heap.size wr).drew _)
        have hR0 := HR.out.below (Below.refl wr.heap.size wr).drew
        have hV0 := HV.out.below (Below.refl wr.heap.size wr).drew
        have hO0 := RowG.own_below HO.out (Below.refl wr.heap.size wr).drew
        have hbg : g < bV := by omega
        go_wp2_with fail
        refine wp_region_held_drew (S := (fun _ => True)) (by kernel_rfl) trivial (fun hHeld => ?_)
        generalize wr.drew = kd at *
        apply memo3 (fun bN sb sc W => (True) ∧ (After g s (PH (k + 1)) W) ∧ (w.grownBy W (some g)) ∧ (BlkW w.heap.size [.string ⟨#[]⟩, .int .i64 0, .bool false, .int .i64 0, .int .i64 0, .slice none 0 0] W) ∧ (BlkW bV [.string a, .int .i64 ag, .bool true, .int .i64 fr, .int .i64 le, .slice ha k hc] W) ∧ (W.ownsRow (bV + 1) 57 2 (.slice (some ⟨sb, 0, none⟩) (k + 1) sc) (k + 1) (cellsAll Ti.cells (LH (k + 1)))) ∧ True)
        intro N1_3_5_7_8
        apply memo1 (fun bN W => (True) ∧ (After g s (PH (k + 1)) W) ∧ (w.grownBy W (some g)) ∧ (BlkW w.heap.size [.string ⟨#[]⟩, .int .i64 0, .bool false, .int .i64 0, .int .i64 0, .slice none 0 0] W) ∧ (BlkW bV [.string a, .int .i64 ag, .bool true, .int .i64 fr, .int .i64 le, .slice ha k hc] W) ∧ (W.ownsRow (bV + 1) 57 2 (.slice ha k hc) k (cellsAll Ti.cells (LH k))) ∧ (∀ j u, ([.int .i64 X, .int .i64 Y] : List Value)[j]? = some u → W.cell? ((⟨bN, 0, none⟩ : Addr).add j) = some u) ∧ (bV < bN) ∧ True)
        intro N1_3_5_7
        apply memo0 (fun  W => (True) ∧ (After g s (PH (k + 1)) W) ∧ (w.grownBy W (some g)) ∧ (BlkW w.heap.size [.string ⟨#[]⟩, .int .i64 0, .bool false, .int .i64 0, .int .i64 0, .slice none 0 0] W) ∧ (BlkW bV [.string a, .int .i64 ag, .bool true, .int .i64 fr, .int .i64 le, .slice ha k hc] W) ∧ (W.ownsRow (bV + 1) 57 2 (.slice ha k hc) k (cellsAll Ti.cells (LH k))) ∧ True)
        intro N1_3_5
        apply memo1 (fun bN W => (True) ∧ (After g s (PH (k + 1)) W) ∧ (w.grownBy W (some g)) ∧ (BlkW w.heap.size [.string ⟨#[]⟩, .int .i64 0, .bool false, .int .i64 0, .int .i64 0, .slice none 0 0] W) ∧ (BlkW bV [.string a, .int .i64 ag, .bool true, .int .i64 fr, .int .i64 le, .slice ha k hc] W) ∧ (W.ownsRow (bV + 1) 57 2 (.slice ha k hc) k (cellsAll Ti.cells (LH k))) ∧ (∀ j u, ([.int .i64 X, .int .i64 Y] : List Value)[j]? = some u → W.cell? ((⟨bN, 0, none⟩ : Addr).add j) = some u) ∧ (bV < bN) ∧ True)
        intro N3_5_7
        apply memo0 (fun  W => (True) ∧ (After g s om W) ∧ (w.grownBy W (some g)) ∧ (BlkW w.heap.size [.string ⟨#[]⟩, .int .i64 0, .bool false, .int .i64 0, .int .i64 0, .slice none 0 0] W) ∧ (BlkW bV [.string a, .int .i64 ag, .bool true, .int .i64 fr, .int .i64 le, .slice ha k hc] W) ∧ (W.ownsRow (bV + 1) 57 2 (.slice ha k hc) k (cellsAll Ti.cells (LH k))) ∧ True)
        intro N1_3
        apply memo0 (fun  W => (True) ∧ (After g s (PH (k + 1)) W) ∧ (w.grownBy W (some g)) ∧ (BlkW w.heap.size [.string ⟨#[]⟩, .int .i64 0, .bool false, .int .i64 0, .int .i64 0, .slice none 0 0] W) ∧ (BlkW bV [.string a, .int .i64 ag, .bool true, .int .i64 fr, .int .i64 le, .slice ha k hc] W) ∧ (W.ownsRow (bV + 1) 57 2 (.slice ha k hc) k (cellsAll Ti.cells (LH k))) ∧ True)
        intro N3_5
        apply memo0 (fun  W => (True) ∧ (After g s (PH k) W) ∧ (w.grownBy W (some g)) ∧ (BlkW w.heap.size [.string ⟨#[]⟩, .int .i64 0, .bool false, .int .i64 0, .int .i64 0, .slice none 0 0] W) ∧ (BlkW bV [.string a, .int .i64 ag, .bool true, .int .i64 fr, .int .i64 le, .slice ha k hc] W) ∧ (W.ownsRow (bV + 1) 57 2 (.slice ha k hc) k (cellsAll Ti.cells (LH k))) ∧ True)
        intro N1
        apply memo0 (fun  W => (True) ∧ (After g s om W) ∧ (w.grownBy W (some g)) ∧ (BlkW w.heap.size [.string ⟨#[]⟩, .int .i64 0, .bool false, .int .i64 0, .int .i64 0, .slice none 0 0] W) ∧ (BlkW bV [.string a, .int .i64 ag, .bool true, .int .i64 fr, .int .i64 le, .slice ha k hc] W) ∧ (W.ownsRow (bV + 1) 57 2 (.slice ha k hc) k (cellsAll Ti.cells (LH k))) ∧ True)
        intro N3
        · refine wpAnyH_take (i := 0) (oi := { dst := some 20, op := Op.fieldAddr 38 (Operand.tmp 3) 5, type := 0, pos := "l05_catalog.go:175", after := #[], guard := none }) (v := ?_) rfl (by kernel_rfl) (by kernel_rfl) (by kernel_rfl) (fun _ _ _ h => h) (Or.inl ⟨by rfl, ?_⟩) (by assumption) ?_
          rotate_left
          · (intro w hSw; (try dsimp only at hSw); go_simp) <;> with_reducible rfl
          try simp only [Act.put, List.setIfInBounds_toArray, List.set_cons_zero, List.set_cons_succ]
          refine wpAnyH_take (i := 2) (oi := { dst := some 22, op := Op.move (Operand.tmp 0), type := 45, pos := "l05_catalog.go:175", after := #[], guard := none }) (v := ?_) rfl (by kernel_rfl) (by kernel_rfl) (by kernel_rfl) (fun _ _ _ h => h) (Or.inl ⟨by rfl, ?_⟩) (by assumption) ?_
          rotate_left
          · (intro w hSw; (try dsimp only at hSw); go_simp) <;> with_reducible rfl
          try simp only [Act.put, List.setIfInBounds_toArray, List.set_cons_zero, List.set_cons_succ]
          refine wpAnyH_take (i := 4) (oi := { dst := some 24, op := Op.move (Operand.tmp 0), type := 45, pos := "l05_catalog.go:175", after := #[], guard := none }) (v := ?_) rfl (by kernel_rfl) (by kernel_rfl) (by kernel_rfl) (fun _ _ _ h => h) (Or.inl ⟨by rfl, ?_⟩) (by assumption) ?_
          rotate_left
          · (intro w hSw; (try dsimp only at hSw); go_simp) <;> with_reducible rfl
          try simp only [Act.put, List.setIfInBounds_toArray, List.set_cons_zero, List.set_cons_succ]
          refine wpAnyH_ready (rs := [1, 3]) (by kernel_rfl) (by simp) ?_
          refine AllReadyH.cons (o := { dst := some 21, op := Op.load 36 (Operand.tmp 20), type := 36, pos := "l05_catalog.go:175", after := #[{ on := 0, ground := Ground.data }], guard := none }) rfl (fun K hK => ?_) (AllReadyH.cons (o := { dst := some 23, op := Op.call { callee := Callee.value (Operand.func 28), args := #[Operand.tmp 22], argTypes := #[45] }, type := 2, pos := "l05_catalog.go:175", after := #[{ on := 2, ground := Ground.data }], guard := none }) rfl (fun K hK => ?_) AllReadyH.nil)
          · have c6 := hV0.1.2 5 (by simp)
            have l6 := hV0.1.1
            simp only [List.getElem?_cons_zero, List.getElem?_cons_succ] at c6
            go_simp
            try go_wp2_with fail
            refine hK.out _ _ trivial (fun _ => ?_)
            clear hK K
            try simp only [Act.put, List.setIfInBounds_toArray, List.set_cons_zero, List.set_cons_succ]
            clear c6 l6
            exact N1.out  kd ⟨trivial, hA0, hG0, hR0, hV0, hO0, trivial⟩
          · go_simp
            go_at_call 28
            refine (RD1.out _ hA0).mono ?_
            rintro e q1 ⟨rfl, hA1, hq1⟩
            try go_wp2_with fail
            have hG1 := gtrans hG0 hq1
            have hR1 := blkW_grown hR0 hq1 (by simp; omega)
            have hV1 := blkW_grown hV0 hq1 (by simp; omega)
            have hO1 := own_keepG hO0 hq1 (by omega)
            refine hK.out _ _ trivial (fun _ => ?_)
            clear hK K
            try simp only [Act.put, List.setIfInBounds_toArray, List.set_cons_zero, List.set_cons_succ]
            exact N3.out  q1 ⟨trivial, hA1, hG1, hR1, hV1, hO1, trivial⟩
        · rintro  W ⟨hTr, hA0, hG0, hR0, hV0, hO0, _⟩
          refine wpAnyH_ready (rs := [1, 5]) (by kernel_rfl) (by simp) ?_
          refine AllReadyH.cons (o := { dst := some 21, op := Op.load 36 (Operand.tmp 20), type := 36, pos := "l05_catalog.go:175", after := #[{ on := 0, ground := Ground.data }], guard := none }) rfl (fun K hK => ?_) (AllReadyH.cons (o := { dst := some 25, op := Op.call { callee := Callee.value (Operand.func 28), args := #[Operand.tmp 24], argTypes := #[45] }, type := 2, pos := "l05_catalog.go:175", after := #[{ on := 4, ground := Ground.data }, { on := 3, ground := Ground.chain }], guard := none }) rfl (fun K hK => ?_) AllReadyH.nil)
          · have c6 := hV0.1.2 5 (by simp)
            have l6 := hV0.1.1
            simp only [List.getElem?_cons_zero, List.getElem?_cons_succ] at c6
            go_simp
            try go_wp2_with fail
            refine hK.out _ _ trivial (fun _ => ?_)
            clear hK K
            try simp only [Act.put, List.setIfInBounds_toArray, List.set_cons_zero, List.set_cons_succ]
            clear c6 l6
            exact N1_3.out  W ⟨trivial, hA0, hG0, hR0, hV0, hO0, trivial⟩
          · go_simp
            go_at_call 28
            refine (RD2.out _ hA0).mono ?_
            rintro e q1 ⟨rfl, hA1, hq1⟩
            try go_wp2_with fail
            have hG1 := gtrans hG0 hq1
            have hR1 := blkW_grown hR0 hq1 (by simp; omega)
            have hV1 := blkW_grown hV0 hq1 (by simp; omega)
            have hO1 := own_keepG hO0 hq1 (by omega)
            refine hK.out _ _ trivial (fun _ => ?_)
            clear hK K
            try simp only [Act.put, List.setIfInBounds_toArray, List.set_cons_zero, List.set_cons_succ]
            refine wpAnyH_take (i := 6) (oi := { dst := some 26, op := Op.build 57 #[(0, Operand.tmp 23), (1, Operand.tmp 25)], type := 57, pos := "l05_catalog.go:175", after := #[{ on := 3, ground := Ground.data }, { on := 5, ground := Ground.data }], guard := none }) (v := ?_) rfl (by kernel_rfl) (by kernel_rfl) (by kernel_rfl) (fun _ _ _ h => h) (Or.inl ⟨by rfl, ?_⟩) (by assumption) ?_
            rotate_left
            · (intro w hSw; (try dsimp only at hSw); go_simp) <;> with_reducible rfl
            try simp only [Act.put, List.setIfInBounds_toArray, List.set_cons_zero, List.set_cons_succ]
            exact N3_5.out  q1 ⟨trivial, hA1, hG1, hR1, hV1, hO1, trivial⟩
        · rintro  W ⟨hTr, hA0, hG0, hR0, hV0, hO0, _⟩
          refine wpAnyH_ready (rs := [3]) (by kernel_rfl) (by simp) ?_
          refine AllReadyH.cons (o := { dst := some 23, op := Op.call { callee := Callee.value (Operand.func 28), args := #[Operand.tmp 22], argTypes := #[45] }, type := 2, pos := "l05_catalog.go:175", after := #[{ on := 2, ground := Ground.data }], guard := none }) rfl (fun K hK => ?_) AllReadyH.nil
          go_simp
          go_at_call 28
          refine (RD1.out _ hA0).mono ?_
          rintro e q1 ⟨rfl, hA1, hq1⟩
          try go_wp2_with fail
          have hG1 := gtrans hG0 hq1
          have hR1 := blkW_grown hR0 hq1 (by simp; omega)
          have hV1 := blkW_grown hV0 hq1 (by simp; omega)
          have hO1 := own_keepG hO0 hq1 (by omega)
          refine hK.out _ _ trivial (fun _ => ?_)
          clear hK K
          try simp only [Act.put, List.setIfInBounds_toArray, List.set_cons_zero, List.set_cons_succ]
          exact N1_3.out  q1 ⟨trivial, hA1, hG1, hR1, hV1, hO1, trivial⟩
        · rintro  W ⟨hTr, hA0, hG0, hR0, hV0, hO0, _⟩
          refine wpAnyH_ready (rs := [1, 7]) (by kernel_rfl) (by simp) ?_
          refine AllReadyH.cons (o := { dst := some 21, op := Op.load 36 (Operand.tmp 20), type := 36, pos := "l05_catalog.go:175", after := #[{ on := 0, ground := Ground.data }], guard := none }) rfl (fun K hK => ?_) (AllReadyH.cons (o := { dst := some 27, op := Op.buildSlice 36 1 #[(0, Operand.tmp 26)], type := 36, pos := "l05_catalog.go:175", after := #[{ on := 6, ground := Ground.data }], guard := none }) rfl (fun K hK => ?_) AllReadyH.nil)
          · have c6 := hV0.1.2 5 (by simp)
            have l6 := hV0.1.1
            simp only [List.getElem?_cons_zero, List.getElem?_cons_succ] at c6
            go_simp
            try go_wp2_with fail
            refine hK.out _ _ trivial (fun _ => ?_)
            clear hK K
            try simp only [Act.put, List.setIfInBounds_toArray, List.set_cons_zero, List.set_cons_succ]
            clear c6 l6
            exact N1_3_5.out  W ⟨trivial, hA0, hG0, hR0, hV0, hO0, trivial⟩
          · go_simp
            try go_wp2_with fail
            have hA1 := hA0.alloc (Obj.cells #[.int .i64 X, .int .i64 Y] 57)
            have hG1 := galloc hG0 (Obj.cells #[.int .i64 X, .int .i64 Y] 57)
            have hR1 := hR0.below ((Below.refl W.heap.size W).alloc (Nat.le_refl _) (Obj.cells #[.int .i64 X, .int .i64 Y] 57))
            have hV1 := hV0.below ((Below.refl W.heap.size W).alloc (Nat.le_refl _) (Obj.cells #[.int .i64 X, .int .i64 Y] 57))
            have hO1 := RowG.own_below hO0 ((Below.refl W.heap.size W).alloc (Nat.le_refl _) (Obj.cells #[.int .i64 X, .int .i64 Y] 57))
            have hnw : ∀ j u, ([.int .i64 X, .int .i64 Y] : List Value)[j]? = some u → (W.alloc (Obj.cells #[.int .i64 X, .int .i64 Y] 57)).cell? ((⟨W.heap.size, 0, none⟩ : Addr).add j) = some u := new_cells W [.int .i64 X, .int .i64 Y] 57
            have hlb : bV < W.heap.size := hV0.1.1
            refine hK.out _ _ trivial (fun _ => ?_)
            clear hK K
            try simp only [Act.put, List.setIfInBounds_toArray, List.set_cons_zero, List.set_cons_succ]
            obtain ⟨bN, hbN⟩ : ∃ z, z = W.heap.size := ⟨_, rfl⟩
            rw [← hbN] at hnw hlb ⊢
            obtain ⟨k1, hk1⟩ : ∃ z, z = W.alloc (Obj.cells #[.int .i64 X, .int .i64 Y] 57) := ⟨_, rfl⟩
            rw [← hk1] at hnw hA1 hG1 hR1 hV1 hO1 ⊢
            exact N3_5_7.out bN k1 ⟨trivial, hA1, hG1, hR1, hV1, hO1, hnw, hlb, trivial⟩
        · rintro  W ⟨hTr, hA0, hG0, hR0, hV0, hO0, _⟩
          refine wpAnyH_ready (rs := [5]) (by kernel_rfl) (by simp) ?_
          refine AllReadyH.cons (o := { dst := some 25, op := Op.call { callee := Callee.value (Operand.func 28), args := #[Operand.tmp 24], argTypes := #[45] }, type := 2, pos := "l05_catalog.go:175", after := #[{ on := 4, ground := Ground.data }, { on := 3, ground := Ground.chain }], guard := none }) rfl (fun K hK => ?_) AllReadyH.nil
          go_simp
          go_at_call 28
          refine (RD2.out _ hA0).mono ?_
          rintro e q1 ⟨rfl, hA1, hq1⟩
          try go_wp2_with fail
          have hG1 := gtrans hG0 hq1
          have hR1 := blkW_grown hR0 hq1 (by simp; omega)
          have hV1 := blkW_grown hV0 hq1 (by simp; omega)
          have hO1 := own_keepG hO0 hq1 (by omega)
          refine hK.out _ _ trivial (fun _ => ?_)
          clear hK K
          try simp only [Act.put, List.setIfInBounds_toArray, List.set_cons_zero, List.set_cons_succ]
          refine wpAnyH_take (i := 6) (oi := { dst := some 26, op := Op.build 57 #[(0, Operand.tmp 23), (1, Operand.tmp 25)], type := 57, pos := "l05_catalog.go:175", after := #[{ on := 3, ground := Ground.data }, { on := 5, ground := Ground.data }], guard := none }) (v := ?_) rfl (by kernel_rfl) (by kernel_rfl) (by kernel_rfl) (fun _ _ _ h => h) (Or.inl ⟨by rfl, ?_⟩) (by assumption) ?_
          rotate_left
          · (intro w hSw; (try dsimp only at hSw); go_simp) <;> with_reducible rfl
          try simp only [Act.put, List.setIfInBounds_toArray, List.set_cons_zero, List.set_cons_succ]
          exact N1_3_5.out  q1 ⟨trivial, hA1, hG1, hR1, hV1, hO1, trivial⟩
        · rintro bN W ⟨hTr, hA0, hG0, hR0, hV0, hO0, hnw, hlb, _⟩
          refine wpAnyH_ready (rs := [1]) (by kernel_rfl) (by simp) ?_
          refine AllReadyH.cons (o := { dst := some 21, op := Op.load 36 (Operand.tmp 20), type := 36, pos := "l05_catalog.go:175", after := #[{ on := 0, ground := Ground.data }], guard := none }) rfl (fun K hK => ?_) AllReadyH.nil
          have c6 := hV0.1.2 5 (by simp)
          have l6 := hV0.1.1
          simp only [List.getElem?_cons_zero, List.getElem?_cons_succ] at c6
          go_simp
          try go_wp2_with fail
          refine hK.out _ _ trivial (fun _ => ?_)
          clear hK K
          try simp only [Act.put, List.setIfInBounds_toArray, List.set_cons_zero, List.set_cons_succ]
          clear c6 l6
          exact N1_3_5_7.out bN W ⟨trivial, hA0, hG0, hR0, hV0, hO0, hnw, hlb, trivial⟩
        · rintro  W ⟨hTr, hA0, hG0, hR0, hV0, hO0, _⟩
          refine wpAnyH_ready (rs := [7]) (by kernel_rfl) (by simp) ?_
          refine AllReadyH.cons (o := { dst := some 27, op := Op.buildSlice 36 1 #[(0, Operand.tmp 26)], type := 36, pos := "l05_catalog.go:175", after := #[{ on := 6, ground := Ground.data }], guard := none }) rfl (fun K hK => ?_) AllReadyH.nil
          go_simp
          try go_wp2_with fail
          have hA1 := hA0.alloc (Obj.cells #[.int .i64 X, .int .i64 Y] 57)
          have hG1 := galloc hG0 (Obj.cells #[.int .i64 X, .int .i64 Y] 57)
          have hR1 := hR0.below ((Below.refl W.heap.size W).alloc (Nat.le_refl _) (Obj.cells #[.int .i64 X, .int .i64 Y] 57))
          have hV1 := hV0.below ((Below.refl W.heap.size W).alloc (Nat.le_refl _) (Obj.cells #[.int .i64 X, .int .i64 Y] 57))
          have hO1 := RowG.own_below hO0 ((Below.refl W.heap.size W).alloc (Nat.le_refl _) (Obj.cells #[.int .i64 X, .int .i64 Y] 57))
          have hnw : ∀ j u, ([.int .i64 X, .int .i64 Y] : List Value)[j]? = some u → (W.alloc (Obj.cells #[.int .i64 X, .int .i64 Y] 57)).cell? ((⟨W.heap.size, 0, none⟩ : Addr).add j) = some u := new_cells W [.int .i64 X, .int .i64 Y] 57
          have hlb : bV < W.heap.size := hV0.1.1
          refine hK.out _ _ trivial (fun _ => ?_)
          clear hK K
          try simp only [Act.put, List.setIfInBounds_toArray, List.set_cons_zero, List.set_cons_succ]
          obtain ⟨bN, hbN⟩ : ∃ z, z = W.heap.size := ⟨_, rfl⟩
          rw [← hbN] at hnw hlb ⊢
          obtain ⟨k1, hk1⟩ : ∃ z, z = W.alloc (Obj.cells #[.int .i64 X, .int .i64 Y] 57) := ⟨_, rfl⟩
          rw [← hk1] at hnw hA1 hG1 hR1 hV1 hO1 ⊢
          exact N1_3_5_7.out bN k1 ⟨trivial, hA1, hG1, hR1, hV1, hO1, hnw, hlb, trivial⟩
        · rintro bN W ⟨hTr, hA0, hG0, hR0, hV0, hO0, hnw, hlb, _⟩
          refine wpAnyH_ready (rs := [8]) (by kernel_rfl) (by simp) ?_
          refine AllReadyH.cons (o := { dst := some 28, op := Op.call { callee := Callee.builtin Builtin.append, args := #[Operand.tmp 21, Operand.tmp 27], argTypes := #[36, 36] }, type := 36, pos := "l05_catalog.go:175", after := #[{ on := 1, ground := Ground.data }, { on := 7, ground := Ground.data }, { on := 5, ground := Ground.chain }], guard := none }) rfl (fun K hK => ?_) AllReadyH.nil
          refine DocR.step_append_own rfl _ _ 36 rfl (bV + 1) 57 j0 (.agg #[.int .i64 0, .int .i64 0]) 2 16 Tryd.underlying36 gi gz0 gz1 gz2 rfl gsz3 _ _ _ rfl hO0 ⟨bN, 0, none⟩ 1 1 [.int .i64 X, .int .i64 Y] rfl rfl hnw (ti_one X Y) sz1 sz2 (hV0.1.1) ?_
          intro v9 w9 hown hgrow hne
          have hA1 := after_grown hA0 hgrow (fun e => by have := (hO0.lt _ e.symm).1; omega)
          have hG1 := gnewR hG0 hgrow (fun X e => by have := (hO0.lt _ e).1; omega)
          have hR1 := blkW_grown hR0 hgrow (fun e => by have := (hO0.lt _ e.symm).1; omega)
          have hV1 := blkW_grown hV0 hgrow (fun e => by have := (hO0.lt _ e.symm).1; omega)
          have hO1 : w9.ownsRow (bV + 1) 57 2 v9 (k + 1) (cellsAll Ti.cells (LH (k + 1))) := by rw [HLM.out, cellsAll_snoc]; exact hown
          obtain ⟨sb, sc, rfl⟩ := own_form hO1
          clear hown hgrow hne hnw
          refine hK.out _ _ trivial (fun _ => ?_)
          clear hK K
          try simp only [Act.put, List.setIfInBounds_toArray, List.set_cons_zero, List.set_cons_succ]
          refine wpAnyH_take (i := 9) (oi := { dst := some 29, op := Op.fieldAddr 38 (Operand.tmp 3) 5, type := 0, pos := "l05_catalog.go:175", after := #[{ on := 0, ground := Ground.phase }, { on := 1, ground := Ground.phase }, { on := 2, ground := Ground.phase }, { on := 3, ground := Ground.phase }, { on := 4, ground := Ground.phase }, { on := 5, ground := Ground.phase }, { on := 6, ground := Ground.phase }, { on := 7, ground := Ground.phase }, { on := 8, ground := Ground.phase }], guard := none }) (v := ?_) rfl (by kernel_rfl) (by kernel_rfl) (by kernel_rfl) (fun _ _ _ h => h) (Or.inl ⟨by rfl, ?_⟩) (by assumption) ?_
          rotate_left
          · (intro w hSw; (try dsimp only at hSw); go_simp) <;> with_reducible rfl
          try simp only [Act.put, List.setIfInBounds_toArray, List.set_cons_zero, List.set_cons_succ]
          exact N1_3_5_7_8.out bN sb sc w9 ⟨trivial, hA1, hG1, hR1, hV1, hO1, trivial⟩
        · rintro bN sb sc W ⟨hTr, hA0, hG0, hR0, hV0, hO0, _⟩
          refine wpAnyH_ready (rs := [10]) (by kernel_rfl) (by simp) ?_
          refine AllReadyH.cons (o := { dst := none, op := Op.store 36 (Operand.tmp 29) (Operand.tmp 28), type := 0, pos := "l05_catalog.go:175", after := #[{ on := 9, ground := Ground.data }, { on := 8, ground := Ground.data }, { on := 8, ground := Ground.chain }, { on := 0, ground := Ground.phase }, { on := 1, ground := Ground.phase }, { on := 2, ground := Ground.phase }, { on := 3, ground := Ground.phase }, { on := 4, ground := Ground.phase }, { on := 5, ground := Ground.phase }, { on := 6, ground := Ground.phase }, { on := 7, ground := Ground.phase }, { on := 8, ground := Ground.phase }], guard := none }) rfl (fun K hK => ?_) AllReadyH.nil
          have c6 := hV0.1.2 5 (by simp)
          have l6 := hV0.1.1
          have f6 := hV0.2 5 (by simp)
          simp only [List.getElem?_cons_zero, List.getElem?_cons_succ] at c6
          go_simp
          try go_wp2_with fail
          have hg := RowG.grown_set W bV 5 (.slice (some ⟨sb, 0, none⟩) (k + 1) sc)
          have hA9 := after_grown hA0 hg (by simp; omega)
          have hG9 := gnewG hG0 hg (by omega)
          have hR9 := blkW_grown hR0 hg (by simp; omega)
          have hV9 := hV0.set 5 (.slice (some ⟨sb, 0, none⟩) (k + 1) sc) (by simp)
          have hO9 := own_keepG hO0 hg (by omega)
          simp only [List.set_cons_zero, List.set_cons_succ] at hV9
          refine hK.out _ _ trivial (fun _ => ?_)
          clear hK K
          try simp only [Act.put, List.setIfInBounds_toArray, List.set_cons_zero, List.set_cons_succ]
          generalize (W.setCell ⟨bV, 5, none⟩ (.slice (some ⟨sb, 0, none⟩) (k + 1) sc)) = kk at *
          refine wpAnyH_done (by kernel_rfl) ?_ _
          have HA9 := hid_intro hA9
          have HG9 := hid_intro hG9
          have HR9 := hid_intro hR9
          have HV9 := hid_intro hV9
          have HO9 := hid_intro hO9
          clear hA9 hG9 hR9 hV9 hO9 hg c6 l6 f6
          go_wp2_with fail
          go_roundw
          case rel => exact ⟨k + 1, some ⟨sb, 0, none⟩, sc, by omega, by go_num, HA9, HG9, HR9, HV9, HO9⟩
          case measure => simp [intOf]; omega
      · have hlt2 : ¬ (k : Int) < (C : Int) := by omega
        obtain rfl : k = C := by omega
        obtain ⟨⟨vl, vk⟩, _⟩ := HV.out
        have v0 : wr.cell? ⟨bV, 0, none⟩ = some (.string a) := vk 0 (by simp)
        have v1 : wr.cell? ⟨bV, 1, none⟩ = some (.int .i64 ag) := vk 1 (by simp)
        have v2 : wr.cell? ⟨bV, 2, none⟩ = some (.bool true) := vk 2 (by simp)
        have v3 : wr.cell? ⟨bV, 3, none⟩ = some (.int .i64 fr) := vk 3 (by simp)
        have v4 : wr.cell? ⟨bV, 4, none⟩ = some (.int .i64 le) := vk 4 (by simp)
        have v5 : wr.cell? ⟨bV, 5, none⟩ = some (.slice ha k hc) := vk 5 (by simp)
        obtain ⟨⟨rl, rk⟩, rf⟩ := HR.out
        have p0 : wr.cell? ⟨w.heap.size, 0, none⟩ = some (.string ⟨#[]⟩) := rk 0 (by simp)
        have f0 : wr.frozen? ⟨w.heap.size, 0, none⟩ = false := rf 0 (by simp)
        have p1 : wr.cell? ⟨w.heap.size, 1, none⟩ = some (.int .i64 0) := rk 1 (by simp)
        have f1 : wr.frozen? ⟨w.heap.size, 1, none⟩ = false := rf 1 (by simp)
        have p2 : wr.cell? ⟨w.heap.size, 2, none⟩ = some (.bool false) := rk 2 (by simp)
        have f2 : wr.frozen? ⟨w.heap.size, 2, none⟩ = false := rf 2 (by simp)
        have p3 : wr.cell? ⟨w.heap.size, 3, none⟩ = some (.int .i64 0) := rk 3 (by simp)
        have f3 : wr.frozen? ⟨w.heap.size, 3, none⟩ = false := rf 3 (by simp)
        have p4 : wr.cell? ⟨w.heap.size, 4, none⟩ = some (.int .i64 0) := rk 4 (by simp)
        have f4 : wr.frozen? ⟨w.heap.size, 4, none⟩ = false := rf 4 (by simp)
        have p5 : wr.cell? ⟨w.heap.size, 5, none⟩ = some (.slice none 0 0) := rk 5 (by simp)
        have f5 : wr.frozen? ⟨w.heap.size, 5, none⟩ = false := rf 5 (by simp)
        have hg := StR.stL_grown w.heap.size [.string a, .int .i64 ag, .bool true, .int .i64 fr, .int .i64 le, .slice ha k hc] 0 wr
        have HA9 := hid_intro (after_grown HA.out hg (by simp; omega))
        have HG9 := hid_intro (gnewG HG.out hg (Nat.le_refl _))
        have HO9 := hid_intro (own_keepG HO.out hg (by omega))
        simp only [StR.stL, Nat.zero_add, Nat.reduceAdd] at HA9 HG9 HO9
        clear vk rk rf hg HA HG HR HV HO
        go_wp2_with fail
        refine bodyPost_ret (v := .agg #[.string a, .int .i64 ag, .bool true, .int .i64 fr, .int .i64 le, .slice ha k hc]) (by simp [results, Tryd.results26, go_sem, p0, p1, p2, p3, p4, p5]) rfl ⟨_, _, rfl, own_low HO9.out (by omega), HA9.out, HG9.out⟩
end CatR
end Go.Proofs.YtgaihlhoegaliaaDoor
namespace Go.Proofs.YtgaihlhoegaliaaDoor
open Go.ChangeShapes Go.WideShapes Go.ChangeAt Go.RowKit
set_option linter.unusedVariables false
namespace SpR
open EvtR (rT pT rN pN rC pC rC_le txtAt txtAt_back txtB cut_two cut_size rT_size)
open NumsR (numAt numAt_back I64)
open NumR (numB numB_size)
open JoinR (joinB)
open DocR (joinB_app joinB_one)
/-- A text's bytes. -/
def txB (t : ByteArray) : ByteArray := numB t.size ++ t
/-- These bytes are spelled by these parts. -/
def Sp (s : ByteArray) (p q : Nat) (L : List ByteArray) : Prop := p ≤ q ∧ q ≤ s.size ∧ s.extract p q = joinB L
theorem sp_nil {s : ByteArray} {p : Nat} (h : p ≤ s.size) : Sp s p p [] := ⟨Nat.le_refl _, h, by
  apply ByteArray.ext
  simp [joinB]⟩
theorem sp_app {s : ByteArray} {p q r : Nat} {L L' : List ByteArray} (h : Sp s p q L) (h' : Sp s q r L') : Sp s p r (L ++ L') :=
  ⟨Nat.le_trans h.1 h'.1, h'.2.1, by rw [cut_two s p q r h.1 h'.1, h.2.2, h'.2.2, joinB_app]⟩
theorem sp_one {s : ByteArray} {p q : Nat} {L : List ByteArray} (h : Sp s p q L) : Sp s p q [joinB L] := ⟨h.1, h.2.1, by rw [joinB_one]; exact h.2.2⟩
theorem sp_txt {s : ByteArray} {o : Option Nat} {q : Nat} (h : pT s o = some q) : ∃ p, o = some p ∧ Sp s p q [txB (rT s o)] ∧ p < q := by
  cases o with
  | none => cases h
  | some p =>
    unfold pT at h
    simp only [Option.bind_some, Option.map_eq_some_iff] at h
    obtain ⟨⟨t, r⟩, h1, rfl⟩ := h
    have e : rT s (some p) = t := by unfold rT; simp [h1]
    obtain ⟨b1, b2, b3, b4⟩ := txtAt_back h1
    refine ⟨p, rfl, ⟨Nat.le_of_lt b2, b3, ?_⟩, b2⟩
    rw [e, b4, joinB_one]
    rfl
theorem sp_num {s : ByteArray} {o : Option Nat} {q : Nat} (h : pN s o = some q) : ∃ p, o = some p ∧ Sp s p q [numB (rN s o)] ∧ p < q := by
  cases o with
  | none => cases h
  | some p =>
    unfold pN at h
    simp only [Option.bind_some, Option.map_eq_some_iff] at h
    obtain ⟨⟨n, r⟩, h1, rfl⟩ := h
    have e : rN s (some p) = n := by unfold rN; simp [h1]
    obtain ⟨b1, b2, b3, b4⟩ := numAt_back h1
    refine ⟨p, rfl, ⟨Nat.le_of_lt b2, b3, ?_⟩, b2⟩
    rw [e, b4, joinB_one]
theorem sp_cnt {s : ByteArray} {o : Option Nat} {M q : Nat} (h : pC s o M = some q) : ∃ p, o = some p ∧ Sp s p q [numB (rC s o M)] ∧ p < q := by
  unfold pC at h
  split at h
  · rename_i k
    obtain ⟨p, e, h1, h2⟩ := sp_num h
    refine ⟨p, e, ?_, h2⟩
    have e2 : ((rC s o M : Nat) : Int) = rN s o := by
      unfold rC
      rw [if_pos k]
      omega
    rw [e2]
    exact h1
  · cases h
theorem cut_whole (s : ByteArray) : s.extract 0 s.size = s := by
  apply ByteArray.ext
  rw [ByteArray.data_extract]
  exact Array.extract_size
theorem rN_i64 (s : ByteArray) (o : Option Nat) : I64 (rN s o) := by
  unfold rN
  cases h : o.bind (numAt s) with
  | none => exact ⟨by simp, by simp⟩
  | some x =>
    obtain ⟨n, q⟩ := x
    obtain ⟨p, rfl, hp⟩ := Option.bind_eq_some_iff.1 h
    simpa using (numAt_back hp).1
theorem pC_none (s : ByteArray) (M : Nat) : pC s none M = none := by
  unfold pC
  split <;> rfl
end SpR
end Go.Proofs.YtgaihlhoegaliaaDoor
namespace Go.Proofs.YtgaihlhoegaliaaDoor
open Go.ChangeShapes Go.WideShapes Go.ChangeAt Go.RowKit
set_option linter.unusedVariables false
namespace SpR
open EvtR (rT pT rN pN rC pC rC_le txtAt txtAt_back txtAt_put txtB cut_two cut_size cut_split rT_size)
open NumsR (numAt numAt_back numAt_put I64)
open NumR (numB numB_size)
open JoinR (joinB)
open DocR (joinB_app joinB_one)
/-- These parts stand at a place. -/
def Sq (s : ByteArray) (p : Nat) (L : List ByteArray) : Prop := p + (joinB L).size ≤ s.size ∧ s.extract p (p + (joinB L).size) = joinB L
theorem sq_app {s : ByteArray} {p : Nat} {L L' : List ByteArray} (h : Sq s p (L ++ L')) : Sq s p L ∧ Sq s (p + (joinB L).size) L' := by
  obtain ⟨h1, h2⟩ := h
  rw [joinB_app, ByteArray.size_append] at h1 h2
  obtain ⟨e1, e2⟩ := cut_split h1 h2
  exact ⟨⟨by omega, e1⟩, ⟨by omega, e2⟩⟩
theorem sq_cons {s : ByteArray} {p : Nat} {x : ByteArray} {L : List ByteArray} (h : Sq s p (x :: L)) : Sq s p [x] ∧ Sq s (p + x.size) L := by
  have := sq_app (L := [x]) (L' := L) h
  rw [joinB_one] at this
  exact this
theorem sq_one {s : ByteArray} {p : Nat} {L : List ByteArray} (h : Sq s p [joinB L]) : Sq s p L := by
  obtain ⟨h1, h2⟩ := h
  rw [joinB_one] at h1 h2
  exact ⟨h1, h2⟩
theorem sq_whole (L : List ByteArray) : Sq (joinB L) 0 L := ⟨by omega, by rw [Nat.zero_add]; exact cut_whole _⟩
theorem num_sq {s : ByteArray} {p : Nat} {n : Int} (hn : I64 n) (h : Sq s p [numB n]) : rN s (some p) = n ∧ pN s (some p) = some (p + (numB n).size) := by
  obtain ⟨h1, h2⟩ := h
  rw [joinB_one] at h1 h2
  have := numAt_put hn h1 h2
  unfold rN pN
  simp [this]
theorem txt_sq {s : ByteArray} {p : Nat} {t : ByteArray} (ht : t.size ≤ 8000) (h : Sq s p [txB t]) : rT s (some p) = t ∧ pT s (some p) = some (p + (txB t).size) := by
  obtain ⟨h1, h2⟩ := h
  rw [joinB_one] at h1 h2
  have := txtAt_put (s := s) (p := p) (t := t) ht h1 h2
  unfold rT pT
  simp [this]
  rfl
theorem cnt_sq {s : ByteArray} {p n M : Nat} (hn : n ≤ M) (hM : M ≤ 1000) (h : Sq s p [numB (n : Int)]) : rC s (some p) M = n ∧ pC s (some p) M = some (p + (numB (n : Int)).size) := by
  obtain ⟨e1, e2⟩ := num_sq (n := (n : Int)) ⟨by omega, by omega⟩ h
  unfold rC pC
  rw [e1, e2]
  have k : 0 ≤ (n : Int) ∧ (n : Int) ≤ (M : Int) := by omega
  rw [if_pos k, if_pos k]
  exact ⟨by simp, rfl⟩
end SpR
end Go.Proofs.YtgaihlhoegaliaaDoor
namespace Go.Proofs.YtgaihlhoegaliaaDoor
open Go.ChangeShapes Go.WideShapes Go.ChangeAt Go.RowKit
open Go.ChangeMaps (open_string shut_string)
namespace NameR
/-- May this byte stand at this place of a name? -/
def okAt (i : Nat) (c : Int) : Bool := decide ((97 ≤ c ∧ c ≤ 122) ∨ (i ≠ 0 ∧ ((48 ≤ c ∧ c ≤ 57) ∨ c = 95)))
def upTo (s : ByteArray) (k : Nat) : Prop := ∀ i (h : i < s.size), i < k → okAt i (s[i].toNat : Int) = true
def upToDec (s : ByteArray) (k : Nat) : Decidable (upTo s k) := inferInstanceAs (Decidable (∀ i (h : i < s.size), i < k → okAt i (s[i].toNat : Int) = true))
def nameB (s : ByteArray) : Bool := @decide (1 ≤ s.size ∧ s.size ≤ 20 ∧ upTo s s.size) (@instDecidableAnd _ _ _ (@instDecidableAnd _ _ _ (upToDec s s.size)))
theorem name_size {s : ByteArray} (h : s.size < 1 ∨ 20 < s.size) : nameB s = false := by
  unfold nameB; simp; intro h1 h2; omega
theorem name_no {s : ByteArray} {k : Nat} (h : k < s.size) (hb : okAt k (s[k].toNat : Int) = false) : nameB s = false := by
  unfold nameB; simp; intro _ _ hu; have := hu k h h; simp [hb] at this
theorem name_yes {s : ByteArray} (h1 : 1 ≤ s.size) (h2 : s.size ≤ 20) (hu : upTo s s.size) : nameB s = true := by
  unfold nameB; simp; exact ⟨h1, h2, hu⟩
theorem upTo_zero (s : ByteArray) : upTo s 0 := fun _ _ h => absurd h (by omega)
theorem upTo_succ {s : ByteArray} {k : Nat} (hu : upTo s k) (h : k < s.size) (hb : okAt k (s[k].toNat : Int) = true) : upTo s (k + 1) := by
  intro i hi hk
  by_cases e : i = k
  · subst e; exact hb
  · exact hu i hi (by omega)

set_option maxHeartbeats 2000000 in
theorem spec_any (s : ByteArray) (w : World) (hs : s.size ≤ 1048576) :
    Calls Tryd.prog 38 #[.string s] w fun e w' => e = .returned (.bool (nameB s)) ∧ w' = w := by
  by_cases h1 : s.size < 1
  · have hn := name_size (s := s) (.inl h1)
    rw [hn]
    go_enter Tryd.func38, Tryd.ntmps38
    go_wp2
    go_ret
    exact ⟨rfl, rfl⟩
  by_cases h2 : 20 < s.size
  · have hn := name_size (s := s) (.inr h2)
    rw [hn]
    go_enter Tryd.func38, Tryd.ntmps38
    go_wp2
    go_ret
    exact ⟨rfl, rfl⟩
  go_enter Tryd.func38, Tryd.ntmps38
  go_wp2
  go_loop [3, 4] (fun i _ => ∃ k : Nat, k ≤ s.size ∧ i = .int .i64 k ∧ upTo s k) (fun i _ => s.size - (intOf i).toNat)
  case atStart => exact ⟨0, Nat.zero_le _, rfl, upTo_zero s⟩
  case round =>
    obtain ⟨k, hk, rfl, hu⟩ := hrel
    by_cases hlt : k < s.size
    · have hno := name_no (s := s) hlt
      have hyes := upTo_succ hu hlt
      have HN : Hid (okAt k (s[k].toNat : Int) = false → nameB s = false) := hno
      have HY : Hid (okAt k (s[k].toNat : Int) = true → upTo s (k + 1)) := hyes
      clear hno hyes hu
      by_cases hk0 : k = 0
      · subst hk0
        rcases (show ((s[0].toNat : Int) < 48) ∨ (48 ≤ (s[0].toNat : Int) ∧ (s[0].toNat : Int) ≤ 57) ∨ (57 < (s[0].toNat : Int) ∧ (s[0].toNat : Int) < 95) ∨ (95 ≤ (s[0].toNat : Int) ∧ (s[0].toNat : Int) ≤ 95) ∨ (95 < (s[0].toNat : Int) ∧ (s[0].toNat : Int) < 97) ∨ (97 ≤ (s[0].toNat : Int) ∧ (s[0].toNat : Int) ≤ 122) ∨ 122 < (s[0].toNat : Int) from by omega) with hc | hc | hc | hc | hc | hc | hc
        all_goals
          (first | have a0 : (97 : Int) ≤ (s[0].toNat : Int) := by omega | have a0 : ¬ (97 : Int) ≤ (s[0].toNat : Int) := by omega)
          (first | have a1 : (s[0].toNat : Int) ≤ 122 := by omega | have a1 : ¬ (s[0].toNat : Int) ≤ 122 := by omega)
          (first | have a2 : (48 : Int) ≤ (s[0].toNat : Int) := by omega | have a2 : ¬ (48 : Int) ≤ (s[0].toNat : Int) := by omega)
          (first | have a3 : (s[0].toNat : Int) ≤ 57 := by omega | have a3 : ¬ (s[0].toNat : Int) ≤ 57 := by omega)
          (first | have a5 : ((s[0].toNat : Int) != 95) = true := by simp; omega | have a5 : ((s[0].toNat : Int) != 95) = false := by simp; omega)
          (first | have a6 : ((s[0].toNat : Int) == 95) = true := by simp; omega | have a6 : ((s[0].toNat : Int) == 95) = false := by simp; omega)
          go_wp2
          first
            | (go_ret; exact ⟨ret_bool (HN.out (by unfold okAt; simp; omega)).symm, rfl⟩)
            | (go_round
               case rel => exact ⟨1, by omega, by go_num, HY.out (by unfold okAt; simp; omega)⟩
               case measure => simp [intOf]; omega)
      · rcases (show ((s[k].toNat : Int) < 48) ∨ (48 ≤ (s[k].toNat : Int) ∧ (s[k].toNat : Int) ≤ 57) ∨ (57 < (s[k].toNat : Int) ∧ (s[k].toNat : Int) < 95) ∨ (95 ≤ (s[k].toNat : Int) ∧ (s[k].toNat : Int) ≤ 95) ∨ (95 < (s[k].toNat : Int) ∧ (s[k].toNat : Int) < 97) ∨ (97 ≤ (s[k].toNat : Int) ∧ (s[k].toNat : Int) ≤ 122) ∨ 122 < (s[k].toNat : Int) from by omega) with hc | hc | hc | hc | hc | hc | hc
        all_goals
          (first | have a0 : (97 : Int) ≤ (s[k].toNat : Int) := by omega | have a0 : ¬ (97 : Int) ≤ (s[k].toNat : Int) := by omega)
          (first | have a1 : (s[k].toNat : Int) ≤ 122 := by omega | have a1 : ¬ (s[k].toNat : Int) ≤ 122 := by omega)
          (first | have a2 : (48 : Int) ≤ (s[k].toNat : Int) := by omega | have a2 : ¬ (48 : Int) ≤ (s[k].toNat : Int) := by omega)
          (first | have a3 : (s[k].toNat : Int) ≤ 57 := by omega | have a3 : ¬ (s[k].toNat : Int) ≤ 57 := by omega)
          (first | have a5 : ((s[k].toNat : Int) != 95) = true := by simp; omega | have a5 : ((s[k].toNat : Int) != 95) = false := by simp; omega)
          (first | have a6 : ((s[k].toNat : Int) == 95) = true := by simp; omega | have a6 : ((s[k].toNat : Int) == 95) = false := by simp; omega)
          have a7 : ((k : Int) == 0) = false := by simp; omega
          go_wp2
          first
            | (go_ret; exact ⟨ret_bool (HN.out (by unfold okAt; simp; omega)).symm, rfl⟩)
            | (go_round
               case rel => exact ⟨k + 1, by omega, by go_num, HY.out (by unfold okAt; simp; omega)⟩
               case measure => simp [intOf]; omega)
    · go_wp2
      go_ret
      have : k = s.size := by omega
      subst this
      exact ⟨ret_bool (name_yes (by omega) (by omega) hu).symm, rfl⟩

set_option maxHeartbeats 2000000 in
theorem impl_any (s : ByteArray) (w : World) (hs : s.size ≤ 1048576) :
    Calls Tryd.prog 49 #[.string s] w fun e w' => e = .returned (.bool (nameB s)) ∧ w' = w := by
  by_cases h1 : s.size < 1
  · have hn := name_size (s := s) (.inl h1)
    rw [hn]
    go_enter Tryd.func49, Tryd.ntmps49
    go_wp2
    go_ret
    exact ⟨rfl, rfl⟩
  by_cases h2 : 20 < s.size
  · have hn := name_size (s := s) (.inr h2)
    rw [hn]
    go_enter Tryd.func49, Tryd.ntmps49
    go_wp2
    go_ret
    exact ⟨rfl, rfl⟩
  go_enter Tryd.func49, Tryd.ntmps49
  go_wp2
  go_loop [3, 4, 5] (fun i _ _ => ∃ k : Nat, k ≤ s.size ∧ i = .int .i64 k ∧ upTo s k) (fun i _ _ => s.size - (intOf i).toNat)
  case atStart => exact ⟨0, Nat.zero_le _, rfl, upTo_zero s⟩
  case round =>
    obtain ⟨k, hk, rfl, hu⟩ := hrel
    by_cases hlt : k < s.size
    · have hno := name_no (s := s) hlt
      have hyes := upTo_succ hu hlt
      have HN : Hid (okAt k (s[k].toNat : Int) = false → nameB s = false) := hno
      have HY : Hid (okAt k (s[k].toNat : Int) = true → upTo s (k + 1)) := hyes
      clear hno hyes hu
      by_cases hk0 : k = 0
      · subst hk0
        rcases (show ((s[0].toNat : Int) < 48) ∨ (48 ≤ (s[0].toNat : Int) ∧ (s[0].toNat : Int) ≤ 57) ∨ (57 < (s[0].toNat : Int) ∧ (s[0].toNat : Int) < 95) ∨ (95 ≤ (s[0].toNat : Int) ∧ (s[0].toNat : Int) ≤ 95) ∨ (95 < (s[0].toNat : Int) ∧ (s[0].toNat : Int) < 97) ∨ (97 ≤ (s[0].toNat : Int) ∧ (s[0].toNat : Int) ≤ 122) ∨ 122 < (s[0].toNat : Int) from by omega) with hc | hc | hc | hc | hc | hc | hc
        all_goals
          (first | have a0 : (97 : Int) ≤ (s[0].toNat : Int) := by omega | have a0 : ¬ (97 : Int) ≤ (s[0].toNat : Int) := by omega)
          (first | have a1 : (s[0].toNat : Int) ≤ 122 := by omega | have a1 : ¬ (s[0].toNat : Int) ≤ 122 := by omega)
          (first | have a2 : (48 : Int) ≤ (s[0].toNat : Int) := by omega | have a2 : ¬ (48 : Int) ≤ (s[0].toNat : Int) := by omega)
          (first | have a3 : (s[0].toNat : Int) ≤ 57 := by omega | have a3 : ¬ (s[0].toNat : Int) ≤ 57 := by omega)
          (first | have a5 : ((s[0].toNat : Int) != 95) = true := by simp; omega | have a5 : ((s[0].toNat : Int) != 95) = false := by simp; omega)
          (first | have a6 : ((s[0].toNat : Int) == 95) = true := by simp; omega | have a6 : ((s[0].toNat : Int) == 95) = false := by simp; omega)
          go_wp2
          first
            | (go_ret; exact ⟨ret_bool (HN.out (by unfold okAt; simp; omega)).symm, rfl⟩)
            | (go_round
               case rel => exact ⟨1, by omega, by go_num, HY.out (by unfold okAt; simp; omega)⟩
               case measure => simp [intOf]; omega)
      · rcases (show ((s[k].toNat : Int) < 48) ∨ (48 ≤ (s[k].toNat : Int) ∧ (s[k].toNat : Int) ≤ 57) ∨ (57 < (s[k].toNat : Int) ∧ (s[k].toNat : Int) < 95) ∨ (95 ≤ (s[k].toNat : Int) ∧ (s[k].toNat : Int) ≤ 95) ∨ (95 < (s[k].toNat : Int) ∧ (s[k].toNat : Int) < 97) ∨ (97 ≤ (s[k].toNat : Int) ∧ (s[k].toNat : Int) ≤ 122) ∨ 122 < (s[k].toNat : Int) from by omega) with hc | hc | hc | hc | hc | hc | hc
        all_goals
          (first | have a0 : (97 : Int) ≤ (s[k].toNat : Int) := by omega | have a0 : ¬ (97 : Int) ≤ (s[k].toNat : Int) := by omega)
          (first | have a1 : (s[k].toNat : Int) ≤ 122 := by omega | have a1 : ¬ (s[k].toNat : Int) ≤ 122 := by omega)
          (first | have a2 : (48 : Int) ≤ (s[k].toNat : Int) := by omega | have a2 : ¬ (48 : Int) ≤ (s[k].toNat : Int) := by omega)
          (first | have a3 : (s[k].toNat : Int) ≤ 57 := by omega | have a3 : ¬ (s[k].toNat : Int) ≤ 57 := by omega)
          (first | have a5 : ((s[k].toNat : Int) != 95) = true := by simp; omega | have a5 : ((s[k].toNat : Int) != 95) = false := by simp; omega)
          (first | have a6 : ((s[k].toNat : Int) == 95) = true := by simp; omega | have a6 : ((s[k].toNat : Int) == 95) = false := by simp; omega)
          have a7 : ((k : Int) == 0) = false := by simp; omega
          go_wp2
          first
            | (go_ret; exact ⟨ret_bool (HN.out (by unfold okAt; simp; omega)).symm, rfl⟩)
            | (go_round
               case rel => exact ⟨k + 1, by omega, by go_num, HY.out (by unfold okAt; simp; omega)⟩
               case measure => simp [intOf]; omega)
    · go_wp2
      go_ret
      have : k = s.size := by omega
      subst this
      exact ⟨ret_bool (name_yes (by omega) (by omega) hu).symm, rfl⟩
end NameR
end Go.Proofs.YtgaihlhoegaliaaDoor
namespace Go.Proofs.YtgaihlhoegaliaaDoor
open Go.RowKit
set_option linter.unusedVariables false
namespace CatR
def tU (ts : List Ti) (i : Nat) : Int := (ts.getD i Ti.zero).u
def tP (ts : List Ti) (i : Nat) : Int := (ts.getD i Ti.zero).p
/-- The one ahead, 0 ahead of the first. -/
def tA (ts : List Ti) : Nat → Int
  | 0 => 0
  | k + 1 => tU ts k
/-- So many tiers rise from 1 on, with prices that may be. -/
def TOk (ts : List Ti) (k : Nat) : Prop := ∀ i, i < k → tA ts i < tU ts i ∧ 0 ≤ tP ts i ∧ tP ts i ≤ 1000000
def TRight (ts : List Ti) : Prop := 1 ≤ ts.length ∧ ts.length ≤ 5 ∧ TOk ts ts.length ∧ tA ts ts.length = 1000000000000
theorem TOk.zero (ts : List Ti) : TOk ts 0 := fun i h => absurd h (by omega)
theorem TOk.more {ts : List Ti} {k : Nat} (h : TOk ts k) (h1 : tA ts k < tU ts k) (h2 : 0 ≤ tP ts k) (h3 : tP ts k ≤ 1000000) : TOk ts (k + 1) := by
  intro i hi
  by_cases e : i = k
  · subst e; exact ⟨h1, h2, h3⟩
  · exact h i (by omega)
theorem TOk.rise {ts : List Ti} {n : Nat} (h : TOk ts n) : ∀ i, i ≤ n → 0 ≤ tA ts i ∧ ∀ j, j ≤ i → tA ts j ≤ tA ts i
  | 0, _ => ⟨by simp [tA], fun j hj => by obtain rfl : j = 0 := by omega
                                          exact Int.le_refl _⟩
  | i + 1, hi => by
    obtain ⟨a, b⟩ := TOk.rise h i (by omega)
    have c := (h i (by omega)).1
    have d : tA ts (i + 1) = tU ts i := rfl
    refine ⟨by omega, fun j hj => ?_⟩
    by_cases e : j = i + 1
    · subst e; exact Int.le_refl _
    · have := b j (by omega)
      omega
/-- A tier that is beyond the last Upto is not right. -/
theorem TRight.upto {ts : List Ti} (h : TRight ts) (k : Nat) (hk : k < ts.length) : 1 ≤ tU ts k ∧ tU ts k ≤ 1000000000000 := by
  obtain ⟨_, _, h3, h4⟩ := h
  have a := (h3.rise ts.length (Nat.le_refl _)).2 (k + 1) (by omega)
  have b := (h3.rise k (by omega)).1
  have c := (h3 k hk).1
  have d : tA ts (k + 1) = tU ts k := rfl
  omega
/-- A meter that is right. -/
def MRight (m : Me) : Prop := NameR.nameB m.n = true ∧ (1 ≤ m.g ∧ m.g ≤ 4) ∧ (0 ≤ m.f ∧ m.f ≤ 1000000000) ∧ (0 ≤ m.l ∧ m.l ≤ 1000000000000) ∧ TRight m.ts
def TOkDec (ts : List Ti) (k : Nat) : Decidable (TOk ts k) := inferInstanceAs (Decidable (∀ i, i < k → tA ts i < tU ts i ∧ 0 ≤ tP ts i ∧ tP ts i ≤ 1000000))
def TRightDec (ts : List Ti) : Decidable (TRight ts) :=
  haveI := TOkDec ts ts.length
  inferInstanceAs (Decidable (1 ≤ ts.length ∧ ts.length ≤ 5 ∧ TOk ts ts.length ∧ tA ts ts.length = 1000000000000))
def MRightDec (m : Me) : Decidable (MRight m) :=
  haveI := TRightDec m.ts
  inferInstanceAs (Decidable (NameR.nameB m.n = true ∧ (1 ≤ m.g ∧ m.g ≤ 4) ∧ (0 ≤ m.f ∧ m.f ≤ 1000000000) ∧ (0 ≤ m.l ∧ m.l ≤ 1000000000000) ∧ TRight m.ts))
def tB (ts : List Ti) : Bool := @decide (TRight ts) (TRightDec ts)
def mB (m : Me) : Bool := @decide (MRight m) (MRightDec m)
theorem tB_no {ts : List Ti} (h : ¬ TRight ts) : tB ts = false := by unfold tB; exact @decide_eq_false _ (TRightDec ts) h
theorem tB_yes {ts : List Ti} (h : TRight ts) : tB ts = true := by unfold tB; exact @decide_eq_true _ (TRightDec ts) h
theorem tB_false {ts : List Ti} {k : Nat} (hk : k < ts.length) (h : ¬ (tA ts k < tU ts k ∧ 0 ≤ tP ts k ∧ tP ts k ≤ 1000000)) : tB ts = false := tB_no (fun hr => h (hr.2.2.1 k hk))
theorem tB_over {ts : List Ti} {k : Nat} (hk : k < ts.length) (h : ¬ (1 ≤ tU ts k ∧ tU ts k ≤ 1000000000000)) : tB ts = false := tB_no (fun hr => h (hr.upto k hk))
theorem tB_end {ts : List Ti} (h1 : 1 ≤ ts.length) (h5 : ts.length ≤ 5) (h : TOk ts ts.length) : tB ts = decide (tA ts ts.length = 1000000000000) := by
  by_cases e : tA ts ts.length = 1000000000000
  · rw [decide_eq_true e]; exact tB_yes ⟨h1, h5, h, e⟩
  · rw [decide_eq_false e]; exact tB_no (fun hr => e hr.2.2.2)
theorem mB_eq (m : Me) : mB m = (NameR.nameB m.n && decide (1 ≤ m.g ∧ m.g ≤ 4) && decide (0 ≤ m.f ∧ m.f ≤ 1000000000) && decide (0 ≤ m.l ∧ m.l ≤ 1000000000000) && tB m.ts) := by
  unfold mB tB
  rw [Bool.eq_iff_iff]
  simp only [decide_eq_true_eq, Bool.and_eq_true]
  unfold MRight
  constructor
  · rintro ⟨a, b, c, d, e⟩; exact ⟨⟨⟨⟨a, b⟩, c⟩, d⟩, e⟩
  · rintro ⟨⟨⟨⟨a, b⟩, c⟩, d⟩, e⟩; exact ⟨a, b, c, d, e⟩
end CatR
end Go.Proofs.YtgaihlhoegaliaaDoor
namespace Go.Proofs.YtgaihlhoegaliaaDoor
open Go.RowKit
set_option linter.unusedVariables false
namespace CatR
open Op (bytesLess)
theorem bl_irrefl : ∀ x : List UInt8, bytesLess x x = false
  | [] => rfl
  | a :: x => by
    rw [bytesLess, bl_irrefl x]
    simp
theorem bl_trans : ∀ {x y z : List UInt8}, bytesLess x y = true → bytesLess y z = true → bytesLess x z = true
  | _, [], _, h, _ => by simp [bytesLess] at h
  | _, _ :: _, [], _, h => by simp [bytesLess] at h
  | [], _ :: _, _ :: _, _, _ => rfl
  | a :: x, b :: y, c :: z, h1, h2 => by
    rw [bytesLess] at *
    simp only [Bool.or_eq_true, Bool.and_eq_true, decide_eq_true_eq, beq_iff_eq] at *
    rcases h1 with h1 | ⟨rfl, h1⟩
    · rcases h2 with h2 | ⟨rfl, h2⟩
      · exact .inl (UInt8.lt_trans h1 h2)
      · exact .inl h1
    · rcases h2 with h2 | ⟨rfl, h2⟩
      · exact .inl h2
      · exact .inr ⟨rfl, bl_trans h1 h2⟩
theorem bl_total : ∀ {x y : List UInt8}, bytesLess x y = false → bytesLess y x = false → x = y
  | [], [], _, _ => rfl
  | [], _ :: _, h, _ => by simp [bytesLess] at h
  | _ :: _, [], _, h => by simp [bytesLess] at h
  | a :: x, b :: y, h1, h2 => by
    rw [bytesLess] at *
    simp only [Bool.or_eq_false_iff, Bool.and_eq_false_iff, decide_eq_false_iff_not, beq_eq_false_iff_ne] at *
    have e : a = b := by
      have p1 := h1.1
      have p2 := h2.1
      rw [UInt8.lt_iff_toNat_lt] at p1 p2
      exact UInt8.toNat.inj (by omega)
    subst e
    rw [bl_total (h1.2.resolve_left (fun h => h rfl)) (h2.2.resolve_left (fun h => h rfl))]
/-- One text is ahead of another. -/
def lt (a b : ByteArray) : Bool := bytesLess a.toList b.toList
theorem toList_inj {a b : ByteArray} (h : a.toList = b.toList) : a = b := by
  rw [ByteArray.toList_eq, ByteArray.toList_eq] at h
  exact ByteArray.ext (Array.ext' h)
theorem lt_irrefl (a : ByteArray) : lt a a = false := bl_irrefl _
theorem lt_trans {a b c : ByteArray} (h1 : lt a b = true) (h2 : lt b c = true) : lt a c = true := bl_trans h1 h2
theorem lt_total {a b : ByteArray} (h1 : lt a b = false) (h2 : lt b a = false) : a = b := toList_inj (bl_total h1 h2)
theorem lt_asymm {a b : ByteArray} (h : lt a b = true) : lt b a = false := by
  cases h2 : lt b a
  · rfl
  · have := lt_trans h h2
    rw [lt_irrefl] at this
    cases this
theorem lt_empty {b : ByteArray} (h : 1 ≤ b.size) : lt ⟨#[]⟩ b = true := by
  unfold lt
  have h1 : (⟨#[]⟩ : ByteArray).toList = [] := by rw [ByteArray.toList_eq]
  rw [h1]
  cases hb : b.toList with
  | nil =>
    rw [ByteArray.toList_eq] at hb
    have : b.data.toList.length = 0 := by rw [hb]; rfl
    have h2 : b.data.toList.length = b.size := rfl
    omega
  | cons x l => rfl
def mN (ms : List Me) (i : Nat) : ByteArray := (ms.getD i Me.zero).n
def cA (cs : List Cr) (i : Nat) : ByteArray := (cs.getD i Cr.zero).a
def cM (cs : List Cr) (i : Nat) : Int := (cs.getD i Cr.zero).m
/-- So many meters are right and rise by name; so many credits by account. -/
def MOk (ms : List Me) (k : Nat) : Prop := ∀ i, i < k → MRight (ms.getD i Me.zero) ∧ (0 < i → lt (mN ms (i - 1)) (mN ms i) = true)
def COk (cs : List Cr) (k : Nat) : Prop := ∀ i, i < k → (NameR.nameB (cA cs i) = true ∧ 0 ≤ cM cs i ∧ cM cs i ≤ 1000000000000) ∧ (0 < i → lt (cA cs (i - 1)) (cA cs i) = true)
def MsRight (ms : List Me) : Prop := ms.length ≤ 6 ∧ MOk ms ms.length
def CsRight (cs : List Cr) : Prop := cs.length ≤ 6 ∧ COk cs cs.length
theorem MOk.rise {ms : List Me} {k : Nat} (h : MOk ms k) : ∀ j, j < k → ∀ i, i < j → lt (mN ms i) (mN ms j) = true
  | 0, _, i, hi => absurd hi (by omega)
  | j + 1, hj, i, hi => by
    have h1 : lt (mN ms j) (mN ms (j + 1)) = true := (h (j + 1) hj).2 (by omega)
    by_cases e : i = j
    · subst e; exact h1
    · exact lt_trans (MOk.rise h j (by omega) i (by omega)) h1
theorem MOk.apart {ms : List Me} {k : Nat} (h : MOk ms k) {i j : Nat} (hi : i < k) (hj : j < k) (e : mN ms i = mN ms j) : i = j := by
  rcases Nat.lt_trichotomy i j with h1 | h1 | h1
  · have := h.rise j hj i h1
    rw [e, lt_irrefl] at this
    cases this
  · exact h1
  · have := h.rise i hi j h1
    rw [e, lt_irrefl] at this
    cases this
theorem MOk.zero (ms : List Me) : MOk ms 0 := fun i h => absurd h (by omega)
theorem COk.zero (cs : List Cr) : COk cs 0 := fun i h => absurd h (by omega)
theorem MOk.more {ms : List Me} {k : Nat} (h : MOk ms k) (h1 : MRight (ms.getD k Me.zero)) (h2 : 0 < k → lt (mN ms (k - 1)) (mN ms k) = true) : MOk ms (k + 1) := by
  intro i hi
  by_cases e : i = k
  · subst e; exact ⟨h1, h2⟩
  · exact h i (by omega)
theorem COk.more {cs : List Cr} {k : Nat} (h : COk cs k) (h1 : NameR.nameB (cA cs k) = true) (h3 : 0 ≤ cM cs k ∧ cM cs k ≤ 1000000000000) (h2 : 0 < k → lt (cA cs (k - 1)) (cA cs k) = true) : COk cs (k + 1) := by
  intro i hi
  by_cases e : i = k
  · subst e; exact ⟨⟨h1, h3⟩, h2⟩
  · exact h i (by omega)
def MOkDec (ms : List Me) (k : Nat) : Decidable (MOk ms k) :=
  haveI := MRightDec
  inferInstanceAs (Decidable (∀ i, i < k → MRight (ms.getD i Me.zero) ∧ (0 < i → lt (mN ms (i - 1)) (mN ms i) = true)))
def COkDec (cs : List Cr) (k : Nat) : Decidable (COk cs k) := inferInstanceAs (Decidable (∀ i, i < k → (NameR.nameB (cA cs i) = true ∧ 0 ≤ cM cs i ∧ cM cs i ≤ 1000000000000) ∧ (0 < i → lt (cA cs (i - 1)) (cA cs i) = true)))
def MsRightDec (ms : List Me) : Decidable (MsRight ms) :=
  haveI := MOkDec ms ms.length
  inferInstanceAs (Decidable (ms.length ≤ 6 ∧ MOk ms ms.length))
def CsRightDec (cs : List Cr) : Decidable (CsRight cs) :=
  haveI := COkDec cs cs.length
  inferInstanceAs (Decidable (cs.length ≤ 6 ∧ COk cs cs.length))
def msB (ms : List Me) : Bool := @decide (MsRight ms) (MsRightDec ms)
def csB (cs : List Cr) : Bool := @decide (CsRight cs) (CsRightDec cs)
def caB (c : Ca) : Bool := msB c.ms && csB c.cs
theorem msB_no {ms : List Me} (h : ¬ MsRight ms) : msB ms = false := by unfold msB; exact @decide_eq_false _ (MsRightDec ms) h
theorem msB_yes {ms : List Me} (h : MsRight ms) : msB ms = true := by unfold msB; exact @decide_eq_true _ (MsRightDec ms) h
theorem msB_iff {ms : List Me} : msB ms = true ↔ MsRight ms := by unfold msB; exact @decide_eq_true_iff _ (MsRightDec ms)
theorem csB_no {cs : List Cr} (h : ¬ CsRight cs) : csB cs = false := by unfold csB; exact @decide_eq_false _ (CsRightDec cs) h
theorem csB_yes {cs : List Cr} (h : CsRight cs) : csB cs = true := by unfold csB; exact @decide_eq_true _ (CsRightDec cs) h
theorem csB_iff {cs : List Cr} : csB cs = true ↔ CsRight cs := by unfold csB; exact @decide_eq_true_iff _ (CsRightDec cs)
theorem mB_iff {m : Me} : mB m = true ↔ MRight m := by unfold mB; exact @decide_eq_true_iff _ (MRightDec m)
/-- How an element of the map is read: as itself. -/
def RV (v : Value) : Option (DataW Value × List MemPlace) := some (.held v, [])
/-- A name as a key. -/
def kS (n : ByteArray) : Lit := .string n.data.toList
theorem kS_inj {a b : ByteArray} (h : kS a = kS b) : a = b := by
  unfold kS at h
  simp only [Lit.string.injEq] at h
  exact ByteArray.ext (Array.ext' h)
theorem kS_key (n : ByteArray) : WideAt.IsKeyLit (kS n) := by
  unfold kS
  first | trivial | exact rfl | (simp [WideAt.IsKeyLit])
/-- The map of so many meters. -/
def mapD (ms : List Me) (V : Nat → Value) : Nat → DataW Value
  | 0 => .map []
  | k + 1 => (mapD ms V k).put (kS (mN ms k)) (.held (V k))
theorem mapD_is (ms : List Me) (V : Nat → Value) : ∀ k, Maps.IsMap (mapD ms V k)
  | 0 => Maps.isMap_empty
  | k + 1 => (mapD_is ms V k).put _ _
theorem has_mapD (ms : List Me) (V : Nat → Value) (n : ByteArray) : ∀ k, Maps.has (mapD ms V k) (kS n) = true ↔ ∃ i, i < k ∧ mN ms i = n
  | 0 => by
    refine ⟨fun h => ?_, fun ⟨i, hi, _⟩ => absurd hi (by omega)⟩
    rw [mapD, Maps.has_eq] at h
    simp at h
  | k + 1 => by
    rw [mapD]
    by_cases e : n = mN ms k
    · subst e
      rw [Maps.has_put_same (mapD_is ms V k) (kS_key _)]
      exact ⟨fun _ => ⟨k, by omega, rfl⟩, fun _ => rfl⟩
    · rw [Maps.has_put_other (fun h => e (kS_inj h)), has_mapD ms V n k]
      constructor
      · rintro ⟨i, hi, h⟩; exact ⟨i, by omega, h⟩
      · rintro ⟨i, hi, h⟩
        refine ⟨i, ?_, h⟩
        rcases Nat.lt_or_ge i k with h1 | h1
        · exact h1
        · obtain rfl : i = k := by omega
          exact absurd h.symm e
theorem at_mapD (ms : List Me) (V : Nat → Value) (z : DataW Value) : ∀ k, (∀ i j, i < k → j < k → mN ms i = mN ms j → i = j) → ∀ i, i < k → (mapD ms V k).atKey (kS (mN ms i)) z = .held (V i)
  | 0, _, i, hi => absurd hi (by omega)
  | k + 1, hd, i, hi => by
    rw [mapD]
    by_cases e : i = k
    · subst e
      exact Maps.atKey_put_same (mapD_is ms V i) (kS_key _) _ _
    · rw [Maps.atKey_put_other (fun h => e (hd i k hi (by omega) (kS_inj h)))]
      exact at_mapD ms V z k (fun i j hi hj => hd i j (by omega) (by omega)) i (by omega)
theorem at_mapD_some (ms : List Me) (V : Nat → Value) (n : ByteArray) : ∀ k, (∃ i, i < k ∧ mN ms i = n) → ∃ j, j < k ∧ ∀ z, (mapD ms V k).atKey (kS n) z = .held (V j)
  | 0, ⟨i, hi, _⟩ => absurd hi (by omega)
  | k + 1, h => by
    by_cases e : n = mN ms k
    · subst e
      exact ⟨k, by omega, fun z => by rw [mapD]; exact Maps.atKey_put_same (mapD_is ms V k) (kS_key _) _ _⟩
    · obtain ⟨i, hi, he⟩ := h
      obtain ⟨j, hj, h2⟩ := at_mapD_some ms V n k ⟨i, by
        rcases Nat.lt_or_ge i k with h1 | h1
        · exact h1
        · obtain rfl : i = k := by omega
          exact absurd he.symm e, he⟩
      exact ⟨j, by omega, fun z => by rw [mapD, Maps.atKey_put_other (fun h => e (kS_inj h))]; exact h2 z⟩
/-- .. with so many taken out again. -/
def delD (ms : List Me) (D : DataW Value) : Nat → DataW Value
  | 0 => D
  | k + 1 => (delD ms D k).del (kS (mN ms k))
theorem has_delD (ms : List Me) (D : DataW Value) (n : ByteArray) : ∀ k, Maps.has (delD ms D k) (kS n) = true ↔ (Maps.has D (kS n) = true ∧ ∀ i, i < k → mN ms i ≠ n)
  | 0 => ⟨fun h => ⟨h, fun i hi => absurd hi (by omega)⟩, fun h => h.1⟩
  | k + 1 => by
    rw [delD]
    by_cases e : n = mN ms k
    · subst e
      rw [Maps.has_del_same]
      exact ⟨fun h => (by cases h), fun h => absurd rfl (h.2 k (by omega))⟩
    · rw [Maps.has_del_other (fun h => e (kS_inj h)), has_delD ms D n k]
      constructor
      · rintro ⟨h1, h2⟩
        refine ⟨h1, fun i hi h => ?_⟩
        rcases Nat.lt_or_ge i k with h3 | h3
        · exact h2 i h3 h
        · obtain rfl : i = k := by omega
          exact e h.symm
      · rintro ⟨h1, h2⟩; exact ⟨h1, fun i hi => h2 i (by omega)⟩
theorem at_delD (ms : List Me) (D : DataW Value) (n : ByteArray) (z : DataW Value) : ∀ k, (∀ i, i < k → mN ms i ≠ n) → (delD ms D k).atKey (kS n) z = D.atKey (kS n) z
  | 0, _ => rfl
  | k + 1, h => by
    rw [delD, Maps.atKey_del_other (fun e => h k (by omega) (kS_inj e).symm)]
    exact at_delD ms D n z k (fun i hi => h i (by omega))
theorem ms_alike {ms : List Me} {k i : Nat} (hk : k < ms.length) (hi : i < k) (e : mN ms i = mN ms k) : msB ms = false := msB_no (fun h => by
  have := h.2.apart (by omega) hk e
  omega)
theorem ms_falls {ms : List Me} {k : Nat} (hk : k < ms.length) (h0 : 0 < k) (h : lt (mN ms k) (mN ms (k - 1)) = true) : msB ms = false := msB_no (fun hr => by
  have := lt_asymm ((hr.2 k hk).2 h0)
  rw [h] at this
  cases this)
theorem ms_flat {ms : List Me} {k : Nat} (hk : k < ms.length) (h0 : 0 < k) (h : lt (mN ms (k - 1)) (mN ms k) = false) : msB ms = false := msB_no (fun hr => by
  have := (hr.2 k hk).2 h0
  rw [h] at this
  cases this)
theorem ms_wrong {ms : List Me} {k : Nat} (hk : k < ms.length) (h : mB (ms.getD k Me.zero) = false) : msB ms = false := msB_no (fun hr => by
  have := mB_iff.2 (hr.2 k hk).1
  rw [h] at this
  cases this)
theorem ms_end {ms : List Me} (h6 : ms.length ≤ 6) (h : MOk ms ms.length) : msB ms = true := msB_yes ⟨h6, h⟩
theorem ms_many {ms : List Me} (h6 : 6 < ms.length) : msB ms = false := msB_no (fun hr => by have := hr.1; omega)
theorem cs_many {cs : List Cr} (h6 : 6 < cs.length) : csB cs = false := csB_no (fun hr => by have := hr.1; omega)
theorem cs_end {cs : List Cr} (h6 : cs.length ≤ 6) (h : COk cs cs.length) : csB cs = true := csB_yes ⟨h6, h⟩
theorem cs_name {cs : List Cr} {k : Nat} (hk : k < cs.length) (h : NameR.nameB (cA cs k) = false) : csB cs = false := csB_no (fun hr => by
  have := (hr.2 k hk).1.1
  rw [h] at this
  cases this)
theorem cs_micro {cs : List Cr} {k : Nat} (hk : k < cs.length) (h : ¬ (0 ≤ cM cs k ∧ cM cs k ≤ 1000000000000)) : csB cs = false := csB_no (fun hr => h (hr.2 k hk).1.2)
theorem cs_flat {cs : List Cr} {k : Nat} (hk : k < cs.length) (h0 : 0 < k) (h : lt (cA cs (k - 1)) (cA cs k) = false) : csB cs = false := csB_no (fun hr => by
  have := (hr.2 k hk).2 h0
  rw [h] at this
  cases this)
end CatR
end Go.Proofs.YtgaihlhoegaliaaDoor
namespace Go.Proofs.YtgaihlhoegaliaaDoor
open Go.ChangeShapes Go.WideShapes Go.ChangeAt Go.RowKit
open Go.ChangeMaps (open_string shut_string)
set_option linter.unusedVariables false
namespace PutTextL
theorem spec_text (t : ByteArray) (w : World) (ht : t.size ≤ 8000) :
    Calls Tryd.prog 40 #[.string t] w fun e w' => e = .returned (.string (NumR.numB t.size ++ t)) ∧ Below w.heap.size w w' := by
  obtain ⟨v, hv⟩ : ∃ v, v = NumR.numB t.size := ⟨_, rfl⟩
  have h1 := fun w => NumR.spec_put t.size w (by omega)
  have h2 := NumR.numB_size (n := t.size) (by omega)
  rw [← hv] at h1 h2
  rw [← hv]
  clear hv
  go_enter Tryd.func40, Tryd.ntmps40
  go_wp2_with (first | (go_at_call 39; refine (h1 _).mono ?_; rintro e w1 ⟨rfl, hb1⟩))
  go_ret
  exact ⟨rfl, hb1⟩
theorem spec_big (t : ByteArray) (w : World) (ht : 8000 < t.size) (hm : t.size ≤ 1048576) :
    Calls Tryd.prog 40 #[.string t] w fun e w' => e = .returned (.string ⟨#[]⟩) ∧ Below w.heap.size w w' := by
  go_enter Tryd.func40, Tryd.ntmps40
  go_wp2
  go_ret
  exact ⟨rfl, Below.refl _ _⟩
end PutTextL
end Go.Proofs.YtgaihlhoegaliaaDoor
namespace Go.Proofs.YtgaihlhoegaliaaDoor
open Go.ChangeShapes Go.WideShapes Go.ChangeAt Go.RowKit
set_option linter.unusedVariables false
namespace CatR
theorem hid_intro {p : Prop} (h : p) : Hid p := h
theorem within64 (n low high : Int) (w : World) :
    Calls Tryd.prog 42 #[.int .i64 n, .int .i64 low, .int .i64 high] w fun e w' => e = .returned (.bool (decide (low ≤ n ∧ n ≤ high))) ∧ w' = w := by
  rcases (show (¬ low ≤ n) ∨ (low ≤ n ∧ ¬ n ≤ high) ∨ (low ≤ n ∧ n ≤ high) by omega) with h | ⟨h1, h2⟩ | ⟨h1, h2⟩
  all_goals
    go_enter Tryd.func42, Tryd.ntmps42
    go_wp2
    go_ret
    exact ⟨ret_bool (by first | (simp [*]; done) | (simp; omega)), rfl⟩
theorem withinI (n low high : Int) (w : World) :
    Calls Tryd.prog 63 #[.int .i64 n, .int .i64 low, .int .i64 high] w fun e w' => e = .returned (.bool (decide (low ≤ n ∧ n ≤ high))) ∧ w' = w := by
  rcases (show (¬ low ≤ n) ∨ (low ≤ n ∧ ¬ n ≤ high) ∨ (low ≤ n ∧ n ≤ high) by omega) with h | ⟨h1, h2⟩ | ⟨h1, h2⟩
  all_goals
    go_enter Tryd.func63, Tryd.ntmps63
    go_wp2
    go_ret
    exact ⟨ret_bool (by first | (simp [*]; done) | (simp; omega)), rfl⟩
theorem isS (n low high : Int) (w : World) :
    Calls Tryd.prog 20 #[.int .i64 n, .int .i64 low, .int .i64 high] w fun e w' => e = .returned (.bool (decide (low ≤ n ∧ n ≤ high))) ∧ w' = w := by
  rcases (show (¬ low ≤ n) ∨ (low ≤ n ∧ ¬ n ≤ high) ∨ (low ≤ n ∧ n ≤ high) by omega) with h | ⟨h1, h2⟩ | ⟨h1, h2⟩
  all_goals
    go_enter Tryd.func20, Tryd.ntmps20
    go_wp2
    go_ret
    exact ⟨ret_bool (by first | (simp [*]; done) | (simp; omega)), rfl⟩
set_option maxRecDepth 100000 in
set_option maxHeartbeats 4000000 in
theorem impl_tiers (ao : Option Addr) (len cap : Nat) (ts : List Ti) (w : World) (hlen : len ≤ 1048576) (hI : Tis ao len ts w) :
    Calls Tryd.prog 61 #[.slice ao len cap] w fun e w' => e = .returned (.bool (tB ts)) ∧ Below w.heap.size w w' := by
  have hz := hI.1
  have HWI := hid_intro (fun w => withinI len 1 5 w)
  by_cases h15 : 1 ≤ len ∧ len ≤ 5
  · rw [decide_eq_true (by omega)] at HWI
    have HI := hid_intro hI
    have HZ := hid_intro hz
    have HT0 := hid_intro (fun k (hk : k < ts.length) => tB_false (ts := ts) hk)
    have HTE := hid_intro (fun h => tB_end (ts := ts) (by omega) (by omega) h)
    generalize tB ts = R at *
    clear hI hz
    go_enter Tryd.func61, Tryd.ntmps61
    go_wp2_with (go_at_call 63; refine (HWI.out _).mono ?_; rintro e w0 ⟨rfl, rfl⟩)
    go_loopw [3, 12] (fun x z wr => ∃ k : Nat, k ≤ len ∧ x = .int .i64 (tA ts k) ∧ z = .int .i64 k ∧ Hid (TOk ts k) ∧ Hid (Below w0.heap.size w0 wr)) (fun x z _ => len - (intOf z).toNat)
    case atStart => exact ⟨0, by omega, rfl, rfl, hid_intro (TOk.zero ts), hid_intro (Below.refl _ _)⟩
    case round =>
      obtain ⟨k, hk, rfl, rfl, HK, HB⟩ := hrel
      by_cases hlt : k < len
      · have hlt2 : (k : Int) < (len : Int) := by omega
        obtain ⟨b, off, rfl, hbl, d0, d1⟩ := tis_at (HI.out.below HB.out) k hlt
        have c0 : wr.cell? ⟨b, off + k * 2, none⟩ = some (.int .i64 (tU ts k)) := d0
        have c1 : wr.cell? ⟨b, off + k * 2 + 1, none⟩ = some (.int .i64 (tP ts k)) := d1
        clear d0 d1
        have HT := hid_intro (HT0.out k (by have := HZ.out; omega))
        have HM := hid_intro (fun h1 h2 h3 => HK.out.more (k := k) h1 h2 h3)
        have HU : Hid (tA ts (k + 1) = tU ts k) := rfl
        have HW2 := hid_intro (fun w => within64 (tP ts k) 0 1000000 w)
        generalize tA ts k = A at *
        generalize tU ts k = U at *
        generalize tP ts k = P at *
        have HAl := hid_intro (fun o => HB.out.alloc HB.out.size o)
        rcases (show (U ≤ A) ∨ (¬ U ≤ A ∧ ¬ (0 ≤ P ∧ P ≤ 1000000)) ∨ (¬ U ≤ A ∧ (0 ≤ P ∧ P ≤ 1000000)) by omega) with q | ⟨q, q2⟩ | ⟨q, q2⟩
        · have HR : Hid (R = false) := hid_intro (HT.out (by omega))
          go_wp2_with fail
          go_ret
          exact ⟨ret_bool HR.out.symm, HAl.out _⟩
        · have HR : Hid (R = false) := hid_intro (HT.out (fun h => q2 h.2))
          rw [decide_eq_false q2] at HW2
          go_wp2_with (go_at_call 42; refine (HW2.out _).mono ?_; rintro e w' ⟨rfl, rfl⟩)
          go_ret
          exact ⟨ret_bool HR.out.symm, HAl.out _⟩
        · have HM2 := hid_intro (HM.out (by omega) q2.1 q2.2)
          rw [decide_eq_true q2] at HW2
          go_wp2_with (go_at_call 42; refine (HW2.out _).mono ?_; rintro e w' ⟨rfl, rfl⟩)
          go_roundw
          case rel => exact ⟨k + 1, by omega, by rw [HU.out], by go_num, HM2, hid_intro (HAl.out _)⟩
          case measure => simp [intOf]; omega
      · obtain rfl : k = len := by omega
        have HR : Hid (R = decide (tA ts k = 1000000000000)) := hid_intro (by have h := HTE.out; rw [HZ.out] at h; exact h HK.out)
        generalize tA ts k = A at *
        by_cases q : A = 1000000000000
        · rw [decide_eq_true q] at HR
          go_wp2_with fail
          go_ret
          exact ⟨ret_bool (by rw [HR.out]; try simp [q]), HB.out⟩
        · rw [decide_eq_false q] at HR
          go_wp2_with fail
          go_ret
          exact ⟨ret_bool (by rw [HR.out]; try simp [q]), HB.out⟩
  · rw [decide_eq_false (by omega)] at HWI
    have HR : Hid (tB ts = false) := hid_intro (tB_no (fun h => by have := h.1; have := h.2.1; omega))
    clear hI hz
    go_enter Tryd.func61, Tryd.ntmps61
    go_wp2_with (go_at_call 63; refine (HWI.out _).mono ?_; rintro e w0 ⟨rfl, rfl⟩)
    go_ret
    exact ⟨ret_bool HR.out.symm, Below.refl _ _⟩
end CatR
end Go.Proofs.YtgaihlhoegaliaaDoor
namespace Go.Proofs.YtgaihlhoegaliaaDoor
open Go.ChangeShapes Go.WideShapes Go.ChangeAt Go.RowKit
set_option linter.unusedVariables false
namespace CatR
/-- A row of meters with the values that stand there. -/
def MesV (ao : Option Addr) (len : Nat) (ms : List Me) (V : Nat → Value) (w : World) : Prop := len = 0 ∨ ∃ b off, ao = some ⟨b, off, none⟩ ∧ b < w.heap.size ∧ ∀ j, j < len → ∃ ta tc, V j = .agg #[.string (mN ms j), .int .i64 (ms.getD j Me.zero).g, .bool (ms.getD j Me.zero).wh, .int .i64 (ms.getD j Me.zero).f, .int .i64 (ms.getD j Me.zero).l, .slice ta (ms.getD j Me.zero).ts.length tc] ∧ w.cell? ⟨b, off + j * 6, none⟩ = some (.string (mN ms j)) ∧ w.cell? ⟨b, off + j * 6 + 1, none⟩ = some (.int .i64 (ms.getD j Me.zero).g) ∧ w.cell? ⟨b, off + j * 6 + 2, none⟩ = some (.bool (ms.getD j Me.zero).wh) ∧ w.cell? ⟨b, off + j * 6 + 3, none⟩ = some (.int .i64 (ms.getD j Me.zero).f) ∧ w.cell? ⟨b, off + j * 6 + 4, none⟩ = some (.int .i64 (ms.getD j Me.zero).l) ∧ w.cell? ⟨b, off + j * 6 + 5, none⟩ = some (.slice ta (ms.getD j Me.zero).ts.length tc) ∧ Tis ta (ms.getD j Me.zero).ts.length (ms.getD j Me.zero).ts w
theorem MesV.below {ao : Option Addr} {len : Nat} {ms : List Me} {V : Nat → Value} {w w' : World} (h : MesV ao len ms V w) (hb : Below w.heap.size w w') : MesV ao len ms V w' := by
  rcases h with h | ⟨b, off, rfl, hl, h⟩
  · exact .inl h
  · refine .inr ⟨b, off, rfl, by have := hb.size; omega, fun j hj => ?_⟩
    obtain ⟨ta, tc, hv, h0, h1, h2, h3, h4, h5, h6⟩ := h j hj
    have f := fun k => hb.cell (p := ⟨b, k, none⟩) hl
    exact ⟨ta, tc, hv, (f _).trans h0, (f _).trans h1, (f _).trans h2, (f _).trans h3, (f _).trans h4, (f _).trans h5, h6.below hb⟩
theorem MesV.is {ao : Option Addr} {len : Nat} {ms : List Me} {V : Nat → Value} {w : World} (h : MesV ao len ms V w) (j : Nat) (hj : j < len) : IsMe (V j) (ms.getD j Me.zero) w := by
  rcases h with h | ⟨b, off, rfl, hl, h⟩
  · omega
  · obtain ⟨ta, tc, hv, _, _, _, _, _, _, h6⟩ := h j hj
    exact ⟨ta, tc, hv, h6⟩
theorem mes_v {ao : Option Addr} {len : Nat} {ms : List Me} {w : World} (h : Mes ao len ms w) : ∃ V, MesV ao len ms V w := by
  rcases h.2 with h | ⟨b, off, rfl, hl, h⟩
  · exact ⟨fun _ => undef, .inl h⟩
  · refine ⟨fun j => if hj : j < len then .agg #[.string (mN ms j), .int .i64 (ms.getD j Me.zero).g, .bool (ms.getD j Me.zero).wh, .int .i64 (ms.getD j Me.zero).f, .int .i64 (ms.getD j Me.zero).l, .slice (Classical.choose (h j hj)) (ms.getD j Me.zero).ts.length (Classical.choose (Classical.choose_spec (h j hj)))] else undef, .inr ⟨b, off, rfl, hl, fun j hj => ?_⟩⟩
    obtain ⟨h0, h1, h2, h3, h4, h5, h6⟩ := Classical.choose_spec (Classical.choose_spec (h j hj))
    exact ⟨_, _, by simp only [hj, dif_pos], h0, h1, h2, h3, h4, h5, h6⟩
theorem keyedS : Maps.Keyed Tryd.prog 9 := Maps.string_keyed Tryd.underlying9
set_option maxRecDepth 100000 in
set_option maxHeartbeats 4000000 in
theorem byName_any (ao : Option Addr) (len cap : Nat) (ms : List Me) (V : Nat → Value) (w : World) (hlen : len ≤ 6) (hn : ∀ i, i < len → (mN ms i).size ≤ 1048576) (hI : MesV ao len ms V w) :
    Calls Tryd.prog 45 #[.slice ao len cap] w fun e w' => e = .returned (.map (some w.heap.size)) ∧ w'.ownsMap Tryd.prog 9 RV w.heap.size len (mapD ms V len) ∧ Below w.heap.size w w' := by
  have HI := hid_intro hI
  have HN := hid_intro hn
  clear hI hn
  have HO0 : Hid ((w.alloc (.map #[] 0)).ownsMap Tryd.prog 9 RV w.heap.size 0 (mapD ms V 0)) := hid_intro (World.ownsMap_made w Tryd.prog 9 RV)
  have HB0 : Hid (Below w.heap.size w (w.alloc (.map #[] 0))) := hid_intro ((Below.refl _ _).alloc (Nat.le_refl _) _)
  have hmm := @run_makeMap Tryd.prog
  go_enter Tryd.func45, Tryd.ntmps45
  go_wp2_with fail
  go_loopw [9] (fun z wr => ∃ k : Nat, k ≤ len ∧ z = .int .i64 k ∧ Hid (Below w.heap.size w wr) ∧ Hid (wr.ownsMap Tryd.prog 9 RV w.heap.size k (mapD ms V k))) (fun z _ => len - (intOf z).toNat)
  case atStart => exact ⟨0, by omega, rfl, HB0, HO0⟩
  case round =>
    obtain ⟨k, hk, rfl, HB, HO⟩ := hrel
    by_cases hlt : k < len
    · have hlt2 : (k : Int) < (len : Int) := by omega
      rcases HI.out.below HB.out with h | ⟨b, off, rfl, hbl, h⟩
      · omega
      obtain ⟨ta, tc, hv, c0, c1, c2, c3, c4, c5, _⟩ := h k hlt
      clear h
      have HK := hid_intro (Go.WideMaps.keyOf_string_mk (P := Tryd.prog) (k := 9) Tryd.underlying9 (s := mN ms k) (Nat.le_trans (HN.out k hlt) (by unfold maxLen; omega)))
      have HV : Hid (RV (.agg #[.string (mN ms k), .int .i64 (ms.getD k Me.zero).g, .bool (ms.getD k Me.zero).wh, .int .i64 (ms.getD k Me.zero).f, .int .i64 (ms.getD k Me.zero).l, .slice ta (ms.getD k Me.zero).ts.length tc]) = some (.held (V k), [])) := hid_intro (by rw [hv]; rfl)
      have HD : Hid (mapD ms V (k + 1) = (mapD ms V k).put (kS (mN ms k)) (.held (V k))) := rfl
      have HKE : Hid (kS (mN ms k) = .string (mN ms k).data.toList) := rfl
      have HAl := hid_intro (fun o => HB.out.alloc HB.out.size o)
      have HOl := hid_intro (fun o => HO.out.alloc o)
      generalize (mapD ms V k) = D0 at *
      generalize kS (mN ms k) = K0 at *
      generalize mN ms k = n at *
      generalize V k = X at *
      generalize (ms.getD k Me.zero).ts.length = tl at *
      generalize (ms.getD k Me.zero).g = g at *
      generalize (ms.getD k Me.zero).wh = wh at *
      generalize (ms.getD k Me.zero).f = f at *
      generalize (ms.getD k Me.zero).l = l at *
      clear hv
      go_wp2_with (at_mapUpdate; refine wpList_mapUpdate_own _ rfl _ _ _ 83 rfl 9 38 keyedS Tryd.underlying83 RV w.heap.size k D0 rfl (HOl.out _) (by unfold maxLen; omega) _ _ _ rfl rfl HK.out (.held X) [] HV.out ?_; intro w1 hown1 hgrow1)
      have HO1 : Hid (w1.ownsMap Tryd.prog 9 RV w.heap.size (k + 1) (mapD ms V (k + 1))) := hid_intro (by rw [HD.out, HKE.out]; exact hown1)
      have HB1 : Hid (Below w.heap.size w w1) := hid_intro ((HAl.out _).grown hgrow1 (HAl.out _).size (fun k e => by cases e; exact Nat.le_refl _))
      clear hown1 hgrow1
      go_wp2_with fail
      go_roundw
      case rel => exact ⟨k + 1, by omega, by go_num, HB1, hid_intro HO1.out⟩
      case measure => simp [intOf]; omega
    · obtain rfl : k = len := by omega
      go_wp2_with fail
      go_ret
      exact ⟨rfl, HO.out, HB.out⟩
theorem gtr {w w1 w2 : World} {g : Option Nat} (h1 : w.grownBy w1 g) (h2 : w1.grownBy w2 g) : w.grownBy w2 g :=
  ⟨h2.os.trans h1.os, h2.tape.trans h1.tape, h2.output.trans h1.output, Nat.le_trans h1.size h2.size, fun k hk hne => (h2.block k (by have := h1.size; omega) hne).trans (h1.block k hk hne)⟩
theorem gnew {w wx : World} {g : Option Nat} (h : w.grownBy wx g) (o : Nat) (v : Value) : w.grownBy (wx.setCell ⟨w.heap.size, o, none⟩ v) g := by
  refine ⟨h.os, h.tape, h.output, by have := h.size; simpa using this, fun k hk hne => ?_⟩
  have e : (wx.setCell ⟨w.heap.size, o, none⟩ v).heap[k]? = wx.heap[k]? := by
    simp only [World.setCell]
    rw [Array.getElem?_modify, if_neg (by omega)]
  exact e.trans (h.block k hk hne)
/-- The program's own error stands in its variable. -/
def Laid (w : World) : Prop := 0 < w.heap.size ∧ ∃ a : Addr, w.cell? ⟨0, 0, none⟩ = some (.iface 117 (.pointer (some a)))
theorem Laid.below {w w' : World} (h : Laid w) (hb : Below w.heap.size w w') : Laid w' := by
  obtain ⟨h1, a, h2⟩ := h
  exact ⟨by have := hb.size; omega, a, (hb.cell (p := ⟨_, 0, none⟩) h1).trans h2⟩
theorem zeroM (w : World) : (zeroValue 38).run Tryd.prog w = .ok (.agg #[.string ⟨#[]⟩, .int .i64 0, .bool false, .int .i64 0, .int .i64 0, .slice none 0 0]) w := by kernel_rfl
set_option maxRecDepth 100000 in
set_option maxHeartbeats 4000000 in
theorem take_has (b N : Nat) (D : DataW Value) (n : ByteArray) (x0 : ByteArray) (x1 : Int) (x2 : Bool) (x3 x4 : Int) (x5 : Option Addr) (x6 x7 : Nat) (w : World) (hn : n.size ≤ 1048576) (hO : w.ownsMap Tryd.prog 9 RV b N D) (hh : Maps.has D (kS n) = true) (hx : ∀ z, D.atKey (kS n) z = .held (.agg #[.string x0, .int .i64 x1, .bool x2, .int .i64 x3, .int .i64 x4, .slice x5 x6 x7])) :
    Calls Tryd.prog 46 #[.map (some b), .string n] w fun e w' => e = .returned (.tuple #[.agg #[.string x0, .int .i64 x1, .bool x2, .int .i64 x3, .int .i64 x4, .slice x5 x6 x7], .nilIface]) ∧ w'.ownsMap Tryd.prog 9 RV b N (D.del (kS n)) ∧ w.grownBy w' (some b) := by
  have HK := hid_intro (Go.WideMaps.keyOf_string_mk (P := Tryd.prog) (k := 9) Tryd.underlying9 (s := n) (Nat.le_trans hn (by unfold maxLen; omega)))
  have HH := hid_intro hh
  have HX := hid_intro hx
  have HO := hid_intro hO
  have hlt := hO.lt
  clear hh hx hO
  have e : (.string n.data.toList : Lit) = kS n := rfl
  rw [e] at HK
  generalize kS n = K0 at *
  clear e
  obtain ⟨W, hW⟩ : ∃ W, W = w.alloc (.cells #[.string ⟨#[]⟩, .int .i64 0, .bool false, .int .i64 0, .int .i64 0, .slice none 0 0] 38) := ⟨_, rfl⟩
  obtain ⟨v, ps, hrun, hv⟩ := (HO.out.alloc (.cells #[.string ⟨#[]⟩, .int .i64 0, .bool false, .int .i64 0, .int .i64 0, .slice none 0 0] 38)).look_ok keyedS Tryd.underlying83 (zeroM _) (zd := .held (.agg #[.string ⟨#[]⟩, .int .i64 0, .bool false, .int .i64 0, .int .i64 0, .slice none 0 0])) (zp := []) rfl HK.out
  obtain rfl : v = .agg #[.string x0, .int .i64 x1, .bool x2, .int .i64 x3, .int .i64 x4, .slice x5 x6 x7] := by
    rw [HX.out] at hv
    simp [RV] at hv
    exact hv.1
  rw [HH.out] at hrun
  clear hv hW W
  have HOl := hid_intro (fun (o1 o2 : Obj) => (HO.out.alloc o1).alloc o2)
  have HGl := hid_intro (fun (o1 o2 : Obj) => gtr (World.grownBy_alloc w o1 (some b)) (World.grownBy_alloc (w.alloc o1) o2 (some b)))
  go_enter Tryd.func46, Tryd.ntmps46
  go_wp2_with (at_delete; refine wpList_delete_own _ rfl _ _ 83 9 rfl 38 keyedS Tryd.underlying83 RV b N D rfl (HOl.out _ _) _ _ rfl HK.out ?_; intro w1 hown1 hturn1; have hgr := hturn1.grown; have hsz : w.heap.size + 2 ≤ w1.heap.size := (by have := hgr.size; simp at this; omega); have E1 := fun o => World.cell?_of_block (a := ⟨w.heap.size + 1, o, none⟩) (hgr.block (w.heap.size + 1) (by simp) (by simp; omega)); have E2 := fun o => World.cell?_of_block (a := ⟨w.heap.size, o, none⟩) (hgr.block w.heap.size (by simp; omega) (by simp; omega)); have E3 := fun o => World.frozen?_of_block (a := ⟨w.heap.size, o, none⟩) (hgr.block w.heap.size (by simp; omega) (by simp; omega)); have m0 : w1.cell? ⟨w.heap.size + 1, 0, none⟩ = some (.string x0) := (E1 0).trans (by simp [go_sem]); have m1 : w1.cell? ⟨w.heap.size + 1, 1, none⟩ = some (.int .i64 x1) := (E1 1).trans (by simp [go_sem]); have m2 : w1.cell? ⟨w.heap.size + 1, 2, none⟩ = some (.bool x2) := (E1 2).trans (by simp [go_sem]); have m3 : w1.cell? ⟨w.heap.size + 1, 3, none⟩ = some (.int .i64 x3) := (E1 3).trans (by simp [go_sem]); have m4 : w1.cell? ⟨w.heap.size + 1, 4, none⟩ = some (.int .i64 x4) := (E1 4).trans (by simp [go_sem]); have m5 : w1.cell? ⟨w.heap.size + 1, 5, none⟩ = some (.slice x5 x6 x7) := (E1 5).trans (by simp [go_sem]); have r0 : w1.cell? ⟨w.heap.size, 0, none⟩ = some (.string ⟨#[]⟩) := (E2 0).trans (by simp [go_sem]); have f0 : w1.frozen? ⟨w.heap.size, 0, none⟩ = false := (E3 0).trans (by simp [go_sem]); have r1 : w1.cell? ⟨w.heap.size, 1, none⟩ = some (.int .i64 0) := (E2 1).trans (by simp [go_sem]); have f1 : w1.frozen? ⟨w.heap.size, 1, none⟩ = false := (E3 1).trans (by simp [go_sem]); have r2 : w1.cell? ⟨w.heap.size, 2, none⟩ = some (.bool false) := (E2 2).trans (by simp [go_sem]); have f2 : w1.frozen? ⟨w.heap.size, 2, none⟩ = false := (E3 2).trans (by simp [go_sem]); have r3 : w1.cell? ⟨w.heap.size, 3, none⟩ = some (.int .i64 0) := (E2 3).trans (by simp [go_sem]); have f3 : w1.frozen? ⟨w.heap.size, 3, none⟩ = false := (E3 3).trans (by simp [go_sem]); have r4 : w1.cell? ⟨w.heap.size, 4, none⟩ = some (.int .i64 0) := (E2 4).trans (by simp [go_sem]); have f4 : w1.frozen? ⟨w.heap.size, 4, none⟩ = false := (E3 4).trans (by simp [go_sem]); have r5 : w1.cell? ⟨w.heap.size, 5, none⟩ = some (.slice none 0 0) := (E2 5).trans (by simp [go_sem]); have f5 : w1.frozen? ⟨w.heap.size, 5, none⟩ = false := (E3 5).trans (by simp [go_sem]); have HG1 := hid_intro (gtr (HGl.out _ _) hgr); have HO1 := hid_intro hown1; clear E1 E2 E3 hgr hturn1 hown1)
  refine bodyPost_ret (v := .tuple #[.agg #[.string x0, .int .i64 x1, .bool x2, .int .i64 x3, .int .i64 x4, .slice x5 x6 x7], .nilIface]) (by simp [results, Tryd.results46, go_sem, r0, r1, r2, r3, r4, r5]) rfl ⟨rfl, ?_, ?_⟩
  · exact (((((HO1.out.setCell (a := ⟨w.heap.size, 0, none⟩) (show b ≠ w.heap.size by omega) _).setCell (a := ⟨w.heap.size, 1, none⟩) (show b ≠ w.heap.size by omega) _).setCell (a := ⟨w.heap.size, 2, none⟩) (show b ≠ w.heap.size by omega) _).setCell (a := ⟨w.heap.size, 3, none⟩) (show b ≠ w.heap.size by omega) _).setCell (a := ⟨w.heap.size, 4, none⟩) (show b ≠ w.heap.size by omega) _).setCell (a := ⟨w.heap.size, 5, none⟩) (show b ≠ w.heap.size by omega) _
  · exact gnew (gnew (gnew (gnew (gnew (gnew HG1.out _ _) _ _) _ _) _ _) _ _) _ _
set_option maxRecDepth 100000 in
set_option maxHeartbeats 4000000 in
theorem take_no (b N : Nat) (D : DataW Value) (n : ByteArray) (w : World) (hn : n.size ≤ 1048576) (hO : w.ownsMap Tryd.prog 9 RV b N D) (hh : Maps.has D (kS n) = false) (a0 : Addr) (hl : 0 < w.heap.size) (ha : w.cell? ⟨0, 0, none⟩ = some (.iface 117 (.pointer (some a0)))) :
    Calls Tryd.prog 46 #[.map (some b), .string n] w fun e w' => e = .returned (.tuple #[.agg #[.string ⟨#[]⟩, .int .i64 0, .bool false, .int .i64 0, .int .i64 0, .slice none 0 0], .iface 117 (.pointer (some a0))]) ∧ Below w.heap.size w w' := by
  have HK := hid_intro (Go.WideMaps.keyOf_string_mk (P := Tryd.prog) (k := 9) Tryd.underlying9 (s := n) (Nat.le_trans hn (by unfold maxLen; omega)))
  have HH := hid_intro hh
  have HO := hid_intro hO
  have hlt := hO.lt
  clear hh hO
  have e : (.string n.data.toList : Lit) = kS n := rfl
  rw [e] at HK
  generalize kS n = K0 at *
  clear e
  obtain ⟨v, ps, hrun, hv⟩ := (HO.out.alloc (.cells #[.string ⟨#[]⟩, .int .i64 0, .bool false, .int .i64 0, .int .i64 0, .slice none 0 0] 38)).look_ok keyedS Tryd.underlying83 (zeroM _) (zd := .held (.agg #[.string ⟨#[]⟩, .int .i64 0, .bool false, .int .i64 0, .int .i64 0, .slice none 0 0])) (zp := []) rfl HK.out
  obtain rfl : v = .agg #[.string ⟨#[]⟩, .int .i64 0, .bool false, .int .i64 0, .int .i64 0, .slice none 0 0] := by
    rw [Maps.atKey_of_not_has HH.out] at hv
    simp [RV] at hv
    exact hv.1
  rw [HH.out] at hrun
  clear hv
  go_enter Tryd.func46, Tryd.ntmps46
  go_wp2_with fail
  go_region
  all_goals try go_wp2
  refine bodyPost_ret (v := .tuple #[.agg #[.string ⟨#[]⟩, .int .i64 0, .bool false, .int .i64 0, .int .i64 0, .slice none 0 0], .iface 117 (.pointer (some a0))]) (by simp [results, Tryd.results46, go_sem]) rfl ⟨rfl, ?_⟩
  repeat' first | exact Below.refl _ _ | apply Below.setCell | apply Below.alloc | apply Below.drew
  all_goals first | omega | (simp; done) | (simp; omega)
end CatR
end Go.Proofs.YtgaihlhoegaliaaDoor
namespace Go.Proofs.YtgaihlhoegaliaaDoor
open Go.ChangeShapes Go.WideShapes Go.ChangeAt Go.RowKit
set_option linter.unusedVariables false
namespace CatR
theorem bdrewN {B : Nat} {a w : World} (h : Below B a w) (n : Nat) : Below B a (w.drewN n) := ⟨h.os, h.tape, h.output, h.size, h.block⟩
set_option maxRecDepth 100000 in
set_option maxHeartbeats 4000000 in
theorem spec_tiers (ao : Option Addr) (len cap : Nat) (ts : List Ti) (w : World) (hlen : len ≤ 1048576) (hI : Tis ao len ts w) :
    Calls Tryd.prog 55 #[.slice ao len cap] w fun e w' => e = .returned (.bool (tB ts)) ∧ Below w.heap.size w w' := by
  have hz := hI.1
  by_cases h15 : 1 ≤ len ∧ len ≤ 5
  · obtain ⟨h1, h5⟩ := h15
    have g1 : ¬ (len : Int) < 1 := by omega
    have g5 : ¬ (5 : Int) < (len : Int) := by omega
    have HI := hid_intro hI
    have HZ := hid_intro hz
    have HT0 := hid_intro (fun k (hk : k < ts.length) => tB_false (ts := ts) hk)
    have HT1 := hid_intro (fun k (hk : k < ts.length) => tB_over (ts := ts) hk)
    have HTE := hid_intro (fun h => tB_end (ts := ts) (by omega) (by omega) h)
    generalize tB ts = R at *
    clear hI hz
    go_enter Tryd.func55, Tryd.ntmps55
    go_wp2_with fail
    go_loopw [4] (fun z wr => ∃ k : Nat, k ≤ len ∧ z = .int .i64 k ∧ Hid (TOk ts k) ∧ Hid (Below w.heap.size w wr)) (fun z _ => len - (intOf z).toNat)
    case atStart => exact ⟨0, by omega, rfl, hid_intro (TOk.zero ts), hid_intro (Below.refl _ _)⟩
    case round =>
      obtain ⟨k, hk, rfl, HK, HB⟩ := hrel
      by_cases hlt : k < len
      · have hlt2 : (k : Int) < (len : Int) := by omega
        obtain ⟨b, off, rfl, hbl, d0, d1⟩ := tis_at (HI.out.below HB.out) k hlt
        have c0 : wr.cell? ⟨b, off + k * 2, none⟩ = some (.int .i64 (tU ts k)) := d0
        have c1 : wr.cell? ⟨b, off + k * 2 + 1, none⟩ = some (.int .i64 (tP ts k)) := d1
        clear d0 d1
        have HT := hid_intro (HT0.out k (by have := HZ.out; omega))
        have HO := hid_intro (HT1.out k (by have := HZ.out; omega))
        have HM := hid_intro (fun h1 h2 h3 => HK.out.more (k := k) h1 h2 h3)
        have HA1 := hid_intro (HK.out.rise k (Nat.le_refl _)).1
        rcases (show k = 0 ∨ ∃ j, k = j + 1 from by rcases k with _ | j; exact .inl rfl; exact .inr ⟨j, rfl⟩) with rfl | ⟨j, hkj⟩
        · have HA : Hid (tA ts 0 = 0) := rfl
          simp only [Nat.zero_mul, Nat.add_zero] at c0 c1
          have HW1 := hid_intro (fun w => isS (tU ts 0) 1 1000000000000 w)
          have HW2 := hid_intro (fun w => isS (tP ts 0) 0 1000000 w)
          generalize tA ts 0 = A at *
          generalize tU ts 0 = U at *
          generalize tP ts 0 = P at *
          rcases (show (¬ (1 ≤ U ∧ U ≤ 1000000000000)) ∨ ((1 ≤ U ∧ U ≤ 1000000000000) ∧ ¬ (0 ≤ P ∧ P ≤ 1000000)) ∨ ((1 ≤ U ∧ U ≤ 1000000000000) ∧ (0 ≤ P ∧ P ≤ 1000000)) by omega) with q | ⟨q, q2⟩ | ⟨q, q2⟩
          · have HR : Hid (R = false) := hid_intro (HO.out q)
            rw [decide_eq_false q] at HW1
            go_wp2_with fail
            go_quiet ((first | (go_at_call_of 20 (Value.int .i64 U); exact Calls.quiet_of_same (HW1.out _)) | (go_at_call_of 20 (Value.int .i64 P); exact Calls.quiet_of_same (HW2.out _))))
            go_wp2_with fail
            go_ret
            exact ⟨ret_bool HR.out.symm, bdrewN HB.out _⟩
          · have HR : Hid (R = false) := hid_intro (HT.out (fun h => q2 h.2))
            rw [decide_eq_false q2] at HW2
            rw [decide_eq_true q] at HW1
            go_wp2_with fail
            go_quiet ((first | (go_at_call_of 20 (Value.int .i64 U); exact Calls.quiet_of_same (HW1.out _)) | (go_at_call_of 20 (Value.int .i64 P); exact Calls.quiet_of_same (HW2.out _))))
            go_wp2_with fail
            go_ret
            exact ⟨ret_bool HR.out.symm, bdrewN HB.out _⟩
          · have HM2 := hid_intro (HM.out (by have := HA.out; omega) q2.1 q2.2)
            rw [decide_eq_true q2] at HW2
            rw [decide_eq_true q] at HW1
            go_wp2_with fail
            go_quiet ((first | (go_at_call_of 20 (Value.int .i64 U); exact Calls.quiet_of_same (HW1.out _)) | (go_at_call_of 20 (Value.int .i64 P); exact Calls.quiet_of_same (HW2.out _))))
            go_wp2_with fail
            go_roundw
            case rel => exact ⟨0 + 1, by omega, by go_num, HM2, hid_intro (bdrewN HB.out _)⟩
            case measure => simp [intOf]; omega
        · obtain ⟨b', off', hbo, hbl', d0, d1⟩ := tis_at (HI.out.below HB.out) j (by omega)
          obtain ⟨rfl, rfl⟩ : b = b' ∧ off = off' := by simpa using hbo
          have c2 : wr.cell? ⟨b, off + j * 2, none⟩ = some (.int .i64 (tU ts j)) := d0
          clear d0 d1 hbl' hbo
          have HA : Hid (tA ts k = tU ts j) := hid_intro (by rw [hkj]; rfl)
          have HW1 := hid_intro (fun w => isS (tU ts k) 1 1000000000000 w)
          have HW2 := hid_intro (fun w => isS (tP ts k) 0 1000000 w)
          generalize tA ts k = A at *
          generalize tU ts k = U at *
          generalize tU ts j = V at *
          generalize tP ts k = P at *
          have hj1 : IntKind.i64.wrap ((k : Int) - 1) = (j : Int) := by rw [IntKind.wrap_i64]; omega
          have hj2 : 0 < k := by omega
          have hj3 : (j : Int) < (len : Int) := by omega
          clear hkj
          rcases (show (¬ (1 ≤ U ∧ U ≤ 1000000000000)) ∨ ((1 ≤ U ∧ U ≤ 1000000000000) ∧ U ≤ V) ∨ ((1 ≤ U ∧ U ≤ 1000000000000) ∧ ¬ U ≤ V ∧ ¬ (0 ≤ P ∧ P ≤ 1000000)) ∨ ((1 ≤ U ∧ U ≤ 1000000000000) ∧ ¬ U ≤ V ∧ (0 ≤ P ∧ P ≤ 1000000)) by omega) with q | ⟨q, q1⟩ | ⟨q, q1, q2⟩ | ⟨q, q1, q2⟩
          · have HR : Hid (R = false) := hid_intro (HO.out q)
            rw [decide_eq_false q] at HW1
            go_wp2_with fail
            go_quiet ((first | (go_at_call_of 20 (Value.int .i64 U); exact Calls.quiet_of_same (HW1.out _)) | (go_at_call_of 20 (Value.int .i64 P); exact Calls.quiet_of_same (HW2.out _))))
            go_wp2_with fail
            go_ret
            exact ⟨ret_bool HR.out.symm, bdrewN HB.out _⟩
          · have HR : Hid (R = false) := hid_intro (HT.out (fun h => by have := h.1; have := HA.out; omega))
            rw [decide_eq_true q] at HW1
            go_wp2_with fail
            go_quiet ((first | (go_at_call_of 20 (Value.int .i64 U); exact Calls.quiet_of_same (HW1.out _)) | (go_at_call_of 20 (Value.int .i64 P); exact Calls.quiet_of_same (HW2.out _))))
            go_wp2_with fail
            go_ret
            exact ⟨ret_bool HR.out.symm, bdrewN HB.out _⟩
          · have HR : Hid (R = false) := hid_intro (HT.out (fun h => q2 h.2))
            rw [decide_eq_false q2] at HW2
            rw [decide_eq_true q] at HW1
            go_wp2_with fail
            go_quiet ((first | (go_at_call_of 20 (Value.int .i64 U); exact Calls.quiet_of_same (HW1.out _)) | (go_at_call_of 20 (Value.int .i64 P); exact Calls.quiet_of_same (HW2.out _))))
            go_wp2_with fail
            go_ret
            exact ⟨ret_bool HR.out.symm, bdrewN HB.out _⟩
          · have HM2 := hid_intro (HM.out (by have := HA.out; omega) q2.1 q2.2)
            rw [decide_eq_true q2] at HW2
            rw [decide_eq_true q] at HW1
            go_wp2_with fail
            go_quiet ((first | (go_at_call_of 20 (Value.int .i64 U); exact Calls.quiet_of_same (HW1.out _)) | (go_at_call_of 20 (Value.int .i64 P); exact Calls.quiet_of_same (HW2.out _))))
            go_wp2_with fail
            go_roundw
            case rel => exact ⟨k + 1, by omega, by go_num, HM2, hid_intro (bdrewN HB.out _)⟩
            case measure => simp [intOf]; omega
      · obtain rfl : k = len := by omega
        have HR : Hid (R = decide (tA ts k = 1000000000000)) := hid_intro (by have h := HTE.out; rw [HZ.out] at h; exact h HK.out)
        obtain ⟨j, hkj⟩ : ∃ j, k = j + 1 := ⟨k - 1, by omega⟩
        obtain ⟨b, off, rfl, hbl, d0, d1⟩ := tis_at (HI.out.below HB.out) j (by omega)
        have c2 : wr.cell? ⟨b, off + j * 2, none⟩ = some (.int .i64 (tA ts k)) := by rw [hkj]; exact d0
        clear d0 d1
        have hj1 : (k : Int) - 1 = (j : Int) := by omega
        have hj3 : (j : Int) < (k : Int) := by omega
        clear hkj
        generalize tA ts k = A at *
        by_cases q : A = 1000000000000
        · rw [decide_eq_true q] at HR
          go_wp2_with fail
          try go_quiet (fail)
          try go_wp2_with fail
          go_ret
          exact ⟨ret_bool (by rw [HR.out]; try simp [q]), by first | exact HB.out | exact bdrewN HB.out _⟩
        · rw [decide_eq_false q] at HR
          go_wp2_with fail
          try go_quiet (fail)
          try go_wp2_with fail
          go_ret
          exact ⟨ret_bool (by rw [HR.out]; try simp [q]), by first | exact HB.out | exact bdrewN HB.out _⟩
  · have HR : Hid (tB ts = false) := hid_intro (tB_no (fun h => by have := h.1; have := h.2.1; omega))
    have g : (len : Int) < 1 ∨ (¬ (len : Int) < 1 ∧ (5 : Int) < (len : Int)) := by omega
    clear hI hz
    rcases g with g | ⟨g, g2⟩
    all_goals
      go_enter Tryd.func55, Tryd.ntmps55
      go_wp2_with fail
      go_ret
      exact ⟨ret_bool HR.out.symm, Below.refl _ _⟩
end CatR
end Go.Proofs.YtgaihlhoegaliaaDoor
namespace Go.Proofs.YtgaihlhoegaliaaDoor
open Go.ChangeShapes Go.WideShapes Go.ChangeAt Go.RowKit
set_option linter.unusedVariables false
namespace CatR
theorem five (b1 b2 b3 b4 b5 : Bool) : (b1 = false) ∨ (b1 = true ∧ b2 = false) ∨ (b1 = true ∧ b2 = true ∧ b3 = false) ∨ (b1 = true ∧ b2 = true ∧ b3 = true ∧ b4 = false) ∨ (b1 = true ∧ b2 = true ∧ b3 = true ∧ b4 = true) := by
  cases b1 <;> cases b2 <;> cases b3 <;> cases b4 <;> simp
/-- A meter's cells. -/
abbrev meV (n : ByteArray) (g : Int) (wh : Bool) (f l : Int) (ta : Option Addr) (tl tc : Nat) : Value := .agg #[.string n, .int .i64 g, .bool wh, .int .i64 f, .int .i64 l, .slice ta tl tc]
set_option maxRecDepth 100000 in
set_option maxHeartbeats 4000000 in
theorem impl_meter (v : Value) (m : Me) (w : World) (hn : m.n.size ≤ 1048576) (hl : m.ts.length ≤ 1048576) (hM : IsMe v m w) :
    Calls Tryd.prog 48 #[v] w fun e w' => e = .returned (.bool (mB m)) ∧ Below w.heap.size w w' := by
  obtain ⟨ta, tc, rfl, hT⟩ := hM
  rw [mB_eq]
  obtain ⟨n, g, wh, f, l, ts⟩ := m
  simp only at *
  have H1 := hid_intro (fun w => NameR.impl_any n w hn)
  have H2 := hid_intro (fun w => within64 g 1 4 w)
  have H3 := hid_intro (fun w => within64 f 0 1000000000 w)
  have H4 := hid_intro (fun w => within64 l 0 1000000000000 w)
  have H5 : Hid (∀ W, Below w.heap.size w W → Calls Tryd.prog 61 #[.slice ta ts.length tc] W fun e w' => e = .returned (.bool (tB ts)) ∧ Below W.heap.size W w') := hid_intro (fun W hW => impl_tiers ta ts.length tc ts W hl (hT.below hW))
  have HB : Hid (Below w.heap.size w (w.alloc (.cells #[.string n, .int .i64 g, .bool wh, .int .i64 f, .int .i64 l, .slice ta ts.length tc] 38))) := hid_intro ((Below.refl _ _).alloc (Nat.le_refl _) _)
  generalize NameR.nameB n = b1 at *
  generalize decide (1 ≤ g ∧ g ≤ 4) = b2 at *
  generalize decide (0 ≤ f ∧ f ≤ 1000000000) = b3 at *
  generalize decide (0 ≤ l ∧ l ≤ 1000000000000) = b4 at *
  generalize tB ts = b5 at *
  clear hT hn hl
  generalize ts.length = tl at *
  rcases five b1 b2 b3 b4 b5 with rfl | ⟨rfl, rfl⟩ | ⟨rfl, rfl, rfl⟩ | ⟨rfl, rfl, rfl, rfl⟩ | ⟨rfl, rfl, rfl, rfl⟩
  all_goals
    go_enter Tryd.func48, Tryd.ntmps48
    go_wp2_with (first | (go_at_call 49; refine (H1.out _).mono ?_; rintro e w' ⟨rfl, rfl⟩) | (go_at_call_of 42 (Value.int .i64 g); refine (H2.out _).mono ?_; rintro e w' ⟨rfl, rfl⟩) | (go_at_call_of 42 (Value.int .i64 f); refine (H3.out _).mono ?_; rintro e w' ⟨rfl, rfl⟩) | (go_at_call_of 42 (Value.int .i64 l); refine (H4.out _).mono ?_; rintro e w' ⟨rfl, rfl⟩) | (go_at_call 61; refine (H5.out _ HB.out).mono ?_; rintro e w2 ⟨rfl, hb2⟩))
    go_ret
    exact ⟨ret_bool (by simp), by first | exact bel_alloc hb2 | exact HB.out⟩
set_option maxRecDepth 100000 in
set_option maxHeartbeats 4000000 in
theorem spec_meter (v : Value) (m : Me) (w : World) (hn : m.n.size ≤ 1048576) (hl : m.ts.length ≤ 1048576) (hM : IsMe v m w) :
    Calls Tryd.prog 37 #[v] w fun e w' => e = .returned (.bool (mB m)) ∧ Below w.heap.size w w' := by
  obtain ⟨ta, tc, rfl, hT⟩ := hM
  rw [mB_eq]
  obtain ⟨n, g, wh, f, l, ts⟩ := m
  simp only at *
  have H1 := hid_intro (fun w => NameR.spec_any n w hn)
  have H2 := hid_intro (fun w => isS g 1 4 w)
  have H3 := hid_intro (fun w => isS f 0 1000000000 w)
  have H4 := hid_intro (fun w => isS l 0 1000000000000 w)
  have H5 : Hid (∀ W, Below w.heap.size w W → Calls Tryd.prog 55 #[.slice ta ts.length tc] W fun e w' => e = .returned (.bool (tB ts)) ∧ Below W.heap.size W w') := hid_intro (fun W hW => spec_tiers ta ts.length tc ts W hl (hT.below hW))
  have HB : Hid (Below w.heap.size w (w.alloc (.cells #[.string n, .int .i64 g, .bool wh, .int .i64 f, .int .i64 l, .slice ta ts.length tc] 38))) := hid_intro ((Below.refl _ _).alloc (Nat.le_refl _) _)
  generalize NameR.nameB n = b1 at *
  generalize decide (1 ≤ g ∧ g ≤ 4) = b2 at *
  generalize decide (0 ≤ f ∧ f ≤ 1000000000) = b3 at *
  generalize decide (0 ≤ l ∧ l ≤ 1000000000000) = b4 at *
  generalize tB ts = b5 at *
  clear hT hn hl
  generalize ts.length = tl at *
  rcases five b1 b2 b3 b4 b5 with rfl | ⟨rfl, rfl⟩ | ⟨rfl, rfl, rfl⟩ | ⟨rfl, rfl, rfl, rfl⟩ | ⟨rfl, rfl, rfl, rfl⟩
  all_goals
    go_enter Tryd.func37, Tryd.ntmps37
    go_wp2_with (first | (go_at_call 38; refine (H1.out _).mono ?_; rintro e w' ⟨rfl, rfl⟩) | (go_at_call_of 20 (Value.int .i64 g); refine (H2.out _).mono ?_; rintro e w' ⟨rfl, rfl⟩) | (go_at_call_of 20 (Value.int .i64 f); refine (H3.out _).mono ?_; rintro e w' ⟨rfl, rfl⟩) | (go_at_call_of 20 (Value.int .i64 l); refine (H4.out _).mono ?_; rintro e w' ⟨rfl, rfl⟩) | (go_at_call 55; refine (H5.out _ HB.out).mono ?_; rintro e w2 ⟨rfl, hb2⟩))
    go_ret
    exact ⟨ret_bool (by simp), by first | exact bel_alloc hb2 | exact HB.out⟩
end CatR
end Go.Proofs.YtgaihlhoegaliaaDoor
namespace Go.Proofs.YtgaihlhoegaliaaDoor
open Go.RowKit Go.Extern.Stop Go.Stop Go.Extern
set_option linter.unusedVariables false
namespace IsR
theorem typeOfS (v : Value) (w : World) : (Extern.ReflectliteType.typeOf #[.iface 117 v]).run Tryd.prog w = .ok (.iface 105 (.agg #[.pointer (some ⟨1, 117, none⟩)])) w := by kernel_rfl
def compF : TypeId → Sem Value := fun t => do Rtype.noPackHeld "Comparable" t; pure (.bool (← typeInfo t).comparable)
theorem compS (w : World) : ((Extern.ReflectliteType.method compF) #[.agg #[.pointer (some ⟨1, 117, none⟩)]]).run Tryd.prog w = .ok (.bool true) w := by kernel_rfl
theorem methodComp (v : Value) (w : World) : (Go.method 254 105 v "Comparable").run Tryd.prog w = .ok (84, v) w := by kernel_rfl
theorem isComp : (Tryd.prog.info? 117).map (·.comparable) = some true := by kernel_rfl
theorem isSize : (Tryd.prog.info? 142).map (·.size) = some 1 := by kernel_rfl
theorem is_same (a : Addr) (w : World) :
    Calls Tryd.prog 47 #[.iface 117 (.pointer (some a)), .iface 117 (.pointer (some a))] w fun e w' => e = .returned (.bool true) ∧ w' = w := by
  obtain ⟨i, hi, hcmp⟩ := Option.map_eq_some_iff.1 isComp
  obtain ⟨j, hj, hjs⟩ := Option.map_eq_some_iff.1 isSize
  have h8 := @run_callFunc_extern Tryd.prog 59 _ Extern.ReflectliteType.typeOf Tryd.func59 (by kernel_rfl) (by kernel_rfl) (by kernel_rfl) (by kernel_rfl)
  have h32 := @run_callFunc_extern Tryd.prog 84 _ (Extern.ReflectliteType.method compF) Tryd.func84 (by kernel_rfl) (by kernel_rfl) (by kernel_rfl) (by kernel_rfl)
  have tT := typeOfS
  have cT := compS
  have mR := methodComp
  have heq := run_eql_iface_ptr_same (P := Tryd.prog) w a Tryd.underlying47 Tryd.underlying117 hi hcmp hj
  go_enter Tryd.func47, Tryd.ntmps47
  go_wp2
  refine wp_loop_rounds 1 ?_
  rw [rounds_succ]
  go_wp2
  go_ret
  exact ⟨rfl, rfl⟩
theorem is_nil (b : Addr) (w : World) :
    Calls Tryd.prog 47 #[.nilIface, .iface 117 (.pointer (some b))] w fun e w' => e = .returned (.bool false) ∧ w' = w := by
  have hn := run_eql_iface_nil_left (P := Tryd.prog) w 117 (.pointer (some b)) Tryd.underlying47
  go_enter Tryd.func47, Tryd.ntmps47
  go_wp2
  go_ret
  exact ⟨rfl, rfl⟩
end IsR
end Go.Proofs.YtgaihlhoegaliaaDoor
namespace Go.Proofs.YtgaihlhoegaliaaDoor
open Go.ChangeShapes Go.WideShapes Go.ChangeAt Go.RowKit
set_option linter.unusedVariables false
namespace CatR
open EvtR (Pt cell_put cell_far)
theorem infoT : (Tryd.prog.info? 57).map (fun i => (i.zero, i.size, i.bytes)) = some (some (.agg #[.int .i64 0, .int .i64 0]), 2, 16) := by kernel_rfl
theorem pt_row {w : World} {g m : Nat} {cs : List Value} {T : TypeId} (hh : w.heap[g]? = some (.cells cs.toArray T (0, 0))) (hl : cs.length = m) : Pt g m w where
  lt := (Array.getElem?_eq_some_iff.1 hh).1
  has := fun o ho => ⟨cs[o]'(by omega), by simp [World.cell?, hh, hl, ho]⟩
  free := fun o ho => by simp [World.frozen?, hh]
theorem row_full {w : World} {base e g n s : Nat} {xs : List Value} (h : w.ownsRow base e s (.slice (some ⟨g, 0, none⟩) n n) n xs) : Pt g (n * s) w := by
  rcases h.2 with ⟨h1, _⟩ | ⟨g', cap, cur, h1, _, hg, _, _, hs, _⟩
  · simp at h1
  · simp at h1
    obtain ⟨rfl, rfl⟩ := h1
    exact pt_row (cs := cur.toList) (by simpa using hg) (by simpa using hs)
theorem tis_set {w wr : World} {g n k : Nat} {ts : List Ti} (hp : Pt g (n * 2) wr) (hk : k < n) (ha : ∀ i, i < k → TiAt wr g (i * 2) (ts.getD i Ti.zero)) :
    Pt g (n * 2) ((wr.setCell ⟨g, k * 2, none⟩ (.int .i64 (ts.getD k Ti.zero).u)).setCell ⟨g, k * 2 + 1, none⟩ (.int .i64 (ts.getD k Ti.zero).p)) ∧ ∀ i, i < k + 1 → TiAt ((wr.setCell ⟨g, k * 2, none⟩ (.int .i64 (ts.getD k Ti.zero).u)).setCell ⟨g, k * 2 + 1, none⟩ (.int .i64 (ts.getD k Ti.zero).p)) g (i * 2) (ts.getD i Ti.zero) := by
  refine ⟨(hp.set _ _).set _ _, fun i hi => ?_⟩
  by_cases e : i = k
  · subst e
    exact ⟨(cell_far _ _ (by omega) _).trans (cell_put hp _ (by omega) _), cell_put (hp.set _ _) _ (by omega) _⟩
  · have h := ha i (by omega)
    exact ⟨((cell_far _ _ (by omega) _).trans (cell_far _ _ (by omega) _)).trans h.1, ((cell_far _ _ (by omega) _).trans (cell_far _ _ (by omega) _)).trans h.2⟩
end CatR
end Go.Proofs.YtgaihlhoegaliaaDoor
namespace Go.Proofs.YtgaihlhoegaliaaDoor
open Go.ChangeShapes Go.WideShapes Go.ChangeAt Go.RowKit
set_option linter.unusedVariables false
namespace CatR
open EvtR (Pt cell_put cell_far)
/-- How many letters and tiers a meter holds. -/
def szM (m : Me) : Int := m.n.size + m.ts.length
theorem far_block (w : World) (b o : Nat) (v : Value) (k : Nat) (hk : b ≠ k) : (w.setCell ⟨b, o, none⟩ v).heap[k]? = w.heap[k]? := by
  simp only [World.setCell]
  rw [Array.getElem?_modify, if_neg hk]
theorem _root_.Go.Proofs.YtgaihlhoegaliaaDoor.EvtR.Pt.far {g m : Nat} {w : World} (h : Pt g m w) {b : Nat} (hb : b ≠ g) (o : Nat) (v : Value) : Pt g m (w.setCell ⟨b, o, none⟩ v) := by
  have e := far_block w b o v g hb
  exact ⟨by simpa using h.lt, fun x hx => by obtain ⟨u, hu⟩ := h.has x hx; exact ⟨u, (World.cell?_of_block (a := ⟨g, x, none⟩) e).trans hu⟩, fun x hx => (World.frozen?_of_block (a := ⟨g, x, none⟩) e).trans (h.free x hx)⟩
theorem Tis.far {b0 off len : Nat} {ts : List Ti} {w : World} (h : Tis (some ⟨b0, off, none⟩) len ts w) {b : Nat} (hb : b ≠ b0) (o : Nat) (v : Value) : Tis (some ⟨b0, off, none⟩) len ts (w.setCell ⟨b, o, none⟩ v) := by
  refine ⟨h.1, ?_⟩
  rcases h.2 with h0 | ⟨b1, off1, e, hlt, hc⟩
  · exact .inl h0
  · obtain ⟨rfl, rfl⟩ : b0 = b1 ∧ off = off1 := by simpa using e
    have e := far_block w b o v b0 hb
    exact .inr ⟨b0, off, rfl, by simpa using hlt, fun j hj => ⟨(World.cell?_of_block (a := ⟨b0, _, none⟩) e).trans (hc j hj).1, (World.cell?_of_block (a := ⟨b0, _, none⟩) e).trans (hc j hj).2⟩⟩
/-- A meter that was just copied: its tiers stand behind the block. -/
def NewMe (base : Nat) (v : Value) (m : Me) (w : World) : Prop := ∃ b, base ≤ b ∧ v = .agg #[.string m.n, .int .i64 m.g, .bool m.wh, .int .i64 m.f, .int .i64 m.l, .slice (some ⟨b, 0, none⟩) m.ts.length m.ts.length] ∧ Tis (some ⟨b, 0, none⟩) m.ts.length m.ts w ∧ Pt b (m.ts.length * 2) w
theorem NewMe.is {base : Nat} {v : Value} {m : Me} {w : World} (h : NewMe base v m w) : IsMe v m w := by
  obtain ⟨b, _, h1, h2, _⟩ := h
  exact ⟨_, _, h1, h2⟩
theorem eqTi_any (u p : Int) (w : World) : Calls Tryd.prog 64 #[.agg #[.int .i64 u, .int .i64 p], .agg #[.int .i64 u, .int .i64 p]] w fun e w' => e = .returned (.bool true) ∧ Below w.heap.size w w' := by
  go_enter Tryd.func64, Tryd.ntmps64
  go_wp2
  go_ret
  refine ⟨rfl, ?_⟩
  repeat' first | exact Below.refl _ _ | apply Below.setCell | apply Below.alloc
  all_goals first | omega | (simp; done) | (simp; omega)
set_option maxHeartbeats 4000000 in
theorem eqTis_any (ao bo : Option Addr) (len cap cap' : Nat) (ts : List Ti) (w : World) (hlen : len ≤ 1048576) (hI : Tis ao len ts w) (hJ : Tis bo len ts w) :
    Calls Tryd.prog 62 #[.slice ao len cap, .slice bo len cap'] w fun e w' => e = .returned (.bool true) ∧ Below w.heap.size w w' := by
  have HI := hid_intro hI
  have HJ := hid_intro hJ
  clear hI hJ
  go_enter Tryd.func62, Tryd.ntmps62
  go_wp2_with fail
  go_loopw [5] (fun z wr => ∃ k : Nat, k ≤ len ∧ z = .int .i64 k ∧ Hid (Below w.heap.size w wr)) (fun z _ => len - (intOf z).toNat)
  case atStart => exact ⟨0, by omega, rfl, hid_intro (Below.refl _ _)⟩
  case round =>
    obtain ⟨k, hk, rfl, HW⟩ := hrel
    by_cases hlt : k < len
    · have hlt2 : (k : Int) < (len : Int) := by omega
      obtain ⟨b, off, rfl, _, c0, c1⟩ := tis_at (HI.out.below HW.out) k hlt
      obtain ⟨b', off', rfl, _, e0, e1⟩ := tis_at (HJ.out.below HW.out) k hlt
      generalize ts.getD k Ti.zero = X at *
      obtain ⟨u, p⟩ := X
      have HC := hid_intro (fun w => eqTi_any u p w)
      go_wp2_with fail
      go_region_with (go_at_call 64; refine (HC.out _).mono ?_; rintro e w1 ⟨rfl, hb⟩)
      all_goals (
        have HB1 := hid_intro (HW.out.drew.trans (hb.mono HW.out.drew.size))
        clear hb c0 c1 e0 e1
        go_wp2_with fail
        go_roundw
        case rel => exact ⟨k + 1, by omega, by go_num, HB1⟩
        case measure => simp [intOf]; omega)
    · have hlt2 : ¬ (k : Int) < (len : Int) := by omega
      go_wp2_with fail
      go_ret
      exact ⟨rfl, HW.out⟩
set_option maxHeartbeats 4000000 in
theorem eqMe_any (v v' : Value) (m : Me) (w : World) (hl : m.ts.length ≤ 1048576) (hI : IsMe v m w) (hJ : IsMe v' m w) :
    Calls Tryd.prog 50 #[v, v'] w fun e w' => e = .returned (.bool true) ∧ Below w.heap.size w w' := by
  obtain ⟨ta, tc, rfl, hT⟩ := hI
  obtain ⟨ta', tc', rfl, hT'⟩ := hJ
  obtain ⟨n, g, wh, f, l, ts⟩ := m
  simp only at *
  have HC : Hid (∀ W, Below w.heap.size w W → Calls Tryd.prog 62 #[.slice ta ts.length tc, .slice ta' ts.length tc'] W fun e w' => e = .returned (.bool true) ∧ Below W.heap.size W w') := hid_intro (fun W hW => eqTis_any ta ta' ts.length tc tc' ts W hl (hT.below hW) (hT'.below hW))
  clear hT hT' hl
  generalize ts.length = tl at *
  go_enter Tryd.func50, Tryd.ntmps50
  go_wp2_with fail
  refine (HC.out _ (((Below.refl _ _).alloc (Nat.le_refl _) _).alloc (by simp) _)).mono ?_
  rintro e w1 ⟨rfl, hb⟩
  have HB := hid_intro (bel_alloc (bel_alloc hb))
  clear hb
  go_wp2_with fail
  go_ret
  exact ⟨rfl, HB.out⟩
end CatR
end Go.Proofs.YtgaihlhoegaliaaDoor
namespace Go.Proofs.YtgaihlhoegaliaaDoor
open Go.ChangeShapes Go.WideShapes Go.ChangeAt Go.RowKit
set_option linter.unusedVariables false
namespace CatR
open EvtR (Pt cell_put cell_far)
def Me.Small (m : Me) : Prop := m.n.size ≤ 1048576 ∧ m.ts.length ≤ 1048576
def Me.In (m : Me) : Prop := m.n.size ≤ maxLen ∧ m.ts.length ≤ maxLen
/-- What is told of a size: less than none, or what is left, and that all is small. -/
def SzOut (left : Int) (P : Prop) (e : Ending) : Prop := ∃ L : Int, e = .returned (.int .i64 L) ∧ (L = -1 ∨ (0 ≤ L ∧ L ≤ left ∧ P))
theorem small_more {ms : List Me} {k : Nat} (h : ∀ i, i < k → (ms.getD i Me.zero).Small) (hk : (ms.getD k Me.zero).Small) : ∀ i, i < k + 1 → (ms.getD i Me.zero).Small := fun i hi => by
  by_cases e : i = k
  · subst e; exact hk
  · exact h i (by omega)
/-- A meter's cells and its tiers, of a copy. -/
def MeC (w : World) (g o b : Nat) (m : Me) : Prop := (w.cell? ⟨g, o, none⟩ = some (.string m.n) ∧ w.cell? ⟨g, o + 1, none⟩ = some (.int .i64 m.g) ∧ w.cell? ⟨g, o + 2, none⟩ = some (.bool m.wh) ∧ w.cell? ⟨g, o + 3, none⟩ = some (.int .i64 m.f) ∧ w.cell? ⟨g, o + 4, none⟩ = some (.int .i64 m.l) ∧ w.cell? ⟨g, o + 5, none⟩ = some (.slice (some ⟨b, 0, none⟩) m.ts.length m.ts.length)) ∧ Tis (some ⟨b, 0, none⟩) m.ts.length m.ts w ∧ Pt b (m.ts.length * 2) w
theorem MeC.below {w w' : World} {g o b : Nat} {m : Me} (h : MeC w g o b m) (hl : g < w.heap.size) (hb : Below w.heap.size w w') : MeC w' g o b m := by
  obtain ⟨⟨h0, h1, h2, h3, h4, h5⟩, h6, h7⟩ := h
  have f := fun k => hb.cell (p := ⟨g, k, none⟩) hl
  exact ⟨⟨(f _).trans h0, (f _).trans h1, (f _).trans h2, (f _).trans h3, (f _).trans h4, (f _).trans h5⟩, h6.below hb, h7.below hb⟩
theorem MeC.is {w : World} {g o b : Nat} {m : Me} (h : MeC w g o b m) : MeAt w g o m := by
  obtain ⟨⟨h0, h1, h2, h3, h4, h5⟩, h6, h7⟩ := h
  exact ⟨_, _, h0, h1, h2, h3, h4, h5, h6⟩
/-- A list of meters that a copy has made, so far. -/
structure NewMes (base g : Nat) (bs : Nat → Nat) (n k : Nat) (ms : List Me) (w : World) : Prop where
  lo : base ≤ g
  pt : Pt g (n * 6) w
  inc : ∀ i, i < k → g < bs i ∧ ∀ j, j < i → bs j < bs i
  cel : ∀ i, i < k → MeC w g (i * 6) (bs i) (ms.getD i Me.zero)
theorem NewMes.below {base g : Nat} {bs : Nat → Nat} {n k : Nat} {ms : List Me} {w w' : World} (h : NewMes base g bs n k ms w) (hb : Below w.heap.size w w') : NewMes base g bs n k ms w' :=
  ⟨h.lo, h.pt.below hb, h.inc, fun i hi => (h.cel i hi).below h.pt.lt hb⟩
theorem NewMes.is {base g : Nat} {bs : Nat → Nat} {n : Nat} {ms : List Me} {w : World} (h : NewMes base g bs n n ms w) (hz : ms.length = n) : Mes (some ⟨g, 0, none⟩) n ms w :=
  ⟨hz, .inr ⟨g, 0, rfl, h.pt.lt, fun j hj => by rw [Nat.zero_add]; exact (h.cel j hj).is⟩⟩
/-- Six cells written. -/
def setM (wr : World) (g o : Nat) (m : Me) (b : Nat) : World := (((((wr.setCell ⟨g, o, none⟩ (.string m.n)).setCell ⟨g, o + 1, none⟩ (.int .i64 m.g)).setCell ⟨g, o + 2, none⟩ (.bool m.wh)).setCell ⟨g, o + 3, none⟩ (.int .i64 m.f)).setCell ⟨g, o + 4, none⟩ (.int .i64 m.l)).setCell ⟨g, o + 5, none⟩ (.slice (some ⟨b, 0, none⟩) m.ts.length m.ts.length)
theorem setM_pt {wr : World} {g o b m0 : Nat} {m : Me} (h : Pt g m0 wr) : Pt g m0 (setM wr g o m b) := (((((h.set _ _).set _ _).set _ _).set _ _).set _ _).set _ _
theorem setM_far {wr : World} {g o b : Nat} {m : Me} (x : Nat) (hx : x < o ∨ o + 6 ≤ x) : (setM wr g o m b).cell? ⟨g, x, none⟩ = wr.cell? ⟨g, x, none⟩ := by
  unfold setM
  rw [cell_far _ _ (by omega), cell_far _ _ (by omega), cell_far _ _ (by omega), cell_far _ _ (by omega), cell_far _ _ (by omega), cell_far _ _ (by omega)]
theorem setM_tis {wr : World} {g o b c len : Nat} {m : Me} {ts : List Ti} (h : Tis (some ⟨c, 0, none⟩) len ts wr) (hc : g ≠ c) : Tis (some ⟨c, 0, none⟩) len ts (setM wr g o m b) := (((((h.far hc _ _).far hc _ _).far hc _ _).far hc _ _).far hc _ _).far hc _ _
theorem setM_ptf {wr : World} {g o b c m0 : Nat} {m : Me} (h : Pt c m0 wr) (hc : g ≠ c) : Pt c m0 (setM wr g o m b) := (((((h.far hc _ _).far hc _ _).far hc _ _).far hc _ _).far hc _ _).far hc _ _
theorem setM_at {wr : World} {g o b m0 : Nat} {m : Me} (h : Pt g m0 wr) (ho : o + 6 ≤ m0) (hT : Tis (some ⟨b, 0, none⟩) m.ts.length m.ts wr) (hP : Pt b (m.ts.length * 2) wr) (hb : g ≠ b) : MeC (setM wr g o m b) g o b m := by
  refine ⟨⟨?_, ?_, ?_, ?_, ?_, ?_⟩, setM_tis hT hb, setM_ptf hP hb⟩
  · unfold setM
    rw [cell_far _ _ (by omega), cell_far _ _ (by omega), cell_far _ _ (by omega), cell_far _ _ (by omega), cell_far _ _ (by omega), cell_put h _ (by omega)]
  · unfold setM
    rw [cell_far _ _ (by omega), cell_far _ _ (by omega), cell_far _ _ (by omega), cell_far _ _ (by omega), cell_put (h.set _ _) _ (by omega)]
  · unfold setM
    rw [cell_far _ _ (by omega), cell_far _ _ (by omega), cell_far _ _ (by omega), cell_put ((h.set _ _).set _ _) _ (by omega)]
  · unfold setM
    rw [cell_far _ _ (by omega), cell_far _ _ (by omega), cell_put (((h.set _ _).set _ _).set _ _) _ (by omega)]
  · unfold setM
    rw [cell_far _ _ (by omega), cell_put ((((h.set _ _).set _ _).set _ _).set _ _) _ (by omega)]
  · unfold setM
    rw [cell_put (((((h.set _ _).set _ _).set _ _).set _ _).set _ _) _ (by omega)]
theorem MeC.setM {wr : World} {g o b x c : Nat} {m m' : Me} (h : MeC wr g x c m') (hx : x + 6 ≤ o) (hc : g ≠ c) : MeC (setM wr g o m b) g x c m' := by
  obtain ⟨⟨h0, h1, h2, h3, h4, h5⟩, h6, h7⟩ := h
  have f := fun y (hy : y < o) => setM_far (wr := wr) (g := g) (o := o) (b := b) (m := m) y (.inl hy)
  exact ⟨⟨(f _ (by omega)).trans h0, (f _ (by omega)).trans h1, (f _ (by omega)).trans h2, (f _ (by omega)).trans h3, (f _ (by omega)).trans h4, (f _ (by omega)).trans h5⟩, setM_tis h6 hc, setM_ptf h7 hc⟩
theorem NewMes.step {base g : Nat} {bs : Nat → Nat} {n k : Nat} {ms : List Me} {w w1 : World} (h : NewMes base g bs n k ms w) (hbl : Below w.heap.size w w1) (hk : k < n) {b : Nat} (hb : w.heap.size ≤ b) (hlt : ∀ i, i < k → bs i < w.heap.size) (hT : Tis (some ⟨b, 0, none⟩) (ms.getD k Me.zero).ts.length (ms.getD k Me.zero).ts w1) (hP : Pt b ((ms.getD k Me.zero).ts.length * 2) w1) :
    NewMes base g (fun i => if i = k then b else bs i) n (k + 1) ms (setM w1 g (k * 6) (ms.getD k Me.zero) b) := by
  have h1 := h.below hbl
  have hg := h.pt.lt
  refine ⟨h.lo, setM_pt h1.pt, fun i hi => ?_, fun i hi => ?_⟩
  · by_cases e : i = k
    · subst e
      rw [if_pos rfl]
      refine ⟨by omega, fun j hj => ?_⟩
      rw [if_neg (by omega)]
      have := hlt j hj
      omega
    · rw [if_neg e]
      refine ⟨(h.inc i (by omega)).1, fun j hj => ?_⟩
      rw [if_neg (by omega)]
      exact (h.inc i (by omega)).2 j hj
  · by_cases e : i = k
    · subst e
      rw [if_pos rfl]
      exact setM_at h1.pt (by omega) hT hP (by omega)
    · rw [if_neg e]
      exact (h1.cel i (by omega)).setM (by omega) (by have := (h.inc i (by omega)).1; omega)
theorem NewMes.blocks {base g : Nat} {bs : Nat → Nat} {n k : Nat} {ms : List Me} {w : World} (h : NewMes base g bs n k ms w) : ∀ i, i < k → bs i < w.heap.size := fun i hi => (h.cel i hi).2.2.lt
end CatR
end Go.Proofs.YtgaihlhoegaliaaDoor
namespace Go.Proofs.YtgaihlhoegaliaaDoor
open Go.ChangeShapes Go.WideShapes Go.ChangeAt Go.RowKit
set_option linter.unusedVariables false
namespace CatR
set_option maxRecDepth 100000 in
set_option maxHeartbeats 8000000 in
theorem impl_ms (ao : Option Addr) (len cap : Nat) (ms : List Me) (V : Nat → Value) (w : World) (hz : ms.length = len) (hlen : len ≤ 1048576) (hS : ∀ i, i < len → (ms.getD i Me.zero).Small) (hI : MesV ao len ms V w) (hL : Laid w) :
    Calls Tryd.prog 29 #[.slice ao len cap] w fun e w' => e = .returned (.bool (msB ms)) ∧ Below w.heap.size w w' := by
  by_cases h6 : 6 < len
  · have h6' : (6 : Int) < (len : Int) := by omega
    have HR := hid_intro (ms_many (ms := ms) (by omega))
    clear hI hS hL
    go_enter Tryd.func29, Tryd.ntmps29
    go_wp2_with fail
    go_ret
    exact ⟨ret_bool HR.out.symm, Below.refl _ _⟩
  · have h6' : ¬ (6 : Int) < (len : Int) := by omega
    have HN := hid_intro (byName_any ao len cap ms V w (by omega) (fun i hi => (hS i hi).1) hI)
    have HI := hid_intro hI
    have HS := hid_intro hS
    have HL := hid_intro hL
    have HZ := hid_intro hz
    obtain ⟨hl0, a0, hl1⟩ := hL
    clear hI hS
    go_enter Tryd.func29, Tryd.ntmps29
    go_wp2_with fail
    refine HN.out.mono ?_
    rintro e w1 ⟨rfl, hown1, hb1⟩
    have HB1 := hid_intro hb1
    have HO1 := hid_intro hown1
    clear hown1 hb1
    go_wp2_with fail
    go_loopw [17] (fun z wr => ∃ k : Nat, k ≤ len ∧ z = .int .i64 k ∧ Hid (MOk ms k) ∧ Hid (Below w.heap.size w wr) ∧ Hid (wr.ownsMap Tryd.prog 9 RV w.heap.size len (delD ms (mapD ms V len) k))) (fun z _ => len - (intOf z).toNat)
    case atStart => exact ⟨0, by omega, rfl, hid_intro (MOk.zero ms), HB1, HO1⟩
    case round =>
      obtain ⟨k, hk, rfl, HK, HB, HO⟩ := hrel
      have hwr := HO.out.lt
      by_cases hlt : k < len
      · have hlt2 : (k : Int) < (len : Int) := by omega
        have hkl : k < ms.length := by have := HZ.out; omega
        rcases HI.out with h | ⟨b, off, rfl, hb0, h⟩
        · omega
        have HP : Hid (∀ j, j + 1 = k → w.cell? ⟨b, off + j * 6, none⟩ = some (.string (mN ms j))) := hid_intro (fun j hj => by
          obtain ⟨_, _, _, q, _⟩ := h j (by omega)
          exact q)
        have HVS : Hid (∀ j, j < len → ∃ x0 x1 x2 x3 x4 x5 x6 x7, V j = .agg #[.string x0, .int .i64 x1, .bool x2, .int .i64 x3, .int .i64 x4, .slice x5 x6 x7]) := hid_intro (fun j hj => by
          obtain ⟨_, _, q, _⟩ := h j hj
          exact ⟨_, _, _, _, _, _, _, _, q⟩)
        obtain ⟨ta, tc, hv, _, _, _, _, _, _, _⟩ := h k hlt
        have hbl : b < wr.heap.size := by have := HB.out.size; omega
        have hcw := fun o => HB.out.cell (p := ⟨b, o, none⟩) hb0
        obtain ⟨ta', tc', hv', c0, c1, c2, c3, c4, c5, _⟩ := h k hlt
        have eta : ta = ta' ∧ tc = tc' := by rw [hv] at hv'; simpa using hv'
        obtain ⟨rfl, rfl⟩ := eta
        clear hv' h
        replace c0 := (hcw _).trans c0
        replace c1 := (hcw _).trans c1
        replace c2 := (hcw _).trans c2
        replace c3 := (hcw _).trans c3
        replace c4 := (hcw _).trans c4
        replace c5 := (hcw _).trans c5
        have HMR := hid_intro (fun W (hW : Below w.heap.size w W) => impl_meter (V k) (ms.getD k Me.zero) W (HS.out k hlt).1 (HS.out k hlt).2 ((HI.out.below hW).is k hlt))
        have HWR := hid_intro (ms_wrong (ms := ms) hkl)
        have HFA := hid_intro (ms_falls (ms := ms) hkl)
        have HAL := hid_intro (fun i (hi : i < k) e => ms_alike (ms := ms) hkl hi e)
        have HMO := hid_intro (fun (h1 : mB (ms.getD k Me.zero) = true) h2 => HK.out.more (mB_iff.1 h1) h2)
        have HHD := hid_intro (has_delD ms (mapD ms V len) (mN ms k) k)
        have HHM : Hid (Maps.has (mapD ms V len) (kS (mN ms k)) = true) := hid_intro ((has_mapD ms V (mN ms k) len).2 ⟨k, hlt, rfl⟩)
        have HDS : Hid (delD ms (mapD ms V len) (k + 1) = (delD ms (mapD ms V len) k).del (kS (mN ms k))) := rfl
        have hnz : (mN ms k).size ≤ 1048576 := (HS.out k hlt).1
        rw [hv] at HMR
        generalize mB (ms.getD k Me.zero) = r at *
        cases hh : Maps.has (delD ms (mapD ms V len) k) (kS (mN ms k))
        · -- one ahead had this name
          obtain ⟨i, hi, hie⟩ : ∃ i, i < k ∧ mN ms i = mN ms k := by
            apply Classical.byContradiction
            intro hne
            have := HHD.out.2 ⟨HHM.out, fun i hi e => hne ⟨i, hi, e⟩⟩
            rw [hh] at this
            cases this
          have HR := hid_intro (HAL.out i hi hie)
          obtain ⟨j, hj⟩ : ∃ j, j + 1 = k := ⟨k - 1, by omega⟩
          have HT := hid_intro (take_no w.heap.size len _ (mN ms k) (wr.alloc (.cells #[.string (mN ms k), .int .i64 (ms.getD k Me.zero).g, .bool (ms.getD k Me.zero).wh, .int .i64 (ms.getD k Me.zero).f, .int .i64 (ms.getD k Me.zero).l, .slice ta (ms.getD k Me.zero).ts.length tc] 38)) hnz (HO.out.alloc _) hh a0 (by have := HB.out.size; simp only [World.alloc, Array.size_push]; omega) (((HB.out.alloc HB.out.size _).cell (p := ⟨0, 0, none⟩) hl0).trans hl1))
          generalize mN ms k = n at *
          generalize (ms.getD k Me.zero).ts.length = tl at *
          generalize (ms.getD k Me.zero).g = g at *
          generalize (ms.getD k Me.zero).wh = wh at *
          generalize (ms.getD k Me.zero).f = f at *
          generalize (ms.getD k Me.zero).l = l at *
          clear hv hh HWR HFA HMO HAL HHD HHM HDS hie hi hcw
          go_wp2_with fail
          refine HT.out.mono ?_
          rintro e w2 ⟨rfl, hbT⟩
          have hg : (wr.alloc (.cells #[.string n, .int .i64 g, .bool wh, .int .i64 f, .int .i64 l, .slice ta tl tc] 38)).grownBy w2 (some w.heap.size) := ⟨hbT.os, hbT.tape, hbT.output, hbT.size, fun k hk _ => hbT.block k hk⟩
          have hsz : wr.heap.size < w2.heap.size := by have := hg.size; simp at this; omega
          have EM := fun o => World.cell?_of_block (a := ⟨wr.heap.size, o, none⟩) (hg.block wr.heap.size (by simp) (by simp; omega))
          have m0 : w2.cell? ⟨wr.heap.size, 0, none⟩ = some (.string n) := (EM 0).trans (by simp [go_sem])
          have m1 : w2.cell? ⟨wr.heap.size, 1, none⟩ = some (.int .i64 g) := (EM 1).trans (by simp [go_sem])
          have m2 : w2.cell? ⟨wr.heap.size, 2, none⟩ = some (.bool wh) := (EM 2).trans (by simp [go_sem])
          have m3 : w2.cell? ⟨wr.heap.size, 3, none⟩ = some (.int .i64 f) := (EM 3).trans (by simp [go_sem])
          have m4 : w2.cell? ⟨wr.heap.size, 4, none⟩ = some (.int .i64 l) := (EM 4).trans (by simp [go_sem])
          have m5 : w2.cell? ⟨wr.heap.size, 5, none⟩ = some (.slice ta tl tc) := (EM 5).trans (by simp [go_sem])
          have HB2 : Hid (Below w.heap.size w w2) := hid_intro ((HB.out.alloc HB.out.size _).grown hg (HB.out.alloc HB.out.size _).size (fun k e => by cases e; exact Nat.le_refl _))
          have g0 : w2.cell? ⟨0, 0, none⟩ = some (.iface 117 (.pointer (some a0))) := (HB2.out.cell (p := ⟨0, 0, none⟩) hl0).trans hl1
          have hl2 : 0 < w2.heap.size := by have := HB2.out.size; omega
          have p2 : ∀ j, j + 1 = k → w2.cell? ⟨b, off + j * 6, none⟩ = some (.string (mN ms j)) := fun j hj => (HB2.out.cell (p := ⟨b, _, none⟩) hb0).trans (HP.out j hj)
          have HI2 := hid_intro (HI.out.below HB2.out)
          clear EM c0 c1 c2 c3 c4 c5
          have p3 := p2 j hj
          clear p2 hg hbT HT
          have HIS := hid_intro (fun w => IsR.is_same a0 w)
          have hj1 : IntKind.i64.wrap ((k : Int) - 1) = (j : Int) := by rw [IntKind.wrap_i64]; omega
          have hj2 : 0 < k := by omega
          have hj3 : (j : Int) < (len : Int) := by omega
          have hb2 : b < w2.heap.size := by have := HB2.out.size; omega
          have HF : Hid (∀ o m, Below w.heap.size w ((w2.alloc o).drewN m)) := hid_intro (fun o m => bdrewN (HB2.out.alloc HB2.out.size o) m)
          clear hj
          go_wp2_with (go_at_call 47; refine (HIS.out _).mono ?_; rintro e w' ⟨rfl, rfl⟩)
          go_quiet (fail)
          go_wp2_with fail
          go_ret
          exact ⟨ret_bool HR.out.symm, HF.out _ _⟩
        · have HAP := hid_intro (HHD.out.1 hh).2
          obtain ⟨q, hq, hqz⟩ := at_mapD_some ms V (mN ms k) len ⟨k, hlt, rfl⟩
          obtain ⟨x0, x1, x2, x3, x4, x5, x6, x7, hvq⟩ := HVS.out q hq
          have HT := hid_intro (take_has w.heap.size len _ (mN ms k) x0 x1 x2 x3 x4 x5 x6 x7 (wr.alloc (.cells #[.string (mN ms k), .int .i64 (ms.getD k Me.zero).g, .bool (ms.getD k Me.zero).wh, .int .i64 (ms.getD k Me.zero).f, .int .i64 (ms.getD k Me.zero).l, .slice ta (ms.getD k Me.zero).ts.length tc] 38)) hnz (HO.out.alloc _) hh (fun z => by rw [at_delD ms _ (mN ms k) z k HAP.out, hqz z, hvq]))
          have HHE := hid_intro hh
          have HRI : Hid (lt (mN ms k) (mN ms (k - 1)) = false → 0 < k → lt (mN ms (k - 1)) (mN ms k) = true) := hid_intro (fun h1 h0 => by
            cases h2 : lt (mN ms (k - 1)) (mN ms k)
            · exact absurd (lt_total h2 h1) (HAP.out (k - 1) (by omega))
            · rfl)
          clear hh hqz hvq
          rw [← HDS.out] at HT
          generalize mN ms k = n at *
          generalize (ms.getD k Me.zero).ts.length = tl at *
          generalize (ms.getD k Me.zero).g = g at *
          generalize (ms.getD k Me.zero).wh = wh at *
          generalize (ms.getD k Me.zero).f = f at *
          generalize (ms.getD k Me.zero).l = l at *
          clear hv HAL HHD HHM HDS hcw HHE
          go_wp2_with fail
          refine HT.out.mono ?_
          rintro e w2 ⟨rfl, hown2, hg⟩
          have HO2 := hid_intro hown2
          have hsz : wr.heap.size < w2.heap.size := by have := hg.size; simp at this; omega
          have EM := fun o => World.cell?_of_block (a := ⟨wr.heap.size, o, none⟩) (hg.block wr.heap.size (by simp) (by simp; omega))
          have m0 : w2.cell? ⟨wr.heap.size, 0, none⟩ = some (.string n) := (EM 0).trans (by simp [go_sem])
          have m1 : w2.cell? ⟨wr.heap.size, 1, none⟩ = some (.int .i64 g) := (EM 1).trans (by simp [go_sem])
          have m2 : w2.cell? ⟨wr.heap.size, 2, none⟩ = some (.bool wh) := (EM 2).trans (by simp [go_sem])
          have m3 : w2.cell? ⟨wr.heap.size, 3, none⟩ = some (.int .i64 f) := (EM 3).trans (by simp [go_sem])
          have m4 : w2.cell? ⟨wr.heap.size, 4, none⟩ = some (.int .i64 l) := (EM 4).trans (by simp [go_sem])
          have m5 : w2.cell? ⟨wr.heap.size, 5, none⟩ = some (.slice ta tl tc) := (EM 5).trans (by simp [go_sem])
          have HB2 : Hid (Below w.heap.size w w2) := hid_intro ((HB.out.alloc HB.out.size _).grown hg (HB.out.alloc HB.out.size _).size (fun k e => by cases e; exact Nat.le_refl _))
          have g0 : w2.cell? ⟨0, 0, none⟩ = some (.iface 117 (.pointer (some a0))) := (HB2.out.cell (p := ⟨0, 0, none⟩) hl0).trans hl1
          have hl2 : 0 < w2.heap.size := by have := HB2.out.size; omega
          have p2 : ∀ j, j + 1 = k → w2.cell? ⟨b, off + j * 6, none⟩ = some (.string (mN ms j)) := fun j hj => (HB2.out.cell (p := ⟨b, _, none⟩) hb0).trans (HP.out j hj)
          have HI2 := hid_intro (HI.out.below HB2.out)
          clear EM c0 c1 c2 c3 c4 c5
          clear hg hown2 HT
          have HIS := hid_intro (fun w => IsR.is_nil a0 w)
          have hb2 : b < w2.heap.size := by have := HB2.out.size; omega
          have HF : Hid (∀ o m, Below w.heap.size w ((w2.alloc o).drewN m)) := hid_intro (fun o m => bdrewN (HB2.out.alloc HB2.out.size o) m)
          have HFO : Hid (∀ o m, ((w2.alloc o).drewN m).ownsMap Tryd.prog 9 RV w.heap.size len (delD ms (mapD ms V len) (k + 1))) := hid_intro (fun o m => by obtain ⟨es, c, h⟩ := HO2.out.alloc o; exact ⟨es, c, h⟩)
          rcases (show k = 0 ∨ ∃ j, j + 1 = k from by rcases k with _ | j; exact .inl rfl; exact .inr ⟨j, rfl⟩) with rfl | ⟨j, hj⟩
          · go_wp2_with (go_at_call 47; refine (HIS.out _).mono ?_; rintro e w' ⟨rfl, rfl⟩)
            go_quiet (fail)
            go_wp2_with fail
            refine (HMR.out _ (HF.out _ _)).mono ?_
            rintro e w5 ⟨rfl, hb5⟩
            have HB5 := hid_intro ((HF.out _ _).trans (hb5.mono (HF.out _ _).size))
            have HO5 := hid_intro ((HFO.out _ _).kept (row := none) ⟨hb5.os, hb5.tape, hb5.output, hb5.size, fun k hk _ => hb5.block k hk⟩ (by simp))
            clear hb5
            cases r
            · have HR := hid_intro (HWR.out rfl)
              go_wp2_with fail
              go_ret
              exact ⟨ret_bool HR.out.symm, HB5.out⟩
            · have HM := hid_intro (HMO.out rfl (fun h => absurd h (by omega)))
              go_wp2_with fail
              go_roundw
              case rel => exact ⟨0 + 1, by omega, by go_num, HM, HB5, HO5⟩
              case measure => simp [intOf]; omega
          · have p3 := p2 j hj
            clear p2
            have hj1 : IntKind.i64.wrap ((k : Int) - 1) = (j : Int) := by rw [IntKind.wrap_i64]; omega
            have hj2 : 0 < k := by omega
            have hj3 : (j : Int) < (len : Int) := by omega
            have ejk : k - 1 = j := by omega
            rw [ejk] at HFA HRI HMO
            clear hj ejk
            cases hfl : Op.bytesLess n.toList (mN ms j).toList
            · have HRI2 := hid_intro (HRI.out hfl hj2)
              go_wp2_with (go_at_call 47; refine (HIS.out _).mono ?_; rintro e w' ⟨rfl, rfl⟩)
              go_quiet (fail)
              go_wp2_with fail
              refine (HMR.out _ (HF.out _ _)).mono ?_
              rintro e w5 ⟨rfl, hb5⟩
              have HB5 := hid_intro ((HF.out _ _).trans (hb5.mono (HF.out _ _).size))
              have HO5 := hid_intro ((HFO.out _ _).kept (row := none) ⟨hb5.os, hb5.tape, hb5.output, hb5.size, fun k hk _ => hb5.block k hk⟩ (by simp))
              clear hb5
              cases r
              · have HR := hid_intro (HWR.out rfl)
                go_wp2_with fail
                go_ret
                exact ⟨ret_bool HR.out.symm, HB5.out⟩
              · have HM := hid_intro (HMO.out rfl (fun _ => HRI2.out))
                go_wp2_with fail
                go_roundw
                case rel => exact ⟨k + 1, by omega, by go_num, HM, HB5, HO5⟩
                case measure => simp [intOf]; omega
            · have HR := hid_intro (HFA.out hj2 hfl)
              go_wp2_with (go_at_call 47; refine (HIS.out _).mono ?_; rintro e w' ⟨rfl, rfl⟩)
              go_quiet (fail)
              go_wp2_with fail
              go_ret
              exact ⟨ret_bool HR.out.symm, HF.out _ _⟩
      · obtain rfl : k = len := by omega
        have HR : Hid (msB ms = true) := hid_intro (ms_end (by have := HZ.out; omega) (by rw [HZ.out]; exact HK.out))
        go_wp2_with fail
        go_ret
        exact ⟨ret_bool HR.out.symm, HB.out⟩
end CatR
end Go.Proofs.YtgaihlhoegaliaaDoor
namespace Go.Proofs.YtgaihlhoegaliaaDoor
open Go.ChangeShapes Go.WideShapes Go.ChangeAt Go.RowKit
set_option linter.unusedVariables false
namespace CatR
/-- The account ahead, none ahead of the first. -/
def cP (cs : List Cr) : Nat → ByteArray
  | 0 => ⟨#[]⟩
  | k + 1 => cA cs k
theorem leq_yes {a p : ByteArray} (h : (Op.bytesLess a.toList p.toList || (a.toList == p.toList)) = true) : lt p a = false := by
  rw [Bool.or_eq_true] at h
  rcases h with h | h
  · exact lt_asymm h
  · rw [toList_inj (beq_iff_eq.1 h)]; exact lt_irrefl _
theorem leq_no {a p : ByteArray} (h : (Op.bytesLess a.toList p.toList || (a.toList == p.toList)) = false) : lt p a = true := by
  rw [Bool.or_eq_false_iff] at h
  cases h2 : lt p a
  · have := lt_total h2 h.1
    rw [this] at h
    simp at h
  · rfl
theorem cs_le {cs : List Cr} {k : Nat} (hk : k < cs.length) (h : (Op.bytesLess (cA cs k).toList (cP cs k).toList || ((cA cs k).toList == (cP cs k).toList)) = true) : csB cs = false := by
  have h2 := leq_yes h
  match k, hk, h2 with
  | 0, hk, h2 =>
    refine cs_name hk ?_
    apply NameR.name_size
    rcases Nat.lt_or_ge (cA cs 0).size 1 with h3 | h3
    · exact .inl h3
    · have := lt_empty h3
      rw [show lt ⟨#[]⟩ (cA cs 0) = lt (cP cs 0) (cA cs 0) from rfl, h2] at this
      cases this
  | k + 1, hk, h2 => exact cs_flat hk (by omega) h2
theorem cs_go {cs : List Cr} {k : Nat} (h : COk cs k) (hl : (Op.bytesLess (cA cs k).toList (cP cs k).toList || ((cA cs k).toList == (cP cs k).toList)) = false) (hn : NameR.nameB (cA cs k) = true) (hm : 0 ≤ cM cs k ∧ cM cs k ≤ 1000000000000) : COk cs (k + 1) := by
  refine h.more hn hm (fun h0 => ?_)
  have h2 := leq_no hl
  match k, h0, h2 with
  | k + 1, _, h2 => exact h2
set_option maxRecDepth 100000 in
set_option maxHeartbeats 8000000 in
theorem impl_cs (ao : Option Addr) (len cap : Nat) (cs : List Cr) (w : World) (hlen : len ≤ 1048576) (hS : ∀ i, i < len → (cs.getD i Cr.zero).a.size ≤ 1048576) (hI : Crs ao len cs w) :
    Calls Tryd.prog 30 #[.slice ao len cap] w fun e w' => e = .returned (.bool (csB cs)) ∧ Below w.heap.size w w' := by
  have hz := hI.1
  by_cases h6 : 6 < len
  · have h6' : (6 : Int) < (len : Int) := by omega
    have HR := hid_intro (cs_many (cs := cs) (by omega))
    clear hI hS
    go_enter Tryd.func30, Tryd.ntmps30
    go_wp2_with fail
    go_ret
    exact ⟨ret_bool HR.out.symm, Below.refl _ _⟩
  · have h6' : ¬ (6 : Int) < (len : Int) := by omega
    have HI := hid_intro hI
    have HS := hid_intro hS
    have HZ := hid_intro hz
    clear hI hS
    go_enter Tryd.func30, Tryd.ntmps30
    go_wp2_with fail
    go_loopw [3, 11] (fun x z wr => ∃ k : Nat, k ≤ len ∧ x = .string (cP cs k) ∧ z = .int .i64 k ∧ Hid (COk cs k) ∧ Hid (Below w.heap.size w wr)) (fun x z _ => len - (intOf z).toNat)
    case atStart => exact ⟨0, by omega, rfl, rfl, hid_intro (COk.zero cs), hid_intro (Below.refl _ _)⟩
    case round =>
      obtain ⟨k, hk, rfl, rfl, HK, HB⟩ := hrel
      by_cases hlt : k < len
      · have hlt2 : (k : Int) < (len : Int) := by omega
        have hkl : k < cs.length := by have := HZ.out; omega
        obtain ⟨b, off, rfl, hbl, d0, d1⟩ := crs_at (HI.out.below HB.out) k hlt
        have c0 : wr.cell? ⟨b, off + k * 2, none⟩ = some (.string (cA cs k)) := d0
        have c1 : wr.cell? ⟨b, off + k * 2 + 1, none⟩ = some (.int .i64 (cM cs k)) := d1
        clear d0 d1
        have hsz : (cA cs k).size ≤ 1048576 := HS.out k hlt
        have HN := hid_intro (fun w => NameR.impl_any (cA cs k) w hsz)
        have HW := hid_intro (fun w => within64 (cM cs k) 0 1000000000000 w)
        have HLE := hid_intro (cs_le hkl)
        have HNA := hid_intro (cs_name hkl)
        have HMI := hid_intro (cs_micro hkl)
        have HGO := hid_intro (cs_go HK.out)
        have HP : Hid (cP cs (k + 1) = cA cs k) := rfl
        generalize NameR.nameB (cA cs k) = r at *
        generalize cA cs k = a at *
        generalize cP cs k = p at *
        generalize cM cs k = m at *
        have HAl := hid_intro (fun o => HB.out.alloc HB.out.size o)
        cases hle : (Op.bytesLess a.toList p.toList || (a.toList == p.toList))
        · cases r
          · have HR := hid_intro (HNA.out rfl)
            go_wp2_with (first | (go_at_call 49; refine (HN.out _).mono ?_; rintro e w' ⟨rfl, rfl⟩) | (go_at_call 42; refine (HW.out _).mono ?_; rintro e w' ⟨rfl, rfl⟩))
            go_ret
            exact ⟨ret_bool HR.out.symm, HAl.out _⟩
          · by_cases hm : 0 ≤ m ∧ m ≤ 1000000000000
            · have HM := hid_intro (HGO.out hle rfl hm)
              rw [decide_eq_true hm] at HW
              go_wp2_with (first | (go_at_call 49; refine (HN.out _).mono ?_; rintro e w' ⟨rfl, rfl⟩) | (go_at_call 42; refine (HW.out _).mono ?_; rintro e w' ⟨rfl, rfl⟩))
              go_roundw
              case rel => exact ⟨k + 1, by omega, by rw [HP.out], by go_num, HM, hid_intro (HAl.out _)⟩
              case measure => simp [intOf]; omega
            · have HR := hid_intro (HMI.out hm)
              rw [decide_eq_false hm] at HW
              go_wp2_with (first | (go_at_call 49; refine (HN.out _).mono ?_; rintro e w' ⟨rfl, rfl⟩) | (go_at_call 42; refine (HW.out _).mono ?_; rintro e w' ⟨rfl, rfl⟩))
              go_ret
              exact ⟨ret_bool HR.out.symm, HAl.out _⟩
        · have HR := hid_intro (HLE.out hle)
          go_wp2_with fail
          go_ret
          exact ⟨ret_bool HR.out.symm, HAl.out _⟩
      · obtain rfl : k = len := by omega
        have HR : Hid (csB cs = true) := hid_intro (cs_end (by have := HZ.out; omega) (by rw [HZ.out]; exact HK.out))
        go_wp2_with fail
        go_ret
        exact ⟨ret_bool HR.out.symm, HB.out⟩
end CatR
end Go.Proofs.YtgaihlhoegaliaaDoor
namespace Go.Proofs.YtgaihlhoegaliaaDoor
open Go.ChangeShapes Go.WideShapes Go.ChangeAt Go.RowKit
set_option linter.unusedVariables false
namespace CatR
open EvtR (Pt cell_put cell_far)
theorem infoM : (Tryd.prog.info? 38).map (fun i => (i.zero, i.size, i.bytes)) = some (some (.agg #[.string ⟨#[]⟩, .int .i64 0, .bool false, .int .i64 0, .int .i64 0, .slice none 0 0]), 6, 72) := by kernel_rfl
set_option maxHeartbeats 4000000 in
theorem eqMes_any (ao bo : Option Addr) (len cap cap' : Nat) (ms : List Me) (w : World) (hlen : len ≤ 1048576) (hS : ∀ i, i < len → (ms.getD i Me.zero).Small) (hI : Mes ao len ms w) (hJ : Mes bo len ms w) :
    Calls Tryd.prog 31 #[.slice ao len cap, .slice bo len cap'] w fun e w' => e = .returned (.bool true) ∧ Below w.heap.size w w' := by
  have HI := hid_intro hI
  have HJ := hid_intro hJ
  have HS := hid_intro hS
  clear hI hJ hS
  go_enter Tryd.func31, Tryd.ntmps31
  go_wp2_with fail
  go_loopw [5] (fun z wr => ∃ k : Nat, k ≤ len ∧ z = .int .i64 k ∧ Hid (Below w.heap.size w wr)) (fun z _ => len - (intOf z).toNat)
  case atStart => exact ⟨0, by omega, rfl, hid_intro (Below.refl _ _)⟩
  case round =>
    obtain ⟨k, hk, rfl, HW⟩ := hrel
    by_cases hlt : k < len
    · have hlt2 : (k : Int) < (len : Int) := by omega
      obtain ⟨b, off, rfl, _, ta, tc, c0, c1, c2, c3, c4, c5, hT⟩ := mes_at (HI.out.below HW.out) k hlt
      obtain ⟨b', off', rfl, _, ta', tc', e0, e1, e2, e3, e4, e5, hT'⟩ := mes_at (HJ.out.below HW.out) k hlt
      have HC := hid_intro (fun W (hW : Below wr.heap.size wr W) => eqMe_any _ _ (ms.getD k Me.zero) W (HS.out k hlt).2 ⟨ta, tc, rfl, hT.below hW⟩ ⟨ta', tc', rfl, hT'.below hW⟩)
      generalize ms.getD k Me.zero = X at *
      obtain ⟨n, g, wh, f, l, ts⟩ := X
      simp only at HC c0 c1 c2 c3 c4 c5 e0 e1 e2 e3 e4 e5
      clear hT hT'
      generalize ts.length = tl at *
      go_wp2_with fail
      go_region_with (go_at_call 50; refine (HC.out _ (Below.refl _ _).drew).mono ?_; rintro e w1 ⟨rfl, hb⟩)
      all_goals (
        have HB1 := hid_intro (HW.out.drew.trans (hb.mono HW.out.drew.size))
        clear hb c0 c1 c2 c3 c4 c5 e0 e1 e2 e3 e4 e5
        go_wp2_with fail
        go_roundw
        case rel => exact ⟨k + 1, by omega, by go_num, HB1⟩
        case measure => simp [intOf]; omega)
    · have hlt2 : ¬ (k : Int) < (len : Int) := by omega
      go_wp2_with fail
      go_ret
      exact ⟨rfl, HW.out⟩
end CatR
end Go.Proofs.YtgaihlhoegaliaaDoor
namespace Go.Proofs.YtgaihlhoegaliaaDoor
open Go.ChangeShapes Go.WideShapes Go.ChangeAt Go.RowKit
set_option linter.unusedVariables false
namespace CatR
open EvtR (Pt cell_put cell_far)
theorem infoC : (Tryd.prog.info? 42).map (fun i => (i.zero, i.size, i.bytes)) = some (some (.agg #[.string ⟨#[]⟩, .int .i64 0]), 2, 24) := by kernel_rfl
theorem small_moreC {cs : List Cr} {k : Nat} (h : ∀ i, i < k → (cs.getD i Cr.zero).a.size ≤ 1048576) (hk : (cs.getD k Cr.zero).a.size ≤ 1048576) : ∀ i, i < k + 1 → (cs.getD i Cr.zero).a.size ≤ 1048576 := fun i hi => by
  by_cases e : i = k
  · subst e; exact hk
  · exact h i (by omega)
theorem crs_set {wr : World} {g n k : Nat} {ts : List Cr} (hp : Pt g (n * 2) wr) (hk : k < n) (ha : ∀ i, i < k → CrAt wr g (i * 2) (ts.getD i Cr.zero)) :
    Pt g (n * 2) ((wr.setCell ⟨g, k * 2, none⟩ (.string (ts.getD k Cr.zero).a)).setCell ⟨g, k * 2 + 1, none⟩ (.int .i64 (ts.getD k Cr.zero).m)) ∧ ∀ i, i < k + 1 → CrAt ((wr.setCell ⟨g, k * 2, none⟩ (.string (ts.getD k Cr.zero).a)).setCell ⟨g, k * 2 + 1, none⟩ (.int .i64 (ts.getD k Cr.zero).m)) g (i * 2) (ts.getD i Cr.zero) := by
  refine ⟨(hp.set _ _).set _ _, fun i hi => ?_⟩
  by_cases e : i = k
  · subst e
    exact ⟨(cell_far _ _ (by omega) _).trans (cell_put hp _ (by omega) _), cell_put (hp.set _ _) _ (by omega) _⟩
  · have h := ha i (by omega)
    exact ⟨((cell_far _ _ (by omega) _).trans (cell_far _ _ (by omega) _)).trans h.1, ((cell_far _ _ (by omega) _).trans (cell_far _ _ (by omega) _)).trans h.2⟩
theorem eqCr_any (u : ByteArray) (p : Int) (w : World) : Calls Tryd.prog 51 #[.agg #[.string u, .int .i64 p], .agg #[.string u, .int .i64 p]] w fun e w' => e = .returned (.bool true) ∧ Below w.heap.size w w' := by
  go_enter Tryd.func51, Tryd.ntmps51
  go_wp2
  go_ret
  refine ⟨rfl, ?_⟩
  repeat' first | exact Below.refl _ _ | apply Below.setCell | apply Below.alloc
  all_goals first | omega | (simp; done) | (simp; omega)
set_option maxHeartbeats 4000000 in
theorem eqCrs_any (ao bo : Option Addr) (len cap cap' : Nat) (ts : List Cr) (w : World) (hlen : len ≤ 1048576) (hI : Crs ao len ts w) (hJ : Crs bo len ts w) :
    Calls Tryd.prog 32 #[.slice ao len cap, .slice bo len cap'] w fun e w' => e = .returned (.bool true) ∧ Below w.heap.size w w' := by
  have HI := hid_intro hI
  have HJ := hid_intro hJ
  clear hI hJ
  go_enter Tryd.func32, Tryd.ntmps32
  go_wp2_with fail
  go_loopw [5] (fun z wr => ∃ k : Nat, k ≤ len ∧ z = .int .i64 k ∧ Hid (Below w.heap.size w wr)) (fun z _ => len - (intOf z).toNat)
  case atStart => exact ⟨0, by omega, rfl, hid_intro (Below.refl _ _)⟩
  case round =>
    obtain ⟨k, hk, rfl, HW⟩ := hrel
    by_cases hlt : k < len
    · have hlt2 : (k : Int) < (len : Int) := by omega
      obtain ⟨b, off, rfl, _, c0, c1⟩ := crs_at (HI.out.below HW.out) k hlt
      obtain ⟨b', off', rfl, _, e0, e1⟩ := crs_at (HJ.out.below HW.out) k hlt
      generalize ts.getD k Cr.zero = X at *
      obtain ⟨u, p⟩ := X
      have HC := hid_intro (fun w => eqCr_any u p w)
      go_wp2_with fail
      go_region_with (go_at_call 51; refine (HC.out _).mono ?_; rintro e w1 ⟨rfl, hb⟩)
      all_goals (
        have HB1 := hid_intro (HW.out.drew.trans (hb.mono HW.out.drew.size))
        clear hb c0 c1 e0 e1
        go_wp2_with fail
        go_roundw
        case rel => exact ⟨k + 1, by omega, by go_num, HB1⟩
        case measure => simp [intOf]; omega)
    · have hlt2 : ¬ (k : Int) < (len : Int) := by omega
      go_wp2_with fail
      go_ret
      exact ⟨rfl, HW.out⟩
end CatR
end Go.Proofs.YtgaihlhoegaliaaDoor
namespace Go.Proofs.YtgaihlhoegaliaaDoor
open Go.ChangeShapes Go.WideShapes Go.ChangeAt Go.RowKit
set_option linter.unusedVariables false
namespace CatR
open EvtR (Pt cell_put cell_far)
structure Ca.Small (c : Ca) : Prop where
  ml : c.ms.length ≤ 1048576
  ms : ∀ i, i < c.ms.length → (c.ms.getD i Me.zero).Small
  cl : c.cs.length ≤ 1048576
  cs : ∀ i, i < c.cs.length → (c.cs.getD i Cr.zero).a.size ≤ 1048576
structure Ca.In (c : Ca) : Prop where
  ml : c.ms.length ≤ maxLen
  ms : ∀ i, i < c.ms.length → (c.ms.getD i Me.zero).In
  cl : c.cs.length ≤ maxLen
  cs : ∀ i, i < c.cs.length → (c.cs.getD i Cr.zero).a.size ≤ maxLen
theorem NewMes.far {base g : Nat} {bs : Nat → Nat} {n k : Nat} {ms : List Me} {w : World} (h : NewMes base g bs n k ms w) {b : Nat} (hb : b < base) (o : Nat) (v : Value) : NewMes base g bs n k ms (w.setCell ⟨b, o, none⟩ v) := by
  have hg := h.lo
  refine ⟨h.lo, h.pt.far (by omega) o v, h.inc, fun i hi => ?_⟩
  have hi2 := (h.inc i hi).1
  obtain ⟨⟨h0, h1, h2, h3, h4, h5⟩, h6, h7⟩ := h.cel i hi
  have e := far_block w b o v g (by omega)
  have f := fun x => World.cell?_of_block (a := ⟨g, x, none⟩) e
  exact ⟨⟨(f _).trans h0, (f _).trans h1, (f _).trans h2, (f _).trans h3, (f _).trans h4, (f _).trans h5⟩, h6.far (by omega) o v, h7.far (by omega) o v⟩
theorem NewMes.mono {base base' g : Nat} {bs : Nat → Nat} {n k : Nat} {ms : List Me} {w : World} (h : NewMes base g bs n k ms w) (hb : base' ≤ base) : NewMes base' g bs n k ms w := ⟨by have := h.lo; omega, h.pt, h.inc, h.cel⟩
theorem Crs.far {b0 off len : Nat} {ts : List Cr} {w : World} (h : Crs (some ⟨b0, off, none⟩) len ts w) {b : Nat} (hb : b ≠ b0) (o : Nat) (v : Value) : Crs (some ⟨b0, off, none⟩) len ts (w.setCell ⟨b, o, none⟩ v) := by
  refine ⟨h.1, ?_⟩
  rcases h.2 with h0 | ⟨b1, off1, e, hlt, hc⟩
  · exact .inl h0
  · obtain ⟨rfl, rfl⟩ : b0 = b1 ∧ off = off1 := by simpa using e
    have e := far_block w b o v b0 hb
    exact .inr ⟨b0, off, rfl, by simpa using hlt, fun j hj => ⟨(World.cell?_of_block (a := ⟨b0, _, none⟩) e).trans (hc j hj).1, (World.cell?_of_block (a := ⟨b0, _, none⟩) e).trans (hc j hj).2⟩⟩
/-- A catalog that a copy has made. -/
def NewCa (base : Nat) (v : Value) (c : Ca) (w : World) : Prop := ∃ g bs h, v = .agg #[.slice (some ⟨g, 0, none⟩) c.ms.length c.ms.length, .slice (some ⟨h, 0, none⟩) c.cs.length c.cs.length] ∧ NewMes base g bs c.ms.length c.ms.length c.ms w ∧ g < h ∧ (∀ i, i < c.ms.length → bs i < h) ∧ Crs (some ⟨h, 0, none⟩) c.cs.length c.cs w ∧ Pt h (c.cs.length * 2) w
theorem NewCa.is {base : Nat} {v : Value} {c : Ca} {w : World} (h : NewCa base v c w) : IsCa v c w := by
  obtain ⟨g, bs, h0, h1, h2, h3, h4, h5, h6⟩ := h
  exact ⟨_, _, _, _, h1, h2.is rfl, h5⟩
theorem NewCa.below {base : Nat} {v : Value} {c : Ca} {w w' : World} (h : NewCa base v c w) (hb : Below w.heap.size w w') : NewCa base v c w' := by
  obtain ⟨g, bs, h0, h1, h2, h3, h4, h5, h6⟩ := h
  exact ⟨g, bs, h0, h1, h2.below hb, h3, h4, h5.below hb, h6.below hb⟩
set_option maxHeartbeats 4000000 in
theorem eqCa_any (v v' : Value) (c : Ca) (w : World) (hS : c.Small) (hI : IsCa v c w) (hJ : IsCa v' c w) :
    Calls Tryd.prog 17 #[v, v'] w fun e w' => e = .returned (.bool true) ∧ Below w.heap.size w w' := by
  obtain ⟨ma, mc, ca, cc, rfl, hM, hR⟩ := hI
  obtain ⟨ma', mc', ca', cc', rfl, hM', hR'⟩ := hJ
  obtain ⟨ms, cs⟩ := c
  obtain ⟨s1, s2, s3, s4⟩ := hS
  simp only at *
  have HM : Hid (∀ W, Below w.heap.size w W → Calls Tryd.prog 31 #[.slice ma ms.length mc, .slice ma' ms.length mc'] W fun e w' => e = .returned (.bool true) ∧ Below W.heap.size W w') := hid_intro (fun W hW => eqMes_any ma ma' ms.length mc mc' ms W s1 s2 (hM.below hW) (hM'.below hW))
  have HR : Hid (∀ W, Below w.heap.size w W → Calls Tryd.prog 32 #[.slice ca cs.length cc, .slice ca' cs.length cc'] W fun e w' => e = .returned (.bool true) ∧ Below W.heap.size W w') := hid_intro (fun W hW => eqCrs_any ca ca' cs.length cc cc' cs W s3 (hR.below hW) (hR'.below hW))
  clear hM hR hM' hR' s1 s2 s3 s4
  generalize ms.length = ml at *
  generalize cs.length = cl at *
  have HB : Hid (Below w.heap.size w ((w.alloc (.cells #[.slice ma ml mc, .slice ca cl cc] 25)).alloc (.cells #[.slice ma' ml mc', .slice ca' cl cc'] 25))) := hid_intro (((Below.refl _ _).alloc (Nat.le_refl _) _).alloc (by simp) _)
  go_enter Tryd.func17, Tryd.ntmps17
  go_wp2_with fail
  refine (HM.out _ HB.out).mono ?_
  rintro e w1 ⟨rfl, hb1⟩
  obtain ⟨hcc, hff⟩ := bcell hb1
  have hlt : w.heap.size + 1 < w1.heap.size := by have := hb1.size; simp at this; omega
  have HB1 := hid_intro (HB.out.trans (hb1.mono HB.out.size))
  have p1 : w1.cell? ⟨w.heap.size, 1, none⟩ = some (.slice ca cl cc) := (hcc w.heap.size 1 (by simp; omega)).trans (by simp [go_sem])
  have p2 : w1.cell? ⟨w.heap.size + 1, 1, none⟩ = some (.slice ca' cl cc') := (hcc (w.heap.size + 1) 1 (by simp)).trans (by simp [go_sem])
  clear hb1 hcc hff
  go_wp2_with fail
  refine (HR.out _ HB1.out).mono ?_
  rintro e w2 ⟨rfl, hb2⟩
  have HB2 := hid_intro (HB1.out.trans (hb2.mono HB1.out.size))
  clear hb2
  go_wp2_with fail
  go_ret
  exact ⟨rfl, HB2.out⟩
end CatR
end Go.Proofs.YtgaihlhoegaliaaDoor
namespace Go.Proofs.YtgaihlhoegaliaaDoor
open Go.ChangeShapes Go.WideShapes Go.ChangeAt Go.RowKit
set_option linter.unusedVariables false
namespace CatR
set_option maxHeartbeats 4000000 in
theorem impl_ca (v : Value) (c : Ca) (w : World) (hS : c.Small) (hC : IsCa v c w) (hL : Laid w) :
    Calls Tryd.prog 16 #[v] w fun e w' => e = .returned (.bool (caB c)) ∧ Below w.heap.size w w' := by
  obtain ⟨ma, mc, ca, cc, rfl, hM, hR⟩ := hC
  obtain ⟨ms, cs⟩ := c
  obtain ⟨s1, s2, s3, s4⟩ := hS
  simp only at *
  obtain ⟨V, hV⟩ := mes_v hM
  have HM : Hid (∀ W, Below w.heap.size w W → Calls Tryd.prog 29 #[.slice ma ms.length mc] W fun e w' => e = .returned (.bool (msB ms)) ∧ Below W.heap.size W w') := hid_intro (fun W hW => impl_ms ma ms.length mc ms V W rfl s1 s2 (hV.below hW) (hL.below hW))
  have HR : Hid (∀ W, Below w.heap.size w W → Calls Tryd.prog 30 #[.slice ca cs.length cc] W fun e w' => e = .returned (.bool (csB cs)) ∧ Below W.heap.size W w') := hid_intro (fun W hW => impl_cs ca cs.length cc cs W s3 s4 (hR.below hW))
  have HV : Hid (caB ⟨ms, cs⟩ = (msB ms && csB cs)) := rfl
  clear hM hR s1 s2 s3 s4 hV hL
  generalize msB ms = r1 at *
  generalize csB cs = r2 at *
  generalize caB ⟨ms, cs⟩ = R at *
  generalize ms.length = ml at *
  generalize cs.length = cl at *
  have HB : Hid (Below w.heap.size w (w.alloc (.cells #[.slice ma ml mc, .slice ca cl cc] 25))) := hid_intro ((Below.refl _ _).alloc (Nat.le_refl _) _)
  have hw1 : ∀ w1, Below (w.alloc (.cells #[.slice ma ml mc, .slice ca cl cc] 25)).heap.size (w.alloc (.cells #[.slice ma ml mc, .slice ca cl cc] 25)) w1 → w.heap.size < w1.heap.size ∧ w1.cell? ⟨w.heap.size, 1, none⟩ = some (.slice ca cl cc) := fun w1 hb => ⟨by have := hb.size; simp at this; omega, (hb.cell (p := ⟨w.heap.size, 1, none⟩) (by simp)).trans (by simp [go_sem])⟩
  have HW1 := hid_intro hw1
  clear hw1
  go_enter Tryd.func16, Tryd.ntmps16
  go_wp2_with fail
  refine (HM.out _ HB.out).mono ?_
  rintro e w1 ⟨rfl, hb1⟩
  have HB1 := hid_intro (HB.out.trans (hb1.mono HB.out.size))
  obtain ⟨hl, p1⟩ := HW1.out _ hb1
  clear hb1
  cases r1
  · go_wp2_with fail
    go_ret
    exact ⟨ret_bool (by rw [HV.out]; rfl), HB1.out⟩
  · go_wp2_with fail
    refine (HR.out _ HB1.out).mono ?_
    rintro e w2 ⟨rfl, hb2⟩
    have HB2 := hid_intro (HB1.out.trans (hb2.mono HB1.out.size))
    clear hb2
    go_wp2_with fail
    go_ret
    exact ⟨ret_bool (by rw [HV.out]; rfl), HB2.out⟩
end CatR
end Go.Proofs.YtgaihlhoegaliaaDoor
namespace Go.Proofs.YtgaihlhoegaliaaDoor
open Go.ChangeShapes Go.WideShapes Go.ChangeAt Go.RowKit
/-- A world that holds some facts. -/
structure HW (S : World → Prop) where
  w : World
  h : S w
theorem wp_region_hw {P : Program} {id : Nat} {Q : Exit → Act → World → Prop} {a : Act} {w : World} {l : List Oper} (S : World → Prop) (hm : P.follows .mixedOrders = true) (hB : Region.lexB .any l.toArray = true) (hC : S w.drew)
    (h : wpQuiet P l.toArray (fun w' => ∃ s : HW S, w' = s.w) (fun a' => ∀ w', (∃ s : HW S, w' = s.w) → Q .normal a' w') l a) : (Code.region id l.toArray true).wp P Q a w :=
  wp_region_quiet (C := fun w' => ∃ s : HW S, w' = s.w) hm hB ⟨⟨_, hC⟩, rfl⟩ (by simpa using h)
end Go.Proofs.YtgaihlhoegaliaaDoor
