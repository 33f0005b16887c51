/-
  Drawn meters and numbers to be rated, off the bytes: some of each. The condition: the bytes are at most 1048576.
-/
import Derived.Test.YtnhjodlcdfkpnaaDoorDrawMf
import Derived.Deep.RegionWith
namespace Go.Proofs.YtnhjodlcdfkpnaaDoor
open Go.ChangeShapes Go.WideShapes Go.ChangeAt Go.RowKit
set_option linter.unusedVariables false
namespace DrawR
open CatR (Ti Me Tis IsMe)
open EvtR (Pt cell_put cell_far)
def usedL : List Int := [-1, 0, 1, 1000000000000, 1000000000001]
theorem usedL_at (w4 : World) (t : Nat) (ht : t < 5) (T : TypeId) {w5 : World} (h : w5.cell? ⟨w4.heap.size, t, none⟩ = (w4.alloc (.cells (usedL.map (Value.int .i64)).toArray T)).cell? ⟨w4.heap.size, t, none⟩) : ∃ Y : Int, w5.cell? ⟨w4.heap.size, t, none⟩ = some (.int .i64 Y) ∧ -1 ≤ Y ∧ Y ≤ 1000000000001 := by
  rw [World.cell?_alloc_mark, List.getElem?_toArray] at h
  match t, ht with
  | 0, _ => exact ⟨_, h, by decide, by decide⟩
  | 1, _ => exact ⟨_, h, by decide, by decide⟩
  | 2, _ => exact ⟨_, h, by decide, by decide⟩
  | 3, _ => exact ⟨_, h, by decide, by decide⟩
  | 4, _ => exact ⟨_, h, by decide, by decide⟩
def UsOut (ao : Option Addr) (len cap g : Nat) (w : World) (e : Ending) (w' : World) : Prop := (∃ v : Int, e = .returned (.int .i64 v) ∧ -1 ≤ v ∧ v ≤ 1000000000001) ∧ Src ao len cap g w' ∧ w.grownBy w' (some g)
set_option maxRecDepth 100000 in
set_option maxHeartbeats 4000000 in
theorem used_any (ao : Option Addr) (len cap g : Nat) (w : World) (hS : Src ao len cap g w) :
    Calls Tryd.prog 29 #[.pointer (some ⟨g, 0, none⟩)] w fun e w' => UsOut ao len cap g w e w' := by
  have HS := hid_intro hS
  have hgl := hS.lt
  clear hS
  go_enter Tryd.func29, Tryd.ntmps29
  go_wp2_with fail
  refine (one_any ao len cap g 6 _ (by omega) HS.out).mono ?_
  rintro e w1 ⟨⟨q, rfl⟩, hS1, hg1⟩
  have HS1 := hid_intro hS1
  have HG1 := hid_intro hg1
  have hgl1 := hS1.lt
  clear hS1 hg1 HS
  cases q
  · go_wp2_with fail
    refine (n_any ao len cap g 400 _ (by omega) HS1.out).mono ?_
    rintro e w2 ⟨x, rfl, hx0, hx1, hx2, hS2, hg2⟩
    have hx3 : x < 400 := hx2 (by omega)
    have HS2 := hid_intro hS2
    have HG2 := hid_intro (Lib.grownBy_trans HG1.out hg2)
    clear hS2 hg2 hx1 hx2
    go_wp2_with fail
    go_ret
    exact ⟨⟨x, rfl, by omega, by omega⟩, HS2.out, HG2.out⟩
  · go_wp2_with fail
    refine (n_any ao len cap g 5 _ (by omega) (HS1.out.alloc _)).mono ?_
    rintro e w2 ⟨x, rfl, hx0, hx1, hx2, hS2, hg2⟩
    have hx3 : x < 5 := hx2 (by omega)
    obtain ⟨t, rfl⟩ : ∃ t : Nat, x = (t : Int) := ⟨x.toNat, by omega⟩
    have ht : t < 5 := by omega
    have hl : w1.heap.size < w2.heap.size := by have := hg2.size; simp at this; omega
    obtain ⟨Y, cy, y1, y2⟩ := usedL_at w1 t ht _ (World.cell?_of_block (a := ⟨w1.heap.size, t, none⟩) (hg2.block w1.heap.size (by simp) (fun e => by cases e; omega)))
    have HS2 := hid_intro hS2
    have HG2 := hid_intro (Lib.grownBy_trans HG1.out (Lib.grownBy_trans (World.grownBy_alloc _ _ _) hg2))
    clear hS2 hg2 hx1 hx2
    go_wp2_with fail
    go_ret
    exact ⟨⟨Y, rfl, y1, y2⟩, HS2.out, HG2.out⟩
/-- What is drawn: a meter. -/
structure DM (w w' : World) (m : Me) (ta : Option Addr) (tc : Nat) : Prop where
  tis : Tis ta m.ts.length m.ts w'
  n : m.n.size ≤ 100
  t : m.ts.length ≤ 100
  bel : Below w.heap.size w w'
theorem grown_bel {w w' : World} (hb : Below w.heap.size w w') (row : Option Nat) : w.grownBy w' row := ⟨hb.os, hb.tape, hb.output, hb.size, fun k hk _ => hb.block k hk⟩
theorem res7 (R : Nat) (tm : Array Value) (W : World) (a b c d e f : Value) (u : Int) (h2 : tm[2]?.getD undef = .pointer (some ⟨R, 0, none⟩)) (h3 : tm[3]?.getD undef = .int .i64 u) (h : ∀ i, i < 6 → W.cell? ⟨R, i, none⟩ = [a, b, c, d, e, f][i]?) : (results Tryd.f14 tm).run Tryd.prog W = .ok (.tuple #[.agg #[a, b, c, d, e, f], .int .i64 u]) W := by
  have f0 := h 0 (by omega)
  have f1 := h 1 (by omega)
  have f2 := h 2 (by omega)
  have f3 := h 3 (by omega)
  have f4 := h 4 (by omega)
  have f5 := h 5 (by omega)
  simp only [List.getElem?_cons_zero, List.getElem?_cons_succ] at f0 f1 f2 f3 f4 f5
  simp [results, Tryd.results14, go_sem, h2, h3, f0, f1, f2, f3, f4, f5]
set_option maxRecDepth 100000 in
set_option maxHeartbeats 4000000 in
theorem rate_any (ao : Option Addr) (len cap : Nat) (w : World) (hlen : len ≤ 1048576) (hB : Bytes ao len w) :
    Calls Tryd.prog 14 #[.slice ao len cap] w fun e w' => ∃ (m : Me) (ta : Option Addr) (tc : Nat) (u : Int), e = .returned (.tuple #[.agg #[.string m.n, .int .i64 m.g, .bool m.wh, .int .i64 m.f, .int .i64 m.l, .slice ta m.ts.length tc], .int .i64 u]) ∧ DM w w' m ta tc ∧ -1 ≤ u ∧ u ≤ 1000000000001 := by
  have HB := hid_intro hB
  have HP0 : Hid (Pt w.heap.size 6 (w.alloc (.cells #[.string ⟨#[]⟩, .int .i64 0, .bool false, .int .i64 0, .int .i64 0, .slice none 0 0] 31))) := hid_intro (CatR.pt_row6 w _)
  have HA0 : Hid (Below w.heap.size w (w.alloc (.cells #[.string ⟨#[]⟩, .int .i64 0, .bool false, .int .i64 0, .int .i64 0, .slice none 0 0] 31))) := hid_intro ((Below.refl _ _).alloc (Nat.le_refl _) _)
  have hsz0 : (w.alloc (.cells #[.string ⟨#[]⟩, .int .i64 0, .bool false, .int .i64 0, .int .i64 0, .slice none 0 0] 31)).heap.size = w.heap.size + 1 := by simp
  have HSO := hid_intro (source_any ao len cap (w.alloc (.cells #[.string ⟨#[]⟩, .int .i64 0, .bool false, .int .i64 0, .int .i64 0, .slice none 0 0] 31)) hlen (HB.out.below HA0.out))
  rw [hsz0] at HSO
  clear hB
  go_enter Tryd.func14, Tryd.ntmps14
  go_wp2_with fail
  refine HSO.out.mono ?_
  rintro e w1 ⟨rfl, hS1, hb1⟩
  rw [← hsz0] at hb1
  have HS1 := hid_intro hS1
  have HP1 := hid_intro (HP0.out.below hb1)
  have HB1 := hid_intro (HA0.out.trans (hb1.mono HA0.out.size))
  have hg1 := hS1.lt
  clear hS1 hb1 HP0 HA0 HSO
  go_wp2_with fail
  refine (meter_any ao len cap _ _ HS1.out).mono ?_
  rintro e w2 ⟨⟨m, ta, tc, rfl, ht, hfar, hn, hl⟩, hS2, hg2⟩
  obtain ⟨nm, gg, wh, ff, ll, ts⟩ := m
  simp only at ht hn hl
  have HS2 := hid_intro (hS2.alloc (.cells #[.string nm, .int .i64 gg, .bool wh, .int .i64 ff, .int .i64 ll, .slice ta ts.length tc] 31))
  have HP2 := hid_intro (Pt.below (pt_kept HP1.out hg2 (fun e => by simp only [Option.some.injEq] at e; omega)) ((Below.refl _ _).alloc (Nat.le_refl _) (.cells #[.string nm, .int .i64 gg, .bool wh, .int .i64 ff, .int .i64 ll, .slice ta ts.length tc] 31)))
  have HT2 := hid_intro (Tis.below ht ((Below.refl _ _).alloc (Nat.le_refl _) (.cells #[.string nm, .int .i64 gg, .bool wh, .int .i64 ff, .int .i64 ll, .slice ta ts.length tc] 31)))
  have HB2' := hid_intro (HB1.out.grown hg2 HB1.out.size (fun k e => by simp only [Option.some.injEq] at e; omega))
  have HB2 := hid_intro (HB2'.out.alloc HB2'.out.size (.cells #[.string nm, .int .i64 gg, .bool wh, .int .i64 ff, .int .i64 ll, .slice ta ts.length tc] 31))
  have HF := hid_intro hfar
  have hgs := hg2.size
  have hl2 : w2.heap.size < (w2.alloc (.cells #[.string nm, .int .i64 gg, .bool wh, .int .i64 ff, .int .i64 ll, .slice ta ts.length tc] 31)).heap.size := by simp
  have kc : ∀ i, i < 6 → (w2.alloc (.cells #[.string nm, .int .i64 gg, .bool wh, .int .i64 ff, .int .i64 ll, .slice ta ts.length tc] 31)).cell? ⟨w2.heap.size, i, none⟩ = ([.string nm, .int .i64 gg, .bool wh, .int .i64 ff, .int .i64 ll, .slice ta ts.length tc] : List Value)[i]? := fun i hi => by simp [go_sem]
  clear ht hS2 hg2 hfar HB2' HP1 HS1
  go_wp2_with fail
  generalize (w2.alloc (.cells #[.string nm, .int .i64 gg, .bool wh, .int .i64 ff, .int .i64 ll, .slice ta ts.length tc] 31)) = W3 at *
  have c0 : W3.cell? ⟨w2.heap.size, 0, none⟩ = some (.string nm) := kc 0 (by omega)
  have c1 : W3.cell? ⟨w2.heap.size, 1, none⟩ = some (.int .i64 gg) := kc 1 (by omega)
  have c2 : W3.cell? ⟨w2.heap.size, 2, none⟩ = some (.bool wh) := kc 2 (by omega)
  have c3 : W3.cell? ⟨w2.heap.size, 3, none⟩ = some (.int .i64 ff) := kc 3 (by omega)
  have c4 : W3.cell? ⟨w2.heap.size, 4, none⟩ = some (.int .i64 ll) := kc 4 (by omega)
  have c5 : W3.cell? ⟨w2.heap.size, 5, none⟩ = some (.slice ta ts.length tc) := kc 5 (by omega)
  have hlR3 := HP2.out.lt
  obtain ⟨y30, r30⟩ := HP2.out.has 0 (by omega)
  have q30 := HP2.out.free 0 (by omega)
  obtain ⟨y31, r31⟩ := HP2.out.has 1 (by omega)
  have q31 := HP2.out.free 1 (by omega)
  obtain ⟨y32, r32⟩ := HP2.out.has 2 (by omega)
  have q32 := HP2.out.free 2 (by omega)
  obtain ⟨y33, r33⟩ := HP2.out.has 3 (by omega)
  have q33 := HP2.out.free 3 (by omega)
  obtain ⟨y34, r34⟩ := HP2.out.has 4 (by omega)
  have q34 := HP2.out.free 4 (by omega)
  obtain ⟨y35, r35⟩ := HP2.out.has 5 (by omega)
  have q35 := HP2.out.free 5 (by omega)
  have HU := hid_intro (used_any ao len cap (w.heap.size + 1) W3.drew (show Src ao len cap (w.heap.size + 1) W3.drew from HS2.out))
  go_region_with (go_at_call 29; refine HU.out.mono ?_; rintro e w4 ⟨⟨u, rfl, hu1, hu2⟩, hS4, hg4⟩; have kd := (fun i hi => (World.cell?_of_block (a := ⟨w2.heap.size, i, none⟩) (hg4.block w2.heap.size hl2 (fun e => by simp only [Option.some.injEq] at e; omega))).trans (kc i hi)); have hl4 : w2.heap.size < w4.heap.size := Nat.lt_of_lt_of_le hl2 hg4.size;have d0 : w4.cell? ⟨w2.heap.size, 0, none⟩ = some (.string nm) := kd 0 (by omega); have d1 : w4.cell? ⟨w2.heap.size, 1, none⟩ = some (.int .i64 gg) := kd 1 (by omega); have d2 : w4.cell? ⟨w2.heap.size, 2, none⟩ = some (.bool wh) := kd 2 (by omega); have d3 : w4.cell? ⟨w2.heap.size, 3, none⟩ = some (.int .i64 ff) := kd 3 (by omega); have d4 : w4.cell? ⟨w2.heap.size, 4, none⟩ = some (.int .i64 ll) := kd 4 (by omega); have d5 : w4.cell? ⟨w2.heap.size, 5, none⟩ = some (.slice ta ts.length tc) := kd 5 (by omega); have HP4 := hid_intro (pt_kept (show Pt w.heap.size 6 W3.drew from ⟨HP2.out.lt, HP2.out.has, HP2.out.free⟩) hg4 (fun e => by simp only [Option.some.injEq] at e; omega));have hlR4 := HP4.out.lt; obtain ⟨y40, r40⟩ := HP4.out.has 0 (by omega); have q40 := HP4.out.free 0 (by omega); obtain ⟨y41, r41⟩ := HP4.out.has 1 (by omega); have q41 := HP4.out.free 1 (by omega); obtain ⟨y42, r42⟩ := HP4.out.has 2 (by omega); have q42 := HP4.out.free 2 (by omega); obtain ⟨y43, r43⟩ := HP4.out.has 3 (by omega); have q43 := HP4.out.free 3 (by omega); obtain ⟨y44, r44⟩ := HP4.out.has 4 (by omega); have q44 := HP4.out.free 4 (by omega); obtain ⟨y45, r45⟩ := HP4.out.has 5 (by omega); have q45 := HP4.out.free 5 (by omega); have HG4 := hid_intro hg4; clear hg4 hS4 kd)
  all_goals
    have HC := hid_intro (fin6_cells HP4.out (.string nm) (.int .i64 gg) (.bool wh) (.int .i64 ff) (.int .i64 ll) (.slice ta ts.length tc))
    have HFG := hid_intro (fin6_grown w4 w.heap.size (.string nm) (.int .i64 gg) (.bool wh) (.int .i64 ff) (.int .i64 ll) (.slice ta ts.length tc))
    have HD : Hid (DM w (fin6 w4 w.heap.size (.string nm) (.int .i64 gg) (.bool wh) (.int .i64 ff) (.int .i64 ll) (.slice ta ts.length tc)) ⟨nm, gg, wh, ff, ll, ts⟩ ta tc) := hid_intro ⟨tis_kept (tis_kept (show Tis ta ts.length ts W3.drew from HT2.out) HG4.out (fun b o e q => by have := HF.out b o e; simp only [Option.some.injEq] at q; omega)) HFG.out (fun b o e q => by have := HF.out b o e; simp only [Option.some.injEq] at q; omega), hn, hl, (HB2.out.drew.grown HG4.out HB2.out.size (fun k e => by simp only [Option.some.injEq] at e; omega)).grown HFG.out (by have := HG4.out.size; have := HB2.out.size; have h3 : W3.drew.heap.size = W3.heap.size := rfl; omega) (fun k e => by simp only [Option.some.injEq] at e; omega)⟩
    go_wp2_with fail
    exact bodyPost_ret (v := .tuple #[.agg #[.string nm, .int .i64 gg, .bool wh, .int .i64 ff, .int .i64 ll, .slice ta ts.length tc], .int .i64 u]) (res7 _ _ _ _ _ _ _ _ _ _ rfl rfl HC.out) rfl ⟨⟨nm, gg, wh, ff, ll, ts⟩, ta, tc, u, rfl, HD.out, hu1, hu2⟩
theorem res8 (R : Nat) (tm : Array Value) (W : World) (a b c d e f : Value) (u v : Int) (h2 : tm[2]?.getD undef = .pointer (some ⟨R, 0, none⟩)) (h3 : tm[3]?.getD undef = .int .i64 u) (h4 : tm[4]?.getD undef = .int .i64 v) (h : ∀ i, i < 6 → W.cell? ⟨R, i, none⟩ = [a, b, c, d, e, f][i]?) : (results Tryd.f15 tm).run Tryd.prog W = .ok (.tuple #[.agg #[a, b, c, d, e, f], .int .i64 u, .int .i64 v]) W := by
  have f0 := h 0 (by omega)
  have f1 := h 1 (by omega)
  have f2 := h 2 (by omega)
  have f3 := h 3 (by omega)
  have f4 := h 4 (by omega)
  have f5 := h 5 (by omega)
  simp only [List.getElem?_cons_zero, List.getElem?_cons_succ] at f0 f1 f2 f3 f4 f5
  simp [results, Tryd.results15, go_sem, h2, h3, h4, f0, f1, f2, f3, f4, f5]
set_option maxRecDepth 100000 in
set_option maxHeartbeats 4000000 in
theorem between_any (ao : Option Addr) (len cap : Nat) (w : World) (hlen : len ≤ 1048576) (hB : Bytes ao len w) :
    Calls Tryd.prog 15 #[.slice ao len cap] w fun e w' => ∃ (m : Me) (ta : Option Addr) (tc : Nat) (u v : Int), e = .returned (.tuple #[.agg #[.string m.n, .int .i64 m.g, .bool m.wh, .int .i64 m.f, .int .i64 m.l, .slice ta m.ts.length tc], .int .i64 u, .int .i64 v]) ∧ DM w w' m ta tc ∧ (-1 ≤ u ∧ u ≤ 1000000000001) ∧ -1 ≤ v ∧ v ≤ 1000000000300 := by
  have HB := hid_intro hB
  have HP0 : Hid (Pt w.heap.size 6 (w.alloc (.cells #[.string ⟨#[]⟩, .int .i64 0, .bool false, .int .i64 0, .int .i64 0, .slice none 0 0] 31))) := hid_intro (CatR.pt_row6 w _)
  have HA0 : Hid (Below w.heap.size w (w.alloc (.cells #[.string ⟨#[]⟩, .int .i64 0, .bool false, .int .i64 0, .int .i64 0, .slice none 0 0] 31))) := hid_intro ((Below.refl _ _).alloc (Nat.le_refl _) _)
  have hsz0 : (w.alloc (.cells #[.string ⟨#[]⟩, .int .i64 0, .bool false, .int .i64 0, .int .i64 0, .slice none 0 0] 31)).heap.size = w.heap.size + 1 := by simp
  have HSO := hid_intro (source_any ao len cap (w.alloc (.cells #[.string ⟨#[]⟩, .int .i64 0, .bool false, .int .i64 0, .int .i64 0, .slice none 0 0] 31)) hlen (HB.out.below HA0.out))
  rw [hsz0] at HSO
  clear hB
  go_enter Tryd.func15, Tryd.ntmps15
  go_wp2_with fail
  refine HSO.out.mono ?_
  rintro e w1 ⟨rfl, hS1, hb1⟩
  rw [← hsz0] at hb1
  have HS1 := hid_intro hS1
  have HP1 := hid_intro (HP0.out.below hb1)
  have HB1 := hid_intro (HA0.out.trans (hb1.mono HA0.out.size))
  have hg1 := hS1.lt
  clear hS1 hb1 HP0 HA0 HSO
  go_wp2_with fail
  refine (meter_any ao len cap _ _ HS1.out).mono ?_
  rintro e w2 ⟨⟨m, ta, tc, rfl, ht, hfar, hn, hl⟩, hS2, hg2⟩
  obtain ⟨nm, gg, wh, ff, ll, ts⟩ := m
  simp only at ht hn hl
  have HS2 := hid_intro (hS2.alloc (.cells #[.string nm, .int .i64 gg, .bool wh, .int .i64 ff, .int .i64 ll, .slice ta ts.length tc] 31))
  have HP2 := hid_intro (Pt.below (pt_kept HP1.out hg2 (fun e => by simp only [Option.some.injEq] at e; omega)) ((Below.refl _ _).alloc (Nat.le_refl _) (.cells #[.string nm, .int .i64 gg, .bool wh, .int .i64 ff, .int .i64 ll, .slice ta ts.length tc] 31)))
  have HT2 := hid_intro (Tis.below ht ((Below.refl _ _).alloc (Nat.le_refl _) (.cells #[.string nm, .int .i64 gg, .bool wh, .int .i64 ff, .int .i64 ll, .slice ta ts.length tc] 31)))
  have HB2' := hid_intro (HB1.out.grown hg2 HB1.out.size (fun k e => by simp only [Option.some.injEq] at e; omega))
  have HB2 := hid_intro (HB2'.out.alloc HB2'.out.size (.cells #[.string nm, .int .i64 gg, .bool wh, .int .i64 ff, .int .i64 ll, .slice ta ts.length tc] 31))
  have HF := hid_intro hfar
  have hgs := hg2.size
  have hl2 : w2.heap.size < (w2.alloc (.cells #[.string nm, .int .i64 gg, .bool wh, .int .i64 ff, .int .i64 ll, .slice ta ts.length tc] 31)).heap.size := by simp
  have kc : ∀ i, i < 6 → (w2.alloc (.cells #[.string nm, .int .i64 gg, .bool wh, .int .i64 ff, .int .i64 ll, .slice ta ts.length tc] 31)).cell? ⟨w2.heap.size, i, none⟩ = ([.string nm, .int .i64 gg, .bool wh, .int .i64 ff, .int .i64 ll, .slice ta ts.length tc] : List Value)[i]? := fun i hi => by simp [go_sem]
  clear ht hS2 hg2 hfar HB2' HP1 HS1
  go_wp2_with fail
  generalize (w2.alloc (.cells #[.string nm, .int .i64 gg, .bool wh, .int .i64 ff, .int .i64 ll, .slice ta ts.length tc] 31)) = W3 at *
  have HU := hid_intro (used_any ao len cap (w.heap.size + 1) W3 HS2.out)
  refine HU.out.mono ?_
  rintro e X1 ⟨⟨u, rfl, hu1, hu2⟩, hS5, hg5⟩
  have HS5 := hid_intro hS5
  have HG5 := hid_intro hg5
  clear hS5 hg5 HU
  go_wp2_with fail
  refine (one_any ao len cap (w.heap.size + 1) 6 _ (by omega) HS5.out).mono ?_
  rintro e X2 ⟨⟨bo, rfl⟩, hS6, hg6⟩
  have HS6 := hid_intro hS6
  have HG6 := hid_intro (Lib.grownBy_trans HG5.out hg6)
  clear hS6 hg6 HS5 HG5
  have kx : ∀ i, i < 6 → X2.cell? ⟨w2.heap.size, i, none⟩ = ([.string nm, .int .i64 gg, .bool wh, .int .i64 ff, .int .i64 ll, .slice ta ts.length tc] : List Value)[i]? := fun i hi => (World.cell?_of_block (a := ⟨w2.heap.size, i, none⟩) (HG6.out.block w2.heap.size hl2 (fun e => by simp only [Option.some.injEq] at e; omega))).trans (kc i hi)
  have HPX := hid_intro (pt_kept HP2.out HG6.out (fun e => by simp only [Option.some.injEq] at e; omega))
  have HTX := hid_intro (tis_kept HT2.out HG6.out (fun b o e q => by have := HF.out b o e; simp only [Option.some.injEq] at q; omega))
  have HBX := hid_intro (HB2.out.grown HG6.out HB2.out.size (fun k e => by simp only [Option.some.injEq] at e; omega))
  have hlX : w2.heap.size < X2.heap.size := Nat.lt_of_lt_of_le hl2 HG6.out.size
  clear kc HP2 HT2 HB2 HG6 hl2 HS2
  have c0 : X2.cell? ⟨w2.heap.size, 0, none⟩ = some (.string nm) := kx 0 (by omega)
  have c1 : X2.cell? ⟨w2.heap.size, 1, none⟩ = some (.int .i64 gg) := kx 1 (by omega)
  have c2 : X2.cell? ⟨w2.heap.size, 2, none⟩ = some (.bool wh) := kx 2 (by omega)
  have c3 : X2.cell? ⟨w2.heap.size, 3, none⟩ = some (.int .i64 ff) := kx 3 (by omega)
  have c4 : X2.cell? ⟨w2.heap.size, 4, none⟩ = some (.int .i64 ll) := kx 4 (by omega)
  have c5 : X2.cell? ⟨w2.heap.size, 5, none⟩ = some (.slice ta ts.length tc) := kx 5 (by omega)
  have hlR3 := HPX.out.lt
  obtain ⟨y30, r30⟩ := HPX.out.has 0 (by omega)
  have q30 := HPX.out.free 0 (by omega)
  obtain ⟨y31, r31⟩ := HPX.out.has 1 (by omega)
  have q31 := HPX.out.free 1 (by omega)
  obtain ⟨y32, r32⟩ := HPX.out.has 2 (by omega)
  have q32 := HPX.out.free 2 (by omega)
  obtain ⟨y33, r33⟩ := HPX.out.has 3 (by omega)
  have q33 := HPX.out.free 3 (by omega)
  obtain ⟨y34, r34⟩ := HPX.out.has 4 (by omega)
  have q34 := HPX.out.free 4 (by omega)
  obtain ⟨y35, r35⟩ := HPX.out.has 5 (by omega)
  have q35 := HPX.out.free 5 (by omega)
  have HU2 := hid_intro (used_any ao len cap (w.heap.size + 1) X2.drew (show Src ao len cap (w.heap.size + 1) X2.drew from HS6.out))
  have HU3 := hid_intro (n_any ao len cap (w.heap.size + 1) 200 X2.drew (by omega) (show Src ao len cap (w.heap.size + 1) X2.drew from HS6.out))
  cases bo
  · go_wp2_with fail
    go_region_with (go_at_call 31; refine HU3.out.mono ?_; rintro e w4 ⟨v, rfl, hv1, _, hv2, hS4, hg4⟩; have hv3 : v < 200 := hv2 (by omega); have hw4 : IntKind.i64.wrap (u + v) = u + v := (by rw [IntKind.wrap_i64]; omega); have hw5 : wrap64 (u + v) = u + v := (by unfold wrap64; omega); have kd := (fun i hi => (World.cell?_of_block (a := ⟨w2.heap.size, i, none⟩) (hg4.block w2.heap.size hlX (fun e => by simp only [Option.some.injEq] at e; omega))).trans (kx i hi)); have hl4 : w2.heap.size < w4.heap.size := Nat.lt_of_lt_of_le hlX hg4.size;have d0 : w4.cell? ⟨w2.heap.size, 0, none⟩ = some (.string nm) := kd 0 (by omega); have d1 : w4.cell? ⟨w2.heap.size, 1, none⟩ = some (.int .i64 gg) := kd 1 (by omega); have d2 : w4.cell? ⟨w2.heap.size, 2, none⟩ = some (.bool wh) := kd 2 (by omega); have d3 : w4.cell? ⟨w2.heap.size, 3, none⟩ = some (.int .i64 ff) := kd 3 (by omega); have d4 : w4.cell? ⟨w2.heap.size, 4, none⟩ = some (.int .i64 ll) := kd 4 (by omega); have d5 : w4.cell? ⟨w2.heap.size, 5, none⟩ = some (.slice ta ts.length tc) := kd 5 (by omega); have HP4 := hid_intro (pt_kept (show Pt w.heap.size 6 X2.drew from ⟨HPX.out.lt, HPX.out.has, HPX.out.free⟩) hg4 (fun e => by simp only [Option.some.injEq] at e; omega));have hlR4 := HP4.out.lt; obtain ⟨y40, r40⟩ := HP4.out.has 0 (by omega); have q40 := HP4.out.free 0 (by omega); obtain ⟨y41, r41⟩ := HP4.out.has 1 (by omega); have q41 := HP4.out.free 1 (by omega); obtain ⟨y42, r42⟩ := HP4.out.has 2 (by omega); have q42 := HP4.out.free 2 (by omega); obtain ⟨y43, r43⟩ := HP4.out.has 3 (by omega); have q43 := HP4.out.free 3 (by omega); obtain ⟨y44, r44⟩ := HP4.out.has 4 (by omega); have q44 := HP4.out.free 4 (by omega); obtain ⟨y45, r45⟩ := HP4.out.has 5 (by omega); have q45 := HP4.out.free 5 (by omega); have HG4 := hid_intro hg4; clear hg4 hS4 kd)
    all_goals
      have HC := hid_intro (fin6_cells HP4.out (.string nm) (.int .i64 gg) (.bool wh) (.int .i64 ff) (.int .i64 ll) (.slice ta ts.length tc))
      have HFG := hid_intro (fin6_grown w4 w.heap.size (.string nm) (.int .i64 gg) (.bool wh) (.int .i64 ff) (.int .i64 ll) (.slice ta ts.length tc))
      have HD : Hid (DM w (fin6 w4 w.heap.size (.string nm) (.int .i64 gg) (.bool wh) (.int .i64 ff) (.int .i64 ll) (.slice ta ts.length tc)) ⟨nm, gg, wh, ff, ll, ts⟩ ta tc) := hid_intro ⟨tis_kept (tis_kept (show Tis ta ts.length ts X2.drew from HTX.out) HG4.out (fun b o e q => by have := HF.out b o e; simp only [Option.some.injEq] at q; omega)) HFG.out (fun b o e q => by have := HF.out b o e; simp only [Option.some.injEq] at q; omega), hn, hl, (HBX.out.drew.grown HG4.out HBX.out.size (fun k e => by simp only [Option.some.injEq] at e; omega)).grown HFG.out (by have := HG4.out.size; have := HBX.out.size; have h3 : X2.drew.heap.size = X2.heap.size := rfl; omega) (fun k e => by simp only [Option.some.injEq] at e; omega)⟩
      go_wp2_with fail
      exact bodyPost_ret (v := .tuple #[.agg #[.string nm, .int .i64 gg, .bool wh, .int .i64 ff, .int .i64 ll, .slice ta ts.length tc], .int .i64 u, .int .i64 (u + v)]) (res8 _ _ _ _ _ _ _ _ _ _ _ rfl rfl rfl HC.out) rfl ⟨⟨nm, gg, wh, ff, ll, ts⟩, ta, tc, u, (u + v), rfl, HD.out, ⟨hu1, hu2⟩, by omega, by omega⟩
  · go_wp2_with fail
    go_region_with (go_at_call 29; refine HU2.out.mono ?_; rintro e w4 ⟨⟨v, rfl, hv1, hv2⟩, hS4, hg4⟩; have kd := (fun i hi => (World.cell?_of_block (a := ⟨w2.heap.size, i, none⟩) (hg4.block w2.heap.size hlX (fun e => by simp only [Option.some.injEq] at e; omega))).trans (kx i hi)); have hl4 : w2.heap.size < w4.heap.size := Nat.lt_of_lt_of_le hlX hg4.size;have d0 : w4.cell? ⟨w2.heap.size, 0, none⟩ = some (.string nm) := kd 0 (by omega); have d1 : w4.cell? ⟨w2.heap.size, 1, none⟩ = some (.int .i64 gg) := kd 1 (by omega); have d2 : w4.cell? ⟨w2.heap.size, 2, none⟩ = some (.bool wh) := kd 2 (by omega); have d3 : w4.cell? ⟨w2.heap.size, 3, none⟩ = some (.int .i64 ff) := kd 3 (by omega); have d4 : w4.cell? ⟨w2.heap.size, 4, none⟩ = some (.int .i64 ll) := kd 4 (by omega); have d5 : w4.cell? ⟨w2.heap.size, 5, none⟩ = some (.slice ta ts.length tc) := kd 5 (by omega); have HP4 := hid_intro (pt_kept (show Pt w.heap.size 6 X2.drew from ⟨HPX.out.lt, HPX.out.has, HPX.out.free⟩) hg4 (fun e => by simp only [Option.some.injEq] at e; omega));have hlR4 := HP4.out.lt; obtain ⟨y40, r40⟩ := HP4.out.has 0 (by omega); have q40 := HP4.out.free 0 (by omega); obtain ⟨y41, r41⟩ := HP4.out.has 1 (by omega); have q41 := HP4.out.free 1 (by omega); obtain ⟨y42, r42⟩ := HP4.out.has 2 (by omega); have q42 := HP4.out.free 2 (by omega); obtain ⟨y43, r43⟩ := HP4.out.has 3 (by omega); have q43 := HP4.out.free 3 (by omega); obtain ⟨y44, r44⟩ := HP4.out.has 4 (by omega); have q44 := HP4.out.free 4 (by omega); obtain ⟨y45, r45⟩ := HP4.out.has 5 (by omega); have q45 := HP4.out.free 5 (by omega); have HG4 := hid_intro hg4; clear hg4 hS4 kd)
    all_goals
      have HC := hid_intro (fin6_cells HP4.out (.string nm) (.int .i64 gg) (.bool wh) (.int .i64 ff) (.int .i64 ll) (.slice ta ts.length tc))
      have HFG := hid_intro (fin6_grown w4 w.heap.size (.string nm) (.int .i64 gg) (.bool wh) (.int .i64 ff) (.int .i64 ll) (.slice ta ts.length tc))
      have HD : Hid (DM w (fin6 w4 w.heap.size (.string nm) (.int .i64 gg) (.bool wh) (.int .i64 ff) (.int .i64 ll) (.slice ta ts.length tc)) ⟨nm, gg, wh, ff, ll, ts⟩ ta tc) := hid_intro ⟨tis_kept (tis_kept (show Tis ta ts.length ts X2.drew from HTX.out) HG4.out (fun b o e q => by have := HF.out b o e; simp only [Option.some.injEq] at q; omega)) HFG.out (fun b o e q => by have := HF.out b o e; simp only [Option.some.injEq] at q; omega), hn, hl, (HBX.out.drew.grown HG4.out HBX.out.size (fun k e => by simp only [Option.some.injEq] at e; omega)).grown HFG.out (by have := HG4.out.size; have := HBX.out.size; have h3 : X2.drew.heap.size = X2.heap.size := rfl; omega) (fun k e => by simp only [Option.some.injEq] at e; omega)⟩
      go_wp2_with fail
      exact bodyPost_ret (v := .tuple #[.agg #[.string nm, .int .i64 gg, .bool wh, .int .i64 ff, .int .i64 ll, .slice ta ts.length tc], .int .i64 u, .int .i64 v]) (res8 _ _ _ _ _ _ _ _ _ _ _ rfl rfl rfl HC.out) rfl ⟨⟨nm, gg, wh, ff, ll, ts⟩, ta, tc, u, v, rfl, HD.out, ⟨hu1, hu2⟩, by omega, by omega⟩
end DrawR
end Go.Proofs.YtnhjodlcdfkpnaaDoor
