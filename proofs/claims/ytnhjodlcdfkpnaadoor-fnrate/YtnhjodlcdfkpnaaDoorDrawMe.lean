/-
  The draws of a meter: the plain catalog, and a meter of it that may be changed. The condition: the bytes are at most 1048576.
-/
import Derived.Test.YtnhjodlcdfkpnaaDoorDraw2
import Derived.Test.YtnhjodlcdfkpnaaDoorCatW
import Derived.Test.YtnhjodlcdfkpnaaDoorRowG
import Derived.Deep.RegionHeld3
namespace Go.Proofs.YtnhjodlcdfkpnaaDoor
open Go.ChangeShapes Go.WideShapes Go.ChangeAt Go.RowKit
set_option linter.unusedVariables false
namespace DrawR
open CatR (Ti Me Cr Ca Tis Mes Crs TiAt MeAt CrAt IsMe IsCa)
open EvtR (Pt cell_put cell_far)
/-- The plain catalog. -/
def plainM : List Me := [⟨⟨#[99, 112, 117]⟩, 1, false, 10, 0, [⟨100, 50⟩, ⟨1000000000000, 20⟩]⟩, ⟨⟨#[100, 105, 115, 107]⟩, 2, true, 0, 500, [⟨50, 9⟩, ⟨200, 7⟩, ⟨1000000000000, 5⟩]⟩, ⟨⟨#[110, 101, 116]⟩, 4, false, 0, 0, [⟨1000000000000, 3⟩]⟩, ⟨⟨#[117, 115, 101, 114, 115]⟩, 3, false, 0, 0, [⟨1000000000000, 1000⟩]⟩]
def plainC : Ca := ⟨plainM, [⟨⟨#[97, 110, 110]⟩, 3000⟩]⟩
/-- The plain catalog's memory. -/
def plainW (w : World) : World := (((((((w.alloc (.cells #[.slice (some ⟨w.heap.size + 1 + 1 + 1 + 1 + 1, 0, none⟩) 4 4, .slice (some ⟨w.heap.size + 1 + 1 + 1 + 1 + 1 + 1, 0, none⟩) 1 1] 73)).alloc (.cells #[.int .i64 100, .int .i64 50, .int .i64 1000000000000, .int .i64 20] 62)).alloc (.cells #[.int .i64 50, .int .i64 9, .int .i64 200, .int .i64 7, .int .i64 1000000000000, .int .i64 5] 62)).alloc (.cells #[.int .i64 1000000000000, .int .i64 3] 62)).alloc (.cells #[.int .i64 1000000000000, .int .i64 1000] 62)).alloc (.cells #[.string ⟨#[99, 112, 117]⟩, .int .i64 1, .bool false, .int .i64 10, .int .i64 0, .slice (some ⟨w.heap.size + 1, 0, none⟩) 2 2, .string ⟨#[100, 105, 115, 107]⟩, .int .i64 2, .bool true, .int .i64 0, .int .i64 500, .slice (some ⟨w.heap.size + 1 + 1, 0, none⟩) 3 3, .string ⟨#[110, 101, 116]⟩, .int .i64 4, .bool false, .int .i64 0, .int .i64 0, .slice (some ⟨w.heap.size + 1 + 1 + 1, 0, none⟩) 1 1, .string ⟨#[117, 115, 101, 114, 115]⟩, .int .i64 3, .bool false, .int .i64 0, .int .i64 0, .slice (some ⟨w.heap.size + 1 + 1 + 1 + 1, 0, none⟩) 1 1] 31)).alloc (.cells #[.string ⟨#[97, 110, 110]⟩, .int .i64 3000] 80))
theorem plain_below (w : World) : Below w.heap.size w (plainW w) := by
  unfold plainW
  have h0 := Below.refl w.heap.size w
  repeat' first | exact h0 | (refine Below.alloc ?_ (by simp; try omega) _)
theorem plain_t0 (w : World) : w.heap.size + 1 < (plainW w).heap.size ∧ ∀ i, i < 4 → (plainW w).cell? ⟨w.heap.size + 1, i, none⟩ = ([.int .i64 100, .int .i64 50, .int .i64 1000000000000, .int .i64 20] : List Value)[i]? := by
  refine ⟨by simp [plainW], fun i hi => ?_⟩
  simp [plainW, go_sem]
theorem plain_t1 (w : World) : w.heap.size + 1 + 1 < (plainW w).heap.size ∧ ∀ i, i < 6 → (plainW w).cell? ⟨w.heap.size + 1 + 1, i, none⟩ = ([.int .i64 50, .int .i64 9, .int .i64 200, .int .i64 7, .int .i64 1000000000000, .int .i64 5] : List Value)[i]? := by
  refine ⟨by simp [plainW], fun i hi => ?_⟩
  simp [plainW, go_sem]
theorem plain_t2 (w : World) : w.heap.size + 1 + 1 + 1 < (plainW w).heap.size ∧ ∀ i, i < 2 → (plainW w).cell? ⟨w.heap.size + 1 + 1 + 1, i, none⟩ = ([.int .i64 1000000000000, .int .i64 3] : List Value)[i]? := by
  refine ⟨by simp [plainW], fun i hi => ?_⟩
  simp [plainW, go_sem]
theorem plain_t3 (w : World) : w.heap.size + 1 + 1 + 1 + 1 < (plainW w).heap.size ∧ ∀ i, i < 2 → (plainW w).cell? ⟨w.heap.size + 1 + 1 + 1 + 1, i, none⟩ = ([.int .i64 1000000000000, .int .i64 1000] : List Value)[i]? := by
  refine ⟨by simp [plainW], fun i hi => ?_⟩
  simp [plainW, go_sem]
theorem plain_m (w : World) : w.heap.size + 1 + 1 + 1 + 1 + 1 < (plainW w).heap.size ∧ ∀ i, i < 24 → (plainW w).cell? ⟨w.heap.size + 1 + 1 + 1 + 1 + 1, i, none⟩ = ([.string ⟨#[99, 112, 117]⟩, .int .i64 1, .bool false, .int .i64 10, .int .i64 0, .slice (some ⟨w.heap.size + 1, 0, none⟩) 2 2, .string ⟨#[100, 105, 115, 107]⟩, .int .i64 2, .bool true, .int .i64 0, .int .i64 500, .slice (some ⟨w.heap.size + 1 + 1, 0, none⟩) 3 3, .string ⟨#[110, 101, 116]⟩, .int .i64 4, .bool false, .int .i64 0, .int .i64 0, .slice (some ⟨w.heap.size + 1 + 1 + 1, 0, none⟩) 1 1, .string ⟨#[117, 115, 101, 114, 115]⟩, .int .i64 3, .bool false, .int .i64 0, .int .i64 0, .slice (some ⟨w.heap.size + 1 + 1 + 1 + 1, 0, none⟩) 1 1] : List Value)[i]? := by
  refine ⟨by simp [plainW], fun i hi => ?_⟩
  simp [plainW, go_sem]
theorem plain_c (w : World) : w.heap.size + 1 + 1 + 1 + 1 + 1 + 1 < (plainW w).heap.size ∧ ∀ i, i < 2 → (plainW w).cell? ⟨w.heap.size + 1 + 1 + 1 + 1 + 1 + 1, i, none⟩ = ([.string ⟨#[97, 110, 110]⟩, .int .i64 3000] : List Value)[i]? := by
  refine ⟨by simp [plainW], fun i hi => ?_⟩
  simp [plainW, go_sem]
set_option maxRecDepth 100000 in
theorem plain_mes (w : World) : Mes (some ⟨w.heap.size + 1 + 1 + 1 + 1 + 1, 0, none⟩) 4 plainM (plainW w) := by
  refine ⟨rfl, .inr ⟨_, 0, rfl, (plain_m w).1, fun j hj => ?_⟩⟩
  have m := (plain_m w).2
  match j, hj with
  | 0, _ => exact ⟨_, _, m 0 (by omega), m 1 (by omega), m 2 (by omega), m 3 (by omega), m 4 (by omega), m 5 (by omega), ⟨rfl, .inr ⟨_, 0, rfl, (plain_t0 w).1, fun i hi => by
      have t := (plain_t0 w).2
      match i, hi with
      | 0, _ => exact ⟨t 0 (by omega), t 1 (by omega)⟩
      | 1, _ => exact ⟨t 2 (by omega), t 3 (by omega)⟩
      ⟩⟩⟩
  | 1, _ => exact ⟨_, _, m 6 (by omega), m 7 (by omega), m 8 (by omega), m 9 (by omega), m 10 (by omega), m 11 (by omega), ⟨rfl, .inr ⟨_, 0, rfl, (plain_t1 w).1, fun i hi => by
      have t := (plain_t1 w).2
      match i, hi with
      | 0, _ => exact ⟨t 0 (by omega), t 1 (by omega)⟩
      | 1, _ => exact ⟨t 2 (by omega), t 3 (by omega)⟩
      | 2, _ => exact ⟨t 4 (by omega), t 5 (by omega)⟩
      ⟩⟩⟩
  | 2, _ => exact ⟨_, _, m 12 (by omega), m 13 (by omega), m 14 (by omega), m 15 (by omega), m 16 (by omega), m 17 (by omega), ⟨rfl, .inr ⟨_, 0, rfl, (plain_t2 w).1, fun i hi => by
      have t := (plain_t2 w).2
      match i, hi with
      | 0, _ => exact ⟨t 0 (by omega), t 1 (by omega)⟩
      ⟩⟩⟩
  | 3, _ => exact ⟨_, _, m 18 (by omega), m 19 (by omega), m 20 (by omega), m 21 (by omega), m 22 (by omega), m 23 (by omega), ⟨rfl, .inr ⟨_, 0, rfl, (plain_t3 w).1, fun i hi => by
      have t := (plain_t3 w).2
      match i, hi with
      | 0, _ => exact ⟨t 0 (by omega), t 1 (by omega)⟩
      ⟩⟩⟩
theorem plain_crs (w : World) : Crs (some ⟨w.heap.size + 1 + 1 + 1 + 1 + 1 + 1, 0, none⟩) 1 plainC.cs (plainW w) := by
  refine ⟨rfl, .inr ⟨_, 0, rfl, (plain_c w).1, fun j hj => ?_⟩⟩
  have c := (plain_c w).2
  match j, hj with
  | 0, _ => exact ⟨c 0 (by omega), c 1 (by omega)⟩
set_option maxRecDepth 100000 in
set_option maxHeartbeats 4000000 in
theorem plain_any (w : World) : Calls Tryd.prog 48 #[] w fun e w' => e = .returned (.agg #[.slice (some ⟨w.heap.size + 1 + 1 + 1 + 1 + 1, 0, none⟩) 4 4, .slice (some ⟨w.heap.size + 1 + 1 + 1 + 1 + 1 + 1, 0, none⟩) 1 1]) ∧ w' = plainW w := by
  have hW : plainW w = (((((((w.alloc (.cells #[.slice (some ⟨w.heap.size + 1 + 1 + 1 + 1 + 1, 0, none⟩) 4 4, .slice (some ⟨w.heap.size + 1 + 1 + 1 + 1 + 1 + 1, 0, none⟩) 1 1] 73)).alloc (.cells #[.int .i64 100, .int .i64 50, .int .i64 1000000000000, .int .i64 20] 62)).alloc (.cells #[.int .i64 50, .int .i64 9, .int .i64 200, .int .i64 7, .int .i64 1000000000000, .int .i64 5] 62)).alloc (.cells #[.int .i64 1000000000000, .int .i64 3] 62)).alloc (.cells #[.int .i64 1000000000000, .int .i64 1000] 62)).alloc (.cells #[.string ⟨#[99, 112, 117]⟩, .int .i64 1, .bool false, .int .i64 10, .int .i64 0, .slice (some ⟨w.heap.size + 1, 0, none⟩) 2 2, .string ⟨#[100, 105, 115, 107]⟩, .int .i64 2, .bool true, .int .i64 0, .int .i64 500, .slice (some ⟨w.heap.size + 1 + 1, 0, none⟩) 3 3, .string ⟨#[110, 101, 116]⟩, .int .i64 4, .bool false, .int .i64 0, .int .i64 0, .slice (some ⟨w.heap.size + 1 + 1 + 1, 0, none⟩) 1 1, .string ⟨#[117, 115, 101, 114, 115]⟩, .int .i64 3, .bool false, .int .i64 0, .int .i64 0, .slice (some ⟨w.heap.size + 1 + 1 + 1 + 1, 0, none⟩) 1 1] 31)).alloc (.cells #[.string ⟨#[97, 110, 110]⟩, .int .i64 3000] 80)) := rfl
  obtain ⟨W, hE⟩ : ∃ W, W = plainW w := ⟨_, rfl⟩
  rw [← hE] at hW ⊢
  have HW : Hid (W = (((((((w.alloc (.cells #[.slice (some ⟨w.heap.size + 1 + 1 + 1 + 1 + 1, 0, none⟩) 4 4, .slice (some ⟨w.heap.size + 1 + 1 + 1 + 1 + 1 + 1, 0, none⟩) 1 1] 73)).alloc (.cells #[.int .i64 100, .int .i64 50, .int .i64 1000000000000, .int .i64 20] 62)).alloc (.cells #[.int .i64 50, .int .i64 9, .int .i64 200, .int .i64 7, .int .i64 1000000000000, .int .i64 5] 62)).alloc (.cells #[.int .i64 1000000000000, .int .i64 3] 62)).alloc (.cells #[.int .i64 1000000000000, .int .i64 1000] 62)).alloc (.cells #[.string ⟨#[99, 112, 117]⟩, .int .i64 1, .bool false, .int .i64 10, .int .i64 0, .slice (some ⟨w.heap.size + 1, 0, none⟩) 2 2, .string ⟨#[100, 105, 115, 107]⟩, .int .i64 2, .bool true, .int .i64 0, .int .i64 500, .slice (some ⟨w.heap.size + 1 + 1, 0, none⟩) 3 3, .string ⟨#[110, 101, 116]⟩, .int .i64 4, .bool false, .int .i64 0, .int .i64 0, .slice (some ⟨w.heap.size + 1 + 1 + 1, 0, none⟩) 1 1, .string ⟨#[117, 115, 101, 114, 115]⟩, .int .i64 3, .bool false, .int .i64 0, .int .i64 0, .slice (some ⟨w.heap.size + 1 + 1 + 1 + 1, 0, none⟩) 1 1] 31)).alloc (.cells #[.string ⟨#[97, 110, 110]⟩, .int .i64 3000] 80))) := hW
  clear hW hE
  go_enter Tryd.func48, Tryd.ntmps48
  go_wp2_with fail
  rw [← HW.out]
  have c0 : W.cell? ⟨w.heap.size, 0, none⟩ = some (.slice (some ⟨w.heap.size + 1 + 1 + 1 + 1 + 1, 0, none⟩) 4 4) := by rw [HW.out]; simp [go_sem]
  have c1 : W.cell? ⟨w.heap.size, 1, none⟩ = some (.slice (some ⟨w.heap.size + 1 + 1 + 1 + 1 + 1 + 1, 0, none⟩) 1 1) := by rw [HW.out]; simp [go_sem]
  refine bodyPost_ret (v := .agg #[.slice (some ⟨w.heap.size + 1 + 1 + 1 + 1 + 1, 0, none⟩) 4 4, .slice (some ⟨w.heap.size + 1 + 1 + 1 + 1 + 1 + 1, 0, none⟩) 1 1]) (by simp [results, Tryd.results48, go_sem, c0, c1]) rfl ⟨rfl, rfl⟩
end DrawR
end Go.Proofs.YtnhjodlcdfkpnaaDoor
