/-
  The draws' source: a number that is drawn lies below its bound, whatever the bytes; drawing writes the source's own block alone. The condition: the bytes are at most 1048576.
  The draws' source, further: texts, edges, and the source itself out of bytes: what is drawn lies within its bounds; drawing writes the source's own block alone. The condition: the bytes are at most 1048576.
  A drawn text of some, and a text changed a little: some text, no longer than one byte more; drawing writes the source's own block alone. The condition: the bytes are at most 1048576.
  A row of cells that may be written. No condition.
  Rows of things of so many cells each, read, written cell by cell, made by append. No condition.
  Lists of lines: what is read of a row of them, the law's own copies, and lists held against each other. The condition: at most 1048576 lines.
  What the program calls a name is what the model calls one, of every text of at most 1048576 bytes. No condition.
  The order of texts. No condition.
  What right lines are: both sides say the same. The condition: at most 1048576 lines, whose Meters have at most 1048576 bytes.
  Lines put among others that rise by their Meters, the numbers of one Meter added; and a map of numbers by Meters, read as such a list. No condition.
  strings.Clone: the same bytes come back; nothing that was there is written. The condition: the text has at most 2^48 bytes.
  Lines that are put together, and what is left of them behind a credit: both sides say the same. The condition: at most 1048576 lines, whose Meters have at most 1048576 bytes.
  A block of cells that stays. No condition.
  Blocks that may be written, and rows beside them. No condition.
  The model's way to put a line among others in its place. The conditions: at most 1048575 lines, in a list that has room for them.
  The program's nets: a map of numbers by Meters, to which lines are added, and of which is asked whether one runs beyond. The conditions: lines of at most 1048576, their Meters of at most 1048576 bytes, the numbers far from running over.
  The model's way to add lines to others. The conditions: at most 400 lines to add to at most 100000 that rise, the numbers far from running over.
  The model's way to add lines to others: spec.l09Add. The conditions: at most 400 lines to add to at most 100000 that rise, the numbers far from running over.
  Cells of a block written one behind another. No condition.
  Memory of one's own that is kept while other memory grows or is written. No condition.
  Lines that are drawn: (*l01Src).l08Some; an account and month: (*l01Src).l09Who. No condition but the source.
  What slices.Sorted(maps.Keys(m)) hands back: the keys of m, sorted, in a new list. The kit's contracts, applied to this program. No condition.
-/
import Derived.Test.YtlfebpgohpmknaaGreatDoorKit
import Derived.Lib.BufferOwn
import Derived.Maps.Range
import Derived.Laws.BytesArg
import Derived.BigRegion
import Derived.Deep.QuietTactic
import Derived.BigQuiet
import Derived.Deep.RegionWith
import Derived.Lib.ConvBytes
import Derived.OwnWalk
import Derived.Deep.RegionHeld3
import Derived.Maps.OwnSet
import Derived.Sort.KeysCollected
import Derived.Lib.Strings
import Derived.Lib.BufferWrite
import Derived.Lib.UnsafeStr
import Derived.Lib.Hide
import Derived.Laws.MakeOwn
import Derived.Maps.RangeWalk
import Derived.Maps.OwnOps
import Derived.Carry
import Derived.Shelf.SlIter.Nil
import Derived.Shelf.SortM.Plain
import Derived.Shelf.SortM.SortNone
import Derived.Ground.GgzProg
import Derived.Ground.SlgmProg
import Derived.Test.YtlfebpgohpmknaaGreatDoorProg
namespace Go.Proofs.YtlfebpgohpmknaaGreatDoor
open Go.ChangeShapes Go.WideShapes Go.ChangeAt Go.RowKit
set_option linter.unusedVariables false
namespace DrawR
theorem set_twice (W : World) (a : Addr) (x y : Value) : (W.setCell a x).setCell a y = W.setCell a y := by
  unfold World.setCell
  congr 1
  apply Array.ext
  · simp
  · intro i h1 h2
    simp only [Array.getElem_modify]
    by_cases h : a.block = i
    · simp only [h, if_true]
      cases W.heap[i]'(by simpa using h2) <;> simp
      by_cases hs : a.spot.isSome = true <;> simp [hs]
    · simp [h]
/-- The source at block g: its four cells, and the bytes that it reads (in a block ahead of it). -/
def Src (ao : Option Addr) (len cap g : Nat) (w : World) : Prop :=
  len ≤ 1048576 ∧ (∃ (k : Nat) (mix size : Int), k ≤ len ∧ 0 ≤ mix ∧ mix ≤ 18446744073709551615 ∧ 0 ≤ size ∧ size ≤ 12 ∧
    w.heap[g]? = some (.cells #[.slice ao len cap, .int .i64 (k : Nat), .int .u64 mix, .int .i64 size] 85 (0, 0))) ∧
  (len = 0 ∨ ∃ ab aoff, ao = some ⟨ab, aoff, none⟩ ∧ ab < g ∧ ∀ i, i < len → ∃ z : Int, w.cell? ⟨ab, aoff + i, none⟩ = some (.int .u8 z) ∧ 0 ≤ z ∧ z ≤ 255)
theorem u64wrap (n : Int) : IntKind.u64.wrap n = n % 18446744073709551616 := by simp [IntKind.wrap, IntKind.bits, IntKind.signed]
theorem xor_bd (x y : Int) : 0 ≤ bits .xor .u64 x y ∧ bits .xor .u64 x y ≤ 18446744073709551615 := by
  show 0 ≤ IntKind.u64.wrap _ ∧ IntKind.u64.wrap _ ≤ _
  rw [u64wrap]; omega
theorem draw_bd (X most : Int) (h1 : 1 < most) (h2 : most ≤ 9223372036854775807) : 0 ≤ wrap64 ((IntKind.u64.wrap X).tmod most) ∧ wrap64 ((IntKind.u64.wrap X).tmod most) < most := by
  rw [u64wrap]
  obtain ⟨y, hy⟩ : ∃ y, y = X % 18446744073709551616 := ⟨_, rfl⟩
  have h0 : 0 ≤ y := by rw [hy]; exact Int.emod_nonneg _ (by omega)
  rw [← hy, Int.tmod_eq_emod_of_nonneg h0]
  have a := Int.emod_nonneg y (show most ≠ 0 by omega)
  have b := Int.emod_lt_of_pos y (show 0 < most by omega)
  simp only [wrap64]
  omega
/-- What a draw leaves: a number below its bound; the source; and nothing but the source's block is written. -/
def Drew (ao : Option Addr) (len cap g : Nat) (w : World) (most : Int) (e : Ending) (w' : World) : Prop :=
  ∃ v : Int, e = .returned (.int .i64 v) ∧ 0 ≤ v ∧ (most ≤ 1 → v = 0) ∧ (1 < most → v < most) ∧ Src ao len cap g w' ∧ w.grownBy w' (some g)
theorem block_after {w : World} {g : Nat} {c0 c1 c2 c3 x y : Value} {T : TypeId} (n : Nat) (hg : w.heap[g]? = some (.cells #[c0, c1, c2, c3] T (0, 0))) :
    (((w.drewN n).setCell ⟨g, 1, none⟩ x).setCell ⟨g, 2, none⟩ y).heap[g]? = some (.cells #[c0, x, y, c3] T (0, 0)) := by
  have h1 : (w.drewN n).heap[g]? = some (.cells #[c0, c1, c2, c3] T (0, 0)) := hg
  rw [Lib.heap_setCell_same (Lib.heap_setCell_same h1 x) y]
  rfl
theorem block_after2 {w : World} {g : Nat} {c0 c1 c2 c3 y : Value} {T : TypeId} (n : Nat) (hg : w.heap[g]? = some (.cells #[c0, c1, c2, c3] T (0, 0))) :
    ((w.drewN n).setCell ⟨g, 2, none⟩ y).heap[g]? = some (.cells #[c0, c1, y, c3] T (0, 0)) := by
  have h1 : (w.drewN n).heap[g]? = some (.cells #[c0, c1, c2, c3] T (0, 0)) := hg
  rw [Lib.heap_setCell_same h1 y]
  rfl
theorem grown_drew {w w' : World} {row : Option Nat} (h : w.grownBy w' row) : w.grownBy w'.drew row := ⟨h.os, h.tape, h.output, h.size, h.block⟩
theorem grown_drewN (w : World) (n : Nat) (row : Option Nat) : w.grownBy (w.drewN n) row := ⟨rfl, rfl, rfl, Nat.le_refl _, fun _ _ _ => rfl⟩
theorem src_after {ao : Option Addr} {len cap g : Nat} {w w' : World} (h : Src ao len cap g w) (hg : w.grownBy w' (some g)) {k : Nat} {mix size : Int} (hk : k ≤ len) (h1 : 0 ≤ mix ∧ mix ≤ 18446744073709551615) (h2 : 0 ≤ size ∧ size ≤ 12)
    (hb : w'.heap[g]? = some (.cells #[.slice ao len cap, .int .i64 (k : Nat), .int .u64 mix, .int .i64 size] 85 (0, 0))) : Src ao len cap g w' := by
  refine ⟨h.1, ⟨k, mix, size, hk, h1.1, h1.2, h2.1, h2.2, hb⟩, ?_⟩
  rcases h.2.2 with h0 | ⟨ab, aoff, e1, e2, e3⟩
  · exact .inl h0
  · refine .inr ⟨ab, aoff, e1, e2, fun i hi => ?_⟩
    obtain ⟨z, a, b, c⟩ := e3 i hi
    exact ⟨z, hg.cell a (by simp; omega), b, c⟩
set_option maxRecDepth 100000 in
set_option maxHeartbeats 4000000 in
theorem n_any (ao : Option Addr) (len cap g : Nat) (most : Int) (w : World) (hm2 : most ≤ 9223372036854775807) (hS : Src ao len cap g w) :
    Calls Tryz.prog 55 #[.pointer (some ⟨g, 0, none⟩), .int .i64 most] w fun e w' => Drew ao len cap g w most e w' := by
  by_cases hm : most ≤ 1
  · have HS : Hid (Src ao len cap g w) := hS
    clear hS
    go_enter Tryz.func55, Tryz.ntmps55
    go_wp2
    go_ret
    exact ⟨0, rfl, by omega, fun _ => rfl, fun h => by omega, HS.out, World.grownBy.refl _ _⟩
  have HS : Hid (Src ao len cap g w) := hS
  obtain ⟨hlen, ⟨k, mix, size, hk, hx1, hx2, hs1, hs2, hg⟩, hcode⟩ := hS
  have HZ : Hid (0 ≤ size ∧ size ≤ 12) := ⟨hs1, hs2⟩
  have HK : Hid (k ≤ len) := hk
  have c0 : w.cell? ⟨g, 0, none⟩ = some (.slice ao len cap) := by rw [cell_of_row w g 0 _ _ _ hg]; rfl
  have c1 : w.cell? ⟨g, 1, none⟩ = some (.int .i64 (k : Nat)) := by rw [cell_of_row w g 1 _ _ _ hg]; rfl
  have c2 : w.cell? ⟨g, 2, none⟩ = some (.int .u64 mix) := by rw [cell_of_row w g 2 _ _ _ hg]; rfl
  have f1 : w.frozen? ⟨g, 1, none⟩ = false := by simp [World.frozen?, hg]
  have f2 : w.frozen? ⟨g, 2, none⟩ = false := by simp [World.frozen?, hg]
  have HG : Hid (w.heap[g]? = some (.cells #[.slice ao len cap, .int .i64 (k : Nat), .int .u64 mix, .int .i64 size] 85 (0, 0))) := hg
  have hss : ∀ (W : World) (x y : Value), (W.setCell ⟨g, 2, none⟩ x).setCell ⟨g, 2, none⟩ y = W.setCell ⟨g, 2, none⟩ y := fun W x y => set_twice W _ x y
  have HM : Hid (1 < most) := show _ from (by omega : 1 < most)
  clear hg hs1 hs2
  by_cases hk2 : (k : Int) < (len : Int)
  · rcases hcode with h0 | ⟨ab, aoff, rfl, hab, hcell⟩
    · omega
    obtain ⟨z, hz, hz1, hz2⟩ := hcell k (by omega)
    clear hcell
    go_enter Tryz.func55, Tryz.ntmps55
    go_wp2
    go_quiet (fail)
    go_wp2
    go_quiet (fail)
    go_wp2
    go_region
    go_wp2
    go_region
    go_wp2
    go_region
    go_wp2
    go_ret
    refine ⟨_, rfl, (draw_bd _ _ HM.out hm2).1, fun h => by have := HM.out; omega, fun _ => (draw_bd _ _ HM.out hm2).2, ?_, ?_⟩
    · refine src_after HS.out ?_ (k := k + 1) (show k + 1 ≤ len by omega) (xor_bd _ _) HZ.out (block_after _ HG.out)
      exact grown_drew (grown_drew (grown_drew (Lib.grownBy_setB (Lib.grownBy_setB (grown_drewN w _ _) 1 _) 2 _)))
    · exact grown_drew (grown_drew (grown_drew (Lib.grownBy_setB (Lib.grownBy_setB (grown_drewN w _ _) 1 _) 2 _)))
  · go_enter Tryz.func55, Tryz.ntmps55
    go_wp2
    go_quiet (fail)
    go_wp2
    go_region
    go_wp2
    go_region
    go_wp2
    go_region
    go_wp2
    go_ret
    refine ⟨_, rfl, (draw_bd _ _ HM.out hm2).1, fun h => by have := HM.out; omega, fun _ => (draw_bd _ _ HM.out hm2).2, ?_, ?_⟩
    · refine src_after HS.out ?_ (k := k) HK.out (xor_bd _ _) HZ.out (block_after2 _ HG.out)
      exact grown_drew (grown_drew (Lib.grownBy_setB (grown_drewN w _ _) 2 _))
    · exact grown_drew (grown_drew (Lib.grownBy_setB (grown_drewN w _ _) 2 _))
theorem one_any (ao : Option Addr) (len cap g : Nat) (most : Int) (w : World) (hm2 : most ≤ 9223372036854775807) (hS : Src ao len cap g w) :
    Calls Tryz.prog 27 #[.pointer (some ⟨g, 0, none⟩), .int .i64 most] w fun e w' => (∃ b : Bool, e = .returned (.bool b)) ∧ Src ao len cap g w' ∧ w.grownBy w' (some g) := by
  have h1 := n_any ao len cap g most w hm2 hS
  clear hS
  go_enter Tryz.func27, Tryz.ntmps27
  go_wp2_with (go_at_call 55; refine h1.mono ?_; rintro e w1 ⟨v, rfl, hv0, hv1, hv2, hS1, hg1⟩)
  go_ret
  exact ⟨⟨_, rfl⟩, hS1, hg1⟩
end DrawR
end Go.Proofs.YtlfebpgohpmknaaGreatDoor
namespace Go.Proofs.YtlfebpgohpmknaaGreatDoor
open Go.ChangeShapes Go.WideShapes Go.ChangeAt Go.RowKit
set_option linter.unusedVariables false
namespace DrawR
theorem Src.kept {ao : Option Addr} {len cap g : Nat} {w w' : World} {row : Option Nat} (h : Src ao len cap g w) (hg : w.grownBy w' row) (hr : ∀ k, row = some k → g < k) : Src ao len cap g w' := by
  obtain ⟨h1, ⟨k, mix, size, a, b, c, d, e, f⟩, h3⟩ := h
  have hlt : g < w.heap.size := (Array.getElem?_eq_some_iff.1 f).1
  refine ⟨h1, ⟨k, mix, size, a, b, c, d, e, ?_⟩, ?_⟩
  · rw [hg.block g hlt (fun e => by have := hr g e.symm; omega)]; exact f
  · rcases h3 with h0 | ⟨ab, aoff, e1, e2, e3⟩
    · exact .inl h0
    · refine .inr ⟨ab, aoff, e1, e2, fun i hi => ?_⟩
      obtain ⟨z, a, b, c⟩ := e3 i hi
      exact ⟨z, hg.cell a (fun e => by have := hr ab e.symm; omega), b, c⟩
theorem Src.lt {ao : Option Addr} {len cap g : Nat} {w : World} (h : Src ao len cap g w) : g < w.heap.size := by
  obtain ⟨h1, ⟨k, mix, size, a, b, c, d, e, f⟩, h3⟩ := h
  exact (Array.getElem?_eq_some_iff.1 f).1
theorem Src.alloc {ao : Option Addr} {len cap g : Nat} {w : World} (h : Src ao len cap g w) (o : Obj) : Src ao len cap g (w.alloc o) :=
  h.kept (World.grownBy_alloc w o none) (fun k e => by cases e)
theorem Tryzinfo5 : (Tryz.prog.info? 5).map (fun i => (i.zero, i.size, i.bytes)) = some (some (.int .u8 0), 1, 1) := by kernel_rfl
theorem hid_intro {p : Prop} (h : p) : Hid p := h
theorem Tryzinfo2 : (Tryz.prog.info? 2).map (fun i => (i.zero, i.size, i.bytes)) = some (some (.int .i64 0), 1, 8) := by kernel_rfl
/-- The fourteen edges. -/
def edges : List Int := [0, 1, -1, 2, 1000, 1001, 2147483648, 2147483647, -2147483648, 4611686018427387904, 9223372036854775807, -9223372036854775808, 1000000, 1000001]
theorem edges_bd (j : Nat) (h : j < 14) : ∃ x : Int, (edges.map (Value.int .i64))[j]? = some (.int .i64 x) ∧ -9223372036854775808 ≤ x ∧ x ≤ 9223372036854775807 := by
  match j, h with
  | 0, _ => exact ⟨_, rfl, by decide, by decide⟩
  | 1, _ => exact ⟨_, rfl, by decide, by decide⟩
  | 2, _ => exact ⟨_, rfl, by decide, by decide⟩
  | 3, _ => exact ⟨_, rfl, by decide, by decide⟩
  | 4, _ => exact ⟨_, rfl, by decide, by decide⟩
  | 5, _ => exact ⟨_, rfl, by decide, by decide⟩
  | 6, _ => exact ⟨_, rfl, by decide, by decide⟩
  | 7, _ => exact ⟨_, rfl, by decide, by decide⟩
  | 8, _ => exact ⟨_, rfl, by decide, by decide⟩
  | 9, _ => exact ⟨_, rfl, by decide, by decide⟩
  | 10, _ => exact ⟨_, rfl, by decide, by decide⟩
  | 11, _ => exact ⟨_, rfl, by decide, by decide⟩
  | 12, _ => exact ⟨_, rfl, by decide, by decide⟩
  | 13, _ => exact ⟨_, rfl, by decide, by decide⟩
theorem edge_cell (w : World) (T : TypeId) (j : Nat) (x : Int) (hx : (edges.map (Value.int .i64))[j]? = some (.int .i64 x)) : (w.alloc (.cells (edges.map (Value.int .i64)).toArray T)).cell? ⟨w.heap.size, j, none⟩ = some (.int .i64 x) := by
  rw [World.cell?_alloc_mark, List.getElem?_toArray]; exact hx
/-- Bytes that can be read: none, or so many cells, each a byte. -/
def Bytes (ao : Option Addr) (len : Nat) (w : World) : Prop :=
  len = 0 ∨ ∃ ab aoff, ao = some ⟨ab, aoff, none⟩ ∧ ab < w.heap.size ∧ ∀ i, i < len → ∃ z : Int, w.cell? ⟨ab, aoff + i, none⟩ = some (.int .u8 z) ∧ 0 ≤ z ∧ z ≤ 255
theorem Bytes.below {ao : Option Addr} {len : Nat} {w w' : World} (h : Bytes ao len w) (hb : Below w.heap.size w w') : Bytes ao len w' := by
  rcases h with h0 | ⟨ab, aoff, e1, e2, e3⟩
  · exact .inl h0
  · refine .inr ⟨ab, aoff, e1, Nat.lt_of_lt_of_le e2 hb.size, fun i hi => ?_⟩
    obtain ⟨z, a, b, c⟩ := e3 i hi
    exact ⟨z, (hb.cell (p := ⟨ab, aoff + i, none⟩) e2).trans a, b, c⟩
theorem wrap_bd64 (x : Int) : 0 ≤ IntKind.u64.wrap x ∧ IntKind.u64.wrap x ≤ 18446744073709551615 := by rw [u64wrap]; omega
theorem block_mix {w : World} {g : Nat} {c0 c1 c2 c3 y : Value} {T : TypeId} (hg : w.heap[g]? = some (.cells #[c0, c1, c2, c3] T (0, 0))) :
    (w.setCell ⟨g, 2, none⟩ y).heap[g]? = some (.cells #[c0, c1, y, c3] T (0, 0)) := by
  rw [Lib.heap_setCell_same hg y]; rfl
theorem block_size {w : World} {g : Nat} {c0 c1 c2 c3 y : Value} {T : TypeId} (hg : w.heap[g]? = some (.cells #[c0, c1, c2, c3] T (0, 0))) :
    (w.setCell ⟨g, 3, none⟩ y).heap[g]? = some (.cells #[c0, c1, c2, y] T (0, 0)) := by
  rw [Lib.heap_setCell_same hg y]; rfl
theorem src_mk {ao : Option Addr} {len cap : Nat} {w w' : World} {mix size : Int} (hlen : len ≤ 1048576) (hm : 0 ≤ mix ∧ mix ≤ 18446744073709551615) (hs : 0 ≤ size ∧ size ≤ 12)
    (hg : w'.heap[w.heap.size]? = some (.cells #[.slice ao len cap, .int .i64 0, .int .u64 mix, .int .i64 size] 85 (0, 0))) (hB : Bytes ao len w) (hb : Below w.heap.size w w') : Src ao len cap w.heap.size w' := by
  refine ⟨hlen, ⟨0, mix, size, by omega, hm.1, hm.2, hs.1, hs.2, hg⟩, ?_⟩
  rcases hB with h0 | ⟨ab, aoff, e1, e2, e3⟩
  · exact .inl h0
  · refine .inr ⟨ab, aoff, e1, e2, fun i hi => ?_⟩
    obtain ⟨z, a, b, c⟩ := e3 i hi
    exact ⟨z, (hb.cell (p := ⟨ab, aoff + i, none⟩) e2).trans a, b, c⟩
set_option maxRecDepth 100000 in
set_option maxHeartbeats 4000000 in
theorem source_any (ao : Option Addr) (len cap : Nat) (w : World) (hlen : len ≤ 1048576) (hB : Bytes ao len w) :
    Calls Tryz.prog 24 #[.slice ao len cap] w fun e w' => e = .returned (.pointer (some ⟨w.heap.size, 0, none⟩)) ∧ Src ao len cap w.heap.size w' ∧ Below w.heap.size w w' := by
  have HB := hid_intro hB
  clear hB
  have HG0 : Hid ((w.alloc (Obj.cells #[.slice ao len cap, .int .i64 0, .int .u64 88172645463325252, .int .i64 0] 85)).heap[w.heap.size]? = some (.cells #[.slice ao len cap, .int .i64 0, .int .u64 88172645463325252, .int .i64 0] 85 (0, 0))) := heap_alloc_new w _
  have HB0 : Hid (Below w.heap.size w (w.alloc (Obj.cells #[.slice ao len cap, .int .i64 0, .int .u64 88172645463325252, .int .i64 0] 85))) := (Below.refl _ _).alloc (Nat.le_refl _) _
  go_enter Tryz.func24, Tryz.ntmps24
  go_wp2
  go_loopw [4] (fun i wr => ∃ (k : Nat) (mix : Int), k ≤ len ∧ k ≤ 64 ∧ i = .int .i64 k ∧ 0 ≤ mix ∧ mix ≤ 18446744073709551615 ∧ Hid (wr.heap[w.heap.size]? = some (.cells #[.slice ao len cap, .int .i64 0, .int .u64 mix, .int .i64 0] 85 (0, 0))) ∧ Hid (Below w.heap.size w wr)) (fun i _ => 64 - (intOf i).toNat)
  case atStart => exact ⟨0, _, by omega, by omega, rfl, by omega, by omega, HG0, HB0⟩
  case round =>
    obtain ⟨k, mix, hk1, hk2, rfl, hm1, hm2, HG, HL⟩ := hrel
    clear HG0 HB0
    have c2 : wr.cell? ⟨w.heap.size, 2, none⟩ = some (.int .u64 mix) := by rw [cell_of_row wr w.heap.size 2 _ _ _ HG.out]; rfl
    have f2 : wr.frozen? ⟨w.heap.size, 2, none⟩ = false := by simp [World.frozen?, HG.out]
    have c3 : wr.cell? ⟨w.heap.size, 3, none⟩ = some (.int .i64 0) := by rw [cell_of_row wr w.heap.size 3 _ _ _ HG.out]; rfl
    have f3 : wr.frozen? ⟨w.heap.size, 3, none⟩ = false := by simp [World.frozen?, HG.out]
    by_cases hlt : k < len ∧ k < 64
    · obtain ⟨h1, h2⟩ := hlt
      have h3 : (k : Int) < (len : Int) := by omega
      have h4 : (k : Int) < 64 := by omega
      rcases HB.out with h0 | ⟨ab, aoff, rfl, hab, hcell⟩
      · omega
      obtain ⟨z, hz, hz1, hz2⟩ := hcell k h1
      have hz' : wr.cell? ⟨ab, aoff + k, none⟩ = some (.int .u8 z) := (HL.out.cell (p := ⟨ab, aoff + k, none⟩) hab).trans hz
      clear hcell hz c3 f3
      go_wp2
      go_region
      go_wp2
      go_roundw
      case rel => exact ⟨k + 1, _, by omega, by omega, by go_num, (wrap_bd64 _).1, (wrap_bd64 _).2, hid_intro (block_mix HG.out), hid_intro ((HL.out.setCell (Nat.le_refl _) _).drew)⟩
      case measure => simp [intOf]; omega
    · have hnot : ¬ (k : Int) < (len : Int) ∨ ((k : Int) < (len : Int) ∧ ¬ (k : Int) < 64) := by omega
      have hdiv : (0 : Int) ≤ (len : Int) / 20 := by omega
      clear hlt
      have hss : ∀ (W : World) (x y : Value), (W.setCell ⟨w.heap.size, 3, none⟩ x).setCell ⟨w.heap.size, 3, none⟩ y = W.setCell ⟨w.heap.size, 3, none⟩ y := fun W x y => set_twice W _ x y
      by_cases h12 : 12 < (len : Int) / 20
      all_goals
        rcases hnot with q1 | ⟨q1, q2⟩
        all_goals
          first
            | (exfalso; omega)
            | (go_wp2
               go_ret
               first
                 | exact ⟨rfl, src_mk hlen ⟨hm1, hm2⟩ (size := 12) ⟨by omega, by omega⟩ (block_size HG.out) HB.out (HL.out.setCell (Nat.le_refl _) _), HL.out.setCell (Nat.le_refl _) _⟩
                 | exact ⟨rfl, src_mk hlen ⟨hm1, hm2⟩ (size := (len : Int) / 20) ⟨by omega, by omega⟩ (block_size HG.out) HB.out (HL.out.setCell (Nat.le_refl _) _), HL.out.setCell (Nat.le_refl _) _⟩)
/-- A slice of integers that came in: nil; or a row of cells, each an integer of its kind. -/
def IsRow (k : IntKind) (w : World) (a : Option Addr) (len cap : Nat) (zs : List Int) : Prop :=
  (a = none ∧ len = 0 ∧ cap = 0 ∧ zs = []) ∨
  ∃ x, a = some x ∧ len ≤ cap ∧ cap ≤ maxLen ∧ zs.length = cap ∧ (∀ i, i < zs.length → w.cell? (x.add i) = some (.int k (zs.getD i 0))) ∧ ∀ n ∈ zs, (Lit.int k n).wf = true
theorem IsRow.bytes {w : World} {a : Option Addr} {len cap : Nat} {zs : List Int} (h : IsRow .u8 w a len cap zs) : Bytes a len w := by
  rcases h with ⟨_, h0, _⟩ | ⟨x, rfl, hl, hm, hz, hcell, hwz⟩
  · exact .inl h0
  · by_cases h0 : len = 0
    · exact .inl h0
    · obtain ⟨b, off, spot⟩ := x
      have hc := hcell 0 (by omega)
      have hspot : spot = none := by simpa [Addr.add] using World.cell?_spot hc
      subst hspot
      refine .inr ⟨b, off, rfl, ?_, fun i hi => ?_⟩
      · have := World.block_lt_of_cell? w _ hc
        simpa [Addr.add] using this
      · have hi2 : i < zs.length := by omega
        have h1 := hcell i hi2
        have e : (⟨b, off, none⟩ : Addr).add i = ⟨b, off + i, none⟩ := by simp [Addr.add]
        rw [e] at h1
        have hw := hwz (zs.getD i 0) (by rw [List.getD, List.getElem?_eq_getElem hi2]; exact List.getElem_mem hi2)
        have hb := bounds_u8 hw
        exact ⟨_, h1, by omega, by omega⟩
theorem IsRow.len {k : IntKind} {w : World} {a : Option Addr} {len cap : Nat} {zs : List Int} (h : IsRow k w a len cap zs) : len ≤ maxLen := by
  rcases h with ⟨_, h0, _⟩ | ⟨x, _, hl, hm, _⟩
  · omega
  · omega
end DrawR
end Go.Proofs.YtlfebpgohpmknaaGreatDoor
namespace Go.Proofs.YtlfebpgohpmknaaGreatDoor
open Go.ChangeShapes Go.WideShapes Go.ChangeAt Go.RowKit
set_option linter.unusedVariables false
namespace DrawR
/-- A row of short texts. -/
def Strs (b n K : Nat) (w : World) : Prop := b < w.heap.size ∧ ∀ j, j < n → ∃ T : ByteArray, w.cell? ⟨b, j, none⟩ = some (.string T) ∧ T.size ≤ K
theorem Strs.grown {b n K : Nat} {w w' : World} {row : Option Nat} (h : Strs b n K w) (hg : w.grownBy w' row) (hne : some b ≠ row) : Strs b n K w' :=
  ⟨by have := hg.size; have := h.1; omega, fun j hj => by obtain ⟨T, h1, h2⟩ := h.2 j hj; exact ⟨T, hg.cell (a := ⟨b, j, none⟩) h1 hne, h2⟩⟩
/-- A text that was drawn. -/
def StrOut (K : Nat) (ao : Option Addr) (len cap g : Nat) (w : World) (e : Ending) (w' : World) : Prop := (∃ T : ByteArray, e = .returned (.string T) ∧ T.size ≤ K) ∧ Src ao len cap g w' ∧ w.grownBy w' (some g)
set_option maxRecDepth 100000 in
set_option maxHeartbeats 4000000 in
theorem pick_any (ao : Option Addr) (len cap g b n K : Nat) (w : World) (hn : 2 ≤ n) (hn2 : n ≤ 100) (hbg : b ≠ g) (hS : Src ao len cap g w) (hT : Strs b n K w) :
    Calls Tryz.prog 56 #[.pointer (some ⟨g, 0, none⟩), .slice (some ⟨b, 0, none⟩) n n] w fun e w' => StrOut K ao len cap g w e w' := by
  have HS := hid_intro hS
  have HT := hid_intro hT
  have hgl := hS.lt
  have hn3 : (2 : Int) ≤ (n : Int) := by omega
  have hn4 : (n : Int) ≤ 100 := by omega
  clear hS hT
  go_enter Tryz.func56, Tryz.ntmps56
  go_wp2_with fail
  refine (n_any ao len cap g n _ (by omega) HS.out).mono ?_
  rintro e w1 ⟨v, rfl, v0, _, v2, hS, hg⟩
  have v3 : v < n := v2 (by omega)
  obtain ⟨j, rfl⟩ : ∃ j : Nat, v = j := ⟨v.toNat, by omega⟩
  obtain ⟨T, hc, hK⟩ := (HT.out.grown hg (by simp; exact hbg)).2 j (by omega)
  have HS1 := hid_intro hS
  have HG1 := hid_intro hg
  have HK := hid_intro hK
  clear hS hg v2 hK
  go_wp2
  go_ret
  exact ⟨⟨T, rfl, HK.out⟩, HS1.out, HG1.out⟩
theorem conv_any (w : World) (z : Int) : (convert 22 9 (.slice (some ⟨w.heap.size, 0, none⟩) 1 1)).run Tryz.prog (w.alloc (Obj.cells #[.int .u8 z] 5)) = .ok (.string (strOfNums [z])) (w.alloc (Obj.cells #[.int .u8 z] 5)) := by
  refine run_convert_bytes_arg _ 22 5 Tryz.underlying22 Tryz.underlying5 w.heap.size 0 1 1 _ rfl ?_ 9 Tryz.underlying9
  intro i hi
  match i, hi with
  | 0, _ => simp [go_sem]
end DrawR
end Go.Proofs.YtlfebpgohpmknaaGreatDoor
namespace Go.Proofs.YtlfebpgohpmknaaGreatDoor
open Go.ChangeShapes Go.WideShapes Go.ChangeAt Go.RowKit
set_option linter.unusedVariables false
namespace EvtR
/-- Cells that may be written. -/
structure Pt (g m : Nat) (w : World) : Prop where
  lt : g < w.heap.size
  has : ∀ o, o < m → ∃ v, w.cell? ⟨g, o, none⟩ = some v
  free : ∀ o, o < m → w.frozen? ⟨g, o, none⟩ = false
theorem Pt.below {g m : Nat} {w w' : World} (h : Pt g m w) (hb : Below w.heap.size w w') : Pt g m w' :=
  ⟨by have := hb.size; have := h.lt; omega, fun o ho => by obtain ⟨v, hv⟩ := h.has o ho; exact ⟨v, (hb.cell (p := ⟨g, o, none⟩) h.lt).trans hv⟩, fun o ho => (hb.frozen (p := ⟨g, o, none⟩) h.lt).trans (h.free o ho)⟩
theorem cell_put {g m : Nat} {w : World} (h : Pt g m w) (o : Nat) (ho : o < m) (v : Value) : (w.setCell ⟨g, o, none⟩ v).cell? ⟨g, o, none⟩ = some v := by
  obtain ⟨u, hu⟩ := h.has o ho
  simp [go_sem, hu]
theorem cell_far {g : Nat} {w : World} (o o' : Nat) (ho : o ≠ o') (v : Value) : (w.setCell ⟨g, o, none⟩ v).cell? ⟨g, o', none⟩ = w.cell? ⟨g, o', none⟩ := by
  simp [go_sem]
theorem Pt.set {g m : Nat} {w : World} (h : Pt g m w) (o : Nat) (v : Value) : Pt g m (w.setCell ⟨g, o, none⟩ v) := by
  refine ⟨by simpa using h.lt, fun x hx => ?_, fun x hx => ?_⟩
  · by_cases e : o = x
    · subst e; exact ⟨v, cell_put h o hx v⟩
    · obtain ⟨u, hu⟩ := h.has x hx
      exact ⟨u, (cell_far o x e v).trans hu⟩
  · have := h.free x hx
    simp [go_sem, this]
end EvtR
end Go.Proofs.YtlfebpgohpmknaaGreatDoor
namespace Go.Proofs.YtlfebpgohpmknaaGreatDoor
open Go.ChangeShapes Go.WideShapes Go.ChangeAt Go.RowKit
set_option linter.unusedVariables false
namespace RowG
open EvtR (Pt cell_put cell_far)
theorem hid_intro {p : Prop} (h : p) : Hid p := h
section
variable {α : Type} (k : Nat) (cells : α → List Value) (z : α)
/-- The cells of a thing stand at a place. -/
def AtG (w : World) (b o : Nat) (x : α) : Prop := ∀ j, j < k → w.cell? ⟨b, o + j, none⟩ = (cells x)[j]?
/-- The row holds these things. -/
def Rws (ao : Option Addr) (xs : List α) (w : World) : Prop := xs.length = 0 ∨ ∃ b off, ao = some ⟨b, off, none⟩ ∧ b < w.heap.size ∧ ∀ j, j < xs.length → AtG k cells w b (off + j * k) (xs.getD j z)
/-- The cell that stands at a place of a row of things. -/
def cellAt (xs : List α) (o : Nat) : Option Value := (cells (xs.getD (o / k) z))[o % k]?
/-- The first cells are written. -/
def Wr (f : Nat → Option Value) (j g : Nat) (w : World) : Prop := ∀ o, o < j → w.cell? ⟨g, o, none⟩ = f o
end
section
variable {α : Type} {k : Nat} {cells : α → List Value} {z : α}
theorem AtG.below {w w' : World} {b o : Nat} {x : α} (h : AtG k cells w b o x) (hl : b < w.heap.size) (hb : Below w.heap.size w w') : AtG k cells w' b o x :=
  fun j hj => (hb.cell (p := ⟨b, o + j, none⟩) hl).trans (h j hj)
theorem Rws.below {ao : Option Addr} {xs : List α} {w w' : World} (h : Rws k cells z ao xs w) (hb : Below w.heap.size w w') : Rws k cells z ao xs w' := by
  rcases h with h0 | ⟨b, off, rfl, hlt, hc⟩
  · exact .inl h0
  · exact .inr ⟨b, off, rfl, by have := hb.size; omega, fun j hj => (hc j hj).below hlt hb⟩
theorem Rws.grown {ao : Option Addr} {xs : List α} {w w' : World} {row : Option Nat} (h : Rws k cells z ao xs w) (hg : w.grownBy w' row) (hne : xs.length = 0 ∨ ∀ b off, ao = some ⟨b, off, none⟩ → some b ≠ row) : Rws k cells z ao xs w' := by
  rcases h with h0 | ⟨b, off, rfl, hlt, hc⟩
  · exact .inl h0
  · rcases hne with h0 | hne
    · exact .inl h0
    have e := hg.block b hlt (hne b off rfl)
    exact .inr ⟨b, off, rfl, by have := hg.size; omega, fun j hj i hi => (World.cell?_of_block (a := ⟨b, off + j * k + i, none⟩) e).trans (hc j hj i hi)⟩
theorem Rws.at {ao : Option Addr} {xs : List α} {w : World} (h : Rws k cells z ao xs w) (j : Nat) (hj : j < xs.length) : ∃ b off, ao = some ⟨b, off, none⟩ ∧ b < w.heap.size ∧ AtG k cells w b (off + j * k) (xs.getD j z) := by
  rcases h with h0 | ⟨b, off, rfl, hlt, hc⟩
  · omega
  · exact ⟨b, off, rfl, hlt, hc j hj⟩
theorem rws_nil (ao : Option Addr) (w : World) : Rws k cells z ao [] w := .inl rfl
theorem getD_mem (xs : List α) (j : Nat) (h : j < xs.length) : xs.getD j z ∈ xs := by
  have : xs.getD j z = xs[j] := by simp [List.getD, h]
  rw [this]; exact List.getElem_mem h
theorem take_more (xs : List α) (j : Nat) (h : j < xs.length) : xs.take (j + 1) = xs.take j ++ [xs.getD j z] := by
  rw [List.take_add_one, List.getElem?_eq_getElem h]
  simp [List.getD, h]
theorem Wr.below {f : Nat → Option Value} {j g m : Nat} {w w' : World} (h : Wr f j g w) (hp : Pt g m w) (hb : Below w.heap.size w w') : Wr f j g w' :=
  fun o ho => (hb.cell (p := ⟨g, o, none⟩) hp.lt).trans (h o ho)
theorem Wr.more {f : Nat → Option Value} {j g m : Nat} {w : World} (h : Wr f j g w) (hp : Pt g m w) (hj : j < m) (v : Value) (hv : f j = some v) : Wr f (j + 1) g (w.setCell ⟨g, j, none⟩ v) := by
  intro o ho
  by_cases e : j = o
  · subst e; rw [cell_put hp j hj v, hv]
  · rw [cell_far j o e v]; exact h o (by omega)
theorem Wr.at {xs : List α} {n g : Nat} {w : World} (h : Wr (cellAt k cells z xs) (n * k) g w) (i : Nat) (hi : i < n) (x : Nat) (hx : x < k) : w.cell? ⟨g, i * k + x, none⟩ = (cells (xs.getD i z))[x]? := by
  have hlt : i * k + x < n * k := by
    have : (i + 1) * k ≤ n * k := Nat.mul_le_mul_right _ hi
    rw [Nat.add_mul, Nat.one_mul] at this
    omega
  rw [h _ hlt]
  unfold cellAt
  rw [show i * k + x = x + k * i by rw [Nat.mul_comm]; omega, Nat.add_mul_div_left _ _ (by omega), Nat.div_eq_of_lt hx, Nat.zero_add, Nat.add_mul_mod_self_left, Nat.mod_eq_of_lt hx]
theorem Wr.rws {xs : List α} {g : Nat} {w : World} (h : Wr (cellAt k cells z xs) (xs.length * k) g w) (hl : g < w.heap.size) : Rws k cells z (some ⟨g, 0, none⟩) xs w :=
  .inr ⟨g, 0, rfl, hl, fun j hj i hi => by rw [Nat.zero_add]; exact h.at j hj i hi⟩
theorem cellAt_of {xs : List α} (i x : Nat) (hx : x < k) : cellAt k cells z xs (i * k + x) = (cells (xs.getD i z))[x]? := by
  unfold cellAt
  rw [show i * k + x = x + k * i by rw [Nat.mul_comm]; omega, Nat.add_mul_div_left _ _ (by omega), Nat.div_eq_of_lt hx, Nat.zero_add, Nat.add_mul_mod_self_left, Nat.mod_eq_of_lt hx]
/-- The cells of a list of things. -/
def cellsAll (cells : α → List Value) (xs : List α) : List Value := xs.flatMap cells
theorem cellsAll_app (xs : List α) (x : α) : cellsAll cells (xs ++ [x]) = cellsAll cells xs ++ cells x := by simp [cellsAll]
theorem cellsAll_len (hk : ∀ x, (cells x).length = k) (xs : List α) : (cellsAll cells xs).length = xs.length * k := by
  induction xs with
  | nil => simp [cellsAll]
  | cons x xs ih => simp only [cellsAll, List.flatMap_cons, List.length_append, hk, List.length_cons] at *; rw [ih, Nat.add_mul]; omega
theorem cellsAll_get (hk : ∀ x, (cells x).length = k) (xs : List α) (i x : Nat) (hi : i < xs.length) (hx : x < k) : (cellsAll cells xs)[i * k + x]? = (cells (xs.getD i z))[x]? := by
  induction xs generalizing i with
  | nil => simp at hi
  | cons a xs ih =>
    simp only [cellsAll, List.flatMap_cons]
    cases i with
    | zero =>
      rw [Nat.zero_mul, Nat.zero_add, List.getElem?_append_left (by rw [hk]; exact hx)]
      rfl
    | succ i =>
      rw [List.getElem?_append_right (by rw [hk, Nat.add_mul]; omega), hk, show (i + 1) * k + x - k = i * k + x by rw [Nat.add_mul]; omega]
      simp only [List.length_cons] at hi
      exact ih i (by omega)
/-- A list that a call has made. -/
structure MadeG (k : Nat) (cells : α → List Value) (z : α) (base : Nat) (ao : Option Addr) (xs : List α) (w : World) : Prop where
  rws : Rws k cells z ao xs w
  own : xs.length = 0 ∨ ∃ g, ao = some ⟨g, 0, none⟩ ∧ base ≤ g ∧ Pt g (xs.length * k) w
theorem made_nil (base : Nat) (ao : Option Addr) (w : World) : MadeG k cells z base ao [] w := ⟨.inl rfl, .inl rfl⟩
theorem MadeG.below {base : Nat} {ao : Option Addr} {xs : List α} {w w' : World} (h : MadeG k cells z base ao xs w) (hb : Below w.heap.size w w') : MadeG k cells z base ao xs w' :=
  ⟨h.rws.below hb, h.own.imp id (fun ⟨g, h1, h2, h3⟩ => ⟨g, h1, h2, h3.below hb⟩)⟩
theorem MadeG.low {base base' : Nat} {ao : Option Addr} {xs : List α} {w : World} (h : MadeG k cells z base ao xs w) (hb : base' ≤ base) : MadeG k cells z base' ao xs w :=
  ⟨h.rws, h.own.imp id (fun ⟨g, h1, h2, h3⟩ => ⟨g, h1, by omega, h3⟩)⟩
theorem own_made (hk : ∀ x, (cells x).length = k) {w : World} {base T : Nat} {v : Value} {xs : List α} (h : w.ownsRow base T k v xs.length (cellsAll cells xs)) : ∃ ao cap, v = .slice ao xs.length cap ∧ MadeG k cells z base ao xs w := by
  rcases h.2 with ⟨h0, h1⟩ | ⟨g, cap, cur, hv, hg, hh, hc, _, hz, hcur⟩
  · obtain rfl : xs = [] := List.length_eq_zero_iff.1 h1
    exact ⟨none, 0, h0, made_nil _ _ _⟩
  · have hm : xs.length * k ≤ cur.size := by rw [hz]; exact Nat.mul_le_mul_right _ hc
    have hl := (h.lt g (by rw [hv]; rfl)).2
    refine ⟨_, _, hv, .inr ⟨g, 0, rfl, hl, fun j hj i hi => ?_⟩, .inr ⟨g, rfl, hg, hl, fun o ho => ?_, fun o ho => ?_⟩⟩
    · rw [Nat.zero_add, ← cellsAll_get hk xs j i hj hi, ← hcur]
      have hlt : j * k + i < xs.length * k := by
        have : (j + 1) * k ≤ xs.length * k := Nat.mul_le_mul_right _ hj
        rw [Nat.add_mul, Nat.one_mul] at this
        omega
      rw [List.getElem?_take, if_pos hlt]
      simp [World.cell?, hh]
    · have : o < cur.size := by omega
      refine ⟨cur[o], ?_⟩
      simp [World.cell?, hh, this]
    · simp [World.frozen?, hh]
end
theorem own_below {w w' : World} {base e size n : Nat} {v : Value} {xs : List Value} (h : w.ownsRow base e size v n xs) (hb : Below w.heap.size w w') : w'.ownsRow base e size v n xs := by
  refine h.kept (row := none) ⟨hb.os, hb.tape, hb.output, hb.size, fun k hk _ => hb.block k hk⟩ ?_
  rcases hob : v.ownBlock with _ | b
  · exact .inl rfl
  · exact .inr (by simp)
theorem grown_set (w : World) (b o : Nat) (v : Value) : w.grownBy (w.setCell ⟨b, o, none⟩ v) (some b) := by
  refine ⟨rfl, rfl, rfl, by simp, fun k hk hne => ?_⟩
  simp only [World.setCell]
  rw [Array.getElem?_modify, if_neg (fun e => hne (by rw [e]))]
theorem own_set {w : World} {base e size n : Nat} {v : Value} {xs : List Value} (h : w.ownsRow base e size v n xs) (g o : Nat) (u : Value) (hg : ∀ b, v.ownBlock = some b → b ≠ g) : (w.setCell ⟨g, o, none⟩ u).ownsRow base e size v n xs := by
  refine h.kept (grown_set w g o u) ?_
  rcases hob : v.ownBlock with _ | b
  · exact .inl rfl
  · exact .inr (fun e => hg b hob (by simpa using e))
end RowG
end Go.Proofs.YtlfebpgohpmknaaGreatDoor
namespace Go.Proofs.YtlfebpgohpmknaaGreatDoor
open Go.ChangeShapes Go.WideShapes Go.ChangeAt Go.RowKit
set_option linter.unusedVariables false
namespace LinR
open RowG
open EvtR (Pt)
/-- A line. -/
structure N where
  i : ByteArray
  n : Int
def N.v (e : N) : Value := .agg #[.string e.i, .int .i64 e.n]
def N.zero : N := ⟨⟨#[]⟩, 0⟩
def N.cells (e : N) : List Value := [.string e.i, .int .i64 e.n]
theorem N.len (e : N) : e.cells.length = 2 := rfl
/-- The row holds these lines. -/
def Lis (ao : Option Addr) (es : List N) (w : World) : Prop := Rws 2 N.cells N.zero ao es w
theorem Lis.below {ao : Option Addr} {es : List N} {w w' : World} (h : Lis ao es w) (hb : Below w.heap.size w w') : Lis ao es w' := Rws.below h hb
theorem Lis.at {ao : Option Addr} {es : List N} {w : World} (h : Lis ao es w) (j : Nat) (hj : j < es.length) : ∃ b off, ao = some ⟨b, off, none⟩ ∧ b < w.heap.size ∧ w.cell? ⟨b, off + j * 2, none⟩ = some (.string (es.getD j N.zero).i) ∧ w.cell? ⟨b, off + j * 2 + 1, none⟩ = some (.int .i64 (es.getD j N.zero).n) := by
  obtain ⟨b, off, h1, h2, h3⟩ := Rws.at h j hj
  exact ⟨b, off, h1, h2, h3 0 (by omega), h3 1 (by omega)⟩
/-- How many letters the lines hold. -/
def szL (es : List N) : Int := (es.map (fun e => (e.i.size : Int))).sum
theorem szL_nn (es : List N) : 0 ≤ szL es := by
  unfold szL
  induction es with
  | nil => simp
  | cons e es ih => simp only [List.map_cons, List.sum_cons]; omega
theorem szL_take (es : List N) (k : Nat) (h : k < es.length) : szL (es.take (k + 1)) = szL (es.take k) + ((es.getD k N.zero).i.size : Int) := by
  unfold szL
  rw [take_more (z := N.zero) es k h, List.map_append, List.sum_append]
  simp
theorem szL_le (es : List N) (k : Nat) : szL (es.take k) ≤ szL es := by
  have := szL_nn (es.drop k)
  have e : szL es = szL (es.take k) + szL (es.drop k) := by
    unfold szL
    rw [← List.sum_append, ← List.map_append, List.take_append_drop]
  omega
/-- What is left of the law's size. -/
def szR (es : List N) : Int := if (es.length : Int) + szL es ≤ 1048576 then 1048576 - (es.length : Int) - szL es else -1
theorem infoN : (Tryz.prog.info? 74).map (fun i => (i.zero, i.size, i.bytes)) = some (some (.agg #[.string ⟨#[]⟩, .int .i64 0]), 2, 24) := by kernel_rfl
theorem row_fullL {w : World} {base e g n s : Nat} {xs : List Value} (h : w.ownsRow base e s (.slice (some ⟨g, 0, none⟩) n n) n xs) : Pt g (n * s) w := by
  rcases h.2 with ⟨h1, _⟩ | ⟨g', cap, cur, h1, _, hg, _, _, hs, _⟩
  · simp at h1
  · simp at h1
    obtain ⟨rfl, rfl⟩ := h1
    refine ⟨(Array.getElem?_eq_some_iff.1 hg).1, fun o ho => ⟨cur[o]'(by omega), ?_⟩, fun o ho => ?_⟩
    · have : o < cur.size := by omega
      simp [World.cell?, hg, this]
    · simp [World.frozen?, hg]
end LinR
end Go.Proofs.YtlfebpgohpmknaaGreatDoor
namespace Go.Proofs.YtlfebpgohpmknaaGreatDoor
open Go.ChangeShapes Go.WideShapes Go.ChangeAt Go.RowKit
open Go.ChangeMaps (open_string shut_string)
namespace NameR
/-- May this byte stand at this place of a name? -/
def okAt (i : Nat) (c : Int) : Bool := decide ((97 ≤ c ∧ c ≤ 122) ∨ (i ≠ 0 ∧ ((48 ≤ c ∧ c ≤ 57) ∨ c = 95)))
def upTo (s : ByteArray) (k : Nat) : Prop := ∀ i (h : i < s.size), i < k → okAt i (s[i].toNat : Int) = true
def upToDec (s : ByteArray) (k : Nat) : Decidable (upTo s k) := inferInstanceAs (Decidable (∀ i (h : i < s.size), i < k → okAt i (s[i].toNat : Int) = true))
def nameB (s : ByteArray) : Bool := @decide (1 ≤ s.size ∧ s.size ≤ 20 ∧ upTo s s.size) (@instDecidableAnd _ _ _ (@instDecidableAnd _ _ _ (upToDec s s.size)))
theorem name_size {s : ByteArray} (h : s.size < 1 ∨ 20 < s.size) : nameB s = false := by
  unfold nameB; simp; intro h1 h2; omega
theorem name_no {s : ByteArray} {k : Nat} (h : k < s.size) (hb : okAt k (s[k].toNat : Int) = false) : nameB s = false := by
  unfold nameB; simp; intro _ _ hu; have := hu k h h; simp [hb] at this
theorem name_yes {s : ByteArray} (h1 : 1 ≤ s.size) (h2 : s.size ≤ 20) (hu : upTo s s.size) : nameB s = true := by
  unfold nameB; simp; exact ⟨h1, h2, hu⟩
theorem upTo_zero (s : ByteArray) : upTo s 0 := fun _ _ h => absurd h (by omega)
theorem upTo_succ {s : ByteArray} {k : Nat} (hu : upTo s k) (h : k < s.size) (hb : okAt k (s[k].toNat : Int) = true) : upTo s (k + 1) := by
  intro i hi hk
  by_cases e : i = k
  · subst e; exact hb
  · exact hu i hi (by omega)

set_option maxHeartbeats 2000000 in
theorem spec_any (s : ByteArray) (w : World) (hs : s.size ≤ 1048576) :
    Calls Tryz.prog 39 #[.string s] w fun e w' => e = .returned (.bool (nameB s)) ∧ w' = w := by
  by_cases h1 : s.size < 1
  · have hn := name_size (s := s) (.inl h1)
    rw [hn]
    go_enter Tryz.func39, Tryz.ntmps39
    go_wp2
    go_ret
    exact ⟨rfl, rfl⟩
  by_cases h2 : 20 < s.size
  · have hn := name_size (s := s) (.inr h2)
    rw [hn]
    go_enter Tryz.func39, Tryz.ntmps39
    go_wp2
    go_ret
    exact ⟨rfl, rfl⟩
  go_enter Tryz.func39, Tryz.ntmps39
  go_wp2
  go_loop [3, 4] (fun i _ => ∃ k : Nat, k ≤ s.size ∧ i = .int .i64 k ∧ upTo s k) (fun i _ => s.size - (intOf i).toNat)
  case atStart => exact ⟨0, Nat.zero_le _, rfl, upTo_zero s⟩
  case round =>
    obtain ⟨k, hk, rfl, hu⟩ := hrel
    by_cases hlt : k < s.size
    · have hno := name_no (s := s) hlt
      have hyes := upTo_succ hu hlt
      have HN : Hid (okAt k (s[k].toNat : Int) = false → nameB s = false) := hno
      have HY : Hid (okAt k (s[k].toNat : Int) = true → upTo s (k + 1)) := hyes
      clear hno hyes hu
      by_cases hk0 : k = 0
      · subst hk0
        rcases (show ((s[0].toNat : Int) < 48) ∨ (48 ≤ (s[0].toNat : Int) ∧ (s[0].toNat : Int) ≤ 57) ∨ (57 < (s[0].toNat : Int) ∧ (s[0].toNat : Int) < 95) ∨ (95 ≤ (s[0].toNat : Int) ∧ (s[0].toNat : Int) ≤ 95) ∨ (95 < (s[0].toNat : Int) ∧ (s[0].toNat : Int) < 97) ∨ (97 ≤ (s[0].toNat : Int) ∧ (s[0].toNat : Int) ≤ 122) ∨ 122 < (s[0].toNat : Int) from by omega) with hc | hc | hc | hc | hc | hc | hc
        all_goals
          (first | have a0 : (97 : Int) ≤ (s[0].toNat : Int) := by omega | have a0 : ¬ (97 : Int) ≤ (s[0].toNat : Int) := by omega)
          (first | have a1 : (s[0].toNat : Int) ≤ 122 := by omega | have a1 : ¬ (s[0].toNat : Int) ≤ 122 := by omega)
          (first | have a2 : (48 : Int) ≤ (s[0].toNat : Int) := by omega | have a2 : ¬ (48 : Int) ≤ (s[0].toNat : Int) := by omega)
          (first | have a3 : (s[0].toNat : Int) ≤ 57 := by omega | have a3 : ¬ (s[0].toNat : Int) ≤ 57 := by omega)
          (first | have a5 : ((s[0].toNat : Int) != 95) = true := by simp; omega | have a5 : ((s[0].toNat : Int) != 95) = false := by simp; omega)
          (first | have a6 : ((s[0].toNat : Int) == 95) = true := by simp; omega | have a6 : ((s[0].toNat : Int) == 95) = false := by simp; omega)
          go_wp2
          first
            | (go_ret; exact ⟨ret_bool (HN.out (by unfold okAt; simp; omega)).symm, rfl⟩)
            | (go_round
               case rel => exact ⟨1, by omega, by go_num, HY.out (by unfold okAt; simp; omega)⟩
               case measure => simp [intOf]; omega)
      · rcases (show ((s[k].toNat : Int) < 48) ∨ (48 ≤ (s[k].toNat : Int) ∧ (s[k].toNat : Int) ≤ 57) ∨ (57 < (s[k].toNat : Int) ∧ (s[k].toNat : Int) < 95) ∨ (95 ≤ (s[k].toNat : Int) ∧ (s[k].toNat : Int) ≤ 95) ∨ (95 < (s[k].toNat : Int) ∧ (s[k].toNat : Int) < 97) ∨ (97 ≤ (s[k].toNat : Int) ∧ (s[k].toNat : Int) ≤ 122) ∨ 122 < (s[k].toNat : Int) from by omega) with hc | hc | hc | hc | hc | hc | hc
        all_goals
          (first | have a0 : (97 : Int) ≤ (s[k].toNat : Int) := by omega | have a0 : ¬ (97 : Int) ≤ (s[k].toNat : Int) := by omega)
          (first | have a1 : (s[k].toNat : Int) ≤ 122 := by omega | have a1 : ¬ (s[k].toNat : Int) ≤ 122 := by omega)
          (first | have a2 : (48 : Int) ≤ (s[k].toNat : Int) := by omega | have a2 : ¬ (48 : Int) ≤ (s[k].toNat : Int) := by omega)
          (first | have a3 : (s[k].toNat : Int) ≤ 57 := by omega | have a3 : ¬ (s[k].toNat : Int) ≤ 57 := by omega)
          (first | have a5 : ((s[k].toNat : Int) != 95) = true := by simp; omega | have a5 : ((s[k].toNat : Int) != 95) = false := by simp; omega)
          (first | have a6 : ((s[k].toNat : Int) == 95) = true := by simp; omega | have a6 : ((s[k].toNat : Int) == 95) = false := by simp; omega)
          have a7 : ((k : Int) == 0) = false := by simp; omega
          go_wp2
          first
            | (go_ret; exact ⟨ret_bool (HN.out (by unfold okAt; simp; omega)).symm, rfl⟩)
            | (go_round
               case rel => exact ⟨k + 1, by omega, by go_num, HY.out (by unfold okAt; simp; omega)⟩
               case measure => simp [intOf]; omega)
    · go_wp2
      go_ret
      have : k = s.size := by omega
      subst this
      exact ⟨ret_bool (name_yes (by omega) (by omega) hu).symm, rfl⟩

set_option maxHeartbeats 2000000 in
theorem impl_any (s : ByteArray) (w : World) (hs : s.size ≤ 1048576) :
    Calls Tryz.prog 30 #[.string s] w fun e w' => e = .returned (.bool (nameB s)) ∧ w' = w := by
  by_cases h1 : s.size < 1
  · have hn := name_size (s := s) (.inl h1)
    rw [hn]
    go_enter Tryz.func30, Tryz.ntmps30
    go_wp2
    go_ret
    exact ⟨rfl, rfl⟩
  by_cases h2 : 20 < s.size
  · have hn := name_size (s := s) (.inr h2)
    rw [hn]
    go_enter Tryz.func30, Tryz.ntmps30
    go_wp2
    go_ret
    exact ⟨rfl, rfl⟩
  go_enter Tryz.func30, Tryz.ntmps30
  go_wp2
  go_loop [3, 4, 5] (fun i _ _ => ∃ k : Nat, k ≤ s.size ∧ i = .int .i64 k ∧ upTo s k) (fun i _ _ => s.size - (intOf i).toNat)
  case atStart => exact ⟨0, Nat.zero_le _, rfl, upTo_zero s⟩
  case round =>
    obtain ⟨k, hk, rfl, hu⟩ := hrel
    by_cases hlt : k < s.size
    · have hno := name_no (s := s) hlt
      have hyes := upTo_succ hu hlt
      have HN : Hid (okAt k (s[k].toNat : Int) = false → nameB s = false) := hno
      have HY : Hid (okAt k (s[k].toNat : Int) = true → upTo s (k + 1)) := hyes
      clear hno hyes hu
      by_cases hk0 : k = 0
      · subst hk0
        rcases (show ((s[0].toNat : Int) < 48) ∨ (48 ≤ (s[0].toNat : Int) ∧ (s[0].toNat : Int) ≤ 57) ∨ (57 < (s[0].toNat : Int) ∧ (s[0].toNat : Int) < 95) ∨ (95 ≤ (s[0].toNat : Int) ∧ (s[0].toNat : Int) ≤ 95) ∨ (95 < (s[0].toNat : Int) ∧ (s[0].toNat : Int) < 97) ∨ (97 ≤ (s[0].toNat : Int) ∧ (s[0].toNat : Int) ≤ 122) ∨ 122 < (s[0].toNat : Int) from by omega) with hc | hc | hc | hc | hc | hc | hc
        all_goals
          (first | have a0 : (97 : Int) ≤ (s[0].toNat : Int) := by omega | have a0 : ¬ (97 : Int) ≤ (s[0].toNat : Int) := by omega)
          (first | have a1 : (s[0].toNat : Int) ≤ 122 := by omega | have a1 : ¬ (s[0].toNat : Int) ≤ 122 := by omega)
          (first | have a2 : (48 : Int) ≤ (s[0].toNat : Int) := by omega | have a2 : ¬ (48 : Int) ≤ (s[0].toNat : Int) := by omega)
          (first | have a3 : (s[0].toNat : Int) ≤ 57 := by omega | have a3 : ¬ (s[0].toNat : Int) ≤ 57 := by omega)
          (first | have a5 : ((s[0].toNat : Int) != 95) = true := by simp; omega | have a5 : ((s[0].toNat : Int) != 95) = false := by simp; omega)
          (first | have a6 : ((s[0].toNat : Int) == 95) = true := by simp; omega | have a6 : ((s[0].toNat : Int) == 95) = false := by simp; omega)
          go_wp2
          first
            | (go_ret; exact ⟨ret_bool (HN.out (by unfold okAt; simp; omega)).symm, rfl⟩)
            | (go_round
               case rel => exact ⟨1, by omega, by go_num, HY.out (by unfold okAt; simp; omega)⟩
               case measure => simp [intOf]; omega)
      · rcases (show ((s[k].toNat : Int) < 48) ∨ (48 ≤ (s[k].toNat : Int) ∧ (s[k].toNat : Int) ≤ 57) ∨ (57 < (s[k].toNat : Int) ∧ (s[k].toNat : Int) < 95) ∨ (95 ≤ (s[k].toNat : Int) ∧ (s[k].toNat : Int) ≤ 95) ∨ (95 < (s[k].toNat : Int) ∧ (s[k].toNat : Int) < 97) ∨ (97 ≤ (s[k].toNat : Int) ∧ (s[k].toNat : Int) ≤ 122) ∨ 122 < (s[k].toNat : Int) from by omega) with hc | hc | hc | hc | hc | hc | hc
        all_goals
          (first | have a0 : (97 : Int) ≤ (s[k].toNat : Int) := by omega | have a0 : ¬ (97 : Int) ≤ (s[k].toNat : Int) := by omega)
          (first | have a1 : (s[k].toNat : Int) ≤ 122 := by omega | have a1 : ¬ (s[k].toNat : Int) ≤ 122 := by omega)
          (first | have a2 : (48 : Int) ≤ (s[k].toNat : Int) := by omega | have a2 : ¬ (48 : Int) ≤ (s[k].toNat : Int) := by omega)
          (first | have a3 : (s[k].toNat : Int) ≤ 57 := by omega | have a3 : ¬ (s[k].toNat : Int) ≤ 57 := by omega)
          (first | have a5 : ((s[k].toNat : Int) != 95) = true := by simp; omega | have a5 : ((s[k].toNat : Int) != 95) = false := by simp; omega)
          (first | have a6 : ((s[k].toNat : Int) == 95) = true := by simp; omega | have a6 : ((s[k].toNat : Int) == 95) = false := by simp; omega)
          have a7 : ((k : Int) == 0) = false := by simp; omega
          go_wp2
          first
            | (go_ret; exact ⟨ret_bool (HN.out (by unfold okAt; simp; omega)).symm, rfl⟩)
            | (go_round
               case rel => exact ⟨k + 1, by omega, by go_num, HY.out (by unfold okAt; simp; omega)⟩
               case measure => simp [intOf]; omega)
    · go_wp2
      go_ret
      have : k = s.size := by omega
      subst this
      exact ⟨ret_bool (name_yes (by omega) (by omega) hu).symm, rfl⟩
end NameR
end Go.Proofs.YtlfebpgohpmknaaGreatDoor
namespace Go.Proofs.YtlfebpgohpmknaaGreatDoor
open Go.RowKit
namespace LtR
open Op (bytesLess)
theorem bl_irrefl : ∀ x : List UInt8, bytesLess x x = false
  | [] => rfl
  | a :: x => by
    rw [bytesLess, bl_irrefl x]
    simp
theorem bl_trans : ∀ {x y z : List UInt8}, bytesLess x y = true → bytesLess y z = true → bytesLess x z = true
  | _, [], _, h, _ => by simp [bytesLess] at h
  | _, _ :: _, [], _, h => by simp [bytesLess] at h
  | [], _ :: _, _ :: _, _, _ => rfl
  | a :: x, b :: y, c :: z, h1, h2 => by
    rw [bytesLess] at *
    simp only [Bool.or_eq_true, Bool.and_eq_true, decide_eq_true_eq, beq_iff_eq] at *
    rcases h1 with h1 | ⟨rfl, h1⟩
    · rcases h2 with h2 | ⟨rfl, h2⟩
      · exact .inl (UInt8.lt_trans h1 h2)
      · exact .inl h1
    · rcases h2 with h2 | ⟨rfl, h2⟩
      · exact .inl h2
      · exact .inr ⟨rfl, bl_trans h1 h2⟩
theorem bl_total : ∀ {x y : List UInt8}, bytesLess x y = false → bytesLess y x = false → x = y
  | [], [], _, _ => rfl
  | [], _ :: _, h, _ => by simp [bytesLess] at h
  | _ :: _, [], _, h => by simp [bytesLess] at h
  | a :: x, b :: y, h1, h2 => by
    rw [bytesLess] at *
    simp only [Bool.or_eq_false_iff, Bool.and_eq_false_iff, decide_eq_false_iff_not, beq_eq_false_iff_ne] at *
    have e : a = b := by
      have p1 := h1.1
      have p2 := h2.1
      rw [UInt8.lt_iff_toNat_lt] at p1 p2
      exact UInt8.toNat.inj (by omega)
    subst e
    rw [bl_total (h1.2.resolve_left (fun h => h rfl)) (h2.2.resolve_left (fun h => h rfl))]
/-- One text is ahead of another. -/
def lt (a b : ByteArray) : Bool := bytesLess a.toList b.toList
theorem toList_inj {a b : ByteArray} (h : a.toList = b.toList) : a = b := by
  rw [ByteArray.toList_eq, ByteArray.toList_eq] at h
  exact ByteArray.ext (Array.ext' h)
theorem lt_irrefl (a : ByteArray) : lt a a = false := bl_irrefl _
theorem lt_trans {a b c : ByteArray} (h1 : lt a b = true) (h2 : lt b c = true) : lt a c = true := bl_trans h1 h2
theorem lt_total {a b : ByteArray} (h1 : lt a b = false) (h2 : lt b a = false) : a = b := toList_inj (bl_total h1 h2)
theorem lt_asymm {a b : ByteArray} (h : lt a b = true) : lt b a = false := by
  cases h2 : lt b a
  · rfl
  · have := lt_trans h h2
    rw [lt_irrefl] at this
    cases this
theorem lt_empty {b : ByteArray} (h : 1 ≤ b.size) : lt ⟨#[]⟩ b = true := by
  unfold lt
  have h1 : (⟨#[]⟩ : ByteArray).toList = [] := by rw [ByteArray.toList_eq]
  rw [h1]
  cases hb : b.toList with
  | nil =>
    rw [ByteArray.toList_eq] at hb
    have : b.data.toList.length = 0 := by rw [hb]; rfl
    have h2 : b.data.toList.length = b.size := rfl
    omega
  | cons x l => rfl
end LtR
end Go.Proofs.YtlfebpgohpmknaaGreatDoor
namespace Go.Proofs.YtlfebpgohpmknaaGreatDoor
open Go.ChangeShapes Go.WideShapes Go.ChangeAt Go.RowKit
set_option linter.unusedVariables false
namespace LinR
open RowG LtR
open NameR (nameB)
/-- May this be a number, may this be a line? -/
def nOk (n : Int) : Bool := decide (-1000000000000000 ≤ n ∧ n ≤ 1000000000000000)
def lOk (x : N) : Bool := nameB x.i && (nOk x.n && decide (x.n ≠ 0))
/-- The Meter ahead, none ahead of the first. -/
def ahd (es : List N) : Nat → ByteArray
  | 0 => ⟨#[]⟩
  | k + 1 => (es.getD k N.zero).i
def SOk (es : List N) (k : Nat) : Prop := ∀ i, i < k → lt (ahd es i) (es.getD i N.zero).i = true ∧ lOk (es.getD i N.zero) = true
def SRight (es : List N) : Prop := es.length ≤ 6 ∧ SOk es es.length
def SOkDec (es : List N) (k : Nat) : Decidable (SOk es k) := inferInstanceAs (Decidable (∀ i, i < k → lt (ahd es i) (es.getD i N.zero).i = true ∧ lOk (es.getD i N.zero) = true))
def SRightDec (es : List N) : Decidable (SRight es) :=
  haveI := SOkDec es es.length
  inferInstanceAs (Decidable (es.length ≤ 6 ∧ SOk es es.length))
/-- Are these right lines? -/
def sB (es : List N) : Bool := @decide (SRight es) (SRightDec es)
theorem sB_no {es : List N} (h : ¬ SRight es) : sB es = false := by unfold sB; exact @decide_eq_false _ (SRightDec es) h
theorem sB_yes {es : List N} (h : SRight es) : sB es = true := by unfold sB; exact @decide_eq_true _ (SRightDec es) h
theorem sB_iff {es : List N} : sB es = true ↔ SRight es := by unfold sB; exact @decide_eq_true_iff _ (SRightDec es)
theorem SOk.zero (es : List N) : SOk es 0 := fun i h => absurd h (by omega)
theorem SOk.more {es : List N} {k : Nat} (h : SOk es k) (h1 : lt (ahd es k) (es.getD k N.zero).i = true) (h2 : lOk (es.getD k N.zero) = true) : SOk es (k + 1) := by
  intro i hi
  by_cases e : i = k
  · subst e; exact ⟨h1, h2⟩
  · exact h i (by omega)
theorem sB_false {es : List N} {k : Nat} (hk : k < es.length) (h : ¬ (lt (ahd es k) (es.getD k N.zero).i = true ∧ lOk (es.getD k N.zero) = true)) : sB es = false := sB_no (fun hr => h (hr.2 k hk))
theorem sB_long {es : List N} (h : 6 < es.length) : sB es = false := sB_no (fun hr => by have := hr.1; omega)
theorem name_pos {s : ByteArray} (h : nameB s = true) : 1 ≤ s.size := by
  unfold nameB at h
  simp at h
  exact h.1
theorem three (b1 b2 b3 : Bool) : (b1 = false) ∨ (b1 = true ∧ b2 = false) ∨ (b1 = true ∧ b2 = true ∧ b3 = false) ∨ (b1 = true ∧ b2 = true ∧ b3 = true) := by
  cases b1 <;> cases b2 <;> cases b3 <;> simp
theorem num_cases (n : Int) : (¬ -1000000000000000 ≤ n ∧ nOk n = false) ∨ (-1000000000000000 ≤ n ∧ ¬ n ≤ 1000000000000000 ∧ nOk n = false) ∨ (-1000000000000000 ≤ n ∧ n ≤ 1000000000000000 ∧ nOk n = true) := by
  unfold nOk
  rcases (show (¬ -1000000000000000 ≤ n) ∨ (-1000000000000000 ≤ n ∧ ¬ n ≤ 1000000000000000) ∨ (-1000000000000000 ≤ n ∧ n ≤ 1000000000000000) by omega) with h | ⟨h, h2⟩ | ⟨h, h2⟩
  · exact .inl ⟨h, decide_eq_false (fun q => h q.1)⟩
  · exact .inr (.inl ⟨h, h2, decide_eq_false (fun q => h2 q.2)⟩)
  · exact .inr (.inr ⟨h, h2, decide_eq_true ⟨h, h2⟩⟩)
theorem inum (n : Int) (w : World) : Calls Tryz.prog 60 #[.int .i64 n] w fun e w' => e = .returned (.bool (nOk n)) ∧ w' = w := by
  rcases num_cases n with ⟨h1, h2⟩ | ⟨h1, h3, h2⟩ | ⟨h1, h3, h2⟩
  all_goals
    rw [h2]
    clear h2
    go_enter Tryz.func60, Tryz.ntmps60
    go_wp2_with (go_at_call 49; go_in)
    go_ret
    exact ⟨rfl, rfl⟩
theorem snum (n : Int) (w : World) : Calls Tryz.prog 54 #[.int .i64 n] w fun e w' => e = .returned (.bool (nOk n)) ∧ w' = w := by
  rcases num_cases n with ⟨h1, h2⟩ | ⟨h1, h3, h2⟩ | ⟨h1, h3, h2⟩
  all_goals
    rw [h2]
    clear h2
    go_enter Tryz.func54, Tryz.ntmps54
    go_wp2_with (go_at_call 50; go_in)
    go_ret
    exact ⟨rfl, rfl⟩
theorem bdrewN {B : Nat} {a w : World} (h : Below B a w) (n : Nat) : Below B a (w.drewN n) := ⟨h.os, h.tape, h.output, h.size, h.block⟩
theorem le_ge1 {x a : ByteArray} (h : Op.bytesLess x.toList a.toList = true) : Op.bytesLess a.toList x.toList = false := lt_asymm h
/-- One text against another, as the walk asks it. -/
theorem le_cases (x a : ByteArray) : (Op.bytesLess x.toList a.toList = true ∧ lt a x = false) ∨ (Op.bytesLess x.toList a.toList = false ∧ x.toList = a.toList ∧ (x.toList == a.toList) = true ∧ lt a x = false) ∨ (Op.bytesLess x.toList a.toList = false ∧ x.toList ≠ a.toList ∧ (x.toList == a.toList) = false ∧ lt a x = true) := by
  cases h : lt x a
  · by_cases e : x = a
    · subst e; exact .inr (.inl ⟨h, rfl, by simp, h⟩)
    · have ne : x.toList ≠ a.toList := fun q => e (toList_inj q)
      refine .inr (.inr ⟨h, ne, by simpa using ne, ?_⟩)
      cases h2 : lt a x
      · exact absurd (lt_total h h2) e
      · rfl
  · exact .inl ⟨h, lt_asymm h⟩
/-- A number is none, or it is one. -/
theorem nil_cases (n : Int) : ((n == 0) = true ∧ decide (n ≠ 0) = false) ∨ ((n == 0) = false ∧ decide (n ≠ 0) = true) := by
  by_cases h : n = 0
  · exact .inl ⟨by simpa using h, by simpa using h⟩
  · exact .inr ⟨by simpa using h, by simpa using h⟩
set_option maxRecDepth 100000 in
set_option maxHeartbeats 4000000 in
theorem impl_lines (ao : Option Addr) (cap : Nat) (es : List N) (w : World) (hlen : es.length ≤ 1048576) (hS : ∀ e ∈ es, e.i.size ≤ 1048576) (hI : Lis ao es w) :
    Calls Tryz.prog 32 #[.slice ao es.length cap] w fun e w' => e = .returned (.bool (sB es)) ∧ Below w.heap.size w w' := by
  by_cases h40 : 6 < es.length
  · have HR := hid_intro (sB_long h40)
    obtain ⟨len, hl⟩ : ∃ len, len = es.length := ⟨_, rfl⟩
    rw [← hl] at hlen h40 ⊢
    have h40' : (6 : Int) < (len : Int) := by omega
    clear hI hS hl
    go_enter Tryz.func32, Tryz.ntmps32
    go_wp2_with fail
    go_ret
    exact ⟨ret_bool HR.out.symm, Below.refl _ _⟩
  · have HT0 := hid_intro (fun k (hk : k < es.length) => sB_false (es := es) hk)
    have HTE := hid_intro (fun h => sB_yes (es := es) ⟨by omega, h⟩)
    have HI := hid_intro hI
    have HS := hid_intro hS
    obtain ⟨len, hl⟩ : ∃ len, len = es.length := ⟨_, rfl⟩
    rw [← hl] at hlen h40 ⊢
    have HL := hid_intro hl
    have h40' : ¬ (6 : Int) < (len : Int) := by omega
    clear hI hS hl
    generalize sB es = R at *
    go_enter Tryz.func32, Tryz.ntmps32
    go_wp2_with fail
    go_loopw [3, 11] (fun x z wr => ∃ k : Nat, k ≤ len ∧ x = .string (ahd es k) ∧ z = .int .i64 k ∧ Hid (SOk es k) ∧ Hid (Below w.heap.size w wr)) (fun x z _ => len - (intOf z).toNat)
    case atStart => exact ⟨0, by omega, rfl, rfl, hid_intro (SOk.zero es), hid_intro (Below.refl _ _)⟩
    case round =>
      obtain ⟨k, hk, rfl, rfl, HK, HB⟩ := hrel
      by_cases hlt : k < len
      · have hlt2 : (k : Int) < (len : Int) := by omega
        obtain ⟨b, off, rfl, hbl, c0, c1⟩ := (HI.out.below HB.out).at k (by have := HL.out; omega)
        have hsz := HS.out _ (getD_mem (z := N.zero) es k (by have := HL.out; omega))
        have HM := hid_intro (fun h1 h2 => HK.out.more (k := k) h1 h2)
        have HF := hid_intro (HT0.out k (by have := HL.out; omega))
        have HA : Hid (ahd es (k + 1) = (es.getD k N.zero).i) := rfl
        generalize ahd es k = a at *
        generalize es.getD k N.zero = X at *
        obtain ⟨xi, xn⟩ := X
        have HA : Hid (ahd es (k + 1) = xi) := HA
        have H1 := hid_intro (fun w => NameR.impl_any xi w hsz)
        have H2 := hid_intro (fun w => inum xn w)
        have HE : Hid (lOk ⟨xi, xn⟩ = (nameB xi && (nOk xn && decide (xn ≠ 0)))) := rfl
        dsimp only at HM HF c0 c1
        generalize lOk ⟨xi, xn⟩ = r at *
        have HAl := hid_intro (fun o => HB.out.alloc HB.out.size o)
        rcases le_cases xi a with ⟨q1, q2⟩ | ⟨q1, q3, q4, q2⟩ | ⟨q1, q3, q4, q2⟩
        · have HR : Hid (R = false) := hid_intro (HF.out (fun h => by rw [q2] at h; exact absurd h.1 (by simp)))
          clear HM HF q2
          go_wp2_with fail
          go_ret
          exact ⟨ret_bool HR.out.symm, HAl.out _⟩
        · have HR : Hid (R = false) := hid_intro (HF.out (fun h => by rw [q2] at h; exact absurd h.1 (by simp)))
          clear HM HF q2
          go_wp2_with fail
          go_ret
          exact ⟨ret_bool HR.out.symm, HAl.out _⟩
        · generalize nameB xi = b1 at *
          generalize nOk xn = b2 at *
          have hz := nil_cases xn
          generalize decide (xn ≠ 0) = b3 at *
          cases b1
          · have HR : Hid (R = false) := hid_intro (HF.out (fun h => by rw [HE.out] at h; exact absurd h.2 (by simp)))
            clear HM HF q2 HE hz
            go_wp2_with (go_at_call 30; refine (H1.out _).mono ?_; rintro e w1 ⟨rfl, rfl⟩)
            go_ret
            exact ⟨ret_bool HR.out.symm, HAl.out _⟩
          rcases hz with ⟨hz, rfl⟩ | ⟨hz, rfl⟩
          · have HR : Hid (R = false) := hid_intro (HF.out (fun h => by rw [HE.out] at h; exact absurd h.2 (by simp)))
            clear HM HF q2 HE
            go_wp2_with (go_at_call 30; refine (H1.out _).mono ?_; rintro e w1 ⟨rfl, rfl⟩)
            go_ret
            exact ⟨ret_bool HR.out.symm, HAl.out _⟩
          cases b2
          · have HR : Hid (R = false) := hid_intro (HF.out (fun h => by rw [HE.out] at h; exact absurd h.2 (by simp)))
            clear HM HF q2 HE
            go_wp2_with (first | (go_at_call 30; refine (H1.out _).mono ?_; rintro e w1 ⟨rfl, rfl⟩) | (go_at_call 60; refine (H2.out _).mono ?_; rintro e w1 ⟨rfl, rfl⟩))
            go_ret
            exact ⟨ret_bool HR.out.symm, HAl.out _⟩
          · replace HM := hid_intro (HM.out q2 (by rw [HE.out]; rfl))
            clear HF q2 HE
            go_wp2_with (first | (go_at_call 30; refine (H1.out _).mono ?_; rintro e w1 ⟨rfl, rfl⟩) | (go_at_call 60; refine (H2.out _).mono ?_; rintro e w1 ⟨rfl, rfl⟩))
            go_roundw
            case rel => exact ⟨k + 1, by omega, by rw [HA.out], by go_num, HM, hid_intro (HAl.out _)⟩
            case measure => simp [intOf]; omega
      · have hlt2 : ¬ (k : Int) < (len : Int) := by omega
        obtain rfl : k = len := by omega
        have HR : Hid (R = true) := hid_intro (HTE.out (by rw [← HL.out]; exact HK.out))
        go_wp2_with fail
        go_ret
        exact ⟨ret_bool HR.out.symm, HB.out⟩
set_option maxRecDepth 100000 in
set_option maxHeartbeats 4000000 in
theorem spec_lines (ao : Option Addr) (cap : Nat) (es : List N) (w : World) (hlen : es.length ≤ 1048576) (hS : ∀ e ∈ es, e.i.size ≤ 1048576) (hI : Lis ao es w) :
    Calls Tryz.prog 22 #[.slice ao es.length cap] w fun e w' => e = .returned (.bool (sB es)) ∧ Below w.heap.size w w' := by
  have HT0 := hid_intro (fun k (hk : k < es.length) => sB_false (es := es) hk)
  have HTE : Hid (SOk es es.length → sB es = decide (es.length ≤ 6)) := hid_intro (fun h => by
    by_cases e : es.length ≤ 6
    · rw [decide_eq_true e]; exact sB_yes ⟨e, h⟩
    · rw [decide_eq_false e]; exact sB_no (fun hr => e hr.1))
  have HI := hid_intro hI
  have HS := hid_intro hS
  obtain ⟨len, hl⟩ : ∃ len, len = es.length := ⟨_, rfl⟩
  rw [← hl] at hlen ⊢
  have HL := hid_intro hl
  clear hI hS hl
  generalize sB es = R at *
  go_enter Tryz.func22, Tryz.ntmps22
  go_wp2_with fail
  go_loopw [3] (fun z wr => ∃ k : Nat, k ≤ len ∧ z = .int .i64 k ∧ Hid (SOk es k) ∧ Hid (Below w.heap.size w wr)) (fun z _ => len - (intOf z).toNat)
  case atStart => exact ⟨0, by omega, rfl, hid_intro (SOk.zero es), hid_intro (Below.refl _ _)⟩
  case round =>
    obtain ⟨k, hk, rfl, HK, HB⟩ := hrel
    by_cases hlt : k < len
    · have hlt2 : (k : Int) < (len : Int) := by omega
      obtain ⟨b, off, rfl, hbl, c0, c1⟩ := (HI.out.below HB.out).at k (by have := HL.out; omega)
      have hsz := HS.out _ (getD_mem (z := N.zero) es k (by have := HL.out; omega))
      have HM := hid_intro (fun h1 h2 => HK.out.more (k := k) h1 h2)
      have HF := hid_intro (HT0.out k (by have := HL.out; omega))
      rcases (show k = 0 ∨ ∃ j, k = j + 1 from by rcases k with _ | j; exact .inl rfl; exact .inr ⟨j, rfl⟩) with rfl | ⟨j, hkj⟩
      · have HA : Hid (ahd es 0 = ⟨#[]⟩) := rfl
        simp only [Nat.zero_mul, Nat.add_zero] at c0 c1
        generalize ahd es 0 = a at *
        generalize es.getD 0 N.zero = X at *
        obtain ⟨xi, xn⟩ := X
        have H1 := hid_intro (fun w => NameR.spec_any xi w hsz)
        have H2 := hid_intro (fun w => snum xn w)
        have HP := hid_intro (name_pos (s := xi))
        have HE : Hid (lOk ⟨xi, xn⟩ = (nameB xi && (nOk xn && decide (xn ≠ 0)))) := rfl
        dsimp only at HM HF c0 c1 hsz
        generalize lOk ⟨xi, xn⟩ = r at *
        generalize nameB xi = b1 at *
        generalize nOk xn = b2 at *
        have hz := nil_cases xn
        generalize decide (xn ≠ 0) = b3 at *
        cases b1
        · clear hz
          have HR : Hid (R = false) := hid_intro (HF.out (fun h => by rw [HE.out] at h; exact absurd h.2 (by simp)))
          clear HM HF HP HE
          go_wp2_with fail
          go_quiet ((first | (go_at_call 39; exact Calls.quiet_of_same (H1.out _)) | (go_at_call 54; exact Calls.quiet_of_same (H2.out _))))
          go_wp2_with fail
          go_ret
          exact ⟨ret_bool HR.out.symm, bdrewN HB.out _⟩
        cases b2
        · clear hz
          have HR : Hid (R = false) := hid_intro (HF.out (fun h => by rw [HE.out] at h; exact absurd h.2 (by simp)))
          clear HM HF HP HE
          go_wp2_with fail
          go_quiet ((first | (go_at_call 39; exact Calls.quiet_of_same (H1.out _)) | (go_at_call 54; exact Calls.quiet_of_same (H2.out _))))
          go_wp2_with fail
          go_ret
          exact ⟨ret_bool HR.out.symm, bdrewN HB.out _⟩
        rcases hz with ⟨hz, rfl⟩ | ⟨hz, rfl⟩
        · skip
          have HR : Hid (R = false) := hid_intro (HF.out (fun h => by rw [HE.out] at h; exact absurd h.2 (by simp)))
          clear HM HF HP HE
          go_wp2_with fail
          go_quiet ((first | (go_at_call 39; exact Calls.quiet_of_same (H1.out _)) | (go_at_call 54; exact Calls.quiet_of_same (H2.out _))))
          go_wp2_with fail
          go_ret
          exact ⟨ret_bool HR.out.symm, bdrewN HB.out _⟩
        · skip
          have HM2 := hid_intro (HM.out (by rw [HA.out]; exact lt_empty (HP.out rfl)) (by rw [HE.out]; rfl))
          clear HM HF HP HE
          go_wp2_with fail
          go_quiet ((first | (go_at_call 39; exact Calls.quiet_of_same (H1.out _)) | (go_at_call 54; exact Calls.quiet_of_same (H2.out _))))
          go_wp2_with fail
          go_roundw
          case rel => exact ⟨0 + 1, by omega, by go_num, HM2, hid_intro (bdrewN HB.out _)⟩
          case measure => simp [intOf]; omega
      · obtain ⟨b', off', hbo, hbl', d0, d1⟩ := (HI.out.below HB.out).at j (by have := HL.out; omega)
        obtain ⟨rfl, rfl⟩ : b = b' ∧ off = off' := by simpa using hbo
        have HA : Hid (ahd es k = (es.getD j N.zero).i) := hid_intro (by rw [hkj]; rfl)
        generalize es.getD j N.zero = Y at *
        obtain ⟨yi, yn⟩ := Y
        have HA : Hid (ahd es k = yi) := HA
        clear d1 hbl' hbo
        generalize ahd es k = a at *
        generalize es.getD k N.zero = X at *
        obtain ⟨xi, xn⟩ := X
        have H1 := hid_intro (fun w => NameR.spec_any xi w hsz)
        have H2 := hid_intro (fun w => snum xn w)
        have HE : Hid (lOk ⟨xi, xn⟩ = (nameB xi && (nOk xn && decide (xn ≠ 0)))) := rfl
        dsimp only at HM HF c0 c1 d0 hsz
        generalize lOk ⟨xi, xn⟩ = r at *
        generalize nameB xi = b1 at *
        generalize nOk xn = b2 at *
        have hz := nil_cases xn
        generalize decide (xn ≠ 0) = b3 at *
        have hj1 : IntKind.i64.wrap ((k : Int) - 1) = (j : Int) := by rw [IntKind.wrap_i64]; omega
        have hj2 : 0 < k := by omega
        have hj3 : (j : Int) < (len : Int) := by omega
        clear hkj
        cases b1
        · clear hz
          have HR : Hid (R = false) := hid_intro (HF.out (fun h => by rw [HE.out] at h; exact absurd h.2 (by simp)))
          clear HM HF HE
          go_wp2_with fail
          go_quiet ((first | (go_at_call 39; exact Calls.quiet_of_same (H1.out _)) | (go_at_call 54; exact Calls.quiet_of_same (H2.out _))))
          go_wp2_with fail
          go_ret
          exact ⟨ret_bool HR.out.symm, bdrewN HB.out _⟩
        rcases le_cases xi yi with ⟨q1, q2⟩ | ⟨q1, q3, q4, q2⟩ | ⟨q1, q3, q4, q2⟩
        · clear hz
          have HR : Hid (R = false) := hid_intro (HF.out (fun h => by rw [HA.out, q2] at h; exact absurd h.1 (by simp)))
          have q5 := le_ge1 q1
          clear HM HF HE q2
          go_wp2_with fail
          go_quiet ((first | (go_at_call 39; exact Calls.quiet_of_same (H1.out _)) | (go_at_call 54; exact Calls.quiet_of_same (H2.out _))))
          go_wp2_with fail
          go_ret
          exact ⟨ret_bool HR.out.symm, bdrewN HB.out _⟩
        · clear hz
          have HR : Hid (R = false) := hid_intro (HF.out (fun h => by rw [HA.out, q2] at h; exact absurd h.1 (by simp)))
          obtain rfl := toList_inj q3
          have q5 : Op.bytesLess xi.toList xi.toList = false := q1
          clear HM HF HE q2 q3 q4
          go_wp2_with fail
          go_quiet ((first | (go_at_call 39; exact Calls.quiet_of_same (H1.out _)) | (go_at_call 54; exact Calls.quiet_of_same (H2.out _))))
          go_wp2_with fail
          go_ret
          exact ⟨ret_bool HR.out.symm, bdrewN HB.out _⟩
        have q5 : Op.bytesLess yi.toList xi.toList = true := q2
        cases b2
        · clear hz
          have HR : Hid (R = false) := hid_intro (HF.out (fun h => by rw [HE.out] at h; exact absurd h.2 (by simp)))
          clear HM HF HE q2
          go_wp2_with fail
          go_quiet ((first | (go_at_call 39; exact Calls.quiet_of_same (H1.out _)) | (go_at_call 54; exact Calls.quiet_of_same (H2.out _))))
          go_wp2_with fail
          go_ret
          exact ⟨ret_bool HR.out.symm, bdrewN HB.out _⟩
        rcases hz with ⟨hz, rfl⟩ | ⟨hz, rfl⟩
        · skip
          have HR : Hid (R = false) := hid_intro (HF.out (fun h => by rw [HE.out] at h; exact absurd h.2 (by simp)))
          clear HM HF HE q2
          go_wp2_with fail
          go_quiet ((first | (go_at_call 39; exact Calls.quiet_of_same (H1.out _)) | (go_at_call 54; exact Calls.quiet_of_same (H2.out _))))
          go_wp2_with fail
          go_ret
          exact ⟨ret_bool HR.out.symm, bdrewN HB.out _⟩
        · skip
          have HM2 := hid_intro (HM.out (by rw [HA.out]; exact q2) (by rw [HE.out]; rfl))
          clear HM HF HE q2
          go_wp2_with fail
          go_quiet ((first | (go_at_call 39; exact Calls.quiet_of_same (H1.out _)) | (go_at_call 54; exact Calls.quiet_of_same (H2.out _))))
          go_wp2_with fail
          go_roundw
          case rel => exact ⟨k + 1, by omega, by go_num, HM2, hid_intro (bdrewN HB.out _)⟩
          case measure => simp [intOf]; omega
    · have hlt2 : ¬ (k : Int) < (len : Int) := by omega
      obtain rfl : k = len := by omega
      have HR : Hid (R = decide (k ≤ 6)) := hid_intro (by have e := HL.out; have h := HTE.out; rw [← e] at h; exact h HK.out)
      by_cases h40 : k ≤ 6
      · have h40' : (k : Int) ≤ 6 := by omega
        rw [decide_eq_true h40] at HR
        go_wp2_with fail
        go_ret
        exact ⟨ret_bool HR.out.symm, HB.out⟩
      · have h40' : ¬ (k : Int) ≤ 6 := by omega
        rw [decide_eq_false h40] at HR
        go_wp2_with fail
        go_ret
        exact ⟨ret_bool HR.out.symm, HB.out⟩
end LinR
end Go.Proofs.YtlfebpgohpmknaaGreatDoor
namespace Go.Proofs.YtlfebpgohpmknaaGreatDoor
open Go.ChangeShapes Go.WideShapes Go.ChangeAt Go.RowKit
set_option linter.unusedVariables false
namespace NetR
open LinR RowG LtR
section
variable {α : Type} (r : α → α → Bool) (f : α → α → α)
/-- One put in its place. -/
def ins : List α → α → List α
  | [], y => [y]
  | x :: xs, y => if r x y then x :: ins xs y else if r y x then y :: x :: xs else f x y :: xs
end
section
variable {α : Type} {r : α → α → Bool} {f : α → α → α} {z : α}
theorem ins_end : ∀ (xs : List α) (y : α), (∀ j, j < xs.length → r (xs.getD j z) y = true) → ins r f xs y = xs ++ [y]
  | [], y, _ => rfl
  | x :: xs, y, h => by
    have h0 : r x y = true := by simpa using h 0 (by simp)
    rw [ins, if_pos h0, ins_end xs y (fun j hj => by simpa using h (j + 1) (by simpa using hj))]
    rfl
theorem ins_at : ∀ (xs : List α) (y : α) (q : Nat), q < xs.length → (∀ j, j < q → r (xs.getD j z) y = true) → r (xs.getD q z) y = false →
    (r y (xs.getD q z) = true → ins r f xs y = xs.take q ++ y :: xs.drop q) ∧ (r y (xs.getD q z) = false → ins r f xs y = xs.take q ++ f (xs.getD q z) y :: xs.drop (q + 1))
  | [], y, q, hq, _, _ => by simp at hq
  | x :: xs, y, 0, hq, _, h1 => by
    have h2 : r x y = false := by simpa using h1
    constructor
    · intro h3
      have h4 : r y x = true := by simpa using h3
      rw [ins, if_neg (by simp [h2]), if_pos h4]
      rfl
    · intro h3
      have h4 : r y x = false := by simpa using h3
      rw [ins, if_neg (by simp [h2]), if_neg (by simp [h4])]
      simp
  | x :: xs, y, q + 1, hq, h0, h1 => by
    have h2 : r x y = true := by simpa using h0 0 (by omega)
    have ih := ins_at xs y q (by simpa using hq) (fun j hj => by simpa using h0 (j + 1) (by omega)) (by simpa using h1)
    constructor
    · intro h3
      rw [ins, if_pos h2, ih.1 (by simpa using h3)]
      simp
    · intro h3
      rw [ins, if_pos h2, ih.2 (by simpa using h3)]
      simp
theorem ins_len : ∀ (xs : List α) (y : α), (ins r f xs y).length ≤ xs.length + 1
  | [], y => by simp [ins]
  | x :: xs, y => by
    have := ins_len xs y
    rw [ins]
    split
    · simp only [List.length_cons]; omega
    · split <;> simp
theorem ins_all (p : α → Prop) (hf : ∀ x y, p x → p y → p (f x y)) : ∀ (xs : List α) (y : α), (∀ x ∈ xs, p x) → p y → ∀ x ∈ ins r f xs y, p x
  | [], y, _, hy, x, hx => by simp [ins] at hx; rw [hx]; exact hy
  | a :: xs, y, h, hy, x, hx => by
    have h1 := h a (by simp)
    have h2 := ins_all p hf xs y (fun x hx => h x (by simp [hx])) hy
    rw [ins] at hx
    split at hx
    · rcases List.mem_cons.1 hx with rfl | hx
      · exact h1
      · exact h2 x hx
    · split at hx
      · rcases List.mem_cons.1 hx with rfl | hx
        · exact hy
        · exact h x hx
      · rcases List.mem_cons.1 hx with rfl | hx
        · exact hf _ _ h1 hy
        · exact h x (by simp [hx])
end
def nlt (x y : N) : Bool := lt x.i y.i
def addN (x y : N) : N := ⟨x.i, x.n + y.n⟩
/-- One line more. -/
def put (L : List N) (x : N) : List N := ins nlt addN L x
/-- They rise by their Meters. -/
def Rise (L : List N) : Prop := L.Pairwise (fun x y => lt x.i y.i = true)
/-- A line so many times. -/
def sg (s : Int) (x : N) : N := ⟨x.i, s * x.n⟩
/-- Lines so many times added to others. -/
def all (L b : List N) (s : Int) : List N := b.foldl (fun l x => put l (sg s x)) L
theorem all_more (L b : List N) (s : Int) (k : Nat) (h : k < b.length) : all L (b.take (k + 1)) s = put (all L (b.take k) s) (sg s (b.getD k N.zero)) := by
  unfold all
  rw [take_more (z := N.zero) b k h, List.foldl_append]
  rfl
theorem neq_of {x y : N} (h1 : nlt x y = false) (h2 : nlt y x = false) : x.i = y.i := lt_total h1 h2
/-- The number of a Meter. -/
def val : List N → ByteArray → Int
  | [], _ => 0
  | y :: l, n => if y.i = n then y.n else val l n
theorem val_none : ∀ {L : List N} {n : ByteArray}, (∀ y ∈ L, y.i ≠ n) → val L n = 0
  | [], _, _ => rfl
  | y :: l, n, h => by
    rw [val, if_neg (h y (by simp))]
    exact val_none (fun y hy => h y (by simp [hy]))
theorem val_mem : ∀ {L : List N}, Rise L → ∀ y ∈ L, val L y.i = y.n
  | [], _, y, h => by cases h
  | x :: l, hr, y, h => by
    rw [val]
    rcases List.mem_cons.1 h with rfl | h
    · rw [if_pos rfl]
    · have h1 := (List.pairwise_cons.1 hr).1 y h
      have h2 : x.i ≠ y.i := fun e => by rw [e, lt_irrefl] at h1; cases h1
      rw [if_neg h2]
      exact val_mem (List.pairwise_cons.1 hr).2 y h
theorem mem_put : ∀ {L : List N} {x : N} {n : ByteArray}, (∃ y ∈ put L x, y.i = n) ↔ (n = x.i ∨ ∃ y ∈ L, y.i = n)
  | [], x, n => by simp [put, ins]; exact eq_comm
  | a :: l, x, n => by
    have ih := mem_put (L := l) (x := x) (n := n)
    unfold put at *
    rw [ins]
    split
    · simp only [List.mem_cons, exists_eq_or_imp, ih]
      constructor
      · rintro (h | h | h)
        · exact .inr (.inl h)
        · exact .inl h
        · exact .inr (.inr h)
      · rintro (h | h | h)
        · exact .inr (.inl h)
        · exact .inl h
        · exact .inr (.inr h)
    · rename_i h1
      split
      · simp only [List.mem_cons, exists_eq_or_imp]
        constructor
        · rintro (h | h | h)
          · exact .inl h.symm
          · exact .inr (.inl h)
          · exact .inr (.inr h)
        · rintro (h | h | h)
          · exact .inl h.symm
          · exact .inr (.inl h)
          · exact .inr (.inr h)
      · rename_i h2
        have e := neq_of (by simpa using h1) (by simpa using h2)
        simp only [List.mem_cons, exists_eq_or_imp]
        constructor
        · rintro (h | h)
          · exact .inl (by rw [← e]; exact h.symm)
          · exact .inr (.inr h)
        · rintro (h | h | h)
          · exact .inl (by rw [h]; exact e)
          · exact .inl h
          · exact .inr h
theorem rise_put : ∀ {L : List N} (x : N), Rise L → Rise (put L x)
  | [], x, _ => by simp [put, ins, Rise]
  | a :: l, x, hr => by
    have h0 := List.pairwise_cons.1 hr
    have ih := rise_put x h0.2
    have hm := fun n => mem_put (L := l) (x := x) (n := n)
    unfold put Rise at *
    rw [ins]
    split
    · rename_i h1
      refine List.pairwise_cons.2 ⟨fun y hy => ?_, ih⟩
      rcases (hm y.i).1 ⟨y, hy, rfl⟩ with e | ⟨z, hz, e⟩
      · rw [e]; exact h1
      · rw [← e]; exact h0.1 z hz
    · rename_i h1
      split
      · rename_i h2
        refine List.pairwise_cons.2 ⟨fun y hy => ?_, hr⟩
        rcases List.mem_cons.1 hy with rfl | hy
        · exact h2
        · exact lt_trans h2 (h0.1 y hy)
      · exact List.pairwise_cons.2 ⟨fun y hy => h0.1 y hy, h0.2⟩
theorem val_put : ∀ {L : List N} (x : N), Rise L → ∀ n, val (put L x) n = if n = x.i then val L n + x.n else val L n
  | [], x, _, n => by
    simp only [put, ins, val]
    by_cases h : n = x.i
    · rw [if_pos h, if_pos h.symm]; omega
    · rw [if_neg h, if_neg (fun e => h e.symm)]
  | a :: l, x, hr, n => by
    have h0 := List.pairwise_cons.1 hr
    have ih := val_put x h0.2 n
    unfold put at *
    rw [ins]
    split
    · rename_i h1
      have hne : a.i ≠ x.i := fun e => by unfold nlt at h1; rw [e, lt_irrefl] at h1; cases h1
      simp only [val, ih]
      by_cases ha : a.i = n
      · rw [if_pos ha, if_neg (fun e => hne (ha.trans e)), if_pos ha]
      · rw [if_neg ha, if_neg ha]
    · rename_i h1
      split
      · rename_i h2
        simp only [val]
        by_cases hx : n = x.i
        · subst hx
          have hn : ∀ y ∈ a :: l, y.i ≠ x.i := by
            intro y hy e
            rcases List.mem_cons.1 hy with rfl | hy
            · unfold nlt at h2; rw [e, lt_irrefl] at h2; cases h2
            · have := lt_trans h2 (h0.1 y hy)
              rw [e, lt_irrefl] at this; cases this
          have hv := val_none hn
          simp only [val] at hv
          rw [if_pos rfl, if_pos rfl, hv]; omega
        · rw [if_neg (fun e => hx e.symm), if_neg hx]
      · rename_i h2
        have e := neq_of (by simpa using h1) (by simpa using h2)
        show (if a.i = n then a.n + x.n else val l n) = if n = x.i then (if a.i = n then a.n else val l n) + x.n else (if a.i = n then a.n else val l n)
        by_cases ha : a.i = n
        · rw [if_pos ha, if_pos ha, if_pos (ha.symm.trans e)]
        · rw [if_neg ha, if_neg ha, if_neg (fun h => ha (e.trans h.symm))]
theorem put_len (L : List N) (x : N) : (put L x).length ≤ L.length + 1 := ins_len L x
theorem put_bd {L : List N} {x : N} {B C : Int} (hB : 0 ≤ B) (hL : ∀ y ∈ L, -B ≤ y.n ∧ y.n ≤ B) (hC : 0 ≤ C) (hx : -C ≤ x.n ∧ x.n ≤ C) : ∀ y ∈ put L x, -(B + C) ≤ y.n ∧ y.n ≤ B + C := by
  unfold put
  induction L with
  | nil => intro y hy; simp [ins] at hy; subst hy; omega
  | cons a l ih =>
    have h1 := hL a (by simp)
    have h2 := ih (fun y hy => hL y (by simp [hy]))
    intro y hy
    rw [ins] at hy
    split at hy
    · rcases List.mem_cons.1 hy with rfl | hy
      · omega
      · exact h2 y hy
    · split at hy
      · rcases List.mem_cons.1 hy with rfl | hy
        · omega
        · have := hL y hy; omega
      · rcases List.mem_cons.1 hy with rfl | hy
        · simp only [addN]; omega
        · have := hL y (by simp [hy]); omega
theorem all_len (L b : List N) (s : Int) : (all L b s).length ≤ L.length + b.length := by
  unfold all
  induction b generalizing L with
  | nil => simp
  | cons x b ih =>
    have h1 := ih (put L (sg s x))
    have h2 := put_len L (sg s x)
    simp only [List.foldl_cons, List.length_cons]
    omega
theorem rise_all {L : List N} (b : List N) (s : Int) (h : Rise L) : Rise (all L b s) := by
  unfold all
  induction b generalizing L with
  | nil => exact h
  | cons x b ih => exact ih (rise_put _ h)
/-- What the Meters of a list that was added to are. -/
theorem all_i (p : ByteArray → Prop) {L : List N} (b : List N) (s : Int) (hL : ∀ y ∈ L, p y.i) (hb : ∀ y ∈ b, p y.i) : ∀ y ∈ all L b s, p y.i := by
  unfold all
  induction b generalizing L with
  | nil => exact hL
  | cons x b ih =>
    have h1 : ∀ y ∈ put L (sg s x), p y.i := ins_all (r := nlt) (f := addN) (fun y : N => p y.i) (fun _ _ h _ => h) L (sg s x) hL (hb x (by simp))
    exact ih h1 (fun y hy => hb y (by simp [hy]))
/-- Lines that rise, put one by one, are themselves. -/
theorem all_self : ∀ (b : List N) (L : List N), Rise (L ++ b) → all L b 1 = L ++ b
  | [], L, _ => by simp [all]
  | x :: b, L, h => by
    have e : put L (sg 1 x) = L ++ [x] := by
      have e1 : sg 1 x = x := by simp [sg]
      rw [e1]
      refine ins_end (z := N.zero) L x (fun j hj => ?_)
      have h2 := (List.pairwise_append.1 h).2.2
      exact h2 _ (getD_mem (z := N.zero) L j hj) x (by simp)
    show all (put L (sg 1 x)) b 1 = _
    rw [e, all_self b (L ++ [x]) (by simpa using h)]
    simp
/-- A Meter as a key. -/
def kS (n : ByteArray) : Lit := .string n.data.toList
theorem kS_inj {a b : ByteArray} (h : kS a = kS b) : a = b := by
  unfold kS at h
  simp only [Lit.string.injEq] at h
  exact ByteArray.ext (Array.ext' h)
theorem kS_key (n : ByteArray) : WideAt.IsKeyLit (kS n) := by
  unfold kS
  first | trivial | exact rfl | (simp [WideAt.IsKeyLit])
/-- A map of numbers by Meters, read as lines that rise. -/
structure NetM (D : DataW Value) (L : List N) : Prop where
  is : Maps.IsMap D
  rise : Rise L
  has : ∀ n, Maps.has D (kS n) = true ↔ ∃ y ∈ L, y.i = n
  nat : ∀ y ∈ L, ∀ z, D.atKey (kS y.i) z = .lit (.int .i64 y.n)
theorem netM_nil : NetM (.map []) [] := ⟨Maps.isMap_empty, List.Pairwise.nil, fun n => by
  rw [Maps.has_eq]
  simp, fun y h => by cases h⟩
theorem NetM.look {D : DataW Value} {L : List N} (h : NetM D L) (n : ByteArray) : D.atKey (kS n) (.lit (.int .i64 0)) = .lit (.int .i64 (val L n)) := by
  by_cases e : ∃ y ∈ L, y.i = n
  · obtain ⟨y, hy, rfl⟩ := e
    rw [h.nat y hy, val_mem h.rise y hy]
  · have h1 : Maps.has D (kS n) = false := by
      cases h2 : Maps.has D (kS n)
      · rfl
      · exact absurd ((h.has n).1 h2) e
    rw [Maps.atKey_of_not_has h1, val_none (fun y hy e2 => e ⟨y, hy, e2⟩)]
theorem NetM.put {D : DataW Value} {L : List N} (h : NetM D L) (x : N) : NetM (D.put (kS x.i) (.lit (.int .i64 (val L x.i + x.n)))) (put L x) := by
  refine ⟨h.is.put _ _, rise_put x h.rise, fun n => ?_, fun y hy z => ?_⟩
  · rw [mem_put]
    by_cases e : n = x.i
    · subst e
      rw [Maps.has_put_same h.is (kS_key _)]
      exact ⟨fun _ => .inl rfl, fun _ => rfl⟩
    · rw [Maps.has_put_other (fun q => e (kS_inj q)), h.has n]
      exact ⟨fun q => .inr q, fun q => q.resolve_left e⟩
  · have hv := val_put x h.rise y.i
    rw [val_mem (rise_put x h.rise) y hy] at hv
    by_cases e : y.i = x.i
    · rw [if_pos e] at hv
      rw [e, Maps.atKey_put_same h.is (kS_key _), hv, e]
    · rw [if_neg e] at hv
      rw [Maps.atKey_put_other (fun q => e (kS_inj q))]
      rcases mem_put.1 ⟨y, hy, rfl⟩ with h1 | ⟨q, hq, h1⟩
      · exact absurd h1 e
      · rw [← h1, h.nat q hq, hv, ← h1, val_mem h.rise q hq]
/-- May none of these numbers be beyond? -/
def ovB (L : List N) : Bool := L.all (fun y => nOk y.n)
theorem NetM.key {D : DataW Value} {L : List N} (h : NetM D L) {kl : Lit} (hs : ∃ x, kl = .string x) (hh : Maps.has D kl = true) : ∃ y ∈ L, kS y.i = kl := by
  obtain ⟨x, rfl⟩ := hs
  have e : (Lit.string x) = kS ⟨x.toArray⟩ := by simp [kS]
  rw [e] at hh ⊢
  obtain ⟨y, hy, h1⟩ := (h.has _).1 hh
  exact ⟨y, hy, by rw [h1]⟩
theorem bl_lt {x y : List UInt8} (h : Op.bytesLess x y = true) : x < y := by
  induction x generalizing y with
  | nil =>
    cases y with
    | nil => simp [Op.bytesLess] at h
    | cons b y => exact List.nil_lt_cons _ _
  | cons a x ih =>
    cases y with
    | nil => simp [Op.bytesLess] at h
    | cons b y =>
      rw [Op.bytesLess] at h
      simp only [Bool.or_eq_true, Bool.and_eq_true, decide_eq_true_eq, beq_iff_eq] at h
      rw [List.cons_lt_cons_iff]
      rcases h with h | ⟨h1, h2⟩
      · exact .inl h
      · exact .inr ⟨h1, ih h2⟩
theorem toL (a : ByteArray) : a.toList = a.data.toList := ByteArray.toList_eq a
/-- The keys of such a map, sorted, are the Meters. -/
theorem NetM.sorted {P : Program} {t : TypeId} (hP : P.underlying t = some .string) {R : Value → Option (DataW Value × List MemPlace)} {w : World} {b n : Nat} {D : DataW Value} (hown : w.ownsMap P t R b n D) {L : List N} (h : NetM D L) {ss : List (List UInt8)} (hss : ss.Perm (strKeys D)) :
    ss.mergeSort (fun x y => decide (x ≤ y)) = L.map (fun y => y.i.data.toList) := by
  have hrise : (L.map (fun y => y.i.data.toList)).Pairwise (fun x y => x < y) := by
    rw [List.pairwise_map]
    exact h.rise.imp (fun {x y} hxy => by unfold lt at hxy; rw [toL, toL] at hxy; exact bl_lt hxy)
  have hnd : (L.map (fun y => y.i.data.toList)).Nodup := hrise.imp (fun {x y} hxy e => by subst e; exact List.lt_irrefl _ hxy)
  obtain ⟨es, hD, hp, hk0⟩ := hown.entries (Maps.string_keyed hP)
  obtain ⟨es', hD', hk1⟩ := hown.keysOf
  have hk : ∀ p ∈ es, ∃ x, p.1 = .string x := by
    rw [hD] at hD'
    simp only [DataW.map.injEq] at hD'
    subst hD'
    intro p hp
    obtain ⟨v, hv⟩ := hk1 p hp
    obtain ⟨x, _, hx, _⟩ := Maps.keyOf_str hP hv
    exact ⟨x, hx⟩
  have hperm : (L.map (fun y => y.i.data.toList)).Perm (strKeys D) := by
    rw [hD]
    refine perm_strKeys hp hk hnd (fun x => ?_)
    rw [← hD]
    have e : (Lit.string x) = kS ⟨x.toArray⟩ := by simp [kS]
    rw [e, h.has, List.mem_map]
    constructor
    · rintro ⟨y, hy, rfl⟩; exact ⟨y, hy, by simp⟩
    · rintro ⟨y, hy, h1⟩; exact ⟨y, hy, by rw [h1]⟩
  have e1 := mergeSort_of_perm (hss.trans hperm.symm)
  refine e1.trans ?_
  refine List.mergeSort_of_pairwise ?_
  exact hrise.imp (fun {x y} hxy => by simpa using List.le_of_lt hxy)
end NetR
end Go.Proofs.YtlfebpgohpmknaaGreatDoor
namespace Go.Proofs.YtlfebpgohpmknaaGreatDoor
open Go.ChangeShapes Go.WideShapes Go.ChangeAt Go.RowKit
set_option linter.unusedVariables false
namespace CloneR
theorem hid_intro {p : Prop} (h : p) : Hid p := h
theorem info8 : (Tryz.prog.info? 5).map (fun i => (i.zero, i.size, i.bytes)) = some (some (.int .u8 0), 1, 1) := by kernel_rfl
set_option maxHeartbeats 4000000 in
set_option maxRecDepth 100000 in
theorem lite_any (s : ByteArray) (w : World) (hlim : s.size ≤ 281474976710656) :
    Calls Tryz.prog 79 #[.string s] w fun e w' => e = .returned (.string s) ∧ Below w.heap.size w w' := by
  by_cases h0 : s.size = 0
  · obtain rfl : s = ⟨#[]⟩ := ByteArray.ext (Array.eq_empty_of_size_eq_zero h0)
    go_enter Tryz.func79, Tryz.ntmps79
    go_wp2
    go_ret
    exact ⟨rfl, Below.refl _ _⟩
  · obtain ⟨i0, hi, hz0, hz1, hz2⟩ := info_parts info8
    have hone : (Tryz.prog.info? 5).map (·.size) = some 1 := by rw [hi]; simp [hz1]
    have hcells : Tryz.prog.cellsOf 5 = 1 := by simp [Program.cellsOf, hi, hz1]
    obtain ⟨M, hM⟩ : ∃ M, M = madeCells (Value.int .u8 0).cells (((s.size : Nat) : Int).toNat * i0.size) := ⟨_, rfl⟩
    have hMs : M.size = s.size := by rw [hM, size_madeCells, hz1]; simp
    have hmake : ∀ W : World, (Instr.makeSlice 22 (.int .i64 (s.size : Int)) (.int .i64 (s.size : Int))).run Tryz.prog W = .ok (.slice (some ⟨W.heap.size, 0, none⟩) s.size s.size) (W.alloc (.cells M 5)) := fun W => by
      have h := run_make (P := Tryz.prog) W 22 5 i0 (.int .u8 0) Tryz.underlying22 hi hz0 .i64 .i64 (s.size : Int) (s.size : Int) (by omega) (by omega) (by rw [hz2]; omega) (by omega)
      rw [← hM] at h
      simpa using h
    clear hM
    have hcopy := Lib.run_copy_row_string (P := Tryz.prog) (w.alloc (.cells M 5)) 22 9 3 5 w.heap.size 0 s.size s.size s M 5 Tryz.underlying22 hone (heap_alloc_new w _) (Nat.le_refl _) (by omega)
    obtain ⟨Y, hY⟩ : ∃ Y, Y = (M.toList.take 0 ++ Lib.byteCells s.data.toList ++ M.toList.drop (0 + s.size)).toArray := ⟨_, rfl⟩
    rw [← hY] at hcopy
    have hYl : Y.toList = Lib.byteCells s.data.toList := by
      rw [hY, List.toList_toArray, List.take_zero, List.nil_append, List.drop_of_length_le (by rw [Array.length_toList]; omega), List.append_nil]
    have hYs : Y.size = s.size := by rw [← Array.length_toList, hYl, Lib.byteCells_length, ← Lib.size_eq]
    have hg : ((w.alloc (.cells M 5)).setRow w.heap.size Y).heap[w.heap.size]? = some (.cells Y 5 (0, 0)) := setRow_heap _ _ M _ 5 (0, 0) (heap_alloc_new w _)
    have hne : s.data.toList ≠ [] := fun e => h0 (by rw [Lib.size_eq, e]; rfl)
    have hstr := Lib.run_unsafeString_row (P := Tryz.prog) ((w.alloc (.cells M 5)).setRow w.heap.size Y) 142 3 9 5 Tryz.underlying142 hcells w.heap.size Y.size (by unfold World.shape?; rw [hg]) s.data.toList hne (by rw [← Lib.size_eq]; omega) (by rw [← Lib.size_eq]; omega)
      (fun j x hx => Lib.cells_of_row hg Y.size j _ (by rw [List.take_of_length_le (by rw [Array.length_toList]; exact Nat.le_refl _), hYl]; simp [Lib.byteCells, hx]))
    rw [← Lib.size_eq] at hstr
    clear hY
    go_enter Tryz.func79, Tryz.ntmps79
    go_wp2
    go_ret
    have b1 : Below w.heap.size w (w.alloc (.cells M 5)) := (Below.refl _ w).alloc (Nat.le_refl _) _
    have b2 : Below w.heap.size (w.alloc (.cells M 5)) ((w.alloc (.cells M 5)).setRow w.heap.size Y) := ⟨rfl, rfl, rfl, by simp, fun k hk => setRow_other _ _ _ _ (by omega)⟩
    exact ⟨rfl, Lib.below_freeze (b1.trans b2) (p := ⟨w.heap.size, 0, none⟩) (Nat.le_refl _) _⟩
theorem clone_any (s : ByteArray) (w : World) (hlim : s.size ≤ 281474976710656) :
    Calls Tryz.prog 62 #[.string s] w fun e w' => e = .returned (.string s) ∧ Below w.heap.size w w' := by
  have H := hid_intro (fun w => lite_any s w hlim)
  go_enter Tryz.func62, Tryz.ntmps62
  go_wp2_with (go_at_call 79; refine (H.out _).mono ?_; rintro e w1 ⟨rfl, hb⟩)
  go_ret
  exact ⟨rfl, hb⟩
end CloneR
end Go.Proofs.YtlfebpgohpmknaaGreatDoor
namespace Go.Proofs.YtlfebpgohpmknaaGreatDoor
open Go.ChangeShapes Go.WideShapes Go.ChangeAt Go.RowKit
set_option linter.unusedVariables false
namespace LinR
open RowG LtR
/-- append to a list of one's own, as one step of a region that draws. -/
theorem step_append_own {P : Program} {w : World} {ops : Array Oper} {o : Oper} {a : Act} {K : Act → World → Prop} {Q : Exit → Act → World → Prop} {E : Prop} (hgd : o.guard = none) (s x : Operand) (t : TypeId)
    (ho : o.op = .call { callee := .builtin .append, args := #[s, x], argTypes := #[t, t] })
    (base : Nat) (e : TypeId) (i : TypeInfo) (z : Value) (size bytes : Nat) (ht : P.underlying t = some (.slice e)) (hi : P.info? e = some i) (hz : i.zero = some z)
    (hsize : i.size = size) (hby : i.bytes = bytes) (hzs : z.cells.size = size) (hsz : 0 < size)
    (v : Value) (n : Nat) (xs : List Value) (hs : a.eval s = v) (hown : w.ownsRow base e size v n xs)
    (ad : Addr) (m c : Nat) (news : List Value) (hx : a.eval x = .slice (some ad) m c) (hl : news.length = m * size) (hnews : ∀ j u, news[j]? = some u → w.cell? (ad.add j) = some u) (h1 : ∀ u ∈ news, u.oneCell' = true)
    (h63 : n + m ≤ maxLen) (hbytes : (n + m) * bytes ≤ 140737488355328) (hbase : base ≤ w.heap.size)
    (h : ∀ v' w', w'.ownsRow base e size v' (n + m) (xs ++ news) → w.grownBy w' v.ownBlock → (v' = .slice none 0 0 ↔ v = .slice none 0 0 ∧ m = 0) → K (a.put o.dst v') w') : if Region.wanted o (yielded ops a.tmps) = true then Oper.wp P o a w K Q else E := by
  have hw : Region.wanted o (yielded ops a.tmps) = true := by simp [Region.wanted, hgd]
  rw [if_pos hw]
  exact wp_append_own w s x t ho base e i z size bytes ht hi hz hsize hby hzs hsz v n xs hs hown ad m c news hx hl hnews h1 h63 hbytes hbase h
theorem own_drew {w : World} {base e size n : Nat} {v : Value} {xs : List Value} (h : w.ownsRow base e size v n xs) : w.drew.ownsRow base e size v n xs := h
theorem own_low {w : World} {base base' e size n : Nat} {v : Value} {xs : List Value} (h : w.ownsRow base e size v n xs) (hb : base' ≤ base) : w.ownsRow base' e size v n xs := by
  refine ⟨h.1, ?_⟩
  rcases h.2 with hn | ⟨g, cap, cur, rfl, h1, rest⟩
  · exact .inl hn
  · exact .inr ⟨g, cap, cur, rfl, by omega, rest⟩
theorem own_empty (w : World) (base e size : Nat) (hb : base ≤ w.heap.size) : (w.alloc (.cells #[] e)).ownsRow base e size (.slice (some ⟨w.heap.size, 0, none⟩) 0 0) 0 [] :=
  World.ownsRow_made w #[] 0 hb (by unfold maxLen; omega) (by simp)
/-- What is held while a line is put. -/
def BM2 (w : World) (B : Nat) (a0 a1 : Value) (W : World) : Prop := Below w.heap.size w W ∧ B < W.heap.size ∧ W.cell? ⟨B, 0, none⟩ = some a0 ∧ W.cell? ⟨B, 1, none⟩ = some a1
theorem BM2.below {w : World} {B : Nat} {a0 a1 : Value} {W W' : World} (h : BM2 w B a0 a1 W) (hb : Below W.heap.size W W') : BM2 w B a0 a1 W' := by
  obtain ⟨h0, l1, p0, p1⟩ := h
  have f := fun o => hb.cell (p := ⟨B, o, none⟩) l1
  have hs := hb.size
  exact ⟨h0.trans (hb.mono h0.size), by omega, (f 0).trans p0, (f 1).trans p1⟩
theorem BM2.drew {w : World} {B : Nat} {a0 a1 : Value} {W : World} (h : BM2 w B a0 a1 W) : BM2 w B a0 a1 W.drew := ⟨h.1.drew, h.2⟩
theorem BM2.grown {w : World} {B : Nat} {a0 a1 : Value} {W W' : World} {v : Value} {wr : World} {base e size n : Nat} {xs : List Value} (h : BM2 w B a0 a1 W) (hg : W.grownBy W' v.ownBlock) (ho : wr.ownsRow base e size v n xs) (hB : B = wr.heap.size := by rfl) (hbase : w.heap.size ≤ base := by omega) : BM2 w B a0 a1 W' := by
  obtain ⟨h0, l1, p0, p1⟩ := h
  have hne : some B ≠ v.ownBlock := fun e => by have := (ho.lt B e.symm).2; omega
  have e := hg.block B l1 hne
  exact ⟨h0.grown hg h0.size (fun k e => by have := (ho.lt k e).1; omega), by have := hg.size; omega, (World.cell?_of_block (a := ⟨B, 0, none⟩) e).trans p0, (World.cell?_of_block (a := ⟨B, 1, none⟩) e).trans p1⟩
theorem two_cells (W : World) (i : ByteArray) (n : Int) (T : TypeId) : ∀ (j : Nat) u, (N.cells ⟨i, n⟩)[j]? = some u → (W.alloc (.cells #[.string i, .int .i64 n] T)).cell? ((⟨W.heap.size, 0, none⟩ : Addr).add j) = some u := by
  intro j u hx
  have hx2 : j < 2 := by
    have := (List.getElem?_eq_some_iff.1 hx).1
    simpa [N.cells] using this
  match j, hx2, hx with
  | 0, _, hx => simp [N.cells] at hx; subst hx; simp [Addr.add, go_sem]
  | 1, _, hx => simp [N.cells] at hx; subst hx; simp [Addr.add, go_sem]
theorem two_one (x : N) : ∀ u ∈ N.cells x, u.oneCell' = true := by
  intro u hu
  simp only [N.cells, List.mem_cons, List.not_mem_nil, or_false] at hu
  rcases hu with rfl | rfl <;> rfl
theorem filter_more (p : N → Bool) (xs : List N) (k : Nat) (h : k < xs.length) : (xs.take (k + 1)).filter p = (xs.take k).filter p ++ (bif p (xs.getD k N.zero) then [xs.getD k N.zero] else []) := by
  rw [take_more (z := N.zero) xs k h, List.filter_append]
  generalize xs.getD k N.zero = X
  cases hr : p X <;> simp [hr]
/-- What is not 0. -/
def nz (x : N) : Bool := decide (x.n ≠ 0)
theorem nz_cases (i : ByteArray) (n : Int) : ((n == 0) = true ∧ (n != 0) = false ∧ nz ⟨i, n⟩ = false) ∨ ((n == 0) = false ∧ (n != 0) = true ∧ nz ⟨i, n⟩ = true) := by
  unfold nz
  by_cases h : n = 0
  · exact .inl ⟨by simpa using h, by simpa using h, by simpa using h⟩
  · exact .inr ⟨by simpa using h, by simpa using h, by simpa using h⟩
set_option maxRecDepth 100000 in
set_option maxHeartbeats 4000000 in
theorem put_any (ao : Option Addr) (cap : Nat) (es : List N) (w : World) (hlen : es.length ≤ 1048576) (hS : ∀ e ∈ es, e.i.size ≤ 1048576) (hI : Lis ao es w) :
    Calls Tryz.prog 63 #[.slice ao es.length cap] w fun e w' => ∃ v, e = .returned v ∧ w'.ownsRow w.heap.size 74 2 v (es.filter nz).length (cellsAll N.cells (es.filter nz)) ∧ Below w.heap.size w w' := by
  obtain ⟨i0, hi, hz0, hz1, hz2⟩ := info_parts infoN
  have HI := hid_intro hI
  have HS := hid_intro hS
  obtain ⟨len, hl⟩ : ∃ len, len = es.length := ⟨_, rfl⟩
  rw [← hl] at hlen ⊢
  have HL := hid_intro hl
  clear hI hS hl
  go_enter Tryz.func63, Tryz.ntmps63
  go_wp2_with fail
  go_loopw [3, 8] (fun v z wr => ∃ k : Nat, k ≤ len ∧ z = .int .i64 k ∧ Hid (wr.ownsRow w.heap.size 74 2 v ((es.take k).filter nz).length (cellsAll N.cells ((es.take k).filter nz))) ∧ Hid (Below w.heap.size w wr)) (fun v z _ => len - (intOf z).toNat)
  case atStart => exact ⟨0, by omega, rfl, hid_intro (World.ownsRow_nil _ _ _ _), hid_intro (Below.refl _ _)⟩
  case round =>
    obtain ⟨k, hk, rfl, HO, HB⟩ := hrel
    by_cases hlt : k < len
    · have hlt2 : (k : Int) < (len : Int) := by omega
      obtain ⟨b, off, rfl, hbl, c0, c1⟩ := (HI.out.below HB.out).at k (by have := HL.out; omega)
      have hsz := HS.out _ (getD_mem (z := N.zero) es k (by have := HL.out; omega))
      have HF := hid_intro (filter_more nz es k (by have := HL.out; omega))
      have HLF : Hid (((es.take k).filter nz).length ≤ 1048576) := hid_intro (by
        have h1 := List.length_filter_le nz (es.take k)
        have h2 := List.length_take_le k es
        omega)
      obtain ⟨F, hF⟩ : ∃ F, F = (es.take k).filter nz := ⟨_, rfl⟩
      rw [← hF] at HO HF HLF
      clear hF
      generalize es.getD k N.zero = X at *
      obtain ⟨xi, xn⟩ := X
      dsimp only at c0 c1 hsz
      rcases nz_cases xi xn with ⟨q1, q2, q3⟩ | ⟨q1, q2, q3⟩
      · rw [q3] at HF
        go_wp2_with fail
        go_roundw
        case rel => exact ⟨k + 1, by omega, by go_num, hid_intro (by rw [HF.out, cond_false, List.append_nil]; exact HO.out.alloc _), hid_intro (HB.out.alloc HB.out.size _)⟩
        case measure => simp [intOf]; omega
      · rw [q3] at HF
        have HCL := hid_intro (fun w => CloneR.clone_any xi w (by omega))
        have HAl : Hid (BM2 w wr.heap.size (.string xi) (.int .i64 xn) (wr.alloc (.cells #[.string xi, .int .i64 xn] 74))) := hid_intro ⟨HB.out.alloc HB.out.size _, by simp, by simp [go_sem], by simp [go_sem]⟩
        have HAd := hid_intro HAl.out.drew
        have HOA := hid_intro (own_drew (HO.out.alloc (.cells #[.string xi, .int .i64 xn] 74)))
        have sz1 : F.length + 1 ≤ maxLen := by unfold maxLen; have := HLF.out; omega
        have sz2 : (F.length + 1) * 24 ≤ 140737488355328 := by have := HLF.out; omega
        have sz3 : 0 < 2 := by omega
        go_wp2_with fail
        go_region_held3 (fun W => Below w.heap.size w W ∧ wr.heap.size < W.heap.size ∧ W.cell? ⟨wr.heap.size, 0, none⟩ = some (.string xi) ∧ W.cell? ⟨wr.heap.size, 1, none⟩ = some (.int .i64 xn))
          (first | assumption | (exact HAl.out) | (exact HAd.out) | (exact BM2.below (w := w) (B := wr.heap.size) (by assumption) hb1) | (exact BM2.below (w := w) (B := wr.heap.size) (by assumption) ((Below.refl _ _).alloc (Nat.le_refl _) _)) | (exact BM2.grown (w := w) (B := wr.heap.size) (by assumption) hgrow HO.out rfl (Nat.le_refl _)))
          (first | (go_at_call 62; refine (HCL.out _).mono ?_; rintro e w1 ⟨rfl, hb1⟩; have HO1 := hid_intro (own_below HOA.out hb1); have HS1 : Hid (w.heap.size ≤ w1.heap.size) := hid_intro (Nat.le_trans HAd.out.1.size hb1.size)) | (refine step_append_own rfl _ _ 24 rfl w.heap.size 74 i0 (.agg #[.string ⟨#[]⟩, .int .i64 0]) 2 24 Tryz.underlying24 hi hz0 hz1 hz2 rfl sz3 _ _ _ rfl (HO1.out.alloc _) ⟨w1.heap.size, 0, none⟩ 1 1 (N.cells ⟨xi, xn⟩) rfl rfl (two_cells _ _ _ _) (two_one _) sz1 sz2 (Nat.le_trans HS1.out (by simp)) ?_; intro v' w4 hown hgrow hne))
        rename_i hS
        have HB4 := hid_intro hS.1
        have HO4 : Hid (w4.ownsRow w.heap.size 74 2 v' (F ++ [(⟨xi, xn⟩ : N)]).length (cellsAll N.cells (F ++ [(⟨xi, xn⟩ : N)]))) := hid_intro (by rw [cellsAll_app, List.length_append]; exact hown)
        clear hown hgrow hne hS
        go_wp2_with fail
        go_roundw
        case rel => exact ⟨k + 1, by omega, by go_num, hid_intro (by rw [HF.out, cond_true]; exact HO4.out), HB4⟩
        case measure => simp [intOf]; omega
    · have hlt2 : ¬ (k : Int) < (len : Int) := by omega
      obtain rfl : k = len := by omega
      have HE : Hid (es.take k = es) := hid_intro (List.take_of_length_le (by have := HL.out; omega))
      rw [HE.out] at HO
      go_wp2_with fail
      go_ret
      exact ⟨_, rfl, HO.out, HB.out⟩
end LinR
end Go.Proofs.YtlfebpgohpmknaaGreatDoor
namespace Go.Proofs.YtlfebpgohpmknaaGreatDoor
open Go.ChangeShapes Go.WideShapes Go.ChangeAt Go.RowKit
set_option linter.unusedVariables false
namespace CatR
def Blk (b : Nat) (cs : List Value) (w : World) : Prop := b < w.heap.size ∧ ∀ i, i < cs.length → w.cell? ⟨b, i, none⟩ = cs[i]?
theorem Blk.below {b : Nat} {cs : List Value} {w w' : World} (h : Blk b cs w) (hb : Below w.heap.size w w') : Blk b cs w' :=
  ⟨by have := hb.size; have := h.1; omega, fun i hi => (hb.cell (p := ⟨b, i, none⟩) h.1).trans (h.2 i hi)⟩
theorem Blk.new (w : World) (cs : List Value) (T : TypeId) : Blk w.heap.size cs (w.alloc (.cells cs.toArray T)) :=
  ⟨by simp, fun i hi => by simp [go_sem]⟩
theorem Blk.alloc {b : Nat} {cs : List Value} {w : World} (h : Blk b cs w) (o : Obj) : Blk b cs (w.alloc o) := h.below ((Below.refl _ _).alloc (Nat.le_refl _) _)
theorem Blk.drew {b : Nat} {cs : List Value} {w : World} (h : Blk b cs w) : Blk b cs w.drew := h
theorem Blk.drewN {b : Nat} {cs : List Value} {w : World} (h : Blk b cs w) (n : Nat) : Blk b cs (w.drewN n) := h
end CatR
end Go.Proofs.YtlfebpgohpmknaaGreatDoor
namespace Go.Proofs.YtlfebpgohpmknaaGreatDoor
open Go.ChangeShapes Go.WideShapes Go.ChangeAt Go.RowKit
set_option linter.unusedVariables false
namespace DocR
open RowG
open EvtR (Pt)
open CatR (Blk Blk.new)
/-- A block that may be written. -/
def BlkW (b : Nat) (cs : List Value) (w : World) : Prop := Blk b cs w ∧ ∀ i, i < cs.length → w.frozen? ⟨b, i, none⟩ = false
theorem BlkW.below {b : Nat} {cs : List Value} {w w' : World} (h : BlkW b cs w) (hb : Below w.heap.size w w') : BlkW b cs w' :=
  ⟨h.1.below hb, fun i hi => (hb.frozen (p := ⟨b, i, none⟩) h.1.1).trans (h.2 i hi)⟩
theorem BlkW.new (w : World) (cs : List Value) (T : TypeId) : BlkW w.heap.size cs (w.alloc (.cells cs.toArray T)) :=
  ⟨Blk.new w cs T, fun i hi => by simp [go_sem]⟩
theorem BlkW.set {b : Nat} {cs : List Value} {w : World} (h : BlkW b cs w) (o : Nat) (v : Value) (ho : o < cs.length) : BlkW b (cs.set o v) (w.setCell ⟨b, o, none⟩ v) := by
  obtain ⟨⟨hl, hc⟩, hf⟩ := h
  refine ⟨⟨by simpa using hl, fun i hi => ?_⟩, fun i hi => ?_⟩
  · rw [List.length_set] at hi
    by_cases e : o = i
    · subst e
      have := hc o hi
      rw [List.getElem?_eq_getElem hi] at this
      rw [List.getElem?_set_self ho]
      simp [go_sem, this]
    · rw [List.getElem?_set_ne e, ← hc i hi]
      simp [go_sem]
  · rw [List.length_set] at hi
    have := hf i hi
    simp [go_sem, this]
theorem BlkW.other {b : Nat} {cs : List Value} {w : World} (h : BlkW b cs w) (g o : Nat) (v : Value) (hg : g ≠ b) : BlkW b cs (w.setCell ⟨g, o, none⟩ v) := by
  have e := (grown_set w g o v).block b h.1.1 (by simp; exact fun q => hg q.symm)
  exact ⟨⟨by simpa using h.1.1, fun i hi => (World.cell?_of_block (a := ⟨b, i, none⟩) e).trans (h.1.2 i hi)⟩, fun i hi => (World.frozen?_of_block (a := ⟨b, i, none⟩) e).trans (h.2 i hi)⟩
theorem Rws.put {α : Type} {k : Nat} {cells : α → List Value} {z : α} {ao : Option Addr} {xs : List α} {w : World} (h : Rws k cells z ao xs w) (g o : Nat) (v : Value) (hne : xs.length = 0 ∨ ∀ b off, ao = some ⟨b, off, none⟩ → b ≠ g) : Rws k cells z ao xs (w.setCell ⟨g, o, none⟩ v) :=
  h.grown (grown_set w g o v) (hne.imp id (fun hn b off e q => hn b off e (by simpa using q)))
theorem MadeG.put {α : Type} {k : Nat} {cells : α → List Value} {z : α} {base : Nat} {ao : Option Addr} {xs : List α} {w : World} (h : MadeG k cells z base ao xs w) (g o : Nat) (v : Value) (hne : xs.length = 0 ∨ ∀ b off, ao = some ⟨b, off, none⟩ → b ≠ g) : MadeG k cells z base ao xs (w.setCell ⟨g, o, none⟩ v) := by
  refine ⟨Rws.put h.rws g o v hne, ?_⟩
  rcases h.own with h0 | ⟨b, e1, e2, e3⟩
  · exact .inl h0
  · rcases hne with h0 | hn
    · exact .inl h0
    have e := (grown_set w g o v).block b e3.lt (by simp; exact fun q => hn b 0 e1 q)
    exact .inr ⟨b, e1, e2, by simpa using e3.lt, fun x hx => by obtain ⟨u, hu⟩ := e3.has x hx; exact ⟨u, (World.cell?_of_block (a := ⟨b, x, none⟩) e).trans hu⟩, fun x hx => (World.frozen?_of_block (a := ⟨b, x, none⟩) e).trans (e3.free x hx)⟩
end DocR
end Go.Proofs.YtlfebpgohpmknaaGreatDoor
namespace Go.Proofs.YtlfebpgohpmknaaGreatDoor
open Go.ChangeShapes Go.WideShapes Go.ChangeAt Go.RowKit
set_option linter.unusedVariables false
namespace NetR
open LinR RowG LtR
open DocR (BlkW BlkW.new BlkW.below)
theorem al (w : World) (o : Obj) : Below w.heap.size w (w.alloc o) := (Below.refl _ _).alloc (Nat.le_refl _) _
theorem rws_sub {α : Type} {k : Nat} {cells : α → List Value} {z : α} {b off i n : Nat} {xs : List α} {w : World} (hk : ∀ x, (cells x).length = k) (h : Rws k cells z (some ⟨b, off, none⟩) xs w) : ∀ j u, (cellsAll cells ((xs.drop i).take n))[j]? = some u → w.cell? ((⟨b, off + i * k, none⟩ : Addr).add j) = some u := by
  intro j u hj
  have hlt := (List.getElem?_eq_some_iff.1 hj).1
  rw [cellsAll_len hk] at hlt
  have hk0 : 0 < k := by
    rcases Nat.eq_zero_or_pos k with e | e
    · rw [e, Nat.mul_zero] at hlt; omega
    · exact e
  obtain ⟨d, r, rfl, hr⟩ : ∃ d r, j = d * k + r ∧ r < k := ⟨j / k, j % k, by rw [Nat.mul_comm]; exact (Nat.div_add_mod j k).symm, Nat.mod_lt _ hk0⟩
  have hi : d < ((xs.drop i).take n).length := Nat.lt_of_mul_lt_mul_right (a := k) (Nat.lt_of_le_of_lt (Nat.le_add_right _ _) hlt)
  have hi2 : i + d < xs.length := by simp at hi; omega
  have hn : d < n := by simp at hi; omega
  have eg : ((xs.drop i).take n).getD d z = xs.getD (i + d) z := by simp [List.getD, hn]
  rw [cellsAll_get (z := z) hk _ d r hi hr, eg] at hj
  rcases h with h0 | ⟨b', off', he, _, hc⟩
  · omega
  · simp only [Option.some.injEq, Addr.mk.injEq, and_true] at he
    obtain ⟨rfl, rfl⟩ := he
    have := hc (i + d) hi2 r hr
    rw [Addr.add_lit, show off + i * k + (d * k + r) = off + (i + d) * k + r by rw [Nat.add_mul]; omega, this]
    exact hj
theorem ins_cells {α : Type} {cells : α → List Value} (a : List α) (x : α) (b : List α) : cellsAll cells (a ++ x :: b) = cellsAll cells a ++ cells x ++ cellsAll cells b := by simp [cellsAll]
theorem ins_len2 {α : Type} (ts : List α) (q : Nat) (t : α) (h : q ≤ ts.length) : (ts.take q ++ t :: ts.drop q).length = ts.length + 1 := by simp; omega
theorem lis_one (L : List N) : ∀ v ∈ cellsAll N.cells L, v.oneCell' = true := by
  intro v hv
  simp only [cellsAll, List.mem_flatMap] at hv
  obtain ⟨x, _, h⟩ := hv
  exact two_one x v h
theorem bdn {B : Nat} {a w : World} (h : Below B a w) (n : Nat) : Below B a (w.drewN n) := ⟨h.os, h.tape, h.output, h.size, h.block⟩
theorem blkw_grown {b : Nat} {cs : List Value} {w w' : World} {row : Option Nat} (h : BlkW b cs w) (hg : w.grownBy w' row) (hne : some b ≠ row) : BlkW b cs w' := by
  have e := hg.block b h.1.1 hne
  exact ⟨⟨by have := hg.size; have := h.1.1; omega, fun i hi => (World.cell?_of_block (a := ⟨b, i, none⟩) e).trans (h.1.2 i hi)⟩, fun i hi => (World.frozen?_of_block (a := ⟨b, i, none⟩) e).trans (h.2 i hi)⟩
theorem lis_two {b off : Nat} {L : List N} {w : World} (h : Lis (some ⟨b, off, none⟩) L w) (q : Nat) (hq : q < L.length) : b < w.heap.size ∧ w.cell? ⟨b, off + q * 2, none⟩ = some (.string (L.getD q N.zero).i) ∧ w.cell? ⟨b, off + q * 2 + 1, none⟩ = some (.int .i64 (L.getD q N.zero).n) := by
  obtain ⟨b', off', e, hl, c0, c1⟩ := h.at q hq
  simp only [Option.some.injEq, Addr.mk.injEq, and_true] at e
  obtain ⟨rfl, rfl⟩ := e
  exact ⟨hl, c0, c1⟩
/-- Is there one of its Meter, where it is looked for? -/
def fnd : List N → ByteArray → Bool
  | [], _ => false
  | y :: l, x => bif lt y.i x then fnd l x else y.i.toList == x.toList
theorem fnd_end : ∀ (L : List N) (x : ByteArray), (∀ j, j < L.length → lt (L.getD j N.zero).i x = true) → fnd L x = false
  | [], x, _ => rfl
  | y :: l, x, h => by
    have h0 : lt y.i x = true := by simpa using h 0 (by simp)
    rw [fnd, h0, cond_true]
    exact fnd_end l x (fun j hj => by simpa using h (j + 1) (by simpa using hj))
theorem fnd_at : ∀ (L : List N) (x : ByteArray) (q : Nat), q < L.length → (∀ j, j < q → lt (L.getD j N.zero).i x = true) → lt (L.getD q N.zero).i x = false → fnd L x = ((L.getD q N.zero).i.toList == x.toList)
  | [], x, q, hq, _, _ => by simp at hq
  | y :: l, x, 0, hq, _, h1 => by
    have h2 : lt y.i x = false := by simpa using h1
    rw [fnd, h2, cond_false]
    rfl
  | y :: l, x, q + 1, hq, h0, h1 => by
    have h2 : lt y.i x = true := by simpa using h0 0 (by omega)
    rw [fnd, h2, cond_true]
    simpa using fnd_at l x q (by simpa using hq) (fun j hj => by simpa using h0 (j + 1) (by omega)) (by simpa using h1)
/-- What is handed back. -/
def SLn (b off cap : Nat) (L : List N) (xi : ByteArray) (xn : Int) (w : World) (e : Ending) (w' : World) : Prop :=
  (fnd L xi = true ∧ e = .returned (.tuple #[.slice (some ⟨b, off, none⟩) L.length cap, .bool false]) ∧ Below w.heap.size w w') ∨
  (fnd L xi = false ∧ (∃ v, e = .returned (.tuple #[v, .bool true]) ∧ w'.ownsRow w.heap.size 74 2 v (put L ⟨xi, xn⟩).length (cellsAll N.cells (put L ⟨xi, xn⟩))) ∧ Below w.heap.size w w')
set_option maxRecDepth 100000 in
set_option maxHeartbeats 8000000 in
theorem sline (b off cap : Nat) (L : List N) (xi : ByteArray) (xn : Int) (w : World) (hl : L.length ≤ 1048575) (hcap : L.length ≤ cap) (hcm : cap ≤ maxLen) (hT : Lis (some ⟨b, off, none⟩) L w) :
    Calls Tryz.prog 57 #[.slice (some ⟨b, off, none⟩) L.length cap, .agg #[.string xi, .int .i64 xn]] w (SLn b off cap L xi xn w) := by
  obtain ⟨i0, hi, hz0, hz1, hz2⟩ := info_parts infoN
  have HT := hid_intro hT
  obtain ⟨len, hlen⟩ : ∃ len, len = L.length := ⟨_, rfl⟩
  have HP : Hid (∀ e w', SLn b off cap L xi xn w e w' ↔ (fnd L xi = true ∧ e = .returned (.tuple #[.slice (some ⟨b, off, none⟩) len cap, .bool false]) ∧ Below w.heap.size w w') ∨ (fnd L xi = false ∧ (∃ v, e = .returned (.tuple #[v, .bool true]) ∧ w'.ownsRow w.heap.size 74 2 v (put L ⟨xi, xn⟩).length (cellsAll N.cells (put L ⟨xi, xn⟩))) ∧ Below w.heap.size w w')) := hid_intro (fun e w' => by rw [hlen]; rfl)
  rw [← hlen] at hl hcap ⊢
  have HL := hid_intro hlen
  have HEND : Hid ((∀ j, j < L.length → lt (L.getD j N.zero).i xi = true) → put L ⟨xi, xn⟩ = L ++ [⟨xi, xn⟩] ∧ fnd L xi = false) := hid_intro (fun h => ⟨ins_end (z := N.zero) (r := nlt) (f := addN) L ⟨xi, xn⟩ h, fnd_end L xi h⟩)
  have HAT : Hid (∀ q, q < L.length → (∀ j, j < q → lt (L.getD j N.zero).i xi = true) → lt (L.getD q N.zero).i xi = false → (lt xi (L.getD q N.zero).i = true → put L ⟨xi, xn⟩ = L.take q ++ ⟨xi, xn⟩ :: L.drop q) ∧ fnd L xi = ((L.getD q N.zero).i.toList == xi.toList)) := hid_intro (fun q h1 h2 h3 => ⟨(ins_at (z := N.zero) (r := nlt) (f := addN) L ⟨xi, xn⟩ q h1 h2 h3).1, fnd_at L xi q h1 h2 h3⟩)
  generalize SLn b off cap L xi xn w = PP at *
  generalize put L ⟨xi, xn⟩ = R at *
  generalize fnd L xi = F at *
  unfold maxLen at hcm
  clear hT hlen
  have HX0 := hid_intro (BlkW.new w [.string xi, .int .i64 xn] 74)
  have HB0 := hid_intro (al w (.cells #[.string xi, .int .i64 xn] 74))
  go_enter Tryz.func57, Tryz.ntmps57
  go_wp2_with fail
  go_loopw [6] (fun zv wr => ∃ q : Nat, q ≤ len ∧ zv = .int .i64 (q : Int) ∧ Hid (Below w.heap.size w wr) ∧ Hid (BlkW w.heap.size [.string xi, .int .i64 xn] wr) ∧ Hid (∀ j, j < q → lt (L.getD j N.zero).i xi = true)) (fun zv _ => len - (intOf zv).toNat)
  case atStart => exact ⟨0, by omega, rfl, HB0, HX0, hid_intro (fun j hj => absurd hj (by omega))⟩
  case round =>
    clear HX0 HB0
    obtain ⟨q, hq, rfl, HB, HX, HQ⟩ := hrel
    have c0 : wr.cell? ⟨w.heap.size, 0, none⟩ = some (.string xi) := HX.out.1.2 0 (by simp)
    have hwl := HX.out.1.1
    by_cases hlt1 : q < len
    · have hlt2 : (q : Int) < (len : Int) := by omega
      have hqs : q < L.length := by have := HL.out; omega
      have HTQ : Hid (∀ W, Below w.heap.size w W → b < W.heap.size ∧ W.cell? ⟨b, off + q * 2, none⟩ = some (.string (L.getD q N.zero).i) ∧ W.cell? ⟨b, off + q * 2 + 1, none⟩ = some (.int .i64 (L.getD q N.zero).n)) := hid_intro (fun W hW => lis_two (HT.out.below hW) q hqs)
      cases hc : lt (L.getD q N.zero).i xi
      · have HA := hid_intro (HAT.out q hqs HQ.out hc)
        have hc1 := hc
        unfold lt at hc1
        generalize L.getD q N.zero = Y at *
        obtain ⟨yi, yn⟩ := Y
        dsimp only at hc1 HA hc HTQ
        obtain ⟨hbl, d0, d1⟩ := HTQ.out wr HB.out
        go_wp2_with fail
        go_quiet (fail)
        obtain ⟨W1, hWn⟩ : ∃ Wn, Wn = wr.drewN nq := ⟨_, rfl⟩
        rw [← hWn]
        have HDW : Hid (Below wr.heap.size wr W1) := hid_intro (by rw [hWn]; exact bdn (Below.refl _ _) _)
        clear hWn
        have HBn := hid_intro (HB.out.trans (HDW.out.mono HB.out.size))
        have HXn := hid_intro (HX.out.below HDW.out)
        clear HB HX HDW c0 hwl
        have HB := HBn
        have HX := HXn
        clear HBn HXn
        have c0 : W1.cell? ⟨w.heap.size, 0, none⟩ = some (.string xi) := HX.out.1.2 0 (by simp)
        have hwl := HX.out.1.1
        clear hbl d0 d1
        obtain ⟨hbl, d0, d1⟩ := HTQ.out W1 HB.out
        by_cases he : yi = xi
        · have he2 := he.symm
          subst he2
          have he3 : (xi.toList == xi.toList) = true := by simp
          have HF : Hid (F = true) := hid_intro (HA.out.2.trans he3)
          go_wp2_with fail
          go_quiet (fail)
          obtain ⟨W2, hWn⟩ : ∃ Wn, Wn = W1.drewN nq := ⟨_, rfl⟩
          rw [← hWn]
          have HDW : Hid (Below W1.heap.size W1 W2) := hid_intro (by rw [hWn]; exact bdn (Below.refl _ _) _)
          clear hWn
          have HBn := hid_intro (HB.out.trans (HDW.out.mono HB.out.size))
          have HXn := hid_intro (HX.out.below HDW.out)
          clear HB HX HDW c0 hwl
          have HB := HBn
          have HX := HXn
          clear HBn HXn
          have c0 : W2.cell? ⟨w.heap.size, 0, none⟩ = some (.string xi) := HX.out.1.2 0 (by simp)
          have hwl := HX.out.1.1
          go_wp2_with fail
          try go_ret2
          exact (HP.out _ _).2 (.inl ⟨HF.out, rfl, HB.out⟩)
        · have hc2 : lt xi yi = true := by
            cases h : lt xi yi
            · exact absurd (toList_inj (bl_total hc1 (by unfold lt at h; exact h))) he
            · rfl
          have he3 : (yi.toList == xi.toList) = false := by simpa using fun e => he (toList_inj e)
          have HF : Hid (F = false) := hid_intro (HA.out.2.trans he3)
          have HI : Hid (R = L.take q ++ (⟨xi, xn⟩ : N) :: L.drop q) := hid_intro (HA.out.1 hc2)
          clear hc hc2 HA
          go_wp2_with fail
          go_quiet (fail)
          obtain ⟨W2, hWn⟩ : ∃ Wn, Wn = W1.drewN nq := ⟨_, rfl⟩
          rw [← hWn]
          have HDW : Hid (Below W1.heap.size W1 W2) := hid_intro (by rw [hWn]; exact bdn (Below.refl _ _) _)
          clear hWn
          have HBn := hid_intro (HB.out.trans (HDW.out.mono HB.out.size))
          have HXn := hid_intro (HX.out.below HDW.out)
          clear HB HX HDW c0 hwl
          have HB := HBn
          have HX := HXn
          clear HBn HXn
          have c0 : W2.cell? ⟨w.heap.size, 0, none⟩ = some (.string xi) := HX.out.1.2 0 (by simp)
          have hwl := HX.out.1.1
          clear hbl d0 d1
          have HE0 := hid_intro (own_empty W2 w.heap.size 74 2 HB.out.size)
          have hqc : (q : Int) ≤ (cap : Int) := by omega
          have hql : (q : Int) ≤ (len : Int) := by omega
          have HT1 := hid_intro (HT.out.below (HB.out.trans ((al W2 (.cells #[] 74)).mono HB.out.size)))
          clear c0 hwl
          go_wp2_with (at_builtin; refine wpList_append_own _ rfl _ _ 24 rfl w.heap.size 74 i0 (.agg #[.string ⟨#[]⟩, .int .i64 0]) 2 24 Tryz.underlying24 hi hz0 hz1 hz2 rfl (by decide) _ _ _ rfl HE0.out ⟨b, off, none⟩ q cap (cellsAll N.cells (L.take q)) rfl ?l1 ?d1 ?d2 ?d3 ?d4 (by have := HB.out.size; simp; omega) ?_)
          case l1 => rw [cellsAll_len N.len, List.length_take]; have := HL.out; omega
          case d1 => exact fun j u hj => by have h := rws_sub (i := 0) (n := q) N.len HT1.out j u (by simpa using hj); first | exact h | (rw [Addr.add_lit, Nat.zero_mul, Nat.add_zero] at h; exact h)
          case d2 => exact lis_one _
          case d3 => unfold maxLen; omega
          case d4 => omega
          intro v1 w6 hown hgrow hne
          have HO6 : Hid (w6.ownsRow w.heap.size 74 2 v1 q (cellsAll N.cells (L.take q))) := hid_intro (by first | exact hown | simpa using hown)
          have HB6 : Hid (Below w.heap.size w w6) := hid_intro ((HB.out.trans ((al W2 (.cells #[] 74)).mono HB.out.size)).grown hgrow (by have := HB.out.size; simp; omega) (fun c hc => by have := HX.out.1.1; simp [Value.ownBlock] at hc; omega))
          have HX6 : Hid (BlkW w.heap.size [.string xi, .int .i64 xn] w6) := hid_intro (blkw_grown (HX.out.below (al W2 (.cells #[] 74))) hgrow (fun e => by have := HX.out.1.1; simp [Value.ownBlock] at e; omega))
          clear hown hgrow hne HE0 HT1 HX HB
          have c0 : w6.cell? ⟨w.heap.size, 0, none⟩ = some (.string xi) := HX6.out.1.2 0 (by simp)
          have c1 : w6.cell? ⟨w.heap.size, 1, none⟩ = some (.int .i64 xn) := HX6.out.1.2 1 (by simp)
          have hwl := HX6.out.1.1
          go_wp2_with (at_builtin; refine wpList_append_own _ rfl _ _ 24 rfl w.heap.size 74 i0 (.agg #[.string ⟨#[]⟩, .int .i64 0]) 2 24 Tryz.underlying24 hi hz0 hz1 hz2 rfl (by decide) _ _ _ rfl (HO6.out.alloc _) ⟨w6.heap.size, 0, none⟩ 1 1 (N.cells ⟨xi, xn⟩) rfl rfl (two_cells _ _ _ _) (two_one _) ?d3 ?d4 (by have := HB6.out.size; simp; omega) ?_)
          case d3 => unfold maxLen; omega
          case d4 => omega
          intro v2 w7 hown hgrow hne
          have HO7 : Hid (w7.ownsRow w.heap.size 74 2 v2 (q + 1) (cellsAll N.cells (L.take q) ++ N.cells ⟨xi, xn⟩)) := hid_intro hown
          have HB7 : Hid (Below w.heap.size w w7) := hid_intro ((HB6.out.trans ((al w6 _).mono HB6.out.size)).grown hgrow (by have := HB6.out.size; simp; omega) (fun c hc => (HO6.out.lt c hc).1))
          have HT7 := hid_intro (HT.out.below HB7.out)
          clear hown hgrow hne c0 c1 hwl
          by_cases hcq : cap = q
          · obtain rfl : q = len := by omega
            have hcq2 := hcq.symm
            subst hcq2
            go_wp2_with (at_builtin; refine wpList_append_own _ rfl _ _ 24 rfl w.heap.size 74 i0 (.agg #[.string ⟨#[]⟩, .int .i64 0]) 2 24 Tryz.underlying24 hi hz0 hz1 hz2 rfl (by decide) _ _ _ rfl HO7.out ⟨b, off, none⟩ 0 0 [] rfl rfl (fun _ _ h => by simp at h) (fun _ h => by simp at h) (by unfold maxLen; omega) (by omega) HB7.out.size ?_)
            intro v3 w8 hown hgrow hne
            have HO8 : Hid (w8.ownsRow w.heap.size 74 2 v3 (L.take q ++ (⟨xi, xn⟩ : N) :: L.drop q).length (cellsAll N.cells (L.take q ++ (⟨xi, xn⟩ : N) :: L.drop q))) := hid_intro (by
              rw [ins_cells, ins_len2 _ _ _ (by have := HL.out; omega), ← HL.out]
              rw [List.drop_of_length_le (by have := HL.out; omega)]
              first | exact hown | simpa [cellsAll] using hown)
            have HB8 : Hid (Below w.heap.size w w8) := hid_intro (HB7.out.grown hgrow HB7.out.size (fun c hc => (HO7.out.lt c hc).1))
            clear hown hgrow hne
            rw [← HI.out] at HO8
            go_wp2_with fail

            try go_ret2
            exact (HP.out _ _).2 (.inr ⟨HF.out, ⟨_, rfl, HO8.out⟩, HB8.out⟩)
          · go_wp2_with (at_builtin; refine wpList_append_own _ rfl _ _ 24 rfl w.heap.size 74 i0 (.agg #[.string ⟨#[]⟩, .int .i64 0]) 2 24 Tryz.underlying24 hi hz0 hz1 hz2 rfl (by decide) _ _ _ rfl HO7.out ⟨b, off + q * 2, none⟩ (len - q) (cap - q) (cellsAll N.cells (L.drop q)) rfl ?l1 ?d5 ?d6 ?d7 ?d8 HB7.out.size ?_)
            case l1 => rw [cellsAll_len N.len, List.length_drop]; have := HL.out; omega
            case d5 => exact fun j u hj => rws_sub (i := q) (n := L.length - q) N.len HT7.out j u (by rw [List.take_of_length_le (by simp)]; exact hj)
            case d6 => exact lis_one _
            case d7 => unfold maxLen; omega
            case d8 => omega
            intro v3 w8 hown hgrow hne
            have HO8 : Hid (w8.ownsRow w.heap.size 74 2 v3 (L.take q ++ (⟨xi, xn⟩ : N) :: L.drop q).length (cellsAll N.cells (L.take q ++ (⟨xi, xn⟩ : N) :: L.drop q))) := hid_intro (by
              rw [ins_cells, ins_len2 _ _ _ (by have := HL.out; omega), ← HL.out]
              rw [show len + 1 = q + 1 + (len - q) by omega, List.append_assoc]
              exact hown)
            have HB8 : Hid (Below w.heap.size w w8) := hid_intro (HB7.out.grown hgrow HB7.out.size (fun c hc => (HO7.out.lt c hc).1))
            clear hown hgrow hne
            rw [← HI.out] at HO8
            go_wp2_with fail

            try go_ret2
            exact (HP.out _ _).2 (.inr ⟨HF.out, ⟨_, rfl, HO8.out⟩, HB8.out⟩)
      · have HQ2 : Hid (∀ j, j < q + 1 → lt (L.getD j N.zero).i xi = true) := hid_intro (fun j hj => by
          rcases Nat.lt_succ_iff_lt_or_eq.1 hj with h | rfl
          · exact HQ.out j h
          · exact hc)
        have hc1 := hc
        unfold lt at hc1
        generalize L.getD q N.zero = Y at *
        obtain ⟨yi, yn⟩ := Y
        dsimp only at hc1 hc HTQ
        obtain ⟨hbl, d0, d1⟩ := HTQ.out wr HB.out
        clear hc
        go_wp2_with fail
        go_quiet (fail)
        obtain ⟨W1, hWn⟩ : ∃ Wn, Wn = wr.drewN nq := ⟨_, rfl⟩
        rw [← hWn]
        have HDW : Hid (Below wr.heap.size wr W1) := hid_intro (by rw [hWn]; exact bdn (Below.refl _ _) _)
        clear hWn
        have HBn := hid_intro (HB.out.trans (HDW.out.mono HB.out.size))
        have HXn := hid_intro (HX.out.below HDW.out)
        clear HB HX HDW c0 hwl
        have HB := HBn
        have HX := HXn
        clear HBn HXn
        have c0 : W1.cell? ⟨w.heap.size, 0, none⟩ = some (.string xi) := HX.out.1.2 0 (by simp)
        have hwl := HX.out.1.1
        go_wp2_with fail
        go_roundw
        case rel => exact ⟨q + 1, by omega, by go_num, HB, HX, HQ2⟩
        case measure => simp [intOf]; omega
    · have hlt2 : ¬ (q : Int) < (len : Int) := by omega
      have he : q = L.length := by have := HL.out; omega
      have HI : Hid (R = L.take q ++ (⟨xi, xn⟩ : N) :: L.drop q) := hid_intro (by rw [(HEND.out (fun j hj => HQ.out j (by omega))).1, he]; simp)
      have HF : Hid (F = false) := hid_intro (HEND.out (fun j hj => HQ.out j (by omega))).2
      clear he
      go_wp2_with fail
      go_quiet (fail)
      obtain ⟨W1, hWn⟩ : ∃ Wn, Wn = wr.drewN nq := ⟨_, rfl⟩
      rw [← hWn]
      have HDW : Hid (Below wr.heap.size wr W1) := hid_intro (by rw [hWn]; exact bdn (Below.refl _ _) _)
      clear hWn
      have HBn := hid_intro (HB.out.trans (HDW.out.mono HB.out.size))
      have HXn := hid_intro (HX.out.below HDW.out)
      clear HB HX HDW c0 hwl
      have HB := HBn
      have HX := HXn
      clear HBn HXn
      have c0 : W1.cell? ⟨w.heap.size, 0, none⟩ = some (.string xi) := HX.out.1.2 0 (by simp)
      have hwl := HX.out.1.1
      go_wp2_with fail
      go_quiet (fail)
      obtain ⟨W2, hWn⟩ : ∃ Wn, Wn = W1.drewN nq := ⟨_, rfl⟩
      rw [← hWn]
      have HDW : Hid (Below W1.heap.size W1 W2) := hid_intro (by rw [hWn]; exact bdn (Below.refl _ _) _)
      clear hWn
      have HBn := hid_intro (HB.out.trans (HDW.out.mono HB.out.size))
      have HXn := hid_intro (HX.out.below HDW.out)
      clear HB HX HDW c0 hwl
      have HB := HBn
      have HX := HXn
      clear HBn HXn
      have c0 : W2.cell? ⟨w.heap.size, 0, none⟩ = some (.string xi) := HX.out.1.2 0 (by simp)
      have hwl := HX.out.1.1
      have HE0 := hid_intro (own_empty W2 w.heap.size 74 2 HB.out.size)
      have hqc : (q : Int) ≤ (cap : Int) := by omega
      have hql : (q : Int) ≤ (len : Int) := by omega
      have HT1 := hid_intro (HT.out.below (HB.out.trans ((al W2 (.cells #[] 74)).mono HB.out.size)))
      clear c0 hwl
      go_wp2_with (at_builtin; refine wpList_append_own _ rfl _ _ 24 rfl w.heap.size 74 i0 (.agg #[.string ⟨#[]⟩, .int .i64 0]) 2 24 Tryz.underlying24 hi hz0 hz1 hz2 rfl (by decide) _ _ _ rfl HE0.out ⟨b, off, none⟩ q cap (cellsAll N.cells (L.take q)) rfl ?l1 ?d1 ?d2 ?d3 ?d4 (by have := HB.out.size; simp; omega) ?_)
      case l1 => rw [cellsAll_len N.len, List.length_take]; have := HL.out; omega
      case d1 => exact fun j u hj => by have h := rws_sub (i := 0) (n := q) N.len HT1.out j u (by simpa using hj); first | exact h | (rw [Addr.add_lit, Nat.zero_mul, Nat.add_zero] at h; exact h)
      case d2 => exact lis_one _
      case d3 => unfold maxLen; omega
      case d4 => omega
      intro v1 w6 hown hgrow hne
      have HO6 : Hid (w6.ownsRow w.heap.size 74 2 v1 q (cellsAll N.cells (L.take q))) := hid_intro (by first | exact hown | simpa using hown)
      have HB6 : Hid (Below w.heap.size w w6) := hid_intro ((HB.out.trans ((al W2 (.cells #[] 74)).mono HB.out.size)).grown hgrow (by have := HB.out.size; simp; omega) (fun c hc => by have := HX.out.1.1; simp [Value.ownBlock] at hc; omega))
      have HX6 : Hid (BlkW w.heap.size [.string xi, .int .i64 xn] w6) := hid_intro (blkw_grown (HX.out.below (al W2 (.cells #[] 74))) hgrow (fun e => by have := HX.out.1.1; simp [Value.ownBlock] at e; omega))
      clear hown hgrow hne HE0 HT1 HX HB
      have c0 : w6.cell? ⟨w.heap.size, 0, none⟩ = some (.string xi) := HX6.out.1.2 0 (by simp)
      have c1 : w6.cell? ⟨w.heap.size, 1, none⟩ = some (.int .i64 xn) := HX6.out.1.2 1 (by simp)
      have hwl := HX6.out.1.1
      go_wp2_with (at_builtin; refine wpList_append_own _ rfl _ _ 24 rfl w.heap.size 74 i0 (.agg #[.string ⟨#[]⟩, .int .i64 0]) 2 24 Tryz.underlying24 hi hz0 hz1 hz2 rfl (by decide) _ _ _ rfl (HO6.out.alloc _) ⟨w6.heap.size, 0, none⟩ 1 1 (N.cells ⟨xi, xn⟩) rfl rfl (two_cells _ _ _ _) (two_one _) ?d3 ?d4 (by have := HB6.out.size; simp; omega) ?_)
      case d3 => unfold maxLen; omega
      case d4 => omega
      intro v2 w7 hown hgrow hne
      have HO7 : Hid (w7.ownsRow w.heap.size 74 2 v2 (q + 1) (cellsAll N.cells (L.take q) ++ N.cells ⟨xi, xn⟩)) := hid_intro hown
      have HB7 : Hid (Below w.heap.size w w7) := hid_intro ((HB6.out.trans ((al w6 _).mono HB6.out.size)).grown hgrow (by have := HB6.out.size; simp; omega) (fun c hc => (HO6.out.lt c hc).1))
      have HT7 := hid_intro (HT.out.below HB7.out)
      clear hown hgrow hne c0 c1 hwl
      by_cases hcq : cap = q
      · obtain rfl : q = len := by omega
        have hcq2 := hcq.symm
        subst hcq2
        go_wp2_with (at_builtin; refine wpList_append_own _ rfl _ _ 24 rfl w.heap.size 74 i0 (.agg #[.string ⟨#[]⟩, .int .i64 0]) 2 24 Tryz.underlying24 hi hz0 hz1 hz2 rfl (by decide) _ _ _ rfl HO7.out ⟨b, off, none⟩ 0 0 [] rfl rfl (fun _ _ h => by simp at h) (fun _ h => by simp at h) (by unfold maxLen; omega) (by omega) HB7.out.size ?_)
        intro v3 w8 hown hgrow hne
        have HO8 : Hid (w8.ownsRow w.heap.size 74 2 v3 (L.take q ++ (⟨xi, xn⟩ : N) :: L.drop q).length (cellsAll N.cells (L.take q ++ (⟨xi, xn⟩ : N) :: L.drop q))) := hid_intro (by
          rw [ins_cells, ins_len2 _ _ _ (by have := HL.out; omega), ← HL.out]
          rw [List.drop_of_length_le (by have := HL.out; omega)]
          first | exact hown | simpa [cellsAll] using hown)
        have HB8 : Hid (Below w.heap.size w w8) := hid_intro (HB7.out.grown hgrow HB7.out.size (fun c hc => (HO7.out.lt c hc).1))
        clear hown hgrow hne
        rw [← HI.out] at HO8
        go_wp2_with fail

        try go_ret2
        exact (HP.out _ _).2 (.inr ⟨HF.out, ⟨_, rfl, HO8.out⟩, HB8.out⟩)
      · go_wp2_with (at_builtin; refine wpList_append_own _ rfl _ _ 24 rfl w.heap.size 74 i0 (.agg #[.string ⟨#[]⟩, .int .i64 0]) 2 24 Tryz.underlying24 hi hz0 hz1 hz2 rfl (by decide) _ _ _ rfl HO7.out ⟨b, off + q * 2, none⟩ (len - q) (cap - q) (cellsAll N.cells (L.drop q)) rfl ?l1 ?d5 ?d6 ?d7 ?d8 HB7.out.size ?_)
        case l1 => rw [cellsAll_len N.len, List.length_drop]; have := HL.out; omega
        case d5 => exact fun j u hj => rws_sub (i := q) (n := L.length - q) N.len HT7.out j u (by rw [List.take_of_length_le (by simp)]; exact hj)
        case d6 => exact lis_one _
        case d7 => unfold maxLen; omega
        case d8 => omega
        intro v3 w8 hown hgrow hne
        have HO8 : Hid (w8.ownsRow w.heap.size 74 2 v3 (L.take q ++ (⟨xi, xn⟩ : N) :: L.drop q).length (cellsAll N.cells (L.take q ++ (⟨xi, xn⟩ : N) :: L.drop q))) := hid_intro (by
          rw [ins_cells, ins_len2 _ _ _ (by have := HL.out; omega), ← HL.out]
          rw [show len + 1 = q + 1 + (len - q) by omega, List.append_assoc]
          exact hown)
        have HB8 : Hid (Below w.heap.size w w8) := hid_intro (HB7.out.grown hgrow HB7.out.size (fun c hc => (HO7.out.lt c hc).1))
        clear hown hgrow hne
        rw [← HI.out] at HO8
        go_wp2_with fail

        try go_ret2
        exact (HP.out _ _).2 (.inr ⟨HF.out, ⟨_, rfl, HO8.out⟩, HB8.out⟩)
end NetR
end Go.Proofs.YtlfebpgohpmknaaGreatDoor
namespace Go.Proofs.YtlfebpgohpmknaaGreatDoor
open Go.ChangeShapes Go.WideShapes Go.ChangeAt Go.RowKit
set_option linter.unusedVariables false
namespace NetR
open LinR RowG LtR
theorem keyedS : Maps.Keyed Tryz.prog 9 := Maps.string_keyed Tryz.underlying9
theorem zeroI (w : World) : (zeroValue 2).run Tryz.prog w = .ok (.int .i64 0) w := by kernel_rfl
theorem wf_of {x : Int} (h : -9223372036854775808 ≤ x ∧ x ≤ 9223372036854775807) : (Lit.int .i64 x).wf = true := by
  have h1 : IntKind.i64.min = -9223372036854775808 := by decide
  have h2 : IntKind.i64.max = 9223372036854775807 := by decide
  simp only [Lit.wf, h1, h2, Bool.and_eq_true, decide_eq_true_eq]
  exact h
theorem ri_of {x : Int} (h : -9223372036854775808 ≤ x ∧ x ≤ 9223372036854775807) : (plainElem (H := Value) Tryz.prog 2) (.int .i64 x) = some (.lit (.int .i64 x), []) := plainElem_int Tryz.underlying2 (wf_of h)
theorem gtr {w w1 w2 : World} {g : Option Nat} (h1 : w.grownBy w1 g) (h2 : w1.grownBy w2 g) : w.grownBy w2 g :=
  ⟨h2.os.trans h1.os, h2.tape.trans h1.tape, h2.output.trans h1.output, Nat.le_trans h1.size h2.size, fun k hk hne => (h2.block k (by have := h1.size; omega) hne).trans (h1.block k hk hne)⟩
theorem grefl (w : World) (g : Option Nat) : w.grownBy w g := ⟨rfl, rfl, rfl, Nat.le_refl _, fun _ _ _ => rfl⟩
theorem map_cell {P : Program} {k : TypeId} {R : Value → Option (DataW Value × List MemPlace)} {w : World} {b n : Nat} {D : DataW Value} (h : w.ownsMap P k R b n D) (o : Nat) : w.cell? ⟨b, o, none⟩ = none := by
  obtain ⟨es, clock, hb, _⟩ := h
  simp [World.cell?, hb]
/-- Lines do not lie in a map. -/
theorem lis_ne {P : Program} {k : TypeId} {R : Value → Option (DataW Value × List MemPlace)} {w : World} {b n : Nat} {D : DataW Value} (h : w.ownsMap P k R b n D) {ao : Option Addr} {es : List N} (hI : Lis ao es w) : es.length = 0 ∨ ∀ b' off, ao = some ⟨b', off, none⟩ → some b' ≠ some b := by
  rcases Nat.eq_zero_or_pos es.length with h0 | h0
  · exact .inl h0
  · refine .inr (fun b' off e1 e2 => ?_)
    obtain ⟨b2, off2, e3, _, c0, _⟩ := hI.at 0 h0
    rw [e1] at e3
    simp only [Option.some.injEq, Addr.mk.injEq, and_true] at e3 e2
    obtain ⟨rfl, rfl⟩ := e3
    subst e2
    rw [map_cell h] at c0
    cases c0
theorem mul_w {s n : Int} (hs : s = 1 ∨ s = -1) (hn : -1000000000000000 ≤ n ∧ n ≤ 1000000000000000) : wrap64 (s * n) = s * n ∧ -1000000000000000 ≤ s * n ∧ s * n ≤ 1000000000000000 := by
  rcases hs with rfl | rfl
  · rw [Int.one_mul]; exact ⟨by unfold wrap64; omega, hn⟩
  · rw [Int.neg_mul, Int.one_mul]; exact ⟨by unfold wrap64; omega, by omega, by omega⟩
theorem add_w {a b : Int} (ha : -4000000000000000000 ≤ a ∧ a ≤ 4000000000000000000) (hb : -1000000000000000 ≤ b ∧ b ≤ 1000000000000000) : wrap64 (a + b) = a + b := by unfold wrap64; omega
theorem val_bd {L : List N} {B : Int} (hB : 0 ≤ B) (h : ∀ y ∈ L, -B ≤ y.n ∧ y.n ≤ B) (n : ByteArray) : -B ≤ val L n ∧ val L n ≤ B := by
  induction L with
  | nil => simp only [val]; omega
  | cons y l ih =>
    simp only [val]
    split
    · exact h y (by simp)
    · exact ih (fun y hy => h y (by simp [hy]))
set_option maxRecDepth 100000 in
set_option maxHeartbeats 4000000 in
theorem bring_any (ao : Option Addr) (cap : Nat) (es : List N) (s : Int) (b M : Nat) (D : DataW Value) (L : List N) (B : Int) (w : World) (hs : s = 1 ∨ s = -1) (hlen : es.length ≤ 400) (hS : ∀ e ∈ es, e.i.size ≤ 1048576) (hE : ∀ e ∈ es, -1000000000000000 ≤ e.n ∧ e.n ≤ 1000000000000000)
    (hO : w.ownsMap Tryz.prog 9 (plainElem (H := Value) Tryz.prog 2) b M D) (hM : M ≤ 1048576) (hN : NetM D L) (hB : 0 ≤ B ∧ B ≤ 3000000000000000000) (hL : ∀ y ∈ L, -B ≤ y.n ∧ y.n ≤ B) (hI : Lis ao es w) :
    Calls Tryz.prog 58 #[.map (some b), .slice ao es.length cap, .int .i64 s] w fun e w' => e = .returned (.tuple #[]) ∧ (∃ D', w'.ownsMap Tryz.prog 9 (plainElem (H := Value) Tryz.prog 2) b (M + es.length) D' ∧ NetM D' (all L es s)) ∧ (∀ y ∈ all L es s, -(B + es.length * 1000000000000000) ≤ y.n ∧ y.n ≤ B + es.length * 1000000000000000) ∧ w.grownBy w' (some b) := by
  have HI := hid_intro hI
  have HS := hid_intro hS
  have HE := hid_intro hE
  have HNE := hid_intro (lis_ne hO hI)
  have HO := hid_intro hO
  have HN := hid_intro hN
  have HL := hid_intro hL
  have HSS := hid_intro hs
  have HB := hid_intro hB
  obtain ⟨len, hl⟩ : ∃ len, len = es.length := ⟨_, rfl⟩
  have HEND : Hid (all L (es.take len) s = all L es s) := hid_intro (by rw [hl, List.take_length])
  rw [← hl] at hlen ⊢
  have HLn := hid_intro hl
  clear hI hS hE hO hN hL hl hs hB
  go_enter Tryz.func58, Tryz.ntmps58
  go_wp2_with fail
  go_loopw [10] (fun z wr => ∃ k : Nat, k ≤ len ∧ z = .int .i64 k ∧ Hid (∃ D', wr.ownsMap Tryz.prog 9 (plainElem (H := Value) Tryz.prog 2) b (M + k) D' ∧ NetM D' (all L (es.take k) s)) ∧ Hid (∀ y ∈ all L (es.take k) s, -(B + k * 1000000000000000) ≤ y.n ∧ y.n ≤ B + k * 1000000000000000) ∧ Hid (w.grownBy wr (some b))) (fun z _ => len - (intOf z).toNat)
  case atStart => exact ⟨0, by omega, rfl, hid_intro ⟨D, HO.out, by simpa [all] using HN.out⟩, hid_intro (by simpa [all] using HL.out), hid_intro (grefl _ _)⟩
  case round =>
    obtain ⟨k, hk, rfl, HD, HBD, HG⟩ := hrel
    by_cases hlt : k < len
    · have hlt2 : (k : Int) < (len : Int) := by omega
      have hkl : k < es.length := by have := HLn.out; omega
      obtain ⟨b0, off, rfl, hbl, c0, c1⟩ := Lis.at (Rws.grown HI.out HG.out HNE.out) k hkl
      have hsz := HS.out _ (getD_mem (z := N.zero) es k hkl)
      have hnb := HE.out _ (getD_mem (z := N.zero) es k hkl)
      have HM1 := hid_intro (all_more L es s k hkl)
      obtain ⟨D1, hO1, hN1⟩ := HD.out
      have HO1 := hid_intro hO1
      have HN1 := hid_intro hN1
      have HB1 : Hid (0 ≤ B + (k : Int) * 1000000000000000 ∧ B + (k : Int) * 1000000000000000 ≤ 3500000000000000000) := hid_intro (by have := HB.out; omega)
      generalize all L (es.take k) s = L1 at *
      generalize es.getD k N.zero = X at *
      obtain ⟨xi, xn⟩ := X
      dsimp only at c0 c1 hsz hnb HM1
      obtain ⟨hm1, hm2⟩ := mul_w HSS.out hnb
      have HK := hid_intro (Go.WideMaps.keyOf_string_mk (P := Tryz.prog) (k := 9) Tryz.underlying9 (s := xi) (Nat.le_trans hsz (by unfold maxLen; omega)))
      have HKE : Hid (kS xi = .string xi.data.toList) := rfl
      have hvb := val_bd HB1.out.1 HBD.out xi
      have HLK := hid_intro (HN1.out.look xi)
      have HP := hid_intro (HN1.out.put ⟨xi, s * xn⟩)
      have HPB := hid_intro (put_bd (x := ⟨xi, s * xn⟩) HB1.out.1 HBD.out (C := 1000000000000000) (by omega) hm2)
      have hw2 := add_w (a := val L1 xi) (b := s * xn) (by have := HB1.out; omega) hm2
      have HV : Hid ((plainElem (H := Value) Tryz.prog 2) (.int .i64 (val L1 xi + s * xn)) = some (.lit (.int .i64 (val L1 xi + s * xn)), [])) := hid_intro (ri_of (by have := HB1.out; omega))
      have HOl := hid_intro (fun o => HO1.out.alloc o)
      have HGl := hid_intro (fun o => gtr HG.out (World.grownBy_alloc wr o (some b)))
      dsimp only at HP
      have HM2 : Hid (all L (es.take (k + 1)) s = put L1 ⟨xi, s * xn⟩) := HM1
      clear HM1 hO1 hN1 HD HBD hvb hm2 hnb
      generalize val L1 xi = V at *
      generalize put L1 ⟨xi, s * xn⟩ = L2 at *
      obtain ⟨Y, hY⟩ : ∃ Y, s * xn = Y := ⟨_, rfl⟩
      replace hm1 : wrap64 (s * xn) = Y := hm1.trans hY
      rw [hY] at HP hw2 HV
      replace HV := hid_intro (show (plainElem (H := Value) Tryz.prog 2) (.int .i64 (wrap64 (V + Y))) = some (.lit (.int .i64 (V + Y)), []) by rw [hw2]; exact HV.out)
      clear hY hw2
      rw [← HKE.out] at HK
      generalize kS xi = K0 at *
      clear HKE
      go_wp2_with (first | (at_lookup; go_loud (refine wpList_lookup_own_int _ rfl _ _ 65 rfl 9 2 .i64 keyedS Tryz.underlying65 Tryz.underlying2 (zeroI _) b (M + k) D1 rfl (HOl.out _) _ _ rfl HK.out ?_; intro c hat hwc; obtain rfl : V = c := (by have h := HLK.out.symm.trans hat; simpa using h); clear hat hwc)) | (at_mapUpdate; go_loud (refine wpList_mapUpdate_own _ rfl _ _ _ 65 rfl 9 2 keyedS Tryz.underlying65 (plainElem (H := Value) Tryz.prog 2) b (M + k) D1 rfl (HOl.out _) (by unfold maxLen; omega) _ _ _ rfl rfl HK.out (.lit (.int .i64 (V + Y))) [] HV.out ?_; intro w1 hown1 hgrow1)))
      have HO2 := hid_intro hown1
      have HG2 := hid_intro (gtr (HGl.out _) hgrow1)
      clear hown1 hgrow1
      go_wp2_with fail
      go_roundw
      case rel => exact ⟨k + 1, by omega, by go_num, hid_intro ⟨_, HO2.out, by rw [HM2.out]; exact HP.out⟩, hid_intro (by rw [HM2.out]; intro y hy; have := HPB.out y hy; omega), HG2⟩
      case measure => simp [intOf]; omega
    · have hlt2 : ¬ (k : Int) < (len : Int) := by omega
      obtain rfl : k = len := by omega
      rw [HEND.out] at HD HBD
      go_wp2_with fail
      go_end0
      exact ⟨rfl, HD.out, HBD.out, HG.out⟩
end NetR
end Go.Proofs.YtlfebpgohpmknaaGreatDoor
namespace Go.Proofs.YtlfebpgohpmknaaGreatDoor
open Go.ChangeShapes Go.WideShapes Go.ChangeAt Go.RowKit
set_option linter.unusedVariables false
namespace NetR
open LinR RowG LtR
open DocR (BlkW BlkW.new BlkW.below)
theorem own_row_set {w : World} {base e s g n cap j : Nat} {xs : List Value} {u : Value} (h : w.ownsRow base e s (.slice (some ⟨g, 0, none⟩) n cap) n xs) (hj : j < xs.length) : (w.setCell ⟨g, j, none⟩ u).ownsRow base e s (.slice (some ⟨g, 0, none⟩) n cap) n (xs.set j u) := by
  rcases h.2 with ⟨h0, _⟩ | ⟨g', cap', cur, hv, hb, hh, r1, r2, r3, r4⟩
  · cases h0
  · simp only [Value.slice.injEq, Option.some.injEq, Addr.mk.injEq, and_true, true_and] at hv
    obtain ⟨rfl, rfl⟩ := hv
    refine ⟨by simpa using h.1, .inr ⟨g, cap, cur.setIfInBounds j u, rfl, hb, ?_, r1, r2, by simpa using r3, ?_⟩⟩
    · simp [World.setCell, Array.getElem?_modify, hh]
    · rw [Array.toList_setIfInBounds, List.take_set, r4]
theorem cells_set : ∀ (M : List N) (k : Nat) (m : Int), k < M.length → (cellsAll N.cells M).set (k * 2 + 1) (.int .i64 m) = cellsAll N.cells (M.set k ⟨(M.getD k N.zero).i, m⟩)
  | [], k, m, h => by simp at h
  | y :: l, 0, m, h => by simp [cellsAll, N.cells]
  | y :: l, k + 1, m, h => by
    have ih := cells_set l k m (by simpa using h)
    simp only [cellsAll, List.flatMap_cons, N.cells, List.set_cons_succ, List.getD_cons_succ] at *
    rw [← ih, show (k + 1) * 2 + 1 = k * 2 + 1 + 1 + 1 by omega]
    rfl
/-- A line's number added where the Meter is the same. -/
def upd (x y : N) : N := if y.i = x.i then ⟨y.i, y.n + x.n⟩ else y
def mix (L : List N) (x : N) (k : Nat) : List N := (L.take k).map (upd x) ++ L.drop k
theorem mix_len (L : List N) (x : N) (k : Nat) : (mix L x k).length = L.length := by simp [mix]; omega
theorem mix_at (L : List N) (x : N) (k : Nat) (h : k < L.length) : (mix L x k).getD k N.zero = L.getD k N.zero := by
  unfold mix
  have hl : ((L.take k).map (upd x)).length = k := by simp; omega
  rw [List.getD, List.getElem?_append_right (by omega), hl, Nat.sub_self, List.getElem?_drop, Nat.add_zero]
  rfl
theorem mix_more (L : List N) (x : N) (k : Nat) (h : k < L.length) : mix L x (k + 1) = (mix L x k).set k (upd x (L.getD k N.zero)) := by
  unfold mix
  have hl : ((L.take k).map (upd x)).length = k := by simp; omega
  have hd : L.drop k = L.getD k N.zero :: L.drop (k + 1) := by
    rw [List.drop_eq_getElem_cons h]
    simp [List.getD, h]
  rw [take_more (z := N.zero) L k h, List.map_append, List.set_append_right _ _ (by omega), hl, Nat.sub_self, hd]
  simp
theorem set_self : ∀ (M : List N) (k : Nat), k < M.length → M.set k (M.getD k N.zero) = M
  | [], k, h => by simp at h
  | y :: l, 0, h => by simp
  | y :: l, k + 1, h => by
    have := set_self l k (by simpa using h)
    simp only [List.set_cons_succ, List.getD_cons_succ, this]
theorem upd_all : ∀ {l : List N} {x : N}, (∀ y ∈ l, y.i ≠ x.i) → l.map (upd x) = l
  | [], x, _ => rfl
  | y :: l, x, h => by
    rw [List.map_cons, upd_all (fun y hy => h y (by simp [hy]))]
    unfold upd
    rw [if_neg (h y (by simp))]
theorem put_map : ∀ {L : List N} {x : N}, Rise L → fnd L x.i = true → put L x = L.map (upd x)
  | [], x, _, h => by cases h
  | a :: l, x, hr, h => by
    have h0 := List.pairwise_cons.1 hr
    rw [fnd] at h
    unfold put
    rw [ins]
    cases h1 : lt a.i x.i
    · rw [h1, cond_false] at h
      have e : a.i = x.i := toList_inj (by simpa using h)
      have h2 : nlt x a = false := by unfold nlt; rw [e]; exact lt_irrefl _
      rw [if_neg (by unfold nlt; rw [h1]; simp), if_neg (by rw [h2]; simp), List.map_cons, upd_all (fun y hy e2 => by
        have := h0.1 y hy
        rw [e2, e, lt_irrefl] at this
        cases this)]
      unfold upd addN
      rw [if_pos e]
    · rw [h1, cond_true] at h
      have ih := put_map h0.2 h
      unfold put at ih
      rw [if_pos (show nlt a x = true from h1), ih, List.map_cons]
      unfold upd
      rw [if_neg (fun e => by rw [e, lt_irrefl] at h1; cases h1)]
theorem mix_end {L : List N} {x : N} (hr : Rise L) (h : fnd L x.i = true) : mix L x L.length = put L x := by
  rw [put_map hr h, mix, List.take_length, List.drop_length, List.append_nil]
/-- What is held while a line is made. -/
def LB (w : World) (b o : Nat) (xi : ByteArray) (xn : Int) (W : World) : Prop := Below w.heap.size w W ∧ b < W.heap.size ∧ W.cell? ⟨b, o, none⟩ = some (.string xi) ∧ W.cell? ⟨b, o + 1, none⟩ = some (.int .i64 xn)
theorem LB.below {w : World} {b o : Nat} {xi : ByteArray} {xn : Int} {W W' : World} (h : LB w b o xi xn W) (hb : Below W.heap.size W W') : LB w b o xi xn W' := by
  obtain ⟨h0, hl, p0, p1⟩ := h
  have f := fun x => hb.cell (p := ⟨b, x, none⟩) hl
  have hs := hb.size
  exact ⟨h0.trans (hb.mono h0.size), by omega, (f _).trans p0, (f _).trans p1⟩
/-- A list of one's own that is not nil. -/
def OwnN (w : World) (base : Nat) (v : Value) (L : List N) : Prop := w.ownsRow base 74 2 v L.length (cellsAll N.cells L) ∧ v ≠ .slice none 0 0
theorem OwnN.open {w : World} {base : Nat} {v : Value} {L : List N} (h : OwnN w base v L) : ∃ g cap, v = .slice (some ⟨g, 0, none⟩) L.length cap ∧ L.length ≤ cap ∧ cap ≤ maxLen ∧ base ≤ g ∧ g < w.heap.size ∧ Lis (some ⟨g, 0, none⟩) L w := by
  obtain ⟨h, hn⟩ := h
  obtain ⟨ao, cp, e, hm⟩ := own_made (z := N.zero) N.len h
  rcases h.2 with ⟨h0, h1⟩ | ⟨g, cap, cur, hv, hbb, hh, h1, h2, _⟩
  · exact absurd h0 hn
  · rw [hv] at e
    simp only [Value.slice.injEq] at e
    obtain ⟨rfl, _, rfl⟩ := e
    exact ⟨g, cap, hv, h1, h2, hbb, (Array.getElem?_eq_some_iff.1 hh).1, hm.rws⟩
theorem OwnN.below {w w' : World} {base : Nat} {v : Value} {L : List N} (h : OwnN w base v L) (hb : Below w.heap.size w w') : OwnN w' base v L := ⟨own_below h.1 hb, h.2⟩
theorem lis_pt {w : World} {base g cap : Nat} {L : List N} (h : w.ownsRow base 74 2 (.slice (some ⟨g, 0, none⟩) L.length cap) L.length (cellsAll N.cells L)) : EvtR.Pt g (L.length * 2) w := by
  obtain ⟨ao, cp, e, hm⟩ := own_made (z := N.zero) N.len h
  simp only [Value.slice.injEq] at e
  obtain ⟨rfl, _, rfl⟩ := e
  rcases hm.own with h0 | ⟨g', e, _, hp⟩
  · rcases h.2 with ⟨h0', _⟩ | ⟨g2, cap2, cur, hv, _, hh, _⟩
    · cases h0'
    · simp only [Value.slice.injEq, Option.some.injEq, Addr.mk.injEq, and_true, true_and] at hv
      obtain ⟨rfl, rfl⟩ := hv
      exact ⟨(Array.getElem?_eq_some_iff.1 hh).1, fun o ho => by omega, fun o ho => by omega⟩
  · simp only [Option.some.injEq, Addr.mk.injEq, and_true] at e
    obtain rfl := e
    exact hp
end NetR
end Go.Proofs.YtlfebpgohpmknaaGreatDoor
namespace Go.Proofs.YtlfebpgohpmknaaGreatDoor
open Go.ChangeShapes Go.WideShapes Go.ChangeAt Go.RowKit
set_option linter.unusedVariables false
namespace NetR
open LinR RowG LtR
open DocR (BlkW BlkW.new BlkW.below)
theorem HA_cells {ab aoff : Nat} {L : List N} {w : World} (h : Lis (some ⟨ab, aoff, none⟩) L w) : ∀ W, Below w.heap.size w W → ∀ j u, (cellsAll N.cells L)[j]? = some u → W.cell? ((⟨ab, aoff, none⟩ : Addr).add j) = some u := by
  intro W hW j u hj
  have h1 := rws_sub (i := 0) (n := L.length) N.len (h.below hW) j u (by simpa using hj)
  rw [Nat.zero_mul, Nat.add_zero] at h1
  exact h1
theorem i_in {x : Int} (h : -9223372036854775808 ≤ x ∧ x ≤ 9223372036854775807) : IntKind.i64.wrap x = x := IntWalk.i64_in _ ⟨by omega, by omega⟩
theorem own_nonnil {w : World} {base : Nat} {v : Value} {L : List N} (h : w.ownsRow base 74 2 v L.length (cellsAll N.cells L)) (hn : L.length ≠ 0) : OwnN w base v L := ⟨h, fun e => by
  rcases h.2 with ⟨_, h1⟩ | ⟨g, cap, cur, hv, _⟩
  · exact hn h1
  · rw [hv] at e; cases e⟩
theorem put_pos (L : List N) (x : N) : (put L x).length ≠ 0 := by
  unfold put
  cases L with
  | nil => simp [ins]
  | cons a l => rw [ins]; split <;> (try split) <;> simp
set_option maxRecDepth 100000 in
set_option maxHeartbeats 8000000 in
theorem sadd (ab aoff cap0 : Nat) (L : List N) (bo : Option Addr) (capb : Nat) (es : List N) (s B : Int) (w : World) (hs : s = 1 ∨ s = -1) (hlen : es.length ≤ 400) (hE : ∀ e ∈ es, -1000000000000000 ≤ e.n ∧ e.n ≤ 1000000000000000) (hr : Rise L) (hLl : L.length ≤ 100000) (hB : 0 ≤ B ∧ B ≤ 3000000000000000000) (hL : ∀ y ∈ L, -B ≤ y.n ∧ y.n ≤ B) (hA : Lis (some ⟨ab, aoff, none⟩) L w) (hI : Lis bo es w) :
    Calls Tryz.prog 64 #[.slice (some ⟨ab, aoff, none⟩) L.length cap0, .slice bo es.length capb, .int .i64 s] w fun e w' => ∃ v, e = .returned v ∧ OwnN w' w.heap.size v (all L es s) ∧ Below w.heap.size w w' := by
  obtain ⟨i0, hi, hz0, hz1, hz2⟩ := info_parts infoN
  have HI := hid_intro hI
  have HA := hid_intro (HA_cells hA)
  have HE := hid_intro hE
  have HSS := hid_intro hs
  have HR := hid_intro hr
  have HB := hid_intro hB
  have HL0 := hid_intro hL
  have HLL : Hid (∀ k, (all L (es.take k) s).length ≤ 100400) := hid_intro (fun k => by have h1 := all_len L (es.take k) s; have h2 := (List.take_sublist k es).length_le; omega)
  obtain ⟨len, hl⟩ : ∃ len, len = es.length := ⟨_, rfl⟩
  have HEND : Hid (all L (es.take len) s = all L es s) := hid_intro (by rw [hl, List.take_length])
  rw [← hl] at hlen ⊢
  have HLn := hid_intro hl
  obtain ⟨al0, hal0⟩ : ∃ al0, al0 = L.length := ⟨_, rfl⟩
  rw [← hal0] at hLl ⊢
  have HAL := hid_intro hal0
  have HE0 := hid_intro (own_empty w w.heap.size 74 2 (Nat.le_refl _))
  clear hI hA hE hs hl hr hB hL hal0
  go_enter Tryz.func64, Tryz.ntmps64
  go_wp2_with (at_builtin; refine wpList_append_own _ rfl _ _ 24 rfl w.heap.size 74 i0 (.agg #[.string ⟨#[]⟩, .int .i64 0]) 2 24 Tryz.underlying24 hi hz0 hz1 hz2 rfl (by decide) _ _ _ rfl HE0.out ⟨ab, aoff, none⟩ al0 cap0 (cellsAll N.cells L) rfl ?l1 ?d1 ?d2 ?d3 ?d4 (by simp) ?_)
  case l1 => rw [cellsAll_len N.len]; have := HAL.out; omega
  case d1 => exact HA.out _ (al _ _)
  case d2 => exact lis_one _
  case d3 => unfold maxLen; omega
  case d4 => omega
  intro v1 w6 hown hgrow hne
  have HV1 : Hid (OwnN w6 w.heap.size v1 L) := hid_intro ⟨by rw [← HAL.out]; first | exact hown | simpa using hown, fun e => by first | exact hne e | (have := (hne.1 e).1; cases this)⟩
  have HB6 : Hid (Below w.heap.size w w6) := hid_intro ((al w _).grown hgrow (by simp) (fun c hc => by simp [Value.ownBlock] at hc; omega))
  clear hown hgrow hne HE0 HA
  go_wp2_with fail
  go_loopw [7, 8] (fun v z wr => ∃ k : Nat, k ≤ len ∧ z = .int .i64 k ∧ Hid (OwnN wr w.heap.size v (all L (es.take k) s)) ∧ Hid (∀ y ∈ all L (es.take k) s, -(B + k * 1000000000000000) ≤ y.n ∧ y.n ≤ B + k * 1000000000000000) ∧ Hid (Below w.heap.size w wr)) (fun v z _ => len - (intOf z).toNat)
  case atStart => exact ⟨0, by omega, rfl, hid_intro (by simpa [all] using HV1.out), hid_intro (by simpa [all] using HL0.out), HB6⟩
  case round =>
    obtain ⟨k, hk, rfl, HV, HBD, HW⟩ := hrel
    by_cases hlt : k < len
    · have hlt2 : (k : Int) < (len : Int) := by omega
      have hkl : k < es.length := by have := HLn.out; omega
      obtain ⟨b0, off, rfl, hbl, c0, c1⟩ := Lis.at (HI.out.below HW.out) k hkl
      have hnb := HE.out _ (getD_mem (z := N.zero) es k hkl)
      have HM1 := hid_intro (all_more L es s k hkl)
      have HRk := hid_intro (rise_all (es.take k) s HR.out)
      have HLk := hid_intro (HLL.out k)
      have HB1 : Hid (0 ≤ B + (k : Int) * 1000000000000000 ∧ B + (k : Int) * 1000000000000000 ≤ 3500000000000000000) := hid_intro (by have := HB.out; omega)
      generalize all L (es.take k) s = L1 at *
      generalize es.getD k N.zero = X at *
      obtain ⟨xi, xn⟩ := X
      dsimp only at c0 c1 hnb
      obtain ⟨hm1, hm2⟩ := mul_w HSS.out hnb
      have HM2 : Hid (all L (es.take (k + 1)) s = put L1 ⟨xi, s * xn⟩) := HM1
      have HPB := hid_intro (put_bd (x := ⟨xi, s * xn⟩) HB1.out.1 HBD.out (C := 1000000000000000) (by omega) hm2)
      obtain ⟨Y, hY⟩ : ∃ Y, s * xn = Y := ⟨_, rfl⟩
      have hm3 : IntKind.i64.wrap (s * xn) = Y := by rw [i_in (by omega)]; exact hY
      rw [hY] at HM2 HPB hm2
      have HYB := hid_intro hm2
      have HS0 : Hid (LB w b0 (off + k * 2) xi xn wr.drew) := hid_intro ⟨HW.out.drew, hbl, c0, c1⟩
      obtain ⟨g, cap, rfl, hg1, hg2, hg3, hg4, hg5⟩ := HV.out.open
      have HG5 := hid_intro hg5
      have HX0 := hid_intro (BlkW.new wr.drew [.string xi, .int .i64 Y] 74)
      have HV0 := hid_intro (HV.out.below (w' := wr.drew.alloc (.cells #[.string xi, .int .i64 Y] 74)) (Below.trans (Below.refl _ _).drew (al wr.drew _)))
      have HW0 := hid_intro (HW.out.trans ((Below.trans (Below.refl _ _).drew (al wr.drew (.cells #[.string xi, .int .i64 Y] 74))).mono HW.out.size))
      obtain ⟨l1, hl1⟩ : ∃ l1, l1 = L1.length := ⟨_, rfl⟩
      rw [← hl1]
      have HL1 := hid_intro hl1
      clear hl1 hY hm1 HM1 hnb hm2 HV HW hg5
      go_wp2_with fail
      refine wp_region_held_drew (S := (fun W => Below w.heap.size w W ∧ b0 < W.heap.size ∧ W.cell? ⟨b0, off + k * 2, none⟩ = some (.string xi) ∧ W.cell? ⟨b0, off + k * 2 + 1, none⟩ = some (.int .i64 xn))) (by kernel_rfl) HS0.out (fun hHeld => ?_)
      refine wpAnyH_take (i := 0) (oi := { dst := some 22, op := Op.move (Operand.tmp 1), type := 24, pos := "l09_ledger.go:24", after := #[], guard := none }) (v := ?_) rfl (by kernel_rfl) (by kernel_rfl) (by kernel_rfl) (fun _ _ _ h => h) (Or.inl ⟨by rfl, ?_⟩) (by assumption) ?_
      rotate_left
      · (intro w hSw; (try dsimp only at hSw); go_simp) <;> with_reducible rfl
      try simp only [Act.put, List.setIfInBounds_toArray, List.set_cons_zero, List.set_cons_succ]
      refine wpAnyH_take (i := 1) (oi := { dst := some 23, op := Op.move (Operand.tmp 8), type := 3, pos := "l09_ledger.go:24", after := #[], guard := none }) (v := ?_) rfl (by kernel_rfl) (by kernel_rfl) (by kernel_rfl) (fun _ _ _ h => h) (Or.inl ⟨by rfl, ?_⟩) (by assumption) ?_
      rotate_left
      · (intro w hSw; (try dsimp only at hSw); go_simp) <;> with_reducible rfl
      try simp only [Act.put, List.setIfInBounds_toArray, List.set_cons_zero, List.set_cons_succ]
      refine wpAnyH_take (i := 2) (oi := { dst := some 24, op := Op.indexAddr 24 (Operand.tmp 22) (Operand.tmp 23), type := 0, pos := "l09_ledger.go:24", after := #[{ on := 0, ground := Ground.data }, { on := 1, ground := Ground.data }], guard := none }) (v := ?_) rfl (by kernel_rfl) (by kernel_rfl) (by kernel_rfl) (fun _ _ _ h => h) (Or.inl ⟨by rfl, ?_⟩) (by assumption) ?_
      rotate_left
      · (intro w hSw; (try dsimp only at hSw); go_simp) <;> with_reducible rfl
      try simp only [Act.put, List.setIfInBounds_toArray, List.set_cons_zero, List.set_cons_succ]
      refine wpAnyH_take (i := 3) (oi := { dst := some 25, op := Op.fieldAddr 74 (Operand.tmp 24) 0, type := 0, pos := "l09_ledger.go:24", after := #[{ on := 2, ground := Ground.data }], guard := none }) (v := ?_) rfl (by kernel_rfl) (by kernel_rfl) (by kernel_rfl) (fun _ _ _ h => h) (Or.inl ⟨by rfl, ?_⟩) (by assumption) ?_
      rotate_left
      · (intro w hSw; (try dsimp only at hSw); go_simp) <;> with_reducible rfl
      try simp only [Act.put, List.setIfInBounds_toArray, List.set_cons_zero, List.set_cons_succ]
      refine wpAnyH_take (i := 4) (oi := { dst := some 26, op := Op.load 9 (Operand.tmp 25), type := 9, pos := "l09_ledger.go:24", after := #[{ on := 3, ground := Ground.data }], guard := none }) (v := ?_) rfl (by kernel_rfl) (by kernel_rfl) (by kernel_rfl) (fun _ _ _ h => h) (Or.inl ⟨by rfl, ?_⟩) (by assumption) ?_
      rotate_left
      · (intro w hSw; (try dsimp only at hSw); go_simp) <;> with_reducible rfl
      try simp only [Act.put, List.setIfInBounds_toArray, List.set_cons_zero, List.set_cons_succ]
      refine wpAnyH_take (i := 5) (oi := { dst := some 27, op := Op.move (Operand.tmp 2), type := 2, pos := "l09_ledger.go:24", after := #[], guard := none }) (v := ?_) rfl (by kernel_rfl) (by kernel_rfl) (by kernel_rfl) (fun _ _ _ h => h) (Or.inl ⟨by rfl, ?_⟩) (by assumption) ?_
      rotate_left
      · (intro w hSw; (try dsimp only at hSw); go_simp) <;> with_reducible rfl
      try simp only [Act.put, List.setIfInBounds_toArray, List.set_cons_zero, List.set_cons_succ]
      refine wpAnyH_take (i := 6) (oi := { dst := some 28, op := Op.move (Operand.tmp 1), type := 24, pos := "l09_ledger.go:24", after := #[], guard := none }) (v := ?_) rfl (by kernel_rfl) (by kernel_rfl) (by kernel_rfl) (fun _ _ _ h => h) (Or.inl ⟨by rfl, ?_⟩) (by assumption) ?_
      rotate_left
      · (intro w hSw; (try dsimp only at hSw); go_simp) <;> with_reducible rfl
      try simp only [Act.put, List.setIfInBounds_toArray, List.set_cons_zero, List.set_cons_succ]
      refine wpAnyH_take (i := 7) (oi := { dst := some 29, op := Op.move (Operand.tmp 8), type := 3, pos := "l09_ledger.go:24", after := #[], guard := none }) (v := ?_) rfl (by kernel_rfl) (by kernel_rfl) (by kernel_rfl) (fun _ _ _ h => h) (Or.inl ⟨by rfl, ?_⟩) (by assumption) ?_
      rotate_left
      · (intro w hSw; (try dsimp only at hSw); go_simp) <;> with_reducible rfl
      try simp only [Act.put, List.setIfInBounds_toArray, List.set_cons_zero, List.set_cons_succ]
      refine wpAnyH_take (i := 8) (oi := { dst := some 30, op := Op.indexAddr 24 (Operand.tmp 28) (Operand.tmp 29), type := 0, pos := "l09_ledger.go:24", after := #[{ on := 6, ground := Ground.data }, { on := 7, ground := Ground.data }], guard := none }) (v := ?_) rfl (by kernel_rfl) (by kernel_rfl) (by kernel_rfl) (fun _ _ _ h => h) (Or.inl ⟨by rfl, ?_⟩) (by assumption) ?_
      rotate_left
      · (intro w hSw; (try dsimp only at hSw); go_simp) <;> with_reducible rfl
      try simp only [Act.put, List.setIfInBounds_toArray, List.set_cons_zero, List.set_cons_succ]
      refine wpAnyH_take (i := 9) (oi := { dst := some 31, op := Op.fieldAddr 74 (Operand.tmp 30) 1, type := 0, pos := "l09_ledger.go:24", after := #[{ on := 8, ground := Ground.data }], guard := none }) (v := ?_) rfl (by kernel_rfl) (by kernel_rfl) (by kernel_rfl) (fun _ _ _ h => h) (Or.inl ⟨by rfl, ?_⟩) (by assumption) ?_
      rotate_left
      · (intro w hSw; (try dsimp only at hSw); go_simp) <;> with_reducible rfl
      try simp only [Act.put, List.setIfInBounds_toArray, List.set_cons_zero, List.set_cons_succ]
      refine wpAnyH_take (i := 10) (oi := { dst := some 32, op := Op.load 2 (Operand.tmp 31), type := 2, pos := "l09_ledger.go:24", after := #[{ on := 9, ground := Ground.data }], guard := none }) (v := ?_) rfl (by kernel_rfl) (by kernel_rfl) (by kernel_rfl) (fun _ _ _ h => h) (Or.inl ⟨by rfl, ?_⟩) (by assumption) ?_
      rotate_left
      · (intro w hSw; (try dsimp only at hSw); go_simp) <;> with_reducible rfl
      try simp only [Act.put, List.setIfInBounds_toArray, List.set_cons_zero, List.set_cons_succ]
      refine wpAnyH_take (i := 11) (oi := { dst := some 33, op := Op.binOp BinOp.mul 2 (Operand.tmp 27) (Operand.tmp 32) 2, type := 2, pos := "l09_ledger.go:24", after := #[{ on := 5, ground := Ground.data }, { on := 10, ground := Ground.data }], guard := none }) (v := ?_) rfl (by kernel_rfl) (by kernel_rfl) (by kernel_rfl) (fun _ _ _ h => h) (Or.inl ⟨by rfl, ?_⟩) (by assumption) ?_
      rotate_left
      · (intro w hSw; (try dsimp only at hSw); go_simp) <;> with_reducible rfl
      try simp only [Act.put, List.setIfInBounds_toArray, List.set_cons_zero, List.set_cons_succ]
      refine wpAnyH_take (i := 12) (oi := { dst := some 34, op := Op.build 74 #[(0, Operand.tmp 26), (1, Operand.tmp 33)], type := 74, pos := "l09_ledger.go:24", after := #[{ on := 4, ground := Ground.data }, { on := 11, ground := Ground.data }], guard := none }) (v := ?_) rfl (by kernel_rfl) (by kernel_rfl) (by kernel_rfl) (fun _ _ _ h => h) (Or.inl ⟨by rfl, ?_⟩) (by assumption) ?_
      rotate_left
      · (intro w hSw; (try dsimp only at hSw); go_simp) <;> with_reducible rfl
      try simp only [Act.put, List.setIfInBounds_toArray, List.set_cons_zero, List.set_cons_succ]
      refine wpAnyH_ready (rs := [13]) (by kernel_rfl) (by simp) ?_
      refine AllReadyH.cons (o := { dst := some 9, op := Op.alloc 74, type := 0, pos := "l09_ledger.go:24", after := #[], guard := none }) rfl (fun K hK => ?_) AllReadyH.nil
      go_simp
      try go_wp2_with fail
      have hk1 := LB.below (w := w) (b := b0) (o := off + k * 2) (xi := xi) (xn := xn) HS0.out (al _ (.cells #[.string ⟨#[]⟩, .int .i64 0] 74))
      refine hK.out _ _ hk1 (fun _ => ?_)
      clear hK K
      try simp only [Act.put, List.setIfInBounds_toArray, List.set_cons_zero, List.set_cons_succ]
      refine wpAnyH_ready (rs := [14]) (by kernel_rfl) (by simp) ?_
      refine AllReadyH.cons (o := { dst := none, op := Op.store 74 (Operand.tmp 9) (Operand.tmp 34), type := 0, pos := "l09_ledger.go:24", after := #[{ on := 13, ground := Ground.data }, { on := 12, ground := Ground.data }, { on := 0, ground := Ground.phase }, { on := 1, ground := Ground.phase }, { on := 2, ground := Ground.phase }, { on := 3, ground := Ground.phase }, { on := 4, ground := Ground.phase }, { on := 5, ground := Ground.phase }, { on := 6, ground := Ground.phase }, { on := 7, ground := Ground.phase }, { on := 8, ground := Ground.phase }, { on := 9, ground := Ground.phase }, { on := 10, ground := Ground.phase }, { on := 11, ground := Ground.phase }, { on := 12, ground := Ground.phase }, { on := 13, ground := Ground.phase }], guard := none }) rfl (fun K hK => ?_) AllReadyH.nil
      go_simp
      try go_wp2_with fail
      have hk2 := LB.below (w := w) (b := b0) (o := off + k * 2) (xi := xi) (xn := xn) HS0.out (al _ (.cells #[.string xi, .int .i64 Y] 74))
      refine hK.out _ _ hk2 (fun _ => ?_)
      clear hK K
      try simp only [Act.put, List.setIfInBounds_toArray, List.set_cons_zero, List.set_cons_succ]
      refine wpAnyH_done (by kernel_rfl) ?_ _
      obtain ⟨W1, hW1⟩ : ∃ W1, W1 = (wr.alloc (.cells #[.string xi, .int .i64 Y] 74)).drew := ⟨_, rfl⟩
      have HX1 : Hid (BlkW wr.heap.size [.string xi, .int .i64 Y] W1) := hid_intro (by rw [hW1]; exact HX0.out)
      have HV1 : Hid (OwnN W1 w.heap.size (.slice (some ⟨g, 0, none⟩) L1.length cap) L1) := hid_intro (by rw [hW1]; exact HV0.out)
      have HW1 : Hid (Below w.heap.size w W1) := hid_intro (by rw [hW1]; exact HW0.out)
      have HG1 : Hid (Lis (some ⟨g, 0, none⟩) L1 W1) := hid_intro (by rw [hW1]; exact HG5.out.below (Below.trans (Below.refl _ _).drew (al wr.drew _)))
      have hwl := HX1.out.1.1
      have x0 : W1.cell? ⟨wr.heap.size, 0, none⟩ = some (.string xi) := HX1.out.1.2 0 (by simp)
      have x1 : W1.cell? ⟨wr.heap.size, 1, none⟩ = some (.int .i64 Y) := HX1.out.1.2 1 (by simp)
      have HC := hid_intro (sline g 0 cap L1 xi Y W1 (by have := HLk.out; omega) (by have := HL1.out; omega) hg2 HG1.out)
      rw [← HL1.out] at HC
      have HGX : Hid (g < wr.heap.size ∧ w.heap.size ≤ wr.heap.size) := hid_intro ⟨hg4, by have := HS0.out.1.size; simpa using this⟩
      rw [← hW1]
      clear hW1 HX0 HV0 HW0 HS0 HG5 hk1 hk2
      generalize wr.heap.size = wx at *
      clear c0 c1 hbl
      go_wp2_with fail
      refine HC.out.mono ?_
      rintro e w2 (⟨hf, rfl, hb⟩ | ⟨hf, ⟨v, rfl, ho⟩, hb⟩)
      · have HF := hid_intro hf
        have HX2 := hid_intro (HX1.out.below hb)
        have HV2 := hid_intro (HV1.out.below hb)
        have HW2 := hid_intro (HW1.out.trans (hb.mono HW1.out.size))
        rw [← HL1.out]
        have hl1b : l1 ≤ 100400 := by have := HLk.out; have := HL1.out; omega
        clear hf hb x0 x1 hwl HX1 HV1 HW1 HG1 HC
        go_wp2_with fail
        go_loopw [12] (fun z wq => ∃ k2 : Nat, k2 ≤ l1 ∧ z = .int .i64 k2 ∧ Hid (wq.ownsRow w.heap.size 74 2 (.slice (some ⟨g, 0, none⟩) l1 cap) l1 (cellsAll N.cells (mix L1 ⟨xi, Y⟩ k2))) ∧ Hid (BlkW wx [.string xi, .int .i64 Y] wq) ∧ Hid (Below w.heap.size w wq)) (fun z _ => l1 - (intOf z).toNat)
        case atStart => exact ⟨0, by omega, rfl, hid_intro (by have h := HV2.out.1; rw [← HL1.out] at h; simpa [mix] using h), HX2, HW2⟩
        case round =>
          obtain ⟨wq, hwq⟩ : ∃ wq, wq = wr := ⟨_, rfl⟩
          subst hwq
          obtain ⟨k2, hk2, rfl, HO, HX, HW⟩ := hrel
          clear HX2 HV2 HW2
          have hwl := HX.out.1.1
          have x0 : wq.cell? ⟨wx, 0, none⟩ = some (.string xi) := HX.out.1.2 0 (by simp)
          by_cases hq : k2 < l1
          · have hq2 : (k2 : Int) < (l1 : Int) := by omega
            have hql : k2 < L1.length := by have := HL1.out; omega
            have HMM := hid_intro (mix_more L1 ⟨xi, Y⟩ k2 hql)
            have HMA := hid_intro (mix_at L1 ⟨xi, Y⟩ k2 hql)
            have HML := hid_intro (mix_len L1 ⟨xi, Y⟩ k2)
            have HSS2 := hid_intro (set_self (mix L1 ⟨xi, Y⟩ k2) k2 (by rw [mix_len]; exact hql))
            have HCS := hid_intro (fun m => cells_set (mix L1 ⟨xi, Y⟩ k2) k2 m (by rw [mix_len]; exact hql))
            have hyb := HBD.out _ (getD_mem (z := N.zero) L1 k2 hql)
            have HO' : Hid (wq.ownsRow w.heap.size 74 2 (.slice (some ⟨g, 0, none⟩) (mix L1 ⟨xi, Y⟩ k2).length cap) (mix L1 ⟨xi, Y⟩ k2).length (cellsAll N.cells (mix L1 ⟨xi, Y⟩ k2))) := hid_intro (by rw [mix_len, ← HL1.out]; exact HO.out)
            have HPT := hid_intro (lis_pt HO'.out)
            obtain ⟨ao, cp, e1, hmm⟩ := own_made (z := N.zero) N.len HO'.out
            simp only [Value.slice.injEq] at e1
            obtain ⟨rfl, _, rfl⟩ := e1
            obtain ⟨hgl, d0, d1⟩ := lis_two hmm.rws k2 (by rw [mix_len]; exact hql)
            have hfz := HPT.out.free (k2 * 2 + 1) (by rw [mix_len]; omega)
            rw [HMA.out, Nat.zero_add] at d0 d1
            rw [HMA.out] at HSS2 HCS
            generalize L1.getD k2 N.zero = Z at *
            obtain ⟨yi, yn⟩ := Z
            dsimp only at d0 d1 hyb HSS2 HCS
            clear HO' hmm HMA
            by_cases he : yi = xi
            · have he2 := he.symm
              subst he2
              have HN : Hid (mix L1 ⟨xi, Y⟩ (k2 + 1) = (mix L1 ⟨xi, Y⟩ k2).set k2 ⟨xi, yn + Y⟩) := hid_intro (by rw [HMM.out]; unfold upd; rw [if_pos rfl])
              have he3 : (xi.toList == xi.toList) = true := by simp
              have hwz : IntKind.i64.wrap (yn + Y) = yn + Y := i_in (by have := HB1.out; have := HYB.out; omega)
              have hcl : k2 * 2 + 1 < (cellsAll N.cells (mix L1 ⟨xi, Y⟩ k2)).length := by rw [cellsAll_len N.len, mix_len]; omega
              have HON := hid_intro (fun (W : World) (h : W.ownsRow w.heap.size 74 2 (.slice (some ⟨g, 0, none⟩) l1 cap) l1 (cellsAll N.cells (mix L1 ⟨xi, Y⟩ k2))) => own_row_set (j := k2 * 2 + 1) (u := .int .i64 (yn + Y)) h hcl)
              rw [HCS.out (yn + Y), ← HN.out] at HON
              clear HN HCS HSS2 HMM hcl HML hyb he
              generalize mix L1 ⟨xi, Y⟩ k2 = M2 at *
              go_wp2_with fail
              go_quiet (fail)
              obtain ⟨W3, hW3⟩ : ∃ W3, W3 = wq.drewN nq := ⟨_, rfl⟩
              rw [← hW3]
              have HD3 : Hid (Below wq.heap.size wq W3) := hid_intro (by rw [hW3]; exact bdn (Below.refl _ _) _)
              clear hW3
              have HO3 := hid_intro (own_below HO.out HD3.out)
              have HX3 := hid_intro (HX.out.below HD3.out)
              have HW3 := hid_intro (HW.out.trans (HD3.out.mono HW.out.size))
              have p1 : W3.cell? ⟨g, k2 * 2 + 1, none⟩ = some (.int .i64 yn) := (HD3.out.cell (p := ⟨g, k2 * 2 + 1, none⟩) hgl).trans d1
              have pf : W3.frozen? ⟨g, k2 * 2 + 1, none⟩ = false := (World.frozen?_of_block (a := ⟨g, k2 * 2 + 1, none⟩) (HD3.out.block g hgl)).trans hfz
              have hgl3 : g < W3.heap.size := by have := HD3.out.size; omega
              have HS3 : Hid (g < W3.drew.heap.size ∧ wx < W3.drew.heap.size ∧ W3.drew.cell? ⟨wx, 1, none⟩ = some (.int .i64 Y)) := hid_intro ⟨hgl3, HX3.out.1.1, HX3.out.1.2 1 (by simp)⟩
              have HSC : Hid ((W3.drew.setCell ⟨g, k2 * 2 + 1, none⟩ (.int .i64 (yn + Y))).cell? ⟨wx, 1, none⟩ = some (.int .i64 Y)) := hid_intro ((DocR.BlkW.other (HX3.out.below (Below.refl _ _).drew) g (k2 * 2 + 1) (.int .i64 (yn + Y)) (by have := HGX.out; omega)).1.2 1 (by simp))
              clear HO HX HW d0 d1 hgl hfz x0 hwl
              go_wp2_with fail
              refine wp_region_held_drew (S := (fun W => g < W.heap.size ∧ wx < W.heap.size ∧ W.cell? ⟨wx, 1, none⟩ = some (.int .i64 Y))) (by kernel_rfl) HS3.out (fun hHeld => ?_)
              refine wpAnyH_take (i := 0) (oi := { dst := some 57, op := Op.move (Operand.tmp 7), type := 24, pos := "l09_ledger.go:32", after := #[], guard := none }) (v := ?_) rfl (by kernel_rfl) (by kernel_rfl) (by kernel_rfl) (fun _ _ _ h => h) (Or.inl ⟨by rfl, ?_⟩) (by assumption) ?_
              rotate_left
              · (intro w hSw; (try dsimp only at hSw); go_simp) <;> with_reducible rfl
              try simp only [Act.put, List.setIfInBounds_toArray, List.set_cons_zero, List.set_cons_succ]
              refine wpAnyH_take (i := 1) (oi := { dst := some 58, op := Op.move (Operand.tmp 12), type := 3, pos := "l09_ledger.go:32", after := #[], guard := none }) (v := ?_) rfl (by kernel_rfl) (by kernel_rfl) (by kernel_rfl) (fun _ _ _ h => h) (Or.inl ⟨by rfl, ?_⟩) (by assumption) ?_
              rotate_left
              · (intro w hSw; (try dsimp only at hSw); go_simp) <;> with_reducible rfl
              try simp only [Act.put, List.setIfInBounds_toArray, List.set_cons_zero, List.set_cons_succ]
              refine wpAnyH_take (i := 2) (oi := { dst := some 59, op := Op.move (Operand.tmp 7), type := 24, pos := "l09_ledger.go:32", after := #[], guard := none }) (v := ?_) rfl (by kernel_rfl) (by kernel_rfl) (by kernel_rfl) (fun _ _ _ h => h) (Or.inl ⟨by rfl, ?_⟩) (by assumption) ?_
              rotate_left
              · (intro w hSw; (try dsimp only at hSw); go_simp) <;> with_reducible rfl
              try simp only [Act.put, List.setIfInBounds_toArray, List.set_cons_zero, List.set_cons_succ]
              refine wpAnyH_take (i := 3) (oi := { dst := some 60, op := Op.move (Operand.tmp 12), type := 3, pos := "l09_ledger.go:32", after := #[], guard := none }) (v := ?_) rfl (by kernel_rfl) (by kernel_rfl) (by kernel_rfl) (fun _ _ _ h => h) (Or.inl ⟨by rfl, ?_⟩) (by assumption) ?_
              rotate_left
              · (intro w hSw; (try dsimp only at hSw); go_simp) <;> with_reducible rfl
              try simp only [Act.put, List.setIfInBounds_toArray, List.set_cons_zero, List.set_cons_succ]
              refine wpAnyH_take (i := 4) (oi := { dst := some 61, op := Op.indexAddr 24 (Operand.tmp 59) (Operand.tmp 60), type := 0, pos := "l09_ledger.go:32", after := #[{ on := 2, ground := Ground.data }, { on := 3, ground := Ground.data }], guard := none }) (v := ?_) rfl (by kernel_rfl) (by kernel_rfl) (by kernel_rfl) (fun _ _ _ h => h) (Or.inl ⟨by rfl, ?_⟩) (by assumption) ?_
              rotate_left
              · (intro w hSw; (try dsimp only at hSw); go_simp) <;> with_reducible rfl
              try simp only [Act.put, List.setIfInBounds_toArray, List.set_cons_zero, List.set_cons_succ]
              refine wpAnyH_take (i := 5) (oi := { dst := some 62, op := Op.fieldAddr 74 (Operand.tmp 61) 1, type := 0, pos := "l09_ledger.go:32", after := #[{ on := 4, ground := Ground.data }], guard := none }) (v := ?_) rfl (by kernel_rfl) (by kernel_rfl) (by kernel_rfl) (fun _ _ _ h => h) (Or.inl ⟨by rfl, ?_⟩) (by assumption) ?_
              rotate_left
              · (intro w hSw; (try dsimp only at hSw); go_simp) <;> with_reducible rfl
              try simp only [Act.put, List.setIfInBounds_toArray, List.set_cons_zero, List.set_cons_succ]
              refine wpAnyH_take (i := 7) (oi := { dst := some 64, op := Op.fieldAddr 74 (Operand.tmp 9) 1, type := 0, pos := "l09_ledger.go:32", after := #[], guard := none }) (v := ?_) rfl (by kernel_rfl) (by kernel_rfl) (by kernel_rfl) (fun _ _ _ h => h) (Or.inl ⟨by rfl, ?_⟩) (by assumption) ?_
              rotate_left
              · (intro w hSw; (try dsimp only at hSw); go_simp) <;> with_reducible rfl
              try simp only [Act.put, List.setIfInBounds_toArray, List.set_cons_zero, List.set_cons_succ]
              refine wpAnyH_take (i := 8) (oi := { dst := some 65, op := Op.load 2 (Operand.tmp 64), type := 2, pos := "l09_ledger.go:32", after := #[{ on := 7, ground := Ground.data }], guard := none }) (v := ?_) rfl (by kernel_rfl) (by kernel_rfl) (by kernel_rfl) (fun _ _ _ h => h) (Or.inl ⟨by rfl, ?_⟩) (by assumption) ?_
              rotate_left
              · (intro w hSw; (try dsimp only at hSw); go_simp) <;> with_reducible rfl
              try simp only [Act.put, List.setIfInBounds_toArray, List.set_cons_zero, List.set_cons_succ]
              refine wpAnyH_ready (rs := [6]) (by kernel_rfl) (by simp) ?_
              refine AllReadyH.cons (o := { dst := some 63, op := Op.load 2 (Operand.tmp 62), type := 2, pos := "l09_ledger.go:32", after := #[{ on := 5, ground := Ground.data }], guard := none }) rfl (fun K hK => ?_) AllReadyH.nil
              go_simp
              try go_wp2_with fail
              refine hK.out _ _ HS3.out (fun _ => ?_)
              clear hK K
              try simp only [Act.put, List.setIfInBounds_toArray, List.set_cons_zero, List.set_cons_succ]
              refine wpAnyH_take (i := 9) (oi := { dst := some 66, op := Op.binOp BinOp.add 2 (Operand.tmp 63) (Operand.tmp 65) 2, type := 2, pos := "l09_ledger.go:32", after := #[{ on := 6, ground := Ground.data }, { on := 8, ground := Ground.data }], guard := none }) (v := ?_) rfl (by kernel_rfl) (by kernel_rfl) (by kernel_rfl) (fun _ _ _ h => h) (Or.inl ⟨by rfl, ?_⟩) (by assumption) ?_
              rotate_left
              · (intro w hSw; (try dsimp only at hSw); go_simp) <;> with_reducible rfl
              try simp only [Act.put, List.setIfInBounds_toArray, List.set_cons_zero, List.set_cons_succ]
              refine wpAnyH_take (i := 10) (oi := { dst := some 67, op := Op.indexAddr 24 (Operand.tmp 57) (Operand.tmp 58), type := 0, pos := "l09_ledger.go:32", after := #[{ on := 0, ground := Ground.data }, { on := 1, ground := Ground.data }, { on := 0, ground := Ground.phase }, { on := 1, ground := Ground.phase }, { on := 2, ground := Ground.phase }, { on := 3, ground := Ground.phase }, { on := 4, ground := Ground.phase }, { on := 5, ground := Ground.phase }, { on := 6, ground := Ground.phase }, { on := 7, ground := Ground.phase }, { on := 8, ground := Ground.phase }, { on := 9, ground := Ground.phase }], guard := none }) (v := ?_) rfl (by kernel_rfl) (by kernel_rfl) (by kernel_rfl) (fun _ _ _ h => h) (Or.inl ⟨by rfl, ?_⟩) (by assumption) ?_
              rotate_left
              · (intro w hSw; (try dsimp only at hSw); go_simp) <;> with_reducible rfl
              try simp only [Act.put, List.setIfInBounds_toArray, List.set_cons_zero, List.set_cons_succ]
              refine wpAnyH_take (i := 11) (oi := { dst := some 68, op := Op.fieldAddr 74 (Operand.tmp 67) 1, type := 0, pos := "l09_ledger.go:32", after := #[{ on := 10, ground := Ground.data }, { on := 0, ground := Ground.phase }, { on := 1, ground := Ground.phase }, { on := 2, ground := Ground.phase }, { on := 3, ground := Ground.phase }, { on := 4, ground := Ground.phase }, { on := 5, ground := Ground.phase }, { on := 6, ground := Ground.phase }, { on := 7, ground := Ground.phase }, { on := 8, ground := Ground.phase }, { on := 9, ground := Ground.phase }], guard := none }) (v := ?_) rfl (by kernel_rfl) (by kernel_rfl) (by kernel_rfl) (fun _ _ _ h => h) (Or.inl ⟨by rfl, ?_⟩) (by assumption) ?_
              rotate_left
              · (intro w hSw; (try dsimp only at hSw); go_simp) <;> with_reducible rfl
              try simp only [Act.put, List.setIfInBounds_toArray, List.set_cons_zero, List.set_cons_succ]
              refine wpAnyH_ready (rs := [12]) (by kernel_rfl) (by simp) ?_
              refine AllReadyH.cons (o := { dst := none, op := Op.store 2 (Operand.tmp 68) (Operand.tmp 66), type := 0, pos := "l09_ledger.go:32", after := #[{ on := 11, ground := Ground.data }, { on := 9, ground := Ground.data }, { on := 0, ground := Ground.phase }, { on := 1, ground := Ground.phase }, { on := 2, ground := Ground.phase }, { on := 3, ground := Ground.phase }, { on := 4, ground := Ground.phase }, { on := 5, ground := Ground.phase }, { on := 6, ground := Ground.phase }, { on := 7, ground := Ground.phase }, { on := 8, ground := Ground.phase }, { on := 9, ground := Ground.phase }], guard := none }) rfl (fun K hK => ?_) AllReadyH.nil
              go_simp
              try go_wp2_with fail
              have hk3 : g < (W3.drew.setCell ⟨g, k2 * 2 + 1, none⟩ (.int .i64 (yn + Y))).heap.size ∧ wx < (W3.drew.setCell ⟨g, k2 * 2 + 1, none⟩ (.int .i64 (yn + Y))).heap.size ∧ (W3.drew.setCell ⟨g, k2 * 2 + 1, none⟩ (.int .i64 (yn + Y))).cell? ⟨wx, 1, none⟩ = some (.int .i64 Y) := ⟨by simpa using hgl3, by simpa using HX3.out.1.1, HSC.out⟩
              refine hK.out _ _ hk3 (fun _ => ?_)
              clear hK K
              try simp only [Act.put, List.setIfInBounds_toArray, List.set_cons_zero, List.set_cons_succ]
              refine wpAnyH_done (by kernel_rfl) ?_ _
              obtain ⟨W5, hW5⟩ : ∃ W5, W5 = (W3.setCell ⟨g, k2 * 2 + 1, none⟩ (.int .i64 (yn + Y))).drew := ⟨_, rfl⟩
              have HO5 : Hid (W5.ownsRow w.heap.size 74 2 (.slice (some ⟨g, 0, none⟩) l1 cap) l1 (cellsAll N.cells (mix L1 ⟨xi, Y⟩ (k2 + 1)))) := hid_intro (by rw [hW5]; exact HON.out _ (own_drew HO3.out))
              have HX5 : Hid (BlkW wx [.string xi, .int .i64 Y] W5) := hid_intro (by rw [hW5]; exact DocR.BlkW.other (HX3.out.below (Below.refl _ _).drew) g _ _ (by have := HGX.out; omega))
              have HW5 : Hid (Below w.heap.size w W5) := hid_intro (by rw [hW5]; exact HW3.out.drew.setCell (by have := HGX.out; omega) _)
              rw [← hW5]
              clear hW5 p1 pf hgl3 HS3 HO3 HX3 HW3
              go_wp2_with fail
              go_roundw
              case rel => exact ⟨k2 + 1, by omega, by go_num, HO5, HX5, HW5⟩
              case measure => simp [intOf]; omega
            · have he3 : (yi.toList == xi.toList) = false := by simpa using fun e => he (toList_inj e)
              have HN : Hid (mix L1 ⟨xi, Y⟩ (k2 + 1) = mix L1 ⟨xi, Y⟩ k2) := hid_intro (by rw [HMM.out]; unfold upd; rw [if_neg he]; exact HSS2.out)
              go_wp2_with fail
              go_quiet (fail)
              obtain ⟨W3, hW3⟩ : ∃ W3, W3 = wq.drewN nq := ⟨_, rfl⟩
              rw [← hW3]
              have HD3 : Hid (Below wq.heap.size wq W3) := hid_intro (by rw [hW3]; exact bdn (Below.refl _ _) _)
              clear hW3
              have HO3 := hid_intro (own_below HO.out HD3.out)
              have HX3 := hid_intro (HX.out.below HD3.out)
              have HW3 := hid_intro (HW.out.trans (HD3.out.mono HW.out.size))
              go_wp2_with fail
              go_roundw
              case rel => exact ⟨k2 + 1, by omega, by go_num, hid_intro (by rw [HN.out]; exact HO3.out), HX3, HW3⟩
              case measure => simp [intOf]; omega
          · have hq2 : ¬ (k2 : Int) < (l1 : Int) := by omega
            obtain rfl : k2 = l1 := by omega
            have HEM := hid_intro (mix_end (x := ⟨xi, Y⟩) HRk.out HF.out)
            have HO9 : Hid (OwnN wq w.heap.size (.slice (some ⟨g, 0, none⟩) k2 cap) (put L1 ⟨xi, Y⟩)) := hid_intro (by
              have h := HO.out
              have e : k2 = (put L1 ⟨xi, Y⟩).length := by rw [← HEM.out, mix_len]; exact HL1.out
              have e2 : mix L1 ⟨xi, Y⟩ k2 = put L1 ⟨xi, Y⟩ := by rw [HL1.out]; exact HEM.out
              rw [e2] at h
              exact ⟨by rw [← e]; exact h, fun e => by cases e⟩)
            go_wp2_with fail
            go_roundw
            case rel => exact ⟨k + 1, by omega, by go_num, hid_intro (by rw [HM2.out]; exact HO9.out), hid_intro (by rw [HM2.out]; intro y hy; have := HPB.out y hy; omega), HW⟩
            case measure => simp [intOf]; omega
      · have HV2 : Hid (OwnN w2 w.heap.size v (put L1 ⟨xi, Y⟩)) := hid_intro (own_nonnil (own_low ho HW1.out.size) (put_pos _ _))
        have HW2 := hid_intro (HW1.out.trans (hb.mono HW1.out.size))
        clear hf ho hb
        go_wp2_with fail
        go_roundw
        case rel => exact ⟨k + 1, by omega, by go_num, hid_intro (by rw [HM2.out]; exact HV2.out), hid_intro (by rw [HM2.out]; intro y hy; have := HPB.out y hy; omega), HW2⟩
        case measure => simp [intOf]; omega
    · have hlt2 : ¬ (k : Int) < (len : Int) := by omega
      obtain rfl : k = len := by omega
      rw [HEND.out] at HV
      go_wp2_with fail
      go_ret
      exact ⟨_, rfl, HV.out, HW.out⟩
end NetR
end Go.Proofs.YtlfebpgohpmknaaGreatDoor
namespace Go.Proofs.YtlfebpgohpmknaaGreatDoor
open Go.ChangeShapes Go.WideShapes Go.ChangeAt Go.RowKit
set_option linter.unusedVariables false
namespace StR
open EvtR (Pt cell_put cell_far)
open CatR (Blk)
/-- The cells from a place on are written. -/
def stL (W : World) (p : Nat) : Nat → List Value → World
  | _, [] => W
  | o, v :: vs => stL (W.setCell ⟨p, o, none⟩ v) p (o + 1) vs
theorem gtr {w w1 w2 : World} {g : Option Nat} (h1 : w.grownBy w1 g) (h2 : w1.grownBy w2 g) : w.grownBy w2 g :=
  ⟨h2.os.trans h1.os, h2.tape.trans h1.tape, h2.output.trans h1.output, Nat.le_trans h1.size h2.size, fun k hk hne => (h2.block k (by have := h1.size; omega) hne).trans (h1.block k hk hne)⟩
theorem stL_grown (p : Nat) : ∀ (vs : List Value) (o : Nat) (W : World), W.grownBy (stL W p o vs) (some p)
  | [], _, W => ⟨rfl, rfl, rfl, Nat.le_refl _, fun _ _ _ => rfl⟩
  | v :: vs, o, W => gtr (RowG.grown_set W p o v) (stL_grown p vs (o + 1) _)
theorem stL_pt {p n : Nat} : ∀ (vs : List Value) (o : Nat) (W : World), Pt p n W → Pt p n (stL W p o vs)
  | [], _, _, h => h
  | v :: vs, o, W, h => stL_pt vs (o + 1) _ (h.set o v)
theorem stL_old {p : Nat} : ∀ (vs : List Value) (o : Nat) (W : World) (j : Nat), j < o → (stL W p o vs).cell? ⟨p, j, none⟩ = W.cell? ⟨p, j, none⟩
  | [], _, _, _, _ => rfl
  | v :: vs, o, W, j, hj => (stL_old vs (o + 1) _ j (by omega)).trans (cell_far o j (by omega) v)
theorem stL_cells {p n : Nat} : ∀ (vs : List Value) (o : Nat) (W : World), Pt p n W → o + vs.length ≤ n → ∀ i, i < vs.length → (stL W p o vs).cell? ⟨p, o + i, none⟩ = vs[i]?
  | [], _, _, _, _, i, hi => absurd hi (by simp)
  | v :: vs, o, W, hp, hn, i, hi => by
    simp only [List.length_cons] at hn hi
    cases i with
    | zero =>
      rw [Nat.add_zero]
      exact (stL_old vs (o + 1) _ o (by omega)).trans ((cell_put hp o (by omega) v).trans rfl)
    | succ i =>
      have := stL_cells vs (o + 1) (W.setCell ⟨p, o, none⟩ v) (hp.set o v) (by omega) i (by omega)
      rw [show o + 1 + i = o + (i + 1) by omega] at this
      exact this.trans rfl
theorem stL_blk {p n : Nat} {vs : List Value} {W : World} (hp : Pt p n W) (hn : vs.length ≤ n) : Blk p vs (stL W p 0 vs) :=
  ⟨(stL_pt vs 0 W hp).lt, fun i hi => by have := stL_cells vs 0 W hp (by omega) i hi; rw [Nat.zero_add] at this; exact this⟩
theorem pt_far {p q n : Nat} {W W' : World} (h : Pt p n W) (hg : W.grownBy W' (some q)) (hne : p ≠ q) : Pt p n W' := by
  have e := hg.block p h.lt (by simpa using hne)
  exact ⟨by have := hg.size; have := h.lt; omega, fun o ho => by obtain ⟨v, hv⟩ := h.has o ho; exact ⟨v, (World.cell?_of_block (a := ⟨p, o, none⟩) e).trans hv⟩, fun o ho => (World.frozen?_of_block (a := ⟨p, o, none⟩) e).trans (h.free o ho)⟩
theorem blk_far {p q : Nat} {cs : List Value} {W W' : World} (h : Blk p cs W) (hg : W.grownBy W' (some q)) (hne : p ≠ q) : Blk p cs W' := by
  have e := hg.block p h.1 (by simpa using hne)
  exact ⟨by have := hg.size; have := h.1; omega, fun i hi => (World.cell?_of_block (a := ⟨p, i, none⟩) e).trans (h.2 i hi)⟩
/-- A new block of cells may be written. -/
theorem pt_new (w : World) (cs : List Value) (T : TypeId) : Pt w.heap.size cs.length (w.alloc (.cells cs.toArray T)) :=
  ⟨by simp, fun o ho => ⟨cs[o], by simp [go_sem, ho]⟩, fun o ho => by simp [go_sem]⟩
end StR
end Go.Proofs.YtlfebpgohpmknaaGreatDoor
namespace Go.Proofs.YtlfebpgohpmknaaGreatDoor
open Go.ChangeShapes Go.WideShapes Go.ChangeAt Go.RowKit
set_option linter.unusedVariables false
namespace OwG
open RowG (MadeG Rws cellsAll)
open EvtR (Pt)
open CatR (Blk Blk.new)
open DocR (BlkW)
theorem gtransO {w w1 w2 : World} {g : Option Nat} (h1 : w.grownBy w1 g) (h2 : w1.grownBy w2 g) : w.grownBy w2 g :=
  ⟨h2.os.trans h1.os, h2.tape.trans h1.tape, h2.output.trans h1.output, Nat.le_trans h1.size h2.size, fun k hk hne => (h2.block k (by have := h1.size; omega) hne).trans (h1.block k hk hne)⟩
theorem rgrownO {w w' : World} (hb : Below w.heap.size w w') (row : Option Nat) : w.grownBy w' row := ⟨hb.os, hb.tape, hb.output, hb.size, fun k hk _ => hb.block k hk⟩
theorem gnewG {w wx wy : World} {g X : Nat} (h : w.grownBy wx (some g)) (hg : wx.grownBy wy (some X)) (hX : w.heap.size ≤ X) : w.grownBy wy (some g) := by
  refine ⟨hg.os.trans h.os, hg.tape.trans h.tape, hg.output.trans h.output, Nat.le_trans h.size hg.size, fun k hk hne => ?_⟩
  have hs := h.size
  exact (hg.block k (by omega) (by intro e; cases e; omega)).trans (h.block k hk hne)
theorem gnewR {w wx wy : World} {g : Nat} {row : Option Nat} (h : w.grownBy wx (some g)) (hg : wx.grownBy wy row) (hX : ∀ X, row = some X → w.heap.size ≤ X) : w.grownBy wy (some g) := by
  refine ⟨hg.os.trans h.os, hg.tape.trans h.tape, hg.output.trans h.output, Nat.le_trans h.size hg.size, fun k hk hne => ?_⟩
  have hs := h.size
  exact (hg.block k (by omega) (by intro e; have := hX k e.symm; omega)).trans (h.block k hk hne)
theorem galloc {w wx : World} {g : Nat} (h : w.grownBy wx (some g)) (o : Obj) : w.grownBy (wx.alloc o) (some g) := gtransO h (World.grownBy_alloc wx o _)
theorem blkW_grown {b : Nat} {cs : List Value} {w w' : World} {row : Option Nat} (h : BlkW b cs w) (hg : w.grownBy w' row) (hne : some b ≠ row) : BlkW b cs w' := by
  have e := hg.block b h.1.1 hne
  exact ⟨⟨Nat.lt_of_lt_of_le h.1.1 hg.size, fun i hi => (World.cell?_of_block (a := ⟨b, i, none⟩) e).trans (h.1.2 i hi)⟩, fun i hi => (World.frozen?_of_block (a := ⟨b, i, none⟩) e).trans (h.2 i hi)⟩
theorem blkW_pt {b n : Nat} {cs : List Value} {w : World} (h : BlkW b cs w) (hn : cs.length = n) : Pt b n w := by
  subst hn
  exact ⟨h.1.1, fun o ho => ⟨cs[o], by rw [h.1.2 o ho]; simp [ho]⟩, h.2⟩
theorem stL_blkW {b : Nat} {cs vs : List Value} {w : World} (h : BlkW b cs w) (hn : cs.length = vs.length) : BlkW b vs (StR.stL w b 0 vs) := by
  have hp := blkW_pt h hn
  exact ⟨StR.stL_blk hp (Nat.le_refl _), fun i hi => (StR.stL_pt vs 0 w hp).free i hi⟩
theorem pt_row {p n : Nat} {W W' : World} {row : Option Nat} (h : Pt p n W) (hg : W.grownBy W' row) (hne : some p ≠ row) : Pt p n W' := by
  have e := hg.block p h.lt hne
  exact ⟨by have := hg.size; have := h.lt; omega, fun o ho => by obtain ⟨v, hv⟩ := h.has o ho; exact ⟨v, (World.cell?_of_block (a := ⟨p, o, none⟩) e).trans hv⟩, fun o ho => (World.frozen?_of_block (a := ⟨p, o, none⟩) e).trans (h.free o ho)⟩
theorem own_keepG {w w' : World} {base e size n : Nat} {v : Value} {xs : List Value} {g : Nat} (h : w.ownsRow base e size v n xs) (hg : w.grownBy w' (some g)) (hlt : g < base) : w'.ownsRow base e size v n xs := by
  refine h.kept hg ?_
  rcases hob : v.ownBlock with _ | b
  · exact .inl rfl
  · refine .inr (fun e => ?_)
    have := (h.lt b hob).1
    simp only [Option.some.injEq] at e
    omega
theorem own_apart {w : World} {base e size n base' e' size' n' : Nat} {v v' : Value} {xs xs' : List Value} (h : w.ownsRow base e size v n xs) (h' : w.ownsRow base' e' size' v' n' xs') (hT : e' ≠ e) : ∀ b, v.ownBlock = some b → some b ≠ v'.ownBlock := by
  intro b hb q
  rcases h.2 with ⟨h0, _⟩ | ⟨g, cap, cur, hv, _, hh, _⟩
  · rw [h0] at hb; simp [Value.ownBlock] at hb
  · rw [hv] at hb
    simp only [Value.ownBlock, Option.some.injEq] at hb
    rcases h'.2 with ⟨h0, _⟩ | ⟨g2, cap2, cur2, hv2, _, hh2, _⟩
    · rw [h0] at q; simp [Value.ownBlock] at q
    · rw [hv2] at q
      simp only [Value.ownBlock, Option.some.injEq] at q
      subst hb
      subst q
      rw [hh2] at hh
      simp at hh
      exact hT hh.2
theorem own_keepO {w w' : World} {base e size n : Nat} {v : Value} {xs : List Value} {row : Option Nat} (h : w.ownsRow base e size v n xs) (hg : w.grownBy w' row) (hne : ∀ b, v.ownBlock = some b → some b ≠ row) : w'.ownsRow base e size v n xs := by
  refine h.kept hg ?_
  rcases hob : v.ownBlock with _ | b
  · exact .inl rfl
  · exact .inr (hne b hob)
theorem own_low {w : World} {base base' e size n : Nat} {v : Value} {xs : List Value} (h : w.ownsRow base e size v n xs) (hb : base' ≤ base) : w.ownsRow base' e size v n xs := by
  refine ⟨h.1, ?_⟩
  rcases h.2 with hn | ⟨g, cap, cur, rfl, h1, rest⟩
  · exact .inl hn
  · exact .inr ⟨g, cap, cur, rfl, by omega, rest⟩
theorem own_form {w : World} {base e size n : Nat} {v : Value} {xs : List Value} (h : w.ownsRow base e size v (n + 1) xs) : ∃ b c, v = .slice (some ⟨b, 0, none⟩) (n + 1) c := by
  rcases h.2 with ⟨_, h0⟩ | ⟨g, cap, cur, hv, _⟩
  · omega
  · exact ⟨_, _, hv⟩
theorem cellsAll_snoc {α : Type} (cells : α → List Value) (l : List α) (x : α) : cellsAll cells (l ++ [x]) = cellsAll cells l ++ cells x := by simp [cellsAll]
theorem stay {P : Nat → Option Nat} (h : ∀ k, P k = none → P (k + 1) = none) {i : Nat} (hi : P i = none) : ∀ n, P (i + n) = none
  | 0 => hi
  | n + 1 => h _ (stay h hi n)
theorem s_nil {s : ByteArray} (h : s.size = 0) : s = ⟨#[]⟩ := by
  apply ByteArray.ext
  exact Array.eq_empty_of_size_eq_zero h
/-- The cells of a new block of cells. -/
theorem new_cells (w : World) (cs : List Value) (T : TypeId) : ∀ j u, cs[j]? = some u → (w.alloc (.cells cs.toArray T)).cell? ((⟨w.heap.size, 0, none⟩ : Addr).add j) = some u := by
  intro j u hj
  have hl := (List.getElem?_eq_some_iff.1 hj).1
  have := (Blk.new w cs T).2 j hl
  rw [hj] at this
  rw [← this]
  congr 1
  unfold Addr.add; split <;> simp_all
end OwG
end Go.Proofs.YtlfebpgohpmknaaGreatDoor
namespace Go.Proofs.YtlfebpgohpmknaaGreatDoor
open Go.ChangeShapes Go.WideShapes Go.ChangeAt Go.RowKit
set_option linter.unusedVariables false
set_option linter.unusedSimpArgs false
namespace DrawR
open LinR RowG NetR
open EvtR (Pt)
open DocR (BlkW)
/-- A row of texts that are so. -/
def StrsP (P : ByteArray → Prop) (b n : Nat) (w : World) : Prop := b < w.heap.size ∧ ∀ j, j < n → ∃ T : ByteArray, w.cell? ⟨b, j, none⟩ = some (.string T) ∧ P T
theorem StrsP.grown {P : ByteArray → Prop} {b n : Nat} {w w' : World} {row : Option Nat} (h : StrsP P b n w) (hg : w.grownBy w' row) (hne : some b ≠ row) : StrsP P b n w' :=
  ⟨by have := hg.size; have := h.1; omega, fun j hj => by obtain ⟨T, h1, h2⟩ := h.2 j hj; exact ⟨T, hg.cell (a := ⟨b, j, none⟩) h1 hne, h2⟩⟩
set_option maxRecDepth 100000 in
set_option maxHeartbeats 4000000 in
theorem pick_P (P : ByteArray → Prop) (ao : Option Addr) (len cap g b n : Nat) (w : World) (hn : 2 ≤ n) (hn2 : n ≤ 100) (hbg : b ≠ g) (hS : Src ao len cap g w) (hT : StrsP P b n w) :
    Calls Tryz.prog 56 #[.pointer (some ⟨g, 0, none⟩), .slice (some ⟨b, 0, none⟩) n n] w fun e w' => (∃ T : ByteArray, e = .returned (.string T) ∧ P T) ∧ Src ao len cap g w' ∧ w.grownBy w' (some g) := by
  have HS := hid_intro hS
  have HT := hid_intro hT
  have hgl := hS.lt
  have hn3 : (2 : Int) ≤ (n : Int) := by omega
  have hn4 : (n : Int) ≤ 100 := by omega
  clear hS hT
  go_enter Tryz.func56, Tryz.ntmps56
  go_wp2_with fail
  refine (n_any ao len cap g n _ (by omega) HS.out).mono ?_
  rintro e w1 ⟨v, rfl, v0, _, v2, hS, hg⟩
  have v3 : v < n := v2 (by omega)
  obtain ⟨j, rfl⟩ : ∃ j : Nat, v = j := ⟨v.toNat, by omega⟩
  obtain ⟨T, hc, hK⟩ := (HT.out.grown hg (by simp; exact hbg)).2 j (by omega)
  have hbl := HT.out.1
  have hs1 := hg.size
  have HS1 := hid_intro hS
  have HG1 := hid_intro hg
  have HK := hid_intro hK
  clear hS hg v2 hK
  go_wp2
  go_ret
  exact ⟨⟨T, rfl, HK.out⟩, HS1.out, HG1.out⟩
/-- The names of drawn lines. -/
def kn : List ByteArray := [⟨#[99, 112, 117]⟩, ⟨#[100, 105, 115, 107]⟩, ⟨#[110, 101, 116]⟩, ⟨#[117, 115, 101, 114, 115]⟩, ⟨#[122, 122]⟩, ⟨#[65]⟩]
def Kn (T : ByteArray) : Prop := T ∈ kn
theorem Kn.size {T : ByteArray} (h : Kn T) : T.size ≤ 20 := by
  unfold Kn kn at h
  simp only [List.mem_cons, List.not_mem_nil, or_false] at h
  rcases h with rfl | rfl | rfl | rfl | rfl | rfl <;> decide
/-- What holds while lines are drawn. -/
structure LnD (ao : Option Addr) (len cap g : Nat) (w : World) (v : Value) (L : List N) (W : World) : Prop where
  src : Src ao len cap g W
  grew : w.grownBy W (some g)
  own : OwnN W w.heap.size v L
  nm : ∀ e ∈ L, Kn e.i
section
variable {ao : Option Addr} {len cap g : Nat} {w : World} {v : Value} {L : List N} {W W' : World}
theorem LnD.step (h : LnD ao len cap g w v L W) (hgl : g < w.heap.size) (hS : Src ao len cap g W') (hg : W.grownBy W' (some g)) : LnD ao len cap g w v L W' :=
  ⟨hS, Lib.grownBy_trans h.grew hg, ⟨OwG.own_keepG h.own.1 hg hgl, h.own.2⟩, h.nm⟩
theorem LnD.below (h : LnD ao len cap g w v L W) (hb : Below W.heap.size W W') : LnD ao len cap g w v L W' :=
  ⟨h.src.kept (row := none) (OwG.rgrownO hb none) (fun k e => by cases e), h.grew.andThen (OwG.rgrownO hb none) (fun k e => by cases e), h.own.below hb, h.nm⟩
theorem LnD.row {x : Nat} (h : LnD ao len cap g w v L W) (hgl : g < w.heap.size) (hg : W.grownBy W' (some x)) (hx : w.heap.size ≤ x) (hne : ∀ b, v.ownBlock = some b → b ≠ x) : LnD ao len cap g w v L W' :=
  ⟨h.src.kept hg (fun k e => by cases e; omega), h.grew.andThen hg (fun k e => by cases e; exact .inl hx), ⟨OwG.own_keepO h.own.1 hg (fun b hb e => hne b hb (by cases e; rfl)), h.own.2⟩, h.nm⟩
theorem LnD.new {v' : Value} {L' : List N} (h : LnD ao len cap g w v L W) (hb : Below W.heap.size W W') (ho : OwnN W' W.heap.size v' L') (hn : ∀ e ∈ L', Kn e.i) : LnD ao len cap g w v' L' W' :=
  ⟨(h.below hb).src, (h.below hb).grew, ⟨OwG.own_low ho.1 h.grew.size, ho.2⟩, hn⟩
end
theorem put_nm {L : List N} {x : N} (h : ∀ e ∈ L, Kn e.i) (hx : Kn x.i) : ∀ e ∈ put L x, Kn e.i := by
  have := all_i Kn [x] 1 h (by intro y hy; simp only [List.mem_singleton] at hy; subst hy; exact hx)
  simpa [all, sg] using this
/-- What is drawn. -/
def LnOut (ao : Option Addr) (len cap g : Nat) (w : World) (e : Ending) (w' : World) : Prop := ∃ v L, e = .returned v ∧ LnD ao len cap g w v L w' ∧ L.length ≤ 4
set_option maxRecDepth 100000 in
set_option maxHeartbeats 8000000 in
theorem some_any (ao : Option Addr) (len cap g : Nat) (w : World) (hS : Src ao len cap g w) :
    Calls Tryz.prog 28 #[.pointer (some ⟨g, 0, none⟩)] w fun e w' => LnOut ao len cap g w e w' := by
  have hgl := hS.lt
  obtain ⟨i0, hi, hz0, hz1, hz2⟩ := info_parts infoN
  have gz2 : (2 : Nat) ≠ 0 := by decide
  have HN := hid_intro (fun most W hm h => n_any ao len cap g most W hm h)
  have HON := hid_intro (fun W h => one_any ao len cap g 15 W (by omega) h)
  have HE := hid_intro (own_empty w w.heap.size 74 2 (Nat.le_refl _))
  have HSL := hid_intro (fun b off cp L xi xn W h1 h2 h3 h4 => sline b off cp L xi xn W h1 h2 h3 h4)
  have HL0 : Hid (LnD ao len cap g w (.slice (some ⟨w.heap.size, 0, none⟩) 0 0) [] (w.alloc (.cells #[] 74))) := hid_intro ⟨hS.alloc _, World.grownBy_alloc w _ _, ⟨HE.out, fun e => by cases e⟩, fun e h => absurd h (by simp)⟩
  clear hS HE
  go_enter Tryz.func28, Tryz.ntmps28
  go_wp2_with fail
  refine (HN.out 4 _ (by omega) HL0.out.src).mono ?_
  rintro e w1 ⟨v0, rfl, lo0, -, hi0, hS1, hg1⟩
  have ht0 : v0 < 4 := hi0 (by omega)
  obtain ⟨k0, rfl⟩ : ∃ j : Nat, v0 = (j : Int) := ⟨v0.toNat, by omega⟩
  have HL1 := hid_intro (HL0.out.step hgl hS1 hg1)
  clear hS1 hg1 hi0 HL0
  go_wp2_with fail
  go_loopw [3, 4] (fun v z wr => ∃ (k : Nat) (L : List N), z = .int .i64 k ∧ k ≤ 3 ∧ L.length + k ≤ 3 ∧ Hid (LnD ao len cap g w v L wr)) (fun v z _ => (intOf z).toNat)
  case atStart => exact ⟨k0, [], rfl, by omega, by simp; omega, HL1⟩
  case round =>
    clear HL1
    obtain ⟨k, L, rfl, hk3, hLk, HL⟩ := hrel
    obtain ⟨gb, cp, rfl, hcp1, hcp2, hgb1, hgb2, hLi⟩ := HL.out.own.open
    obtain ⟨ln, hln⟩ : ∃ ln, ln = L.length := ⟨_, rfl⟩
    rw [← hln] at hcp1 hLk HL ⊢
    have HLN := hid_intro hln
    have HCP := hid_intro hcp2
    have HCQ := hid_intro hcp1
    clear hln hLi hcp2 hcp1
    by_cases hk : k = 0
    · subst hk
      go_wp2_with fail
      refine (HON.out _ HL.out.src).mono ?_
      rintro e w2 ⟨⟨b, rfl⟩, hS2, hg2⟩
      have HL2 := hid_intro (HL.out.step hgl hS2 hg2)
      clear hS2 hg2 HL
      cases b
      · go_wp2_with fail
        go_ret
        exact ⟨_, L, rfl, HL2.out, by have := HLN.out; omega⟩
      · go_wp2_with fail
        obtain ⟨k1, hk1e⟩ : ∃ z, z = w2.alloc (Obj.cells #[.string ⟨#[122, 122]⟩, .string ⟨#[65]⟩, .string ⟨#[99, 112, 117]⟩] 9) := ⟨_, rfl⟩
        obtain ⟨sb, hsbe⟩ : ∃ z, z = w2.heap.size := ⟨_, rfl⟩
        have hB1 := BlkW.new w2 [.string ⟨#[122, 122]⟩, .string ⟨#[65]⟩, .string ⟨#[99, 112, 117]⟩] 9
        have hL1 := HL2.out.below ((Below.refl w2.heap.size w2).alloc (Nat.le_refl _) (Obj.cells #[.string ⟨#[122, 122]⟩, .string ⟨#[65]⟩, .string ⟨#[99, 112, 117]⟩] 9))
        have hgs : g < sb := by rw [hsbe]; exact HL2.out.src.lt
        rw [← hk1e, ← hsbe] at hB1 ⊢
        rw [← hk1e] at hL1
        clear hk1e hsbe HL2
        have hstr : StrsP Kn sb 3 k1 := ⟨hB1.1.1, fun j hj => by
          match j, hj with
          | 0, _ => exact ⟨_, hB1.1.2 0 (by simp), by simp [Kn, kn]⟩
          | 1, _ => exact ⟨_, hB1.1.2 1 (by simp), by simp [Kn, kn]⟩
          | 2, _ => exact ⟨_, hB1.1.2 2 (by simp), by simp [Kn, kn]⟩⟩
        refine (pick_P Kn ao len cap g sb 3 _ (by omega) (by omega) (by omega) hL1.src hstr).mono ?_
        rintro e q2 ⟨⟨T, rfl, hT⟩, hS2, hg2⟩
        have HL2 := hid_intro (hL1.step hgl hS2 hg2)
        have HTn := hid_intro hT
        clear hS2 hg2 hstr hB1 hL1 hT
        go_wp2_with fail
        obtain ⟨k3, hk3e⟩ : ∃ z, z = q2.alloc (Obj.cells #[.int .i64 0, .int .i64 1000000000000000, .int .i64 (-1000000000000000), .int .i64 1000000000000001] 2) := ⟨_, rfl⟩
        obtain ⟨ib, hibe⟩ : ∃ z, z = q2.heap.size := ⟨_, rfl⟩
        have hB3 := BlkW.new q2 [.int .i64 0, .int .i64 1000000000000000, .int .i64 (-1000000000000000), .int .i64 1000000000000001] 2
        have hL3 := HL2.out.below ((Below.refl q2.heap.size q2).alloc (Nat.le_refl _) (Obj.cells #[.int .i64 0, .int .i64 1000000000000000, .int .i64 (-1000000000000000), .int .i64 1000000000000001] 2))
        have hgi : g < ib := by rw [hibe]; exact HL2.out.src.lt
        rw [← hk3e, ← hibe] at hB3 ⊢
        rw [← hk3e] at hL3
        clear hk3e hibe HL2
        refine (HN.out 4 _ (by omega) hL3.src).mono ?_
        rintro e q4 ⟨v4, rfl, lo4, -, hi4, hS4, hg4⟩
        have ht4 : v4 < 4 := hi4 (by omega)
        obtain ⟨tt, rfl⟩ : ∃ j : Nat, v4 = (j : Int) := ⟨v4.toNat, by omega⟩
        have htt : tt < 4 := by omega
        have hB4 := OwG.blkW_grown hB3 hg4 (by simp only [ne_eq, Option.some.injEq]; omega)
        have HL4 := hid_intro (hL3.step hgl hS4 hg4)
        obtain ⟨Y, hY⟩ : ∃ Y : Int, q4.cell? ⟨ib, tt, none⟩ = some (.int .i64 Y) := by
          rcases (show tt = 0 ∨ tt = 1 ∨ tt = 2 ∨ tt = 3 by omega) with rfl | rfl | rfl | rfl
          · exact ⟨_, hB4.1.2 0 (by simp)⟩
          · exact ⟨_, hB4.1.2 1 (by simp)⟩
          · exact ⟨_, hB4.1.2 2 (by simp)⟩
          · exact ⟨_, hB4.1.2 3 (by simp)⟩
        have hil := hB4.1.1
        clear hS4 hg4 hi4 hB3 hL3 hB4 lo4
        have HO4 := hid_intro HL4.out.own.1
        rw [← HLN.out] at HO4
        have HOB : Hid (w.heap.size ≤ (q4.alloc (Obj.cells #[.string T, .int .i64 Y] 74)).heap.size) := hid_intro (by have := HL4.out.grew.size; simp; omega)
        go_wp2_with (at_builtin; refine wpList_append_own _ rfl _ _ 24 rfl w.heap.size 74 i0 (.agg #[.string ⟨#[]⟩, .int .i64 0]) 2 24 Tryz.underlying24 hi hz0 hz1 hz2 rfl (by decide) _ _ _ rfl (HO4.out.alloc _) ⟨_, 0, none⟩ 1 1 (N.cells ⟨T, Y⟩) rfl rfl (two_cells _ _ _ _) (two_one _) ?d3 ?d4 ?d5 ?_)
        case d3 => unfold maxLen; omega
        case d4 => omega
        case d5 => exact HOB.out
        intro v' w5 hown hgrow hne
        have hbw := (HL4.out.below ((Below.refl q4.heap.size q4).alloc (Nat.le_refl _) (Obj.cells #[.string T, .int .i64 Y] 74)))
        have HL5 : Hid (LnD ao len cap g w v' (L ++ [(⟨T, Y⟩ : N)]) w5) := hid_intro ⟨hbw.src.kept hgrow (fun b e => by cases e; show g < gb; omega), hbw.grew.andThen hgrow (fun b e => by cases e; exact .inl (show w.heap.size ≤ gb by omega)), own_nonnil (by rw [cellsAll_app, List.length_append, ← HLN.out]; exact hown) (by simp), fun y hy => by
          rcases List.mem_append.1 hy with h | h
          · exact HL4.out.nm y h
          · simp only [List.mem_singleton] at h
            subst h
            exact HTn.out⟩
        clear hown hgrow hne hbw
        go_wp2_with fail
        go_ret
        exact ⟨_, _, rfl, HL5.out, by simp; have := HLN.out; omega⟩
    · obtain ⟨k', rfl⟩ : ∃ k', k = k' + 1 := ⟨k - 1, by omega⟩
      have hkp : (0 : Int) < ((k' + 1 : Nat) : Int) := by omega
      go_wp2_with fail
      obtain ⟨k1, hk1e⟩ : ∃ z, z = wr.alloc (Obj.cells #[.string ⟨#[99, 112, 117]⟩, .string ⟨#[100, 105, 115, 107]⟩, .string ⟨#[110, 101, 116]⟩, .string ⟨#[117, 115, 101, 114, 115]⟩] 9) := ⟨_, rfl⟩
      obtain ⟨sb, hsbe⟩ : ∃ z, z = wr.heap.size := ⟨_, rfl⟩
      have hB1 := BlkW.new wr [.string ⟨#[99, 112, 117]⟩, .string ⟨#[100, 105, 115, 107]⟩, .string ⟨#[110, 101, 116]⟩, .string ⟨#[117, 115, 101, 114, 115]⟩] 9
      have hL1 := HL.out.below ((Below.refl wr.heap.size wr).alloc (Nat.le_refl _) (Obj.cells #[.string ⟨#[99, 112, 117]⟩, .string ⟨#[100, 105, 115, 107]⟩, .string ⟨#[110, 101, 116]⟩, .string ⟨#[117, 115, 101, 114, 115]⟩] 9))
      have hgs : g < sb := by rw [hsbe]; exact HL.out.src.lt
      rw [← hk1e, ← hsbe] at hB1 ⊢
      rw [← hk1e] at hL1
      clear hk1e hsbe HL
      have hstr : StrsP Kn sb 4 k1 := ⟨hB1.1.1, fun j hj => by
        match j, hj with
        | 0, _ => exact ⟨_, hB1.1.2 0 (by simp), by simp [Kn, kn]⟩
        | 1, _ => exact ⟨_, hB1.1.2 1 (by simp), by simp [Kn, kn]⟩
        | 2, _ => exact ⟨_, hB1.1.2 2 (by simp), by simp [Kn, kn]⟩
        | 3, _ => exact ⟨_, hB1.1.2 3 (by simp), by simp [Kn, kn]⟩⟩
      refine (pick_P Kn ao len cap g sb 4 _ (by omega) (by omega) (by omega) hL1.src hstr).mono ?_
      rintro e q2 ⟨⟨T, rfl, hT⟩, hS2, hg2⟩
      have HL2 := hid_intro (hL1.step hgl hS2 hg2)
      have HTn := hid_intro hT
      clear hS2 hg2 hstr hB1 hL1 hT
      go_wp2_with fail
      refine (HN.out 9000 _ (by omega) HL2.out.src).mono ?_
      rintro e q3 ⟨v3, rfl, lo3, -, hi3, hS3, hg3⟩
      have ht3 : v3 < 9000 := hi3 (by omega)
      have HL3 := hid_intro (HL2.out.step hgl hS3 hg3)
      have HL4 := hid_intro (HL3.out.below ((Below.refl q3.heap.size q3).alloc (Nat.le_refl _) (Obj.cells #[.string T, .int .i64 (v3 - 2000)] 74)))
      clear hS3 hg3 hi3 HL2 HL3
      go_wp2_with fail
      obtain ⟨g9, c9, e9, u1, u2, u3, u4, hLi⟩ := HL4.out.own.open
      cases e9
      rw [HLN.out]
      refine (HSL.out gb 0 cp L T (v3 - 2000) _ (by have := HLN.out; omega) (by rw [← HLN.out]; exact HCQ.out) HCP.out hLi).mono ?_
      rintro e w7 (⟨hf, rfl, hb7⟩ | ⟨hf, ⟨v7, rfl, ho7⟩, hb7⟩)
      · have HL7 := hid_intro (HL4.out.below hb7)
        rw [← HLN.out]
        clear hb7 hf hLi u1 u2 u3 u4
        go_wp2_with fail
        go_roundw
        case rel => exact ⟨k', L, by go_num, by omega, by have := HLN.out; omega, HL7⟩
        case measure => simp [intOf]
      · have HL7 := hid_intro (HL4.out.new hb7 (own_nonnil ho7 (put_pos _ _)) (put_nm (x := ⟨T, v3 - 2000⟩) HL4.out.nm HTn.out))
        have hpl := put_len L ⟨T, v3 - 2000⟩
        clear hb7 hf hLi ho7 u1 u2 u3 u4
        go_wp2_with fail
        go_roundw
        case rel => exact ⟨k', _, by go_num, by omega, by have := HLN.out; omega, HL7⟩
        case measure => simp [intOf]
/-- An account and month that are drawn. -/
def WhOut (ao : Option Addr) (len cap g : Nat) (w : World) (e : Ending) (w' : World) : Prop := (∃ (T : ByteArray) (m : Int), e = .returned (.tuple #[.string T, .int .i64 m]) ∧ (T = ⟨#[97, 110, 110]⟩ ∨ T = ⟨#[98, 111, 98]⟩) ∧ 600 ≤ m ∧ m ≤ 601) ∧ Src ao len cap g w' ∧ w.grownBy w' (some g)
set_option maxRecDepth 100000 in
set_option maxHeartbeats 4000000 in
theorem who_any (ao : Option Addr) (len cap g : Nat) (w : World) (hS : Src ao len cap g w) :
    Calls Tryz.prog 26 #[.pointer (some ⟨g, 0, none⟩)] w fun e w' => WhOut ao len cap g w e w' := by
  have hgl := hS.lt
  have HS := hid_intro (hS.alloc (.cells #[.string ⟨#[97, 110, 110]⟩, .string ⟨#[98, 111, 98]⟩] 9))
  have hB := BlkW.new w [.string ⟨#[97, 110, 110]⟩, .string ⟨#[98, 111, 98]⟩] 9
  have HT : Hid (StrsP (fun T => T = ⟨#[97, 110, 110]⟩ ∨ T = ⟨#[98, 111, 98]⟩) w.heap.size 2 (w.alloc (.cells #[.string ⟨#[97, 110, 110]⟩, .string ⟨#[98, 111, 98]⟩] 9))) := hid_intro ⟨hB.1.1, fun j hj => by
    match j, hj with
    | 0, _ => exact ⟨_, hB.1.2 0 (by simp), .inl rfl⟩
    | 1, _ => exact ⟨_, hB.1.2 1 (by simp), .inr rfl⟩⟩
  have HG := hid_intro (World.grownBy_alloc w (.cells #[.string ⟨#[97, 110, 110]⟩, .string ⟨#[98, 111, 98]⟩] 9) (some g))
  clear hS hB
  go_enter Tryz.func26, Tryz.ntmps26
  go_wp2_with fail
  refine (pick_P _ ao len cap g w.heap.size 2 _ (by omega) (by omega) (by omega) HS.out HT.out).mono ?_
  rintro e q2 ⟨⟨T, rfl, hT⟩, hS2, hg2⟩
  have HS2 := hid_intro hS2
  have HG2 := hid_intro (Lib.grownBy_trans HG.out hg2)
  have HTn := hid_intro hT
  clear hS2 hg2 hT
  go_wp2_with fail
  refine (n_any ao len cap g 2 _ (by omega) HS2.out).mono ?_
  rintro e q3 ⟨v3, rfl, lo3, -, hi3, hS3, hg3⟩
  have ht3 : v3 < 2 := hi3 (by omega)
  have HG3 := hid_intro (Lib.grownBy_trans HG2.out hg3)
  have HS3 := hid_intro hS3
  have hx1 : 600 ≤ 600 + v3 := by omega
  have hx2 : 600 + v3 ≤ 601 := by omega
  clear hi3 hS3 hg3
  go_wp2_with fail
  go_ret2
  exact ⟨⟨T, 600 + v3, rfl, HTn.out, hx1, hx2⟩, HS3.out, HG3.out⟩
end DrawR
end Go.Proofs.YtlfebpgohpmknaaGreatDoor
namespace Go.Proofs
open Go.RowKit Go.Maps Go.Sort Go.Shelf
def Tryz.keys68_ren : Go.Shelf.Ren := ⟨fun | 7 => 68 | 10 => 82 | n => n, fun | 23 => 65 | 26 => 9 | 3 => 2 | 28 => 103 | 0 => 0 | 27 => 102 | 33 => 59 | 4 => 4 | n => n, fun | n => n⟩
theorem Tryz.keys68 : Go.Proofs.SlLaysZ.n7 Tryz.prog Tryz.keys68_ren := {
  mixed := by kernel_rfl
  f7 := ⟨Tryz.f68.name, by decide, Tryz.func68.trans (congrArg some (by kernel_rfl))⟩
  f10 := ⟨Tryz.f82.name, by decide, Tryz.func82.trans (congrArg some (by kernel_rfl))⟩
  t0 := Tryz.underlying0
  a0 := Tryz.isAgg0
  z0 := Tryz.sizeOf0
  v0 := Tryz.zeroValue0
  t4 := Tryz.underlying4
  a4 := Tryz.isAgg4
  z4 := Tryz.sizeOf4
  v4 := Tryz.zeroValue4
  t23 := Tryz.underlying65
  a23 := Tryz.isAgg65
  z23 := Tryz.sizeOf65
  v23 := Tryz.zeroValue65
  t26 := Tryz.underlying9
  a26 := Tryz.isAgg9
  z26 := Tryz.sizeOf9
  v26 := Tryz.zeroValue9
  t27 := Tryz.underlying102
  a27 := Tryz.isAgg102
  z27 := Tryz.sizeOf102
  v27 := Tryz.zeroValue102
  t28 := Tryz.underlying103
  a28 := Tryz.isAgg103
  z28 := Tryz.sizeOf103
  v28 := Tryz.zeroValue103
  t33 := Tryz.underlying59
  a33 := Tryz.isAgg59
  z33 := Tryz.sizeOf59
  v33 := Tryz.zeroValue59 }
def Tryz.sorted67_ren : Go.Shelf.Ren := ⟨fun | 6 => 67 | 8 => 80 | 9 => 81 | 11 => 91 | 13 => 93 | 12 => 92 | 23 => 108 | 24 => 95 | 14 => 99 | 15 => 100 | 16 => 101 | 17 => 102 | 18 => 103 | 19 => 104 | 20 => 105 | 21 => 106 | 22 => 107 | 25 => 111 | 26 => 112 | 27 => 113 | 28 => 114 | 29 => 115 | 30 => 116 | 31 => 117 | n => n, fun | 26 => 9 | 28 => 103 | 24 => 77 | 0 => 0 | 3 => 3 | 37 => 108 | 48 => 149 | 50 => 83 | 4 => 4 | 40 => 154 | 39 => 153 | 45 => 159 | 5 => 5 | 9 => 9 | 51 => 162 | 55 => 166 | 57 => 170 | 58 => 171 | 33 => 59 | n => n, fun | n => n⟩
theorem Tryz.sorted67 : Go.Proofs.SlLaysZ.n6 Tryz.prog Tryz.sorted67_ren := {
  mixed := by kernel_rfl
  f6 := ⟨Tryz.f67.name, by decide, Tryz.func67.trans (congrArg some (by kernel_rfl))⟩
  f8 := ⟨Tryz.f80.name, by decide, Tryz.func80.trans (congrArg some (by kernel_rfl))⟩
  f11 := ⟨Tryz.f91.name, by decide, Tryz.func91.trans (congrArg some (by kernel_rfl))⟩
  t0 := Tryz.underlying0
  a0 := Tryz.isAgg0
  z0 := Tryz.sizeOf0
  v0 := Tryz.zeroValue0
  t24 := Tryz.underlying77
  a24 := Tryz.isAgg77
  z24 := Tryz.sizeOf77
  v24 := Tryz.zeroValue77
  t26 := Tryz.underlying9
  a26 := Tryz.isAgg9
  z26 := Tryz.sizeOf9
  v26 := Tryz.zeroValue9
  t28 := Tryz.underlying103
  a28 := Tryz.isAgg103
  z28 := Tryz.sizeOf103
  v28 := Tryz.zeroValue103
  i26 := by kernel_rfl }
def Tryz.sort81_ren : Go.Shelf.Ren := ⟨fun | 6 => 81 | 8 => 93 | 9 => 92 | 19 => 108 | 20 => 95 | 21 => 99 | 22 => 100 | 23 => 101 | 24 => 102 | 25 => 103 | 26 => 104 | 27 => 105 | 28 => 106 | 29 => 107 | 36 => 111 | 31 => 112 | 32 => 113 | 37 => 114 | 38 => 115 | 39 => 116 | 41 => 117 | n => n, fun | 27 => 77 | 29 => 9 | 3 => 3 | 32 => 108 | 26 => 77 | 0 => 0 | 44 => 149 | 46 => 83 | 4 => 4 | 36 => 154 | 35 => 153 | 41 => 159 | 5 => 5 | 9 => 9 | 53 => 162 | 57 => 166 | 63 => 170 | 64 => 171 | n => n, fun | n => n⟩
theorem Tryz.sort81 : Go.Proofs.SlLaysM.n6 Tryz.prog Tryz.sort81_ren := {
  mixed := by kernel_rfl
  f6 := ⟨Tryz.f81.name, by decide, Tryz.func81.trans (congrArg some (by kernel_rfl))⟩
  f8 := Tryz.func93.trans (congrArg some (by kernel_rfl))
  f9 := ⟨Tryz.f92.name, by decide, Tryz.func92.trans (congrArg some (by kernel_rfl))⟩
  f19 := Tryz.func108.trans (congrArg some (by kernel_rfl))
  f20 := Tryz.func95.trans (congrArg some (by kernel_rfl))
  f21 := ⟨Tryz.f99.name, by decide, Tryz.func99.trans (congrArg some (by kernel_rfl))⟩
  f22 := ⟨Tryz.f100.name, by decide, Tryz.func100.trans (congrArg some (by kernel_rfl))⟩
  f23 := ⟨Tryz.f101.name, by decide, Tryz.func101.trans (congrArg some (by kernel_rfl))⟩
  f24 := ⟨Tryz.f102.name, by decide, Tryz.func102.trans (congrArg some (by kernel_rfl))⟩
  f25 := ⟨Tryz.f103.name, by decide, Tryz.func103.trans (congrArg some (by kernel_rfl))⟩
  f26 := ⟨Tryz.f104.name, by decide, Tryz.func104.trans (congrArg some (by kernel_rfl))⟩
  f27 := ⟨Tryz.f105.name, by decide, Tryz.func105.trans (congrArg some (by kernel_rfl))⟩
  f28 := ⟨Tryz.f106.name, by decide, Tryz.func106.trans (congrArg some (by kernel_rfl))⟩
  f29 := ⟨Tryz.f107.name, by decide, Tryz.func107.trans (congrArg some (by kernel_rfl))⟩
  f31 := Tryz.func112.trans (congrArg some (by kernel_rfl))
  f32 := Tryz.func113.trans (congrArg some (by kernel_rfl))
  f36 := ⟨Tryz.f111.name, by decide, Tryz.func111.trans (congrArg some (by kernel_rfl))⟩
  f37 := ⟨Tryz.f114.name, by decide, Tryz.func114.trans (congrArg some (by kernel_rfl))⟩
  f38 := ⟨Tryz.f115.name, by decide, Tryz.func115.trans (congrArg some (by kernel_rfl))⟩
  f39 := ⟨Tryz.f116.name, by decide, Tryz.func116.trans (congrArg some (by kernel_rfl))⟩
  f41 := ⟨Tryz.f117.name, by decide, Tryz.func117.trans (congrArg some (by kernel_rfl))⟩
  t0 := Tryz.underlying0
  a0 := Tryz.isAgg0
  z0 := Tryz.sizeOf0
  v0 := Tryz.zeroValue0
  t3 := Tryz.underlying3
  a3 := Tryz.isAgg3
  z3 := Tryz.sizeOf3
  v3 := Tryz.zeroValue3
  t4 := Tryz.underlying4
  a4 := Tryz.isAgg4
  z4 := Tryz.sizeOf4
  v4 := Tryz.zeroValue4
  t5 := Tryz.underlying5
  a5 := Tryz.isAgg5
  z5 := Tryz.sizeOf5
  v5 := Tryz.zeroValue5
  t9 := Tryz.underlying9
  a9 := Tryz.isAgg9
  z9 := Tryz.sizeOf9
  v9 := Tryz.zeroValue9
  t26 := Tryz.underlying77
  a26 := Tryz.isAgg77
  z26 := Tryz.sizeOf77
  v26 := Tryz.zeroValue77
  t27 := Tryz.underlying77
  a27 := Tryz.isAgg77
  z27 := Tryz.sizeOf77
  v27 := Tryz.zeroValue77
  t29 := Tryz.underlying9
  a29 := Tryz.isAgg9
  z29 := Tryz.sizeOf9
  v29 := Tryz.zeroValue9
  t32 := Tryz.underlying108
  a32 := Tryz.isAgg108
  z32 := Tryz.sizeOf108
  v32 := Tryz.zeroValue108
  t35 := Tryz.underlying153
  a35 := Tryz.isAgg153
  z35 := Tryz.sizeOf153
  v35 := Tryz.zeroValue153
  t36 := Tryz.underlying154
  a36 := Tryz.isAgg154
  z36 := Tryz.sizeOf154
  v36 := Tryz.zeroValue154
  t41 := Tryz.underlying159
  a41 := Tryz.isAgg159
  z41 := Tryz.sizeOf159
  v41 := Tryz.zeroValue159
  t44 := Tryz.underlying149
  a44 := Tryz.isAgg149
  z44 := Tryz.sizeOf149
  v44 := Tryz.zeroValue149
  t46 := Tryz.underlying83
  a46 := Tryz.isAgg83
  z46 := Tryz.sizeOf83
  v46 := Tryz.zeroValue83
  t53 := Tryz.underlying162
  a53 := Tryz.isAgg162
  z53 := Tryz.sizeOf162
  v53 := Tryz.zeroValue162
  t57 := Tryz.underlying166
  a57 := Tryz.isAgg166
  z57 := Tryz.sizeOf166
  v57 := Tryz.zeroValue166
  t63 := Tryz.underlying170
  a63 := Tryz.isAgg170
  z63 := Tryz.sizeOf170
  v63 := Tryz.zeroValue170
  t64 := Tryz.underlying171
  a64 := Tryz.isAgg171
  z64 := Tryz.sizeOf171
  v64 := Tryz.zeroValue171 }
theorem Tryz.sorts67 (m : Nat) : AnyZ.SortsIn Tryz.prog Tryz.sorted67_ren Fence.wide m :=
  ⟨fun blk off cap ss W hH hblk hsz => callsIn_wide.2 (AnyM.slices_Sort_string Tryz.sort81 blk off cap ss W hH hblk hsz),
   fun p cap W => callsIn_wide.2 (AnyM.slices_Sort_string_none Tryz.sort81 p cap W)⟩
theorem Tryz.maps_Keys_68 (mb : Option Nat) (W : World) : CallsIn Fence.wide 5 Tryz.prog 68 #[.map mb] W fun e w' => e = .returned (.func (.func 82) #[] #[.pointer (some ⟨W.heap.size, 0, none⟩)]) ∧ w' = W.alloc (.cells #[.map mb] 65) :=
  AnyZ.keys_in Tryz.keys68 Fence.wide 5 trivial rfl mb W
set_option maxHeartbeats 1000000 in
theorem Tryz.slices_Sorted_keys_67_68 {H : Type} (b nn : Nat) (D0 : DataW H) (R : Value → Option (DataW H × List MemPlace)) (w : World) (hown : w.ownsMap Tryz.prog 9 R b nn D0) (hmax : Maps.size D0 ≤ maxLen) (hbytes : Maps.size D0 * 16 ≤ 140737488355328) :
    CallsIn Fence.wide 5 Tryz.prog 67 #[.func (.func 82) #[] #[.pointer (some ⟨w.heap.size, 0, none⟩)]] (w.alloc (.cells #[.map (some b)] 65)) fun e w' => ∃ (v : Value) (ss : List (List UInt8)), e = .returned v ∧ ss.Perm (strKeys D0) ∧
      w'.ownsRow (w.alloc (.cells #[.map (some b)] 65)).heap.size 9 1 v ss.length ((ss.mergeSort (fun x y => decide (x ≤ y))).map encStr) ∧ (v = .slice none 0 0 ↔ ss = []) ∧ Below (w.alloc (.cells #[.map (some b)] 65)).heap.size (w.alloc (.cells #[.map (some b)] 65)) w' := by
  have hbl := hown.lt
  have hseq : SeqGives Fence.wide 2 Tryz.prog 82 #[.pointer (some ⟨w.heap.size, 0, none⟩)] encStr (fun ss => ss.Perm (strKeys D0)) (Maps.size D0) (w.alloc (.cells #[.map (some b)] 65)) :=
    AnyZ.keys_gives (ρ := Tryz.keys68_ren) { Tryz.keys68 with } Fence.wide _ trivial rfl (by omega) w.heap.size b nn D0 _ (by simp) (by simp) (by
      obtain ⟨es, clock, hb, Ft, hs, hD⟩ := hown
      exact ⟨es, clock, (Below.heap_alloc _ _ b hbl).trans hb, Ft, hs, hD⟩)
  exact AnyZ.sorted_in Tryz.sorted67 Fence.wide 5 trivial trivial trivial trivial rfl (by omega) (Tryz.sorts67 _) (enters_of Tryz.func81 (by kernel_rfl) rfl) 82 #[.pointer (some ⟨w.heap.size, 0, none⟩)] trivial (enters_of Tryz.func82 (by kernel_rfl) rfl) _ _ hmax hbytes _ hseq
set_option maxHeartbeats 1000000 in
theorem Tryz.slices_Sorted_keys_nil_67_68 (w : World) :
    CallsIn Fence.wide 5 Tryz.prog 67 #[.func (.func 82) #[] #[.pointer (some ⟨w.heap.size, 0, none⟩)]] (w.alloc (.cells #[.map none] 65)) fun e w' => ∃ (v : Value) (ss : List (List UInt8)), e = .returned v ∧ ss = [] ∧
      w'.ownsRow (w.alloc (.cells #[.map none] 65)).heap.size 9 1 v ss.length ((ss.mergeSort (fun x y => decide (x ≤ y))).map encStr) ∧ (v = .slice none 0 0 ↔ ss = []) ∧ Below (w.alloc (.cells #[.map none] 65)).heap.size (w.alloc (.cells #[.map none] 65)) w' := by
  have hseq : SeqGives Fence.wide 2 Tryz.prog 82 #[.pointer (some ⟨w.heap.size, 0, none⟩)] encStr (fun ss : List (List UInt8) => ss = []) 0 (w.alloc (.cells #[.map none] 65)) :=
    AnyZ.keys_gives_nil (ρ := Tryz.keys68_ren) { Tryz.keys68 with } Fence.wide _ trivial rfl w.heap.size _ (by simp) (by simp)
  exact AnyZ.sorted_in Tryz.sorted67 Fence.wide 5 trivial trivial trivial trivial rfl (by omega) (Tryz.sorts67 _) (enters_of Tryz.func81 (by kernel_rfl) rfl) 82 #[.pointer (some ⟨w.heap.size, 0, none⟩)] trivial (enters_of Tryz.func82 (by kernel_rfl) rfl) _ 0 (Nat.zero_le _) (by omega) _ hseq
theorem Tryz.keys_any (mb : Option Nat) (W : World) : Calls Tryz.prog 68 #[.map mb] W fun e w' => e = .returned (.func (.func 82) #[] #[.pointer (some ⟨W.heap.size, 0, none⟩)]) ∧ w' = W.alloc (.cells #[.map mb] 65) := callsIn_wide.1 (Tryz.maps_Keys_68 mb W)
end Go.Proofs
