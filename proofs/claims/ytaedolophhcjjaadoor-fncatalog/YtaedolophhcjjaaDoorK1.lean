/-
  Small facts that the other texts use: what a call hands back, read as one equation. No condition.
  The draws' source: a number that is drawn lies below its bound, whatever the bytes; drawing writes the source's own block alone. The condition: the bytes are at most 1048576.
  The draws' source, further: texts, edges, and the source itself out of bytes: what is drawn lies within its bounds; drawing writes the source's own block alone. The condition: the bytes are at most 1048576.
  Tiers, meters, credits and catalogs as rows of cells. No condition.
  A row of cells that may be written. No condition.
  Rows of things of so many cells each, read, written cell by cell, made by append. No condition.
  The draws of a meter: the plain catalog, and a meter of it that may be changed. The condition: the bytes are at most 1048576.
  The draws of a meter, further: one of the plain catalog that may be changed. The condition: the bytes are at most 1048576.
  A block of cells that stays. No condition.
  Blocks that may be written, and rows beside them. No condition.
  Cells of a block written one behind another. No condition.
  Memory of one's own that is kept while other memory grows or is written. No condition.
  What the program calls a name is what the model calls one, of every text of at most 1048576 bytes. No condition.
  What is right of tiers, meters, credits and catalogs, in numbers. No condition.
  What the program and the model call right tiers, and a right meter: they are one. The condition: the name has at most 1048576 bytes.
  What the model calls right tiers. The condition: at most 1048576 of them.
  The law's own helpers over tiers and meters: their sizes, copies, and two held against each other. The condition: the tiers are at most 1048576.
  The law's own helpers over a meter: its size, its copy, two held against each other. The condition: the tiers are at most 1048576.
  The law's own helpers over a list of meters: their size, copies, two held against each other. The condition: at most 1048576 meters, each of at most 1048576 tiers.
  The law's own copy of a list of meters, and two lists held against each other. The condition: at most 1048576 meters, each of at most 1048576 tiers.
  The law's own helpers over a list of credits: their size, copies, two held against each other. The condition: at most 1048576 of them.
  The law's own helpers over a catalog: its size, its copy, two held against each other. The condition: all in it is small.
  Meters and credits in a draw's memory: kept, cut and put. No condition.
  A drawn text of some, and a text changed a little: some text, no longer than one byte more; drawing writes the source's own block alone. The condition: the bytes are at most 1048576.
-/
import Derived.Test.YtaedolophhcjjaaDoorRows
import Derived.WalkKit
import Derived.ProofKit
import Derived.OpenShut
import Derived.ShutString
import Derived.Below
import Derived.WalkSpells
import Derived.WalkLawsBesides
import Derived.Lib.BufferOwn
import Derived.Maps.Range
import Derived.Laws.BytesArg
import Derived.BigRegion
import Derived.Deep.QuietTactic
import Derived.BigQuiet
import Derived.OwnWalk
import Derived.Deep.RegionHeld3
import Derived.Deep.RegionWith
import Derived.Lib.ConvBytes
namespace Go.Proofs.YtaedolophhcjjaaDoor
open Go.RowKit
theorem ret_bool {a b : Bool} (h : a = b) : Ending.returned (.bool a) = .returned (.bool b) := by rw [h]
theorem ret_int {k : IntKind} {a b : Int} (h : a = b) : Ending.returned (.int k a) = .returned (.int k b) := by rw [h]
theorem ret_str {a b : ByteArray} (h : a = b) : Ending.returned (.string a) = .returned (.string b) := by rw [h]
theorem bcell {W w1 : World} (hb : Below W.heap.size W w1) : (∀ b o, b < W.heap.size → w1.cell? ⟨b, o, none⟩ = W.cell? ⟨b, o, none⟩) ∧ (∀ b o, b < W.heap.size → w1.frozen? ⟨b, o, none⟩ = W.frozen? ⟨b, o, none⟩) :=
  ⟨fun b o h => hb.cell (p := ⟨b, o, none⟩) h, fun b o h => hb.frozen (p := ⟨b, o, none⟩) h⟩
theorem bel_alloc {w w1 : World} {o : Obj} (h : Below (w.alloc o).heap.size (w.alloc o) w1) : Below w.heap.size w w1 :=
  ((Below.refl _ _).alloc (Nat.le_refl _) _).trans (h.mono (by simp))
theorem bel_alloc_drew {w w1 : World} {o : Obj} (h : Below (w.alloc o).drew.heap.size (w.alloc o).drew w1) : Below w.heap.size w w1 :=
  (((Below.refl _ _).alloc (Nat.le_refl _) _).drew).trans (h.mono (by simp))
end Go.Proofs.YtaedolophhcjjaaDoor
namespace Go.Proofs.YtaedolophhcjjaaDoor
open Go.ChangeShapes Go.WideShapes Go.ChangeAt Go.RowKit
set_option linter.unusedVariables false
namespace DrawR
theorem set_twice (W : World) (a : Addr) (x y : Value) : (W.setCell a x).setCell a y = W.setCell a y := by
  unfold World.setCell
  congr 1
  apply Array.ext
  · simp
  · intro i h1 h2
    simp only [Array.getElem_modify]
    by_cases h : a.block = i
    · simp only [h, if_true]
      cases W.heap[i]'(by simpa using h2) <;> simp
      by_cases hs : a.spot.isSome = true <;> simp [hs]
    · simp [h]
/-- The source at block g: its four cells, and the bytes that it reads (in a block ahead of it). -/
def Src (ao : Option Addr) (len cap g : Nat) (w : World) : Prop :=
  len ≤ 1048576 ∧ (∃ (k : Nat) (mix size : Int), k ≤ len ∧ 0 ≤ mix ∧ mix ≤ 18446744073709551615 ∧ 0 ≤ size ∧ size ≤ 12 ∧
    w.heap[g]? = some (.cells #[.slice ao len cap, .int .i64 (k : Nat), .int .u64 mix, .int .i64 size] 87 (0, 0))) ∧
  (len = 0 ∨ ∃ ab aoff, ao = some ⟨ab, aoff, none⟩ ∧ ab < g ∧ ∀ i, i < len → ∃ z : Int, w.cell? ⟨ab, aoff + i, none⟩ = some (.int .u8 z) ∧ 0 ≤ z ∧ z ≤ 255)
theorem u64wrap (n : Int) : IntKind.u64.wrap n = n % 18446744073709551616 := by simp [IntKind.wrap, IntKind.bits, IntKind.signed]
theorem xor_bd (x y : Int) : 0 ≤ bits .xor .u64 x y ∧ bits .xor .u64 x y ≤ 18446744073709551615 := by
  show 0 ≤ IntKind.u64.wrap _ ∧ IntKind.u64.wrap _ ≤ _
  rw [u64wrap]; omega
theorem draw_bd (X most : Int) (h1 : 1 < most) (h2 : most ≤ 9223372036854775807) : 0 ≤ wrap64 ((IntKind.u64.wrap X).tmod most) ∧ wrap64 ((IntKind.u64.wrap X).tmod most) < most := by
  rw [u64wrap]
  obtain ⟨y, hy⟩ : ∃ y, y = X % 18446744073709551616 := ⟨_, rfl⟩
  have h0 : 0 ≤ y := by rw [hy]; exact Int.emod_nonneg _ (by omega)
  rw [← hy, Int.tmod_eq_emod_of_nonneg h0]
  have a := Int.emod_nonneg y (show most ≠ 0 by omega)
  have b := Int.emod_lt_of_pos y (show 0 < most by omega)
  simp only [wrap64]
  omega
/-- What a draw leaves: a number below its bound; the source; and nothing but the source's block is written. -/
def Drew (ao : Option Addr) (len cap g : Nat) (w : World) (most : Int) (e : Ending) (w' : World) : Prop :=
  ∃ v : Int, e = .returned (.int .i64 v) ∧ 0 ≤ v ∧ (most ≤ 1 → v = 0) ∧ (1 < most → v < most) ∧ Src ao len cap g w' ∧ w.grownBy w' (some g)
theorem block_after {w : World} {g : Nat} {c0 c1 c2 c3 x y : Value} {T : TypeId} (n : Nat) (hg : w.heap[g]? = some (.cells #[c0, c1, c2, c3] T (0, 0))) :
    (((w.drewN n).setCell ⟨g, 1, none⟩ x).setCell ⟨g, 2, none⟩ y).heap[g]? = some (.cells #[c0, x, y, c3] T (0, 0)) := by
  have h1 : (w.drewN n).heap[g]? = some (.cells #[c0, c1, c2, c3] T (0, 0)) := hg
  rw [Lib.heap_setCell_same (Lib.heap_setCell_same h1 x) y]
  rfl
theorem block_after2 {w : World} {g : Nat} {c0 c1 c2 c3 y : Value} {T : TypeId} (n : Nat) (hg : w.heap[g]? = some (.cells #[c0, c1, c2, c3] T (0, 0))) :
    ((w.drewN n).setCell ⟨g, 2, none⟩ y).heap[g]? = some (.cells #[c0, c1, y, c3] T (0, 0)) := by
  have h1 : (w.drewN n).heap[g]? = some (.cells #[c0, c1, c2, c3] T (0, 0)) := hg
  rw [Lib.heap_setCell_same h1 y]
  rfl
theorem grown_drew {w w' : World} {row : Option Nat} (h : w.grownBy w' row) : w.grownBy w'.drew row := ⟨h.os, h.tape, h.output, h.size, h.block⟩
theorem grown_drewN (w : World) (n : Nat) (row : Option Nat) : w.grownBy (w.drewN n) row := ⟨rfl, rfl, rfl, Nat.le_refl _, fun _ _ _ => rfl⟩
theorem src_after {ao : Option Addr} {len cap g : Nat} {w w' : World} (h : Src ao len cap g w) (hg : w.grownBy w' (some g)) {k : Nat} {mix size : Int} (hk : k ≤ len) (h1 : 0 ≤ mix ∧ mix ≤ 18446744073709551615) (h2 : 0 ≤ size ∧ size ≤ 12)
    (hb : w'.heap[g]? = some (.cells #[.slice ao len cap, .int .i64 (k : Nat), .int .u64 mix, .int .i64 size] 87 (0, 0))) : Src ao len cap g w' := by
  refine ⟨h.1, ⟨k, mix, size, hk, h1.1, h1.2, h2.1, h2.2, hb⟩, ?_⟩
  rcases h.2.2 with h0 | ⟨ab, aoff, e1, e2, e3⟩
  · exact .inl h0
  · refine .inr ⟨ab, aoff, e1, e2, fun i hi => ?_⟩
    obtain ⟨z, a, b, c⟩ := e3 i hi
    exact ⟨z, hg.cell a (by simp; omega), b, c⟩
set_option maxRecDepth 100000 in
set_option maxHeartbeats 4000000 in
theorem n_any (ao : Option Addr) (len cap g : Nat) (most : Int) (w : World) (hm2 : most ≤ 9223372036854775807) (hS : Src ao len cap g w) :
    Calls Tryd.prog 29 #[.pointer (some ⟨g, 0, none⟩), .int .i64 most] w fun e w' => Drew ao len cap g w most e w' := by
  by_cases hm : most ≤ 1
  · have HS : Hid (Src ao len cap g w) := hS
    clear hS
    go_enter Tryd.func29, Tryd.ntmps29
    go_wp2
    go_ret
    exact ⟨0, rfl, by omega, fun _ => rfl, fun h => by omega, HS.out, World.grownBy.refl _ _⟩
  have HS : Hid (Src ao len cap g w) := hS
  obtain ⟨hlen, ⟨k, mix, size, hk, hx1, hx2, hs1, hs2, hg⟩, hcode⟩ := hS
  have HZ : Hid (0 ≤ size ∧ size ≤ 12) := ⟨hs1, hs2⟩
  have HK : Hid (k ≤ len) := hk
  have c0 : w.cell? ⟨g, 0, none⟩ = some (.slice ao len cap) := by rw [cell_of_row w g 0 _ _ _ hg]; rfl
  have c1 : w.cell? ⟨g, 1, none⟩ = some (.int .i64 (k : Nat)) := by rw [cell_of_row w g 1 _ _ _ hg]; rfl
  have c2 : w.cell? ⟨g, 2, none⟩ = some (.int .u64 mix) := by rw [cell_of_row w g 2 _ _ _ hg]; rfl
  have f1 : w.frozen? ⟨g, 1, none⟩ = false := by simp [World.frozen?, hg]
  have f2 : w.frozen? ⟨g, 2, none⟩ = false := by simp [World.frozen?, hg]
  have HG : Hid (w.heap[g]? = some (.cells #[.slice ao len cap, .int .i64 (k : Nat), .int .u64 mix, .int .i64 size] 87 (0, 0))) := hg
  have hss : ∀ (W : World) (x y : Value), (W.setCell ⟨g, 2, none⟩ x).setCell ⟨g, 2, none⟩ y = W.setCell ⟨g, 2, none⟩ y := fun W x y => set_twice W _ x y
  have HM : Hid (1 < most) := show _ from (by omega : 1 < most)
  clear hg hs1 hs2
  by_cases hk2 : (k : Int) < (len : Int)
  · rcases hcode with h0 | ⟨ab, aoff, rfl, hab, hcell⟩
    · omega
    obtain ⟨z, hz, hz1, hz2⟩ := hcell k (by omega)
    clear hcell
    go_enter Tryd.func29, Tryd.ntmps29
    go_wp2
    go_quiet (fail)
    go_wp2
    go_quiet (fail)
    go_wp2
    go_region
    go_wp2
    go_region
    go_wp2
    go_region
    go_wp2
    go_ret
    refine ⟨_, rfl, (draw_bd _ _ HM.out hm2).1, fun h => by have := HM.out; omega, fun _ => (draw_bd _ _ HM.out hm2).2, ?_, ?_⟩
    · refine src_after HS.out ?_ (k := k + 1) (show k + 1 ≤ len by omega) (xor_bd _ _) HZ.out (block_after _ HG.out)
      exact grown_drew (grown_drew (grown_drew (Lib.grownBy_setB (Lib.grownBy_setB (grown_drewN w _ _) 1 _) 2 _)))
    · exact grown_drew (grown_drew (grown_drew (Lib.grownBy_setB (Lib.grownBy_setB (grown_drewN w _ _) 1 _) 2 _)))
  · go_enter Tryd.func29, Tryd.ntmps29
    go_wp2
    go_quiet (fail)
    go_wp2
    go_region
    go_wp2
    go_region
    go_wp2
    go_region
    go_wp2
    go_ret
    refine ⟨_, rfl, (draw_bd _ _ HM.out hm2).1, fun h => by have := HM.out; omega, fun _ => (draw_bd _ _ HM.out hm2).2, ?_, ?_⟩
    · refine src_after HS.out ?_ (k := k) HK.out (xor_bd _ _) HZ.out (block_after2 _ HG.out)
      exact grown_drew (grown_drew (Lib.grownBy_setB (grown_drewN w _ _) 2 _))
    · exact grown_drew (grown_drew (Lib.grownBy_setB (grown_drewN w _ _) 2 _))
theorem one_any (ao : Option Addr) (len cap g : Nat) (most : Int) (w : World) (hm2 : most ≤ 9223372036854775807) (hS : Src ao len cap g w) :
    Calls Tryd.prog 58 #[.pointer (some ⟨g, 0, none⟩), .int .i64 most] w fun e w' => (∃ b : Bool, e = .returned (.bool b)) ∧ Src ao len cap g w' ∧ w.grownBy w' (some g) := by
  have h1 := n_any ao len cap g most w hm2 hS
  clear hS
  go_enter Tryd.func58, Tryd.ntmps58
  go_wp2_with (go_at_call 29; refine h1.mono ?_; rintro e w1 ⟨v, rfl, hv0, hv1, hv2, hS1, hg1⟩)
  go_ret
  exact ⟨⟨_, rfl⟩, hS1, hg1⟩
end DrawR
end Go.Proofs.YtaedolophhcjjaaDoor
namespace Go.Proofs.YtaedolophhcjjaaDoor
open Go.ChangeShapes Go.WideShapes Go.ChangeAt Go.RowKit
set_option linter.unusedVariables false
namespace DrawR
theorem Src.kept {ao : Option Addr} {len cap g : Nat} {w w' : World} {row : Option Nat} (h : Src ao len cap g w) (hg : w.grownBy w' row) (hr : ∀ k, row = some k → g < k) : Src ao len cap g w' := by
  obtain ⟨h1, ⟨k, mix, size, a, b, c, d, e, f⟩, h3⟩ := h
  have hlt : g < w.heap.size := (Array.getElem?_eq_some_iff.1 f).1
  refine ⟨h1, ⟨k, mix, size, a, b, c, d, e, ?_⟩, ?_⟩
  · rw [hg.block g hlt (fun e => by have := hr g e.symm; omega)]; exact f
  · rcases h3 with h0 | ⟨ab, aoff, e1, e2, e3⟩
    · exact .inl h0
    · refine .inr ⟨ab, aoff, e1, e2, fun i hi => ?_⟩
      obtain ⟨z, a, b, c⟩ := e3 i hi
      exact ⟨z, hg.cell a (fun e => by have := hr ab e.symm; omega), b, c⟩
theorem Src.lt {ao : Option Addr} {len cap g : Nat} {w : World} (h : Src ao len cap g w) : g < w.heap.size := by
  obtain ⟨h1, ⟨k, mix, size, a, b, c, d, e, f⟩, h3⟩ := h
  exact (Array.getElem?_eq_some_iff.1 f).1
theorem Src.alloc {ao : Option Addr} {len cap g : Nat} {w : World} (h : Src ao len cap g w) (o : Obj) : Src ao len cap g (w.alloc o) :=
  h.kept (World.grownBy_alloc w o none) (fun k e => by cases e)
theorem Trydinfo5 : (Tryd.prog.info? 5).map (fun i => (i.zero, i.size, i.bytes)) = some (some (.int .u8 0), 1, 1) := by kernel_rfl
theorem hid_intro {p : Prop} (h : p) : Hid p := h
theorem Trydinfo2 : (Tryd.prog.info? 2).map (fun i => (i.zero, i.size, i.bytes)) = some (some (.int .i64 0), 1, 8) := by kernel_rfl
/-- The fourteen edges. -/
def edges : List Int := [0, 1, -1, 2, 1000, 1001, 2147483648, 2147483647, -2147483648, 4611686018427387904, 9223372036854775807, -9223372036854775808, 1000000, 1000001]
theorem edges_bd (j : Nat) (h : j < 14) : ∃ x : Int, (edges.map (Value.int .i64))[j]? = some (.int .i64 x) ∧ -9223372036854775808 ≤ x ∧ x ≤ 9223372036854775807 := by
  match j, h with
  | 0, _ => exact ⟨_, rfl, by decide, by decide⟩
  | 1, _ => exact ⟨_, rfl, by decide, by decide⟩
  | 2, _ => exact ⟨_, rfl, by decide, by decide⟩
  | 3, _ => exact ⟨_, rfl, by decide, by decide⟩
  | 4, _ => exact ⟨_, rfl, by decide, by decide⟩
  | 5, _ => exact ⟨_, rfl, by decide, by decide⟩
  | 6, _ => exact ⟨_, rfl, by decide, by decide⟩
  | 7, _ => exact ⟨_, rfl, by decide, by decide⟩
  | 8, _ => exact ⟨_, rfl, by decide, by decide⟩
  | 9, _ => exact ⟨_, rfl, by decide, by decide⟩
  | 10, _ => exact ⟨_, rfl, by decide, by decide⟩
  | 11, _ => exact ⟨_, rfl, by decide, by decide⟩
  | 12, _ => exact ⟨_, rfl, by decide, by decide⟩
  | 13, _ => exact ⟨_, rfl, by decide, by decide⟩
theorem edge_cell (w : World) (T : TypeId) (j : Nat) (x : Int) (hx : (edges.map (Value.int .i64))[j]? = some (.int .i64 x)) : (w.alloc (.cells (edges.map (Value.int .i64)).toArray T)).cell? ⟨w.heap.size, j, none⟩ = some (.int .i64 x) := by
  rw [World.cell?_alloc_mark, List.getElem?_toArray]; exact hx
/-- Bytes that can be read: none, or so many cells, each a byte. -/
def Bytes (ao : Option Addr) (len : Nat) (w : World) : Prop :=
  len = 0 ∨ ∃ ab aoff, ao = some ⟨ab, aoff, none⟩ ∧ ab < w.heap.size ∧ ∀ i, i < len → ∃ z : Int, w.cell? ⟨ab, aoff + i, none⟩ = some (.int .u8 z) ∧ 0 ≤ z ∧ z ≤ 255
theorem Bytes.below {ao : Option Addr} {len : Nat} {w w' : World} (h : Bytes ao len w) (hb : Below w.heap.size w w') : Bytes ao len w' := by
  rcases h with h0 | ⟨ab, aoff, e1, e2, e3⟩
  · exact .inl h0
  · refine .inr ⟨ab, aoff, e1, Nat.lt_of_lt_of_le e2 hb.size, fun i hi => ?_⟩
    obtain ⟨z, a, b, c⟩ := e3 i hi
    exact ⟨z, (hb.cell (p := ⟨ab, aoff + i, none⟩) e2).trans a, b, c⟩
theorem wrap_bd64 (x : Int) : 0 ≤ IntKind.u64.wrap x ∧ IntKind.u64.wrap x ≤ 18446744073709551615 := by rw [u64wrap]; omega
theorem block_mix {w : World} {g : Nat} {c0 c1 c2 c3 y : Value} {T : TypeId} (hg : w.heap[g]? = some (.cells #[c0, c1, c2, c3] T (0, 0))) :
    (w.setCell ⟨g, 2, none⟩ y).heap[g]? = some (.cells #[c0, c1, y, c3] T (0, 0)) := by
  rw [Lib.heap_setCell_same hg y]; rfl
theorem block_size {w : World} {g : Nat} {c0 c1 c2 c3 y : Value} {T : TypeId} (hg : w.heap[g]? = some (.cells #[c0, c1, c2, c3] T (0, 0))) :
    (w.setCell ⟨g, 3, none⟩ y).heap[g]? = some (.cells #[c0, c1, c2, y] T (0, 0)) := by
  rw [Lib.heap_setCell_same hg y]; rfl
theorem src_mk {ao : Option Addr} {len cap : Nat} {w w' : World} {mix size : Int} (hlen : len ≤ 1048576) (hm : 0 ≤ mix ∧ mix ≤ 18446744073709551615) (hs : 0 ≤ size ∧ size ≤ 12)
    (hg : w'.heap[w.heap.size]? = some (.cells #[.slice ao len cap, .int .i64 0, .int .u64 mix, .int .i64 size] 87 (0, 0))) (hB : Bytes ao len w) (hb : Below w.heap.size w w') : Src ao len cap w.heap.size w' := by
  refine ⟨hlen, ⟨0, mix, size, by omega, hm.1, hm.2, hs.1, hs.2, hg⟩, ?_⟩
  rcases hB with h0 | ⟨ab, aoff, e1, e2, e3⟩
  · exact .inl h0
  · refine .inr ⟨ab, aoff, e1, e2, fun i hi => ?_⟩
    obtain ⟨z, a, b, c⟩ := e3 i hi
    exact ⟨z, (hb.cell (p := ⟨ab, aoff + i, none⟩) e2).trans a, b, c⟩
set_option maxRecDepth 100000 in
set_option maxHeartbeats 4000000 in
theorem source_any (ao : Option Addr) (len cap : Nat) (w : World) (hlen : len ≤ 1048576) (hB : Bytes ao len w) :
    Calls Tryd.prog 23 #[.slice ao len cap] w fun e w' => e = .returned (.pointer (some ⟨w.heap.size, 0, none⟩)) ∧ Src ao len cap w.heap.size w' ∧ Below w.heap.size w w' := by
  have HB := hid_intro hB
  clear hB
  have HG0 : Hid ((w.alloc (Obj.cells #[.slice ao len cap, .int .i64 0, .int .u64 88172645463325252, .int .i64 0] 87)).heap[w.heap.size]? = some (.cells #[.slice ao len cap, .int .i64 0, .int .u64 88172645463325252, .int .i64 0] 87 (0, 0))) := heap_alloc_new w _
  have HB0 : Hid (Below w.heap.size w (w.alloc (Obj.cells #[.slice ao len cap, .int .i64 0, .int .u64 88172645463325252, .int .i64 0] 87))) := (Below.refl _ _).alloc (Nat.le_refl _) _
  go_enter Tryd.func23, Tryd.ntmps23
  go_wp2
  go_loopw [4] (fun i wr => ∃ (k : Nat) (mix : Int), k ≤ len ∧ k ≤ 64 ∧ i = .int .i64 k ∧ 0 ≤ mix ∧ mix ≤ 18446744073709551615 ∧ Hid (wr.heap[w.heap.size]? = some (.cells #[.slice ao len cap, .int .i64 0, .int .u64 mix, .int .i64 0] 87 (0, 0))) ∧ Hid (Below w.heap.size w wr)) (fun i _ => 64 - (intOf i).toNat)
  case atStart => exact ⟨0, _, by omega, by omega, rfl, by omega, by omega, HG0, HB0⟩
  case round =>
    obtain ⟨k, mix, hk1, hk2, rfl, hm1, hm2, HG, HL⟩ := hrel
    clear HG0 HB0
    have c2 : wr.cell? ⟨w.heap.size, 2, none⟩ = some (.int .u64 mix) := by rw [cell_of_row wr w.heap.size 2 _ _ _ HG.out]; rfl
    have f2 : wr.frozen? ⟨w.heap.size, 2, none⟩ = false := by simp [World.frozen?, HG.out]
    have c3 : wr.cell? ⟨w.heap.size, 3, none⟩ = some (.int .i64 0) := by rw [cell_of_row wr w.heap.size 3 _ _ _ HG.out]; rfl
    have f3 : wr.frozen? ⟨w.heap.size, 3, none⟩ = false := by simp [World.frozen?, HG.out]
    by_cases hlt : k < len ∧ k < 64
    · obtain ⟨h1, h2⟩ := hlt
      have h3 : (k : Int) < (len : Int) := by omega
      have h4 : (k : Int) < 64 := by omega
      rcases HB.out with h0 | ⟨ab, aoff, rfl, hab, hcell⟩
      · omega
      obtain ⟨z, hz, hz1, hz2⟩ := hcell k h1
      have hz' : wr.cell? ⟨ab, aoff + k, none⟩ = some (.int .u8 z) := (HL.out.cell (p := ⟨ab, aoff + k, none⟩) hab).trans hz
      clear hcell hz c3 f3
      go_wp2
      go_region
      go_wp2
      go_roundw
      case rel => exact ⟨k + 1, _, by omega, by omega, by go_num, (wrap_bd64 _).1, (wrap_bd64 _).2, hid_intro (block_mix HG.out), hid_intro ((HL.out.setCell (Nat.le_refl _) _).drew)⟩
      case measure => simp [intOf]; omega
    · have hnot : ¬ (k : Int) < (len : Int) ∨ ((k : Int) < (len : Int) ∧ ¬ (k : Int) < 64) := by omega
      have hdiv : (0 : Int) ≤ (len : Int) / 20 := by omega
      clear hlt
      have hss : ∀ (W : World) (x y : Value), (W.setCell ⟨w.heap.size, 3, none⟩ x).setCell ⟨w.heap.size, 3, none⟩ y = W.setCell ⟨w.heap.size, 3, none⟩ y := fun W x y => set_twice W _ x y
      by_cases h12 : 12 < (len : Int) / 20
      all_goals
        rcases hnot with q1 | ⟨q1, q2⟩
        all_goals
          first
            | (exfalso; omega)
            | (go_wp2
               go_ret
               first
                 | exact ⟨rfl, src_mk hlen ⟨hm1, hm2⟩ (size := 12) ⟨by omega, by omega⟩ (block_size HG.out) HB.out (HL.out.setCell (Nat.le_refl _) _), HL.out.setCell (Nat.le_refl _) _⟩
                 | exact ⟨rfl, src_mk hlen ⟨hm1, hm2⟩ (size := (len : Int) / 20) ⟨by omega, by omega⟩ (block_size HG.out) HB.out (HL.out.setCell (Nat.le_refl _) _), HL.out.setCell (Nat.le_refl _) _⟩)
/-- A slice of integers that came in: nil; or a row of cells, each an integer of its kind. -/
def IsRow (k : IntKind) (w : World) (a : Option Addr) (len cap : Nat) (zs : List Int) : Prop :=
  (a = none ∧ len = 0 ∧ cap = 0 ∧ zs = []) ∨
  ∃ x, a = some x ∧ len ≤ cap ∧ cap ≤ maxLen ∧ zs.length = cap ∧ (∀ i, i < zs.length → w.cell? (x.add i) = some (.int k (zs.getD i 0))) ∧ ∀ n ∈ zs, (Lit.int k n).wf = true
theorem IsRow.bytes {w : World} {a : Option Addr} {len cap : Nat} {zs : List Int} (h : IsRow .u8 w a len cap zs) : Bytes a len w := by
  rcases h with ⟨_, h0, _⟩ | ⟨x, rfl, hl, hm, hz, hcell, hwz⟩
  · exact .inl h0
  · by_cases h0 : len = 0
    · exact .inl h0
    · obtain ⟨b, off, spot⟩ := x
      have hc := hcell 0 (by omega)
      have hspot : spot = none := by simpa [Addr.add] using World.cell?_spot hc
      subst hspot
      refine .inr ⟨b, off, rfl, ?_, fun i hi => ?_⟩
      · have := World.block_lt_of_cell? w _ hc
        simpa [Addr.add] using this
      · have hi2 : i < zs.length := by omega
        have h1 := hcell i hi2
        have e : (⟨b, off, none⟩ : Addr).add i = ⟨b, off + i, none⟩ := by simp [Addr.add]
        rw [e] at h1
        have hw := hwz (zs.getD i 0) (by rw [List.getD, List.getElem?_eq_getElem hi2]; exact List.getElem_mem hi2)
        have hb := bounds_u8 hw
        exact ⟨_, h1, by omega, by omega⟩
theorem IsRow.len {k : IntKind} {w : World} {a : Option Addr} {len cap : Nat} {zs : List Int} (h : IsRow k w a len cap zs) : len ≤ maxLen := by
  rcases h with ⟨_, h0, _⟩ | ⟨x, _, hl, hm, _⟩
  · omega
  · omega
end DrawR
end Go.Proofs.YtaedolophhcjjaaDoor
namespace Go.Proofs.YtaedolophhcjjaaDoor
open Go.ChangeShapes Go.WideShapes Go.ChangeAt Go.RowKit
set_option linter.unusedVariables false
namespace CatR
/-- A tier, a credit, a meter, a catalog. -/
structure Ti where
  u : Int
  p : Int
structure Cr where
  a : ByteArray
  m : Int
structure Me where
  n : ByteArray
  g : Int
  wh : Bool
  f : Int
  l : Int
  ts : List Ti
structure Ca where
  ms : List Me
  cs : List Cr
def Ti.zero : Ti := ⟨0, 0⟩
def Cr.zero : Cr := ⟨⟨#[]⟩, 0⟩
def Me.zero : Me := ⟨⟨#[]⟩, 0, false, 0, 0, []⟩
/-- The cells of a tier, of a credit stand at a place. -/
def TiAt (w : World) (b o : Nat) (t : Ti) : Prop := w.cell? ⟨b, o, none⟩ = some (.int .i64 t.u) ∧ w.cell? ⟨b, o + 1, none⟩ = some (.int .i64 t.p)
def CrAt (w : World) (b o : Nat) (t : Cr) : Prop := w.cell? ⟨b, o, none⟩ = some (.string t.a) ∧ w.cell? ⟨b, o + 1, none⟩ = some (.int .i64 t.m)
/-- The row holds these tiers, these credits; it lies in none of the shunned blocks. -/
def Tis (ao : Option Addr) (len : Nat) (ts : List Ti) (w : World) : Prop := ts.length = len ∧ (len = 0 ∨ ∃ b off, ao = some ⟨b, off, none⟩ ∧ b < w.heap.size ∧ ∀ j, j < len → TiAt w b (off + j * 2) (ts.getD j Ti.zero))
def Crs (ao : Option Addr) (len : Nat) (ts : List Cr) (w : World) : Prop := ts.length = len ∧ (len = 0 ∨ ∃ b off, ao = some ⟨b, off, none⟩ ∧ b < w.heap.size ∧ ∀ j, j < len → CrAt w b (off + j * 2) (ts.getD j Cr.zero))
/-- A meter's cells at a place, its tiers elsewhere. -/
def MeAt (w : World) (b o : Nat) (m : Me) : Prop := ∃ ta tc, w.cell? ⟨b, o, none⟩ = some (.string m.n) ∧ w.cell? ⟨b, o + 1, none⟩ = some (.int .i64 m.g) ∧ w.cell? ⟨b, o + 2, none⟩ = some (.bool m.wh) ∧ w.cell? ⟨b, o + 3, none⟩ = some (.int .i64 m.f) ∧ w.cell? ⟨b, o + 4, none⟩ = some (.int .i64 m.l) ∧ w.cell? ⟨b, o + 5, none⟩ = some (.slice ta m.ts.length tc) ∧ Tis ta m.ts.length m.ts w
def Mes (ao : Option Addr) (len : Nat) (ms : List Me) (w : World) : Prop := ms.length = len ∧ (len = 0 ∨ ∃ b off, ao = some ⟨b, off, none⟩ ∧ b < w.heap.size ∧ ∀ j, j < len → MeAt w b (off + j * 6) (ms.getD j Me.zero))
/-- A meter's value, a catalog's. -/
def IsMe (v : Value) (m : Me) (w : World) : Prop := ∃ ta tc, v = .agg #[.string m.n, .int .i64 m.g, .bool m.wh, .int .i64 m.f, .int .i64 m.l, .slice ta m.ts.length tc] ∧ Tis ta m.ts.length m.ts w
def IsCa (v : Value) (c : Ca) (w : World) : Prop := ∃ ma mc ca cc, v = .agg #[.slice ma c.ms.length mc, .slice ca c.cs.length cc] ∧ Mes ma c.ms.length c.ms w ∧ Crs ca c.cs.length c.cs w
theorem TiAt.below {w w' : World} {b o : Nat} {e : Ti} (h : TiAt w b o e) (hl : b < w.heap.size) (hb : Below w.heap.size w w') : TiAt w' b o e :=
  ⟨(hb.cell (p := ⟨b, o, none⟩) hl).trans h.1, (hb.cell (p := ⟨b, o + 1, none⟩) hl).trans h.2⟩
theorem CrAt.below {w w' : World} {b o : Nat} {e : Cr} (h : CrAt w b o e) (hl : b < w.heap.size) (hb : Below w.heap.size w w') : CrAt w' b o e :=
  ⟨(hb.cell (p := ⟨b, o, none⟩) hl).trans h.1, (hb.cell (p := ⟨b, o + 1, none⟩) hl).trans h.2⟩
theorem Tis.below {ao : Option Addr} {len : Nat} {es : List Ti} {w w' : World} (h : Tis ao len es w) (hb : Below w.heap.size w w') : Tis ao len es w' := by
  refine ⟨h.1, ?_⟩
  rcases h.2 with h0 | ⟨b, off, rfl, hlt, hc⟩
  · exact .inl h0
  · exact .inr ⟨b, off, rfl, by have := hb.size; omega, fun j hj => (hc j hj).below hlt hb⟩
theorem Crs.below {ao : Option Addr} {len : Nat} {es : List Cr} {w w' : World} (h : Crs ao len es w) (hb : Below w.heap.size w w') : Crs ao len es w' := by
  refine ⟨h.1, ?_⟩
  rcases h.2 with h0 | ⟨b, off, rfl, hlt, hc⟩
  · exact .inl h0
  · exact .inr ⟨b, off, rfl, by have := hb.size; omega, fun j hj => (hc j hj).below hlt hb⟩
theorem MeAt.below {w w' : World} {b o : Nat} {e : Me} (h : MeAt w b o e) (hl : b < w.heap.size) (hb : Below w.heap.size w w') : MeAt w' b o e := by
  obtain ⟨ta, tc, h0, h1, h2, h3, h4, h5, h6⟩ := h
  have f := fun k => hb.cell (p := ⟨b, k, none⟩) hl
  exact ⟨ta, tc, (f _).trans h0, (f _).trans h1, (f _).trans h2, (f _).trans h3, (f _).trans h4, (f _).trans h5, h6.below hb⟩
theorem Mes.below {ao : Option Addr} {len : Nat} {es : List Me} {w w' : World} (h : Mes ao len es w) (hb : Below w.heap.size w w') : Mes ao len es w' := by
  refine ⟨h.1, ?_⟩
  rcases h.2 with h0 | ⟨b, off, rfl, hlt, hc⟩
  · exact .inl h0
  · exact .inr ⟨b, off, rfl, by have := hb.size; omega, fun j hj => (hc j hj).below hlt hb⟩
theorem IsMe.below {v : Value} {m : Me} {w w' : World} (h : IsMe v m w) (hb : Below w.heap.size w w') : IsMe v m w' := by
  obtain ⟨ta, tc, hv, ht⟩ := h
  exact ⟨ta, tc, hv, ht.below hb⟩
theorem IsCa.below {v : Value} {m : Ca} {w w' : World} (h : IsCa v m w) (hb : Below w.heap.size w w') : IsCa v m w' := by
  obtain ⟨ma, mc, ca, cc, hv, h1, h2⟩ := h
  exact ⟨ma, mc, ca, cc, hv, h1.below hb, h2.below hb⟩
theorem tis_at {ao : Option Addr} {len : Nat} {es : List Ti} {w : World} (h : Tis ao len es w) (k : Nat) (hk : k < len) : ∃ b off, ao = some ⟨b, off, none⟩ ∧ b < w.heap.size ∧ TiAt w b (off + k * 2) (es.getD k Ti.zero) := by
  rcases h.2 with h0 | ⟨b, off, rfl, hlt, hc⟩
  · omega
  · exact ⟨b, off, rfl, hlt, hc k hk⟩
theorem crs_at {ao : Option Addr} {len : Nat} {es : List Cr} {w : World} (h : Crs ao len es w) (k : Nat) (hk : k < len) : ∃ b off, ao = some ⟨b, off, none⟩ ∧ b < w.heap.size ∧ CrAt w b (off + k * 2) (es.getD k Cr.zero) := by
  rcases h.2 with h0 | ⟨b, off, rfl, hlt, hc⟩
  · omega
  · exact ⟨b, off, rfl, hlt, hc k hk⟩
theorem mes_at {ao : Option Addr} {len : Nat} {es : List Me} {w : World} (h : Mes ao len es w) (k : Nat) (hk : k < len) : ∃ b off, ao = some ⟨b, off, none⟩ ∧ b < w.heap.size ∧ MeAt w b (off + k * 6) (es.getD k Me.zero) := by
  rcases h.2 with h0 | ⟨b, off, rfl, hlt, hc⟩
  · omega
  · exact ⟨b, off, rfl, hlt, hc k hk⟩
theorem getD_memG {α : Type} (es : List α) (d : α) (k : Nat) (h : k < es.length) : es.getD k d ∈ es := by
  have : es.getD k d = es[k] := by simp [List.getD, h]
  rw [this]; exact List.getElem_mem h
theorem Tis.nil (ao : Option Addr) (w : World) : Tis ao 0 [] w := ⟨rfl, .inl rfl⟩
end CatR
end Go.Proofs.YtaedolophhcjjaaDoor
namespace Go.Proofs.YtaedolophhcjjaaDoor
open Go.ChangeShapes Go.WideShapes Go.ChangeAt Go.RowKit
set_option linter.unusedVariables false
namespace EvtR
/-- Cells that may be written. -/
structure Pt (g m : Nat) (w : World) : Prop where
  lt : g < w.heap.size
  has : ∀ o, o < m → ∃ v, w.cell? ⟨g, o, none⟩ = some v
  free : ∀ o, o < m → w.frozen? ⟨g, o, none⟩ = false
theorem Pt.below {g m : Nat} {w w' : World} (h : Pt g m w) (hb : Below w.heap.size w w') : Pt g m w' :=
  ⟨by have := hb.size; have := h.lt; omega, fun o ho => by obtain ⟨v, hv⟩ := h.has o ho; exact ⟨v, (hb.cell (p := ⟨g, o, none⟩) h.lt).trans hv⟩, fun o ho => (hb.frozen (p := ⟨g, o, none⟩) h.lt).trans (h.free o ho)⟩
theorem cell_put {g m : Nat} {w : World} (h : Pt g m w) (o : Nat) (ho : o < m) (v : Value) : (w.setCell ⟨g, o, none⟩ v).cell? ⟨g, o, none⟩ = some v := by
  obtain ⟨u, hu⟩ := h.has o ho
  simp [go_sem, hu]
theorem cell_far {g : Nat} {w : World} (o o' : Nat) (ho : o ≠ o') (v : Value) : (w.setCell ⟨g, o, none⟩ v).cell? ⟨g, o', none⟩ = w.cell? ⟨g, o', none⟩ := by
  simp [go_sem]
theorem Pt.set {g m : Nat} {w : World} (h : Pt g m w) (o : Nat) (v : Value) : Pt g m (w.setCell ⟨g, o, none⟩ v) := by
  refine ⟨by simpa using h.lt, fun x hx => ?_, fun x hx => ?_⟩
  · by_cases e : o = x
    · subst e; exact ⟨v, cell_put h o hx v⟩
    · obtain ⟨u, hu⟩ := h.has x hx
      exact ⟨u, (cell_far o x e v).trans hu⟩
  · have := h.free x hx
    simp [go_sem, this]
end EvtR
end Go.Proofs.YtaedolophhcjjaaDoor
namespace Go.Proofs.YtaedolophhcjjaaDoor
open Go.ChangeShapes Go.WideShapes Go.ChangeAt Go.RowKit
set_option linter.unusedVariables false
namespace RowG
open EvtR (Pt cell_put cell_far)
theorem hid_intro {p : Prop} (h : p) : Hid p := h
section
variable {α : Type} (k : Nat) (cells : α → List Value) (z : α)
/-- The cells of a thing stand at a place. -/
def AtG (w : World) (b o : Nat) (x : α) : Prop := ∀ j, j < k → w.cell? ⟨b, o + j, none⟩ = (cells x)[j]?
/-- The row holds these things. -/
def Rws (ao : Option Addr) (xs : List α) (w : World) : Prop := xs.length = 0 ∨ ∃ b off, ao = some ⟨b, off, none⟩ ∧ b < w.heap.size ∧ ∀ j, j < xs.length → AtG k cells w b (off + j * k) (xs.getD j z)
/-- The cell that stands at a place of a row of things. -/
def cellAt (xs : List α) (o : Nat) : Option Value := (cells (xs.getD (o / k) z))[o % k]?
/-- The first cells are written. -/
def Wr (f : Nat → Option Value) (j g : Nat) (w : World) : Prop := ∀ o, o < j → w.cell? ⟨g, o, none⟩ = f o
end
section
variable {α : Type} {k : Nat} {cells : α → List Value} {z : α}
theorem AtG.below {w w' : World} {b o : Nat} {x : α} (h : AtG k cells w b o x) (hl : b < w.heap.size) (hb : Below w.heap.size w w') : AtG k cells w' b o x :=
  fun j hj => (hb.cell (p := ⟨b, o + j, none⟩) hl).trans (h j hj)
theorem Rws.below {ao : Option Addr} {xs : List α} {w w' : World} (h : Rws k cells z ao xs w) (hb : Below w.heap.size w w') : Rws k cells z ao xs w' := by
  rcases h with h0 | ⟨b, off, rfl, hlt, hc⟩
  · exact .inl h0
  · exact .inr ⟨b, off, rfl, by have := hb.size; omega, fun j hj => (hc j hj).below hlt hb⟩
theorem Rws.grown {ao : Option Addr} {xs : List α} {w w' : World} {row : Option Nat} (h : Rws k cells z ao xs w) (hg : w.grownBy w' row) (hne : xs.length = 0 ∨ ∀ b off, ao = some ⟨b, off, none⟩ → some b ≠ row) : Rws k cells z ao xs w' := by
  rcases h with h0 | ⟨b, off, rfl, hlt, hc⟩
  · exact .inl h0
  · rcases hne with h0 | hne
    · exact .inl h0
    have e := hg.block b hlt (hne b off rfl)
    exact .inr ⟨b, off, rfl, by have := hg.size; omega, fun j hj i hi => (World.cell?_of_block (a := ⟨b, off + j * k + i, none⟩) e).trans (hc j hj i hi)⟩
theorem Rws.at {ao : Option Addr} {xs : List α} {w : World} (h : Rws k cells z ao xs w) (j : Nat) (hj : j < xs.length) : ∃ b off, ao = some ⟨b, off, none⟩ ∧ b < w.heap.size ∧ AtG k cells w b (off + j * k) (xs.getD j z) := by
  rcases h with h0 | ⟨b, off, rfl, hlt, hc⟩
  · omega
  · exact ⟨b, off, rfl, hlt, hc j hj⟩
theorem rws_nil (ao : Option Addr) (w : World) : Rws k cells z ao [] w := .inl rfl
theorem getD_mem (xs : List α) (j : Nat) (h : j < xs.length) : xs.getD j z ∈ xs := by
  have : xs.getD j z = xs[j] := by simp [List.getD, h]
  rw [this]; exact List.getElem_mem h
theorem take_more (xs : List α) (j : Nat) (h : j < xs.length) : xs.take (j + 1) = xs.take j ++ [xs.getD j z] := by
  rw [List.take_add_one, List.getElem?_eq_getElem h]
  simp [List.getD, h]
theorem Wr.below {f : Nat → Option Value} {j g m : Nat} {w w' : World} (h : Wr f j g w) (hp : Pt g m w) (hb : Below w.heap.size w w') : Wr f j g w' :=
  fun o ho => (hb.cell (p := ⟨g, o, none⟩) hp.lt).trans (h o ho)
theorem Wr.more {f : Nat → Option Value} {j g m : Nat} {w : World} (h : Wr f j g w) (hp : Pt g m w) (hj : j < m) (v : Value) (hv : f j = some v) : Wr f (j + 1) g (w.setCell ⟨g, j, none⟩ v) := by
  intro o ho
  by_cases e : j = o
  · subst e; rw [cell_put hp j hj v, hv]
  · rw [cell_far j o e v]; exact h o (by omega)
theorem Wr.at {xs : List α} {n g : Nat} {w : World} (h : Wr (cellAt k cells z xs) (n * k) g w) (i : Nat) (hi : i < n) (x : Nat) (hx : x < k) : w.cell? ⟨g, i * k + x, none⟩ = (cells (xs.getD i z))[x]? := by
  have hlt : i * k + x < n * k := by
    have : (i + 1) * k ≤ n * k := Nat.mul_le_mul_right _ hi
    rw [Nat.add_mul, Nat.one_mul] at this
    omega
  rw [h _ hlt]
  unfold cellAt
  rw [show i * k + x = x + k * i by rw [Nat.mul_comm]; omega, Nat.add_mul_div_left _ _ (by omega), Nat.div_eq_of_lt hx, Nat.zero_add, Nat.add_mul_mod_self_left, Nat.mod_eq_of_lt hx]
theorem Wr.rws {xs : List α} {g : Nat} {w : World} (h : Wr (cellAt k cells z xs) (xs.length * k) g w) (hl : g < w.heap.size) : Rws k cells z (some ⟨g, 0, none⟩) xs w :=
  .inr ⟨g, 0, rfl, hl, fun j hj i hi => by rw [Nat.zero_add]; exact h.at j hj i hi⟩
theorem cellAt_of {xs : List α} (i x : Nat) (hx : x < k) : cellAt k cells z xs (i * k + x) = (cells (xs.getD i z))[x]? := by
  unfold cellAt
  rw [show i * k + x = x + k * i by rw [Nat.mul_comm]; omega, Nat.add_mul_div_left _ _ (by omega), Nat.div_eq_of_lt hx, Nat.zero_add, Nat.add_mul_mod_self_left, Nat.mod_eq_of_lt hx]
/-- The cells of a list of things. -/
def cellsAll (cells : α → List Value) (xs : List α) : List Value := xs.flatMap cells
theorem cellsAll_app (xs : List α) (x : α) : cellsAll cells (xs ++ [x]) = cellsAll cells xs ++ cells x := by simp [cellsAll]
theorem cellsAll_len (hk : ∀ x, (cells x).length = k) (xs : List α) : (cellsAll cells xs).length = xs.length * k := by
  induction xs with
  | nil => simp [cellsAll]
  | cons x xs ih => simp only [cellsAll, List.flatMap_cons, List.length_append, hk, List.length_cons] at *; rw [ih, Nat.add_mul]; omega
theorem cellsAll_get (hk : ∀ x, (cells x).length = k) (xs : List α) (i x : Nat) (hi : i < xs.length) (hx : x < k) : (cellsAll cells xs)[i * k + x]? = (cells (xs.getD i z))[x]? := by
  induction xs generalizing i with
  | nil => simp at hi
  | cons a xs ih =>
    simp only [cellsAll, List.flatMap_cons]
    cases i with
    | zero =>
      rw [Nat.zero_mul, Nat.zero_add, List.getElem?_append_left (by rw [hk]; exact hx)]
      rfl
    | succ i =>
      rw [List.getElem?_append_right (by rw [hk, Nat.add_mul]; omega), hk, show (i + 1) * k + x - k = i * k + x by rw [Nat.add_mul]; omega]
      simp only [List.length_cons] at hi
      exact ih i (by omega)
/-- A list that a call has made. -/
structure MadeG (k : Nat) (cells : α → List Value) (z : α) (base : Nat) (ao : Option Addr) (xs : List α) (w : World) : Prop where
  rws : Rws k cells z ao xs w
  own : xs.length = 0 ∨ ∃ g, ao = some ⟨g, 0, none⟩ ∧ base ≤ g ∧ Pt g (xs.length * k) w
theorem made_nil (base : Nat) (ao : Option Addr) (w : World) : MadeG k cells z base ao [] w := ⟨.inl rfl, .inl rfl⟩
theorem MadeG.below {base : Nat} {ao : Option Addr} {xs : List α} {w w' : World} (h : MadeG k cells z base ao xs w) (hb : Below w.heap.size w w') : MadeG k cells z base ao xs w' :=
  ⟨h.rws.below hb, h.own.imp id (fun ⟨g, h1, h2, h3⟩ => ⟨g, h1, h2, h3.below hb⟩)⟩
theorem MadeG.low {base base' : Nat} {ao : Option Addr} {xs : List α} {w : World} (h : MadeG k cells z base ao xs w) (hb : base' ≤ base) : MadeG k cells z base' ao xs w :=
  ⟨h.rws, h.own.imp id (fun ⟨g, h1, h2, h3⟩ => ⟨g, h1, by omega, h3⟩)⟩
theorem own_made (hk : ∀ x, (cells x).length = k) {w : World} {base T : Nat} {v : Value} {xs : List α} (h : w.ownsRow base T k v xs.length (cellsAll cells xs)) : ∃ ao cap, v = .slice ao xs.length cap ∧ MadeG k cells z base ao xs w := by
  rcases h.2 with ⟨h0, h1⟩ | ⟨g, cap, cur, hv, hg, hh, hc, _, hz, hcur⟩
  · obtain rfl : xs = [] := List.length_eq_zero_iff.1 h1
    exact ⟨none, 0, h0, made_nil _ _ _⟩
  · have hm : xs.length * k ≤ cur.size := by rw [hz]; exact Nat.mul_le_mul_right _ hc
    have hl := (h.lt g (by rw [hv]; rfl)).2
    refine ⟨_, _, hv, .inr ⟨g, 0, rfl, hl, fun j hj i hi => ?_⟩, .inr ⟨g, rfl, hg, hl, fun o ho => ?_, fun o ho => ?_⟩⟩
    · rw [Nat.zero_add, ← cellsAll_get hk xs j i hj hi, ← hcur]
      have hlt : j * k + i < xs.length * k := by
        have : (j + 1) * k ≤ xs.length * k := Nat.mul_le_mul_right _ hj
        rw [Nat.add_mul, Nat.one_mul] at this
        omega
      rw [List.getElem?_take, if_pos hlt]
      simp [World.cell?, hh]
    · have : o < cur.size := by omega
      refine ⟨cur[o], ?_⟩
      simp [World.cell?, hh, this]
    · simp [World.frozen?, hh]
end
theorem own_below {w w' : World} {base e size n : Nat} {v : Value} {xs : List Value} (h : w.ownsRow base e size v n xs) (hb : Below w.heap.size w w') : w'.ownsRow base e size v n xs := by
  refine h.kept (row := none) ⟨hb.os, hb.tape, hb.output, hb.size, fun k hk _ => hb.block k hk⟩ ?_
  rcases hob : v.ownBlock with _ | b
  · exact .inl rfl
  · exact .inr (by simp)
theorem grown_set (w : World) (b o : Nat) (v : Value) : w.grownBy (w.setCell ⟨b, o, none⟩ v) (some b) := by
  refine ⟨rfl, rfl, rfl, by simp, fun k hk hne => ?_⟩
  simp only [World.setCell]
  rw [Array.getElem?_modify, if_neg (fun e => hne (by rw [e]))]
theorem own_set {w : World} {base e size n : Nat} {v : Value} {xs : List Value} (h : w.ownsRow base e size v n xs) (g o : Nat) (u : Value) (hg : ∀ b, v.ownBlock = some b → b ≠ g) : (w.setCell ⟨g, o, none⟩ u).ownsRow base e size v n xs := by
  refine h.kept (grown_set w g o u) ?_
  rcases hob : v.ownBlock with _ | b
  · exact .inl rfl
  · exact .inr (fun e => hg b hob (by simpa using e))
end RowG
end Go.Proofs.YtaedolophhcjjaaDoor
namespace Go.Proofs.YtaedolophhcjjaaDoor
open Go.ChangeShapes Go.WideShapes Go.ChangeAt Go.RowKit
set_option linter.unusedVariables false
namespace DrawR
open CatR (Ti Me Cr Ca Tis Mes Crs TiAt MeAt CrAt IsMe IsCa)
open EvtR (Pt cell_put cell_far)
/-- The plain catalog. -/
def plainM : List Me := [⟨⟨#[99, 112, 117]⟩, 1, false, 10, 0, [⟨100, 50⟩, ⟨1000000000000, 20⟩]⟩, ⟨⟨#[100, 105, 115, 107]⟩, 2, true, 0, 500, [⟨50, 9⟩, ⟨200, 7⟩, ⟨1000000000000, 5⟩]⟩, ⟨⟨#[110, 101, 116]⟩, 4, false, 0, 0, [⟨1000000000000, 3⟩]⟩, ⟨⟨#[117, 115, 101, 114, 115]⟩, 3, false, 0, 0, [⟨1000000000000, 1000⟩]⟩]
def plainC : Ca := ⟨plainM, [⟨⟨#[97, 110, 110]⟩, 3000⟩]⟩
/-- The plain catalog's memory. -/
def plainW (w : World) : World := (((((((w.alloc (.cells #[.slice (some ⟨w.heap.size + 1 + 1 + 1 + 1 + 1, 0, none⟩) 4 4, .slice (some ⟨w.heap.size + 1 + 1 + 1 + 1 + 1 + 1, 0, none⟩) 1 1] 26)).alloc (.cells #[.int .i64 100, .int .i64 50, .int .i64 1000000000000, .int .i64 20] 72)).alloc (.cells #[.int .i64 50, .int .i64 9, .int .i64 200, .int .i64 7, .int .i64 1000000000000, .int .i64 5] 72)).alloc (.cells #[.int .i64 1000000000000, .int .i64 3] 72)).alloc (.cells #[.int .i64 1000000000000, .int .i64 1000] 72)).alloc (.cells #[.string ⟨#[99, 112, 117]⟩, .int .i64 1, .bool false, .int .i64 10, .int .i64 0, .slice (some ⟨w.heap.size + 1, 0, none⟩) 2 2, .string ⟨#[100, 105, 115, 107]⟩, .int .i64 2, .bool true, .int .i64 0, .int .i64 500, .slice (some ⟨w.heap.size + 1 + 1, 0, none⟩) 3 3, .string ⟨#[110, 101, 116]⟩, .int .i64 4, .bool false, .int .i64 0, .int .i64 0, .slice (some ⟨w.heap.size + 1 + 1 + 1, 0, none⟩) 1 1, .string ⟨#[117, 115, 101, 114, 115]⟩, .int .i64 3, .bool false, .int .i64 0, .int .i64 0, .slice (some ⟨w.heap.size + 1 + 1 + 1 + 1, 0, none⟩) 1 1] 37)).alloc (.cells #[.string ⟨#[97, 110, 110]⟩, .int .i64 3000] 53))
theorem plain_below (w : World) : Below w.heap.size w (plainW w) := by
  unfold plainW
  have h0 := Below.refl w.heap.size w
  repeat' first | exact h0 | (refine Below.alloc ?_ (by simp; try omega) _)
theorem plain_t0 (w : World) : w.heap.size + 1 < (plainW w).heap.size ∧ ∀ i, i < 4 → (plainW w).cell? ⟨w.heap.size + 1, i, none⟩ = ([.int .i64 100, .int .i64 50, .int .i64 1000000000000, .int .i64 20] : List Value)[i]? := by
  refine ⟨by simp [plainW], fun i hi => ?_⟩
  simp [plainW, go_sem]
theorem plain_t1 (w : World) : w.heap.size + 1 + 1 < (plainW w).heap.size ∧ ∀ i, i < 6 → (plainW w).cell? ⟨w.heap.size + 1 + 1, i, none⟩ = ([.int .i64 50, .int .i64 9, .int .i64 200, .int .i64 7, .int .i64 1000000000000, .int .i64 5] : List Value)[i]? := by
  refine ⟨by simp [plainW], fun i hi => ?_⟩
  simp [plainW, go_sem]
theorem plain_t2 (w : World) : w.heap.size + 1 + 1 + 1 < (plainW w).heap.size ∧ ∀ i, i < 2 → (plainW w).cell? ⟨w.heap.size + 1 + 1 + 1, i, none⟩ = ([.int .i64 1000000000000, .int .i64 3] : List Value)[i]? := by
  refine ⟨by simp [plainW], fun i hi => ?_⟩
  simp [plainW, go_sem]
theorem plain_t3 (w : World) : w.heap.size + 1 + 1 + 1 + 1 < (plainW w).heap.size ∧ ∀ i, i < 2 → (plainW w).cell? ⟨w.heap.size + 1 + 1 + 1 + 1, i, none⟩ = ([.int .i64 1000000000000, .int .i64 1000] : List Value)[i]? := by
  refine ⟨by simp [plainW], fun i hi => ?_⟩
  simp [plainW, go_sem]
theorem plain_m (w : World) : w.heap.size + 1 + 1 + 1 + 1 + 1 < (plainW w).heap.size ∧ ∀ i, i < 24 → (plainW w).cell? ⟨w.heap.size + 1 + 1 + 1 + 1 + 1, i, none⟩ = ([.string ⟨#[99, 112, 117]⟩, .int .i64 1, .bool false, .int .i64 10, .int .i64 0, .slice (some ⟨w.heap.size + 1, 0, none⟩) 2 2, .string ⟨#[100, 105, 115, 107]⟩, .int .i64 2, .bool true, .int .i64 0, .int .i64 500, .slice (some ⟨w.heap.size + 1 + 1, 0, none⟩) 3 3, .string ⟨#[110, 101, 116]⟩, .int .i64 4, .bool false, .int .i64 0, .int .i64 0, .slice (some ⟨w.heap.size + 1 + 1 + 1, 0, none⟩) 1 1, .string ⟨#[117, 115, 101, 114, 115]⟩, .int .i64 3, .bool false, .int .i64 0, .int .i64 0, .slice (some ⟨w.heap.size + 1 + 1 + 1 + 1, 0, none⟩) 1 1] : List Value)[i]? := by
  refine ⟨by simp [plainW], fun i hi => ?_⟩
  simp [plainW, go_sem]
theorem plain_c (w : World) : w.heap.size + 1 + 1 + 1 + 1 + 1 + 1 < (plainW w).heap.size ∧ ∀ i, i < 2 → (plainW w).cell? ⟨w.heap.size + 1 + 1 + 1 + 1 + 1 + 1, i, none⟩ = ([.string ⟨#[97, 110, 110]⟩, .int .i64 3000] : List Value)[i]? := by
  refine ⟨by simp [plainW], fun i hi => ?_⟩
  simp [plainW, go_sem]
set_option maxRecDepth 100000 in
theorem plain_mes (w : World) : Mes (some ⟨w.heap.size + 1 + 1 + 1 + 1 + 1, 0, none⟩) 4 plainM (plainW w) := by
  refine ⟨rfl, .inr ⟨_, 0, rfl, (plain_m w).1, fun j hj => ?_⟩⟩
  have m := (plain_m w).2
  match j, hj with
  | 0, _ => exact ⟨_, _, m 0 (by omega), m 1 (by omega), m 2 (by omega), m 3 (by omega), m 4 (by omega), m 5 (by omega), ⟨rfl, .inr ⟨_, 0, rfl, (plain_t0 w).1, fun i hi => by
      have t := (plain_t0 w).2
      match i, hi with
      | 0, _ => exact ⟨t 0 (by omega), t 1 (by omega)⟩
      | 1, _ => exact ⟨t 2 (by omega), t 3 (by omega)⟩
      ⟩⟩⟩
  | 1, _ => exact ⟨_, _, m 6 (by omega), m 7 (by omega), m 8 (by omega), m 9 (by omega), m 10 (by omega), m 11 (by omega), ⟨rfl, .inr ⟨_, 0, rfl, (plain_t1 w).1, fun i hi => by
      have t := (plain_t1 w).2
      match i, hi with
      | 0, _ => exact ⟨t 0 (by omega), t 1 (by omega)⟩
      | 1, _ => exact ⟨t 2 (by omega), t 3 (by omega)⟩
      | 2, _ => exact ⟨t 4 (by omega), t 5 (by omega)⟩
      ⟩⟩⟩
  | 2, _ => exact ⟨_, _, m 12 (by omega), m 13 (by omega), m 14 (by omega), m 15 (by omega), m 16 (by omega), m 17 (by omega), ⟨rfl, .inr ⟨_, 0, rfl, (plain_t2 w).1, fun i hi => by
      have t := (plain_t2 w).2
      match i, hi with
      | 0, _ => exact ⟨t 0 (by omega), t 1 (by omega)⟩
      ⟩⟩⟩
  | 3, _ => exact ⟨_, _, m 18 (by omega), m 19 (by omega), m 20 (by omega), m 21 (by omega), m 22 (by omega), m 23 (by omega), ⟨rfl, .inr ⟨_, 0, rfl, (plain_t3 w).1, fun i hi => by
      have t := (plain_t3 w).2
      match i, hi with
      | 0, _ => exact ⟨t 0 (by omega), t 1 (by omega)⟩
      ⟩⟩⟩
theorem plain_crs (w : World) : Crs (some ⟨w.heap.size + 1 + 1 + 1 + 1 + 1 + 1, 0, none⟩) 1 plainC.cs (plainW w) := by
  refine ⟨rfl, .inr ⟨_, 0, rfl, (plain_c w).1, fun j hj => ?_⟩⟩
  have c := (plain_c w).2
  match j, hj with
  | 0, _ => exact ⟨c 0 (by omega), c 1 (by omega)⟩
set_option maxRecDepth 100000 in
set_option maxHeartbeats 4000000 in
theorem plain_any (w : World) : Calls Tryd.prog 55 #[] w fun e w' => e = .returned (.agg #[.slice (some ⟨w.heap.size + 1 + 1 + 1 + 1 + 1, 0, none⟩) 4 4, .slice (some ⟨w.heap.size + 1 + 1 + 1 + 1 + 1 + 1, 0, none⟩) 1 1]) ∧ w' = plainW w := by
  have hW : plainW w = (((((((w.alloc (.cells #[.slice (some ⟨w.heap.size + 1 + 1 + 1 + 1 + 1, 0, none⟩) 4 4, .slice (some ⟨w.heap.size + 1 + 1 + 1 + 1 + 1 + 1, 0, none⟩) 1 1] 26)).alloc (.cells #[.int .i64 100, .int .i64 50, .int .i64 1000000000000, .int .i64 20] 72)).alloc (.cells #[.int .i64 50, .int .i64 9, .int .i64 200, .int .i64 7, .int .i64 1000000000000, .int .i64 5] 72)).alloc (.cells #[.int .i64 1000000000000, .int .i64 3] 72)).alloc (.cells #[.int .i64 1000000000000, .int .i64 1000] 72)).alloc (.cells #[.string ⟨#[99, 112, 117]⟩, .int .i64 1, .bool false, .int .i64 10, .int .i64 0, .slice (some ⟨w.heap.size + 1, 0, none⟩) 2 2, .string ⟨#[100, 105, 115, 107]⟩, .int .i64 2, .bool true, .int .i64 0, .int .i64 500, .slice (some ⟨w.heap.size + 1 + 1, 0, none⟩) 3 3, .string ⟨#[110, 101, 116]⟩, .int .i64 4, .bool false, .int .i64 0, .int .i64 0, .slice (some ⟨w.heap.size + 1 + 1 + 1, 0, none⟩) 1 1, .string ⟨#[117, 115, 101, 114, 115]⟩, .int .i64 3, .bool false, .int .i64 0, .int .i64 0, .slice (some ⟨w.heap.size + 1 + 1 + 1 + 1, 0, none⟩) 1 1] 37)).alloc (.cells #[.string ⟨#[97, 110, 110]⟩, .int .i64 3000] 53)) := rfl
  obtain ⟨W, hE⟩ : ∃ W, W = plainW w := ⟨_, rfl⟩
  rw [← hE] at hW ⊢
  have HW : Hid (W = (((((((w.alloc (.cells #[.slice (some ⟨w.heap.size + 1 + 1 + 1 + 1 + 1, 0, none⟩) 4 4, .slice (some ⟨w.heap.size + 1 + 1 + 1 + 1 + 1 + 1, 0, none⟩) 1 1] 26)).alloc (.cells #[.int .i64 100, .int .i64 50, .int .i64 1000000000000, .int .i64 20] 72)).alloc (.cells #[.int .i64 50, .int .i64 9, .int .i64 200, .int .i64 7, .int .i64 1000000000000, .int .i64 5] 72)).alloc (.cells #[.int .i64 1000000000000, .int .i64 3] 72)).alloc (.cells #[.int .i64 1000000000000, .int .i64 1000] 72)).alloc (.cells #[.string ⟨#[99, 112, 117]⟩, .int .i64 1, .bool false, .int .i64 10, .int .i64 0, .slice (some ⟨w.heap.size + 1, 0, none⟩) 2 2, .string ⟨#[100, 105, 115, 107]⟩, .int .i64 2, .bool true, .int .i64 0, .int .i64 500, .slice (some ⟨w.heap.size + 1 + 1, 0, none⟩) 3 3, .string ⟨#[110, 101, 116]⟩, .int .i64 4, .bool false, .int .i64 0, .int .i64 0, .slice (some ⟨w.heap.size + 1 + 1 + 1, 0, none⟩) 1 1, .string ⟨#[117, 115, 101, 114, 115]⟩, .int .i64 3, .bool false, .int .i64 0, .int .i64 0, .slice (some ⟨w.heap.size + 1 + 1 + 1 + 1, 0, none⟩) 1 1] 37)).alloc (.cells #[.string ⟨#[97, 110, 110]⟩, .int .i64 3000] 53))) := hW
  clear hW hE
  go_enter Tryd.func55, Tryd.ntmps55
  go_wp2_with fail
  rw [← HW.out]
  have c0 : W.cell? ⟨w.heap.size, 0, none⟩ = some (.slice (some ⟨w.heap.size + 1 + 1 + 1 + 1 + 1, 0, none⟩) 4 4) := by rw [HW.out]; simp [go_sem]
  have c1 : W.cell? ⟨w.heap.size, 1, none⟩ = some (.slice (some ⟨w.heap.size + 1 + 1 + 1 + 1 + 1 + 1, 0, none⟩) 1 1) := by rw [HW.out]; simp [go_sem]
  refine bodyPost_ret (v := .agg #[.slice (some ⟨w.heap.size + 1 + 1 + 1 + 1 + 1, 0, none⟩) 4 4, .slice (some ⟨w.heap.size + 1 + 1 + 1 + 1 + 1 + 1, 0, none⟩) 1 1]) (by simp [results, Tryd.results55, go_sem, c0, c1]) rfl ⟨rfl, rfl⟩
end DrawR
end Go.Proofs.YtaedolophhcjjaaDoor
namespace Go.Proofs.YtaedolophhcjjaaDoor
open Go.ChangeShapes Go.WideShapes Go.ChangeAt Go.RowKit
set_option linter.unusedVariables false
namespace DrawR
open CatR (Ti Me Cr Ca Tis Mes Crs TiAt MeAt CrAt IsMe IsCa tis_at mes_at)
open EvtR (Pt cell_put cell_far)
end DrawR
namespace CatR
theorem pt_row6 (w : World) (T : TypeId) : EvtR.Pt w.heap.size 6 (w.alloc (.cells #[.string ⟨#[]⟩, .int .i64 0, .bool false, .int .i64 0, .int .i64 0, .slice none 0 0] T)) := by
  refine ⟨by simp, fun o ho => ?_, fun o ho => by simp [go_sem]⟩
  match o, ho with
  | 0, _ => exact ⟨_, by simp [go_sem]; rfl⟩
  | 1, _ => exact ⟨_, by simp [go_sem]; rfl⟩
  | 2, _ => exact ⟨_, by simp [go_sem]; rfl⟩
  | 3, _ => exact ⟨_, by simp [go_sem]; rfl⟩
  | 4, _ => exact ⟨_, by simp [go_sem]; rfl⟩
  | 5, _ => exact ⟨_, by simp [go_sem]; rfl⟩
theorem pt_cells6 (w : World) (a b c d e f : Value) (T : TypeId) : EvtR.Pt w.heap.size 6 (w.alloc (.cells #[a, b, c, d, e, f] T)) := by
  refine ⟨by simp, fun o ho => ?_, fun o ho => by simp [go_sem]⟩
  match o, ho with
  | 0, _ => exact ⟨_, by simp [go_sem]; rfl⟩
  | 1, _ => exact ⟨_, by simp [go_sem]; rfl⟩
  | 2, _ => exact ⟨_, by simp [go_sem]; rfl⟩
  | 3, _ => exact ⟨_, by simp [go_sem]; rfl⟩
  | 4, _ => exact ⟨_, by simp [go_sem]; rfl⟩
  | 5, _ => exact ⟨_, by simp [go_sem]; rfl⟩
end CatR
namespace DrawR
open CatR (Ti Me Cr Ca Tis Mes Crs TiAt MeAt CrAt IsMe IsCa tis_at mes_at)
open EvtR (Pt cell_put cell_far)
def meC (m : Me) (ta : Option Addr) (tc : Nat) : List Value := [.string m.n, .int .i64 m.g, .bool m.wh, .int .i64 m.f, .int .i64 m.l, .slice ta m.ts.length tc]
theorem tis_kept {ta : Option Addr} {len : Nat} {ts : List Ti} {w w' : World} {row : Option Nat} (h : Tis ta len ts w) (hg : w.grownBy w' row) (hne : ∀ b o, ta = some ⟨b, o, none⟩ → some b ≠ row) : Tis ta len ts w' := by
  refine ⟨h.1, ?_⟩
  rcases h.2 with h0 | ⟨b, off, rfl, hlt, hc⟩
  · exact .inl h0
  · have e := hg.block b hlt (hne b off rfl)
    exact .inr ⟨b, off, rfl, by have := hg.size; omega, fun j hj => ⟨(World.cell?_of_block (a := ⟨b, off + j * 2, none⟩) e).trans (hc j hj).1, (World.cell?_of_block (a := ⟨b, off + j * 2 + 1, none⟩) e).trans (hc j hj).2⟩⟩
theorem pt_kept {B n : Nat} {w w' : World} {row : Option Nat} (h : Pt B n w) (hg : w.grownBy w' row) (hne : some B ≠ row) : Pt B n w' := by
  have e := hg.block B h.lt hne
  exact ⟨by have := hg.size; have := h.lt; omega, fun o ho => by obtain ⟨v, hv⟩ := h.has o ho; exact ⟨v, (World.cell?_of_block (a := ⟨B, o, none⟩) e).trans hv⟩, fun o ho => (World.frozen?_of_block (a := ⟨B, o, none⟩) e).trans (h.free o ho)⟩
/-- A meter's block while it is drawn: it, the result's block R, and the tiers elsewhere, all of them new. -/
structure MS (ao : Option Addr) (len cap g : Nat) (w : World) (B R : Nat) (m : Me) (ta : Option Addr) (tc : Nat) (W : World) : Prop where
  src : Src ao len cap g W
  grew : w.grownBy W (some g)
  glt : g < w.heap.size
  ptB : Pt B 6 W
  ptR : Pt R 6 W
  hB : w.heap.size ≤ B
  hR : w.heap.size ≤ R
  hne : B ≠ R
  cells : ∀ i, i < 6 → W.cell? ⟨B, i, none⟩ = (meC m ta tc)[i]?
  tis : Tis ta m.ts.length m.ts W
  far : ∀ b o, ta = some ⟨b, o, none⟩ → w.heap.size ≤ b ∧ b ≠ B ∧ b ≠ R
  small : m.n.size ≤ 100 ∧ m.ts.length ≤ 100
theorem MS.step {ao : Option Addr} {len cap g : Nat} {w : World} {B R : Nat} {m : Me} {ta : Option Addr} {tc : Nat} {W W' : World} (h : MS ao len cap g w B R m ta tc W) (hS : Src ao len cap g W') (hg : W.grownBy W' (some g)) : MS ao len cap g w B R m ta tc W' := by
  have hgl := h.glt
  have nB : some B ≠ some g := by have := h.hB; intro e; cases e; omega
  have nR : some R ≠ some g := by have := h.hR; intro e; cases e; omega
  refine ⟨hS, Lib.grownBy_trans h.grew hg, hgl, pt_kept h.ptB hg nB, pt_kept h.ptR hg nR, h.hB, h.hR, h.hne, fun i hi => ?_, tis_kept h.tis hg (fun b o e q => ?_), h.far, h.small⟩
  · exact (World.cell?_of_block (a := ⟨B, i, none⟩) (hg.block B h.ptB.lt nB)).trans (h.cells i hi)
  · have := (h.far b o e).1
    cases q; omega
theorem MS.alloc {ao : Option Addr} {len cap g : Nat} {w : World} {B R : Nat} {m : Me} {ta : Option Addr} {tc : Nat} {W : World} (h : MS ao len cap g w B R m ta tc W) (o : Obj) : MS ao len cap g w B R m ta tc (W.alloc o) :=
  h.step (h.src.alloc o) (World.grownBy_alloc W o _)
/-- A field of the meter is written. -/
theorem MS.set {ao : Option Addr} {len cap g : Nat} {w : World} {B R : Nat} {m : Me} {ta : Option Addr} {tc : Nat} {W : World} (h : MS ao len cap g w B R m ta tc W) (j : Nat) (hj : j < 6) (v : Value) (m' : Me) (ta' : Option Addr) (tc' : Nat)
    (hc : ∀ i, i < 6 → (meC m' ta' tc')[i]? = if i = j then some v else (meC m ta tc)[i]?)
    (ht : Tis ta' m'.ts.length m'.ts W) (hf : ∀ b o, ta' = some ⟨b, o, none⟩ → w.heap.size ≤ b ∧ b ≠ B ∧ b ≠ R) (hs : m'.n.size ≤ 100 ∧ m'.ts.length ≤ 100) : MS ao len cap g w B R m' ta' tc' (W.setCell ⟨B, j, none⟩ v) := by
  have hgl := h.glt
  have hg : W.grownBy (W.setCell ⟨B, j, none⟩ v) (some B) := RowG.grown_set W B j v
  refine ⟨h.src.kept hg (fun k e => by cases e; have := h.hB; omega), ?_, hgl, h.ptB.set _ _, pt_kept h.ptR hg (fun e => by cases e; exact h.hne rfl), h.hB, h.hR, h.hne, fun i hi => ?_, tis_kept ht hg (fun b o e q => ?_), hf, hs⟩
  · exact h.grew.andThen hg (fun k e => by cases e; exact .inl h.hB)
  · rw [hc i hi]
    by_cases e : i = j
    · rw [if_pos e, e]; exact cell_put h.ptB j hj v
    · rw [if_neg e, cell_far j i (fun q => e q.symm) v]; exact h.cells i hi
  · have := (hf b o e).2.1
    cases q; exact this rfl
/-- The meter is handed back. -/
def fin6 (W : World) (R : Nat) (a b c d e f : Value) : World := (((((W.setCell ⟨R, 0, none⟩ a).setCell ⟨R, 1, none⟩ b).setCell ⟨R, 2, none⟩ c).setCell ⟨R, 3, none⟩ d).setCell ⟨R, 4, none⟩ e).setCell ⟨R, 5, none⟩ f
theorem fin6_grown (W : World) (R : Nat) (a b c d e f : Value) : W.grownBy (fin6 W R a b c d e f) (some R) := by
  unfold fin6
  have h := fun (W : World) (o : Nat) (v : Value) => RowG.grown_set W R o v
  have tr := fun {a b c : World} (h1 : a.grownBy b (some R)) (h2 : b.grownBy c (some R)) => Lib.grownBy_trans h1 h2
  exact tr (tr (tr (tr (tr (h _ _ _) (h _ _ _)) (h _ _ _)) (h _ _ _)) (h _ _ _)) (h _ _ _)
theorem fin6_cells {W : World} {R : Nat} (hp : Pt R 6 W) (a b c d e f : Value) : ∀ i, i < 6 → (fin6 W R a b c d e f).cell? ⟨R, i, none⟩ = [a, b, c, d, e, f][i]? := by
  intro i hi
  unfold fin6
  have p1 := hp.set 0 a
  have p2 := p1.set 1 b
  have p3 := p2.set 2 c
  have p4 := p3.set 3 d
  have p5 := p4.set 4 e
  match i, hi with
  | 0, _ => rw [cell_far 5 0 (by omega), cell_far 4 0 (by omega), cell_far 3 0 (by omega), cell_far 2 0 (by omega), cell_far 1 0 (by omega)]; exact cell_put hp 0 (by omega) a
  | 1, _ => rw [cell_far 5 1 (by omega), cell_far 4 1 (by omega), cell_far 3 1 (by omega), cell_far 2 1 (by omega)]; exact cell_put p1 1 (by omega) b
  | 2, _ => rw [cell_far 5 2 (by omega), cell_far 4 2 (by omega), cell_far 3 2 (by omega)]; exact cell_put p2 2 (by omega) c
  | 3, _ => rw [cell_far 5 3 (by omega), cell_far 4 3 (by omega)]; exact cell_put p3 3 (by omega) d
  | 4, _ => rw [cell_far 5 4 (by omega)]; exact cell_put p4 4 (by omega) e
  | 5, _ => exact cell_put p5 5 (by omega) f
theorem res6 (R : Nat) (tm : Array Value) (W : World) (a b c d e f : Value) (h2 : tm[2]?.getD undef = .pointer (some ⟨R, 0, none⟩)) (h : ∀ i, i < 6 → W.cell? ⟨R, i, none⟩ = [a, b, c, d, e, f][i]?) : (results Tryd.f34 tm).run Tryd.prog W = .ok (.agg #[a, b, c, d, e, f]) W := by
  have f0 := h 0 (by omega)
  have f1 := h 1 (by omega)
  have f2 := h 2 (by omega)
  have f3 := h 3 (by omega)
  have f4 := h 4 (by omega)
  have f5 := h 5 (by omega)
  simp only [List.getElem?_cons_zero, List.getElem?_cons_succ] at f0 f1 f2 f3 f4 f5
  simp [results, Tryd.results34, go_sem, h2, f0, f1, f2, f3, f4, f5]
theorem pick_cell (w4 : World) (L : List Int) (t : Nat) (ht : t < L.length) (T : TypeId) {w5 : World} (h : w5.cell? ⟨w4.heap.size, t, none⟩ = (w4.alloc (.cells (L.map (Value.int .i64)).toArray T)).cell? ⟨w4.heap.size, t, none⟩) : ∃ Y : Int, w5.cell? ⟨w4.heap.size, t, none⟩ = some (.int .i64 Y) := by
  refine ⟨L[t], h.trans ?_⟩
  rw [World.cell?_alloc_mark, List.getElem?_toArray, List.getElem?_map, List.getElem?_eq_getElem ht]
  rfl
theorem tis_tail {b : Nat} {ts : List Ti} {w : World} (h : Tis (some ⟨b, 0, none⟩) ts.length ts w) : Tis (some ⟨b, 2, none⟩) ts.tail.length ts.tail w := by
  refine ⟨rfl, ?_⟩
  rcases h.2 with h0 | ⟨b', off, e, hlt, hc⟩
  · exact .inl (by rw [List.length_tail]; omega)
  · cases e
    refine .inr ⟨b, 2, rfl, hlt, fun j hj => ?_⟩
    have := hc (j + 1) (by rw [List.length_tail] at hj; omega)
    rw [show 0 + (j + 1) * 2 = 2 + j * 2 by omega] at this
    rw [show ts.tail.getD j Ti.zero = ts.getD (j + 1) Ti.zero by cases ts <;> rfl]
    exact this
def tiC (t : Ti) : List Value := [.int .i64 t.u, .int .i64 t.p]
theorem tiC_len (t : Ti) : (tiC t).length = 2 := rfl
theorem tis_of {ao : Option Addr} {ts : List Ti} {w : World} (h : RowG.Rws 2 tiC Ti.zero ao ts w) : Tis ao ts.length ts w := by
  refine ⟨rfl, ?_⟩
  rcases h with h0 | ⟨b, off, rfl, hlt, hc⟩
  · exact .inl h0
  · exact .inr ⟨b, off, rfl, hlt, fun j hj => ⟨hc j hj 0 (by omega), hc j hj 1 (by omega)⟩⟩
theorem tis_news {b : Nat} {ts : List Ti} {w : World} (h : Tis (some ⟨b, 0, none⟩) ts.length ts w) : ∀ (j : Nat) (u : Value), (RowG.cellsAll tiC ts)[j]? = some u → w.cell? ((⟨b, 0, none⟩ : Addr).add j) = some u := by
  intro j u hu
  have hl := RowG.cellsAll_len tiC_len ts
  have hj : j < ts.length * 2 := by rw [← hl]; exact (List.getElem?_eq_some_iff.1 hu).1
  have e : j = (j / 2) * 2 + j % 2 := by omega
  have hi : j / 2 < ts.length := by omega
  have hg := RowG.cellsAll_get (z := Ti.zero) tiC_len ts (j / 2) (j % 2) hi (by omega)
  rw [← e, hu] at hg
  have ha : (⟨b, 0, none⟩ : Addr).add j = ⟨b, j, none⟩ := by simp [Addr.add]; omega
  rw [ha]
  rcases h.2 with h0 | ⟨b', off, e', _, hc⟩
  · omega
  · cases e'
    have hc := hc _ hi
    unfold CatR.TiAt at hc
    rw [Nat.zero_add] at hc
    rcases (show j % 2 = 0 ∨ j % 2 = 1 by omega) with q | q
    · have t : w.cell? ⟨b, j, none⟩ = w.cell? ⟨b, j / 2 * 2, none⟩ := congrArg (fun o => w.cell? ⟨b, o, none⟩) (by omega)
      rw [q] at hg
      exact t.trans (hc.1.trans hg.symm)
    · have t : w.cell? ⟨b, j, none⟩ = w.cell? ⟨b, j / 2 * 2 + 1, none⟩ := congrArg (fun o => w.cell? ⟨b, o, none⟩) (by omega)
      rw [q] at hg
      exact t.trans (hc.2.trans hg.symm)
theorem tis_one (u : Value → Prop) (ts : List Ti) : ∀ x ∈ RowG.cellsAll tiC ts, x.oneCell' = true := by
  intro x hx
  simp only [RowG.cellsAll, List.mem_flatMap] at hx
  obtain ⟨t, _, ht⟩ := hx
  simp only [tiC, List.mem_cons, List.not_mem_nil, or_false] at ht
  rcases ht with rfl | rfl <;> rfl
theorem infoTi : (Tryd.prog.info? 72).map (fun i => (i.zero, i.size, i.bytes)) = some (some (.agg #[.int .i64 0, .int .i64 0]), 2, 16) := by kernel_rfl
theorem step_app {P : Program} {w : World} {ops : Array Oper} {o : Oper} {a : Act} {K : Act → World → Prop} {Q : Exit → Act → World → Prop} {E : Prop} (hgd : o.guard = none) (s x : Operand) (t : TypeId)
    (ho : o.op = .call { callee := .builtin .append, args := #[s, x], argTypes := #[t, t] })
    (base : Nat) (e : TypeId) (i : TypeInfo) (z : Value) (size bytes : Nat) (ht : P.underlying t = some (.slice e)) (hi : P.info? e = some i) (hz : i.zero = some z)
    (hsize : i.size = size) (hby : i.bytes = bytes) (hzs : z.cells.size = size) (hsz : 0 < size)
    (v : Value) (n : Nat) (xs : List Value) (hs : a.eval s = v) (hown : w.ownsRow base e size v n xs)
    (ad : Addr) (m c : Nat) (news : List Value) (hx : a.eval x = .slice (some ad) m c) (hl : news.length = m * size) (hnews : ∀ j u, news[j]? = some u → w.cell? (ad.add j) = some u) (h1 : ∀ u ∈ news, u.oneCell' = true)
    (h63 : n + m ≤ maxLen) (hbytes : (n + m) * bytes ≤ 140737488355328) (hbase : base ≤ w.heap.size)
    (h : ∀ v' w', w'.ownsRow base e size v' (n + m) (xs ++ news) → w.grownBy w' v.ownBlock → (v' = .slice none 0 0 ↔ v = .slice none 0 0 ∧ m = 0) → K (a.put o.dst v') w') : if Region.wanted o (yielded ops a.tmps) = true then Oper.wp P o a w K Q else E := by
  have hw : Region.wanted o (yielded ops a.tmps) = true := by simp [Region.wanted, hgd]
  rw [if_pos hw]
  exact wp_append_own w s x t ho base e i z size bytes ht hi hz hsize hby hzs hsz v n xs hs hown ad m c news hx hl hnews h1 h63 hbytes hbase h
theorem MS.drew {ao : Option Addr} {len cap g : Nat} {w : World} {B R : Nat} {m : Me} {ta : Option Addr} {tc : Nat} {W : World} (h : MS ao len cap g w B R m ta tc W) : MS ao len cap g w B R m ta tc W.drew :=
  h.step (show Src ao len cap g W.drew from h.src) (grown_drew (World.grownBy.refl _ _))
theorem MS.grown {ao : Option Addr} {len cap g : Nat} {w : World} {B R : Nat} {m : Me} {ta : Option Addr} {tc : Nat} {W W' : World} {row : Option Nat} (h : MS ao len cap g w B R m ta tc W) (hg : W.grownBy W' row) (hr : ∀ k, row = some k → w.heap.size ≤ k ∧ k ≠ B ∧ k ≠ R ∧ ∀ b o, ta = some ⟨b, o, none⟩ → b ≠ k) : MS ao len cap g w B R m ta tc W' := by
  have hgl := h.glt
  have nB : some B ≠ row := fun e => (hr B e.symm).2.1 rfl
  have nR : some R ≠ row := fun e => (hr R e.symm).2.2.1 rfl
  refine ⟨h.src.kept hg (fun k e => by have := (hr k e).1; omega), h.grew.andThen hg (fun k e => .inl (hr k e).1), hgl, pt_kept h.ptB hg nB, pt_kept h.ptR hg nR, h.hB, h.hR, h.hne, fun i hi => ?_, tis_kept h.tis hg (fun b o e q => (hr b q.symm).2.2.2 b o e rfl), h.far, h.small⟩
  exact (World.cell?_of_block (a := ⟨B, i, none⟩) (hg.block B h.ptB.lt nB)).trans (h.cells i hi)
theorem alloc_set (w : World) (o : Obj) (B j : Nat) (v : Value) (h : B < w.heap.size) : (w.alloc o).setCell ⟨B, j, none⟩ v = (w.setCell ⟨B, j, none⟩ v).alloc o := by
  simp [go_sem, h]
def MeOut (ao : Option Addr) (len cap g : Nat) (w : World) (e : Ending) (w' : World) : Prop := (∃ (m : Me) (ta : Option Addr) (tc : Nat), e = .returned (.agg #[.string m.n, .int .i64 m.g, .bool m.wh, .int .i64 m.f, .int .i64 m.l, .slice ta m.ts.length tc]) ∧ Tis ta m.ts.length m.ts w' ∧ (∀ b o, ta = some ⟨b, o, none⟩ → w.heap.size ≤ b) ∧ m.n.size ≤ 100 ∧ m.ts.length ≤ 100) ∧ Src ao len cap g w' ∧ w.grownBy w' (some g)
theorem MS.fin {ao : Option Addr} {len cap g : Nat} {w : World} {B R : Nat} {m : Me} {ta : Option Addr} {tc : Nat} {W : World} (h : MS ao len cap g w B R m ta tc W) :
    MeOut ao len cap g w (.returned (.agg #[.string m.n, .int .i64 m.g, .bool m.wh, .int .i64 m.f, .int .i64 m.l, .slice ta m.ts.length tc])) (fin6 W R (.string m.n) (.int .i64 m.g) (.bool m.wh) (.int .i64 m.f) (.int .i64 m.l) (.slice ta m.ts.length tc)) := by
  have hgl := h.glt
  have hg := fin6_grown W R (.string m.n) (.int .i64 m.g) (.bool m.wh) (.int .i64 m.f) (.int .i64 m.l) (.slice ta m.ts.length tc)
  refine ⟨⟨m, ta, tc, rfl, tis_kept h.tis hg (fun b o e q => ?_), fun b o e => (h.far b o e).1, h.small.1, h.small.2⟩, h.src.kept hg (fun k e => by cases e; have := h.hR; omega), h.grew.andThen hg (fun k e => by cases e; exact .inl h.hR)⟩
  have := (h.far b o e).2.2
  cases q; exact this rfl
/-- A meter of the plain catalog, in its memory. -/
theorem plain_at (w : World) (j : Nat) (hj : j < 4) : ∃ b, w.heap.size < b ∧ b ≤ w.heap.size + 4 ∧ b < (plainW w).heap.size ∧ (∀ i, i < 6 → (plainW w).cell? ⟨w.heap.size + 1 + 1 + 1 + 1 + 1, j * 6 + i, none⟩ = (meC (plainM.getD j Me.zero) (some ⟨b, 0, none⟩) (plainM.getD j Me.zero).ts.length)[i]?) ∧ Tis (some ⟨b, 0, none⟩) (plainM.getD j Me.zero).ts.length (plainM.getD j Me.zero).ts (plainW w) ∧ 1 ≤ (plainM.getD j Me.zero).ts.length ∧ (plainM.getD j Me.zero).ts.length ≤ 3 ∧ (plainM.getD j Me.zero).n.size ≤ 100 := by
  have m := (plain_m w).2
  match j, hj with
  | 0, _ => exact ⟨w.heap.size + 1, by omega, by omega, (plain_t0 w).1, (fun i hi => by
      match i, hi with
      | 0, _ => exact m 0 (by omega)
      | 1, _ => exact m 1 (by omega)
      | 2, _ => exact m 2 (by omega)
      | 3, _ => exact m 3 (by omega)
      | 4, _ => exact m 4 (by omega)
      | 5, _ => exact m 5 (by omega)
      ), ⟨rfl, .inr ⟨_, 0, rfl, (plain_t0 w).1, fun i hi => by
      have t := (plain_t0 w).2
      match i, hi with
      | 0, _ => exact ⟨t 0 (by omega), t 1 (by omega)⟩
      | 1, _ => exact ⟨t 2 (by omega), t 3 (by omega)⟩
      ⟩⟩, by decide, by decide, by decide⟩
  | 1, _ => exact ⟨w.heap.size + 1 + 1, by omega, by omega, (plain_t1 w).1, (fun i hi => by
      match i, hi with
      | 0, _ => exact m 6 (by omega)
      | 1, _ => exact m 7 (by omega)
      | 2, _ => exact m 8 (by omega)
      | 3, _ => exact m 9 (by omega)
      | 4, _ => exact m 10 (by omega)
      | 5, _ => exact m 11 (by omega)
      ), ⟨rfl, .inr ⟨_, 0, rfl, (plain_t1 w).1, fun i hi => by
      have t := (plain_t1 w).2
      match i, hi with
      | 0, _ => exact ⟨t 0 (by omega), t 1 (by omega)⟩
      | 1, _ => exact ⟨t 2 (by omega), t 3 (by omega)⟩
      | 2, _ => exact ⟨t 4 (by omega), t 5 (by omega)⟩
      ⟩⟩, by decide, by decide, by decide⟩
  | 2, _ => exact ⟨w.heap.size + 1 + 1 + 1, by omega, by omega, (plain_t2 w).1, (fun i hi => by
      match i, hi with
      | 0, _ => exact m 12 (by omega)
      | 1, _ => exact m 13 (by omega)
      | 2, _ => exact m 14 (by omega)
      | 3, _ => exact m 15 (by omega)
      | 4, _ => exact m 16 (by omega)
      | 5, _ => exact m 17 (by omega)
      ), ⟨rfl, .inr ⟨_, 0, rfl, (plain_t2 w).1, fun i hi => by
      have t := (plain_t2 w).2
      match i, hi with
      | 0, _ => exact ⟨t 0 (by omega), t 1 (by omega)⟩
      ⟩⟩, by decide, by decide, by decide⟩
  | 3, _ => exact ⟨w.heap.size + 1 + 1 + 1 + 1, by omega, by omega, (plain_t3 w).1, (fun i hi => by
      match i, hi with
      | 0, _ => exact m 18 (by omega)
      | 1, _ => exact m 19 (by omega)
      | 2, _ => exact m 20 (by omega)
      | 3, _ => exact m 21 (by omega)
      | 4, _ => exact m 22 (by omega)
      | 5, _ => exact m 23 (by omega)
      ), ⟨rfl, .inr ⟨_, 0, rfl, (plain_t3 w).1, fun i hi => by
      have t := (plain_t3 w).2
      match i, hi with
      | 0, _ => exact ⟨t 0 (by omega), t 1 (by omega)⟩
      ⟩⟩, by decide, by decide, by decide⟩
set_option maxRecDepth 100000 in
set_option maxHeartbeats 4000000 in
theorem meter_any (ao : Option Addr) (len cap g : Nat) (w : World) (hS : Src ao len cap g w) :
    Calls Tryd.prog 34 #[.pointer (some ⟨g, 0, none⟩)] w fun e w' => MeOut ao len cap g w e w' := by
  have hgl := hS.lt
  have HS := hid_intro hS
  have HN := hid_intro (fun most W hm h => n_any ao len cap g most W hm h)
  have HO := hid_intro (fun most W hm h => one_any ao len cap g most W hm h)
  have hfld : ∀ x y w, (Instr.field 26 (.agg #[x, y]) 0).run Tryd.prog w = .ok x w := fun x y w => by kernel_rfl
  have HP := hid_intro (fun w => plain_any w)
  clear hS
  go_enter Tryd.func34, Tryd.ntmps34
  go_wp2_with fail
  refine (HP.out _).mono ?_
  rintro e w1 ⟨rfl, rfl⟩
  have HB1 : Hid (Below w.heap.size w (plainW (w.alloc (.cells #[.string ⟨#[]⟩, .int .i64 0, .bool false, .int .i64 0, .int .i64 0, .slice none 0 0] 37)))) := hid_intro (((Below.refl _ _).alloc (Nat.le_refl _) _).trans ((plain_below _).mono (by simp)))
  have HPT : Hid (Pt w.heap.size 6 (plainW (w.alloc (.cells #[.string ⟨#[]⟩, .int .i64 0, .bool false, .int .i64 0, .int .i64 0, .slice none 0 0] 37)))) := hid_intro (Pt.below (CatR.pt_row6 w 37) (plain_below _))
  have HPL := hid_intro (fun j hj => plain_at (w.alloc (.cells #[.string ⟨#[]⟩, .int .i64 0, .bool false, .int .i64 0, .int .i64 0, .slice none 0 0] 37)) j hj)
  have hus : (w.alloc (.cells #[.string ⟨#[]⟩, .int .i64 0, .bool false, .int .i64 0, .int .i64 0, .slice none 0 0] 37)).heap.size = w.heap.size + 1 := by simp
  rw [hus] at HPL
  have HS1 : Hid (Src ao len cap g (plainW (w.alloc (.cells #[.string ⟨#[]⟩, .int .i64 0, .bool false, .int .i64 0, .int .i64 0, .slice none 0 0] 37)))) := hid_intro (HS.out.kept (row := none) ⟨HB1.out.os, HB1.out.tape, HB1.out.output, HB1.out.size, fun k hk _ => HB1.out.block k hk⟩ (fun k e => by cases e))
  generalize plainW (w.alloc (.cells #[.string ⟨#[]⟩, .int .i64 0, .bool false, .int .i64 0, .int .i64 0, .slice none 0 0] 37)) = U at *
  clear hus HP
  go_wp2_with fail
  refine (HN.out _ _ (by omega) HS1.out).mono ?_
  rintro e w2 ⟨v, rfl, hv0, _, hv2, hS2, hg2⟩
  have hv4 : v < 4 := hv2 (by omega)
  obtain ⟨j, rfl⟩ : ∃ j : Nat, v = (j : Int) := ⟨v.toNat, by omega⟩
  have hj4 : j < 4 := by omega
  obtain ⟨b, hb1, hb2, hb3, hcs, hts, ht1, ht3, hnm⟩ := HPL.out j hj4
  have HMS : Hid (Src ao len cap g w2 ∧ U.grownBy w2 (some g)) := hid_intro ⟨hS2, hg2⟩
  have hne : some (w.heap.size + 1 + 1 + 1 + 1 + 1 + 1) ≠ some g := by intro e; cases e; omega
  have hmb : w.heap.size + 1 + 1 + 1 + 1 + 1 + 1 < U.heap.size := World.block_lt_of_cell? U _ (hcs 0 (by omega))
  have hmb2 : w.heap.size + 1 + 1 + 1 + 1 + 1 + 1 < w2.heap.size := by have := hg2.size; omega
  have kc := fun i hi => (World.cell?_of_block (a := ⟨w.heap.size + 1 + 1 + 1 + 1 + 1 + 1, j * 6 + i, none⟩) (hg2.block _ hmb hne)).trans (hcs i hi)
  have k0 := kc 0 (by omega)
  have k1 := kc 1 (by omega)
  have k2 := kc 2 (by omega)
  have k3 := kc 3 (by omega)
  have k4 := kc 4 (by omega)
  have k5 := kc 5 (by omega)
  have HT := hid_intro hts
  generalize plainM.getD j Me.zero = X at *
  obtain ⟨xn, xg, xw, xf, xl, xts⟩ := X
  simp only [meC, List.getElem?_cons_zero, List.getElem?_cons_succ, Nat.add_zero] at k0 k1 k2 k3 k4 k5
  clear hcs kc hS2 hg2 hv0 hv2 hv4 hts
  have HM2 : Hid (MS ao len cap g w w2.heap.size w.heap.size ⟨xn, xg, xw, xf, xl, xts⟩ (some ⟨b, 0, none⟩) xts.length (w2.alloc (.cells #[.string xn, .int .i64 xg, .bool xw, .int .i64 xf, .int .i64 xl, .slice (some ⟨b, 0, none⟩) xts.length xts.length] 37))) := hid_intro (by
    have hw2 := HMS.out.2.size
    have gu : w.grownBy U (some g) := ⟨HB1.out.os, HB1.out.tape, HB1.out.output, HB1.out.size, fun k hk _ => HB1.out.block k hk⟩
    have hU := HB1.out.size
    refine ⟨HMS.out.1.alloc _, Lib.grownBy_trans (Lib.grownBy_trans gu HMS.out.2) (World.grownBy_alloc _ _ _), hgl, CatR.pt_cells6 _ _ _ _ _ _ _ _, ?_, by omega, Nat.le_refl _, by omega, fun i hi => ?_, ?_, fun b' o e => ?_, hnm, by show xts.length ≤ 100; have : xts.length ≤ 3 := ht3; omega⟩
    · exact Pt.below (pt_kept HPT.out HMS.out.2 (fun e => by cases e; omega)) ((Below.refl _ _).alloc (Nat.le_refl _) _)
    · match i, hi with
      | 0, _ => simp [go_sem, meC]
      | 1, _ => simp [go_sem, meC]
      | 2, _ => simp [go_sem, meC]
      | 3, _ => simp [go_sem, meC]
      | 4, _ => simp [go_sem, meC]
      | 5, _ => simp [go_sem, meC]
    · exact Tis.below (tis_kept HT.out HMS.out.2 (fun b' o e q => by cases e; cases q; omega)) ((Below.refl _ _).alloc (Nat.le_refl _) _)
    · cases e
      refine ⟨by omega, by omega, by omega⟩)
  have htl : xts.length ≤ 3 := ht3
  have htl1 : 1 ≤ xts.length := ht1
  go_wp2_with fail
  clear k0 k1 k2 k3 k4 k5 HMS HB1 HPT HPL HS1 HT hmb hmb2 hne ht1 ht3 hnm hb3
  refine (HO.out 3 _ (by omega) HM2.out.src).mono ?_
  rintro e w3 ⟨⟨bo, rfl⟩, hS3, hg3⟩
  have HM3 := hid_intro (HM2.out.step hS3 hg3)
  clear hS3 hg3 HM2
  cases bo
  · have HM := HM3
    have z0 : w3.cell? ⟨w2.heap.size, 0, none⟩ = some (.string xn) := HM.out.cells 0 (by omega)
    have z1 : w3.cell? ⟨w2.heap.size, 1, none⟩ = some (.int .i64 (xg)) := HM.out.cells 1 (by omega)
    have z2 : w3.cell? ⟨w2.heap.size, 2, none⟩ = some (.bool (xw)) := HM.out.cells 2 (by omega)
    have z3 : w3.cell? ⟨w2.heap.size, 3, none⟩ = some (.int .i64 (xf)) := HM.out.cells 3 (by omega)
    have z4 : w3.cell? ⟨w2.heap.size, 4, none⟩ = some (.int .i64 (xl)) := HM.out.cells 4 (by omega)
    have z5 : w3.cell? ⟨w2.heap.size, 5, none⟩ = some (.slice (some ⟨b, 0, none⟩) xts.length xts.length) := HM.out.cells 5 (by omega)
    have hlB := HM.out.ptB.lt
    have hlR := HM.out.ptR.lt
    obtain ⟨y0, r0⟩ := HM.out.ptR.has 0 (by omega)
    have q0 := HM.out.ptR.free 0 (by omega)
    obtain ⟨y1, r1⟩ := HM.out.ptR.has 1 (by omega)
    have q1 := HM.out.ptR.free 1 (by omega)
    obtain ⟨y2, r2⟩ := HM.out.ptR.has 2 (by omega)
    have q2 := HM.out.ptR.free 2 (by omega)
    obtain ⟨y3, r3⟩ := HM.out.ptR.has 3 (by omega)
    have q3 := HM.out.ptR.free 3 (by omega)
    obtain ⟨y4, r4⟩ := HM.out.ptR.has 4 (by omega)
    have q4 := HM.out.ptR.free 4 (by omega)
    obtain ⟨y5, r5⟩ := HM.out.ptR.has 5 (by omega)
    have q5 := HM.out.ptR.free 5 (by omega)
    have HF := hid_intro HM.out.fin
    have HC := hid_intro (fin6_cells HM.out.ptR (.string xn) (.int .i64 (xg)) (.bool (xw)) (.int .i64 (xf)) (.int .i64 (xl)) (.slice (some ⟨b, 0, none⟩) xts.length xts.length))
    go_wp2_with fail
    exact bodyPost_ret (v := .agg #[.string xn, .int .i64 (xg), .bool (xw), .int .i64 (xf), .int .i64 (xl), .slice (some ⟨b, 0, none⟩) xts.length xts.length]) (res6 _ _ _ _ _ _ _ _ _ rfl HC.out) rfl HF.out
  go_wp2_with fail
  refine (HN.out 7 _ (by omega) HM3.out.src).mono ?_
  rintro e w4 ⟨v, rfl, hv0, _, hv2, hS4, hg4⟩
  have hv7 : v < 7 := hv2 (by omega)
  have HM4 := hid_intro (HM3.out.step hS4 hg4)
  clear hS4 hg4 HM3 hv2
  have hlB := HM4.out.ptB.lt
  have o0 := HM4.out.ptB.has
  have u0 := HM4.out.ptB.free
  rcases (show v = 0 ∨ v = 1 ∨ v = 2 ∨ v = 3 ∨ v = 4 ∨ v = 5 ∨ v = 6 by omega) with rfl | rfl | rfl | rfl | rfl | rfl | rfl
  · clear o0 u0 hlB hv0 hv7
    go_wp2_with fail
    refine (HN.out 6 _ (by omega) HM4.out.src).mono ?_
    rintro e w5 ⟨y, rfl, _, _, _, hS5, hg5⟩
    have HM5 := hid_intro (HM4.out.step hS5 hg5)
    have hlB := HM5.out.ptB.lt
    obtain ⟨o, ho⟩ := HM5.out.ptB.has 1 (by omega)
    have hf := HM5.out.ptB.free 1 (by omega)
    clear hS5 hg5
    have HM : Hid (MS ao len cap g w w2.heap.size w.heap.size ⟨xn, y, xw, xf, xl, xts⟩ (some ⟨b, 0, none⟩) xts.length (w5.setCell ⟨w2.heap.size, 1, none⟩ (.int .i64 y))) := hid_intro (HM5.out.set 1 (by omega) _ _ _ _ (fun i hi => by match i, hi with | 0, _ => rfl | 1, _ => rfl | 2, _ => rfl | 3, _ => rfl | 4, _ => rfl | 5, _ => rfl) HM5.out.tis HM5.out.far HM5.out.small)
    have z0 : (w5.setCell ⟨w2.heap.size, 1, none⟩ (.int .i64 y)).cell? ⟨w2.heap.size, 0, none⟩ = some (.string xn) := HM.out.cells 0 (by omega)
    have z1 : (w5.setCell ⟨w2.heap.size, 1, none⟩ (.int .i64 y)).cell? ⟨w2.heap.size, 1, none⟩ = some (.int .i64 (y)) := HM.out.cells 1 (by omega)
    have z2 : (w5.setCell ⟨w2.heap.size, 1, none⟩ (.int .i64 y)).cell? ⟨w2.heap.size, 2, none⟩ = some (.bool (xw)) := HM.out.cells 2 (by omega)
    have z3 : (w5.setCell ⟨w2.heap.size, 1, none⟩ (.int .i64 y)).cell? ⟨w2.heap.size, 3, none⟩ = some (.int .i64 (xf)) := HM.out.cells 3 (by omega)
    have z4 : (w5.setCell ⟨w2.heap.size, 1, none⟩ (.int .i64 y)).cell? ⟨w2.heap.size, 4, none⟩ = some (.int .i64 (xl)) := HM.out.cells 4 (by omega)
    have z5 : (w5.setCell ⟨w2.heap.size, 1, none⟩ (.int .i64 y)).cell? ⟨w2.heap.size, 5, none⟩ = some (.slice (some ⟨b, 0, none⟩) xts.length xts.length) := HM.out.cells 5 (by omega)
    have hlB := HM.out.ptB.lt
    have hlR := HM.out.ptR.lt
    obtain ⟨y0, r0⟩ := HM.out.ptR.has 0 (by omega)
    have q0 := HM.out.ptR.free 0 (by omega)
    obtain ⟨y1, r1⟩ := HM.out.ptR.has 1 (by omega)
    have q1 := HM.out.ptR.free 1 (by omega)
    obtain ⟨y2, r2⟩ := HM.out.ptR.has 2 (by omega)
    have q2 := HM.out.ptR.free 2 (by omega)
    obtain ⟨y3, r3⟩ := HM.out.ptR.has 3 (by omega)
    have q3 := HM.out.ptR.free 3 (by omega)
    obtain ⟨y4, r4⟩ := HM.out.ptR.has 4 (by omega)
    have q4 := HM.out.ptR.free 4 (by omega)
    obtain ⟨y5, r5⟩ := HM.out.ptR.has 5 (by omega)
    have q5 := HM.out.ptR.free 5 (by omega)
    have HF := hid_intro HM.out.fin
    have HC := hid_intro (fin6_cells HM.out.ptR (.string xn) (.int .i64 (y)) (.bool (xw)) (.int .i64 (xf)) (.int .i64 (xl)) (.slice (some ⟨b, 0, none⟩) xts.length xts.length))
    go_wp2_with fail
    exact bodyPost_ret (v := .agg #[.string xn, .int .i64 (y), .bool (xw), .int .i64 (xf), .int .i64 (xl), .slice (some ⟨b, 0, none⟩) xts.length xts.length]) (res6 _ _ _ _ _ _ _ _ _ rfl HC.out) rfl HF.out
  · clear o0 u0 hlB hv0 hv7
    go_wp2_with fail
    refine (HN.out 4 _ (by omega) (HM4.out.alloc _).src).mono ?_
    rintro e w5 ⟨y, rfl, y0, _, y2, hS5, hg5⟩
    have y3 : y < 4 := y2 (by omega)
    obtain ⟨t, rfl⟩ : ∃ t : Nat, y = (t : Int) := ⟨y.toNat, by omega⟩
    have ht4 : t < 4 := by omega
    have hl4 : w4.heap.size < w5.heap.size := by have := hg5.size; simp at this; omega
    obtain ⟨Y, cy⟩ : ∃ Y : Int, w5.cell? ⟨w4.heap.size, t, none⟩ = some (.int .i64 Y) := by
      have hlt := HM4.out.ptB.lt
      have hBw := HM4.out.hB
      have e := hg5.block w4.heap.size (by simp) (fun e => by cases e; omega)
      have e2 := World.cell?_of_block (a := ⟨w4.heap.size, t, none⟩) e
      exact pick_cell w4 [-1, 0, 1000000000, 1000000001] t ht4 _ e2
    have HM5 := hid_intro ((HM4.out.alloc _).step hS5 hg5)
    clear hS5 hg5 y2
    have hlB := HM5.out.ptB.lt
    obtain ⟨o, ho⟩ := HM5.out.ptB.has 3 (by omega)
    have hf := HM5.out.ptB.free 3 (by omega)
    have HM : Hid (MS ao len cap g w w2.heap.size w.heap.size ⟨xn, xg, xw, Y, xl, xts⟩ (some ⟨b, 0, none⟩) xts.length (w5.setCell ⟨w2.heap.size, 3, none⟩ (.int .i64 Y))) := hid_intro (HM5.out.set 3 (by omega) _ _ _ _ (fun i hi => by match i, hi with | 0, _ => rfl | 1, _ => rfl | 2, _ => rfl | 3, _ => rfl | 4, _ => rfl | 5, _ => rfl) HM5.out.tis HM5.out.far HM5.out.small)
    have z0 : (w5.setCell ⟨w2.heap.size, 3, none⟩ (.int .i64 Y)).cell? ⟨w2.heap.size, 0, none⟩ = some (.string xn) := HM.out.cells 0 (by omega)
    have z1 : (w5.setCell ⟨w2.heap.size, 3, none⟩ (.int .i64 Y)).cell? ⟨w2.heap.size, 1, none⟩ = some (.int .i64 (xg)) := HM.out.cells 1 (by omega)
    have z2 : (w5.setCell ⟨w2.heap.size, 3, none⟩ (.int .i64 Y)).cell? ⟨w2.heap.size, 2, none⟩ = some (.bool (xw)) := HM.out.cells 2 (by omega)
    have z3 : (w5.setCell ⟨w2.heap.size, 3, none⟩ (.int .i64 Y)).cell? ⟨w2.heap.size, 3, none⟩ = some (.int .i64 (Y)) := HM.out.cells 3 (by omega)
    have z4 : (w5.setCell ⟨w2.heap.size, 3, none⟩ (.int .i64 Y)).cell? ⟨w2.heap.size, 4, none⟩ = some (.int .i64 (xl)) := HM.out.cells 4 (by omega)
    have z5 : (w5.setCell ⟨w2.heap.size, 3, none⟩ (.int .i64 Y)).cell? ⟨w2.heap.size, 5, none⟩ = some (.slice (some ⟨b, 0, none⟩) xts.length xts.length) := HM.out.cells 5 (by omega)
    have hlB := HM.out.ptB.lt
    have hlR := HM.out.ptR.lt
    obtain ⟨y0, r0⟩ := HM.out.ptR.has 0 (by omega)
    have q0 := HM.out.ptR.free 0 (by omega)
    obtain ⟨y1, r1⟩ := HM.out.ptR.has 1 (by omega)
    have q1 := HM.out.ptR.free 1 (by omega)
    obtain ⟨y2, r2⟩ := HM.out.ptR.has 2 (by omega)
    have q2 := HM.out.ptR.free 2 (by omega)
    obtain ⟨y3, r3⟩ := HM.out.ptR.has 3 (by omega)
    have q3 := HM.out.ptR.free 3 (by omega)
    obtain ⟨y4, r4⟩ := HM.out.ptR.has 4 (by omega)
    have q4 := HM.out.ptR.free 4 (by omega)
    obtain ⟨y5, r5⟩ := HM.out.ptR.has 5 (by omega)
    have q5 := HM.out.ptR.free 5 (by omega)
    have HF := hid_intro HM.out.fin
    have HC := hid_intro (fin6_cells HM.out.ptR (.string xn) (.int .i64 (xg)) (.bool (xw)) (.int .i64 (Y)) (.int .i64 (xl)) (.slice (some ⟨b, 0, none⟩) xts.length xts.length))
    go_wp2_with fail
    exact bodyPost_ret (v := .agg #[.string xn, .int .i64 (xg), .bool (xw), .int .i64 (Y), .int .i64 (xl), .slice (some ⟨b, 0, none⟩) xts.length xts.length]) (res6 _ _ _ _ _ _ _ _ _ rfl HC.out) rfl HF.out
  · clear o0 u0 hlB hv0 hv7
    go_wp2_with fail
    refine (HN.out 3 _ (by omega) (HM4.out.alloc _).src).mono ?_
    rintro e w5 ⟨y, rfl, y0, _, y2, hS5, hg5⟩
    have y3 : y < 3 := y2 (by omega)
    obtain ⟨t, rfl⟩ : ∃ t : Nat, y = (t : Int) := ⟨y.toNat, by omega⟩
    have ht4 : t < 3 := by omega
    have hl4 : w4.heap.size < w5.heap.size := by have := hg5.size; simp at this; omega
    obtain ⟨Y, cy⟩ : ∃ Y : Int, w5.cell? ⟨w4.heap.size, t, none⟩ = some (.int .i64 Y) := by
      have hlt := HM4.out.ptB.lt
      have hBw := HM4.out.hB
      have e := hg5.block w4.heap.size (by simp) (fun e => by cases e; omega)
      have e2 := World.cell?_of_block (a := ⟨w4.heap.size, t, none⟩) e
      exact pick_cell w4 [-1, 1000000000000, 1000000000001] t ht4 _ e2
    have HM5 := hid_intro ((HM4.out.alloc _).step hS5 hg5)
    clear hS5 hg5 y2
    have hlB := HM5.out.ptB.lt
    obtain ⟨o, ho⟩ := HM5.out.ptB.has 4 (by omega)
    have hf := HM5.out.ptB.free 4 (by omega)
    have HM : Hid (MS ao len cap g w w2.heap.size w.heap.size ⟨xn, xg, xw, xf, Y, xts⟩ (some ⟨b, 0, none⟩) xts.length (w5.setCell ⟨w2.heap.size, 4, none⟩ (.int .i64 Y))) := hid_intro (HM5.out.set 4 (by omega) _ _ _ _ (fun i hi => by match i, hi with | 0, _ => rfl | 1, _ => rfl | 2, _ => rfl | 3, _ => rfl | 4, _ => rfl | 5, _ => rfl) HM5.out.tis HM5.out.far HM5.out.small)
    have z0 : (w5.setCell ⟨w2.heap.size, 4, none⟩ (.int .i64 Y)).cell? ⟨w2.heap.size, 0, none⟩ = some (.string xn) := HM.out.cells 0 (by omega)
    have z1 : (w5.setCell ⟨w2.heap.size, 4, none⟩ (.int .i64 Y)).cell? ⟨w2.heap.size, 1, none⟩ = some (.int .i64 (xg)) := HM.out.cells 1 (by omega)
    have z2 : (w5.setCell ⟨w2.heap.size, 4, none⟩ (.int .i64 Y)).cell? ⟨w2.heap.size, 2, none⟩ = some (.bool (xw)) := HM.out.cells 2 (by omega)
    have z3 : (w5.setCell ⟨w2.heap.size, 4, none⟩ (.int .i64 Y)).cell? ⟨w2.heap.size, 3, none⟩ = some (.int .i64 (xf)) := HM.out.cells 3 (by omega)
    have z4 : (w5.setCell ⟨w2.heap.size, 4, none⟩ (.int .i64 Y)).cell? ⟨w2.heap.size, 4, none⟩ = some (.int .i64 (Y)) := HM.out.cells 4 (by omega)
    have z5 : (w5.setCell ⟨w2.heap.size, 4, none⟩ (.int .i64 Y)).cell? ⟨w2.heap.size, 5, none⟩ = some (.slice (some ⟨b, 0, none⟩) xts.length xts.length) := HM.out.cells 5 (by omega)
    have hlB := HM.out.ptB.lt
    have hlR := HM.out.ptR.lt
    obtain ⟨y0, r0⟩ := HM.out.ptR.has 0 (by omega)
    have q0 := HM.out.ptR.free 0 (by omega)
    obtain ⟨y1, r1⟩ := HM.out.ptR.has 1 (by omega)
    have q1 := HM.out.ptR.free 1 (by omega)
    obtain ⟨y2, r2⟩ := HM.out.ptR.has 2 (by omega)
    have q2 := HM.out.ptR.free 2 (by omega)
    obtain ⟨y3, r3⟩ := HM.out.ptR.has 3 (by omega)
    have q3 := HM.out.ptR.free 3 (by omega)
    obtain ⟨y4, r4⟩ := HM.out.ptR.has 4 (by omega)
    have q4 := HM.out.ptR.free 4 (by omega)
    obtain ⟨y5, r5⟩ := HM.out.ptR.has 5 (by omega)
    have q5 := HM.out.ptR.free 5 (by omega)
    have HF := hid_intro HM.out.fin
    have HC := hid_intro (fin6_cells HM.out.ptR (.string xn) (.int .i64 (xg)) (.bool (xw)) (.int .i64 (xf)) (.int .i64 (Y)) (.slice (some ⟨b, 0, none⟩) xts.length xts.length))
    go_wp2_with fail
    exact bodyPost_ret (v := .agg #[.string xn, .int .i64 (xg), .bool (xw), .int .i64 (xf), .int .i64 (Y), .slice (some ⟨b, 0, none⟩) xts.length xts.length]) (res6 _ _ _ _ _ _ _ _ _ rfl HC.out) rfl HF.out
  · clear hv0 hv7
    obtain ⟨o, ho⟩ := o0 5 (by omega)
    have hf := u0 5 (by omega)
    have z5' : w4.cell? ⟨w2.heap.size, 5, none⟩ = some (.slice (some ⟨b, 0, none⟩) xts.length xts.length) := HM4.out.cells 5 (by omega)
    clear o0 u0 ho
    obtain ⟨ys, hys⟩ : ∃ ys, ys = xts.tail := ⟨_, rfl⟩
    have HTL := hid_intro (tis_tail (show Tis (some ⟨b, 0, none⟩) xts.length xts w4 from HM4.out.tis))
    rw [← hys] at HTL
    by_cases h1 : xts.length = 1
    · have hyl : ys.length = 0 := by rw [hys, List.length_tail]; omega
      have HM : Hid (MS ao len cap g w w2.heap.size w.heap.size ⟨xn, xg, xw, xf, xl, ys⟩ (some ⟨b, 0, none⟩) (0) (w4.setCell ⟨w2.heap.size, 5, none⟩ (.slice (some ⟨b, 0, none⟩) (0) (0)))) := hid_intro (HM4.out.set 5 (by omega) _ _ _ _ (fun i hi => by match i, hi with | 0, _ => rfl | 1, _ => rfl | 2, _ => rfl | 3, _ => rfl | 4, _ => rfl | 5, _ => simp [meC, hyl]) ⟨rfl, .inl hyl⟩ (fun b' o e => by cases e; exact HM4.out.far b 0 rfl) ⟨HM4.out.small.1, by show ys.length ≤ 100; omega⟩)
      have z0 : (w4.setCell ⟨w2.heap.size, 5, none⟩ (.slice (some ⟨b, 0, none⟩) (0) (0))).cell? ⟨w2.heap.size, 0, none⟩ = some (.string xn) := HM.out.cells 0 (by omega)
      have z1 : (w4.setCell ⟨w2.heap.size, 5, none⟩ (.slice (some ⟨b, 0, none⟩) (0) (0))).cell? ⟨w2.heap.size, 1, none⟩ = some (.int .i64 (xg)) := HM.out.cells 1 (by omega)
      have z2 : (w4.setCell ⟨w2.heap.size, 5, none⟩ (.slice (some ⟨b, 0, none⟩) (0) (0))).cell? ⟨w2.heap.size, 2, none⟩ = some (.bool (xw)) := HM.out.cells 2 (by omega)
      have z3 : (w4.setCell ⟨w2.heap.size, 5, none⟩ (.slice (some ⟨b, 0, none⟩) (0) (0))).cell? ⟨w2.heap.size, 3, none⟩ = some (.int .i64 (xf)) := HM.out.cells 3 (by omega)
      have z4 : (w4.setCell ⟨w2.heap.size, 5, none⟩ (.slice (some ⟨b, 0, none⟩) (0) (0))).cell? ⟨w2.heap.size, 4, none⟩ = some (.int .i64 (xl)) := HM.out.cells 4 (by omega)
      have z5 : (w4.setCell ⟨w2.heap.size, 5, none⟩ (.slice (some ⟨b, 0, none⟩) (0) (0))).cell? ⟨w2.heap.size, 5, none⟩ = some (.slice (some ⟨b, 0, none⟩) (0) (0)) := (HM.out.cells 5 (by omega)).trans (by simp [meC, hyl])
      have hlB := HM.out.ptB.lt
      have hlR := HM.out.ptR.lt
      obtain ⟨y0, r0⟩ := HM.out.ptR.has 0 (by omega)
      have q0 := HM.out.ptR.free 0 (by omega)
      obtain ⟨y1, r1⟩ := HM.out.ptR.has 1 (by omega)
      have q1 := HM.out.ptR.free 1 (by omega)
      obtain ⟨y2, r2⟩ := HM.out.ptR.has 2 (by omega)
      have q2 := HM.out.ptR.free 2 (by omega)
      obtain ⟨y3, r3⟩ := HM.out.ptR.has 3 (by omega)
      have q3 := HM.out.ptR.free 3 (by omega)
      obtain ⟨y4, r4⟩ := HM.out.ptR.has 4 (by omega)
      have q4 := HM.out.ptR.free 4 (by omega)
      obtain ⟨y5, r5⟩ := HM.out.ptR.has 5 (by omega)
      have q5 := HM.out.ptR.free 5 (by omega)
      have HF0 := HM.out.fin
      simp only [hyl] at HF0
      have HF := hid_intro HF0
      clear HF0
      have HC := hid_intro (fin6_cells HM.out.ptR (.string xn) (.int .i64 (xg)) (.bool (xw)) (.int .i64 (xf)) (.int .i64 (xl)) (.slice (some ⟨b, 0, none⟩) (0) (0)))
      go_wp2_with fail
      exact bodyPost_ret (v := .agg #[.string xn, .int .i64 (xg), .bool (xw), .int .i64 (xf), .int .i64 (xl), .slice (some ⟨b, 0, none⟩) (0) (0)]) (res6 _ _ _ _ _ _ _ _ _ rfl HC.out) rfl HF.out
    · have hyl : ys.length = xts.length - 1 := by rw [hys, List.length_tail]
      have HM : Hid (MS ao len cap g w w2.heap.size w.heap.size ⟨xn, xg, xw, xf, xl, ys⟩ (some ⟨b, 2, none⟩) (xts.length - 1) (w4.setCell ⟨w2.heap.size, 5, none⟩ (.slice (some ⟨b, 2, none⟩) (xts.length - 1) (xts.length - 1)))) := hid_intro (HM4.out.set 5 (by omega) _ _ _ _ (fun i hi => by match i, hi with | 0, _ => rfl | 1, _ => rfl | 2, _ => rfl | 3, _ => rfl | 4, _ => rfl | 5, _ => simp [meC, hyl]) HTL.out (fun b' o e => by cases e; exact HM4.out.far b 0 rfl) ⟨HM4.out.small.1, by show ys.length ≤ 100; omega⟩)
      have z0 : (w4.setCell ⟨w2.heap.size, 5, none⟩ (.slice (some ⟨b, 2, none⟩) (xts.length - 1) (xts.length - 1))).cell? ⟨w2.heap.size, 0, none⟩ = some (.string xn) := HM.out.cells 0 (by omega)
      have z1 : (w4.setCell ⟨w2.heap.size, 5, none⟩ (.slice (some ⟨b, 2, none⟩) (xts.length - 1) (xts.length - 1))).cell? ⟨w2.heap.size, 1, none⟩ = some (.int .i64 (xg)) := HM.out.cells 1 (by omega)
      have z2 : (w4.setCell ⟨w2.heap.size, 5, none⟩ (.slice (some ⟨b, 2, none⟩) (xts.length - 1) (xts.length - 1))).cell? ⟨w2.heap.size, 2, none⟩ = some (.bool (xw)) := HM.out.cells 2 (by omega)
      have z3 : (w4.setCell ⟨w2.heap.size, 5, none⟩ (.slice (some ⟨b, 2, none⟩) (xts.length - 1) (xts.length - 1))).cell? ⟨w2.heap.size, 3, none⟩ = some (.int .i64 (xf)) := HM.out.cells 3 (by omega)
      have z4 : (w4.setCell ⟨w2.heap.size, 5, none⟩ (.slice (some ⟨b, 2, none⟩) (xts.length - 1) (xts.length - 1))).cell? ⟨w2.heap.size, 4, none⟩ = some (.int .i64 (xl)) := HM.out.cells 4 (by omega)
      have z5 : (w4.setCell ⟨w2.heap.size, 5, none⟩ (.slice (some ⟨b, 2, none⟩) (xts.length - 1) (xts.length - 1))).cell? ⟨w2.heap.size, 5, none⟩ = some (.slice (some ⟨b, 2, none⟩) (xts.length - 1) (xts.length - 1)) := (HM.out.cells 5 (by omega)).trans (by simp [meC, hyl])
      have hlB := HM.out.ptB.lt
      have hlR := HM.out.ptR.lt
      obtain ⟨y0, r0⟩ := HM.out.ptR.has 0 (by omega)
      have q0 := HM.out.ptR.free 0 (by omega)
      obtain ⟨y1, r1⟩ := HM.out.ptR.has 1 (by omega)
      have q1 := HM.out.ptR.free 1 (by omega)
      obtain ⟨y2, r2⟩ := HM.out.ptR.has 2 (by omega)
      have q2 := HM.out.ptR.free 2 (by omega)
      obtain ⟨y3, r3⟩ := HM.out.ptR.has 3 (by omega)
      have q3 := HM.out.ptR.free 3 (by omega)
      obtain ⟨y4, r4⟩ := HM.out.ptR.has 4 (by omega)
      have q4 := HM.out.ptR.free 4 (by omega)
      obtain ⟨y5, r5⟩ := HM.out.ptR.has 5 (by omega)
      have q5 := HM.out.ptR.free 5 (by omega)
      have HF0 := HM.out.fin
      simp only [hyl] at HF0
      have HF := hid_intro HF0
      clear HF0
      have HC := hid_intro (fin6_cells HM.out.ptR (.string xn) (.int .i64 (xg)) (.bool (xw)) (.int .i64 (xf)) (.int .i64 (xl)) (.slice (some ⟨b, 2, none⟩) (xts.length - 1) (xts.length - 1)))
      go_wp2_with fail
      exact bodyPost_ret (v := .agg #[.string xn, .int .i64 (xg), .bool (xw), .int .i64 (xf), .int .i64 (xl), .slice (some ⟨b, 2, none⟩) (xts.length - 1) (xts.length - 1)]) (res6 _ _ _ _ _ _ _ _ _ rfl HC.out) rfl HF.out
  · clear o0 u0 hlB hv0 hv7
    have HMd := hid_intro HM4.out.drew
    obtain ⟨i0, hi, hz0, hz1, hz2⟩ := info_parts infoTi
    have sz1 : 1 + xts.length ≤ maxLen := by unfold maxLen; omega
    have sz2 : (1 + xts.length) * 16 ≤ 140737488355328 := by omega
    have sz3 : 0 < 2 := by omega
    go_wp2_with fail
    refine wp_region_held_drew (S := (fun W => w2.heap.size < W.heap.size)) (by kernel_rfl) HMd.out.ptB.lt (fun hHeld => ?_)
    refine wpAnyH_take (i := 0) (oi := { dst := some 47, op := Op.move (Operand.tmp 0), type := 46, pos := "l05_catalog.go:176", after := #[], guard := none }) (v := ?_) rfl (by kernel_rfl) (by kernel_rfl) (by kernel_rfl) (fun _ _ _ h => h) (Or.inl ⟨by rfl, ?_⟩) (by assumption) ?_
    rotate_left
    · (intro w hSw; (try dsimp only at hSw); go_simp) <;> with_reducible rfl
    try simp only [Act.put, List.setIfInBounds_toArray, List.set_cons_zero, List.set_cons_succ]
    refine wpAnyH_take (i := 2) (oi := { dst := some 49, op := Op.move (Operand.tmp 0), type := 46, pos := "l05_catalog.go:176", after := #[], guard := none }) (v := ?_) rfl (by kernel_rfl) (by kernel_rfl) (by kernel_rfl) (fun _ _ _ h => h) (Or.inl ⟨by rfl, ?_⟩) (by assumption) ?_
    rotate_left
    · (intro w hSw; (try dsimp only at hSw); go_simp) <;> with_reducible rfl
    try simp only [Act.put, List.setIfInBounds_toArray, List.set_cons_zero, List.set_cons_succ]
    refine wpAnyH_take (i := 6) (oi := { dst := some 53, op := Op.fieldAddr 37 (Operand.tmp 3) 5, type := 0, pos := "l05_catalog.go:176", after := #[], guard := none }) (v := ?_) rfl (by kernel_rfl) (by kernel_rfl) (by kernel_rfl) (fun _ _ _ h => h) (Or.inl ⟨by rfl, ?_⟩) (by assumption) ?_
    rotate_left
    · (intro w hSw; (try dsimp only at hSw); go_simp) <;> with_reducible rfl
    try simp only [Act.put, List.setIfInBounds_toArray, List.set_cons_zero, List.set_cons_succ]
    refine wpAnyH_ready (rs := [1, 7]) (by kernel_rfl) (by simp) ?_
    refine AllReadyH.cons (o := { dst := some 48, op := Op.call { callee := Callee.value (Operand.func 29), args := #[Operand.tmp 47, Operand.const (Value.int IntKind.i64 60)], argTypes := #[46, 2] }, type := 2, pos := "l05_catalog.go:176", after := #[{ on := 0, ground := Ground.data }], guard := none }) rfl (fun K hK => ?_) (AllReadyH.cons (o := { dst := some 54, op := Op.load 35 (Operand.tmp 53), type := 35, pos := "l05_catalog.go:176", after := #[{ on := 6, ground := Ground.data }], guard := none }) rfl (fun K hK => ?_) AllReadyH.nil)
    · go_simp
      go_at_call 29
      refine (HN.out 60 _ (by omega) HMd.out.src).mono ?_
      rintro e g1w ⟨yu, rfl, _, _, _, hs1, hg1⟩
      try go_wp2_with fail
      have hm1 := HMd.out.step hs1 hg1
      clear hs1 hg1
      refine hK.out _ _ hm1.ptB.lt (fun _ => ?_)
      clear hK K
      try simp only [Act.put, List.setIfInBounds_toArray, List.set_cons_zero, List.set_cons_succ]
      refine wpAnyH_ready (rs := [3, 7]) (by kernel_rfl) (by simp) ?_
      refine AllReadyH.cons (o := { dst := some 50, op := Op.call { callee := Callee.value (Operand.func 29), args := #[Operand.tmp 49, Operand.const (Value.int IntKind.i64 9)], argTypes := #[46, 2] }, type := 2, pos := "l05_catalog.go:176", after := #[{ on := 2, ground := Ground.data }, { on := 1, ground := Ground.chain }], guard := none }) rfl (fun K hK => ?_) (AllReadyH.cons (o := { dst := some 54, op := Op.load 35 (Operand.tmp 53), type := 35, pos := "l05_catalog.go:176", after := #[{ on := 6, ground := Ground.data }], guard := none }) rfl (fun K hK => ?_) AllReadyH.nil)
      · go_simp
        go_at_call 29
        refine (HN.out 9 _ (by omega) hm1.src).mono ?_
        rintro e g2w ⟨yp, rfl, _, _, _, hs2, hg2⟩
        try go_wp2_with fail
        have hm2 := hm1.step hs2 hg2
        clear hs2 hg2
        refine hK.out _ _ hm2.ptB.lt (fun _ => ?_)
        clear hK K
        try simp only [Act.put, List.setIfInBounds_toArray, List.set_cons_zero, List.set_cons_succ]
        refine wpAnyH_take (i := 4) (oi := { dst := some 51, op := Op.build 72 #[(0, Operand.tmp 48), (1, Operand.tmp 50)], type := 72, pos := "l05_catalog.go:176", after := #[{ on := 1, ground := Ground.data }, { on := 3, ground := Ground.data }], guard := none }) (v := ?_) rfl (by kernel_rfl) (by kernel_rfl) (by kernel_rfl) (fun _ _ _ h => h) (Or.inl ⟨by rfl, ?_⟩) (by assumption) ?_
        rotate_left
        · (intro w hSw; (try dsimp only at hSw); go_simp) <;> with_reducible rfl
        try simp only [Act.put, List.setIfInBounds_toArray, List.set_cons_zero, List.set_cons_succ]
        refine wpAnyH_ready (rs := [5, 7]) (by kernel_rfl) (by simp) ?_
        refine AllReadyH.cons (o := { dst := some 52, op := Op.buildSlice 35 1 #[(0, Operand.tmp 51)], type := 35, pos := "l05_catalog.go:176", after := #[{ on := 4, ground := Ground.data }], guard := none }) rfl (fun K hK => ?_) (AllReadyH.cons (o := { dst := some 54, op := Op.load 35 (Operand.tmp 53), type := 35, pos := "l05_catalog.go:176", after := #[{ on := 6, ground := Ground.data }], guard := none }) rfl (fun K hK => ?_) AllReadyH.nil)
        · go_simp
          try go_wp2_with fail
          have hm3 := hm2.alloc (Obj.cells #[.int .i64 yu, .int .i64 yp] 72)
          refine hK.out _ _ hm3.ptB.lt (fun _ => ?_)
          clear hK K
          try simp only [Act.put, List.setIfInBounds_toArray, List.set_cons_zero, List.set_cons_succ]
          refine wpAnyH_ready (rs := [7]) (by kernel_rfl) (by simp) ?_
          refine AllReadyH.cons (o := { dst := some 54, op := Op.load 35 (Operand.tmp 53), type := 35, pos := "l05_catalog.go:176", after := #[{ on := 6, ground := Ground.data }], guard := none }) rfl (fun K hK => ?_) AllReadyH.nil
          have y5 := hm3.cells 5 (by omega)
          have yl := hm3.ptB.lt
          simp only [meC, List.getElem?_cons_zero, List.getElem?_cons_succ] at y5
          go_simp
          try go_wp2_with fail
          clear y5 yl
          refine hK.out _ _ hm3.ptB.lt (fun _ => ?_)
          clear hK K
          try simp only [Act.put, List.setIfInBounds_toArray, List.set_cons_zero, List.set_cons_succ]
          refine wpAnyH_ready (rs := [8]) (by kernel_rfl) (by simp) ?_
          refine AllReadyH.cons (o := { dst := some 55, op := Op.call { callee := Callee.builtin Builtin.append, args := #[Operand.tmp 52, Operand.tmp 54], argTypes := #[35, 35] }, type := 35, pos := "l05_catalog.go:176", after := #[{ on := 5, ground := Ground.data }, { on := 7, ground := Ground.data }, { on := 3, ground := Ground.chain }], guard := none }) rfl (fun K hK => ?_) AllReadyH.nil
          have hoT : (g2w.alloc (Obj.cells #[.int .i64 yu, .int .i64 yp] 72)).ownsRow g2w.heap.size 72 2 (.slice (some ⟨g2w.heap.size, 0, none⟩) 1 1) 1 (RowG.cellsAll tiC [⟨yu, yp⟩]) := ⟨rfl, .inr ⟨g2w.heap.size, 1, #[.int .i64 yu, .int .i64 yp], rfl, Nat.le_refl _, heap_alloc_new g2w _, by omega, by unfold maxLen; omega, rfl, rfl⟩⟩
          refine step_app rfl _ _ 35 rfl g2w.heap.size 72 i0 (.agg #[.int .i64 0, .int .i64 0]) 2 16 Tryd.underlying35 hi hz0 hz1 hz2 rfl sz3 _ _ _ rfl hoT ⟨b, 0, none⟩ xts.length xts.length (RowG.cellsAll tiC xts) rfl (RowG.cellsAll_len tiC_len xts) (tis_news hm3.tis) (tis_one (fun _ => True) xts) sz1 sz2 (by simp) ?_
          intro v' g4w hown hgrow hne
          have hoM : g4w.ownsRow g2w.heap.size 72 2 v' ((⟨yu, yp⟩ : Ti) :: xts).length (RowG.cellsAll tiC (⟨yu, yp⟩ :: xts)) := by rw [List.length_cons, Nat.add_comm]; exact hown
          obtain ⟨sa, sc, rfl, hmk⟩ := RowG.own_made (z := Ti.zero) tiC_len hoM
          have hm4 := hm3.grown hgrow (fun k e0 => by
            have e : some g2w.heap.size = some k := e0
            cases e
            have h1 := hm2.ptB.lt
            have h2 := hm2.ptR.lt
            have h3 := hm2.hB
            refine ⟨by omega, by omega, by omega, fun b' o e => ?_⟩
            cases e
            have := CatR.tis_at hm2.tis 0 (show 0 < xts.length by omega)
            obtain ⟨b2, o2, e2, hl2, _⟩ := this
            cases e2
            omega)
          refine hK.out _ _ hm4.ptB.lt (fun _ => ?_)
          clear hK K
          try simp only [Act.put, List.setIfInBounds_toArray, List.set_cons_zero, List.set_cons_succ]
          refine wpAnyH_take (i := 9) (oi := { dst := some 56, op := Op.fieldAddr 37 (Operand.tmp 3) 5, type := 0, pos := "l05_catalog.go:176", after := #[{ on := 0, ground := Ground.phase }, { on := 1, ground := Ground.phase }, { on := 2, ground := Ground.phase }, { on := 3, ground := Ground.phase }, { on := 4, ground := Ground.phase }, { on := 5, ground := Ground.phase }, { on := 6, ground := Ground.phase }, { on := 7, ground := Ground.phase }, { on := 8, ground := Ground.phase }], guard := none }) (v := ?_) rfl (by kernel_rfl) (by kernel_rfl) (by kernel_rfl) (fun _ _ _ h => h) (Or.inl ⟨by rfl, ?_⟩) (by assumption) ?_
          rotate_left
          · (intro w hSw; (try dsimp only at hSw); go_simp) <;> with_reducible rfl
          try simp only [Act.put, List.setIfInBounds_toArray, List.set_cons_zero, List.set_cons_succ]
          refine wpAnyH_ready (rs := [10]) (by kernel_rfl) (by simp) ?_
          refine AllReadyH.cons (o := { dst := none, op := Op.store 35 (Operand.tmp 56) (Operand.tmp 55), type := 0, pos := "l05_catalog.go:176", after := #[{ on := 9, ground := Ground.data }, { on := 8, ground := Ground.data }, { on := 8, ground := Ground.chain }, { on := 0, ground := Ground.phase }, { on := 1, ground := Ground.phase }, { on := 2, ground := Ground.phase }, { on := 3, ground := Ground.phase }, { on := 4, ground := Ground.phase }, { on := 5, ground := Ground.phase }, { on := 6, ground := Ground.phase }, { on := 7, ground := Ground.phase }, { on := 8, ground := Ground.phase }], guard := none }) rfl (fun K hK => ?_) AllReadyH.nil
          obtain ⟨o5, ho5⟩ := hm4.ptB.has 5 (by omega)
          have f5 := hm4.ptB.free 5 (by omega)
          have yl := hm4.ptB.lt
          clear hown hgrow hne
          go_simp
          try go_wp2_with fail
          have hm5 := hm4.set 5 (by omega) (.slice sa ((⟨yu, yp⟩ : Ti) :: xts).length sc) ⟨xn, xg, xw, xf, xl, ⟨yu, yp⟩ :: xts⟩ sa sc (fun i hi => by match i, hi with | 0, _ => rfl | 1, _ => rfl | 2, _ => rfl | 3, _ => rfl | 4, _ => rfl | 5, _ => rfl) (tis_of hmk.rws) (fun b' o e => by
            obtain ⟨g', h1, h2, h3⟩ := hmk.own.resolve_left (by simp)
            rw [h1] at e
            cases e
            have a1 := hm2.ptB.lt
            have a2 := hm2.ptR.lt
            have a3 := hm2.hB
            exact ⟨by omega, by omega, by omega⟩) ⟨hm4.small.1, by show (_ :: xts).length ≤ 100; simp; omega⟩
          refine hK.out _ _ hm5.ptB.lt (fun _ => ?_)
          clear hK K
          try simp only [Act.put, List.setIfInBounds_toArray, List.set_cons_zero, List.set_cons_succ]
          refine wpAnyH_done (by kernel_rfl) ?_ _
          have HM := hid_intro (show MS ao len cap g w w2.heap.size w.heap.size ⟨xn, xg, xw, xf, xl, ⟨yu, yp⟩ :: xts⟩ sa sc (g4w.setCell ⟨w2.heap.size, 5, none⟩ (.slice sa (xts.length + 1) sc)) from hm5)
          clear hm1 hm2 hm3 hm4 hm5 hoT hoM hmk ho5 f5 yl
          have hLN : ((⟨yu, yp⟩ : Ti) :: xts).length = xts.length + 1 := rfl
          have z0 : (g4w.setCell ⟨w2.heap.size, 5, none⟩ (.slice sa (xts.length + 1) sc)).cell? ⟨w2.heap.size, 0, none⟩ = some (.string xn) := HM.out.cells 0 (by omega)
          have z1 : (g4w.setCell ⟨w2.heap.size, 5, none⟩ (.slice sa (xts.length + 1) sc)).cell? ⟨w2.heap.size, 1, none⟩ = some (.int .i64 (xg)) := HM.out.cells 1 (by omega)
          have z2 : (g4w.setCell ⟨w2.heap.size, 5, none⟩ (.slice sa (xts.length + 1) sc)).cell? ⟨w2.heap.size, 2, none⟩ = some (.bool (xw)) := HM.out.cells 2 (by omega)
          have z3 : (g4w.setCell ⟨w2.heap.size, 5, none⟩ (.slice sa (xts.length + 1) sc)).cell? ⟨w2.heap.size, 3, none⟩ = some (.int .i64 (xf)) := HM.out.cells 3 (by omega)
          have z4 : (g4w.setCell ⟨w2.heap.size, 5, none⟩ (.slice sa (xts.length + 1) sc)).cell? ⟨w2.heap.size, 4, none⟩ = some (.int .i64 (xl)) := HM.out.cells 4 (by omega)
          have z5 : (g4w.setCell ⟨w2.heap.size, 5, none⟩ (.slice sa (xts.length + 1) sc)).cell? ⟨w2.heap.size, 5, none⟩ = some (.slice (sa) (xts.length + 1) sc) := HM.out.cells 5 (by omega)
          have hlB := HM.out.ptB.lt
          have hlR := HM.out.ptR.lt
          obtain ⟨y0, r0⟩ := HM.out.ptR.has 0 (by omega)
          have q0 := HM.out.ptR.free 0 (by omega)
          obtain ⟨y1, r1⟩ := HM.out.ptR.has 1 (by omega)
          have q1 := HM.out.ptR.free 1 (by omega)
          obtain ⟨y2, r2⟩ := HM.out.ptR.has 2 (by omega)
          have q2 := HM.out.ptR.free 2 (by omega)
          obtain ⟨y3, r3⟩ := HM.out.ptR.has 3 (by omega)
          have q3 := HM.out.ptR.free 3 (by omega)
          obtain ⟨y4, r4⟩ := HM.out.ptR.has 4 (by omega)
          have q4 := HM.out.ptR.free 4 (by omega)
          obtain ⟨y5, r5⟩ := HM.out.ptR.has 5 (by omega)
          have q5 := HM.out.ptR.free 5 (by omega)
          have HF := hid_intro HM.out.fin
          have HC := hid_intro (fin6_cells HM.out.ptR (.string xn) (.int .i64 (xg)) (.bool (xw)) (.int .i64 (xf)) (.int .i64 (xl)) (.slice (sa) (xts.length + 1) sc))
          go_wp2_with fail
          exact bodyPost_ret (v := .agg #[.string xn, .int .i64 (xg), .bool (xw), .int .i64 (xf), .int .i64 (xl), .slice (sa) (xts.length + 1) sc]) (res6 _ _ _ _ _ _ _ _ _ rfl HC.out) rfl HF.out
        · have y5 := hm2.cells 5 (by omega)
          have yl := hm2.ptB.lt
          simp only [meC, List.getElem?_cons_zero, List.getElem?_cons_succ] at y5
          go_simp
          try go_wp2_with fail
          clear y5 yl
          refine hK.out _ _ hm2.ptB.lt (fun _ => ?_)
          clear hK K
          try simp only [Act.put, List.setIfInBounds_toArray, List.set_cons_zero, List.set_cons_succ]
          refine wpAnyH_ready (rs := [5]) (by kernel_rfl) (by simp) ?_
          refine AllReadyH.cons (o := { dst := some 52, op := Op.buildSlice 35 1 #[(0, Operand.tmp 51)], type := 35, pos := "l05_catalog.go:176", after := #[{ on := 4, ground := Ground.data }], guard := none }) rfl (fun K hK => ?_) AllReadyH.nil
          go_simp
          try go_wp2_with fail
          have hm3 := hm2.alloc (Obj.cells #[.int .i64 yu, .int .i64 yp] 72)
          refine hK.out _ _ hm3.ptB.lt (fun _ => ?_)
          clear hK K
          try simp only [Act.put, List.setIfInBounds_toArray, List.set_cons_zero, List.set_cons_succ]
          refine wpAnyH_ready (rs := [8]) (by kernel_rfl) (by simp) ?_
          refine AllReadyH.cons (o := { dst := some 55, op := Op.call { callee := Callee.builtin Builtin.append, args := #[Operand.tmp 52, Operand.tmp 54], argTypes := #[35, 35] }, type := 35, pos := "l05_catalog.go:176", after := #[{ on := 5, ground := Ground.data }, { on := 7, ground := Ground.data }, { on := 3, ground := Ground.chain }], guard := none }) rfl (fun K hK => ?_) AllReadyH.nil
          have hoT : (g2w.alloc (Obj.cells #[.int .i64 yu, .int .i64 yp] 72)).ownsRow g2w.heap.size 72 2 (.slice (some ⟨g2w.heap.size, 0, none⟩) 1 1) 1 (RowG.cellsAll tiC [⟨yu, yp⟩]) := ⟨rfl, .inr ⟨g2w.heap.size, 1, #[.int .i64 yu, .int .i64 yp], rfl, Nat.le_refl _, heap_alloc_new g2w _, by omega, by unfold maxLen; omega, rfl, rfl⟩⟩
          refine step_app rfl _ _ 35 rfl g2w.heap.size 72 i0 (.agg #[.int .i64 0, .int .i64 0]) 2 16 Tryd.underlying35 hi hz0 hz1 hz2 rfl sz3 _ _ _ rfl hoT ⟨b, 0, none⟩ xts.length xts.length (RowG.cellsAll tiC xts) rfl (RowG.cellsAll_len tiC_len xts) (tis_news hm3.tis) (tis_one (fun _ => True) xts) sz1 sz2 (by simp) ?_
          intro v' g4w hown hgrow hne
          have hoM : g4w.ownsRow g2w.heap.size 72 2 v' ((⟨yu, yp⟩ : Ti) :: xts).length (RowG.cellsAll tiC (⟨yu, yp⟩ :: xts)) := by rw [List.length_cons, Nat.add_comm]; exact hown
          obtain ⟨sa, sc, rfl, hmk⟩ := RowG.own_made (z := Ti.zero) tiC_len hoM
          have hm4 := hm3.grown hgrow (fun k e0 => by
            have e : some g2w.heap.size = some k := e0
            cases e
            have h1 := hm2.ptB.lt
            have h2 := hm2.ptR.lt
            have h3 := hm2.hB
            refine ⟨by omega, by omega, by omega, fun b' o e => ?_⟩
            cases e
            have := CatR.tis_at hm2.tis 0 (show 0 < xts.length by omega)
            obtain ⟨b2, o2, e2, hl2, _⟩ := this
            cases e2
            omega)
          refine hK.out _ _ hm4.ptB.lt (fun _ => ?_)
          clear hK K
          try simp only [Act.put, List.setIfInBounds_toArray, List.set_cons_zero, List.set_cons_succ]
          refine wpAnyH_take (i := 9) (oi := { dst := some 56, op := Op.fieldAddr 37 (Operand.tmp 3) 5, type := 0, pos := "l05_catalog.go:176", after := #[{ on := 0, ground := Ground.phase }, { on := 1, ground := Ground.phase }, { on := 2, ground := Ground.phase }, { on := 3, ground := Ground.phase }, { on := 4, ground := Ground.phase }, { on := 5, ground := Ground.phase }, { on := 6, ground := Ground.phase }, { on := 7, ground := Ground.phase }, { on := 8, ground := Ground.phase }], guard := none }) (v := ?_) rfl (by kernel_rfl) (by kernel_rfl) (by kernel_rfl) (fun _ _ _ h => h) (Or.inl ⟨by rfl, ?_⟩) (by assumption) ?_
          rotate_left
          · (intro w hSw; (try dsimp only at hSw); go_simp) <;> with_reducible rfl
          try simp only [Act.put, List.setIfInBounds_toArray, List.set_cons_zero, List.set_cons_succ]
          refine wpAnyH_ready (rs := [10]) (by kernel_rfl) (by simp) ?_
          refine AllReadyH.cons (o := { dst := none, op := Op.store 35 (Operand.tmp 56) (Operand.tmp 55), type := 0, pos := "l05_catalog.go:176", after := #[{ on := 9, ground := Ground.data }, { on := 8, ground := Ground.data }, { on := 8, ground := Ground.chain }, { on := 0, ground := Ground.phase }, { on := 1, ground := Ground.phase }, { on := 2, ground := Ground.phase }, { on := 3, ground := Ground.phase }, { on := 4, ground := Ground.phase }, { on := 5, ground := Ground.phase }, { on := 6, ground := Ground.phase }, { on := 7, ground := Ground.phase }, { on := 8, ground := Ground.phase }], guard := none }) rfl (fun K hK => ?_) AllReadyH.nil
          obtain ⟨o5, ho5⟩ := hm4.ptB.has 5 (by omega)
          have f5 := hm4.ptB.free 5 (by omega)
          have yl := hm4.ptB.lt
          clear hown hgrow hne
          go_simp
          try go_wp2_with fail
          have hm5 := hm4.set 5 (by omega) (.slice sa ((⟨yu, yp⟩ : Ti) :: xts).length sc) ⟨xn, xg, xw, xf, xl, ⟨yu, yp⟩ :: xts⟩ sa sc (fun i hi => by match i, hi with | 0, _ => rfl | 1, _ => rfl | 2, _ => rfl | 3, _ => rfl | 4, _ => rfl | 5, _ => rfl) (tis_of hmk.rws) (fun b' o e => by
            obtain ⟨g', h1, h2, h3⟩ := hmk.own.resolve_left (by simp)
            rw [h1] at e
            cases e
            have a1 := hm2.ptB.lt
            have a2 := hm2.ptR.lt
            have a3 := hm2.hB
            exact ⟨by omega, by omega, by omega⟩) ⟨hm4.small.1, by show (_ :: xts).length ≤ 100; simp; omega⟩
          refine hK.out _ _ hm5.ptB.lt (fun _ => ?_)
          clear hK K
          try simp only [Act.put, List.setIfInBounds_toArray, List.set_cons_zero, List.set_cons_succ]
          refine wpAnyH_done (by kernel_rfl) ?_ _
          have HM := hid_intro (show MS ao len cap g w w2.heap.size w.heap.size ⟨xn, xg, xw, xf, xl, ⟨yu, yp⟩ :: xts⟩ sa sc (g4w.setCell ⟨w2.heap.size, 5, none⟩ (.slice sa (xts.length + 1) sc)) from hm5)
          clear hm1 hm2 hm3 hm4 hm5 hoT hoM hmk ho5 f5 yl
          have hLN : ((⟨yu, yp⟩ : Ti) :: xts).length = xts.length + 1 := rfl
          have z0 : (g4w.setCell ⟨w2.heap.size, 5, none⟩ (.slice sa (xts.length + 1) sc)).cell? ⟨w2.heap.size, 0, none⟩ = some (.string xn) := HM.out.cells 0 (by omega)
          have z1 : (g4w.setCell ⟨w2.heap.size, 5, none⟩ (.slice sa (xts.length + 1) sc)).cell? ⟨w2.heap.size, 1, none⟩ = some (.int .i64 (xg)) := HM.out.cells 1 (by omega)
          have z2 : (g4w.setCell ⟨w2.heap.size, 5, none⟩ (.slice sa (xts.length + 1) sc)).cell? ⟨w2.heap.size, 2, none⟩ = some (.bool (xw)) := HM.out.cells 2 (by omega)
          have z3 : (g4w.setCell ⟨w2.heap.size, 5, none⟩ (.slice sa (xts.length + 1) sc)).cell? ⟨w2.heap.size, 3, none⟩ = some (.int .i64 (xf)) := HM.out.cells 3 (by omega)
          have z4 : (g4w.setCell ⟨w2.heap.size, 5, none⟩ (.slice sa (xts.length + 1) sc)).cell? ⟨w2.heap.size, 4, none⟩ = some (.int .i64 (xl)) := HM.out.cells 4 (by omega)
          have z5 : (g4w.setCell ⟨w2.heap.size, 5, none⟩ (.slice sa (xts.length + 1) sc)).cell? ⟨w2.heap.size, 5, none⟩ = some (.slice (sa) (xts.length + 1) sc) := HM.out.cells 5 (by omega)
          have hlB := HM.out.ptB.lt
          have hlR := HM.out.ptR.lt
          obtain ⟨y0, r0⟩ := HM.out.ptR.has 0 (by omega)
          have q0 := HM.out.ptR.free 0 (by omega)
          obtain ⟨y1, r1⟩ := HM.out.ptR.has 1 (by omega)
          have q1 := HM.out.ptR.free 1 (by omega)
          obtain ⟨y2, r2⟩ := HM.out.ptR.has 2 (by omega)
          have q2 := HM.out.ptR.free 2 (by omega)
          obtain ⟨y3, r3⟩ := HM.out.ptR.has 3 (by omega)
          have q3 := HM.out.ptR.free 3 (by omega)
          obtain ⟨y4, r4⟩ := HM.out.ptR.has 4 (by omega)
          have q4 := HM.out.ptR.free 4 (by omega)
          obtain ⟨y5, r5⟩ := HM.out.ptR.has 5 (by omega)
          have q5 := HM.out.ptR.free 5 (by omega)
          have HF := hid_intro HM.out.fin
          have HC := hid_intro (fin6_cells HM.out.ptR (.string xn) (.int .i64 (xg)) (.bool (xw)) (.int .i64 (xf)) (.int .i64 (xl)) (.slice (sa) (xts.length + 1) sc))
          go_wp2_with fail
          exact bodyPost_ret (v := .agg #[.string xn, .int .i64 (xg), .bool (xw), .int .i64 (xf), .int .i64 (xl), .slice (sa) (xts.length + 1) sc]) (res6 _ _ _ _ _ _ _ _ _ rfl HC.out) rfl HF.out
      · have y5 := hm1.cells 5 (by omega)
        have yl := hm1.ptB.lt
        simp only [meC, List.getElem?_cons_zero, List.getElem?_cons_succ] at y5
        go_simp
        try go_wp2_with fail
        clear y5 yl
        refine hK.out _ _ hm1.ptB.lt (fun _ => ?_)
        clear hK K
        try simp only [Act.put, List.setIfInBounds_toArray, List.set_cons_zero, List.set_cons_succ]
        refine wpAnyH_ready (rs := [3]) (by kernel_rfl) (by simp) ?_
        refine AllReadyH.cons (o := { dst := some 50, op := Op.call { callee := Callee.value (Operand.func 29), args := #[Operand.tmp 49, Operand.const (Value.int IntKind.i64 9)], argTypes := #[46, 2] }, type := 2, pos := "l05_catalog.go:176", after := #[{ on := 2, ground := Ground.data }, { on := 1, ground := Ground.chain }], guard := none }) rfl (fun K hK => ?_) AllReadyH.nil
        go_simp
        go_at_call 29
        refine (HN.out 9 _ (by omega) hm1.src).mono ?_
        rintro e g2w ⟨yp, rfl, _, _, _, hs2, hg2⟩
        try go_wp2_with fail
        have hm2 := hm1.step hs2 hg2
        clear hs2 hg2
        refine hK.out _ _ hm2.ptB.lt (fun _ => ?_)
        clear hK K
        try simp only [Act.put, List.setIfInBounds_toArray, List.set_cons_zero, List.set_cons_succ]
        refine wpAnyH_take (i := 4) (oi := { dst := some 51, op := Op.build 72 #[(0, Operand.tmp 48), (1, Operand.tmp 50)], type := 72, pos := "l05_catalog.go:176", after := #[{ on := 1, ground := Ground.data }, { on := 3, ground := Ground.data }], guard := none }) (v := ?_) rfl (by kernel_rfl) (by kernel_rfl) (by kernel_rfl) (fun _ _ _ h => h) (Or.inl ⟨by rfl, ?_⟩) (by assumption) ?_
        rotate_left
        · (intro w hSw; (try dsimp only at hSw); go_simp) <;> with_reducible rfl
        try simp only [Act.put, List.setIfInBounds_toArray, List.set_cons_zero, List.set_cons_succ]
        refine wpAnyH_ready (rs := [5]) (by kernel_rfl) (by simp) ?_
        refine AllReadyH.cons (o := { dst := some 52, op := Op.buildSlice 35 1 #[(0, Operand.tmp 51)], type := 35, pos := "l05_catalog.go:176", after := #[{ on := 4, ground := Ground.data }], guard := none }) rfl (fun K hK => ?_) AllReadyH.nil
        go_simp
        try go_wp2_with fail
        have hm3 := hm2.alloc (Obj.cells #[.int .i64 yu, .int .i64 yp] 72)
        refine hK.out _ _ hm3.ptB.lt (fun _ => ?_)
        clear hK K
        try simp only [Act.put, List.setIfInBounds_toArray, List.set_cons_zero, List.set_cons_succ]
        refine wpAnyH_ready (rs := [8]) (by kernel_rfl) (by simp) ?_
        refine AllReadyH.cons (o := { dst := some 55, op := Op.call { callee := Callee.builtin Builtin.append, args := #[Operand.tmp 52, Operand.tmp 54], argTypes := #[35, 35] }, type := 35, pos := "l05_catalog.go:176", after := #[{ on := 5, ground := Ground.data }, { on := 7, ground := Ground.data }, { on := 3, ground := Ground.chain }], guard := none }) rfl (fun K hK => ?_) AllReadyH.nil
        have hoT : (g2w.alloc (Obj.cells #[.int .i64 yu, .int .i64 yp] 72)).ownsRow g2w.heap.size 72 2 (.slice (some ⟨g2w.heap.size, 0, none⟩) 1 1) 1 (RowG.cellsAll tiC [⟨yu, yp⟩]) := ⟨rfl, .inr ⟨g2w.heap.size, 1, #[.int .i64 yu, .int .i64 yp], rfl, Nat.le_refl _, heap_alloc_new g2w _, by omega, by unfold maxLen; omega, rfl, rfl⟩⟩
        refine step_app rfl _ _ 35 rfl g2w.heap.size 72 i0 (.agg #[.int .i64 0, .int .i64 0]) 2 16 Tryd.underlying35 hi hz0 hz1 hz2 rfl sz3 _ _ _ rfl hoT ⟨b, 0, none⟩ xts.length xts.length (RowG.cellsAll tiC xts) rfl (RowG.cellsAll_len tiC_len xts) (tis_news hm3.tis) (tis_one (fun _ => True) xts) sz1 sz2 (by simp) ?_
        intro v' g4w hown hgrow hne
        have hoM : g4w.ownsRow g2w.heap.size 72 2 v' ((⟨yu, yp⟩ : Ti) :: xts).length (RowG.cellsAll tiC (⟨yu, yp⟩ :: xts)) := by rw [List.length_cons, Nat.add_comm]; exact hown
        obtain ⟨sa, sc, rfl, hmk⟩ := RowG.own_made (z := Ti.zero) tiC_len hoM
        have hm4 := hm3.grown hgrow (fun k e0 => by
          have e : some g2w.heap.size = some k := e0
          cases e
          have h1 := hm2.ptB.lt
          have h2 := hm2.ptR.lt
          have h3 := hm2.hB
          refine ⟨by omega, by omega, by omega, fun b' o e => ?_⟩
          cases e
          have := CatR.tis_at hm2.tis 0 (show 0 < xts.length by omega)
          obtain ⟨b2, o2, e2, hl2, _⟩ := this
          cases e2
          omega)
        refine hK.out _ _ hm4.ptB.lt (fun _ => ?_)
        clear hK K
        try simp only [Act.put, List.setIfInBounds_toArray, List.set_cons_zero, List.set_cons_succ]
        refine wpAnyH_take (i := 9) (oi := { dst := some 56, op := Op.fieldAddr 37 (Operand.tmp 3) 5, type := 0, pos := "l05_catalog.go:176", after := #[{ on := 0, ground := Ground.phase }, { on := 1, ground := Ground.phase }, { on := 2, ground := Ground.phase }, { on := 3, ground := Ground.phase }, { on := 4, ground := Ground.phase }, { on := 5, ground := Ground.phase }, { on := 6, ground := Ground.phase }, { on := 7, ground := Ground.phase }, { on := 8, ground := Ground.phase }], guard := none }) (v := ?_) rfl (by kernel_rfl) (by kernel_rfl) (by kernel_rfl) (fun _ _ _ h => h) (Or.inl ⟨by rfl, ?_⟩) (by assumption) ?_
        rotate_left
        · (intro w hSw; (try dsimp only at hSw); go_simp) <;> with_reducible rfl
        try simp only [Act.put, List.setIfInBounds_toArray, List.set_cons_zero, List.set_cons_succ]
        refine wpAnyH_ready (rs := [10]) (by kernel_rfl) (by simp) ?_
        refine AllReadyH.cons (o := { dst := none, op := Op.store 35 (Operand.tmp 56) (Operand.tmp 55), type := 0, pos := "l05_catalog.go:176", after := #[{ on := 9, ground := Ground.data }, { on := 8, ground := Ground.data }, { on := 8, ground := Ground.chain }, { on := 0, ground := Ground.phase }, { on := 1, ground := Ground.phase }, { on := 2, ground := Ground.phase }, { on := 3, ground := Ground.phase }, { on := 4, ground := Ground.phase }, { on := 5, ground := Ground.phase }, { on := 6, ground := Ground.phase }, { on := 7, ground := Ground.phase }, { on := 8, ground := Ground.phase }], guard := none }) rfl (fun K hK => ?_) AllReadyH.nil
        obtain ⟨o5, ho5⟩ := hm4.ptB.has 5 (by omega)
        have f5 := hm4.ptB.free 5 (by omega)
        have yl := hm4.ptB.lt
        clear hown hgrow hne
        go_simp
        try go_wp2_with fail
        have hm5 := hm4.set 5 (by omega) (.slice sa ((⟨yu, yp⟩ : Ti) :: xts).length sc) ⟨xn, xg, xw, xf, xl, ⟨yu, yp⟩ :: xts⟩ sa sc (fun i hi => by match i, hi with | 0, _ => rfl | 1, _ => rfl | 2, _ => rfl | 3, _ => rfl | 4, _ => rfl | 5, _ => rfl) (tis_of hmk.rws) (fun b' o e => by
          obtain ⟨g', h1, h2, h3⟩ := hmk.own.resolve_left (by simp)
          rw [h1] at e
          cases e
          have a1 := hm2.ptB.lt
          have a2 := hm2.ptR.lt
          have a3 := hm2.hB
          exact ⟨by omega, by omega, by omega⟩) ⟨hm4.small.1, by show (_ :: xts).length ≤ 100; simp; omega⟩
        refine hK.out _ _ hm5.ptB.lt (fun _ => ?_)
        clear hK K
        try simp only [Act.put, List.setIfInBounds_toArray, List.set_cons_zero, List.set_cons_succ]
        refine wpAnyH_done (by kernel_rfl) ?_ _
        have HM := hid_intro (show MS ao len cap g w w2.heap.size w.heap.size ⟨xn, xg, xw, xf, xl, ⟨yu, yp⟩ :: xts⟩ sa sc (g4w.setCell ⟨w2.heap.size, 5, none⟩ (.slice sa (xts.length + 1) sc)) from hm5)
        clear hm1 hm2 hm3 hm4 hm5 hoT hoM hmk ho5 f5 yl
        have hLN : ((⟨yu, yp⟩ : Ti) :: xts).length = xts.length + 1 := rfl
        have z0 : (g4w.setCell ⟨w2.heap.size, 5, none⟩ (.slice sa (xts.length + 1) sc)).cell? ⟨w2.heap.size, 0, none⟩ = some (.string xn) := HM.out.cells 0 (by omega)
        have z1 : (g4w.setCell ⟨w2.heap.size, 5, none⟩ (.slice sa (xts.length + 1) sc)).cell? ⟨w2.heap.size, 1, none⟩ = some (.int .i64 (xg)) := HM.out.cells 1 (by omega)
        have z2 : (g4w.setCell ⟨w2.heap.size, 5, none⟩ (.slice sa (xts.length + 1) sc)).cell? ⟨w2.heap.size, 2, none⟩ = some (.bool (xw)) := HM.out.cells 2 (by omega)
        have z3 : (g4w.setCell ⟨w2.heap.size, 5, none⟩ (.slice sa (xts.length + 1) sc)).cell? ⟨w2.heap.size, 3, none⟩ = some (.int .i64 (xf)) := HM.out.cells 3 (by omega)
        have z4 : (g4w.setCell ⟨w2.heap.size, 5, none⟩ (.slice sa (xts.length + 1) sc)).cell? ⟨w2.heap.size, 4, none⟩ = some (.int .i64 (xl)) := HM.out.cells 4 (by omega)
        have z5 : (g4w.setCell ⟨w2.heap.size, 5, none⟩ (.slice sa (xts.length + 1) sc)).cell? ⟨w2.heap.size, 5, none⟩ = some (.slice (sa) (xts.length + 1) sc) := HM.out.cells 5 (by omega)
        have hlB := HM.out.ptB.lt
        have hlR := HM.out.ptR.lt
        obtain ⟨y0, r0⟩ := HM.out.ptR.has 0 (by omega)
        have q0 := HM.out.ptR.free 0 (by omega)
        obtain ⟨y1, r1⟩ := HM.out.ptR.has 1 (by omega)
        have q1 := HM.out.ptR.free 1 (by omega)
        obtain ⟨y2, r2⟩ := HM.out.ptR.has 2 (by omega)
        have q2 := HM.out.ptR.free 2 (by omega)
        obtain ⟨y3, r3⟩ := HM.out.ptR.has 3 (by omega)
        have q3 := HM.out.ptR.free 3 (by omega)
        obtain ⟨y4, r4⟩ := HM.out.ptR.has 4 (by omega)
        have q4 := HM.out.ptR.free 4 (by omega)
        obtain ⟨y5, r5⟩ := HM.out.ptR.has 5 (by omega)
        have q5 := HM.out.ptR.free 5 (by omega)
        have HF := hid_intro HM.out.fin
        have HC := hid_intro (fin6_cells HM.out.ptR (.string xn) (.int .i64 (xg)) (.bool (xw)) (.int .i64 (xf)) (.int .i64 (xl)) (.slice (sa) (xts.length + 1) sc))
        go_wp2_with fail
        exact bodyPost_ret (v := .agg #[.string xn, .int .i64 (xg), .bool (xw), .int .i64 (xf), .int .i64 (xl), .slice (sa) (xts.length + 1) sc]) (res6 _ _ _ _ _ _ _ _ _ rfl HC.out) rfl HF.out
    · have y5 := HMd.out.cells 5 (by omega)
      have yl := HMd.out.ptB.lt
      simp only [meC, List.getElem?_cons_zero, List.getElem?_cons_succ] at y5
      go_simp
      try go_wp2_with fail
      clear y5 yl
      refine hK.out _ _ HMd.out.ptB.lt (fun _ => ?_)
      clear hK K
      try simp only [Act.put, List.setIfInBounds_toArray, List.set_cons_zero, List.set_cons_succ]
      refine wpAnyH_ready (rs := [1]) (by kernel_rfl) (by simp) ?_
      refine AllReadyH.cons (o := { dst := some 48, op := Op.call { callee := Callee.value (Operand.func 29), args := #[Operand.tmp 47, Operand.const (Value.int IntKind.i64 60)], argTypes := #[46, 2] }, type := 2, pos := "l05_catalog.go:176", after := #[{ on := 0, ground := Ground.data }], guard := none }) rfl (fun K hK => ?_) AllReadyH.nil
      go_simp
      go_at_call 29
      refine (HN.out 60 _ (by omega) HMd.out.src).mono ?_
      rintro e g1w ⟨yu, rfl, _, _, _, hs1, hg1⟩
      try go_wp2_with fail
      have hm1 := HMd.out.step hs1 hg1
      clear hs1 hg1
      refine hK.out _ _ hm1.ptB.lt (fun _ => ?_)
      clear hK K
      try simp only [Act.put, List.setIfInBounds_toArray, List.set_cons_zero, List.set_cons_succ]
      refine wpAnyH_ready (rs := [3]) (by kernel_rfl) (by simp) ?_
      refine AllReadyH.cons (o := { dst := some 50, op := Op.call { callee := Callee.value (Operand.func 29), args := #[Operand.tmp 49, Operand.const (Value.int IntKind.i64 9)], argTypes := #[46, 2] }, type := 2, pos := "l05_catalog.go:176", after := #[{ on := 2, ground := Ground.data }, { on := 1, ground := Ground.chain }], guard := none }) rfl (fun K hK => ?_) AllReadyH.nil
      go_simp
      go_at_call 29
      refine (HN.out 9 _ (by omega) hm1.src).mono ?_
      rintro e g2w ⟨yp, rfl, _, _, _, hs2, hg2⟩
      try go_wp2_with fail
      have hm2 := hm1.step hs2 hg2
      clear hs2 hg2
      refine hK.out _ _ hm2.ptB.lt (fun _ => ?_)
      clear hK K
      try simp only [Act.put, List.setIfInBounds_toArray, List.set_cons_zero, List.set_cons_succ]
      refine wpAnyH_take (i := 4) (oi := { dst := some 51, op := Op.build 72 #[(0, Operand.tmp 48), (1, Operand.tmp 50)], type := 72, pos := "l05_catalog.go:176", after := #[{ on := 1, ground := Ground.data }, { on := 3, ground := Ground.data }], guard := none }) (v := ?_) rfl (by kernel_rfl) (by kernel_rfl) (by kernel_rfl) (fun _ _ _ h => h) (Or.inl ⟨by rfl, ?_⟩) (by assumption) ?_
      rotate_left
      · (intro w hSw; (try dsimp only at hSw); go_simp) <;> with_reducible rfl
      try simp only [Act.put, List.setIfInBounds_toArray, List.set_cons_zero, List.set_cons_succ]
      refine wpAnyH_ready (rs := [5]) (by kernel_rfl) (by simp) ?_
      refine AllReadyH.cons (o := { dst := some 52, op := Op.buildSlice 35 1 #[(0, Operand.tmp 51)], type := 35, pos := "l05_catalog.go:176", after := #[{ on := 4, ground := Ground.data }], guard := none }) rfl (fun K hK => ?_) AllReadyH.nil
      go_simp
      try go_wp2_with fail
      have hm3 := hm2.alloc (Obj.cells #[.int .i64 yu, .int .i64 yp] 72)
      refine hK.out _ _ hm3.ptB.lt (fun _ => ?_)
      clear hK K
      try simp only [Act.put, List.setIfInBounds_toArray, List.set_cons_zero, List.set_cons_succ]
      refine wpAnyH_ready (rs := [8]) (by kernel_rfl) (by simp) ?_
      refine AllReadyH.cons (o := { dst := some 55, op := Op.call { callee := Callee.builtin Builtin.append, args := #[Operand.tmp 52, Operand.tmp 54], argTypes := #[35, 35] }, type := 35, pos := "l05_catalog.go:176", after := #[{ on := 5, ground := Ground.data }, { on := 7, ground := Ground.data }, { on := 3, ground := Ground.chain }], guard := none }) rfl (fun K hK => ?_) AllReadyH.nil
      have hoT : (g2w.alloc (Obj.cells #[.int .i64 yu, .int .i64 yp] 72)).ownsRow g2w.heap.size 72 2 (.slice (some ⟨g2w.heap.size, 0, none⟩) 1 1) 1 (RowG.cellsAll tiC [⟨yu, yp⟩]) := ⟨rfl, .inr ⟨g2w.heap.size, 1, #[.int .i64 yu, .int .i64 yp], rfl, Nat.le_refl _, heap_alloc_new g2w _, by omega, by unfold maxLen; omega, rfl, rfl⟩⟩
      refine step_app rfl _ _ 35 rfl g2w.heap.size 72 i0 (.agg #[.int .i64 0, .int .i64 0]) 2 16 Tryd.underlying35 hi hz0 hz1 hz2 rfl sz3 _ _ _ rfl hoT ⟨b, 0, none⟩ xts.length xts.length (RowG.cellsAll tiC xts) rfl (RowG.cellsAll_len tiC_len xts) (tis_news hm3.tis) (tis_one (fun _ => True) xts) sz1 sz2 (by simp) ?_
      intro v' g4w hown hgrow hne
      have hoM : g4w.ownsRow g2w.heap.size 72 2 v' ((⟨yu, yp⟩ : Ti) :: xts).length (RowG.cellsAll tiC (⟨yu, yp⟩ :: xts)) := by rw [List.length_cons, Nat.add_comm]; exact hown
      obtain ⟨sa, sc, rfl, hmk⟩ := RowG.own_made (z := Ti.zero) tiC_len hoM
      have hm4 := hm3.grown hgrow (fun k e0 => by
        have e : some g2w.heap.size = some k := e0
        cases e
        have h1 := hm2.ptB.lt
        have h2 := hm2.ptR.lt
        have h3 := hm2.hB
        refine ⟨by omega, by omega, by omega, fun b' o e => ?_⟩
        cases e
        have := CatR.tis_at hm2.tis 0 (show 0 < xts.length by omega)
        obtain ⟨b2, o2, e2, hl2, _⟩ := this
        cases e2
        omega)
      refine hK.out _ _ hm4.ptB.lt (fun _ => ?_)
      clear hK K
      try simp only [Act.put, List.setIfInBounds_toArray, List.set_cons_zero, List.set_cons_succ]
      refine wpAnyH_take (i := 9) (oi := { dst := some 56, op := Op.fieldAddr 37 (Operand.tmp 3) 5, type := 0, pos := "l05_catalog.go:176", after := #[{ on := 0, ground := Ground.phase }, { on := 1, ground := Ground.phase }, { on := 2, ground := Ground.phase }, { on := 3, ground := Ground.phase }, { on := 4, ground := Ground.phase }, { on := 5, ground := Ground.phase }, { on := 6, ground := Ground.phase }, { on := 7, ground := Ground.phase }, { on := 8, ground := Ground.phase }], guard := none }) (v := ?_) rfl (by kernel_rfl) (by kernel_rfl) (by kernel_rfl) (fun _ _ _ h => h) (Or.inl ⟨by rfl, ?_⟩) (by assumption) ?_
      rotate_left
      · (intro w hSw; (try dsimp only at hSw); go_simp) <;> with_reducible rfl
      try simp only [Act.put, List.setIfInBounds_toArray, List.set_cons_zero, List.set_cons_succ]
      refine wpAnyH_ready (rs := [10]) (by kernel_rfl) (by simp) ?_
      refine AllReadyH.cons (o := { dst := none, op := Op.store 35 (Operand.tmp 56) (Operand.tmp 55), type := 0, pos := "l05_catalog.go:176", after := #[{ on := 9, ground := Ground.data }, { on := 8, ground := Ground.data }, { on := 8, ground := Ground.chain }, { on := 0, ground := Ground.phase }, { on := 1, ground := Ground.phase }, { on := 2, ground := Ground.phase }, { on := 3, ground := Ground.phase }, { on := 4, ground := Ground.phase }, { on := 5, ground := Ground.phase }, { on := 6, ground := Ground.phase }, { on := 7, ground := Ground.phase }, { on := 8, ground := Ground.phase }], guard := none }) rfl (fun K hK => ?_) AllReadyH.nil
      obtain ⟨o5, ho5⟩ := hm4.ptB.has 5 (by omega)
      have f5 := hm4.ptB.free 5 (by omega)
      have yl := hm4.ptB.lt
      clear hown hgrow hne
      go_simp
      try go_wp2_with fail
      have hm5 := hm4.set 5 (by omega) (.slice sa ((⟨yu, yp⟩ : Ti) :: xts).length sc) ⟨xn, xg, xw, xf, xl, ⟨yu, yp⟩ :: xts⟩ sa sc (fun i hi => by match i, hi with | 0, _ => rfl | 1, _ => rfl | 2, _ => rfl | 3, _ => rfl | 4, _ => rfl | 5, _ => rfl) (tis_of hmk.rws) (fun b' o e => by
        obtain ⟨g', h1, h2, h3⟩ := hmk.own.resolve_left (by simp)
        rw [h1] at e
        cases e
        have a1 := hm2.ptB.lt
        have a2 := hm2.ptR.lt
        have a3 := hm2.hB
        exact ⟨by omega, by omega, by omega⟩) ⟨hm4.small.1, by show (_ :: xts).length ≤ 100; simp; omega⟩
      refine hK.out _ _ hm5.ptB.lt (fun _ => ?_)
      clear hK K
      try simp only [Act.put, List.setIfInBounds_toArray, List.set_cons_zero, List.set_cons_succ]
      refine wpAnyH_done (by kernel_rfl) ?_ _
      have HM := hid_intro (show MS ao len cap g w w2.heap.size w.heap.size ⟨xn, xg, xw, xf, xl, ⟨yu, yp⟩ :: xts⟩ sa sc (g4w.setCell ⟨w2.heap.size, 5, none⟩ (.slice sa (xts.length + 1) sc)) from hm5)
      clear hm1 hm2 hm3 hm4 hm5 hoT hoM hmk ho5 f5 yl
      have hLN : ((⟨yu, yp⟩ : Ti) :: xts).length = xts.length + 1 := rfl
      have z0 : (g4w.setCell ⟨w2.heap.size, 5, none⟩ (.slice sa (xts.length + 1) sc)).cell? ⟨w2.heap.size, 0, none⟩ = some (.string xn) := HM.out.cells 0 (by omega)
      have z1 : (g4w.setCell ⟨w2.heap.size, 5, none⟩ (.slice sa (xts.length + 1) sc)).cell? ⟨w2.heap.size, 1, none⟩ = some (.int .i64 (xg)) := HM.out.cells 1 (by omega)
      have z2 : (g4w.setCell ⟨w2.heap.size, 5, none⟩ (.slice sa (xts.length + 1) sc)).cell? ⟨w2.heap.size, 2, none⟩ = some (.bool (xw)) := HM.out.cells 2 (by omega)
      have z3 : (g4w.setCell ⟨w2.heap.size, 5, none⟩ (.slice sa (xts.length + 1) sc)).cell? ⟨w2.heap.size, 3, none⟩ = some (.int .i64 (xf)) := HM.out.cells 3 (by omega)
      have z4 : (g4w.setCell ⟨w2.heap.size, 5, none⟩ (.slice sa (xts.length + 1) sc)).cell? ⟨w2.heap.size, 4, none⟩ = some (.int .i64 (xl)) := HM.out.cells 4 (by omega)
      have z5 : (g4w.setCell ⟨w2.heap.size, 5, none⟩ (.slice sa (xts.length + 1) sc)).cell? ⟨w2.heap.size, 5, none⟩ = some (.slice (sa) (xts.length + 1) sc) := HM.out.cells 5 (by omega)
      have hlB := HM.out.ptB.lt
      have hlR := HM.out.ptR.lt
      obtain ⟨y0, r0⟩ := HM.out.ptR.has 0 (by omega)
      have q0 := HM.out.ptR.free 0 (by omega)
      obtain ⟨y1, r1⟩ := HM.out.ptR.has 1 (by omega)
      have q1 := HM.out.ptR.free 1 (by omega)
      obtain ⟨y2, r2⟩ := HM.out.ptR.has 2 (by omega)
      have q2 := HM.out.ptR.free 2 (by omega)
      obtain ⟨y3, r3⟩ := HM.out.ptR.has 3 (by omega)
      have q3 := HM.out.ptR.free 3 (by omega)
      obtain ⟨y4, r4⟩ := HM.out.ptR.has 4 (by omega)
      have q4 := HM.out.ptR.free 4 (by omega)
      obtain ⟨y5, r5⟩ := HM.out.ptR.has 5 (by omega)
      have q5 := HM.out.ptR.free 5 (by omega)
      have HF := hid_intro HM.out.fin
      have HC := hid_intro (fin6_cells HM.out.ptR (.string xn) (.int .i64 (xg)) (.bool (xw)) (.int .i64 (xf)) (.int .i64 (xl)) (.slice (sa) (xts.length + 1) sc))
      go_wp2_with fail
      exact bodyPost_ret (v := .agg #[.string xn, .int .i64 (xg), .bool (xw), .int .i64 (xf), .int .i64 (xl), .slice (sa) (xts.length + 1) sc]) (res6 _ _ _ _ _ _ _ _ _ rfl HC.out) rfl HF.out
  · clear o0 u0 hlB hv0 hv7
    go_wp2_with fail
    refine (HN.out 3 _ (by omega) (HM4.out.alloc _).src).mono ?_
    rintro e w5 ⟨y, rfl, y0, _, y2, hS5, hg5⟩
    have y3 : y < 3 := y2 (by omega)
    obtain ⟨t, rfl⟩ : ∃ t : Nat, y = (t : Int) := ⟨y.toNat, by omega⟩
    have ht4 : t < 3 := by omega
    have hl4 : w4.heap.size < w5.heap.size := by have := hg5.size; simp at this; omega
    obtain ⟨Y, cy⟩ : ∃ Y : Int, w5.cell? ⟨w4.heap.size, t, none⟩ = some (.int .i64 Y) := by
      have hlt := HM4.out.ptB.lt
      have hBw := HM4.out.hB
      have e := hg5.block w4.heap.size (by simp) (fun e => by cases e; omega)
      have e2 := World.cell?_of_block (a := ⟨w4.heap.size, t, none⟩) e
      exact pick_cell w4 [-1, 1000000, 1000001] t ht4 _ e2
    have HM5 := hid_intro ((HM4.out.alloc _).step hS5 hg5)
    clear hS5 hg5 y2
    have hlB := HM5.out.ptB.lt
    obtain ⟨o, ho⟩ := HM5.out.ptB.has 5 (by omega)
    have hf := HM5.out.ptB.free 5 (by omega)
    have HM : Hid (MS ao len cap g w w2.heap.size w.heap.size ⟨xn, xg, xw, xf, xl, [⟨1000000000000, Y⟩]⟩ (some ⟨w5.heap.size, 0, none⟩) 1 ((w5.setCell ⟨w2.heap.size, 5, none⟩ (.slice (some ⟨w5.heap.size, 0, none⟩) 1 1)).alloc (.cells #[.int .i64 1000000000000, .int .i64 Y] 72))) := hid_intro (by
      rw [← alloc_set _ _ _ _ _ hlB]
      refine (HM5.out.alloc (.cells #[.int .i64 1000000000000, .int .i64 Y] 72)).set 5 (by omega) _ _ _ _ (fun i hi => by match i, hi with | 0, _ => rfl | 1, _ => rfl | 2, _ => rfl | 3, _ => rfl | 4, _ => rfl | 5, _ => rfl) ⟨rfl, .inr ⟨w5.heap.size, 0, rfl, by simp, fun j hj => ?_⟩⟩ (fun b' o e => ?_) ⟨HM5.out.small.1, by show 1 ≤ 100; omega⟩
      · match j, hj with
        | 0, _ => exact ⟨by simp [go_sem, Ti.zero], by simp [go_sem, Ti.zero]⟩
      · cases e
        have h1 := HM5.out.hB
        have h2 := HM5.out.ptR.lt
        refine ⟨by omega, by omega, by omega⟩)
    have z0 : ((w5.setCell ⟨w2.heap.size, 5, none⟩ (.slice (some ⟨w5.heap.size, 0, none⟩) 1 1)).alloc (.cells #[.int .i64 1000000000000, .int .i64 Y] 72)).cell? ⟨w2.heap.size, 0, none⟩ = some (.string xn) := HM.out.cells 0 (by omega)
    have z1 : ((w5.setCell ⟨w2.heap.size, 5, none⟩ (.slice (some ⟨w5.heap.size, 0, none⟩) 1 1)).alloc (.cells #[.int .i64 1000000000000, .int .i64 Y] 72)).cell? ⟨w2.heap.size, 1, none⟩ = some (.int .i64 (xg)) := HM.out.cells 1 (by omega)
    have z2 : ((w5.setCell ⟨w2.heap.size, 5, none⟩ (.slice (some ⟨w5.heap.size, 0, none⟩) 1 1)).alloc (.cells #[.int .i64 1000000000000, .int .i64 Y] 72)).cell? ⟨w2.heap.size, 2, none⟩ = some (.bool (xw)) := HM.out.cells 2 (by omega)
    have z3 : ((w5.setCell ⟨w2.heap.size, 5, none⟩ (.slice (some ⟨w5.heap.size, 0, none⟩) 1 1)).alloc (.cells #[.int .i64 1000000000000, .int .i64 Y] 72)).cell? ⟨w2.heap.size, 3, none⟩ = some (.int .i64 (xf)) := HM.out.cells 3 (by omega)
    have z4 : ((w5.setCell ⟨w2.heap.size, 5, none⟩ (.slice (some ⟨w5.heap.size, 0, none⟩) 1 1)).alloc (.cells #[.int .i64 1000000000000, .int .i64 Y] 72)).cell? ⟨w2.heap.size, 4, none⟩ = some (.int .i64 (xl)) := HM.out.cells 4 (by omega)
    have z5 : ((w5.setCell ⟨w2.heap.size, 5, none⟩ (.slice (some ⟨w5.heap.size, 0, none⟩) 1 1)).alloc (.cells #[.int .i64 1000000000000, .int .i64 Y] 72)).cell? ⟨w2.heap.size, 5, none⟩ = some (.slice (some ⟨w5.heap.size, 0, none⟩) 1 1) := HM.out.cells 5 (by omega)
    have hlB := HM.out.ptB.lt
    have hlR := HM.out.ptR.lt
    obtain ⟨y0, r0⟩ := HM.out.ptR.has 0 (by omega)
    have q0 := HM.out.ptR.free 0 (by omega)
    obtain ⟨y1, r1⟩ := HM.out.ptR.has 1 (by omega)
    have q1 := HM.out.ptR.free 1 (by omega)
    obtain ⟨y2, r2⟩ := HM.out.ptR.has 2 (by omega)
    have q2 := HM.out.ptR.free 2 (by omega)
    obtain ⟨y3, r3⟩ := HM.out.ptR.has 3 (by omega)
    have q3 := HM.out.ptR.free 3 (by omega)
    obtain ⟨y4, r4⟩ := HM.out.ptR.has 4 (by omega)
    have q4 := HM.out.ptR.free 4 (by omega)
    obtain ⟨y5, r5⟩ := HM.out.ptR.has 5 (by omega)
    have q5 := HM.out.ptR.free 5 (by omega)
    have HF := hid_intro HM.out.fin
    have HC := hid_intro (fin6_cells HM.out.ptR (.string xn) (.int .i64 (xg)) (.bool (xw)) (.int .i64 (xf)) (.int .i64 (xl)) (.slice (some ⟨w5.heap.size, 0, none⟩) 1 1))
    go_wp2_with fail
    exact bodyPost_ret (v := .agg #[.string xn, .int .i64 (xg), .bool (xw), .int .i64 (xf), .int .i64 (xl), .slice (some ⟨w5.heap.size, 0, none⟩) 1 1]) (res6 _ _ _ _ _ _ _ _ _ rfl HC.out) rfl HF.out
  · clear hv0 hv7
    obtain ⟨o, ho⟩ := o0 2 (by omega)
    have hf := u0 2 (by omega)
    have zz : w4.cell? ⟨w2.heap.size, 2, none⟩ = some (.bool xw) := HM4.out.cells 2 (by omega)
    clear o0 u0 ho
    have HM : Hid (MS ao len cap g w w2.heap.size w.heap.size ⟨xn, xg, !xw, xf, xl, xts⟩ (some ⟨b, 0, none⟩) xts.length (w4.setCell ⟨w2.heap.size, 2, none⟩ (.bool (!xw)))) := hid_intro (HM4.out.set 2 (by omega) _ _ _ _ (fun i hi => by match i, hi with | 0, _ => rfl | 1, _ => rfl | 2, _ => rfl | 3, _ => rfl | 4, _ => rfl | 5, _ => rfl) HM4.out.tis HM4.out.far HM4.out.small)
    have z0 : (w4.setCell ⟨w2.heap.size, 2, none⟩ (.bool (!xw))).cell? ⟨w2.heap.size, 0, none⟩ = some (.string xn) := HM.out.cells 0 (by omega)
    have z1 : (w4.setCell ⟨w2.heap.size, 2, none⟩ (.bool (!xw))).cell? ⟨w2.heap.size, 1, none⟩ = some (.int .i64 (xg)) := HM.out.cells 1 (by omega)
    have z2 : (w4.setCell ⟨w2.heap.size, 2, none⟩ (.bool (!xw))).cell? ⟨w2.heap.size, 2, none⟩ = some (.bool (!xw)) := HM.out.cells 2 (by omega)
    have z3 : (w4.setCell ⟨w2.heap.size, 2, none⟩ (.bool (!xw))).cell? ⟨w2.heap.size, 3, none⟩ = some (.int .i64 (xf)) := HM.out.cells 3 (by omega)
    have z4 : (w4.setCell ⟨w2.heap.size, 2, none⟩ (.bool (!xw))).cell? ⟨w2.heap.size, 4, none⟩ = some (.int .i64 (xl)) := HM.out.cells 4 (by omega)
    have z5 : (w4.setCell ⟨w2.heap.size, 2, none⟩ (.bool (!xw))).cell? ⟨w2.heap.size, 5, none⟩ = some (.slice (some ⟨b, 0, none⟩) xts.length xts.length) := HM.out.cells 5 (by omega)
    have hlB := HM.out.ptB.lt
    have hlR := HM.out.ptR.lt
    obtain ⟨y0, r0⟩ := HM.out.ptR.has 0 (by omega)
    have q0 := HM.out.ptR.free 0 (by omega)
    obtain ⟨y1, r1⟩ := HM.out.ptR.has 1 (by omega)
    have q1 := HM.out.ptR.free 1 (by omega)
    obtain ⟨y2, r2⟩ := HM.out.ptR.has 2 (by omega)
    have q2 := HM.out.ptR.free 2 (by omega)
    obtain ⟨y3, r3⟩ := HM.out.ptR.has 3 (by omega)
    have q3 := HM.out.ptR.free 3 (by omega)
    obtain ⟨y4, r4⟩ := HM.out.ptR.has 4 (by omega)
    have q4 := HM.out.ptR.free 4 (by omega)
    obtain ⟨y5, r5⟩ := HM.out.ptR.has 5 (by omega)
    have q5 := HM.out.ptR.free 5 (by omega)
    have HF := hid_intro HM.out.fin
    have HC := hid_intro (fin6_cells HM.out.ptR (.string xn) (.int .i64 (xg)) (.bool (!xw)) (.int .i64 (xf)) (.int .i64 (xl)) (.slice (some ⟨b, 0, none⟩) xts.length xts.length))
    go_wp2_with fail
    exact bodyPost_ret (v := .agg #[.string xn, .int .i64 (xg), .bool (!xw), .int .i64 (xf), .int .i64 (xl), .slice (some ⟨b, 0, none⟩) xts.length xts.length]) (res6 _ _ _ _ _ _ _ _ _ rfl HC.out) rfl HF.out
end DrawR
end Go.Proofs.YtaedolophhcjjaaDoor
namespace Go.Proofs.YtaedolophhcjjaaDoor
open Go.ChangeShapes Go.WideShapes Go.ChangeAt Go.RowKit
set_option linter.unusedVariables false
namespace CatR
def Blk (b : Nat) (cs : List Value) (w : World) : Prop := b < w.heap.size ∧ ∀ i, i < cs.length → w.cell? ⟨b, i, none⟩ = cs[i]?
theorem Blk.below {b : Nat} {cs : List Value} {w w' : World} (h : Blk b cs w) (hb : Below w.heap.size w w') : Blk b cs w' :=
  ⟨by have := hb.size; have := h.1; omega, fun i hi => (hb.cell (p := ⟨b, i, none⟩) h.1).trans (h.2 i hi)⟩
theorem Blk.new (w : World) (cs : List Value) (T : TypeId) : Blk w.heap.size cs (w.alloc (.cells cs.toArray T)) :=
  ⟨by simp, fun i hi => by simp [go_sem]⟩
theorem Blk.alloc {b : Nat} {cs : List Value} {w : World} (h : Blk b cs w) (o : Obj) : Blk b cs (w.alloc o) := h.below ((Below.refl _ _).alloc (Nat.le_refl _) _)
theorem Blk.drew {b : Nat} {cs : List Value} {w : World} (h : Blk b cs w) : Blk b cs w.drew := h
theorem Blk.drewN {b : Nat} {cs : List Value} {w : World} (h : Blk b cs w) (n : Nat) : Blk b cs (w.drewN n) := h
end CatR
end Go.Proofs.YtaedolophhcjjaaDoor
namespace Go.Proofs.YtaedolophhcjjaaDoor
open Go.ChangeShapes Go.WideShapes Go.ChangeAt Go.RowKit
set_option linter.unusedVariables false
namespace DocR
open RowG
open EvtR (Pt)
open CatR (Blk Blk.new)
/-- A block that may be written. -/
def BlkW (b : Nat) (cs : List Value) (w : World) : Prop := Blk b cs w ∧ ∀ i, i < cs.length → w.frozen? ⟨b, i, none⟩ = false
theorem BlkW.below {b : Nat} {cs : List Value} {w w' : World} (h : BlkW b cs w) (hb : Below w.heap.size w w') : BlkW b cs w' :=
  ⟨h.1.below hb, fun i hi => (hb.frozen (p := ⟨b, i, none⟩) h.1.1).trans (h.2 i hi)⟩
theorem BlkW.new (w : World) (cs : List Value) (T : TypeId) : BlkW w.heap.size cs (w.alloc (.cells cs.toArray T)) :=
  ⟨Blk.new w cs T, fun i hi => by simp [go_sem]⟩
theorem BlkW.set {b : Nat} {cs : List Value} {w : World} (h : BlkW b cs w) (o : Nat) (v : Value) (ho : o < cs.length) : BlkW b (cs.set o v) (w.setCell ⟨b, o, none⟩ v) := by
  obtain ⟨⟨hl, hc⟩, hf⟩ := h
  refine ⟨⟨by simpa using hl, fun i hi => ?_⟩, fun i hi => ?_⟩
  · rw [List.length_set] at hi
    by_cases e : o = i
    · subst e
      have := hc o hi
      rw [List.getElem?_eq_getElem hi] at this
      rw [List.getElem?_set_self ho]
      simp [go_sem, this]
    · rw [List.getElem?_set_ne e, ← hc i hi]
      simp [go_sem]
  · rw [List.length_set] at hi
    have := hf i hi
    simp [go_sem, this]
theorem BlkW.other {b : Nat} {cs : List Value} {w : World} (h : BlkW b cs w) (g o : Nat) (v : Value) (hg : g ≠ b) : BlkW b cs (w.setCell ⟨g, o, none⟩ v) := by
  have e := (grown_set w g o v).block b h.1.1 (by simp; exact fun q => hg q.symm)
  exact ⟨⟨by simpa using h.1.1, fun i hi => (World.cell?_of_block (a := ⟨b, i, none⟩) e).trans (h.1.2 i hi)⟩, fun i hi => (World.frozen?_of_block (a := ⟨b, i, none⟩) e).trans (h.2 i hi)⟩
theorem Rws.put {α : Type} {k : Nat} {cells : α → List Value} {z : α} {ao : Option Addr} {xs : List α} {w : World} (h : Rws k cells z ao xs w) (g o : Nat) (v : Value) (hne : xs.length = 0 ∨ ∀ b off, ao = some ⟨b, off, none⟩ → b ≠ g) : Rws k cells z ao xs (w.setCell ⟨g, o, none⟩ v) :=
  h.grown (grown_set w g o v) (hne.imp id (fun hn b off e q => hn b off e (by simpa using q)))
theorem MadeG.put {α : Type} {k : Nat} {cells : α → List Value} {z : α} {base : Nat} {ao : Option Addr} {xs : List α} {w : World} (h : MadeG k cells z base ao xs w) (g o : Nat) (v : Value) (hne : xs.length = 0 ∨ ∀ b off, ao = some ⟨b, off, none⟩ → b ≠ g) : MadeG k cells z base ao xs (w.setCell ⟨g, o, none⟩ v) := by
  refine ⟨Rws.put h.rws g o v hne, ?_⟩
  rcases h.own with h0 | ⟨b, e1, e2, e3⟩
  · exact .inl h0
  · rcases hne with h0 | hn
    · exact .inl h0
    have e := (grown_set w g o v).block b e3.lt (by simp; exact fun q => hn b 0 e1 q)
    exact .inr ⟨b, e1, e2, by simpa using e3.lt, fun x hx => by obtain ⟨u, hu⟩ := e3.has x hx; exact ⟨u, (World.cell?_of_block (a := ⟨b, x, none⟩) e).trans hu⟩, fun x hx => (World.frozen?_of_block (a := ⟨b, x, none⟩) e).trans (e3.free x hx)⟩
end DocR
end Go.Proofs.YtaedolophhcjjaaDoor
namespace Go.Proofs.YtaedolophhcjjaaDoor
open Go.ChangeShapes Go.WideShapes Go.ChangeAt Go.RowKit
set_option linter.unusedVariables false
namespace StR
open EvtR (Pt cell_put cell_far)
open CatR (Blk)
/-- The cells from a place on are written. -/
def stL (W : World) (p : Nat) : Nat → List Value → World
  | _, [] => W
  | o, v :: vs => stL (W.setCell ⟨p, o, none⟩ v) p (o + 1) vs
theorem gtr {w w1 w2 : World} {g : Option Nat} (h1 : w.grownBy w1 g) (h2 : w1.grownBy w2 g) : w.grownBy w2 g :=
  ⟨h2.os.trans h1.os, h2.tape.trans h1.tape, h2.output.trans h1.output, Nat.le_trans h1.size h2.size, fun k hk hne => (h2.block k (by have := h1.size; omega) hne).trans (h1.block k hk hne)⟩
theorem stL_grown (p : Nat) : ∀ (vs : List Value) (o : Nat) (W : World), W.grownBy (stL W p o vs) (some p)
  | [], _, W => ⟨rfl, rfl, rfl, Nat.le_refl _, fun _ _ _ => rfl⟩
  | v :: vs, o, W => gtr (RowG.grown_set W p o v) (stL_grown p vs (o + 1) _)
theorem stL_pt {p n : Nat} : ∀ (vs : List Value) (o : Nat) (W : World), Pt p n W → Pt p n (stL W p o vs)
  | [], _, _, h => h
  | v :: vs, o, W, h => stL_pt vs (o + 1) _ (h.set o v)
theorem stL_old {p : Nat} : ∀ (vs : List Value) (o : Nat) (W : World) (j : Nat), j < o → (stL W p o vs).cell? ⟨p, j, none⟩ = W.cell? ⟨p, j, none⟩
  | [], _, _, _, _ => rfl
  | v :: vs, o, W, j, hj => (stL_old vs (o + 1) _ j (by omega)).trans (cell_far o j (by omega) v)
theorem stL_cells {p n : Nat} : ∀ (vs : List Value) (o : Nat) (W : World), Pt p n W → o + vs.length ≤ n → ∀ i, i < vs.length → (stL W p o vs).cell? ⟨p, o + i, none⟩ = vs[i]?
  | [], _, _, _, _, i, hi => absurd hi (by simp)
  | v :: vs, o, W, hp, hn, i, hi => by
    simp only [List.length_cons] at hn hi
    cases i with
    | zero =>
      rw [Nat.add_zero]
      exact (stL_old vs (o + 1) _ o (by omega)).trans ((cell_put hp o (by omega) v).trans rfl)
    | succ i =>
      have := stL_cells vs (o + 1) (W.setCell ⟨p, o, none⟩ v) (hp.set o v) (by omega) i (by omega)
      rw [show o + 1 + i = o + (i + 1) by omega] at this
      exact this.trans rfl
theorem stL_blk {p n : Nat} {vs : List Value} {W : World} (hp : Pt p n W) (hn : vs.length ≤ n) : Blk p vs (stL W p 0 vs) :=
  ⟨(stL_pt vs 0 W hp).lt, fun i hi => by have := stL_cells vs 0 W hp (by omega) i hi; rw [Nat.zero_add] at this; exact this⟩
theorem pt_far {p q n : Nat} {W W' : World} (h : Pt p n W) (hg : W.grownBy W' (some q)) (hne : p ≠ q) : Pt p n W' := by
  have e := hg.block p h.lt (by simpa using hne)
  exact ⟨by have := hg.size; have := h.lt; omega, fun o ho => by obtain ⟨v, hv⟩ := h.has o ho; exact ⟨v, (World.cell?_of_block (a := ⟨p, o, none⟩) e).trans hv⟩, fun o ho => (World.frozen?_of_block (a := ⟨p, o, none⟩) e).trans (h.free o ho)⟩
theorem blk_far {p q : Nat} {cs : List Value} {W W' : World} (h : Blk p cs W) (hg : W.grownBy W' (some q)) (hne : p ≠ q) : Blk p cs W' := by
  have e := hg.block p h.1 (by simpa using hne)
  exact ⟨by have := hg.size; have := h.1; omega, fun i hi => (World.cell?_of_block (a := ⟨p, i, none⟩) e).trans (h.2 i hi)⟩
/-- A new block of cells may be written. -/
theorem pt_new (w : World) (cs : List Value) (T : TypeId) : Pt w.heap.size cs.length (w.alloc (.cells cs.toArray T)) :=
  ⟨by simp, fun o ho => ⟨cs[o], by simp [go_sem, ho]⟩, fun o ho => by simp [go_sem]⟩
end StR
end Go.Proofs.YtaedolophhcjjaaDoor
namespace Go.Proofs.YtaedolophhcjjaaDoor
open Go.ChangeShapes Go.WideShapes Go.ChangeAt Go.RowKit
set_option linter.unusedVariables false
namespace OwG
open RowG (MadeG Rws cellsAll)
open EvtR (Pt)
open CatR (Blk Blk.new)
open DocR (BlkW)
theorem gtransO {w w1 w2 : World} {g : Option Nat} (h1 : w.grownBy w1 g) (h2 : w1.grownBy w2 g) : w.grownBy w2 g :=
  ⟨h2.os.trans h1.os, h2.tape.trans h1.tape, h2.output.trans h1.output, Nat.le_trans h1.size h2.size, fun k hk hne => (h2.block k (by have := h1.size; omega) hne).trans (h1.block k hk hne)⟩
theorem rgrownO {w w' : World} (hb : Below w.heap.size w w') (row : Option Nat) : w.grownBy w' row := ⟨hb.os, hb.tape, hb.output, hb.size, fun k hk _ => hb.block k hk⟩
theorem gnewG {w wx wy : World} {g X : Nat} (h : w.grownBy wx (some g)) (hg : wx.grownBy wy (some X)) (hX : w.heap.size ≤ X) : w.grownBy wy (some g) := by
  refine ⟨hg.os.trans h.os, hg.tape.trans h.tape, hg.output.trans h.output, Nat.le_trans h.size hg.size, fun k hk hne => ?_⟩
  have hs := h.size
  exact (hg.block k (by omega) (by intro e; cases e; omega)).trans (h.block k hk hne)
theorem gnewR {w wx wy : World} {g : Nat} {row : Option Nat} (h : w.grownBy wx (some g)) (hg : wx.grownBy wy row) (hX : ∀ X, row = some X → w.heap.size ≤ X) : w.grownBy wy (some g) := by
  refine ⟨hg.os.trans h.os, hg.tape.trans h.tape, hg.output.trans h.output, Nat.le_trans h.size hg.size, fun k hk hne => ?_⟩
  have hs := h.size
  exact (hg.block k (by omega) (by intro e; have := hX k e.symm; omega)).trans (h.block k hk hne)
theorem galloc {w wx : World} {g : Nat} (h : w.grownBy wx (some g)) (o : Obj) : w.grownBy (wx.alloc o) (some g) := gtransO h (World.grownBy_alloc wx o _)
theorem blkW_grown {b : Nat} {cs : List Value} {w w' : World} {row : Option Nat} (h : BlkW b cs w) (hg : w.grownBy w' row) (hne : some b ≠ row) : BlkW b cs w' := by
  have e := hg.block b h.1.1 hne
  exact ⟨⟨Nat.lt_of_lt_of_le h.1.1 hg.size, fun i hi => (World.cell?_of_block (a := ⟨b, i, none⟩) e).trans (h.1.2 i hi)⟩, fun i hi => (World.frozen?_of_block (a := ⟨b, i, none⟩) e).trans (h.2 i hi)⟩
theorem blkW_pt {b n : Nat} {cs : List Value} {w : World} (h : BlkW b cs w) (hn : cs.length = n) : Pt b n w := by
  subst hn
  exact ⟨h.1.1, fun o ho => ⟨cs[o], by rw [h.1.2 o ho]; simp [ho]⟩, h.2⟩
theorem stL_blkW {b : Nat} {cs vs : List Value} {w : World} (h : BlkW b cs w) (hn : cs.length = vs.length) : BlkW b vs (StR.stL w b 0 vs) := by
  have hp := blkW_pt h hn
  exact ⟨StR.stL_blk hp (Nat.le_refl _), fun i hi => (StR.stL_pt vs 0 w hp).free i hi⟩
theorem pt_row {p n : Nat} {W W' : World} {row : Option Nat} (h : Pt p n W) (hg : W.grownBy W' row) (hne : some p ≠ row) : Pt p n W' := by
  have e := hg.block p h.lt hne
  exact ⟨by have := hg.size; have := h.lt; omega, fun o ho => by obtain ⟨v, hv⟩ := h.has o ho; exact ⟨v, (World.cell?_of_block (a := ⟨p, o, none⟩) e).trans hv⟩, fun o ho => (World.frozen?_of_block (a := ⟨p, o, none⟩) e).trans (h.free o ho)⟩
theorem own_keepG {w w' : World} {base e size n : Nat} {v : Value} {xs : List Value} {g : Nat} (h : w.ownsRow base e size v n xs) (hg : w.grownBy w' (some g)) (hlt : g < base) : w'.ownsRow base e size v n xs := by
  refine h.kept hg ?_
  rcases hob : v.ownBlock with _ | b
  · exact .inl rfl
  · refine .inr (fun e => ?_)
    have := (h.lt b hob).1
    simp only [Option.some.injEq] at e
    omega
theorem own_apart {w : World} {base e size n base' e' size' n' : Nat} {v v' : Value} {xs xs' : List Value} (h : w.ownsRow base e size v n xs) (h' : w.ownsRow base' e' size' v' n' xs') (hT : e' ≠ e) : ∀ b, v.ownBlock = some b → some b ≠ v'.ownBlock := by
  intro b hb q
  rcases h.2 with ⟨h0, _⟩ | ⟨g, cap, cur, hv, _, hh, _⟩
  · rw [h0] at hb; simp [Value.ownBlock] at hb
  · rw [hv] at hb
    simp only [Value.ownBlock, Option.some.injEq] at hb
    rcases h'.2 with ⟨h0, _⟩ | ⟨g2, cap2, cur2, hv2, _, hh2, _⟩
    · rw [h0] at q; simp [Value.ownBlock] at q
    · rw [hv2] at q
      simp only [Value.ownBlock, Option.some.injEq] at q
      subst hb
      subst q
      rw [hh2] at hh
      simp at hh
      exact hT hh.2
theorem own_keepO {w w' : World} {base e size n : Nat} {v : Value} {xs : List Value} {row : Option Nat} (h : w.ownsRow base e size v n xs) (hg : w.grownBy w' row) (hne : ∀ b, v.ownBlock = some b → some b ≠ row) : w'.ownsRow base e size v n xs := by
  refine h.kept hg ?_
  rcases hob : v.ownBlock with _ | b
  · exact .inl rfl
  · exact .inr (hne b hob)
theorem own_low {w : World} {base base' e size n : Nat} {v : Value} {xs : List Value} (h : w.ownsRow base e size v n xs) (hb : base' ≤ base) : w.ownsRow base' e size v n xs := by
  refine ⟨h.1, ?_⟩
  rcases h.2 with hn | ⟨g, cap, cur, rfl, h1, rest⟩
  · exact .inl hn
  · exact .inr ⟨g, cap, cur, rfl, by omega, rest⟩
theorem own_form {w : World} {base e size n : Nat} {v : Value} {xs : List Value} (h : w.ownsRow base e size v (n + 1) xs) : ∃ b c, v = .slice (some ⟨b, 0, none⟩) (n + 1) c := by
  rcases h.2 with ⟨_, h0⟩ | ⟨g, cap, cur, hv, _⟩
  · omega
  · exact ⟨_, _, hv⟩
theorem cellsAll_snoc {α : Type} (cells : α → List Value) (l : List α) (x : α) : cellsAll cells (l ++ [x]) = cellsAll cells l ++ cells x := by simp [cellsAll]
theorem stay {P : Nat → Option Nat} (h : ∀ k, P k = none → P (k + 1) = none) {i : Nat} (hi : P i = none) : ∀ n, P (i + n) = none
  | 0 => hi
  | n + 1 => h _ (stay h hi n)
theorem s_nil {s : ByteArray} (h : s.size = 0) : s = ⟨#[]⟩ := by
  apply ByteArray.ext
  exact Array.eq_empty_of_size_eq_zero h
/-- The cells of a new block of cells. -/
theorem new_cells (w : World) (cs : List Value) (T : TypeId) : ∀ j u, cs[j]? = some u → (w.alloc (.cells cs.toArray T)).cell? ((⟨w.heap.size, 0, none⟩ : Addr).add j) = some u := by
  intro j u hj
  have hl := (List.getElem?_eq_some_iff.1 hj).1
  have := (Blk.new w cs T).2 j hl
  rw [hj] at this
  rw [← this]
  congr 1
  unfold Addr.add; split <;> simp_all
end OwG
end Go.Proofs.YtaedolophhcjjaaDoor
namespace Go.Proofs.YtaedolophhcjjaaDoor
open Go.ChangeShapes Go.WideShapes Go.ChangeAt Go.RowKit
open Go.ChangeMaps (open_string shut_string)
namespace NameR
/-- May this byte stand at this place of a name? -/
def okAt (i : Nat) (c : Int) : Bool := decide ((97 ≤ c ∧ c ≤ 122) ∨ (i ≠ 0 ∧ ((48 ≤ c ∧ c ≤ 57) ∨ c = 95)))
def upTo (s : ByteArray) (k : Nat) : Prop := ∀ i (h : i < s.size), i < k → okAt i (s[i].toNat : Int) = true
def upToDec (s : ByteArray) (k : Nat) : Decidable (upTo s k) := inferInstanceAs (Decidable (∀ i (h : i < s.size), i < k → okAt i (s[i].toNat : Int) = true))
def nameB (s : ByteArray) : Bool := @decide (1 ≤ s.size ∧ s.size ≤ 20 ∧ upTo s s.size) (@instDecidableAnd _ _ _ (@instDecidableAnd _ _ _ (upToDec s s.size)))
theorem name_size {s : ByteArray} (h : s.size < 1 ∨ 20 < s.size) : nameB s = false := by
  unfold nameB; simp; intro h1 h2; omega
theorem name_no {s : ByteArray} {k : Nat} (h : k < s.size) (hb : okAt k (s[k].toNat : Int) = false) : nameB s = false := by
  unfold nameB; simp; intro _ _ hu; have := hu k h h; simp [hb] at this
theorem name_yes {s : ByteArray} (h1 : 1 ≤ s.size) (h2 : s.size ≤ 20) (hu : upTo s s.size) : nameB s = true := by
  unfold nameB; simp; exact ⟨h1, h2, hu⟩
theorem upTo_zero (s : ByteArray) : upTo s 0 := fun _ _ h => absurd h (by omega)
theorem upTo_succ {s : ByteArray} {k : Nat} (hu : upTo s k) (h : k < s.size) (hb : okAt k (s[k].toNat : Int) = true) : upTo s (k + 1) := by
  intro i hi hk
  by_cases e : i = k
  · subst e; exact hb
  · exact hu i hi (by omega)

set_option maxHeartbeats 2000000 in
theorem spec_any (s : ByteArray) (w : World) (hs : s.size ≤ 1048576) :
    Calls Tryd.prog 50 #[.string s] w fun e w' => e = .returned (.bool (nameB s)) ∧ w' = w := by
  by_cases h1 : s.size < 1
  · have hn := name_size (s := s) (.inl h1)
    rw [hn]
    go_enter Tryd.func50, Tryd.ntmps50
    go_wp2
    go_ret
    exact ⟨rfl, rfl⟩
  by_cases h2 : 20 < s.size
  · have hn := name_size (s := s) (.inr h2)
    rw [hn]
    go_enter Tryd.func50, Tryd.ntmps50
    go_wp2
    go_ret
    exact ⟨rfl, rfl⟩
  go_enter Tryd.func50, Tryd.ntmps50
  go_wp2
  go_loop [3, 4] (fun i _ => ∃ k : Nat, k ≤ s.size ∧ i = .int .i64 k ∧ upTo s k) (fun i _ => s.size - (intOf i).toNat)
  case atStart => exact ⟨0, Nat.zero_le _, rfl, upTo_zero s⟩
  case round =>
    obtain ⟨k, hk, rfl, hu⟩ := hrel
    by_cases hlt : k < s.size
    · have hno := name_no (s := s) hlt
      have hyes := upTo_succ hu hlt
      have HN : Hid (okAt k (s[k].toNat : Int) = false → nameB s = false) := hno
      have HY : Hid (okAt k (s[k].toNat : Int) = true → upTo s (k + 1)) := hyes
      clear hno hyes hu
      by_cases hk0 : k = 0
      · subst hk0
        rcases (show ((s[0].toNat : Int) < 48) ∨ (48 ≤ (s[0].toNat : Int) ∧ (s[0].toNat : Int) ≤ 57) ∨ (57 < (s[0].toNat : Int) ∧ (s[0].toNat : Int) < 95) ∨ (95 ≤ (s[0].toNat : Int) ∧ (s[0].toNat : Int) ≤ 95) ∨ (95 < (s[0].toNat : Int) ∧ (s[0].toNat : Int) < 97) ∨ (97 ≤ (s[0].toNat : Int) ∧ (s[0].toNat : Int) ≤ 122) ∨ 122 < (s[0].toNat : Int) from by omega) with hc | hc | hc | hc | hc | hc | hc
        all_goals
          (first | have a0 : (97 : Int) ≤ (s[0].toNat : Int) := by omega | have a0 : ¬ (97 : Int) ≤ (s[0].toNat : Int) := by omega)
          (first | have a1 : (s[0].toNat : Int) ≤ 122 := by omega | have a1 : ¬ (s[0].toNat : Int) ≤ 122 := by omega)
          (first | have a2 : (48 : Int) ≤ (s[0].toNat : Int) := by omega | have a2 : ¬ (48 : Int) ≤ (s[0].toNat : Int) := by omega)
          (first | have a3 : (s[0].toNat : Int) ≤ 57 := by omega | have a3 : ¬ (s[0].toNat : Int) ≤ 57 := by omega)
          (first | have a5 : ((s[0].toNat : Int) != 95) = true := by simp; omega | have a5 : ((s[0].toNat : Int) != 95) = false := by simp; omega)
          (first | have a6 : ((s[0].toNat : Int) == 95) = true := by simp; omega | have a6 : ((s[0].toNat : Int) == 95) = false := by simp; omega)
          go_wp2
          first
            | (go_ret; exact ⟨ret_bool (HN.out (by unfold okAt; simp; omega)).symm, rfl⟩)
            | (go_round
               case rel => exact ⟨1, by omega, by go_num, HY.out (by unfold okAt; simp; omega)⟩
               case measure => simp [intOf]; omega)
      · rcases (show ((s[k].toNat : Int) < 48) ∨ (48 ≤ (s[k].toNat : Int) ∧ (s[k].toNat : Int) ≤ 57) ∨ (57 < (s[k].toNat : Int) ∧ (s[k].toNat : Int) < 95) ∨ (95 ≤ (s[k].toNat : Int) ∧ (s[k].toNat : Int) ≤ 95) ∨ (95 < (s[k].toNat : Int) ∧ (s[k].toNat : Int) < 97) ∨ (97 ≤ (s[k].toNat : Int) ∧ (s[k].toNat : Int) ≤ 122) ∨ 122 < (s[k].toNat : Int) from by omega) with hc | hc | hc | hc | hc | hc | hc
        all_goals
          (first | have a0 : (97 : Int) ≤ (s[k].toNat : Int) := by omega | have a0 : ¬ (97 : Int) ≤ (s[k].toNat : Int) := by omega)
          (first | have a1 : (s[k].toNat : Int) ≤ 122 := by omega | have a1 : ¬ (s[k].toNat : Int) ≤ 122 := by omega)
          (first | have a2 : (48 : Int) ≤ (s[k].toNat : Int) := by omega | have a2 : ¬ (48 : Int) ≤ (s[k].toNat : Int) := by omega)
          (first | have a3 : (s[k].toNat : Int) ≤ 57 := by omega | have a3 : ¬ (s[k].toNat : Int) ≤ 57 := by omega)
          (first | have a5 : ((s[k].toNat : Int) != 95) = true := by simp; omega | have a5 : ((s[k].toNat : Int) != 95) = false := by simp; omega)
          (first | have a6 : ((s[k].toNat : Int) == 95) = true := by simp; omega | have a6 : ((s[k].toNat : Int) == 95) = false := by simp; omega)
          have a7 : ((k : Int) == 0) = false := by simp; omega
          go_wp2
          first
            | (go_ret; exact ⟨ret_bool (HN.out (by unfold okAt; simp; omega)).symm, rfl⟩)
            | (go_round
               case rel => exact ⟨k + 1, by omega, by go_num, HY.out (by unfold okAt; simp; omega)⟩
               case measure => simp [intOf]; omega)
    · go_wp2
      go_ret
      have : k = s.size := by omega
      subst this
      exact ⟨ret_bool (name_yes (by omega) (by omega) hu).symm, rfl⟩

set_option maxHeartbeats 2000000 in
theorem impl_any (s : ByteArray) (w : World) (hs : s.size ≤ 1048576) :
    Calls Tryd.prog 47 #[.string s] w fun e w' => e = .returned (.bool (nameB s)) ∧ w' = w := by
  by_cases h1 : s.size < 1
  · have hn := name_size (s := s) (.inl h1)
    rw [hn]
    go_enter Tryd.func47, Tryd.ntmps47
    go_wp2
    go_ret
    exact ⟨rfl, rfl⟩
  by_cases h2 : 20 < s.size
  · have hn := name_size (s := s) (.inr h2)
    rw [hn]
    go_enter Tryd.func47, Tryd.ntmps47
    go_wp2
    go_ret
    exact ⟨rfl, rfl⟩
  go_enter Tryd.func47, Tryd.ntmps47
  go_wp2
  go_loop [3, 4, 5] (fun i _ _ => ∃ k : Nat, k ≤ s.size ∧ i = .int .i64 k ∧ upTo s k) (fun i _ _ => s.size - (intOf i).toNat)
  case atStart => exact ⟨0, Nat.zero_le _, rfl, upTo_zero s⟩
  case round =>
    obtain ⟨k, hk, rfl, hu⟩ := hrel
    by_cases hlt : k < s.size
    · have hno := name_no (s := s) hlt
      have hyes := upTo_succ hu hlt
      have HN : Hid (okAt k (s[k].toNat : Int) = false → nameB s = false) := hno
      have HY : Hid (okAt k (s[k].toNat : Int) = true → upTo s (k + 1)) := hyes
      clear hno hyes hu
      by_cases hk0 : k = 0
      · subst hk0
        rcases (show ((s[0].toNat : Int) < 48) ∨ (48 ≤ (s[0].toNat : Int) ∧ (s[0].toNat : Int) ≤ 57) ∨ (57 < (s[0].toNat : Int) ∧ (s[0].toNat : Int) < 95) ∨ (95 ≤ (s[0].toNat : Int) ∧ (s[0].toNat : Int) ≤ 95) ∨ (95 < (s[0].toNat : Int) ∧ (s[0].toNat : Int) < 97) ∨ (97 ≤ (s[0].toNat : Int) ∧ (s[0].toNat : Int) ≤ 122) ∨ 122 < (s[0].toNat : Int) from by omega) with hc | hc | hc | hc | hc | hc | hc
        all_goals
          (first | have a0 : (97 : Int) ≤ (s[0].toNat : Int) := by omega | have a0 : ¬ (97 : Int) ≤ (s[0].toNat : Int) := by omega)
          (first | have a1 : (s[0].toNat : Int) ≤ 122 := by omega | have a1 : ¬ (s[0].toNat : Int) ≤ 122 := by omega)
          (first | have a2 : (48 : Int) ≤ (s[0].toNat : Int) := by omega | have a2 : ¬ (48 : Int) ≤ (s[0].toNat : Int) := by omega)
          (first | have a3 : (s[0].toNat : Int) ≤ 57 := by omega | have a3 : ¬ (s[0].toNat : Int) ≤ 57 := by omega)
          (first | have a5 : ((s[0].toNat : Int) != 95) = true := by simp; omega | have a5 : ((s[0].toNat : Int) != 95) = false := by simp; omega)
          (first | have a6 : ((s[0].toNat : Int) == 95) = true := by simp; omega | have a6 : ((s[0].toNat : Int) == 95) = false := by simp; omega)
          go_wp2
          first
            | (go_ret; exact ⟨ret_bool (HN.out (by unfold okAt; simp; omega)).symm, rfl⟩)
            | (go_round
               case rel => exact ⟨1, by omega, by go_num, HY.out (by unfold okAt; simp; omega)⟩
               case measure => simp [intOf]; omega)
      · rcases (show ((s[k].toNat : Int) < 48) ∨ (48 ≤ (s[k].toNat : Int) ∧ (s[k].toNat : Int) ≤ 57) ∨ (57 < (s[k].toNat : Int) ∧ (s[k].toNat : Int) < 95) ∨ (95 ≤ (s[k].toNat : Int) ∧ (s[k].toNat : Int) ≤ 95) ∨ (95 < (s[k].toNat : Int) ∧ (s[k].toNat : Int) < 97) ∨ (97 ≤ (s[k].toNat : Int) ∧ (s[k].toNat : Int) ≤ 122) ∨ 122 < (s[k].toNat : Int) from by omega) with hc | hc | hc | hc | hc | hc | hc
        all_goals
          (first | have a0 : (97 : Int) ≤ (s[k].toNat : Int) := by omega | have a0 : ¬ (97 : Int) ≤ (s[k].toNat : Int) := by omega)
          (first | have a1 : (s[k].toNat : Int) ≤ 122 := by omega | have a1 : ¬ (s[k].toNat : Int) ≤ 122 := by omega)
          (first | have a2 : (48 : Int) ≤ (s[k].toNat : Int) := by omega | have a2 : ¬ (48 : Int) ≤ (s[k].toNat : Int) := by omega)
          (first | have a3 : (s[k].toNat : Int) ≤ 57 := by omega | have a3 : ¬ (s[k].toNat : Int) ≤ 57 := by omega)
          (first | have a5 : ((s[k].toNat : Int) != 95) = true := by simp; omega | have a5 : ((s[k].toNat : Int) != 95) = false := by simp; omega)
          (first | have a6 : ((s[k].toNat : Int) == 95) = true := by simp; omega | have a6 : ((s[k].toNat : Int) == 95) = false := by simp; omega)
          have a7 : ((k : Int) == 0) = false := by simp; omega
          go_wp2
          first
            | (go_ret; exact ⟨ret_bool (HN.out (by unfold okAt; simp; omega)).symm, rfl⟩)
            | (go_round
               case rel => exact ⟨k + 1, by omega, by go_num, HY.out (by unfold okAt; simp; omega)⟩
               case measure => simp [intOf]; omega)
    · go_wp2
      go_ret
      have : k = s.size := by omega
      subst this
      exact ⟨ret_bool (name_yes (by omega) (by omega) hu).symm, rfl⟩
end NameR
end Go.Proofs.YtaedolophhcjjaaDoor
namespace Go.Proofs.YtaedolophhcjjaaDoor
open Go.RowKit
set_option linter.unusedVariables false
namespace CatR
def tU (ts : List Ti) (i : Nat) : Int := (ts.getD i Ti.zero).u
def tP (ts : List Ti) (i : Nat) : Int := (ts.getD i Ti.zero).p
/-- The one ahead, 0 ahead of the first. -/
def tA (ts : List Ti) : Nat → Int
  | 0 => 0
  | k + 1 => tU ts k
/-- So many tiers rise from 1 on, with prices that may be. -/
def TOk (ts : List Ti) (k : Nat) : Prop := ∀ i, i < k → tA ts i < tU ts i ∧ 0 ≤ tP ts i ∧ tP ts i ≤ 1000000
def TRight (ts : List Ti) : Prop := 1 ≤ ts.length ∧ ts.length ≤ 5 ∧ TOk ts ts.length ∧ tA ts ts.length = 1000000000000
theorem TOk.zero (ts : List Ti) : TOk ts 0 := fun i h => absurd h (by omega)
theorem TOk.more {ts : List Ti} {k : Nat} (h : TOk ts k) (h1 : tA ts k < tU ts k) (h2 : 0 ≤ tP ts k) (h3 : tP ts k ≤ 1000000) : TOk ts (k + 1) := by
  intro i hi
  by_cases e : i = k
  · subst e; exact ⟨h1, h2, h3⟩
  · exact h i (by omega)
theorem TOk.rise {ts : List Ti} {n : Nat} (h : TOk ts n) : ∀ i, i ≤ n → 0 ≤ tA ts i ∧ ∀ j, j ≤ i → tA ts j ≤ tA ts i
  | 0, _ => ⟨by simp [tA], fun j hj => by obtain rfl : j = 0 := by omega
                                          exact Int.le_refl _⟩
  | i + 1, hi => by
    obtain ⟨a, b⟩ := TOk.rise h i (by omega)
    have c := (h i (by omega)).1
    have d : tA ts (i + 1) = tU ts i := rfl
    refine ⟨by omega, fun j hj => ?_⟩
    by_cases e : j = i + 1
    · subst e; exact Int.le_refl _
    · have := b j (by omega)
      omega
/-- A tier that is beyond the last Upto is not right. -/
theorem TRight.upto {ts : List Ti} (h : TRight ts) (k : Nat) (hk : k < ts.length) : 1 ≤ tU ts k ∧ tU ts k ≤ 1000000000000 := by
  obtain ⟨_, _, h3, h4⟩ := h
  have a := (h3.rise ts.length (Nat.le_refl _)).2 (k + 1) (by omega)
  have b := (h3.rise k (by omega)).1
  have c := (h3 k hk).1
  have d : tA ts (k + 1) = tU ts k := rfl
  omega
/-- A meter that is right. -/
def MRight (m : Me) : Prop := NameR.nameB m.n = true ∧ (1 ≤ m.g ∧ m.g ≤ 4) ∧ (0 ≤ m.f ∧ m.f ≤ 1000000000) ∧ (0 ≤ m.l ∧ m.l ≤ 1000000000000) ∧ TRight m.ts
def TOkDec (ts : List Ti) (k : Nat) : Decidable (TOk ts k) := inferInstanceAs (Decidable (∀ i, i < k → tA ts i < tU ts i ∧ 0 ≤ tP ts i ∧ tP ts i ≤ 1000000))
def TRightDec (ts : List Ti) : Decidable (TRight ts) :=
  haveI := TOkDec ts ts.length
  inferInstanceAs (Decidable (1 ≤ ts.length ∧ ts.length ≤ 5 ∧ TOk ts ts.length ∧ tA ts ts.length = 1000000000000))
def MRightDec (m : Me) : Decidable (MRight m) :=
  haveI := TRightDec m.ts
  inferInstanceAs (Decidable (NameR.nameB m.n = true ∧ (1 ≤ m.g ∧ m.g ≤ 4) ∧ (0 ≤ m.f ∧ m.f ≤ 1000000000) ∧ (0 ≤ m.l ∧ m.l ≤ 1000000000000) ∧ TRight m.ts))
def tB (ts : List Ti) : Bool := @decide (TRight ts) (TRightDec ts)
def mB (m : Me) : Bool := @decide (MRight m) (MRightDec m)
theorem tB_no {ts : List Ti} (h : ¬ TRight ts) : tB ts = false := by unfold tB; exact @decide_eq_false _ (TRightDec ts) h
theorem tB_yes {ts : List Ti} (h : TRight ts) : tB ts = true := by unfold tB; exact @decide_eq_true _ (TRightDec ts) h
theorem tB_false {ts : List Ti} {k : Nat} (hk : k < ts.length) (h : ¬ (tA ts k < tU ts k ∧ 0 ≤ tP ts k ∧ tP ts k ≤ 1000000)) : tB ts = false := tB_no (fun hr => h (hr.2.2.1 k hk))
theorem tB_over {ts : List Ti} {k : Nat} (hk : k < ts.length) (h : ¬ (1 ≤ tU ts k ∧ tU ts k ≤ 1000000000000)) : tB ts = false := tB_no (fun hr => h (hr.upto k hk))
theorem tB_end {ts : List Ti} (h1 : 1 ≤ ts.length) (h5 : ts.length ≤ 5) (h : TOk ts ts.length) : tB ts = decide (tA ts ts.length = 1000000000000) := by
  by_cases e : tA ts ts.length = 1000000000000
  · rw [decide_eq_true e]; exact tB_yes ⟨h1, h5, h, e⟩
  · rw [decide_eq_false e]; exact tB_no (fun hr => e hr.2.2.2)
theorem mB_eq (m : Me) : mB m = (NameR.nameB m.n && decide (1 ≤ m.g ∧ m.g ≤ 4) && decide (0 ≤ m.f ∧ m.f ≤ 1000000000) && decide (0 ≤ m.l ∧ m.l ≤ 1000000000000) && tB m.ts) := by
  unfold mB tB
  rw [Bool.eq_iff_iff]
  simp only [decide_eq_true_eq, Bool.and_eq_true]
  unfold MRight
  constructor
  · rintro ⟨a, b, c, d, e⟩; exact ⟨⟨⟨⟨a, b⟩, c⟩, d⟩, e⟩
  · rintro ⟨⟨⟨⟨a, b⟩, c⟩, d⟩, e⟩; exact ⟨a, b, c, d, e⟩
end CatR
end Go.Proofs.YtaedolophhcjjaaDoor
namespace Go.Proofs.YtaedolophhcjjaaDoor
open Go.ChangeShapes Go.WideShapes Go.ChangeAt Go.RowKit
set_option linter.unusedVariables false
namespace CatR
theorem hid_intro {p : Prop} (h : p) : Hid p := h
theorem within64 (n low high : Int) (w : World) :
    Calls Tryd.prog 48 #[.int .i64 n, .int .i64 low, .int .i64 high] w fun e w' => e = .returned (.bool (decide (low ≤ n ∧ n ≤ high))) ∧ w' = w := by
  rcases (show (¬ low ≤ n) ∨ (low ≤ n ∧ ¬ n ≤ high) ∨ (low ≤ n ∧ n ≤ high) by omega) with h | ⟨h1, h2⟩ | ⟨h1, h2⟩
  all_goals
    go_enter Tryd.func48, Tryd.ntmps48
    go_wp2
    go_ret
    exact ⟨ret_bool (by first | (simp [*]; done) | (simp; omega)), rfl⟩
theorem withinI (n low high : Int) (w : World) :
    Calls Tryd.prog 72 #[.int .i64 n, .int .i64 low, .int .i64 high] w fun e w' => e = .returned (.bool (decide (low ≤ n ∧ n ≤ high))) ∧ w' = w := by
  rcases (show (¬ low ≤ n) ∨ (low ≤ n ∧ ¬ n ≤ high) ∨ (low ≤ n ∧ n ≤ high) by omega) with h | ⟨h1, h2⟩ | ⟨h1, h2⟩
  all_goals
    go_enter Tryd.func72, Tryd.ntmps72
    go_wp2
    go_ret
    exact ⟨ret_bool (by first | (simp [*]; done) | (simp; omega)), rfl⟩
theorem isS (n low high : Int) (w : World) :
    Calls Tryd.prog 51 #[.int .i64 n, .int .i64 low, .int .i64 high] w fun e w' => e = .returned (.bool (decide (low ≤ n ∧ n ≤ high))) ∧ w' = w := by
  rcases (show (¬ low ≤ n) ∨ (low ≤ n ∧ ¬ n ≤ high) ∨ (low ≤ n ∧ n ≤ high) by omega) with h | ⟨h1, h2⟩ | ⟨h1, h2⟩
  all_goals
    go_enter Tryd.func51, Tryd.ntmps51
    go_wp2
    go_ret
    exact ⟨ret_bool (by first | (simp [*]; done) | (simp; omega)), rfl⟩
set_option maxRecDepth 100000 in
set_option maxHeartbeats 4000000 in
theorem impl_tiers (ao : Option Addr) (len cap : Nat) (ts : List Ti) (w : World) (hlen : len ≤ 1048576) (hI : Tis ao len ts w) :
    Calls Tryd.prog 49 #[.slice ao len cap] w fun e w' => e = .returned (.bool (tB ts)) ∧ Below w.heap.size w w' := by
  have hz := hI.1
  have HWI := hid_intro (fun w => withinI len 1 5 w)
  by_cases h15 : 1 ≤ len ∧ len ≤ 5
  · rw [decide_eq_true (by omega)] at HWI
    have HI := hid_intro hI
    have HZ := hid_intro hz
    have HT0 := hid_intro (fun k (hk : k < ts.length) => tB_false (ts := ts) hk)
    have HTE := hid_intro (fun h => tB_end (ts := ts) (by omega) (by omega) h)
    generalize tB ts = R at *
    clear hI hz
    go_enter Tryd.func49, Tryd.ntmps49
    go_wp2_with (go_at_call 72; refine (HWI.out _).mono ?_; rintro e w0 ⟨rfl, rfl⟩)
    go_loopw [3, 12] (fun x z wr => ∃ k : Nat, k ≤ len ∧ x = .int .i64 (tA ts k) ∧ z = .int .i64 k ∧ Hid (TOk ts k) ∧ Hid (Below w0.heap.size w0 wr)) (fun x z _ => len - (intOf z).toNat)
    case atStart => exact ⟨0, by omega, rfl, rfl, hid_intro (TOk.zero ts), hid_intro (Below.refl _ _)⟩
    case round =>
      obtain ⟨k, hk, rfl, rfl, HK, HB⟩ := hrel
      by_cases hlt : k < len
      · have hlt2 : (k : Int) < (len : Int) := by omega
        obtain ⟨b, off, rfl, hbl, d0, d1⟩ := tis_at (HI.out.below HB.out) k hlt
        have c0 : wr.cell? ⟨b, off + k * 2, none⟩ = some (.int .i64 (tU ts k)) := d0
        have c1 : wr.cell? ⟨b, off + k * 2 + 1, none⟩ = some (.int .i64 (tP ts k)) := d1
        clear d0 d1
        have HT := hid_intro (HT0.out k (by have := HZ.out; omega))
        have HM := hid_intro (fun h1 h2 h3 => HK.out.more (k := k) h1 h2 h3)
        have HU : Hid (tA ts (k + 1) = tU ts k) := rfl
        have HW2 := hid_intro (fun w => within64 (tP ts k) 0 1000000 w)
        generalize tA ts k = A at *
        generalize tU ts k = U at *
        generalize tP ts k = P at *
        have HAl := hid_intro (fun o => HB.out.alloc HB.out.size o)
        rcases (show (U ≤ A) ∨ (¬ U ≤ A ∧ ¬ (0 ≤ P ∧ P ≤ 1000000)) ∨ (¬ U ≤ A ∧ (0 ≤ P ∧ P ≤ 1000000)) by omega) with q | ⟨q, q2⟩ | ⟨q, q2⟩
        · have HR : Hid (R = false) := hid_intro (HT.out (by omega))
          go_wp2_with fail
          go_ret
          exact ⟨ret_bool HR.out.symm, HAl.out _⟩
        · have HR : Hid (R = false) := hid_intro (HT.out (fun h => q2 h.2))
          rw [decide_eq_false q2] at HW2
          go_wp2_with (go_at_call 48; refine (HW2.out _).mono ?_; rintro e w' ⟨rfl, rfl⟩)
          go_ret
          exact ⟨ret_bool HR.out.symm, HAl.out _⟩
        · have HM2 := hid_intro (HM.out (by omega) q2.1 q2.2)
          rw [decide_eq_true q2] at HW2
          go_wp2_with (go_at_call 48; refine (HW2.out _).mono ?_; rintro e w' ⟨rfl, rfl⟩)
          go_roundw
          case rel => exact ⟨k + 1, by omega, by rw [HU.out], by go_num, HM2, hid_intro (HAl.out _)⟩
          case measure => simp [intOf]; omega
      · obtain rfl : k = len := by omega
        have HR : Hid (R = decide (tA ts k = 1000000000000)) := hid_intro (by have h := HTE.out; rw [HZ.out] at h; exact h HK.out)
        generalize tA ts k = A at *
        by_cases q : A = 1000000000000
        · rw [decide_eq_true q] at HR
          go_wp2_with fail
          go_ret
          exact ⟨ret_bool (by rw [HR.out]; try simp [q]), HB.out⟩
        · rw [decide_eq_false q] at HR
          go_wp2_with fail
          go_ret
          exact ⟨ret_bool (by rw [HR.out]; try simp [q]), HB.out⟩
  · rw [decide_eq_false (by omega)] at HWI
    have HR : Hid (tB ts = false) := hid_intro (tB_no (fun h => by have := h.1; have := h.2.1; omega))
    clear hI hz
    go_enter Tryd.func49, Tryd.ntmps49
    go_wp2_with (go_at_call 72; refine (HWI.out _).mono ?_; rintro e w0 ⟨rfl, rfl⟩)
    go_ret
    exact ⟨ret_bool HR.out.symm, Below.refl _ _⟩
end CatR
end Go.Proofs.YtaedolophhcjjaaDoor
namespace Go.Proofs.YtaedolophhcjjaaDoor
open Go.ChangeShapes Go.WideShapes Go.ChangeAt Go.RowKit
set_option linter.unusedVariables false
namespace CatR
theorem bdrewN {B : Nat} {a w : World} (h : Below B a w) (n : Nat) : Below B a (w.drewN n) := ⟨h.os, h.tape, h.output, h.size, h.block⟩
set_option maxRecDepth 100000 in
set_option maxHeartbeats 4000000 in
theorem spec_tiers (ao : Option Addr) (len cap : Nat) (ts : List Ti) (w : World) (hlen : len ≤ 1048576) (hI : Tis ao len ts w) :
    Calls Tryd.prog 52 #[.slice ao len cap] w fun e w' => e = .returned (.bool (tB ts)) ∧ Below w.heap.size w w' := by
  have hz := hI.1
  by_cases h15 : 1 ≤ len ∧ len ≤ 5
  · obtain ⟨h1, h5⟩ := h15
    have g1 : ¬ (len : Int) < 1 := by omega
    have g5 : ¬ (5 : Int) < (len : Int) := by omega
    have HI := hid_intro hI
    have HZ := hid_intro hz
    have HT0 := hid_intro (fun k (hk : k < ts.length) => tB_false (ts := ts) hk)
    have HT1 := hid_intro (fun k (hk : k < ts.length) => tB_over (ts := ts) hk)
    have HTE := hid_intro (fun h => tB_end (ts := ts) (by omega) (by omega) h)
    generalize tB ts = R at *
    clear hI hz
    go_enter Tryd.func52, Tryd.ntmps52
    go_wp2_with fail
    go_loopw [4] (fun z wr => ∃ k : Nat, k ≤ len ∧ z = .int .i64 k ∧ Hid (TOk ts k) ∧ Hid (Below w.heap.size w wr)) (fun z _ => len - (intOf z).toNat)
    case atStart => exact ⟨0, by omega, rfl, hid_intro (TOk.zero ts), hid_intro (Below.refl _ _)⟩
    case round =>
      obtain ⟨k, hk, rfl, HK, HB⟩ := hrel
      by_cases hlt : k < len
      · have hlt2 : (k : Int) < (len : Int) := by omega
        obtain ⟨b, off, rfl, hbl, d0, d1⟩ := tis_at (HI.out.below HB.out) k hlt
        have c0 : wr.cell? ⟨b, off + k * 2, none⟩ = some (.int .i64 (tU ts k)) := d0
        have c1 : wr.cell? ⟨b, off + k * 2 + 1, none⟩ = some (.int .i64 (tP ts k)) := d1
        clear d0 d1
        have HT := hid_intro (HT0.out k (by have := HZ.out; omega))
        have HO := hid_intro (HT1.out k (by have := HZ.out; omega))
        have HM := hid_intro (fun h1 h2 h3 => HK.out.more (k := k) h1 h2 h3)
        have HA1 := hid_intro (HK.out.rise k (Nat.le_refl _)).1
        rcases (show k = 0 ∨ ∃ j, k = j + 1 from by rcases k with _ | j; exact .inl rfl; exact .inr ⟨j, rfl⟩) with rfl | ⟨j, hkj⟩
        · have HA : Hid (tA ts 0 = 0) := rfl
          simp only [Nat.zero_mul, Nat.add_zero] at c0 c1
          have HW1 := hid_intro (fun w => isS (tU ts 0) 1 1000000000000 w)
          have HW2 := hid_intro (fun w => isS (tP ts 0) 0 1000000 w)
          generalize tA ts 0 = A at *
          generalize tU ts 0 = U at *
          generalize tP ts 0 = P at *
          rcases (show (¬ (1 ≤ U ∧ U ≤ 1000000000000)) ∨ ((1 ≤ U ∧ U ≤ 1000000000000) ∧ ¬ (0 ≤ P ∧ P ≤ 1000000)) ∨ ((1 ≤ U ∧ U ≤ 1000000000000) ∧ (0 ≤ P ∧ P ≤ 1000000)) by omega) with q | ⟨q, q2⟩ | ⟨q, q2⟩
          · have HR : Hid (R = false) := hid_intro (HO.out q)
            rw [decide_eq_false q] at HW1
            go_wp2_with fail
            go_quiet ((first | (go_at_call_of 51 (Value.int .i64 U); exact Calls.quiet_of_same (HW1.out _)) | (go_at_call_of 51 (Value.int .i64 P); exact Calls.quiet_of_same (HW2.out _))))
            go_wp2_with fail
            go_ret
            exact ⟨ret_bool HR.out.symm, bdrewN HB.out _⟩
          · have HR : Hid (R = false) := hid_intro (HT.out (fun h => q2 h.2))
            rw [decide_eq_false q2] at HW2
            rw [decide_eq_true q] at HW1
            go_wp2_with fail
            go_quiet ((first | (go_at_call_of 51 (Value.int .i64 U); exact Calls.quiet_of_same (HW1.out _)) | (go_at_call_of 51 (Value.int .i64 P); exact Calls.quiet_of_same (HW2.out _))))
            go_wp2_with fail
            go_ret
            exact ⟨ret_bool HR.out.symm, bdrewN HB.out _⟩
          · have HM2 := hid_intro (HM.out (by have := HA.out; omega) q2.1 q2.2)
            rw [decide_eq_true q2] at HW2
            rw [decide_eq_true q] at HW1
            go_wp2_with fail
            go_quiet ((first | (go_at_call_of 51 (Value.int .i64 U); exact Calls.quiet_of_same (HW1.out _)) | (go_at_call_of 51 (Value.int .i64 P); exact Calls.quiet_of_same (HW2.out _))))
            go_wp2_with fail
            go_roundw
            case rel => exact ⟨0 + 1, by omega, by go_num, HM2, hid_intro (bdrewN HB.out _)⟩
            case measure => simp [intOf]; omega
        · obtain ⟨b', off', hbo, hbl', d0, d1⟩ := tis_at (HI.out.below HB.out) j (by omega)
          obtain ⟨rfl, rfl⟩ : b = b' ∧ off = off' := by simpa using hbo
          have c2 : wr.cell? ⟨b, off + j * 2, none⟩ = some (.int .i64 (tU ts j)) := d0
          clear d0 d1 hbl' hbo
          have HA : Hid (tA ts k = tU ts j) := hid_intro (by rw [hkj]; rfl)
          have HW1 := hid_intro (fun w => isS (tU ts k) 1 1000000000000 w)
          have HW2 := hid_intro (fun w => isS (tP ts k) 0 1000000 w)
          generalize tA ts k = A at *
          generalize tU ts k = U at *
          generalize tU ts j = V at *
          generalize tP ts k = P at *
          have hj1 : IntKind.i64.wrap ((k : Int) - 1) = (j : Int) := by rw [IntKind.wrap_i64]; omega
          have hj2 : 0 < k := by omega
          have hj3 : (j : Int) < (len : Int) := by omega
          clear hkj
          rcases (show (¬ (1 ≤ U ∧ U ≤ 1000000000000)) ∨ ((1 ≤ U ∧ U ≤ 1000000000000) ∧ U ≤ V) ∨ ((1 ≤ U ∧ U ≤ 1000000000000) ∧ ¬ U ≤ V ∧ ¬ (0 ≤ P ∧ P ≤ 1000000)) ∨ ((1 ≤ U ∧ U ≤ 1000000000000) ∧ ¬ U ≤ V ∧ (0 ≤ P ∧ P ≤ 1000000)) by omega) with q | ⟨q, q1⟩ | ⟨q, q1, q2⟩ | ⟨q, q1, q2⟩
          · have HR : Hid (R = false) := hid_intro (HO.out q)
            rw [decide_eq_false q] at HW1
            go_wp2_with fail
            go_quiet ((first | (go_at_call_of 51 (Value.int .i64 U); exact Calls.quiet_of_same (HW1.out _)) | (go_at_call_of 51 (Value.int .i64 P); exact Calls.quiet_of_same (HW2.out _))))
            go_wp2_with fail
            go_ret
            exact ⟨ret_bool HR.out.symm, bdrewN HB.out _⟩
          · have HR : Hid (R = false) := hid_intro (HT.out (fun h => by have := h.1; have := HA.out; omega))
            rw [decide_eq_true q] at HW1
            go_wp2_with fail
            go_quiet ((first | (go_at_call_of 51 (Value.int .i64 U); exact Calls.quiet_of_same (HW1.out _)) | (go_at_call_of 51 (Value.int .i64 P); exact Calls.quiet_of_same (HW2.out _))))
            go_wp2_with fail
            go_ret
            exact ⟨ret_bool HR.out.symm, bdrewN HB.out _⟩
          · have HR : Hid (R = false) := hid_intro (HT.out (fun h => q2 h.2))
            rw [decide_eq_false q2] at HW2
            rw [decide_eq_true q] at HW1
            go_wp2_with fail
            go_quiet ((first | (go_at_call_of 51 (Value.int .i64 U); exact Calls.quiet_of_same (HW1.out _)) | (go_at_call_of 51 (Value.int .i64 P); exact Calls.quiet_of_same (HW2.out _))))
            go_wp2_with fail
            go_ret
            exact ⟨ret_bool HR.out.symm, bdrewN HB.out _⟩
          · have HM2 := hid_intro (HM.out (by have := HA.out; omega) q2.1 q2.2)
            rw [decide_eq_true q2] at HW2
            rw [decide_eq_true q] at HW1
            go_wp2_with fail
            go_quiet ((first | (go_at_call_of 51 (Value.int .i64 U); exact Calls.quiet_of_same (HW1.out _)) | (go_at_call_of 51 (Value.int .i64 P); exact Calls.quiet_of_same (HW2.out _))))
            go_wp2_with fail
            go_roundw
            case rel => exact ⟨k + 1, by omega, by go_num, HM2, hid_intro (bdrewN HB.out _)⟩
            case measure => simp [intOf]; omega
      · obtain rfl : k = len := by omega
        have HR : Hid (R = decide (tA ts k = 1000000000000)) := hid_intro (by have h := HTE.out; rw [HZ.out] at h; exact h HK.out)
        obtain ⟨j, hkj⟩ : ∃ j, k = j + 1 := ⟨k - 1, by omega⟩
        obtain ⟨b, off, rfl, hbl, d0, d1⟩ := tis_at (HI.out.below HB.out) j (by omega)
        have c2 : wr.cell? ⟨b, off + j * 2, none⟩ = some (.int .i64 (tA ts k)) := by rw [hkj]; exact d0
        clear d0 d1
        have hj1 : (k : Int) - 1 = (j : Int) := by omega
        have hj3 : (j : Int) < (k : Int) := by omega
        clear hkj
        generalize tA ts k = A at *
        by_cases q : A = 1000000000000
        · rw [decide_eq_true q] at HR
          go_wp2_with fail
          try go_quiet (fail)
          try go_wp2_with fail
          go_ret
          exact ⟨ret_bool (by rw [HR.out]; try simp [q]), by first | exact HB.out | exact bdrewN HB.out _⟩
        · rw [decide_eq_false q] at HR
          go_wp2_with fail
          try go_quiet (fail)
          try go_wp2_with fail
          go_ret
          exact ⟨ret_bool (by rw [HR.out]; try simp [q]), by first | exact HB.out | exact bdrewN HB.out _⟩
  · have HR : Hid (tB ts = false) := hid_intro (tB_no (fun h => by have := h.1; have := h.2.1; omega))
    have g : (len : Int) < 1 ∨ (¬ (len : Int) < 1 ∧ (5 : Int) < (len : Int)) := by omega
    clear hI hz
    rcases g with g | ⟨g, g2⟩
    all_goals
      go_enter Tryd.func52, Tryd.ntmps52
      go_wp2_with fail
      go_ret
      exact ⟨ret_bool HR.out.symm, Below.refl _ _⟩
end CatR
end Go.Proofs.YtaedolophhcjjaaDoor
namespace Go.Proofs.YtaedolophhcjjaaDoor
open Go.ChangeShapes Go.WideShapes Go.ChangeAt Go.RowKit
set_option linter.unusedVariables false
namespace CatR
open EvtR (Pt cell_put cell_far)
theorem infoT : (Tryd.prog.info? 72).map (fun i => (i.zero, i.size, i.bytes)) = some (some (.agg #[.int .i64 0, .int .i64 0]), 2, 16) := by kernel_rfl
theorem pt_row {w : World} {g m : Nat} {cs : List Value} {T : TypeId} (hh : w.heap[g]? = some (.cells cs.toArray T (0, 0))) (hl : cs.length = m) : Pt g m w where
  lt := (Array.getElem?_eq_some_iff.1 hh).1
  has := fun o ho => ⟨cs[o]'(by omega), by simp [World.cell?, hh, hl, ho]⟩
  free := fun o ho => by simp [World.frozen?, hh]
theorem row_full {w : World} {base e g n s : Nat} {xs : List Value} (h : w.ownsRow base e s (.slice (some ⟨g, 0, none⟩) n n) n xs) : Pt g (n * s) w := by
  rcases h.2 with ⟨h1, _⟩ | ⟨g', cap, cur, h1, _, hg, _, _, hs, _⟩
  · simp at h1
  · simp at h1
    obtain ⟨rfl, rfl⟩ := h1
    exact pt_row (cs := cur.toList) (by simpa using hg) (by simpa using hs)
theorem tis_set {w wr : World} {g n k : Nat} {ts : List Ti} (hp : Pt g (n * 2) wr) (hk : k < n) (ha : ∀ i, i < k → TiAt wr g (i * 2) (ts.getD i Ti.zero)) :
    Pt g (n * 2) ((wr.setCell ⟨g, k * 2, none⟩ (.int .i64 (ts.getD k Ti.zero).u)).setCell ⟨g, k * 2 + 1, none⟩ (.int .i64 (ts.getD k Ti.zero).p)) ∧ ∀ i, i < k + 1 → TiAt ((wr.setCell ⟨g, k * 2, none⟩ (.int .i64 (ts.getD k Ti.zero).u)).setCell ⟨g, k * 2 + 1, none⟩ (.int .i64 (ts.getD k Ti.zero).p)) g (i * 2) (ts.getD i Ti.zero) := by
  refine ⟨(hp.set _ _).set _ _, fun i hi => ?_⟩
  by_cases e : i = k
  · subst e
    exact ⟨(cell_far _ _ (by omega) _).trans (cell_put hp _ (by omega) _), cell_put (hp.set _ _) _ (by omega) _⟩
  · have h := ha i (by omega)
    exact ⟨((cell_far _ _ (by omega) _).trans (cell_far _ _ (by omega) _)).trans h.1, ((cell_far _ _ (by omega) _).trans (cell_far _ _ (by omega) _)).trans h.2⟩
end CatR
end Go.Proofs.YtaedolophhcjjaaDoor
namespace Go.Proofs.YtaedolophhcjjaaDoor
open Go.ChangeShapes Go.WideShapes Go.ChangeAt Go.RowKit
set_option linter.unusedVariables false
namespace CatR
open EvtR (Pt cell_put cell_far)
/-- How many letters and tiers a meter holds. -/
def szM (m : Me) : Int := m.n.size + m.ts.length
theorem far_block (w : World) (b o : Nat) (v : Value) (k : Nat) (hk : b ≠ k) : (w.setCell ⟨b, o, none⟩ v).heap[k]? = w.heap[k]? := by
  simp only [World.setCell]
  rw [Array.getElem?_modify, if_neg hk]
theorem _root_.Go.Proofs.YtaedolophhcjjaaDoor.EvtR.Pt.far {g m : Nat} {w : World} (h : Pt g m w) {b : Nat} (hb : b ≠ g) (o : Nat) (v : Value) : Pt g m (w.setCell ⟨b, o, none⟩ v) := by
  have e := far_block w b o v g hb
  exact ⟨by simpa using h.lt, fun x hx => by obtain ⟨u, hu⟩ := h.has x hx; exact ⟨u, (World.cell?_of_block (a := ⟨g, x, none⟩) e).trans hu⟩, fun x hx => (World.frozen?_of_block (a := ⟨g, x, none⟩) e).trans (h.free x hx)⟩
theorem Tis.far {b0 off len : Nat} {ts : List Ti} {w : World} (h : Tis (some ⟨b0, off, none⟩) len ts w) {b : Nat} (hb : b ≠ b0) (o : Nat) (v : Value) : Tis (some ⟨b0, off, none⟩) len ts (w.setCell ⟨b, o, none⟩ v) := by
  refine ⟨h.1, ?_⟩
  rcases h.2 with h0 | ⟨b1, off1, e, hlt, hc⟩
  · exact .inl h0
  · obtain ⟨rfl, rfl⟩ : b0 = b1 ∧ off = off1 := by simpa using e
    have e := far_block w b o v b0 hb
    exact .inr ⟨b0, off, rfl, by simpa using hlt, fun j hj => ⟨(World.cell?_of_block (a := ⟨b0, _, none⟩) e).trans (hc j hj).1, (World.cell?_of_block (a := ⟨b0, _, none⟩) e).trans (hc j hj).2⟩⟩
/-- A meter that was just copied: its tiers stand behind the block. -/
def NewMe (base : Nat) (v : Value) (m : Me) (w : World) : Prop := ∃ b, base ≤ b ∧ v = .agg #[.string m.n, .int .i64 m.g, .bool m.wh, .int .i64 m.f, .int .i64 m.l, .slice (some ⟨b, 0, none⟩) m.ts.length m.ts.length] ∧ Tis (some ⟨b, 0, none⟩) m.ts.length m.ts w ∧ Pt b (m.ts.length * 2) w
theorem NewMe.is {base : Nat} {v : Value} {m : Me} {w : World} (h : NewMe base v m w) : IsMe v m w := by
  obtain ⟨b, _, h1, h2, _⟩ := h
  exact ⟨_, _, h1, h2⟩
end CatR
end Go.Proofs.YtaedolophhcjjaaDoor
namespace Go.Proofs.YtaedolophhcjjaaDoor
open Go.ChangeShapes Go.WideShapes Go.ChangeAt Go.RowKit
set_option linter.unusedVariables false
namespace CatR
open EvtR (Pt cell_put cell_far)
def Me.Small (m : Me) : Prop := m.n.size ≤ 1048576 ∧ m.ts.length ≤ 1048576
def Me.In (m : Me) : Prop := m.n.size ≤ maxLen ∧ m.ts.length ≤ maxLen
/-- What is told of a size: less than none, or what is left, and that all is small. -/
def SzOut (left : Int) (P : Prop) (e : Ending) : Prop := ∃ L : Int, e = .returned (.int .i64 L) ∧ (L = -1 ∨ (0 ≤ L ∧ L ≤ left ∧ P))
theorem small_more {ms : List Me} {k : Nat} (h : ∀ i, i < k → (ms.getD i Me.zero).Small) (hk : (ms.getD k Me.zero).Small) : ∀ i, i < k + 1 → (ms.getD i Me.zero).Small := fun i hi => by
  by_cases e : i = k
  · subst e; exact hk
  · exact h i (by omega)
/-- A meter's cells and its tiers, of a copy. -/
def MeC (w : World) (g o b : Nat) (m : Me) : Prop := (w.cell? ⟨g, o, none⟩ = some (.string m.n) ∧ w.cell? ⟨g, o + 1, none⟩ = some (.int .i64 m.g) ∧ w.cell? ⟨g, o + 2, none⟩ = some (.bool m.wh) ∧ w.cell? ⟨g, o + 3, none⟩ = some (.int .i64 m.f) ∧ w.cell? ⟨g, o + 4, none⟩ = some (.int .i64 m.l) ∧ w.cell? ⟨g, o + 5, none⟩ = some (.slice (some ⟨b, 0, none⟩) m.ts.length m.ts.length)) ∧ Tis (some ⟨b, 0, none⟩) m.ts.length m.ts w ∧ Pt b (m.ts.length * 2) w
theorem MeC.below {w w' : World} {g o b : Nat} {m : Me} (h : MeC w g o b m) (hl : g < w.heap.size) (hb : Below w.heap.size w w') : MeC w' g o b m := by
  obtain ⟨⟨h0, h1, h2, h3, h4, h5⟩, h6, h7⟩ := h
  have f := fun k => hb.cell (p := ⟨g, k, none⟩) hl
  exact ⟨⟨(f _).trans h0, (f _).trans h1, (f _).trans h2, (f _).trans h3, (f _).trans h4, (f _).trans h5⟩, h6.below hb, h7.below hb⟩
theorem MeC.is {w : World} {g o b : Nat} {m : Me} (h : MeC w g o b m) : MeAt w g o m := by
  obtain ⟨⟨h0, h1, h2, h3, h4, h5⟩, h6, h7⟩ := h
  exact ⟨_, _, h0, h1, h2, h3, h4, h5, h6⟩
/-- A list of meters that a copy has made, so far. -/
structure NewMes (base g : Nat) (bs : Nat → Nat) (n k : Nat) (ms : List Me) (w : World) : Prop where
  lo : base ≤ g
  pt : Pt g (n * 6) w
  inc : ∀ i, i < k → g < bs i ∧ ∀ j, j < i → bs j < bs i
  cel : ∀ i, i < k → MeC w g (i * 6) (bs i) (ms.getD i Me.zero)
theorem NewMes.below {base g : Nat} {bs : Nat → Nat} {n k : Nat} {ms : List Me} {w w' : World} (h : NewMes base g bs n k ms w) (hb : Below w.heap.size w w') : NewMes base g bs n k ms w' :=
  ⟨h.lo, h.pt.below hb, h.inc, fun i hi => (h.cel i hi).below h.pt.lt hb⟩
theorem NewMes.is {base g : Nat} {bs : Nat → Nat} {n : Nat} {ms : List Me} {w : World} (h : NewMes base g bs n n ms w) (hz : ms.length = n) : Mes (some ⟨g, 0, none⟩) n ms w :=
  ⟨hz, .inr ⟨g, 0, rfl, h.pt.lt, fun j hj => by rw [Nat.zero_add]; exact (h.cel j hj).is⟩⟩
/-- Six cells written. -/
def setM (wr : World) (g o : Nat) (m : Me) (b : Nat) : World := (((((wr.setCell ⟨g, o, none⟩ (.string m.n)).setCell ⟨g, o + 1, none⟩ (.int .i64 m.g)).setCell ⟨g, o + 2, none⟩ (.bool m.wh)).setCell ⟨g, o + 3, none⟩ (.int .i64 m.f)).setCell ⟨g, o + 4, none⟩ (.int .i64 m.l)).setCell ⟨g, o + 5, none⟩ (.slice (some ⟨b, 0, none⟩) m.ts.length m.ts.length)
theorem setM_pt {wr : World} {g o b m0 : Nat} {m : Me} (h : Pt g m0 wr) : Pt g m0 (setM wr g o m b) := (((((h.set _ _).set _ _).set _ _).set _ _).set _ _).set _ _
theorem setM_far {wr : World} {g o b : Nat} {m : Me} (x : Nat) (hx : x < o ∨ o + 6 ≤ x) : (setM wr g o m b).cell? ⟨g, x, none⟩ = wr.cell? ⟨g, x, none⟩ := by
  unfold setM
  rw [cell_far _ _ (by omega), cell_far _ _ (by omega), cell_far _ _ (by omega), cell_far _ _ (by omega), cell_far _ _ (by omega), cell_far _ _ (by omega)]
theorem setM_tis {wr : World} {g o b c len : Nat} {m : Me} {ts : List Ti} (h : Tis (some ⟨c, 0, none⟩) len ts wr) (hc : g ≠ c) : Tis (some ⟨c, 0, none⟩) len ts (setM wr g o m b) := (((((h.far hc _ _).far hc _ _).far hc _ _).far hc _ _).far hc _ _).far hc _ _
theorem setM_ptf {wr : World} {g o b c m0 : Nat} {m : Me} (h : Pt c m0 wr) (hc : g ≠ c) : Pt c m0 (setM wr g o m b) := (((((h.far hc _ _).far hc _ _).far hc _ _).far hc _ _).far hc _ _).far hc _ _
theorem setM_at {wr : World} {g o b m0 : Nat} {m : Me} (h : Pt g m0 wr) (ho : o + 6 ≤ m0) (hT : Tis (some ⟨b, 0, none⟩) m.ts.length m.ts wr) (hP : Pt b (m.ts.length * 2) wr) (hb : g ≠ b) : MeC (setM wr g o m b) g o b m := by
  refine ⟨⟨?_, ?_, ?_, ?_, ?_, ?_⟩, setM_tis hT hb, setM_ptf hP hb⟩
  · unfold setM
    rw [cell_far _ _ (by omega), cell_far _ _ (by omega), cell_far _ _ (by omega), cell_far _ _ (by omega), cell_far _ _ (by omega), cell_put h _ (by omega)]
  · unfold setM
    rw [cell_far _ _ (by omega), cell_far _ _ (by omega), cell_far _ _ (by omega), cell_far _ _ (by omega), cell_put (h.set _ _) _ (by omega)]
  · unfold setM
    rw [cell_far _ _ (by omega), cell_far _ _ (by omega), cell_far _ _ (by omega), cell_put ((h.set _ _).set _ _) _ (by omega)]
  · unfold setM
    rw [cell_far _ _ (by omega), cell_far _ _ (by omega), cell_put (((h.set _ _).set _ _).set _ _) _ (by omega)]
  · unfold setM
    rw [cell_far _ _ (by omega), cell_put ((((h.set _ _).set _ _).set _ _).set _ _) _ (by omega)]
  · unfold setM
    rw [cell_put (((((h.set _ _).set _ _).set _ _).set _ _).set _ _) _ (by omega)]
theorem MeC.setM {wr : World} {g o b x c : Nat} {m m' : Me} (h : MeC wr g x c m') (hx : x + 6 ≤ o) (hc : g ≠ c) : MeC (setM wr g o m b) g x c m' := by
  obtain ⟨⟨h0, h1, h2, h3, h4, h5⟩, h6, h7⟩ := h
  have f := fun y (hy : y < o) => setM_far (wr := wr) (g := g) (o := o) (b := b) (m := m) y (.inl hy)
  exact ⟨⟨(f _ (by omega)).trans h0, (f _ (by omega)).trans h1, (f _ (by omega)).trans h2, (f _ (by omega)).trans h3, (f _ (by omega)).trans h4, (f _ (by omega)).trans h5⟩, setM_tis h6 hc, setM_ptf h7 hc⟩
theorem NewMes.step {base g : Nat} {bs : Nat → Nat} {n k : Nat} {ms : List Me} {w w1 : World} (h : NewMes base g bs n k ms w) (hbl : Below w.heap.size w w1) (hk : k < n) {b : Nat} (hb : w.heap.size ≤ b) (hlt : ∀ i, i < k → bs i < w.heap.size) (hT : Tis (some ⟨b, 0, none⟩) (ms.getD k Me.zero).ts.length (ms.getD k Me.zero).ts w1) (hP : Pt b ((ms.getD k Me.zero).ts.length * 2) w1) :
    NewMes base g (fun i => if i = k then b else bs i) n (k + 1) ms (setM w1 g (k * 6) (ms.getD k Me.zero) b) := by
  have h1 := h.below hbl
  have hg := h.pt.lt
  refine ⟨h.lo, setM_pt h1.pt, fun i hi => ?_, fun i hi => ?_⟩
  · by_cases e : i = k
    · subst e
      rw [if_pos rfl]
      refine ⟨by omega, fun j hj => ?_⟩
      rw [if_neg (by omega)]
      have := hlt j hj
      omega
    · rw [if_neg e]
      refine ⟨(h.inc i (by omega)).1, fun j hj => ?_⟩
      rw [if_neg (by omega)]
      exact (h.inc i (by omega)).2 j hj
  · by_cases e : i = k
    · subst e
      rw [if_pos rfl]
      exact setM_at h1.pt (by omega) hT hP (by omega)
    · rw [if_neg e]
      exact (h1.cel i (by omega)).setM (by omega) (by have := (h.inc i (by omega)).1; omega)
theorem NewMes.blocks {base g : Nat} {bs : Nat → Nat} {n k : Nat} {ms : List Me} {w : World} (h : NewMes base g bs n k ms w) : ∀ i, i < k → bs i < w.heap.size := fun i hi => (h.cel i hi).2.2.lt
end CatR
end Go.Proofs.YtaedolophhcjjaaDoor
namespace Go.Proofs.YtaedolophhcjjaaDoor
open Go.ChangeShapes Go.WideShapes Go.ChangeAt Go.RowKit
set_option linter.unusedVariables false
namespace CatR
open EvtR (Pt cell_put cell_far)
theorem infoM : (Tryd.prog.info? 37).map (fun i => (i.zero, i.size, i.bytes)) = some (some (.agg #[.string ⟨#[]⟩, .int .i64 0, .bool false, .int .i64 0, .int .i64 0, .slice none 0 0]), 6, 72) := by kernel_rfl
end CatR
end Go.Proofs.YtaedolophhcjjaaDoor
namespace Go.Proofs.YtaedolophhcjjaaDoor
open Go.ChangeShapes Go.WideShapes Go.ChangeAt Go.RowKit
set_option linter.unusedVariables false
namespace CatR
open EvtR (Pt cell_put cell_far)
theorem infoC : (Tryd.prog.info? 53).map (fun i => (i.zero, i.size, i.bytes)) = some (some (.agg #[.string ⟨#[]⟩, .int .i64 0]), 2, 24) := by kernel_rfl
theorem small_moreC {cs : List Cr} {k : Nat} (h : ∀ i, i < k → (cs.getD i Cr.zero).a.size ≤ 1048576) (hk : (cs.getD k Cr.zero).a.size ≤ 1048576) : ∀ i, i < k + 1 → (cs.getD i Cr.zero).a.size ≤ 1048576 := fun i hi => by
  by_cases e : i = k
  · subst e; exact hk
  · exact h i (by omega)
theorem crs_set {wr : World} {g n k : Nat} {ts : List Cr} (hp : Pt g (n * 2) wr) (hk : k < n) (ha : ∀ i, i < k → CrAt wr g (i * 2) (ts.getD i Cr.zero)) :
    Pt g (n * 2) ((wr.setCell ⟨g, k * 2, none⟩ (.string (ts.getD k Cr.zero).a)).setCell ⟨g, k * 2 + 1, none⟩ (.int .i64 (ts.getD k Cr.zero).m)) ∧ ∀ i, i < k + 1 → CrAt ((wr.setCell ⟨g, k * 2, none⟩ (.string (ts.getD k Cr.zero).a)).setCell ⟨g, k * 2 + 1, none⟩ (.int .i64 (ts.getD k Cr.zero).m)) g (i * 2) (ts.getD i Cr.zero) := by
  refine ⟨(hp.set _ _).set _ _, fun i hi => ?_⟩
  by_cases e : i = k
  · subst e
    exact ⟨(cell_far _ _ (by omega) _).trans (cell_put hp _ (by omega) _), cell_put (hp.set _ _) _ (by omega) _⟩
  · have h := ha i (by omega)
    exact ⟨((cell_far _ _ (by omega) _).trans (cell_far _ _ (by omega) _)).trans h.1, ((cell_far _ _ (by omega) _).trans (cell_far _ _ (by omega) _)).trans h.2⟩
end CatR
end Go.Proofs.YtaedolophhcjjaaDoor
namespace Go.Proofs.YtaedolophhcjjaaDoor
open Go.ChangeShapes Go.WideShapes Go.ChangeAt Go.RowKit
set_option linter.unusedVariables false
namespace CatR
open EvtR (Pt cell_put cell_far)
structure Ca.Small (c : Ca) : Prop where
  ml : c.ms.length ≤ 1048576
  ms : ∀ i, i < c.ms.length → (c.ms.getD i Me.zero).Small
  cl : c.cs.length ≤ 1048576
  cs : ∀ i, i < c.cs.length → (c.cs.getD i Cr.zero).a.size ≤ 1048576
structure Ca.In (c : Ca) : Prop where
  ml : c.ms.length ≤ maxLen
  ms : ∀ i, i < c.ms.length → (c.ms.getD i Me.zero).In
  cl : c.cs.length ≤ maxLen
  cs : ∀ i, i < c.cs.length → (c.cs.getD i Cr.zero).a.size ≤ maxLen
theorem NewMes.far {base g : Nat} {bs : Nat → Nat} {n k : Nat} {ms : List Me} {w : World} (h : NewMes base g bs n k ms w) {b : Nat} (hb : b < base) (o : Nat) (v : Value) : NewMes base g bs n k ms (w.setCell ⟨b, o, none⟩ v) := by
  have hg := h.lo
  refine ⟨h.lo, h.pt.far (by omega) o v, h.inc, fun i hi => ?_⟩
  have hi2 := (h.inc i hi).1
  obtain ⟨⟨h0, h1, h2, h3, h4, h5⟩, h6, h7⟩ := h.cel i hi
  have e := far_block w b o v g (by omega)
  have f := fun x => World.cell?_of_block (a := ⟨g, x, none⟩) e
  exact ⟨⟨(f _).trans h0, (f _).trans h1, (f _).trans h2, (f _).trans h3, (f _).trans h4, (f _).trans h5⟩, h6.far (by omega) o v, h7.far (by omega) o v⟩
theorem NewMes.mono {base base' g : Nat} {bs : Nat → Nat} {n k : Nat} {ms : List Me} {w : World} (h : NewMes base g bs n k ms w) (hb : base' ≤ base) : NewMes base' g bs n k ms w := ⟨by have := h.lo; omega, h.pt, h.inc, h.cel⟩
theorem Crs.far {b0 off len : Nat} {ts : List Cr} {w : World} (h : Crs (some ⟨b0, off, none⟩) len ts w) {b : Nat} (hb : b ≠ b0) (o : Nat) (v : Value) : Crs (some ⟨b0, off, none⟩) len ts (w.setCell ⟨b, o, none⟩ v) := by
  refine ⟨h.1, ?_⟩
  rcases h.2 with h0 | ⟨b1, off1, e, hlt, hc⟩
  · exact .inl h0
  · obtain ⟨rfl, rfl⟩ : b0 = b1 ∧ off = off1 := by simpa using e
    have e := far_block w b o v b0 hb
    exact .inr ⟨b0, off, rfl, by simpa using hlt, fun j hj => ⟨(World.cell?_of_block (a := ⟨b0, _, none⟩) e).trans (hc j hj).1, (World.cell?_of_block (a := ⟨b0, _, none⟩) e).trans (hc j hj).2⟩⟩
/-- A catalog that a copy has made. -/
def NewCa (base : Nat) (v : Value) (c : Ca) (w : World) : Prop := ∃ g bs h, v = .agg #[.slice (some ⟨g, 0, none⟩) c.ms.length c.ms.length, .slice (some ⟨h, 0, none⟩) c.cs.length c.cs.length] ∧ NewMes base g bs c.ms.length c.ms.length c.ms w ∧ g < h ∧ (∀ i, i < c.ms.length → bs i < h) ∧ Crs (some ⟨h, 0, none⟩) c.cs.length c.cs w ∧ Pt h (c.cs.length * 2) w
theorem NewCa.is {base : Nat} {v : Value} {c : Ca} {w : World} (h : NewCa base v c w) : IsCa v c w := by
  obtain ⟨g, bs, h0, h1, h2, h3, h4, h5, h6⟩ := h
  exact ⟨_, _, _, _, h1, h2.is rfl, h5⟩
theorem NewCa.below {base : Nat} {v : Value} {c : Ca} {w w' : World} (h : NewCa base v c w) (hb : Below w.heap.size w w') : NewCa base v c w' := by
  obtain ⟨g, bs, h0, h1, h2, h3, h4, h5, h6⟩ := h
  exact ⟨g, bs, h0, h1, h2.below hb, h3, h4, h5.below hb, h6.below hb⟩
end CatR
end Go.Proofs.YtaedolophhcjjaaDoor
namespace Go.Proofs.YtaedolophhcjjaaDoor
open Go.ChangeShapes Go.WideShapes Go.ChangeAt Go.RowKit
set_option linter.unusedVariables false
namespace DrawR
open CatR (Ti Me Cr Ca Tis Mes Crs TiAt MeAt CrAt IsMe IsCa)
open EvtR (Pt)
/-- Meters, the blocks of whose tiers are as they are asked for. -/
def MesF (av : Nat → Prop) (mb off n : Nat) (ms : List Me) (W : World) : Prop := mb < W.heap.size ∧ ms.length = n ∧ ∀ j, j < n → ∃ ta tc, (∀ i, i < 6 → W.cell? ⟨mb, off + j * 6 + i, none⟩ = (meC (ms.getD j Me.zero) ta tc)[i]?) ∧ Tis ta (ms.getD j Me.zero).ts.length (ms.getD j Me.zero).ts W ∧ (∀ b o, ta = some ⟨b, o, none⟩ → av b) ∧ (ms.getD j Me.zero).n.size ≤ 100 ∧ (ms.getD j Me.zero).ts.length ≤ 100
theorem MesF.mes {av : Nat → Prop} {mb off n : Nat} {ms : List Me} {W : World} (h : MesF av mb off n ms W) : Mes (some ⟨mb, off, none⟩) n ms W := by
  obtain ⟨h2, h3, h4⟩ := h
  refine ⟨h3, .inr ⟨mb, off, rfl, h2, fun j hj => ?_⟩⟩
  obtain ⟨ta, tc, hc, hT, _⟩ := h4 j hj
  exact ⟨ta, tc, hc 0 (by omega), hc 1 (by omega), hc 2 (by omega), hc 3 (by omega), hc 4 (by omega), hc 5 (by omega), hT⟩
theorem MesF.kept {av : Nat → Prop} {mb off n x : Nat} {ms : List Me} {W W' : World} (h : MesF av mb off n ms W) (hg : W.grownBy W' (some x)) (hx : ¬ av x) (hm : mb ≠ x) : MesF av mb off n ms W' := by
  obtain ⟨h2, h3, h4⟩ := h
  refine ⟨by have := hg.size; omega, h3, fun j hj => ?_⟩
  obtain ⟨ta, tc, hc, hT, hf, hs⟩ := h4 j hj
  have eb := hg.block mb h2 (by simp only [ne_eq, Option.some.injEq]; omega)
  refine ⟨ta, tc, fun i hi => (World.cell?_of_block (a := ⟨mb, off + j * 6 + i, none⟩) eb).trans (hc i hi), tis_kept hT hg (fun b o e q => ?_), hf, hs⟩
  have := hf b o e
  cases q
  exact hx this
theorem MesF.below {av : Nat → Prop} {mb off n : Nat} {ms : List Me} {W W' : World} (h : MesF av mb off n ms W) (hb : Below W.heap.size W W') : MesF av mb off n ms W' := by
  obtain ⟨h2, h3, h4⟩ := h
  refine ⟨by have := hb.size; omega, h3, fun j hj => ?_⟩
  obtain ⟨ta, tc, hc, hT, hf, hs⟩ := h4 j hj
  exact ⟨ta, tc, fun i hi => (hb.cell (p := ⟨mb, off + j * 6 + i, none⟩) h2).trans (hc i hi), hT.below hb, hf, hs⟩
theorem MesF.drop {av : Nat → Prop} {mb n : Nat} {ms : List Me} {W : World} (h : MesF av mb 0 n ms W) (k : Nat) (hk : k ≤ n) : MesF av mb (k * 6) (n - k) (ms.drop k) W := by
  obtain ⟨h2, h3, h4⟩ := h
  refine ⟨h2, by rw [List.length_drop]; omega, fun j hj => ?_⟩
  have e : (ms.drop k).getD j Me.zero = ms.getD (k + j) Me.zero := by simp [List.getD]
  rw [e]
  obtain ⟨ta, tc, hc, r⟩ := h4 (k + j) (by omega)
  refine ⟨ta, tc, fun i hi => ?_, r⟩
  have := hc i hi
  rw [show 0 + (k + j) * 6 + i = k * 6 + j * 6 + i by rw [Nat.add_mul]; omega] at this
  exact this
theorem stL_far (p : Nat) : ∀ (vs : List Value) (o : Nat) (W : World) (j : Nat), (j < o ∨ o + vs.length ≤ j) → (StR.stL W p o vs).cell? ⟨p, j, none⟩ = W.cell? ⟨p, j, none⟩
  | [], o, W, j, _ => rfl
  | v :: vs, o, W, j, h => by
    rw [StR.stL, stL_far p vs (o + 1) _ j (by simp only [List.length_cons] at h; omega)]
    exact EvtR.cell_far _ _ (by simp only [List.length_cons] at h; omega) _
theorem MesF.put {av : Nat → Prop} {mb n : Nat} {ms : List Me} {W : World} (h : MesF av mb 0 n ms W) (hav : ¬ av mb) (hp : Pt mb (n * 6) W) (j : Nat) (hj : j < n) (m : Me) (ta : Option Addr) (tc : Nat) (hT : Tis ta m.ts.length m.ts W) (hf : ∀ b o, ta = some ⟨b, o, none⟩ → av b) (hn : m.n.size ≤ 100) (ht : m.ts.length ≤ 100) :
    MesF av mb 0 n (ms.set j m) (StR.stL W mb (j * 6) (meC m ta tc)) := by
  have hg := StR.stL_grown mb (meC m ta tc) (j * 6) W
  obtain ⟨h2, h3, h4⟩ := h
  refine ⟨by have := hg.size; omega, by rw [List.length_set]; exact h3, fun i hi => ?_⟩
  by_cases e : i = j
  · subst e
    have em : (ms.set i m).getD i Me.zero = m := by simp [List.getD, h3, hi]
    rw [em]
    refine ⟨ta, tc, fun o ho => ?_, tis_kept hT hg (fun b o e q => by cases q; exact hav (hf _ _ e)), hf, hn, ht⟩
    rw [Nat.zero_add]
    exact StR.stL_cells (meC m ta tc) (i * 6) W hp (by simp only [meC, List.length_cons, List.length_nil]; omega) o (by simpa [meC] using ho)
  · have em : (ms.set j m).getD i Me.zero = ms.getD i Me.zero := by simp [List.getD, Ne.symm e]
    rw [em]
    obtain ⟨ta', tc', hc, hT', hf', hs'⟩ := h4 i hi
    refine ⟨ta', tc', fun o ho => ?_, tis_kept hT' hg (fun b o e q => by cases q; exact hav (hf' _ _ e)), hf', hs'⟩
    rw [stL_far mb _ _ _ _ (by simp only [meC, List.length_cons, List.length_nil]; omega)]
    exact hc o ho
theorem crs_kept {cb off n x : Nat} {cs : List Cr} {W W' : World} (h : Crs (some ⟨cb, off, none⟩) n cs W) (hg : W.grownBy W' (some x)) (hx : x ≠ cb) : Crs (some ⟨cb, off, none⟩) n cs W' := by
  obtain ⟨h1, h2⟩ := h
  refine ⟨h1, ?_⟩
  rcases h2 with h0 | ⟨b, o, e, hl, hc⟩
  · exact .inl h0
  · cases e
    have eb := hg.block cb hl (by simp only [ne_eq, Option.some.injEq]; omega)
    exact .inr ⟨cb, off, rfl, by have := hg.size; omega, fun j hj => ⟨(World.cell?_of_block (a := ⟨cb, off + j * 2, none⟩) eb).trans (hc j hj).1, (World.cell?_of_block (a := ⟨cb, off + j * 2 + 1, none⟩) eb).trans (hc j hj).2⟩⟩
theorem tis_kp {ta : Option Addr} {len : Nat} {ts : List Ti} {W W' : World} (h : Tis ta len ts W) (hs : W.heap.size ≤ W'.heap.size) (hk : ∀ b o, ta = some ⟨b, o, none⟩ → b < W.heap.size → W'.heap[b]? = W.heap[b]?) : Tis ta len ts W' := by
  obtain ⟨h1, h2⟩ := h
  refine ⟨h1, h2.imp id ?_⟩
  rintro ⟨b, o, e, hl, hc⟩
  have eb := hk b o e hl
  exact ⟨b, o, e, by omega, fun j hj => ⟨(World.cell?_of_block (a := ⟨b, o + j * 2, none⟩) eb).trans (hc j hj).1, (World.cell?_of_block (a := ⟨b, o + j * 2 + 1, none⟩) eb).trans (hc j hj).2⟩⟩
theorem crs_kp {ca : Option Addr} {len : Nat} {cs : List Cr} {W W' : World} (h : Crs ca len cs W) (hs : W.heap.size ≤ W'.heap.size) (hk : ∀ b o, ca = some ⟨b, o, none⟩ → b < W.heap.size → W'.heap[b]? = W.heap[b]?) : Crs ca len cs W' := by
  obtain ⟨h1, h2⟩ := h
  refine ⟨h1, h2.imp id ?_⟩
  rintro ⟨b, o, e, hl, hc⟩
  have eb := hk b o e hl
  exact ⟨b, o, e, by omega, fun j hj => ⟨(World.cell?_of_block (a := ⟨b, o + j * 2, none⟩) eb).trans (hc j hj).1, (World.cell?_of_block (a := ⟨b, o + j * 2 + 1, none⟩) eb).trans (hc j hj).2⟩⟩
theorem MesF.kp {av : Nat → Prop} {mb off n lo : Nat} {ms : List Me} {W W' : World} (h : MesF av mb off n ms W) (hav : ∀ b, av b → lo ≤ b) (hm : lo ≤ mb) (hs : W.heap.size ≤ W'.heap.size) (hk : ∀ k, lo ≤ k → k < W.heap.size → W'.heap[k]? = W.heap[k]?) : MesF av mb off n ms W' := by
  obtain ⟨h2, h3, h4⟩ := h
  refine ⟨by omega, h3, fun j hj => ?_⟩
  obtain ⟨ta, tc, hc, hT, hf, hz⟩ := h4 j hj
  have eb := hk mb hm h2
  exact ⟨ta, tc, fun i hi => (World.cell?_of_block (a := ⟨mb, off + j * 6 + i, none⟩) eb).trans (hc i hi), tis_kp hT hs (fun b o e hl => hk b (hav b (hf b o e)) hl), hf, hz⟩
theorem plain_mesF (w : World) (av : Nat → Prop) (hav : ∀ b, w.heap.size < b → b ≤ w.heap.size + 4 → av b) : MesF av (w.heap.size + 1 + 1 + 1 + 1 + 1) 0 4 plainM (plainW w) := by
  refine ⟨(plain_m w).1, rfl, fun j hj => ?_⟩
  obtain ⟨b, h1, h2, h3, hc, hT, t1, t2, t3⟩ := plain_at w j hj
  refine ⟨some ⟨b, 0, none⟩, (plainM.getD j Me.zero).ts.length, fun i hi => ?_, hT, fun b' o e => ?_, t3, by omega⟩
  · rw [Nat.zero_add]; exact hc i hi
  · cases e
    exact hav b h1 h2
theorem plain_ptm (w : World) : Pt (w.heap.size + 1 + 1 + 1 + 1 + 1) 24 (plainW w) := by
  refine ⟨(plain_m w).1, fun o ho => ?_, fun o ho => ?_⟩
  · have h := (plain_m w).2 o ho
    have hl : o < ([.string ⟨#[99, 112, 117]⟩, .int .i64 1, .bool false, .int .i64 10, .int .i64 0, .slice (some ⟨w.heap.size + 1, 0, none⟩) 2 2] : List Value).length + 18 := by simpa using ho
    obtain ⟨v, hv⟩ : ∃ v, (plainW w).cell? ⟨w.heap.size + 1 + 1 + 1 + 1 + 1, o, none⟩ = some v := by
      rw [h]
      exact ⟨_, List.getElem?_eq_getElem (by simpa using ho)⟩
    exact ⟨v, hv⟩
  · simp [plainW, go_sem]
/-- A catalog that was drawn. -/
def CaOut (ao : Option Addr) (len cap g : Nat) (w : World) (e : Ending) (w' : World) : Prop := (∃ (c : Ca) (ma : Option Addr) (mc : Nat) (ca : Option Addr) (cc : Nat), e = .returned (.agg #[.slice ma c.ms.length mc, .slice ca c.cs.length cc]) ∧ Mes ma c.ms.length c.ms w' ∧ Crs ca c.cs.length c.cs w' ∧ c.Small ∧ ∀ W' : World, w'.heap.size ≤ W'.heap.size → (∀ k, w.heap.size ≤ k → k < w'.heap.size → W'.heap[k]? = w'.heap[k]?) → Mes ma c.ms.length c.ms W' ∧ Crs ca c.cs.length c.cs W') ∧ Src ao len cap g w' ∧ w.grownBy w' (some g)
theorem small_of {av : Nat → Prop} {mb off n : Nat} {ms : List Me} {cs : List Cr} {W : World} (h : MesF av mb off n ms W) (hn : n ≤ 4) (hc : cs.length ≤ 10) (hs : ∀ c ∈ cs, c.a.size ≤ 100) : Ca.Small ⟨ms, cs⟩ := by
  obtain ⟨h2, h3, h4⟩ := h
  refine ⟨by show ms.length ≤ _; omega, fun i hi => ?_, by show cs.length ≤ _; omega, fun i hi => ?_⟩
  · obtain ⟨ta, tc, _, _, _, a1, a2⟩ := h4 i (by rw [← h3]; exact hi)
    exact ⟨Nat.le_trans a1 (by omega), Nat.le_trans a2 (by omega)⟩
  · have hi' : i < cs.length := hi
    have := hs (cs.getD i Cr.zero) (by simp [List.getD, hi'])
    exact Nat.le_trans this (by omega)
end DrawR
end Go.Proofs.YtaedolophhcjjaaDoor
namespace Go.Proofs.YtaedolophhcjjaaDoor
open Go.ChangeShapes Go.WideShapes Go.ChangeAt Go.RowKit
set_option linter.unusedVariables false
namespace DrawR
/-- A row of short texts. -/
def Strs (b n K : Nat) (w : World) : Prop := b < w.heap.size ∧ ∀ j, j < n → ∃ T : ByteArray, w.cell? ⟨b, j, none⟩ = some (.string T) ∧ T.size ≤ K
theorem Strs.grown {b n K : Nat} {w w' : World} {row : Option Nat} (h : Strs b n K w) (hg : w.grownBy w' row) (hne : some b ≠ row) : Strs b n K w' :=
  ⟨by have := hg.size; have := h.1; omega, fun j hj => by obtain ⟨T, h1, h2⟩ := h.2 j hj; exact ⟨T, hg.cell (a := ⟨b, j, none⟩) h1 hne, h2⟩⟩
/-- A text that was drawn. -/
def StrOut (K : Nat) (ao : Option Addr) (len cap g : Nat) (w : World) (e : Ending) (w' : World) : Prop := (∃ T : ByteArray, e = .returned (.string T) ∧ T.size ≤ K) ∧ Src ao len cap g w' ∧ w.grownBy w' (some g)
set_option maxRecDepth 100000 in
set_option maxHeartbeats 4000000 in
theorem pick_any (ao : Option Addr) (len cap g b n K : Nat) (w : World) (hn : 2 ≤ n) (hn2 : n ≤ 100) (hbg : b ≠ g) (hS : Src ao len cap g w) (hT : Strs b n K w) :
    Calls Tryd.prog 33 #[.pointer (some ⟨g, 0, none⟩), .slice (some ⟨b, 0, none⟩) n n] w fun e w' => StrOut K ao len cap g w e w' := by
  have HS := hid_intro hS
  have HT := hid_intro hT
  have hgl := hS.lt
  have hn3 : (2 : Int) ≤ (n : Int) := by omega
  have hn4 : (n : Int) ≤ 100 := by omega
  clear hS hT
  go_enter Tryd.func33, Tryd.ntmps33
  go_wp2_with fail
  refine (n_any ao len cap g n _ (by omega) HS.out).mono ?_
  rintro e w1 ⟨v, rfl, v0, _, v2, hS, hg⟩
  have v3 : v < n := v2 (by omega)
  obtain ⟨j, rfl⟩ : ∃ j : Nat, v = j := ⟨v.toNat, by omega⟩
  obtain ⟨T, hc, hK⟩ := (HT.out.grown hg (by simp; exact hbg)).2 j (by omega)
  have HS1 := hid_intro hS
  have HG1 := hid_intro hg
  have HK := hid_intro hK
  clear hS hg v2 hK
  go_wp2
  go_ret
  exact ⟨⟨T, rfl, HK.out⟩, HS1.out, HG1.out⟩
theorem conv_any (w : World) (z : Int) : (convert 22 9 (.slice (some ⟨w.heap.size, 0, none⟩) 1 1)).run Tryd.prog (w.alloc (Obj.cells #[.int .u8 z] 5)) = .ok (.string (strOfNums [z])) (w.alloc (Obj.cells #[.int .u8 z] 5)) := by
  refine run_convert_bytes_arg _ 22 5 Tryd.underlying22 Tryd.underlying5 w.heap.size 0 1 1 _ rfl ?_ 9 Tryd.underlying9
  intro i hi
  match i, hi with
  | 0, _ => simp [go_sem]
set_option maxRecDepth 100000 in
set_option maxHeartbeats 4000000 in
theorem spoil_any (ao : Option Addr) (len cap g : Nat) (t : ByteArray) (w : World) (ht : t.size ≤ 1000000) (hS : Src ao len cap g w) :
    Calls Tryd.prog 30 #[.pointer (some ⟨g, 0, none⟩), .string t] w fun e w' => StrOut (t.size + 1) ao len cap g w e w' := by
  have HS := hid_intro hS
  have hgl := hS.lt
  have ht2 : (t.size : Int) ≤ 1000000 := by omega
  clear hS
  go_enter Tryd.func30, Tryd.ntmps30
  go_wp2_with fail
  refine (n_any ao len cap g ((t.size : Int) + 1) _ (by omega) HS.out).mono ?_
  rintro e w1 ⟨v, rfl, v0, v1, v2, hS, hg⟩
  have v3 : v ≤ t.size := by
    by_cases h : 1 < (t.size : Int) + 1
    · have := v2 h; omega
    · have := v1 (by omega); omega
  obtain ⟨k, rfl⟩ : ∃ k : Nat, v = k := ⟨v.toNat, by omega⟩
  have hk : k ≤ t.size := by omega
  have HS1 := hid_intro hS
  have HG1 := hid_intro hg
  clear hS hg v1 v2
  go_wp2_with fail
  refine (n_any ao len cap g 17 _ (by omega) HS1.out).mono ?_
  rintro e w2 ⟨v, rfl, j0, _, j2, hS, hg⟩
  have j3 : v < 17 := j2 (by omega)
  obtain ⟨j, rfl⟩ : ∃ j : Nat, v = j := ⟨v.toNat, by omega⟩
  have hj : j < 17 := by omega
  have HS2 := hid_intro hS
  have HG2 := hid_intro (Lib.grownBy_trans HG1.out hg)
  clear hS hg j2
  have hcv := conv_any w2
  have HA : Hid (∀ o : Obj, Src ao len cap g (w2.alloc o) ∧ w.grownBy (w2.alloc o) (some g)) := hid_intro (fun o => ⟨HS2.out.alloc o, Lib.grownBy_trans HG2.out (World.grownBy_alloc w2 o _)⟩)
  have e1 : (t.extract 0 k).size = k := by rw [ByteArray.size_extract]; omega
  have e2 : (t.extract k t.size).size = t.size - k := by rw [ByteArray.size_extract]; omega
  by_cases hkl : k = t.size
  · have hkl' : (k : Int) = (t.size : Int) := by omega
    go_wp2_with fail
    have hC : (strOfNums [(((⟨#[32, 10, 48, 97, 45, 110, 44, 58, 93, 255, 40, 120, 126, 49, 128, 225, 59]⟩ : ByteArray)[j]'hj).toNat : Int)]).size = 1 := strOfNums_size _
    generalize strOfNums [(((⟨#[32, 10, 48, 97, 45, 110, 44, 58, 93, 255, 40, 120, 126, 49, 128, 225, 59]⟩ : ByteArray)[j]'hj).toNat : Int)] = C at *
    go_region
    go_wp2
    go_ret
    exact ⟨⟨_, rfl, by rw [ByteArray.size_append, hC]; omega⟩, (HA.out _).1, grown_drew (HA.out _).2⟩
  · have hkl' : ¬ (k : Int) = (t.size : Int) := by omega
    go_wp2_with fail
    have hC : (strOfNums [(((⟨#[32, 10, 48, 97, 45, 110, 44, 58, 93, 255, 40, 120, 126, 49, 128, 225, 59]⟩ : ByteArray)[j]'hj).toNat : Int)]).size = 1 := strOfNums_size _
    generalize strOfNums [(((⟨#[32, 10, 48, 97, 45, 110, 44, 58, 93, 255, 40, 120, 126, 49, 128, 225, 59]⟩ : ByteArray)[j]'hj).toNat : Int)] = C at *
    generalize (((⟨#[32, 10, 48, 97, 45, 110, 44, 58, 93, 255, 40, 120, 126, 49, 128, 225, 59]⟩ : ByteArray)[j]'hj).toNat : Int) = z at *
    have hk2 : (k : Int) + 1 ≤ (t.size : Int) := by omega
    have hk3 : (k : Int) ≤ (t.size : Int) := by omega
    have e3 : (t.extract (k + 1) t.size).size = t.size - (k + 1) := by rw [ByteArray.size_extract]; omega
    have HSZ : Hid ((t.extract 0 k ++ C ++ t.extract k t.size).size ≤ t.size + 1 ∧ (t.extract 0 k ++ t.extract (k + 1) t.size).size ≤ t.size + 1 ∧ (t.extract 0 k ++ C ++ t.extract (k + 1) t.size).size ≤ t.size + 1) := hid_intro (by
      simp only [ByteArray.size_append, e1, e2, e3, hC]
      omega)
    have hwr : IntKind.i64.wrap ((k : Int) + 1) = (k : Int) + 1 := by simp [IntKind.wrap, IntKind.bits, IntKind.signed]; omega
    refine (one_any ao len cap g 3 _ (by omega) (HA.out _).1).mono ?_
    rintro e w3 ⟨⟨q, rfl⟩, hS, hg⟩
    have HS3 := hid_intro hS
    have HG3 := hid_intro (Lib.grownBy_trans (HA.out _).2 hg)
    clear hS hg HA hcv
    cases q
    · go_wp2_with fail
      refine (one_any ao len cap g 2 _ (by omega) HS3.out).mono ?_
      rintro e w4 ⟨⟨q, rfl⟩, hS, hg⟩
      have HS4 := hid_intro hS
      have HG4 := hid_intro (Lib.grownBy_trans HG3.out hg)
      clear hS hg
      cases q
      · go_wp2_with fail
        go_region
        go_wp2
        go_ret
        exact ⟨⟨_, rfl, HSZ.out.2.2⟩, HS4.out, grown_drew HG4.out⟩
      · go_wp2_with fail
        go_region
        go_wp2
        go_ret
        exact ⟨⟨_, rfl, HSZ.out.2.1⟩, HS4.out, grown_drew HG4.out⟩
    · go_wp2_with fail
      go_region
      go_wp2
      go_ret
      exact ⟨⟨_, rfl, HSZ.out.1⟩, HS3.out, grown_drew HG3.out⟩
end DrawR
end Go.Proofs.YtaedolophhcjjaaDoor
