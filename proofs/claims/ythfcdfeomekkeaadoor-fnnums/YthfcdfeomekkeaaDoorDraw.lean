/-
  The draws' source: a number that is drawn lies below its bound, whatever the bytes; drawing writes the source's own block alone. The condition: the bytes are at most 1048576.
-/
import Derived.Test.YthfcdfeomekkeaaDoorKit
import Derived.Lib.BufferOwn
import Derived.Maps.Range
import Derived.Laws.BytesArg
import Derived.BigRegion
import Derived.Deep.QuietTactic
import Derived.BigQuiet
namespace Go.Proofs.YthfcdfeomekkeaaDoor
open Go.ChangeShapes Go.WideShapes Go.ChangeAt Go.RowKit
set_option linter.unusedVariables false
namespace DrawR
theorem set_twice (W : World) (a : Addr) (x y : Value) : (W.setCell a x).setCell a y = W.setCell a y := by
  unfold World.setCell
  congr 1
  apply Array.ext
  · simp
  · intro i h1 h2
    simp only [Array.getElem_modify]
    by_cases h : a.block = i
    · simp only [h, if_true]
      cases W.heap[i]'(by simpa using h2) <;> simp
      by_cases hs : a.spot.isSome = true <;> simp [hs]
    · simp [h]
/-- The source at block g: its four cells, and the bytes that it reads (in a block ahead of it). -/
def Src (ao : Option Addr) (len cap g : Nat) (w : World) : Prop :=
  len ≤ 1048576 ∧ (∃ (k : Nat) (mix size : Int), k ≤ len ∧ 0 ≤ mix ∧ mix ≤ 18446744073709551615 ∧ 0 ≤ size ∧ size ≤ 12 ∧
    w.heap[g]? = some (.cells #[.slice ao len cap, .int .i64 (k : Nat), .int .u64 mix, .int .i64 size] 52 (0, 0))) ∧
  (len = 0 ∨ ∃ ab aoff, ao = some ⟨ab, aoff, none⟩ ∧ ab < g ∧ ∀ i, i < len → ∃ z : Int, w.cell? ⟨ab, aoff + i, none⟩ = some (.int .u8 z) ∧ 0 ≤ z ∧ z ≤ 255)
theorem u64wrap (n : Int) : IntKind.u64.wrap n = n % 18446744073709551616 := by simp [IntKind.wrap, IntKind.bits, IntKind.signed]
theorem xor_bd (x y : Int) : 0 ≤ bits .xor .u64 x y ∧ bits .xor .u64 x y ≤ 18446744073709551615 := by
  show 0 ≤ IntKind.u64.wrap _ ∧ IntKind.u64.wrap _ ≤ _
  rw [u64wrap]; omega
theorem draw_bd (X most : Int) (h1 : 1 < most) (h2 : most ≤ 9223372036854775807) : 0 ≤ wrap64 ((IntKind.u64.wrap X).tmod most) ∧ wrap64 ((IntKind.u64.wrap X).tmod most) < most := by
  rw [u64wrap]
  obtain ⟨y, hy⟩ : ∃ y, y = X % 18446744073709551616 := ⟨_, rfl⟩
  have h0 : 0 ≤ y := by rw [hy]; exact Int.emod_nonneg _ (by omega)
  rw [← hy, Int.tmod_eq_emod_of_nonneg h0]
  have a := Int.emod_nonneg y (show most ≠ 0 by omega)
  have b := Int.emod_lt_of_pos y (show 0 < most by omega)
  simp only [wrap64]
  omega
/-- What a draw leaves: a number below its bound; the source; and nothing but the source's block is written. -/
def Drew (ao : Option Addr) (len cap g : Nat) (w : World) (most : Int) (e : Ending) (w' : World) : Prop :=
  ∃ v : Int, e = .returned (.int .i64 v) ∧ 0 ≤ v ∧ (most ≤ 1 → v = 0) ∧ (1 < most → v < most) ∧ Src ao len cap g w' ∧ w.grownBy w' (some g)
theorem block_after {w : World} {g : Nat} {c0 c1 c2 c3 x y : Value} {T : TypeId} (n : Nat) (hg : w.heap[g]? = some (.cells #[c0, c1, c2, c3] T (0, 0))) :
    (((w.drewN n).setCell ⟨g, 1, none⟩ x).setCell ⟨g, 2, none⟩ y).heap[g]? = some (.cells #[c0, x, y, c3] T (0, 0)) := by
  have h1 : (w.drewN n).heap[g]? = some (.cells #[c0, c1, c2, c3] T (0, 0)) := hg
  rw [Lib.heap_setCell_same (Lib.heap_setCell_same h1 x) y]
  rfl
theorem block_after2 {w : World} {g : Nat} {c0 c1 c2 c3 y : Value} {T : TypeId} (n : Nat) (hg : w.heap[g]? = some (.cells #[c0, c1, c2, c3] T (0, 0))) :
    ((w.drewN n).setCell ⟨g, 2, none⟩ y).heap[g]? = some (.cells #[c0, c1, y, c3] T (0, 0)) := by
  have h1 : (w.drewN n).heap[g]? = some (.cells #[c0, c1, c2, c3] T (0, 0)) := hg
  rw [Lib.heap_setCell_same h1 y]
  rfl
theorem grown_drew {w w' : World} {row : Option Nat} (h : w.grownBy w' row) : w.grownBy w'.drew row := ⟨h.os, h.tape, h.output, h.size, h.block⟩
theorem grown_drewN (w : World) (n : Nat) (row : Option Nat) : w.grownBy (w.drewN n) row := ⟨rfl, rfl, rfl, Nat.le_refl _, fun _ _ _ => rfl⟩
theorem src_after {ao : Option Addr} {len cap g : Nat} {w w' : World} (h : Src ao len cap g w) (hg : w.grownBy w' (some g)) {k : Nat} {mix size : Int} (hk : k ≤ len) (h1 : 0 ≤ mix ∧ mix ≤ 18446744073709551615) (h2 : 0 ≤ size ∧ size ≤ 12)
    (hb : w'.heap[g]? = some (.cells #[.slice ao len cap, .int .i64 (k : Nat), .int .u64 mix, .int .i64 size] 52 (0, 0))) : Src ao len cap g w' := by
  refine ⟨h.1, ⟨k, mix, size, hk, h1.1, h1.2, h2.1, h2.2, hb⟩, ?_⟩
  rcases h.2.2 with h0 | ⟨ab, aoff, e1, e2, e3⟩
  · exact .inl h0
  · refine .inr ⟨ab, aoff, e1, e2, fun i hi => ?_⟩
    obtain ⟨z, a, b, c⟩ := e3 i hi
    exact ⟨z, hg.cell a (by simp; omega), b, c⟩
set_option maxRecDepth 100000 in
set_option maxHeartbeats 4000000 in
theorem n_any (ao : Option Addr) (len cap g : Nat) (most : Int) (w : World) (hm2 : most ≤ 9223372036854775807) (hS : Src ao len cap g w) :
    Calls Tryd.prog 19 #[.pointer (some ⟨g, 0, none⟩), .int .i64 most] w fun e w' => Drew ao len cap g w most e w' := by
  by_cases hm : most ≤ 1
  · have HS : Hid (Src ao len cap g w) := hS
    clear hS
    go_enter Tryd.func19, Tryd.ntmps19
    go_wp2
    go_ret
    exact ⟨0, rfl, by omega, fun _ => rfl, fun h => by omega, HS.out, World.grownBy.refl _ _⟩
  have HS : Hid (Src ao len cap g w) := hS
  obtain ⟨hlen, ⟨k, mix, size, hk, hx1, hx2, hs1, hs2, hg⟩, hcode⟩ := hS
  have HZ : Hid (0 ≤ size ∧ size ≤ 12) := ⟨hs1, hs2⟩
  have HK : Hid (k ≤ len) := hk
  have c0 : w.cell? ⟨g, 0, none⟩ = some (.slice ao len cap) := by rw [cell_of_row w g 0 _ _ _ hg]; rfl
  have c1 : w.cell? ⟨g, 1, none⟩ = some (.int .i64 (k : Nat)) := by rw [cell_of_row w g 1 _ _ _ hg]; rfl
  have c2 : w.cell? ⟨g, 2, none⟩ = some (.int .u64 mix) := by rw [cell_of_row w g 2 _ _ _ hg]; rfl
  have f1 : w.frozen? ⟨g, 1, none⟩ = false := by simp [World.frozen?, hg]
  have f2 : w.frozen? ⟨g, 2, none⟩ = false := by simp [World.frozen?, hg]
  have HG : Hid (w.heap[g]? = some (.cells #[.slice ao len cap, .int .i64 (k : Nat), .int .u64 mix, .int .i64 size] 52 (0, 0))) := hg
  have hss : ∀ (W : World) (x y : Value), (W.setCell ⟨g, 2, none⟩ x).setCell ⟨g, 2, none⟩ y = W.setCell ⟨g, 2, none⟩ y := fun W x y => set_twice W _ x y
  have HM : Hid (1 < most) := show _ from (by omega : 1 < most)
  clear hg hs1 hs2
  by_cases hk2 : (k : Int) < (len : Int)
  · rcases hcode with h0 | ⟨ab, aoff, rfl, hab, hcell⟩
    · omega
    obtain ⟨z, hz, hz1, hz2⟩ := hcell k (by omega)
    clear hcell
    go_enter Tryd.func19, Tryd.ntmps19
    go_wp2
    go_quiet (fail)
    go_wp2
    go_quiet (fail)
    go_wp2
    go_region
    go_wp2
    go_region
    go_wp2
    go_region
    go_wp2
    go_ret
    refine ⟨_, rfl, (draw_bd _ _ HM.out hm2).1, fun h => by have := HM.out; omega, fun _ => (draw_bd _ _ HM.out hm2).2, ?_, ?_⟩
    · refine src_after HS.out ?_ (k := k + 1) (show k + 1 ≤ len by omega) (xor_bd _ _) HZ.out (block_after _ HG.out)
      exact grown_drew (grown_drew (grown_drew (Lib.grownBy_setB (Lib.grownBy_setB (grown_drewN w _ _) 1 _) 2 _)))
    · exact grown_drew (grown_drew (grown_drew (Lib.grownBy_setB (Lib.grownBy_setB (grown_drewN w _ _) 1 _) 2 _)))
  · go_enter Tryd.func19, Tryd.ntmps19
    go_wp2
    go_quiet (fail)
    go_wp2
    go_region
    go_wp2
    go_region
    go_wp2
    go_region
    go_wp2
    go_ret
    refine ⟨_, rfl, (draw_bd _ _ HM.out hm2).1, fun h => by have := HM.out; omega, fun _ => (draw_bd _ _ HM.out hm2).2, ?_, ?_⟩
    · refine src_after HS.out ?_ (k := k) HK.out (xor_bd _ _) HZ.out (block_after2 _ HG.out)
      exact grown_drew (grown_drew (Lib.grownBy_setB (grown_drewN w _ _) 2 _))
    · exact grown_drew (grown_drew (Lib.grownBy_setB (grown_drewN w _ _) 2 _))
theorem one_any (ao : Option Addr) (len cap g : Nat) (most : Int) (w : World) (hm2 : most ≤ 9223372036854775807) (hS : Src ao len cap g w) :
    Calls Tryd.prog 18 #[.pointer (some ⟨g, 0, none⟩), .int .i64 most] w fun e w' => (∃ b : Bool, e = .returned (.bool b)) ∧ Src ao len cap g w' ∧ w.grownBy w' (some g) := by
  have h1 := n_any ao len cap g most w hm2 hS
  clear hS
  go_enter Tryd.func18, Tryd.ntmps18
  go_wp2_with (go_at_call 19; refine h1.mono ?_; rintro e w1 ⟨v, rfl, hv0, hv1, hv2, hS1, hg1⟩)
  go_ret
  exact ⟨⟨_, rfl⟩, hS1, hg1⟩
end DrawR
end Go.Proofs.YthfcdfeomekkeaaDoor
