/-
  Drawn minutes and months: a number in bounds; drawing writes the source's own block alone. The condition: the bytes are at most 1048576.
-/
import Derived.Test.YtfnkhohommahoaaDoorDraw2
import Derived.Deep.RegionWith
namespace Go.Proofs.YtfnkhohommahoaaDoor
open Go.ChangeShapes Go.WideShapes Go.ChangeAt Go.RowKit
set_option linter.unusedVariables false
namespace DrawR
theorem mgrown_trans {w w1 w2 : World} {g : Nat} (h1 : w.grownBy w1 (some g)) (h2 : w1.grownBy w2 (some g)) : w.grownBy w2 (some g) := Lib.grownBy_trans h1 h2
theorem mbelow_own {w w1 w2 : World} (hb : Below w.heap.size w w1) (hg : w1.grownBy w2 (some w.heap.size)) : Below w.heap.size w w2 :=
  hb.grown hg hb.size (fun k e => by cases e; exact Nat.le_refl _)
def timeEdges : List Int := [-1, 0, 121000000, 121000001]
theorem timeEdges_at (j : Nat) (h : j < 4) : ∃ x : Int, (timeEdges.map (Value.int .i64))[j]? = some (.int .i64 x) ∧ -1 ≤ x ∧ x ≤ 121000001 := by
  match j, h with
  | 0, _ => exact ⟨_, rfl, by decide, by decide⟩
  | 1, _ => exact ⟨_, rfl, by decide, by decide⟩
  | 2, _ => exact ⟨_, rfl, by decide, by decide⟩
  | 3, _ => exact ⟨_, rfl, by decide, by decide⟩
theorem timeEdges_cell (w : World) (T : TypeId) (j : Nat) (x : Int) (hx : (timeEdges.map (Value.int .i64))[j]? = some (.int .i64 x)) : (w.alloc (.cells (timeEdges.map (Value.int .i64)).toArray T)).cell? ⟨w.heap.size, j, none⟩ = some (.int .i64 x) := by
  rw [World.cell?_alloc_at _ _ _ _ rfl]
  simpa using hx
def monEdges : List Int := [-1, 0, 2760, 2761]
theorem monEdges_at (j : Nat) (h : j < 4) : ∃ x : Int, (monEdges.map (Value.int .i64))[j]? = some (.int .i64 x) ∧ -1 ≤ x ∧ x ≤ 2761 := by
  match j, h with
  | 0, _ => exact ⟨_, rfl, by decide, by decide⟩
  | 1, _ => exact ⟨_, rfl, by decide, by decide⟩
  | 2, _ => exact ⟨_, rfl, by decide, by decide⟩
  | 3, _ => exact ⟨_, rfl, by decide, by decide⟩
theorem monEdges_cell (w : World) (T : TypeId) (j : Nat) (x : Int) (hx : (monEdges.map (Value.int .i64))[j]? = some (.int .i64 x)) : (w.alloc (.cells (monEdges.map (Value.int .i64)).toArray T)).cell? ⟨w.heap.size, j, none⟩ = some (.int .i64 x) := by
  rw [World.cell?_alloc_at _ _ _ _ rfl]
  simpa using hx

def TimeOut (ao : Option Addr) (len cap g : Nat) (w : World) (e : Ending) (w' : World) : Prop := (∃ v : Int, e = .returned (.int .i64 v) ∧ -1 ≤ v ∧ v ≤ 121000001) ∧ Src ao len cap g w' ∧ w.grownBy w' (some g)
set_option maxRecDepth 100000 in
set_option maxHeartbeats 4000000 in
theorem time_any (ao : Option Addr) (len cap g : Nat) (w : World) (hS : Src ao len cap g w) :
    Calls Tryd.prog 62 #[.pointer (some ⟨g, 0, none⟩)] w fun e w' => TimeOut ao len cap g w e w' := by
  have HS := hid_intro hS
  have hgl := hS.lt
  clear hS
  go_enter Tryd.func62, Tryd.ntmps62
  go_wp2_with fail
  refine (one_any ao len cap g 6 _ (by omega) HS.out).mono ?_
  rintro e w1 ⟨⟨q, rfl⟩, hS1, hg1⟩
  have HS1 := hid_intro hS1
  have HG1 := hid_intro hg1
  have hgl1 := hS1.lt
  clear hS1 hg1 HS
  cases q
  · go_wp2_with fail
    refine (n_any ao len cap g 80000 _ (by omega) HS1.out).mono ?_
    rintro e w2 ⟨x, rfl, hx0, hx1, hx2, hS2, hg2⟩
    have hx3 : x < 80000 := hx2 (by omega)
    have HS2 := hid_intro hS2
    have HG2 := hid_intro (mgrown_trans HG1.out hg2)
    clear hx1 hx2 hS2 hg2
    go_wp2_with fail
    refine (n_any ao len cap g 1440 _ (by omega) HS2.out).mono ?_
    rintro e w3 ⟨z, rfl, hz0, hz1, hz2, hS3, hg3⟩
    have hz3 : z < 1440 := hz2 (by omega)
    have HS3 := hid_intro hS3
    have HG3 := hid_intro (mgrown_trans HG2.out hg3)
    clear hz1 hz2 hS3 hg3
    go_wp2
    go_ret
    exact ⟨⟨_, rfl, by omega, by omega⟩, HS3.out, HG3.out⟩
  · go_wp2_with fail
    refine (n_any ao len cap g 4 _ (by omega) (HS1.out.alloc _)).mono ?_
    rintro e w2 ⟨v, rfl, hv0, hv1, hv2, hS2, hg2⟩
    have hv3 : v < 4 := hv2 (by omega)
    obtain ⟨j, rfl⟩ : ∃ j : Nat, v = j := ⟨v.toNat, by omega⟩
    obtain ⟨x, hx, hx1, hx2⟩ := timeEdges_at j (by omega)
    have hcell : w2.cell? ⟨w1.heap.size, j, none⟩ = some (.int .i64 x) := hg2.cell (a := ⟨w1.heap.size, j, none⟩) (timeEdges_cell w1 2 j x hx) (by simp; omega)
    have HS2 := hid_intro hS2
    have HG2 := hid_intro (mgrown_trans HG1.out (Lib.grownBy_trans (World.grownBy_alloc w1 _ _) hg2))
    have HX : Hid (-1 ≤ x ∧ x ≤ 121000001) := hid_intro ⟨hx1, hx2⟩
    have hj : (j : Int) < 4 := by omega
    have hj0 : (0 : Int) ≤ j := by omega
    clear hv0 hv1 hv2 hv3 hS2 hg2 hx hx1 hx2
    go_wp2
    go_ret
    exact ⟨⟨x, rfl, HX.out⟩, HS2.out, HG2.out⟩
def TimeD (w : World) (e : Ending) (w' : World) : Prop := (∃ v : Int, e = .returned (.int .i64 v) ∧ -1 ≤ v ∧ v ≤ 121000001) ∧ Below w.heap.size w w'
theorem dhour_any (ao : Option Addr) (len cap : Nat) (w : World) (hlen : len ≤ 1048576) (hB : Bytes ao len w) :
    Calls Tryd.prog 32 #[.slice ao len cap] w fun e w' => TimeD w e w' := by
  have h1 := source_any ao len cap w hlen hB
  clear hB
  go_enter Tryd.func32, Tryd.ntmps32
  go_wp2_with fail
  refine h1.mono ?_
  rintro e w1 ⟨rfl, hS1, hb1⟩
  have HS1 := hid_intro hS1
  have HB1 := hid_intro hb1
  clear hS1 hb1 h1
  go_wp2_with fail
  refine (time_any ao len cap w.heap.size _ HS1.out).mono ?_
  rintro e w2 ⟨⟨d, rfl, hd1, hd2⟩, hS, hg⟩
  have HB2 := hid_intro (mbelow_own HB1.out hg)
  clear hS hg
  go_wp2
  go_ret
  exact ⟨⟨d, rfl, hd1, hd2⟩, HB2.out⟩
theorem dmonth_any (ao : Option Addr) (len cap : Nat) (w : World) (hlen : len ≤ 1048576) (hB : Bytes ao len w) :
    Calls Tryd.prog 28 #[.slice ao len cap] w fun e w' => TimeD w e w' := by
  have h1 := source_any ao len cap w hlen hB
  clear hB
  go_enter Tryd.func28, Tryd.ntmps28
  go_wp2_with fail
  refine h1.mono ?_
  rintro e w1 ⟨rfl, hS1, hb1⟩
  have HS1 := hid_intro hS1
  have HB1 := hid_intro hb1
  clear hS1 hb1 h1
  go_wp2_with fail
  refine (time_any ao len cap w.heap.size _ HS1.out).mono ?_
  rintro e w2 ⟨⟨d, rfl, hd1, hd2⟩, hS, hg⟩
  have HB2 := hid_intro (mbelow_own HB1.out hg)
  clear hS hg
  go_wp2
  go_ret
  exact ⟨⟨d, rfl, hd1, hd2⟩, HB2.out⟩
def MonD (w : World) (e : Ending) (w' : World) : Prop := (∃ v : Int, e = .returned (.int .i64 v) ∧ -1 ≤ v ∧ v ≤ 2761) ∧ Below w.heap.size w w'
set_option maxRecDepth 100000 in
set_option maxHeartbeats 4000000 in
theorem dstart_any (ao : Option Addr) (len cap : Nat) (w : World) (hlen : len ≤ 1048576) (hB : Bytes ao len w) :
    Calls Tryd.prog 29 #[.slice ao len cap] w fun e w' => MonD w e w' := by
  have h1 := source_any ao len cap w hlen hB
  clear hB
  go_enter Tryd.func29, Tryd.ntmps29
  go_wp2_with fail
  refine h1.mono ?_
  rintro e w1 ⟨rfl, hS1, hb1⟩
  have HS1 := hid_intro hS1
  have HB1 := hid_intro hb1
  clear hS1 hb1 h1
  go_wp2_with fail
  refine (one_any ao len cap w.heap.size 6 _ (by omega) HS1.out).mono ?_
  rintro e w2 ⟨⟨q, rfl⟩, hS2, hg2⟩
  have HS2 := hid_intro hS2
  have HB2 := hid_intro (mbelow_own HB1.out hg2)
  have hgl2 := hS2.lt
  clear hS2 hg2 HS1
  cases q
  · go_wp2_with fail
    refine (n_any ao len cap w.heap.size 2761 _ (by omega) HS2.out).mono ?_
    rintro e w3 ⟨x, rfl, hx0, hx1, hx2, hS3, hg3⟩
    have hx3 : x < 2761 := hx2 (by omega)
    have HB3 := hid_intro (mbelow_own HB2.out hg3)
    clear hx1 hx2 hS3 hg3
    go_wp2
    go_ret
    exact ⟨⟨x, rfl, by omega, by omega⟩, HB3.out⟩
  · go_wp2_with fail
    refine (n_any ao len cap w.heap.size 4 _ (by omega) (HS2.out.alloc _)).mono ?_
    rintro e w3 ⟨v, rfl, hv0, hv1, hv2, hS3, hg3⟩
    have hv3 : v < 4 := hv2 (by omega)
    obtain ⟨j, rfl⟩ : ∃ j : Nat, v = j := ⟨v.toNat, by omega⟩
    obtain ⟨x, hx, hx1, hx2⟩ := monEdges_at j (by omega)
    have hcell : w3.cell? ⟨w2.heap.size, j, none⟩ = some (.int .i64 x) := hg3.cell (a := ⟨w2.heap.size, j, none⟩) (monEdges_cell w2 2 j x hx) (by simp; omega)
    have HB3 := hid_intro (mbelow_own (HB2.out.alloc HB2.out.size _) hg3)
    have HX : Hid (-1 ≤ x ∧ x ≤ 2761) := hid_intro ⟨hx1, hx2⟩
    have hj : (j : Int) < 4 := by omega
    have hj0 : (0 : Int) ≤ j := by omega
    clear hv0 hv1 hv2 hv3 hS3 hg3 hx hx1 hx2
    go_wp2
    go_ret
    exact ⟨⟨x, rfl, HX.out⟩, HB3.out⟩
end DrawR
end Go.Proofs.YtfnkhohommahoaaDoor
