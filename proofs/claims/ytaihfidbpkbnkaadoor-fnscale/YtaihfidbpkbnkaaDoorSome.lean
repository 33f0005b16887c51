/-
  Drawn numbers: each lies within an int64; drawing writes the source's own block alone. The condition: the bytes are at most 1048576.
-/
import Derived.Test.YtaihfidbpkbnkaaDoorDraw2
namespace Go.Proofs.YtaihfidbpkbnkaaDoor
open Go.ChangeShapes Go.WideShapes Go.ChangeAt Go.RowKit
set_option linter.unusedVariables false
namespace DrawR
theorem below_own {w w1 w2 : World} (hb : Below w.heap.size w w1) (hg : w1.grownBy w2 (some w.heap.size)) : Below w.heap.size w w2 :=
  hb.grown hg hb.size (fun k e => by cases e; exact Nat.le_refl _)
def I64 (v : Int) : Prop := -9223372036854775808 ≤ v ∧ v ≤ 9223372036854775807
def limits : List Int := [-1000000000000000, 1000000000000000, 1000000000000001, -1000000000000001, 0]
theorem limits_bd (j : Nat) (h : j < 5) : ∃ x : Int, (limits.map (Value.int .i64))[j]? = some (.int .i64 x) ∧ -9223372036854775808 ≤ x ∧ x ≤ 9223372036854775807 := by
  match j, h with
  | 0, _ => exact ⟨_, rfl, by decide, by decide⟩
  | 1, _ => exact ⟨_, rfl, by decide, by decide⟩
  | 2, _ => exact ⟨_, rfl, by decide, by decide⟩
  | 3, _ => exact ⟨_, rfl, by decide, by decide⟩
  | 4, _ => exact ⟨_, rfl, by decide, by decide⟩
theorem limit_cell (w : World) (T : TypeId) (j : Nat) (x : Int) (hx : (limits.map (Value.int .i64))[j]? = some (.int .i64 x)) : (w.alloc (.cells (limits.map (Value.int .i64)).toArray T)).cell? ⟨w.heap.size, j, none⟩ = some (.int .i64 x) := by
  rw [World.cell?_alloc_at _ _ _ _ rfl]
  simpa using hx
theorem sw64 (x : Int) (h : I64 x) : wrap64 x = x := by unfold wrap64; unfold I64 at h; omega
theorem prod_bd (a b : Int) (a0 : 0 ≤ a) (a1 : a < 2000000) (b0 : 0 ≤ b) (b1 : b < 1000000) : I64 (a * b) := by
  have h1 : 0 ≤ a * b := Int.mul_nonneg a0 b0
  have h2 : a * b ≤ 2000000 * 1000000 := Int.mul_le_mul (by omega) (by omega) b0 (by omega)
  unfold I64; omega
theorem src_grown_trans {w w1 w2 : World} {g : Nat} (h1 : w.grownBy w1 (some g)) (h2 : w1.grownBy w2 (some g)) : w.grownBy w2 (some g) := Lib.grownBy_trans h1 h2
def SomeOut (ao : Option Addr) (len cap g : Nat) (w : World) (e : Ending) (w' : World) : Prop := (∃ v : Int, e = .returned (.int .i64 v) ∧ I64 v) ∧ Src ao len cap g w' ∧ w.grownBy w' (some g)
set_option maxRecDepth 100000 in
set_option maxHeartbeats 4000000 in
theorem some_any (ao : Option Addr) (len cap g : Nat) (w : World) (hS : Src ao len cap g w) :
    Calls Tryd.prog 51 #[.pointer (some ⟨g, 0, none⟩)] w fun e w' => SomeOut ao len cap g w e w' := by
  have HS := hid_intro hS
  have hgl := hS.lt
  clear hS
  go_enter Tryd.func51, Tryd.ntmps51
  go_wp2_with fail
  refine (n_any ao len cap g 6 _ (by omega) HS.out).mono ?_
  rintro e w1 ⟨v, rfl, hv0, hv1, hv2, hS1, hg1⟩
  have hv3 : v < 6 := hv2 (by omega)
  have HS1 := hid_intro hS1
  have HG1 := hid_intro hg1
  have hgl1 := hS1.lt
  clear hv1 hv2 hS1 hg1 HS
  rcases (show v = 0 ∨ v = 1 ∨ v = 2 ∨ v = 3 ∨ ((v == 0) = false ∧ (v == 1) = false ∧ (v == 2) = false ∧ (v == 3) = false) by simp; omega) with rfl | rfl | rfl | rfl | ⟨z0, z1, z2, z3⟩
  · clear hv0 hv3
    go_wp2_with fail
    refine (n_any ao len cap g 5 _ (by omega) (HS1.out.alloc _)).mono ?_
    rintro e w2 ⟨v, rfl, hv0, hv1, hv2, hS2, hg2⟩
    have hv3 : v < 5 := hv2 (by omega)
    obtain ⟨j, rfl⟩ : ∃ j : Nat, v = j := ⟨v.toNat, by omega⟩
    obtain ⟨x, hx, hx1, hx2⟩ := limits_bd j (by omega)
    have hcell : w2.cell? ⟨w1.heap.size, j, none⟩ = some (.int .i64 x) := hg2.cell (a := ⟨w1.heap.size, j, none⟩) (limit_cell w1 2 j x hx) (by simp; omega)
    have HS2 := hid_intro hS2
    have HG2 := hid_intro (src_grown_trans HG1.out (Lib.grownBy_trans (World.grownBy_alloc w1 _ _) hg2))
    have HX : Hid (I64 x) := hid_intro ⟨hx1, hx2⟩
    have hj : (j : Int) < 5 := by omega
    have hj0 : (0 : Int) ≤ j := by omega
    clear hv0 hv1 hv2 hv3 hS2 hg2 hx hx1 hx2
    go_wp2
    go_ret
    exact ⟨⟨x, rfl, HX.out⟩, HS2.out, HG2.out⟩
  · go_wp2_with fail
    refine (edge_any ao len cap g _ HS1.out).mono ?_
    rintro e w2 ⟨⟨x, rfl, hx⟩, hS2, hg2⟩
    have HX := hid_intro hx
    have HS2 := hid_intro hS2
    have HG2 := hid_intro (src_grown_trans HG1.out hg2)
    clear hx hS2 hg2
    go_wp2
    go_ret
    exact ⟨⟨x, rfl, HX.out⟩, HS2.out, HG2.out⟩
  · go_wp2_with fail
    refine (n_any ao len cap g 2000000 _ (by omega) HS1.out).mono ?_
    rintro e w2 ⟨x, rfl, hx0, hx1, hx2, hS2, hg2⟩
    have hx3 : x < 2000000 := hx2 (by omega)
    have HS2 := hid_intro hS2
    have HG2 := hid_intro (src_grown_trans HG1.out hg2)
    clear hx1 hx2 hS2 hg2
    go_wp2_with fail
    refine (n_any ao len cap g 1000000 _ (by omega) HS2.out).mono ?_
    rintro e w3 ⟨y, rfl, hy0, hy1, hy2, hS3, hg3⟩
    have hy3 : y < 1000000 := hy2 (by omega)
    have HS3 := hid_intro hS3
    have HG3 := hid_intro (src_grown_trans HG2.out hg3)
    have HP := hid_intro (prod_bd x y hx0 hx3 hy0 hy3)
    clear hy1 hy2 hS3 hg3 hx0 hx3 hy0 hy3
    go_wp2
    go_ret
    exact ⟨⟨x * y, ret_int (sw64 _ HP.out), HP.out⟩, HS3.out, HG3.out⟩
  · go_wp2_with fail
    refine (n_any ao len cap g 1000 _ (by omega) HS1.out).mono ?_
    rintro e w2 ⟨x, rfl, hx0, hx1, hx2, hS2, hg2⟩
    have hx3 : x < 1000 := hx2 (by omega)
    have HP : Hid (I64 (-x)) := hid_intro (by unfold I64; omega)
    have HS2 := hid_intro hS2
    have HG2 := hid_intro (src_grown_trans HG1.out hg2)
    clear hx1 hx2 hS2 hg2
    go_wp2
    go_ret
    exact ⟨⟨-x, rfl, HP.out⟩, HS2.out, HG2.out⟩
  · go_wp2_with fail
    refine (n_any ao len cap g 1000 _ (by omega) HS1.out).mono ?_
    rintro e w2 ⟨x, rfl, hx0, hx1, hx2, hS2, hg2⟩
    have hx3 : x < 1000 := hx2 (by omega)
    have HP : Hid (I64 x) := hid_intro (by unfold I64; omega)
    have HS2 := hid_intro hS2
    have HG2 := hid_intro (src_grown_trans HG1.out hg2)
    clear hx1 hx2 hS2 hg2
    go_wp2
    go_ret
    exact ⟨⟨x, rfl, HP.out⟩, HS2.out, HG2.out⟩
def Draws1 (e : Ending) : Prop := ∃ a : Int, e = .returned (.int .i64 a) ∧ I64 a
def Draws2 (e : Ending) : Prop := ∃ a b : Int, e = .returned (.tuple #[.int .i64 a, .int .i64 b]) ∧ I64 a ∧ I64 b
def Draws3 (e : Ending) : Prop := ∃ a b c : Int, e = .returned (.tuple #[.int .i64 a, .int .i64 b, .int .i64 c]) ∧ I64 a ∧ I64 b ∧ I64 c
def Draws4 (e : Ending) : Prop := ∃ a b c d : Int, e = .returned (.tuple #[.int .i64 a, .int .i64 b, .int .i64 c, .int .i64 d]) ∧ I64 a ∧ I64 b ∧ I64 c ∧ I64 d
set_option maxRecDepth 100000 in
set_option maxHeartbeats 4000000 in
theorem dplus_any (ao : Option Addr) (len cap : Nat) (w : World) (hlen : len ≤ 1048576) (hB : Bytes ao len w) :
    Calls Tryd.prog 8 #[.slice ao len cap] w fun e w' => Draws2 e ∧ Below w.heap.size w w' := by
  have h1 := source_any ao len cap w hlen hB
  clear hB
  go_enter Tryd.func8, Tryd.ntmps8
  go_wp2_with fail
  refine h1.mono ?_
  rintro e w1 ⟨rfl, hS1, hb1⟩
  have HS1 := hid_intro hS1
  have HB1 := hid_intro hb1
  clear hS1 hb1 h1
  go_wp2_with fail
  refine (some_any ao len cap w.heap.size _ HS1.out).mono ?_
  rintro e w2 ⟨⟨x1, rfl, hx⟩, hS, hg⟩
  have HX1 := hid_intro hx
  have HS2 := hid_intro hS
  have HB2 := hid_intro (below_own HB1.out hg)
  clear hx hS hg
  go_wp2_with fail
  refine (some_any ao len cap w.heap.size _ HS2.out).mono ?_
  rintro e w3 ⟨⟨x2, rfl, hx⟩, hS, hg⟩
  have HX2 := hid_intro hx
  have HS3 := hid_intro hS
  have HB3 := hid_intro (below_own HB2.out hg)
  clear hx hS hg
  go_wp2
  go_ret2
  exact ⟨⟨x1, x2, rfl, HX1.out, HX2.out⟩, HB3.out⟩
end DrawR
end Go.Proofs.YtaihfidbpkbnkaaDoor
