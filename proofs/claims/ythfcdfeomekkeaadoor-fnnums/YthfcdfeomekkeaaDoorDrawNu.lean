/-
  What FnNums draws: a number; a text of at most 19 bytes, or one of more than 8000. The condition: the bytes are at most 1048576.
-/
import Derived.Test.YthfcdfeomekkeaaDoorDraw2
import Derived.Lib.ConvBytes
namespace Go.Proofs.YthfcdfeomekkeaaDoor
open Go.ChangeShapes Go.WideShapes Go.ChangeAt Go.RowKit
set_option linter.unusedVariables false
namespace DrawR
theorem below_srcN {w w1 w2 : World} (hb : Below w.heap.size w w1) (hg : w1.grownBy w2 (some w.heap.size)) : Below w.heap.size w w2 :=
  hb.grown hg hb.size (fun k e => by simp only [Option.some.injEq] at e; omega)
theorem gtr {w w1 w2 : World} {g : Option Nat} (h1 : w.grownBy w1 g) (h2 : w1.grownBy w2 g) : w.grownBy w2 g :=
  ⟨h2.os.trans h1.os, h2.tape.trans h1.tape, h2.output.trans h1.output, Nat.le_trans h1.size h2.size, fun k hk hne => (h2.block k (by have := h1.size; omega) hne).trans (h1.block k hk hne)⟩
/-- A number that was drawn. -/
def NumOutD (e : Ending) : Prop := ∃ v : Int, e = .returned (.int .i64 v) ∧ -9223372036854775808 ≤ v ∧ v ≤ 9223372036854775807
set_option maxHeartbeats 4000000 in
theorem any_any (ao : Option Addr) (len cap g : Nat) (w : World) (hS : Src ao len cap g w) :
    Calls Tryd.prog 13 #[.pointer (some ⟨g, 0, none⟩)] w fun e w' => NumOutD e ∧ w.grownBy w' (some g) := by
  have HS := hid_intro hS
  clear hS
  go_enter Tryd.func13, Tryd.ntmps13
  go_wp2_with fail
  refine (one_any ao len cap g 4 _ (by omega) HS.out).mono ?_
  rintro e w1 ⟨⟨b, rfl⟩, hS, hg⟩
  have HS1 := hid_intro hS
  have HG1 := hid_intro hg
  clear hS hg
  cases b
  · go_wp2_with fail
    refine (n_any ao len cap g 1099511627776 _ (by omega) HS1.out).mono ?_
    rintro e w2 ⟨v, rfl, v0, _, v2, hS, hg⟩
    have v3 : v < 1099511627776 := v2 (by omega)
    have HG2 := hid_intro (gtr HG1.out hg)
    clear hS hg v2
    go_wp2_with fail
    go_ret
    exact ⟨⟨_, rfl, by omega, by omega⟩, HG2.out⟩
  · go_wp2_with fail
    refine (edge_any ao len cap g _ HS1.out).mono ?_
    rintro e w2 ⟨⟨v, rfl, v0, v1⟩, hS, hg⟩
    have HG2 := hid_intro (gtr HG1.out hg)
    clear hS hg
    go_wp2_with fail
    go_ret
    exact ⟨⟨_, rfl, v0, v1⟩, HG2.out⟩
set_option maxHeartbeats 4000000 in
theorem drawPutNum (ao : Option Addr) (len cap : Nat) (w : World) (hlen : len ≤ 1048576) (hB : Bytes ao len w) :
    Calls Tryd.prog 4 #[.slice ao len cap] w fun e w' => NumOutD e ∧ Below w.heap.size w w' := by
  have H1 := hid_intro (source_any ao len cap w hlen hB)
  clear hB
  go_enter Tryd.func4, Tryd.ntmps4
  go_wp2_with fail
  refine H1.out.mono ?_
  rintro e w1 ⟨rfl, hS, hb⟩
  have HS := hid_intro hS
  have HB := hid_intro hb
  clear hS hb
  go_wp2_with fail
  refine (any_any ao len cap _ _ HS.out).mono ?_
  rintro e w2 ⟨⟨v, rfl, v0, v1⟩, hg⟩
  have HB2 := hid_intro (below_srcN HB.out hg)
  clear hg
  go_wp2_with fail
  go_ret
  exact ⟨⟨_, rfl, v0, v1⟩, HB2.out⟩
/-- A text that was drawn. -/
def TxtOutD (e : Ending) : Prop := ∃ t : ByteArray, e = .returned (.string t) ∧ (t.size ≤ 19 ∨ (8000 < t.size ∧ t.size ≤ 30000))
theorem info8D : (Tryd.prog.info? 5).map (fun i => (i.zero, i.size, i.bytes)) = some (some (.int .u8 0), 1, 1) := by kernel_rfl
set_option maxHeartbeats 4000000 in
theorem drawPutText (ao : Option Addr) (len cap : Nat) (w : World) (hlen : len ≤ 1048576) (hB : Bytes ao len w) :
    Calls Tryd.prog 8 #[.slice ao len cap] w fun e w' => TxtOutD e ∧ Below w.heap.size w w' := by
  obtain ⟨i0, hi, hz0, hz1, hz2⟩ := info_parts info8D
  have H1 := hid_intro (source_any ao len cap w hlen hB)
  clear hB
  go_enter Tryd.func8, Tryd.ntmps8
  go_wp2_with fail
  refine H1.out.mono ?_
  rintro e w1 ⟨rfl, hS, hb⟩
  have HS := hid_intro hS
  have HB := hid_intro hb
  clear hS hb
  go_wp2_with fail
  refine (one_any ao len cap _ 8 _ (by omega) HS.out).mono ?_
  rintro e w2 ⟨⟨b, rfl⟩, hS, hg⟩
  have HS2 := hid_intro hS
  have HB2 := hid_intro (below_srcN HB.out hg)
  clear hS hg
  cases b
  · go_wp2_with fail
    refine (n_any ao len cap _ 20 _ (by omega) HS2.out).mono ?_
    rintro e w3 ⟨v, rfl, v0, _, v2, hS, hg⟩
    have v3 : v < 20 := v2 (by omega)
    obtain ⟨k, rfl⟩ : ∃ k : Nat, v = k := ⟨v.toNat, by omega⟩
    have HS3 := hid_intro hS
    have HB3 := hid_intro (below_srcN HB2.out hg)
    clear hS hg v2
    go_wp2_with fail
    refine (bytes_any ao len cap _ k _ (by omega) HS3.out).mono ?_
    rintro e w4 ⟨⟨t, rfl, ht⟩, _, hg⟩
    have HB4 := hid_intro (below_srcN HB3.out hg)
    have HT := hid_intro ht
    clear hg ht
    go_wp2_with fail
    go_ret
    exact ⟨⟨_, rfl, .inl (by have := HT.out; omega)⟩, HB4.out⟩
  · go_wp2_with fail
    refine (n_any ao len cap _ 3 _ (by omega) HS2.out).mono ?_
    rintro e w3 ⟨v, rfl, v0, _, v2, hS, hg⟩
    have v3 : v < 3 := v2 (by omega)
    obtain ⟨k, rfl⟩ : ∃ k : Nat, v = k := ⟨v.toNat, by omega⟩
    have HB3 := hid_intro (below_srcN HB2.out hg)
    clear hS hg v2
    go_wp2_with (at_make; refine wpList_make_full _ rfl _ _ 22 rfl w.heap.size 5 i0 (.int .u8 0) 1 Tryd.underlying22 hi hz0 hz1 .i64 .i64 _ _ (19999 + k) rfl rfl ?e1 ?e2 ?b2 ?b3 ?b4 ?_)
    case e1 => omega
    case e2 => omega
    case b2 => rw [hz2]; omega
    case b3 => unfold maxLen; omega
    case b4 => exact HB3.out.size
    intro w4 hown hgrow
    have hx : (madeCells #[Value.int IntKind.u8 0] (19999 + k)).toList = (List.replicate (19999 + k) (0 : Int)).map (Value.int .u8) := by
      rw [toList_madeCells_one, List.map_replicate]
    rw [hx] at hown
    obtain ⟨g2, cap2, hv, hconv⟩ := own_string hown (by simp)
    have HB4 := hid_intro (HB3.out.grown hgrow HB3.out.size (fun k e => by cases e))
    simp only [Value.slice.injEq, Option.some.injEq, Addr.mk.injEq, and_true, true_and] at hv
    obtain ⟨rfl, rfl⟩ := hv
    clear hown hgrow hx
    go_wp2
    go_ret
    exact ⟨⟨_, rfl, .inr (by rw [strOfNums_size, List.length_replicate]; omega)⟩, HB4.out⟩
end DrawR
end Go.Proofs.YthfcdfeomekkeaaDoor
