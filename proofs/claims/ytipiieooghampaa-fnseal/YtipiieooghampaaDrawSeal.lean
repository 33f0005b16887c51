/-
  What FnSeal draws: a text of at most 19997 bytes; a number and a text of at most 8 bytes; a number out of a code. The condition: the bytes are at most 1048576.
-/
import Derived.Test.YtipiieooghampaaDraw2
import Derived.Test.YtipiieooghampaaCrcInj
namespace Go.Proofs.Ytipiieooghampaa
open Go.ChangeShapes Go.WideShapes Go.ChangeAt Go.RowKit
set_option linter.unusedVariables false
namespace DrawR
theorem below_src {w w1 w2 : World} (hb : Below w.heap.size w w1) (hg : w1.grownBy w2 (some w.heap.size)) : Below w.heap.size w w2 :=
  hb.grown hg hb.size (fun k e => by simp only [Option.some.injEq] at e; omega)
/-- A number out of a code: below its bound. -/
def LwOut (most : Int) (e : Ending) : Prop := ∃ v : Int, e = .returned (.int .i64 v) ∧ 0 ≤ v ∧ (1 < most → v < most)
set_option maxHeartbeats 2000000 in
theorem lwAt_any (ao : Option Addr) (len cap : Nat) (a : Nat) (most : Int) (w : World) (hlen : len ≤ 1048576) (ha : a ≤ 100) (hB : Bytes ao len w) :
    Calls Try.prog 7 #[.slice ao len cap, .int .i64 a, .int .i64 most] w fun e w' => LwOut most e ∧ w' = w := by
  by_cases hm : most ≤ 1
  · go_enter Try.func7, Try.ntmps7
    go_wp2
    go_ret
    exact ⟨⟨0, rfl, by omega, fun h => by omega⟩, rfl⟩
  by_cases h0 : len = 0
  · subst h0
    go_enter Try.func7, Try.ntmps7
    go_wp2
    go_ret
    exact ⟨⟨0, rfl, by omega, fun h => by omega⟩, rfl⟩
  rcases hB with h1 | ⟨ab, aoff, rfl, hab, hcell⟩
  · exact absurd h1 h0
  have hne : ((len : Int) == 0) = false := by simp; omega
  have hmod : (a : Int) % (len : Int) = ((a % len : Nat) : Int) := by omega
  have hlt : a % len < len := Nat.mod_lt _ (by omega)
  obtain ⟨z, hz, hz1, hz2⟩ := hcell (a % len) hlt
  have hp : (0 : Int) < (len : Int) := by omega
  have HM : Hid (1 < most) := (show 1 < most by omega)
  clear hcell
  obtain ⟨q, hq⟩ : ∃ q, q = a % len := ⟨_, rfl⟩
  rw [← hq] at hmod hlt hz
  clear hq
  have hlt2 : (q : Int) < (len : Int) := by omega
  go_enter Try.func7, Try.ntmps7
  go_wp2
  go_ret
  have h1 := HM.out
  exact ⟨⟨z % most, rfl, Int.emod_nonneg _ (by omega), fun _ => Int.emod_lt_of_pos _ (by omega)⟩, rfl⟩
/-- A text of at most n bytes. -/
def TextOut (n : Nat) (e : Ending) : Prop := ∃ t : ByteArray, e = .returned (.string t) ∧ t.size ≤ n
set_option maxRecDepth 100000 in
set_option maxHeartbeats 4000000 in
theorem drawSeal_any (ao : Option Addr) (len cap : Nat) (w : World) (hlen : len ≤ 1048576) (hB : Bytes ao len w) :
    Calls Try.prog 4 #[.slice ao len cap] w fun e w' => TextOut 19997 e ∧ Below w.heap.size w w' := by
  obtain ⟨i0, hi, hz0, hz1, hz2⟩ := info_parts Tryinfo5
  have h1 := source_any ao len cap w hlen hB
  clear hB
  go_enter Try.func4, Try.ntmps4
  go_wp2_with (first | (go_at_call 13; refine h1.mono ?_; rintro e w1 ⟨rfl, hS1, hb1⟩; have HS1 := hid_intro hS1; have HB1 := hid_intro hb1; clear hS1 hb1) | (go_at_call 14; refine (one_any ao len cap w.heap.size 30 _ (by omega) HS1.out).mono ?_; rintro e w2 ⟨⟨b, rfl⟩, hS2, hg2⟩; have HS2 := hid_intro hS2; have HB2 := hid_intro (below_src HB1.out hg2); clear hS2 hg2))
  · refine (n_any ao len cap w.heap.size 3 _ (by omega) HS2.out).mono ?_
    rintro e w3 ⟨v, rfl, hv0, hv1, hv2, hS3, hg3⟩
    have hv3 : v < 3 := hv2 (by omega)
    have HB3 := hid_intro (below_src HB2.out hg3)
    clear hv1 hv2 hS3 hg3
    obtain ⟨j, rfl⟩ : ∃ j : Nat, v = j := ⟨v.toNat, by omega⟩
    go_wp2_with (at_make; refine wpList_make_full _ rfl _ _ 22 rfl w.heap.size 5 i0 (.int .u8 0) 1 Try.underlying22 hi hz0 hz1 .i64 .i64 _ _ (19995 + j) rfl rfl ?e1 ?e2 ?b2 ?b3 ?b4 ?_)
    case e1 => omega
    case e2 => omega
    case b2 => rw [hz2]; omega
    case b3 => unfold maxLen; omega
    case b4 => exact HB3.out.size
    intro w4 hown hgrow
    have hx : (madeCells #[Value.int IntKind.u8 0] (19995 + j)).toList = (List.replicate (19995 + j) (0 : Int)).map (Value.int .u8) := by
      rw [toList_madeCells_one, List.map_replicate]
    rw [hx] at hown
    obtain ⟨g2, cap2, hv, hconv⟩ := own_string hown (by simp)
    have HB4 := hid_intro (HB3.out.grown hgrow HB3.out.size (fun k e => by cases e))
    simp only [Value.slice.injEq, Option.some.injEq, Addr.mk.injEq, and_true, true_and] at hv
    obtain ⟨rfl, rfl⟩ := hv
    clear hown hgrow hx
    go_wp2
    go_ret
    exact ⟨⟨_, rfl, by rw [strOfNums_size, List.length_replicate]; omega⟩, HB4.out⟩
  · refine (n_any ao len cap w.heap.size 20 _ (by omega) HS2.out).mono ?_
    rintro e w3 ⟨v, rfl, hv0, hv1, hv2, hS3, hg3⟩
    have hv3 : v < 20 := hv2 (by omega)
    have HS3 := hid_intro hS3
    have HB3 := hid_intro (below_src HB2.out hg3)
    clear hv1 hv2 hS3 hg3
    obtain ⟨j, rfl⟩ : ∃ j : Nat, v = j := ⟨v.toNat, by omega⟩
    go_wp2_with (go_at_call 16; refine (bytes_any ao len cap w.heap.size j _ (by omega) HS3.out).mono ?_; rintro e w4 ⟨⟨t, rfl, ht⟩, hS4, hg4⟩; have HB4 := hid_intro (below_src HB3.out hg4); have HT := hid_intro ht; clear hS4 hg4 ht)
    go_ret
    exact ⟨⟨t, rfl, by rw [HT.out]; omega⟩, HB4.out⟩
/-- A number of int64, and a text of at most eight bytes. -/
def PairOut (e : Ending) : Prop := ∃ (c : Int) (t : ByteArray), e = .returned (.tuple #[.int .i64 c, .string t]) ∧ t.size ≤ 8 ∧ -9223372036854775808 ≤ c ∧ c ≤ 9223372036854775807
set_option maxRecDepth 100000 in
set_option maxHeartbeats 4000000 in
theorem drawMore_any (ao : Option Addr) (len cap : Nat) (w : World) (hlen : len ≤ 1048576) (hB : Bytes ao len w) :
    Calls Try.prog 9 #[.slice ao len cap] w fun e w' => PairOut e ∧ Below w.heap.size w w' := by
  have h1 := source_any ao len cap w hlen hB
  clear hB
  go_enter Try.func9, Try.ntmps9
  go_wp2_with (first | (go_at_call 13; refine h1.mono ?_; rintro e w1 ⟨rfl, hS1, hb1⟩; have HS1 := hid_intro hS1; have HB1 := hid_intro hb1; clear hS1 hb1))
  refine (n_any ao len cap w.heap.size 9 _ (by omega) HS1.out).mono ?_
  rintro e w2 ⟨v, rfl, hv0, hv1, hv2, hS2, hg2⟩
  have hv3 : v < 9 := hv2 (by omega)
  have HS2 := hid_intro hS2
  have HB2 := hid_intro (below_src HB1.out hg2)
  clear hv1 hv2 hS2 hg2 HS1 HB1
  obtain ⟨j, rfl⟩ : ∃ j : Nat, v = j := ⟨v.toNat, by omega⟩
  go_wp2_with (first | (go_at_call 16; refine (bytes_any ao len cap w.heap.size j _ (by omega) HS2.out).mono ?_; rintro e w3 ⟨⟨t, rfl, ht⟩, hS3, hg3⟩; have HS3 := hid_intro hS3; have HB3 := hid_intro (below_src HB2.out hg3); have HT := hid_intro (show t.size ≤ 8 by omega); clear hS3 hg3 ht) | (go_at_call 14; refine (one_any ao len cap w.heap.size 5 _ (by omega) HS3.out).mono ?_; rintro e w4 ⟨⟨b, rfl⟩, hS4, hg4⟩; have HS4 := hid_intro hS4; have HB4 := hid_intro (below_src HB3.out hg4); clear hS4 hg4))
  · go_wp2_with (go_at_call 21; refine (edge_any ao len cap w.heap.size _ HS4.out).mono ?_; rintro e w5 ⟨⟨x, rfl, hx1, hx2⟩, hS5, hg5⟩; have HB5 := hid_intro (below_src HB4.out hg5); clear hS5 hg5)
    go_ret2
    exact ⟨⟨x, t, rfl, HT.out, hx1, hx2⟩, HB5.out⟩
  · refine (n_any ao len cap w.heap.size 9 _ (by omega) HS4.out).mono ?_
    rintro e w5 ⟨v, rfl, hv0', hv1', hv2', hS5, hg5⟩
    have hv5 : v < 9 := hv2' (by omega)
    have HS5 := hid_intro hS5
    have HB5 := hid_intro (below_src HB4.out hg5)
    clear hv1' hv2' hS5 hg5
    obtain ⟨i, rfl⟩ : ∃ i : Nat, v = i := ⟨v.toNat, by omega⟩
    go_wp2_with (first | (go_at_call 16; refine (bytes_any ao len cap w.heap.size i _ (by omega) HS5.out).mono ?_; rintro e w6 ⟨⟨t2, rfl, ht2⟩, hS6, hg6⟩; have HB6 := hid_intro (below_src HB5.out hg6); clear hS6 hg6) | (go_at_call 22; refine (CrcR.spec_crc t2 _ (by omega)).mono ?_; rintro e w7 ⟨rfl, rfl⟩))
    go_ret2
    have hb := SealR.crcV_bd 0 t2
    exact ⟨⟨_, t, rfl, HT.out, by omega, by omega⟩, HB6.out⟩
end DrawR
end Go.Proofs.Ytipiieooghampaa
