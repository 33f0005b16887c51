/-
  Drawn numbers, further: each lies within an int64; drawing writes the source's own block alone. The condition: the bytes are at most 1048576.
-/
import Derived.Test.YtaihfidbpkbnkaaDoorDrawFix
import Derived.Deep.RegionWith
namespace Go.Proofs.YtaihfidbpkbnkaaDoor
open Go.ChangeShapes Go.WideShapes Go.ChangeAt Go.RowKit
set_option linter.unusedVariables false
namespace DrawR
theorem Src.drew {ao : Option Addr} {len cap g : Nat} {w : World} (h : Src ao len cap g w) : Src ao len cap g w.drew := h
def percents : List Int := [-1, 1000, 1001]
theorem percents_at (j : Nat) (h : j < 3) : ∃ x : Int, (percents.map (Value.int .i64))[j]? = some (.int .i64 x) ∧ I64 x := by
  match j, h with
  | 0, _ => exact ⟨_, rfl, by decide, by decide⟩
  | 1, _ => exact ⟨_, rfl, by decide, by decide⟩
  | 2, _ => exact ⟨_, rfl, by decide, by decide⟩
theorem percents_get (j : Nat) (h : j < 3) (x : Int) (hx : (percents.map (Value.int .i64))[j]? = some (.int .i64 x)) : ([Value.int IntKind.i64 (-1), Value.int IntKind.i64 1000, Value.int IntKind.i64 1001] : List Value)[j] = .int .i64 x := by
  match j, h, hx with
  | 0, _, hx => simpa [percents] using hx
  | 1, _, hx => simpa [percents] using hx
  | 2, _, hx => simpa [percents] using hx
theorem percent_cell (w : World) (T : TypeId) (j : Nat) (x : Int) (hx : (percents.map (Value.int .i64))[j]? = some (.int .i64 x)) : (w.alloc (.cells (percents.map (Value.int .i64)).toArray T)).cell? ⟨w.heap.size, j, none⟩ = some (.int .i64 x) := by
  rw [World.cell?_alloc_at _ _ _ _ rfl]
  simpa using hx
set_option maxRecDepth 100000 in
set_option maxHeartbeats 4000000 in
theorem dpercent_any (ao : Option Addr) (len cap : Nat) (w : World) (hlen : len ≤ 1048576) (hB : Bytes ao len w) :
    Calls Tryd.prog 22 #[.slice ao len cap] w fun e w' => Draws2 e ∧ Below w.heap.size w w' := by
  have h1 := source_any ao len cap w hlen hB
  clear hB
  go_enter Tryd.func22, Tryd.ntmps22
  go_wp2_with fail
  refine h1.mono ?_
  rintro e w1 ⟨rfl, hS1, hb1⟩
  have HS1 := hid_intro hS1
  have HB1 := hid_intro hb1
  clear hS1 hb1 h1
  go_wp2_with fail
  refine (some_any ao len cap w.heap.size _ HS1.out).mono ?_
  rintro e w2 ⟨⟨a, rfl, hx⟩, hS, hg⟩
  have Ha := hid_intro hx
  have HS2 := hid_intro hS
  have HB2 := hid_intro (below_own HB1.out hg)
  clear hx hS hg
  go_wp2_with fail
  refine (one_any ao len cap w.heap.size 6 _ (by omega) HS2.out).mono ?_
  rintro e w3 ⟨⟨q, rfl⟩, hS, hg⟩
  have HS3 := hid_intro hS
  have HB3 := hid_intro (below_own HB2.out hg)
  clear hS hg
  cases q
  · go_wp2_with fail
    refine (n_any ao len cap w.heap.size 200 _ (by omega) HS3.out).mono ?_
    rintro e w4 ⟨p, rfl, hy0, hy1, hy2, hS, hg⟩
    have hy3 : p < 200 := hy2 (by omega)
    have Hp : Hid (I64 (p)) := hid_intro (by unfold I64; omega)
    have ep : wrap64 (p) = p := by unfold wrap64; omega
    have HS4 := hid_intro hS
    have HB4 := hid_intro (below_own HB3.out hg)
    clear hy0 hy1 hy2 hy3 hS hg
    go_wp2
    go_ret2
    exact ⟨⟨a, p, rfl, Ha.out, Hp.out⟩, HB4.out⟩
  · have hgl1 := HS3.out.lt
    go_wp2_with fail
    have hne : (some w.heap.size : Option Nat) ≠ some w3.heap.size := by simp; omega
    go_region_with (first | (go_at_call 58; refine (n_any ao len cap w.heap.size 3 _ (by omega) (Src.drew (HS3.out.alloc _))).mono ?_; rintro e w4 ⟨v, rfl, hv0, hv1, hv2, hS2, hg2⟩; have hv3 : v < 3 := hv2 (by omega); obtain ⟨j, hj⟩ : ∃ j : Nat, v = j := ⟨v.toNat, (by omega)⟩; subst hj; obtain ⟨x, hx, hx1⟩ := percents_at j (by omega); have HX := hid_intro hx1; have HXX := hid_intro hx; have HG := hid_intro hg2; have hj : (j : Int) < 3 := (by omega); have hj0 : (0 : Int) ≤ j := (by omega); have hjn : j < 3 := (by omega); have hcell : w4.cell? ⟨w3.heap.size, j, none⟩ = some (.int .i64 x) := (hg2.cell (a := ⟨w3.heap.size, j, none⟩) (percent_cell w3 2 j x hx) (Ne.symm hne)); clear hv0 hv1 hv2 hv3 hS2 hg2 hx hx1) | (go_at_call 58; (refine (n_any ao len cap w.heap.size 3 _ (by omega) (Src.drew HS3.out)).mono ?_; rintro e w4 ⟨v, rfl, hv0, hv1, hv2, hS2, hg2⟩; have hv3 : v < 3 := hv2 (by omega); obtain ⟨j, hj⟩ : ∃ j : Nat, v = j := ⟨v.toNat, (by omega)⟩; subst hj; obtain ⟨x, hx, hx1⟩ := percents_at j (by omega); have HX := hid_intro hx1; have HXX := hid_intro hx; have HG := hid_intro hg2; have hj : (j : Int) < 3 := (by omega); have hj0 : (0 : Int) ≤ j := (by omega); have hjn : j < 3 := (by omega); clear hv0 hv1 hv2 hv3 hS2 hg2 hx hx1)))
    · have HB4 := hid_intro (below_own ((HB3.out.alloc HB3.out.size _).drew) HG.out)
      clear HG hne
      go_wp2
      go_ret2
      exact ⟨⟨a, x, rfl, Ha.out, HX.out⟩, HB4.out⟩
    · have HB4 := hid_intro (below_own (HB3.out.drew) HG.out)
      rw [percents_get j hjn x HXX.out]
      clear HG hne
      go_wp2
      go_ret2
      exact ⟨⟨a, x, rfl, Ha.out, HX.out⟩, HB4.out.alloc HB4.out.size _⟩
end DrawR
end Go.Proofs.YtaihfidbpkbnkaaDoor
