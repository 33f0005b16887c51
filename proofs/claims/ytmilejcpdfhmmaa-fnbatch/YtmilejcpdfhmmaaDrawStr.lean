/-
  A drawn text of some, and a text changed a little: some text, no longer than one byte more; drawing writes the source's own block alone. The condition: the bytes are at most 1048576.
-/
import Derived.Test.YtmilejcpdfhmmaaDraw2
import Derived.Deep.RegionWith
import Derived.Lib.ConvBytes
import Derived.Laws.BytesArg
namespace Go.Proofs.Ytmilejcpdfhmmaa
open Go.ChangeShapes Go.WideShapes Go.ChangeAt Go.RowKit
set_option linter.unusedVariables false
namespace DrawR
/-- A row of short texts. -/
def Strs (b n K : Nat) (w : World) : Prop := b < w.heap.size ∧ ∀ j, j < n → ∃ T : ByteArray, w.cell? ⟨b, j, none⟩ = some (.string T) ∧ T.size ≤ K
theorem Strs.grown {b n K : Nat} {w w' : World} {row : Option Nat} (h : Strs b n K w) (hg : w.grownBy w' row) (hne : some b ≠ row) : Strs b n K w' :=
  ⟨by have := hg.size; have := h.1; omega, fun j hj => by obtain ⟨T, h1, h2⟩ := h.2 j hj; exact ⟨T, hg.cell (a := ⟨b, j, none⟩) h1 hne, h2⟩⟩
/-- A text that was drawn. -/
def StrOut (K : Nat) (ao : Option Addr) (len cap g : Nat) (w : World) (e : Ending) (w' : World) : Prop := (∃ T : ByteArray, e = .returned (.string T) ∧ T.size ≤ K) ∧ Src ao len cap g w' ∧ w.grownBy w' (some g)
set_option maxRecDepth 100000 in
set_option maxHeartbeats 4000000 in
theorem pick_any (ao : Option Addr) (len cap g b n K : Nat) (w : World) (hn : 2 ≤ n) (hn2 : n ≤ 100) (hbg : b ≠ g) (hS : Src ao len cap g w) (hT : Strs b n K w) :
    Calls Try.prog 63 #[.pointer (some ⟨g, 0, none⟩), .slice (some ⟨b, 0, none⟩) n n] w fun e w' => StrOut K ao len cap g w e w' := by
  have HS := hid_intro hS
  have HT := hid_intro hT
  have hgl := hS.lt
  have hn3 : (2 : Int) ≤ (n : Int) := by omega
  have hn4 : (n : Int) ≤ 100 := by omega
  clear hS hT
  go_enter Try.func63, Try.ntmps63
  go_wp2_with fail
  refine (n_any ao len cap g n _ (by omega) HS.out).mono ?_
  rintro e w1 ⟨v, rfl, v0, _, v2, hS, hg⟩
  have v3 : v < n := v2 (by omega)
  obtain ⟨j, rfl⟩ : ∃ j : Nat, v = j := ⟨v.toNat, by omega⟩
  obtain ⟨T, hc, hK⟩ := (HT.out.grown hg (by simp; exact hbg)).2 j (by omega)
  have HS1 := hid_intro hS
  have HG1 := hid_intro hg
  have HK := hid_intro hK
  clear hS hg v2 hK
  go_wp2
  go_ret
  exact ⟨⟨T, rfl, HK.out⟩, HS1.out, HG1.out⟩
theorem conv_any (w : World) (z : Int) : (convert 22 9 (.slice (some ⟨w.heap.size, 0, none⟩) 1 1)).run Try.prog (w.alloc (Obj.cells #[.int .u8 z] 5)) = .ok (.string (strOfNums [z])) (w.alloc (Obj.cells #[.int .u8 z] 5)) := by
  refine run_convert_bytes_arg _ 22 5 Try.underlying22 Try.underlying5 w.heap.size 0 1 1 _ rfl ?_ 9 Try.underlying9
  intro i hi
  match i, hi with
  | 0, _ => simp [go_sem]
set_option maxRecDepth 100000 in
set_option maxHeartbeats 4000000 in
theorem spoil_any (ao : Option Addr) (len cap g : Nat) (t : ByteArray) (w : World) (ht : t.size ≤ 1000000) (hS : Src ao len cap g w) :
    Calls Try.prog 31 #[.pointer (some ⟨g, 0, none⟩), .string t] w fun e w' => StrOut (t.size + 1) ao len cap g w e w' := by
  have HS := hid_intro hS
  have hgl := hS.lt
  have ht2 : (t.size : Int) ≤ 1000000 := by omega
  clear hS
  go_enter Try.func31, Try.ntmps31
  go_wp2_with fail
  refine (n_any ao len cap g ((t.size : Int) + 1) _ (by omega) HS.out).mono ?_
  rintro e w1 ⟨v, rfl, v0, v1, v2, hS, hg⟩
  have v3 : v ≤ t.size := by
    by_cases h : 1 < (t.size : Int) + 1
    · have := v2 h; omega
    · have := v1 (by omega); omega
  obtain ⟨k, rfl⟩ : ∃ k : Nat, v = k := ⟨v.toNat, by omega⟩
  have hk : k ≤ t.size := by omega
  have HS1 := hid_intro hS
  have HG1 := hid_intro hg
  clear hS hg v1 v2
  go_wp2_with fail
  refine (n_any ao len cap g 17 _ (by omega) HS1.out).mono ?_
  rintro e w2 ⟨v, rfl, j0, _, j2, hS, hg⟩
  have j3 : v < 17 := j2 (by omega)
  obtain ⟨j, rfl⟩ : ∃ j : Nat, v = j := ⟨v.toNat, by omega⟩
  have hj : j < 17 := by omega
  have HS2 := hid_intro hS
  have HG2 := hid_intro (Lib.grownBy_trans HG1.out hg)
  clear hS hg j2
  have hcv := conv_any w2
  have HA : Hid (∀ o : Obj, Src ao len cap g (w2.alloc o) ∧ w.grownBy (w2.alloc o) (some g)) := hid_intro (fun o => ⟨HS2.out.alloc o, Lib.grownBy_trans HG2.out (World.grownBy_alloc w2 o _)⟩)
  have e1 : (t.extract 0 k).size = k := by rw [ByteArray.size_extract]; omega
  have e2 : (t.extract k t.size).size = t.size - k := by rw [ByteArray.size_extract]; omega
  by_cases hkl : k = t.size
  · have hkl' : (k : Int) = (t.size : Int) := by omega
    go_wp2_with fail
    have hC : (strOfNums [(((⟨#[32, 10, 48, 97, 45, 110, 44, 58, 93, 255, 40, 120, 126, 49, 128, 225, 59]⟩ : ByteArray)[j]'hj).toNat : Int)]).size = 1 := strOfNums_size _
    generalize strOfNums [(((⟨#[32, 10, 48, 97, 45, 110, 44, 58, 93, 255, 40, 120, 126, 49, 128, 225, 59]⟩ : ByteArray)[j]'hj).toNat : Int)] = C at *
    go_region
    go_wp2
    go_ret
    exact ⟨⟨_, rfl, by rw [ByteArray.size_append, hC]; omega⟩, (HA.out _).1, grown_drew (HA.out _).2⟩
  · have hkl' : ¬ (k : Int) = (t.size : Int) := by omega
    go_wp2_with fail
    have hC : (strOfNums [(((⟨#[32, 10, 48, 97, 45, 110, 44, 58, 93, 255, 40, 120, 126, 49, 128, 225, 59]⟩ : ByteArray)[j]'hj).toNat : Int)]).size = 1 := strOfNums_size _
    generalize strOfNums [(((⟨#[32, 10, 48, 97, 45, 110, 44, 58, 93, 255, 40, 120, 126, 49, 128, 225, 59]⟩ : ByteArray)[j]'hj).toNat : Int)] = C at *
    generalize (((⟨#[32, 10, 48, 97, 45, 110, 44, 58, 93, 255, 40, 120, 126, 49, 128, 225, 59]⟩ : ByteArray)[j]'hj).toNat : Int) = z at *
    have hk2 : (k : Int) + 1 ≤ (t.size : Int) := by omega
    have hk3 : (k : Int) ≤ (t.size : Int) := by omega
    have e3 : (t.extract (k + 1) t.size).size = t.size - (k + 1) := by rw [ByteArray.size_extract]; omega
    have HSZ : Hid ((t.extract 0 k ++ C ++ t.extract k t.size).size ≤ t.size + 1 ∧ (t.extract 0 k ++ t.extract (k + 1) t.size).size ≤ t.size + 1 ∧ (t.extract 0 k ++ C ++ t.extract (k + 1) t.size).size ≤ t.size + 1) := hid_intro (by
      simp only [ByteArray.size_append, e1, e2, e3, hC]
      omega)
    have hwr : IntKind.i64.wrap ((k : Int) + 1) = (k : Int) + 1 := by simp [IntKind.wrap, IntKind.bits, IntKind.signed]; omega
    refine (one_any ao len cap g 3 _ (by omega) (HA.out _).1).mono ?_
    rintro e w3 ⟨⟨q, rfl⟩, hS, hg⟩
    have HS3 := hid_intro hS
    have HG3 := hid_intro (Lib.grownBy_trans (HA.out _).2 hg)
    clear hS hg HA hcv
    cases q
    · go_wp2_with fail
      refine (one_any ao len cap g 2 _ (by omega) HS3.out).mono ?_
      rintro e w4 ⟨⟨q, rfl⟩, hS, hg⟩
      have HS4 := hid_intro hS
      have HG4 := hid_intro (Lib.grownBy_trans HG3.out hg)
      clear hS hg
      cases q
      · go_wp2_with fail
        go_region
        go_wp2
        go_ret
        exact ⟨⟨_, rfl, HSZ.out.2.2⟩, HS4.out, grown_drew HG4.out⟩
      · go_wp2_with fail
        go_region
        go_wp2
        go_ret
        exact ⟨⟨_, rfl, HSZ.out.2.1⟩, HS4.out, grown_drew HG4.out⟩
    · go_wp2_with fail
      go_region
      go_wp2
      go_ret
      exact ⟨⟨_, rfl, HSZ.out.1⟩, HS3.out, grown_drew HG3.out⟩
end DrawR
end Go.Proofs.Ytmilejcpdfhmmaa
