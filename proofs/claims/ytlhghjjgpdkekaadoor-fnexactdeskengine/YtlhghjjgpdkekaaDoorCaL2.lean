/-
  The law's own copy of a list of meters, and two lists held against each other. The condition: at most 1048576 meters, each of at most 1048576 tiers.
-/
import Derived.Test.YtlhghjjgpdkekaaDoorCaL
namespace Go.Proofs.YtlhghjjgpdkekaaDoor
open Go.ChangeShapes Go.WideShapes Go.ChangeAt Go.RowKit
set_option linter.unusedVariables false
namespace CatR
open EvtR (Pt cell_put cell_far)
theorem infoM : (Tryd.prog.info? 39).map (fun i => (i.zero, i.size, i.bytes)) = some (some (.agg #[.string ⟨#[]⟩, .int .i64 0, .bool false, .int .i64 0, .int .i64 0, .slice none 0 0]), 6, 72) := by kernel_rfl
set_option maxHeartbeats 4000000 in
theorem eqMes_any (ao bo : Option Addr) (len cap cap' : Nat) (ms : List Me) (w : World) (hlen : len ≤ 1048576) (hS : ∀ i, i < len → (ms.getD i Me.zero).Small) (hI : Mes ao len ms w) (hJ : Mes bo len ms w) :
    Calls Tryd.prog 36 #[.slice ao len cap, .slice bo len cap'] w fun e w' => e = .returned (.bool true) ∧ Below w.heap.size w w' := by
  have HI := hid_intro hI
  have HJ := hid_intro hJ
  have HS := hid_intro hS
  clear hI hJ hS
  go_enter Tryd.func36, Tryd.ntmps36
  go_wp2_with fail
  go_loopw [5] (fun z wr => ∃ k : Nat, k ≤ len ∧ z = .int .i64 k ∧ Hid (Below w.heap.size w wr)) (fun z _ => len - (intOf z).toNat)
  case atStart => exact ⟨0, by omega, rfl, hid_intro (Below.refl _ _)⟩
  case round =>
    obtain ⟨k, hk, rfl, HW⟩ := hrel
    by_cases hlt : k < len
    · have hlt2 : (k : Int) < (len : Int) := by omega
      obtain ⟨b, off, rfl, _, ta, tc, c0, c1, c2, c3, c4, c5, hT⟩ := mes_at (HI.out.below HW.out) k hlt
      obtain ⟨b', off', rfl, _, ta', tc', e0, e1, e2, e3, e4, e5, hT'⟩ := mes_at (HJ.out.below HW.out) k hlt
      have HC := hid_intro (fun W (hW : Below wr.heap.size wr W) => eqMe_any _ _ (ms.getD k Me.zero) W (HS.out k hlt).2 ⟨ta, tc, rfl, hT.below hW⟩ ⟨ta', tc', rfl, hT'.below hW⟩)
      generalize ms.getD k Me.zero = X at *
      obtain ⟨n, g, wh, f, l, ts⟩ := X
      simp only at HC c0 c1 c2 c3 c4 c5 e0 e1 e2 e3 e4 e5
      clear hT hT'
      generalize ts.length = tl at *
      go_wp2_with fail
      go_region_with (go_at_call 64; refine (HC.out _ (Below.refl _ _).drew).mono ?_; rintro e w1 ⟨rfl, hb⟩)
      all_goals (
        have HB1 := hid_intro (HW.out.drew.trans (hb.mono HW.out.drew.size))
        clear hb c0 c1 c2 c3 c4 c5 e0 e1 e2 e3 e4 e5
        go_wp2_with fail
        go_roundw
        case rel => exact ⟨k + 1, by omega, by go_num, HB1⟩
        case measure => simp [intOf]; omega)
    · have hlt2 : ¬ (k : Int) < (len : Int) := by omega
      go_wp2_with fail
      go_ret
      exact ⟨rfl, HW.out⟩
end CatR
end Go.Proofs.YtlhghjjgpdkekaaDoor
