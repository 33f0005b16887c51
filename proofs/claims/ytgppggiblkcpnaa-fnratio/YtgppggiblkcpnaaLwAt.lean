/-
  A number out of the law's own bytes: it lies within its bound. The condition: the bytes are at most 1048576.
-/
import Derived.Test.YtgppggiblkcpnaaDraw2
import Derived.Lib.ConvBytes
namespace Go.Proofs.Ytgppggiblkcpnaa
open Go.ChangeShapes Go.WideShapes Go.ChangeAt Go.RowKit
set_option linter.unusedVariables false
namespace DrawR
/-- A number out of a code: below its bound. -/
def LwOut (most : Int) (e : Ending) : Prop := ∃ v : Int, e = .returned (.int .i64 v) ∧ 0 ≤ v ∧ (1 < most → v < most)
set_option maxHeartbeats 2000000 in
theorem lwAt_any (ao : Option Addr) (len cap : Nat) (a : Nat) (most : Int) (w : World) (hlen : len ≤ 1048576) (ha : a ≤ 100) (hB : Bytes ao len w) :
    Calls Try.prog 11 #[.slice ao len cap, .int .i64 a, .int .i64 most] w fun e w' => LwOut most e ∧ w' = w := by
  by_cases hm : most ≤ 1
  · go_enter Try.func11, Try.ntmps11
    go_wp2
    go_ret
    exact ⟨⟨0, rfl, by omega, fun h => by omega⟩, rfl⟩
  by_cases h0 : len = 0
  · subst h0
    go_enter Try.func11, Try.ntmps11
    go_wp2
    go_ret
    exact ⟨⟨0, rfl, by omega, fun h => by omega⟩, rfl⟩
  rcases hB with h1 | ⟨ab, aoff, rfl, hab, hcell⟩
  · exact absurd h1 h0
  have hne : ((len : Int) == 0) = false := by simp; omega
  have hmod : (a : Int) % (len : Int) = ((a % len : Nat) : Int) := by omega
  have hlt : a % len < len := Nat.mod_lt _ (by omega)
  obtain ⟨z, hz, hz1, hz2⟩ := hcell (a % len) hlt
  have hp : (0 : Int) < (len : Int) := by omega
  have HM : Hid (1 < most) := (show 1 < most by omega)
  clear hcell
  obtain ⟨q, hq⟩ : ∃ q, q = a % len := ⟨_, rfl⟩
  rw [← hq] at hmod hlt hz
  clear hq
  have hlt2 : (q : Int) < (len : Int) := by omega
  go_enter Try.func11, Try.ntmps11
  go_wp2
  go_ret
  have h1 := HM.out
  exact ⟨⟨z % most, rfl, Int.emod_nonneg _ (by omega), fun _ => Int.emod_lt_of_pos _ (by omega)⟩, rfl⟩
end DrawR
end Go.Proofs.Ytgppggiblkcpnaa
