/-
  The law's own helpers over a list of credits: their size, copies, two held against each other. The condition: at most 1048576 of them.
-/
import Derived.Test.YtlhghjjgpdkekaaDoorCaL
namespace Go.Proofs.YtlhghjjgpdkekaaDoor
open Go.ChangeShapes Go.WideShapes Go.ChangeAt Go.RowKit
set_option linter.unusedVariables false
namespace CatR
open EvtR (Pt cell_put cell_far)
theorem infoC : (Tryd.prog.info? 59).map (fun i => (i.zero, i.size, i.bytes)) = some (some (.agg #[.string ⟨#[]⟩, .int .i64 0]), 2, 24) := by kernel_rfl
theorem small_moreC {cs : List Cr} {k : Nat} (h : ∀ i, i < k → (cs.getD i Cr.zero).a.size ≤ 1048576) (hk : (cs.getD k Cr.zero).a.size ≤ 1048576) : ∀ i, i < k + 1 → (cs.getD i Cr.zero).a.size ≤ 1048576 := fun i hi => by
  by_cases e : i = k
  · subst e; exact hk
  · exact h i (by omega)
theorem crs_set {wr : World} {g n k : Nat} {ts : List Cr} (hp : Pt g (n * 2) wr) (hk : k < n) (ha : ∀ i, i < k → CrAt wr g (i * 2) (ts.getD i Cr.zero)) :
    Pt g (n * 2) ((wr.setCell ⟨g, k * 2, none⟩ (.string (ts.getD k Cr.zero).a)).setCell ⟨g, k * 2 + 1, none⟩ (.int .i64 (ts.getD k Cr.zero).m)) ∧ ∀ i, i < k + 1 → CrAt ((wr.setCell ⟨g, k * 2, none⟩ (.string (ts.getD k Cr.zero).a)).setCell ⟨g, k * 2 + 1, none⟩ (.int .i64 (ts.getD k Cr.zero).m)) g (i * 2) (ts.getD i Cr.zero) := by
  refine ⟨(hp.set _ _).set _ _, fun i hi => ?_⟩
  by_cases e : i = k
  · subst e
    exact ⟨(cell_far _ _ (by omega) _).trans (cell_put hp _ (by omega) _), cell_put (hp.set _ _) _ (by omega) _⟩
  · have h := ha i (by omega)
    exact ⟨((cell_far _ _ (by omega) _).trans (cell_far _ _ (by omega) _)).trans h.1, ((cell_far _ _ (by omega) _).trans (cell_far _ _ (by omega) _)).trans h.2⟩
theorem eqCr_any (u : ByteArray) (p : Int) (w : World) : Calls Tryd.prog 65 #[.agg #[.string u, .int .i64 p], .agg #[.string u, .int .i64 p]] w fun e w' => e = .returned (.bool true) ∧ Below w.heap.size w w' := by
  go_enter Tryd.func65, Tryd.ntmps65
  go_wp2
  go_ret
  refine ⟨rfl, ?_⟩
  repeat' first | exact Below.refl _ _ | apply Below.setCell | apply Below.alloc
  all_goals first | omega | (simp; done) | (simp; omega)
set_option maxHeartbeats 4000000 in
theorem eqCrs_any (ao bo : Option Addr) (len cap cap' : Nat) (ts : List Cr) (w : World) (hlen : len ≤ 1048576) (hI : Crs ao len ts w) (hJ : Crs bo len ts w) :
    Calls Tryd.prog 37 #[.slice ao len cap, .slice bo len cap'] w fun e w' => e = .returned (.bool true) ∧ Below w.heap.size w w' := by
  have HI := hid_intro hI
  have HJ := hid_intro hJ
  clear hI hJ
  go_enter Tryd.func37, Tryd.ntmps37
  go_wp2_with fail
  go_loopw [5] (fun z wr => ∃ k : Nat, k ≤ len ∧ z = .int .i64 k ∧ Hid (Below w.heap.size w wr)) (fun z _ => len - (intOf z).toNat)
  case atStart => exact ⟨0, by omega, rfl, hid_intro (Below.refl _ _)⟩
  case round =>
    obtain ⟨k, hk, rfl, HW⟩ := hrel
    by_cases hlt : k < len
    · have hlt2 : (k : Int) < (len : Int) := by omega
      obtain ⟨b, off, rfl, _, c0, c1⟩ := crs_at (HI.out.below HW.out) k hlt
      obtain ⟨b', off', rfl, _, e0, e1⟩ := crs_at (HJ.out.below HW.out) k hlt
      generalize ts.getD k Cr.zero = X at *
      obtain ⟨u, p⟩ := X
      have HC := hid_intro (fun w => eqCr_any u p w)
      go_wp2_with fail
      go_region_with (go_at_call 65; refine (HC.out _).mono ?_; rintro e w1 ⟨rfl, hb⟩)
      all_goals (
        have HB1 := hid_intro (HW.out.drew.trans (hb.mono HW.out.drew.size))
        clear hb c0 c1 e0 e1
        go_wp2_with fail
        go_roundw
        case rel => exact ⟨k + 1, by omega, by go_num, HB1⟩
        case measure => simp [intOf]; omega)
    · have hlt2 : ¬ (k : Int) < (len : Int) := by omega
      go_wp2_with fail
      go_ret
      exact ⟨rfl, HW.out⟩
end CatR
end Go.Proofs.YtlhghjjgpdkekaaDoor
