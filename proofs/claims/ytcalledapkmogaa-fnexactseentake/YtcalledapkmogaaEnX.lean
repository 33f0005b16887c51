/-
  What the law asks of two lists of entries with a code: alike, marked, held. The condition: at most 40 entries.
-/
import Derived.Test.YtcalledapkmogaaEnW
import Derived.Test.YtcalledapkmogaaEnM
namespace Go.Proofs.Ytcalledapkmogaa
open Go.ChangeShapes Go.WideShapes Go.ChangeAt Go.RowKit
set_option linter.unusedVariables false
namespace SeenR
open RowG
open EvtR (Pt)
open CatR (Blk)
set_option maxHeartbeats 4000000 in
theorem eqOut (ao bo : Option Addr) (cap cap' : Nat) (c : Int) (es : List N) (w : World) (hlen : es.length ≤ 1048576) (hI : Ens ao es w) (hJ : Ens bo es w) :
    Calls Try.prog 23 #[.agg #[.slice ao es.length cap, .int .i64 c], .agg #[.slice bo es.length cap', .int .i64 c]] w fun e w' => e = .returned (.bool true) ∧ Below w.heap.size w w' := by
  have HC : Hid (∀ W, Below w.heap.size w W → Calls Try.prog 20 #[.slice ao es.length cap, .slice bo es.length cap'] W fun e w' => e = .returned (.bool true) ∧ Below W.heap.size W w') := hid_intro (fun W hW => eqEns_any ao bo cap cap' es W hlen (hI.below hW) (hJ.below hW))
  generalize es.length = len at *
  clear hI hJ
  go_enter Try.func23, Try.ntmps23
  go_wp2_with fail
  refine (HC.out _ (((Below.refl _ _).alloc (Nat.le_refl _) _).alloc (by simp) _)).mono ?_
  rintro e w1 ⟨rfl, hb⟩
  obtain ⟨hcc, hff⟩ := bcell hb
  have HB := hid_intro (bel_alloc (bel_alloc hb))
  clear hb
  go_wp2_with fail
  go_ret
  exact ⟨rfl, HB.out⟩
set_option maxHeartbeats 4000000 in
theorem heldOut (ao : Option Addr) (n cap : Nat) (c : Int) (w : World) (hn : n ≤ 40) (h : Mkd ao n w) :
    Calls Try.prog 26 #[.agg #[.slice ao n cap, .int .i64 c], .int .i64 1] w fun e w' => e = .returned (.int .i64 (1 + 3 * n : Nat)) ∧ Below w.heap.size w w' := by
  have HC : Hid (∀ W, Below w.heap.size w W → Calls Try.prog 55 #[.slice ao n cap, .int .i64 1] W fun e w' => e = .returned (.int .i64 (1 + 3 * n : Nat)) ∧ Below W.heap.size W w') := hid_intro (fun W hW => heldL ao n cap W hn (h.below hW))
  clear h
  generalize hK : 1 + 3 * n = K at *
  have hK0 : ¬ (K : Int) < 0 := by omega
  go_enter Try.func26, Try.ntmps26
  go_wp2_with fail
  refine (HC.out _ ((Below.refl _ _).alloc (Nat.le_refl _) _)).mono ?_
  rintro e w1 ⟨rfl, hb⟩
  have HB := hid_intro (bel_alloc hb)
  clear hb
  go_wp2_with fail
  go_ret
  exact ⟨rfl, HB.out⟩
set_option maxHeartbeats 4000000 in
theorem markOut (base : Nat) (ao : Option Addr) (l : List N) (cap : Nat) (c : Int) (w : World) (top : Nat) (hn : l.length ≤ 40) (h : MadeG 3 N.cells N.zero base ao l w) (ht : l.length = 0 ∨ ∀ g, ao = some ⟨g, 0, none⟩ → g < top) :
    Calls Try.prog 25 #[.agg #[.slice ao l.length cap, .int .i64 c], .int .i64 1] w fun e w' => e = .returned (.int .i64 (1 + 3 * l.length : Nat)) ∧ Mkd ao l.length w' ∧ ∃ g, w.grownBy w' g ∧ ∀ x, g = some x → base ≤ x ∧ x < top := by
  have HC : Hid (∀ W, Below w.heap.size w W → Calls Try.prog 24 #[.slice ao l.length cap, .int .i64 1] W fun e w' => e = .returned (.int .i64 (1 + 3 * l.length : Nat)) ∧ Mkd ao l.length w' ∧ ∃ g, w.grownBy w' g ∧ ∀ x, g = some x → base ≤ x ∧ x < top) := hid_intro (fun W hW =>
    (markL base ao l cap W top (by omega) (h.below hW) ht).mono fun e w' ⟨h1, h2, g, h3, h4⟩ => ⟨h1, h2, g, gtrans (rgrown hW _) h3, h4⟩)
  clear h ht
  generalize l.length = n at *
  generalize hK : 1 + 3 * n = K at *
  go_enter Try.func25, Try.ntmps25
  go_wp2_with fail
  refine (HC.out _ ((Below.refl _ _).alloc (Nat.le_refl _) _)).mono ?_
  rintro e w1 ⟨rfl, hb⟩
  have HB := hid_intro hb
  clear hb
  go_wp2_with fail
  go_ret
  exact ⟨rfl, HB.out⟩
theorem ens_grown {ao : Option Addr} {es : List N} {w0 w w' : World} {row : Option Nat} (h0 : Ens ao es w0) (h : Ens ao es w) (hg : w.grownBy w' row) (hb : ∀ x, row = some x → w0.heap.size ≤ x) : Ens ao es w' := by
  refine Rws.grown h hg ?_
  rcases h0 with h1 | ⟨b, off, rfl, hl, _⟩
  · exact .inl h1
  · refine .inr (fun b' off' e hr => ?_)
    have := hb b' hr.symm
    simp only [Option.some.injEq, Addr.mk.injEq] at e
    omega
theorem made_top {base : Nat} {ao : Option Addr} {l : List N} {w : World} (h : MadeG 3 N.cells N.zero base ao l w) : l.length = 0 ∨ ∀ g, ao = some ⟨g, 0, none⟩ → g < w.heap.size :=
  h.own.imp id (fun ⟨g, h1, h2, h3⟩ g' e => by rw [h1] at e; cases e; exact h3.lt)
/-- A list that was made stays where another block is written. -/
theorem made_grown {base : Nat} {ao : Option Addr} {l : List N} {w w' : World} {row : Option Nat} (h : MadeG 3 N.cells N.zero base ao l w) (hg : w.grownBy w' row) (hr : ∀ x, row = some x → x < base) : MadeG 3 N.cells N.zero base ao l w' := by
  refine ⟨Rws.grown h.rws hg (h.own.imp id (fun ⟨g, h1, h2, h3⟩ b off e hb => ?_)), h.own.imp id (fun ⟨g, h1, h2, h3⟩ => ⟨g, h1, h2, pt_block h3 hg.size (hg.block g h3.lt (fun e => by have := hr g e.symm; omega))⟩)⟩
  rw [h1] at e
  simp only [Option.some.injEq, Addr.mk.injEq] at e
  have := hr b hb.symm
  omega
end SeenR
end Go.Proofs.Ytcalledapkmogaa
