/-
  The law's own helpers over a meter: its size, its copy, two held against each other. The condition: the tiers are at most 1048576.
-/
import Derived.Test.YtlhghjjgpdkekaaDoorMeL
namespace Go.Proofs.YtlhghjjgpdkekaaDoor
open Go.ChangeShapes Go.WideShapes Go.ChangeAt Go.RowKit
set_option linter.unusedVariables false
namespace CatR
open EvtR (Pt cell_put cell_far)
/-- How many letters and tiers a meter holds. -/
def szM (m : Me) : Int := m.n.size + m.ts.length
theorem far_block (w : World) (b o : Nat) (v : Value) (k : Nat) (hk : b ≠ k) : (w.setCell ⟨b, o, none⟩ v).heap[k]? = w.heap[k]? := by
  simp only [World.setCell]
  rw [Array.getElem?_modify, if_neg hk]
theorem _root_.Go.Proofs.YtlhghjjgpdkekaaDoor.EvtR.Pt.far {g m : Nat} {w : World} (h : Pt g m w) {b : Nat} (hb : b ≠ g) (o : Nat) (v : Value) : Pt g m (w.setCell ⟨b, o, none⟩ v) := by
  have e := far_block w b o v g hb
  exact ⟨by simpa using h.lt, fun x hx => by obtain ⟨u, hu⟩ := h.has x hx; exact ⟨u, (World.cell?_of_block (a := ⟨g, x, none⟩) e).trans hu⟩, fun x hx => (World.frozen?_of_block (a := ⟨g, x, none⟩) e).trans (h.free x hx)⟩
theorem Tis.far {b0 off len : Nat} {ts : List Ti} {w : World} (h : Tis (some ⟨b0, off, none⟩) len ts w) {b : Nat} (hb : b ≠ b0) (o : Nat) (v : Value) : Tis (some ⟨b0, off, none⟩) len ts (w.setCell ⟨b, o, none⟩ v) := by
  refine ⟨h.1, ?_⟩
  rcases h.2 with h0 | ⟨b1, off1, e, hlt, hc⟩
  · exact .inl h0
  · obtain ⟨rfl, rfl⟩ : b0 = b1 ∧ off = off1 := by simpa using e
    have e := far_block w b o v b0 hb
    exact .inr ⟨b0, off, rfl, by simpa using hlt, fun j hj => ⟨(World.cell?_of_block (a := ⟨b0, _, none⟩) e).trans (hc j hj).1, (World.cell?_of_block (a := ⟨b0, _, none⟩) e).trans (hc j hj).2⟩⟩
/-- A meter that was just copied: its tiers stand behind the block. -/
def NewMe (base : Nat) (v : Value) (m : Me) (w : World) : Prop := ∃ b, base ≤ b ∧ v = .agg #[.string m.n, .int .i64 m.g, .bool m.wh, .int .i64 m.f, .int .i64 m.l, .slice (some ⟨b, 0, none⟩) m.ts.length m.ts.length] ∧ Tis (some ⟨b, 0, none⟩) m.ts.length m.ts w ∧ Pt b (m.ts.length * 2) w
theorem NewMe.is {base : Nat} {v : Value} {m : Me} {w : World} (h : NewMe base v m w) : IsMe v m w := by
  obtain ⟨b, _, h1, h2, _⟩ := h
  exact ⟨_, _, h1, h2⟩
theorem eqTi_any (u p : Int) (w : World) : Calls Tryd.prog 84 #[.agg #[.int .i64 u, .int .i64 p], .agg #[.int .i64 u, .int .i64 p]] w fun e w' => e = .returned (.bool true) ∧ Below w.heap.size w w' := by
  go_enter Tryd.func84, Tryd.ntmps84
  go_wp2
  go_ret
  refine ⟨rfl, ?_⟩
  repeat' first | exact Below.refl _ _ | apply Below.setCell | apply Below.alloc
  all_goals first | omega | (simp; done) | (simp; omega)
set_option maxHeartbeats 4000000 in
theorem eqTis_any (ao bo : Option Addr) (len cap cap' : Nat) (ts : List Ti) (w : World) (hlen : len ≤ 1048576) (hI : Tis ao len ts w) (hJ : Tis bo len ts w) :
    Calls Tryd.prog 78 #[.slice ao len cap, .slice bo len cap'] w fun e w' => e = .returned (.bool true) ∧ Below w.heap.size w w' := by
  have HI := hid_intro hI
  have HJ := hid_intro hJ
  clear hI hJ
  go_enter Tryd.func78, Tryd.ntmps78
  go_wp2_with fail
  go_loopw [5] (fun z wr => ∃ k : Nat, k ≤ len ∧ z = .int .i64 k ∧ Hid (Below w.heap.size w wr)) (fun z _ => len - (intOf z).toNat)
  case atStart => exact ⟨0, by omega, rfl, hid_intro (Below.refl _ _)⟩
  case round =>
    obtain ⟨k, hk, rfl, HW⟩ := hrel
    by_cases hlt : k < len
    · have hlt2 : (k : Int) < (len : Int) := by omega
      obtain ⟨b, off, rfl, _, c0, c1⟩ := tis_at (HI.out.below HW.out) k hlt
      obtain ⟨b', off', rfl, _, e0, e1⟩ := tis_at (HJ.out.below HW.out) k hlt
      generalize ts.getD k Ti.zero = X at *
      obtain ⟨u, p⟩ := X
      have HC := hid_intro (fun w => eqTi_any u p w)
      go_wp2_with fail
      go_region_with (go_at_call 84; refine (HC.out _).mono ?_; rintro e w1 ⟨rfl, hb⟩)
      all_goals (
        have HB1 := hid_intro (HW.out.drew.trans (hb.mono HW.out.drew.size))
        clear hb c0 c1 e0 e1
        go_wp2_with fail
        go_roundw
        case rel => exact ⟨k + 1, by omega, by go_num, HB1⟩
        case measure => simp [intOf]; omega)
    · have hlt2 : ¬ (k : Int) < (len : Int) := by omega
      go_wp2_with fail
      go_ret
      exact ⟨rfl, HW.out⟩
set_option maxHeartbeats 4000000 in
theorem eqMe_any (v v' : Value) (m : Me) (w : World) (hl : m.ts.length ≤ 1048576) (hI : IsMe v m w) (hJ : IsMe v' m w) :
    Calls Tryd.prog 64 #[v, v'] w fun e w' => e = .returned (.bool true) ∧ Below w.heap.size w w' := by
  obtain ⟨ta, tc, rfl, hT⟩ := hI
  obtain ⟨ta', tc', rfl, hT'⟩ := hJ
  obtain ⟨n, g, wh, f, l, ts⟩ := m
  simp only at *
  have HC : Hid (∀ W, Below w.heap.size w W → Calls Tryd.prog 78 #[.slice ta ts.length tc, .slice ta' ts.length tc'] W fun e w' => e = .returned (.bool true) ∧ Below W.heap.size W w') := hid_intro (fun W hW => eqTis_any ta ta' ts.length tc tc' ts W hl (hT.below hW) (hT'.below hW))
  clear hT hT' hl
  generalize ts.length = tl at *
  go_enter Tryd.func64, Tryd.ntmps64
  go_wp2_with fail
  refine (HC.out _ (((Below.refl _ _).alloc (Nat.le_refl _) _).alloc (by simp) _)).mono ?_
  rintro e w1 ⟨rfl, hb⟩
  have HB := hid_intro (bel_alloc (bel_alloc hb))
  clear hb
  go_wp2_with fail
  go_ret
  exact ⟨rfl, HB.out⟩
end CatR
end Go.Proofs.YtlhghjjgpdkekaaDoor
