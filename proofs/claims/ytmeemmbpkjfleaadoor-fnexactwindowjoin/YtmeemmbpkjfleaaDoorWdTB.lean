/-
  Windows that the law is given or handed, between two places of the memory. No condition.
-/
import Derived.Test.YtmeemmbpkjfleaaDoorWdO
import Derived.Test.YtmeemmbpkjfleaaDoorJnZ
import Derived.Test.YtmeemmbpkjfleaaDoorWdTw
namespace Go.Proofs.YtmeemmbpkjfleaaDoor
open Go.ChangeShapes Go.WideShapes Go.ChangeAt Go.RowKit
set_option linter.unusedVariables false
namespace WinR
open RowG (MadeG Rws)
open EvtR (Pt)
open CatR (Blk Blk.new)
open DateR (Laid)
theorem rws_out {α : Type} {k : Nat} {cells : α → List Value} {z : α} {ao : Option Addr} {xs : List α} {b' t' : Nat} {w w' : World} (h : Rws k cells z ao xs w) (ho : Outs b' t' w w') (hn : xs.length = 0 ∨ ∀ b off, ao = some ⟨b, off, none⟩ → b < b' ∨ t' ≤ b) : Rws k cells z ao xs w' := by
  rcases h with h0 | ⟨b, off, rfl, hlt, hc⟩
  · exact .inl h0
  · rcases hn with h0 | hn
    · exact .inl h0
    · have e := ho.block b hlt (hn b off rfl)
      exact .inr ⟨b, off, rfl, Nat.lt_of_lt_of_le hlt ho.size, fun i hi o ho' => (World.cell?_of_block (a := ⟨b, _, none⟩) e).trans (hc i hi o ho')⟩
/-- A window's lists of one's own, between base and top. -/
def TB (x : Wd) (base top g h : Nat) (W : World) : Prop := base ≤ g ∧ base ≤ h ∧ g ≠ h ∧ top ≤ W.heap.size ∧ Tgs (some ⟨g, 0, none⟩) x.ts W ∧ Hrs (some ⟨h, 0, none⟩) x.hs W ∧ (x.ts.length = 0 ∨ (g < top ∧ Pt g x.ts.length W)) ∧ (x.hs.length = 0 ∨ (h < top ∧ Pt h (x.hs.length * 2) W))
theorem TB.below {x : Wd} {base top g h : Nat} {W W' : World} (t : TB x base top g h W) (hb : Below W.heap.size W W') : TB x base top g h W' := by
  obtain ⟨h1, h2, h3, h4, h5, h6, h7, h8⟩ := t
  exact ⟨h1, h2, h3, Nat.le_trans h4 hb.size, h5.below hb, h6.below hb, h7.imp id (fun ⟨q, r⟩ => ⟨q, r.below hb⟩), h8.imp id (fun ⟨q, r⟩ => ⟨q, r.below hb⟩)⟩
theorem TB.out {x : Wd} {base top g h b' t' : Nat} {W W' : World} (t : TB x base top g h W) (ho : Outs b' t' W W') (hl : t' ≤ base) : TB x base top g h W' := by
  obtain ⟨h1, h2, h3, h4, h5, h6, h7, h8⟩ := t
  exact ⟨h1, h2, h3, Nat.le_trans h4 ho.size, rws_out h5 ho (.inr (fun b off e => by cases e; exact .inr (by omega))), rws_out h6 ho (.inr (fun b off e => by cases e; exact .inr (by omega))), h7.imp id (fun ⟨q, r⟩ => ⟨q, pt_out ho r (.inr (by omega))⟩), h8.imp id (fun ⟨q, r⟩ => ⟨q, pt_out ho r (.inr (by omega))⟩)⟩
theorem TB.tw {x : Wd} {base top g h : Nat} {W : World} (t : TB x base top g h W) : TwW base x (.agg (wcells x (some ⟨g, 0, none⟩) x.ts.length (some ⟨h, 0, none⟩) x.hs.length)) W := by
  obtain ⟨h1, h2, h3, h4, h5, h6, h7, h8⟩ := t
  exact ⟨g, h, rfl, h1, h2, h3, ⟨h5, h7.imp id (fun ⟨_, r⟩ => ⟨g, rfl, h1, by rw [Nat.mul_one]; exact r⟩)⟩, ⟨h6, h8.imp id (fun ⟨_, r⟩ => ⟨h, rfl, h2, r⟩)⟩⟩
theorem tb_of {x : Wd} {base : Nat} {v : Value} {W : World} (hlo : base ≤ W.heap.size) (t : TwW base x v W) : ∃ g h, v = .agg (wcells x (some ⟨g, 0, none⟩) x.ts.length (some ⟨h, 0, none⟩) x.hs.length) ∧ TB x base W.heap.size g h W := by
  obtain ⟨g, h, e, h1, h2, h3, m1, m2⟩ := t
  refine ⟨g, h, e, h1, h2, h3, Nat.le_refl _, m1.rws, m2.rws, m1.own.imp id (fun ⟨q, e1, _, p⟩ => ?_), m2.own.imp id (fun ⟨q, e1, _, p⟩ => ?_)⟩
  · cases e1
    rw [Nat.mul_one] at p
    exact ⟨p.lt, p⟩
  · cases e1
    exact ⟨p.lt, p⟩
/-- An answer whose lists lie between base and top. -/
def NX (z : Wd) (cd : Int) (base top : Nat) (v : Value) (W : World) : Prop := ∃ ta tc ha hc, v = .agg (ocells z ta tc ha hc cd) ∧ Tgs ta z.ts W ∧ Hrs ha z.hs W ∧ (z.ts.length = 0 ∨ ∀ b off, ta = some ⟨b, off, none⟩ → base ≤ b ∧ b < top) ∧ (z.hs.length = 0 ∨ ∀ b off, ha = some ⟨b, off, none⟩ → base ≤ b ∧ b < top)
theorem NX.is {z : Wd} {cd : Int} {base top : Nat} {v : Value} {W : World} (h : NX z cd base top v W) : IsO v z cd W := by
  obtain ⟨ta, tc, ha, hc, e, h1, h2, _⟩ := h
  exact ⟨ta, tc, ha, hc, e, h1, h2⟩
theorem NX.below {z : Wd} {cd : Int} {base top : Nat} {v : Value} {W W' : World} (h : NX z cd base top v W) (hb : Below W.heap.size W W') : NX z cd base top v W' := by
  obtain ⟨ta, tc, ha, hc, e, h1, h2, h3, h4⟩ := h
  exact ⟨ta, tc, ha, hc, e, h1.below hb, h2.below hb, h3, h4⟩
theorem NX.grown {z : Wd} {cd : Int} {base top k : Nat} {v : Value} {W W' : World} (h : NX z cd base top v W) (hg : W.grownBy W' (some k)) (hk : k < base ∨ top ≤ k) : NX z cd base top v W' := by
  obtain ⟨ta, tc, ha, hc, e, h1, h2, h3, h4⟩ := h
  exact ⟨ta, tc, ha, hc, e, Rws.keep h1 hg (h3.imp id (fun q b off e => by have := q b off e; omega)), Rws.keep h2 hg (h4.imp id (fun q b off e => by have := q b off e; omega)), h3, h4⟩
theorem NX.out {z : Wd} {cd : Int} {base top b' t' : Nat} {v : Value} {W W' : World} (h : NX z cd base top v W) (ho : Outs b' t' W W') (hk : top ≤ b' ∨ t' ≤ base) : NX z cd base top v W' := by
  obtain ⟨ta, tc, ha, hc, e, h1, h2, h3, h4⟩ := h
  exact ⟨ta, tc, ha, hc, e, rws_out h1 ho (h3.imp id (fun q b off e => by have := q b off e; omega)), rws_out h2 ho (h4.imp id (fun q b off e => by have := q b off e; omega)), h3, h4⟩
theorem nx_new {z : Wd} {cd : Int} {base : Nat} {v : Value} {W : World} (h : NewO base z cd v W) : NX z cd base W.heap.size v W := by
  obtain ⟨ta, tc, ha, hc, e, h1, h2, h3, h4⟩ := h
  refine ⟨ta, tc, ha, hc, e, h1, h2, ?_, ?_⟩
  · rcases h1 with h0 | ⟨b, off, rfl, hlt, _⟩
    · exact .inl h0
    · exact h3.imp id (fun q b' off' e => ⟨q b' off' e, by cases e; exact hlt⟩)
  · rcases h2 with h0 | ⟨b, off, rfl, hlt, _⟩
    · exact .inl h0
    · exact h4.imp id (fun q b' off' e => ⟨q b' off' e, by cases e; exact hlt⟩)
theorem made_new {base : Nat} {z : Wd} {cd : Int} {v : Value} {W : World} (h : MadeO base z cd v W) : NewO base z cd v W := by
  obtain ⟨ta, tc, ha, hc, e, h1, h2, _⟩ := h
  exact ⟨ta, tc, ha, hc, e, h1.rws, h2.rws, h1.own.imp id (fun ⟨g, e1, e2, _⟩ b off e => by rw [e1] at e; cases e; exact e2), h2.own.imp id (fun ⟨g, e1, e2, _⟩ b off e => by rw [e1] at e; cases e; exact e2)⟩
/-- An answer's lists of one's own, between base and top. -/
def JO (z : Wd) (base top : Nat) (p q : Option Addr) (W : World) : Prop := top ≤ W.heap.size ∧ (z.ts.length = 0 ∨ ∃ g, p = some ⟨g, 0, none⟩ ∧ base ≤ g ∧ g < top ∧ Pt g z.ts.length W) ∧ (z.hs.length = 0 ∨ ∃ g, q = some ⟨g, 0, none⟩ ∧ base ≤ g ∧ g < top ∧ Pt g (z.hs.length * 2) W) ∧ Apart p q z.ts.length z.hs.length
theorem JO.below {z : Wd} {base top : Nat} {p q : Option Addr} {W W' : World} (h : JO z base top p q W) (hb : Below W.heap.size W W') : JO z base top p q W' :=
  ⟨Nat.le_trans h.1 hb.size, h.2.1.imp id (fun ⟨g, e, l, u, r⟩ => ⟨g, e, l, u, r.below hb⟩), h.2.2.1.imp id (fun ⟨g, e, l, u, r⟩ => ⟨g, e, l, u, r.below hb⟩), h.2.2.2⟩
theorem JO.out {z : Wd} {base top b' t' : Nat} {p q : Option Addr} {W W' : World} (h : JO z base top p q W) (ho : Outs b' t' W W') (hl : t' ≤ base) : JO z base top p q W' :=
  ⟨Nat.le_trans h.1 ho.size, h.2.1.imp id (fun ⟨g, e, l, u, r⟩ => ⟨g, e, l, u, pt_out ho r (.inr (by omega))⟩), h.2.2.1.imp id (fun ⟨g, e, l, u, r⟩ => ⟨g, e, l, u, pt_out ho r (.inr (by omega))⟩), h.2.2.2⟩
theorem JO.grown {z : Wd} {base top k : Nat} {p q : Option Addr} {W W' : World} (h : JO z base top p q W) (hg : W.grownBy W' (some k)) (hk : k < base ∨ top ≤ k) : JO z base top p q W' :=
  ⟨Nat.le_trans h.1 hg.size, h.2.1.imp id (fun ⟨g, e, l, u, r⟩ => ⟨g, e, l, u, StR.pt_far r hg (by omega)⟩), h.2.2.1.imp id (fun ⟨g, e, l, u, r⟩ => ⟨g, e, l, u, StR.pt_far r hg (by omega)⟩), h.2.2.2⟩
end WinR
end Go.Proofs.YtmeemmbpkjfleaaDoor
