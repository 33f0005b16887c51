/-
  Two windows joined: for any two there is one answer that both sides hand back. The condition: both together are small.
-/
import Derived.Test.YtmeemmbpkjfleaaDoorJnX
import Derived.Test.YtmeemmbpkjfleaaDoorJnY
import Derived.Test.YtmeemmbpkjfleaaDoorWdTw
import Derived.Test.YtmeemmbpkjfleaaDoorWdMk
namespace Go.Proofs.YtmeemmbpkjfleaaDoor
open Go.ChangeShapes Go.WideShapes Go.ChangeAt Go.RowKit
set_option linter.unusedVariables false
namespace WinR
open RowG (MadeG Rws)
open LtR (lt)
open DateR (Laid)
open CatR (Blk Blk.new)
/-- What is handed back, as cells. -/
def ocells (z : Wd) (ta : Option Addr) (tc : Nat) (ha : Option Addr) (hc : Nat) (cd : Int) : Array Value := #[.string z.a, .string z.m, .int .i64 z.mo, .int .i64 z.ev, .int .i64 z.su, .int .i64 z.mx, .slice ta z.ts.length tc, .slice ha z.hs.length hc, .int .i64 cd]
/-- An answer whose lists lie in blocks from base on. -/
def NewO (base : Nat) (z : Wd) (cd : Int) (v : Value) (w : World) : Prop := ∃ ta tc ha hc, v = .agg (ocells z ta tc ha hc cd) ∧ Tgs ta z.ts w ∧ Hrs ha z.hs w ∧ (z.ts.length = 0 ∨ ∀ b off, ta = some ⟨b, off, none⟩ → base ≤ b) ∧ (z.hs.length = 0 ∨ ∀ b off, ha = some ⟨b, off, none⟩ → base ≤ b)
/-- An answer of one's own. -/
def MadeO (base : Nat) (z : Wd) (cd : Int) (v : Value) (w : World) : Prop := ∃ ta tc ha hc, v = .agg (ocells z ta tc ha hc cd) ∧ MadeG 1 tcells tz base ta z.ts w ∧ MadeG 2 H.cells H.zero base ha z.hs w ∧ Apart ta ha z.ts.length z.hs.length
theorem wz_new_o (base : Nat) (cd : Int) (w : World) : NewO base wz cd (.agg #[.string ⟨#[]⟩, .string ⟨#[]⟩, .int .i64 0, .int .i64 0, .int .i64 0, .int .i64 0, .slice none 0 0, .slice none 0 0, .int .i64 cd]) w :=
  ⟨none, 0, none, 0, rfl, .inl rfl, .inl rfl, .inl rfl, .inl rfl⟩
theorem wz_made_o (base : Nat) (cd : Int) (w : World) : MadeO base wz cd (.agg #[.string ⟨#[]⟩, .string ⟨#[]⟩, .int .i64 0, .int .i64 0, .int .i64 0, .int .i64 0, .slice none 0 0, .slice none 0 0, .int .i64 cd]) w :=
  ⟨none, 0, none, 0, rfl, ⟨.inl rfl, .inl rfl⟩, ⟨.inl rfl, .inl rfl⟩, .inl rfl⟩
theorem made_out {base : Nat} {z : Wd} {cd : Int} {v : Value} {w : World} (h : MadeW base z v w) : MadeO base z cd (outW v cd) w := by
  obtain ⟨ta, tc, ha, hc, rfl, h1, h2, h3⟩ := h
  exact ⟨ta, tc, ha, hc, rfl, h1, h2, h3⟩
theorem slok (g n : Nat) (h : n ≤ 1048576) : SlOk (some ⟨g, 0, none⟩) n n := .inr ⟨g, 0, rfl, Nat.le_refl _, by unfold maxLen; omega⟩
/-- The model's WindowJoin of two windows of one's own. -/
theorem spec_join (x y : Wd) (b1 b2 : Nat) (v1 v2 : Value) (w : World) (h2 : Two x y) (t1 : TwW b1 x v1 w) (t2 : TwW b2 y v2 w) :
    Calls Tryd.prog 8 #[v1, v2] w fun e w' => ∃ v, e = .returned v ∧ (((wB x && wB y) = false ∧ v = .agg #[.string ⟨#[]⟩, .string ⟨#[]⟩, .int .i64 0, .int .i64 0, .int .i64 0, .int .i64 0, .slice none 0 0, .slice none 0 0, .int .i64 1]) ∨ ((wB x && wB y) = true ∧ ∃ base, w.heap.size ≤ base ∧ SPost base (sameW x y) (wB (jw x y)) x.a x.m x.mo (x.ev + y.ev) (x.su + y.su) (max x.mx y.mx) (jw x y).ts (jw x y).hs (.returned v) w')) ∧ Below w.heap.size w w' := by
  obtain ⟨g1, g2, rfl, l1, l2, hn, m1, m2⟩ := t1
  obtain ⟨k1, k2, rfl, j1, j2, jn, n1, n2⟩ := t2
  refine swj_in (fun v base w' => SPost base (sameW x y) (wB (jw x y)) x.a x.m x.mo (x.ev + y.ev) (x.su + y.su) (max x.mx y.mx) (jw x y).ts (jw x y).hs (.returned v) w') (wB x) (wB y) x.a x.m x.mo x.ev x.su x.mx _ x.ts.length x.ts.length _ x.hs.length x.hs.length y.a y.m y.mo y.ev y.su y.mx _ y.ts.length y.ts.length _ y.hs.length y.hs.length w ?_
    (fun W hW => spec_window_right x _ _ _ _ W h2.sx.1 h2.sx.2.1 h2.sx.2.2.1 h2.sx.2.2.2.1 (Tgs.below m1.rws hW) (Hrs.below m2.rws hW))
    (fun W hW => spec_window_right y _ _ _ _ W h2.sy.1 h2.sy.2.1 h2.sy.2.2.1 h2.sy.2.2.2.1 (Tgs.below n1.rws hW) (Hrs.below n2.rws hW)) ?_
  · intro v base W W' g hp hg hlt
    rcases hp with ⟨q1, q2⟩ | ⟨q1, q2, q3⟩ | ⟨q1, q2, ta, tc, ha, hc, q3, q4, q5, q6, q7⟩
    · exact .inl ⟨q1, q2⟩
    · exact .inr (.inl ⟨q1, q2, q3⟩)
    · refine .inr (.inr ⟨q1, q2, ta, tc, ha, hc, q3, Rws.keep q4 hg (.inr (fun b off e => ?_)), Rws.keep q5 hg (.inr (fun b off e => ?_)), q6, q7⟩)
      · have := q6 b off e
        omega
      · have := q7 b off e
        omega
  · intro hx hy W hW
    refine (spec_l07join x y g1 0 x.ts.length g2 0 x.hs.length _ y.ts.length _ y.hs.length W h2 hx hy (Tgs.below m1.rws hW) (Hrs.below m2.rws hW) (Tgs.below n1.rws hW) (Hrs.below n2.rws hW)).mono ?_
    rintro e w' ⟨hp, hb⟩
    have hp' := hp
    rcases hp with ⟨q1, rfl⟩ | ⟨q1, q2, rfl⟩ | ⟨q1, q2, ta, tc, ha, hc, rfl, q4, q5, q6, q7⟩
    · exact ⟨_, _, _, _, _, _, _, _, _, _, _, _, _, rfl, hp', hb⟩
    · exact ⟨_, _, _, _, _, _, _, _, _, _, _, _, _, rfl, hp', hb⟩
    · exact ⟨_, _, _, _, _, _, _, _, _, _, _, _, _, rfl, hp', hb⟩
/-- One answer of both. -/
theorem join_both (x y : Wd) (h2 : Two x y) : ∃ (z : Wd) (cd : Int), z.ts.length ≤ 1048576 ∧ z.hs.length ≤ 1048576 ∧
    (∀ b1 b2 v1 v2 w, Laid w → TwW b1 x v1 w → TwW b2 y v2 w → Calls Tryd.prog 10 #[v1, v2] w fun e w' => ∃ v, e = .returned v ∧ MadeO w.heap.size z cd v w' ∧ Below w.heap.size w w') ∧
    (∀ b1 b2 v1 v2 w, TwW b1 x v1 w → TwW b2 y v2 w → Calls Tryd.prog 8 #[v1, v2] w fun e w' => ∃ v, e = .returned v ∧ NewO w.heap.size z cd v w' ∧ Below w.heap.size w w') := by
  have hi : ∀ b1 b2 v1 v2 w, Laid w → TwW b1 x v1 w → TwW b2 y v2 w → Calls Tryd.prog 10 #[v1, v2] w fun e w' => JPost (wB x) (wB y) (wB (jw x y)) (sameW x y) (jw x y) w.heap.size e w' ∧ Below w.heap.size w w' := by
    rintro b1 b2 v1 v2 w hL ⟨g1, g2, rfl, l1, l2, hn, m1, m2⟩ ⟨k1, k2, rfl, j1, j2, jn, n1, n2⟩
    exact impl_join x y _ _ _ _ _ _ _ _ w h2 hL (slok _ _ h2.sx.2.2.1) (slok _ _ h2.sx.2.2.2.2) (slok _ _ h2.sy.2.2.1) (slok _ _ h2.sy.2.2.2.2) m1.rws m2.rws n1.rws n2.rws
  have hs := fun b1 b2 v1 v2 w t1 t2 => spec_join x y b1 b2 v1 v2 w h2 t1 t2
  by_cases hr : (wB x && wB y) = false
  · refine ⟨wz, 1, by simp [wz], by simp [wz], fun b1 b2 v1 v2 w hL t1 t2 => (hi b1 b2 v1 v2 w hL t1 t2).mono ?_, fun b1 b2 v1 v2 w t1 t2 => (hs b1 b2 v1 v2 w t1 t2).mono ?_⟩
    · rintro e w' ⟨⟨_, rfl⟩ | ⟨q, _⟩ | ⟨q, _⟩ | ⟨q, _⟩, hb⟩
      · exact ⟨_, rfl, wz_made_o _ _ _, hb⟩
      all_goals (rw [hr] at q; cases q)
    · rintro e w' ⟨v, rfl, ⟨_, rfl⟩ | ⟨q, _⟩, hb⟩
      · exact ⟨_, rfl, wz_new_o _ _ _, hb⟩
      · rw [hr] at q; cases q
  · by_cases hm : sameW x y
    · cases h3 : wB (jw x y)
      · refine ⟨wz, 9, by simp [wz], by simp [wz], fun b1 b2 v1 v2 w hL t1 t2 => (hi b1 b2 v1 v2 w hL t1 t2).mono ?_, fun b1 b2 v1 v2 w t1 t2 => (hs b1 b2 v1 v2 w t1 t2).mono ?_⟩
        · rintro e w' ⟨⟨q, _⟩ | ⟨_, q, _⟩ | ⟨_, _, _, rfl⟩ | ⟨_, _, q, _⟩, hb⟩
          · exact absurd q hr
          · exact absurd hm q
          · exact ⟨_, rfl, wz_made_o _ _ _, hb⟩
          · rw [h3] at q; cases q
        · rintro e w' ⟨v, rfl, ⟨q, _⟩ | ⟨_, base, _, ⟨q, _⟩ | ⟨_, _, e⟩ | ⟨_, q, _⟩⟩, hb⟩
          · exact absurd q hr
          · exact absurd hm q
          · cases e
            exact ⟨_, rfl, wz_new_o _ _ _, hb⟩
          · rw [h3] at q; cases q
      · refine ⟨jw x y, 0, h2.jlt, h2.jlh, fun b1 b2 v1 v2 w hL t1 t2 => (hi b1 b2 v1 v2 w hL t1 t2).mono ?_, fun b1 b2 v1 v2 w t1 t2 => (hs b1 b2 v1 v2 w t1 t2).mono ?_⟩
        · rintro e w' ⟨⟨q, _⟩ | ⟨_, q, _⟩ | ⟨_, _, q, _⟩ | ⟨_, _, _, v, rfl, hv⟩, hb⟩
          · exact absurd q hr
          · exact absurd hm q
          · rw [h3] at q; cases q
          · exact ⟨_, rfl, made_out hv, hb⟩
        · rintro e w' ⟨v, rfl, ⟨q, _⟩ | ⟨_, base, hbase, ⟨q, _⟩ | ⟨_, q, _⟩ | ⟨_, _, ta, tc, ha, hc, e, q4, q5, q6, q7⟩⟩, hb⟩
          · exact absurd q hr
          · exact absurd hm q
          · rw [h3] at q; cases q
          · cases e
            exact ⟨_, rfl, ⟨ta, tc, ha, hc, rfl, q4, q5, .inr (fun b off e => Nat.le_trans hbase (q6 b off e)), .inr (fun b off e => Nat.le_trans hbase (q7 b off e))⟩, hb⟩
    · refine ⟨wz, 10, by simp [wz], by simp [wz], fun b1 b2 v1 v2 w hL t1 t2 => (hi b1 b2 v1 v2 w hL t1 t2).mono ?_, fun b1 b2 v1 v2 w t1 t2 => (hs b1 b2 v1 v2 w t1 t2).mono ?_⟩
      · rintro e w' ⟨⟨q, _⟩ | ⟨_, _, rfl⟩ | ⟨_, q, _⟩ | ⟨_, q, _⟩, hb⟩
        · exact absurd q hr
        · exact ⟨_, rfl, wz_made_o _ _ _, hb⟩
        · exact absurd q hm
        · exact absurd q hm
      · rintro e w' ⟨v, rfl, ⟨q, _⟩ | ⟨_, base, _, ⟨_, e⟩ | ⟨q, _⟩ | ⟨q, _⟩⟩, hb⟩
        · exact absurd q hr
        · cases e
          exact ⟨_, rfl, wz_new_o _ _ _, hb⟩
        · exact absurd q hm
        · exact absurd q hm
end WinR
end Go.Proofs.YtmeemmbpkjfleaaDoor
