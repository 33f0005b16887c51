/-
  What texts, events and lists of them come to when they are read: what is read is spelled by just its bytes, and what is spelled is read. Bytes alone. No condition.
-/
import Derived.Test.YtmilejcpdfhmmaaNumAt
import Derived.Test.YtmilejcpdfhmmaaBat
namespace Go.Proofs.Ytmilejcpdfhmmaa
open Go.RowKit
set_option linter.unusedVariables false
namespace EvtR
open NumsR NumR
theorem cut_two (s : ByteArray) (a b c : Nat) (h1 : a ≤ b) (h2 : b ≤ c) : s.extract a c = s.extract a b ++ s.extract b c := by
  apply ByteArray.ext
  simp only [ByteArray.data_extract, ByteArray.data_append]
  rw [Array.extract_append_extract, Nat.min_eq_left h1, Nat.max_eq_right h2]
theorem cut_size (s : ByteArray) (a b : Nat) (h : b ≤ s.size) : (s.extract a b).size = b - a := by rw [ByteArray.size_extract]; omega
/-- What two texts one behind the other are. -/
theorem cut_split {s x y : ByteArray} {p : Nat} (hs : p + (x.size + y.size) ≤ s.size) (h : s.extract p (p + (x.size + y.size)) = x ++ y) : s.extract p (p + x.size) = x ∧ s.extract (p + x.size) (p + x.size + y.size) = y := by
  rw [cut_two s p (p + x.size) (p + (x.size + y.size)) (by omega) (by omega)] at h
  have e := congrArg ByteArray.data h
  simp only [ByteArray.data_append] at e
  have hl : (s.extract p (p + x.size)).data.size = x.data.size := by
    have := cut_size s p (p + x.size) (by omega)
    have e1 : (s.extract p (p + x.size)).data.size = (s.extract p (p + x.size)).size := rfl
    have e2 : x.data.size = x.size := rfl
    omega
  obtain ⟨e1, e2⟩ := Array.append_inj e hl
  refine ⟨ByteArray.ext e1, ?_⟩
  rw [Nat.add_assoc]
  exact ByteArray.ext e2
/-- What is read as a text: it, and the place behind it. -/
def txtAt (s : ByteArray) (p : Nat) : Option (ByteArray × Nat) := (numAt s p).bind fun x => if 0 ≤ x.1 ∧ x.1 ≤ 8000 ∧ x.2 + x.1.toNat ≤ s.size then some (s.extract x.2 (x.2 + x.1.toNat), x.2 + x.1.toNat) else none
theorem txtAt_back {s : ByteArray} {p : Nat} {t : ByteArray} {q : Nat} (h : txtAt s p = some (t, q)) : t.size ≤ 8000 ∧ p < q ∧ q ≤ s.size ∧ s.extract p q = txtB t := by
  unfold txtAt at h
  cases hn : numAt s p with
  | none => rw [hn] at h; simp at h
  | some x =>
    obtain ⟨n, r⟩ := x
    rw [hn] at h
    simp only [Option.bind_some] at h
    split at h
    · rename_i hc
      obtain ⟨c1, c2, c3⟩ := hc
      simp only [Option.some.injEq, Prod.mk.injEq] at h
      obtain ⟨rfl, rfl⟩ := h
      obtain ⟨_, b1, b2, b3⟩ := numAt_back hn
      have hz : (s.extract r (r + n.toNat)).size = n.toNat := by rw [cut_size s _ _ c3]; omega
      refine ⟨by omega, by omega, c3, ?_⟩
      unfold txtB
      rw [hz, cut_two s p r (r + n.toNat) (by omega) (by omega), b3, show ((n.toNat : Nat) : Int) = n by omega]
    · simp at h
theorem txtAt_put {s : ByteArray} {p : Nat} {t : ByteArray} (ht : t.size ≤ 8000) (hs : p + (txtB t).size ≤ s.size) (h : s.extract p (p + (txtB t).size) = txtB t) : txtAt s p = some (t, p + (txtB t).size) := by
  unfold txtB at hs h ⊢
  rw [ByteArray.size_append] at hs h ⊢
  obtain ⟨h1, h2⟩ := cut_split hs h
  unfold txtAt
  rw [numAt_put ⟨by omega, by omega⟩ (by omega) h1]
  simp only [Option.bind_some]
  rw [if_pos ⟨by omega, by omega, by rw [Int.toNat_natCast]; omega⟩, Int.toNat_natCast, h2]
  congr 2
  omega
/-- What is read as an event: it, and the place behind it. -/
def evAt (s : ByteArray) (p : Nat) : Option (E × Nat) :=
  (txtAt s p).bind fun i => (txtAt s i.2).bind fun a => (txtAt s a.2).bind fun m => (numAt s m.2).bind fun n => (numAt s n.2).bind fun k => (txtAt s k.2).bind fun t => some (⟨i.1, a.1, m.1, n.1, k.1, t.1⟩, t.2)
theorem evAt_back {s : ByteArray} {p : Nat} {e : E} {q : Nat} (h : evAt s p = some (e, q)) : p < q ∧ q ≤ s.size ∧ s.extract p q = e.b := by
  unfold evAt at h
  simp only [Option.bind_eq_some_iff] at h
  obtain ⟨⟨i, p1⟩, h1, ⟨a, p2⟩, h2, ⟨m, p3⟩, h3, ⟨n, p4⟩, h4, ⟨k, p5⟩, h5, ⟨t, p6⟩, h6, he⟩ := h
  simp only [Option.some.injEq, Prod.mk.injEq] at he
  obtain ⟨rfl, rfl⟩ := he
  obtain ⟨_, a1, a2, a3⟩ := txtAt_back h1
  obtain ⟨_, b1, b2, b3⟩ := txtAt_back h2
  obtain ⟨_, c1, c2, c3⟩ := txtAt_back h3
  obtain ⟨_, d1, d2, d3⟩ := numAt_back h4
  obtain ⟨_, e1, e2, e3⟩ := numAt_back h5
  obtain ⟨_, f1, f2, f3⟩ := txtAt_back h6
  simp only at *
  refine ⟨by omega, f2, ?_⟩
  unfold E.b evT
  rw [← a3, ← b3, ← c3, ← d3, ← e3, ← f3, ← cut_two s p p1 p2 (by omega) (by omega), ← cut_two s p p2 p3 (by omega) (by omega), ← cut_two s p p3 p4 (by omega) (by omega), ← cut_two s p p4 p5 (by omega) (by omega), ← cut_two s p p5 p6 (by omega) (by omega)]
theorem evAt_put {s : ByteArray} {p : Nat} {e : E} (ho : e.ok = true) (hs : p + e.b.size ≤ s.size) (h : s.extract p (p + e.b.size) = e.b) : evAt s p = some (e, p + e.b.size) := by
  obtain ⟨h0, h1, h2, h3, h4, h5, h6, h7, h8⟩ := right_ev ho
  unfold E.b evT at hs h ⊢
  simp only [ByteArray.size_append] at hs h ⊢
  have t5 := cut_split (s := s) (p := p) (x := txtB e.i ++ txtB e.a ++ txtB e.m ++ numB e.n ++ numB e.k) (y := txtB e.t) (by simp only [ByteArray.size_append]; omega) (by simp only [ByteArray.size_append]; exact h)
  simp only [ByteArray.size_append] at t5
  have t4 := cut_split (s := s) (p := p) (x := txtB e.i ++ txtB e.a ++ txtB e.m ++ numB e.n) (y := numB e.k) (by simp only [ByteArray.size_append]; omega) (by simp only [ByteArray.size_append]; exact t5.1)
  simp only [ByteArray.size_append] at t4
  have t3 := cut_split (s := s) (p := p) (x := txtB e.i ++ txtB e.a ++ txtB e.m) (y := numB e.n) (by simp only [ByteArray.size_append]; omega) (by simp only [ByteArray.size_append]; exact t4.1)
  simp only [ByteArray.size_append] at t3
  have t2 := cut_split (s := s) (p := p) (x := txtB e.i ++ txtB e.a) (y := txtB e.m) (by simp only [ByteArray.size_append]; omega) (by simp only [ByteArray.size_append]; exact t3.1)
  simp only [ByteArray.size_append] at t2
  have t1 := cut_split (s := s) (p := p) (x := txtB e.i) (y := txtB e.a) (by omega) t2.1
  have g1 := txtAt_put (s := s) (p := p) (t := e.i) (by omega) (by omega) t1.1
  have g2 := txtAt_put (s := s) (p := p + (txtB e.i).size) (t := e.a) (by omega) (by omega) t1.2
  have g3 := txtAt_put (s := s) (p := p + ((txtB e.i).size + (txtB e.a).size)) (t := e.m) (by omega) (by omega) t2.2
  have g4 := numAt_put (s := s) (p := p + ((txtB e.i).size + (txtB e.a).size + (txtB e.m).size)) (n := e.n) ⟨by omega, by omega⟩ (by omega) t3.2
  have g5 := numAt_put (s := s) (p := p + ((txtB e.i).size + (txtB e.a).size + (txtB e.m).size + (numB e.n).size)) (n := e.k) ⟨by omega, by omega⟩ (by omega) t4.2
  have g6 := txtAt_put (s := s) (p := p + ((txtB e.i).size + (txtB e.a).size + (txtB e.m).size + (numB e.n).size + (numB e.k).size)) (t := e.t) (by omega) (by omega) t5.2
  simp only [Nat.add_assoc] at *
  unfold evAt
  simp only [g1, g2, g3, g4, g5, g6, Option.bind_some]
/-- What is read as so many events. -/
def evsAt (s : ByteArray) : Nat → Nat → Option (List E × Nat)
  | p, 0 => some ([], p)
  | p, k + 1 => (evAt s p).bind fun x => (evsAt s x.2 k).bind fun y => some (x.1 :: y.1, y.2)
theorem catT_app (t u : ByteArray) (es : List E) : catT (t ++ u) es = t ++ catT u es := by
  unfold catT
  induction es generalizing u with
  | nil => rfl
  | cons e es ih =>
    simp only [List.foldl_cons]
    rw [show t ++ u ++ e.b = t ++ (u ++ e.b) by apply ByteArray.ext; simp [Array.append_assoc]]
    exact ih (u ++ e.b)
theorem evsAt_back {s : ByteArray} : ∀ {k p : Nat} {l : List E} {q : Nat}, p ≤ s.size → evsAt s p k = some (l, q) → l.length = k ∧ p ≤ q ∧ q ≤ s.size ∧ s.extract p q = catT ⟨#[]⟩ l
  | 0, p, l, q, hp, h => by
    simp only [evsAt, Option.some.injEq, Prod.mk.injEq] at h
    obtain ⟨rfl, rfl⟩ := h
    refine ⟨rfl, Nat.le_refl _, hp, ?_⟩
    apply ByteArray.ext
    simp [catT]
  | k + 1, p, l, q, hp, h => by
    simp only [evsAt, Option.bind_eq_some_iff] at h
    obtain ⟨⟨e, r⟩, h1, ⟨l', q'⟩, h2, he⟩ := h
    simp only [Option.some.injEq, Prod.mk.injEq] at he
    obtain ⟨rfl, rfl⟩ := he
    obtain ⟨a1, a2, a3⟩ := evAt_back h1
    obtain ⟨b1, b2, b3, b4⟩ := evsAt_back (by simpa using a2) h2
    simp only at *
    refine ⟨by simp [b1], by omega, b3, ?_⟩
    rw [cut_two s p r q' (by omega) b2, a3, b4]
    have : catT ⟨#[]⟩ (e :: l') = catT (e.b ++ ⟨#[]⟩) l' := by
      unfold catT
      simp only [List.foldl_cons]
      congr 1
      apply ByteArray.ext
      simp
    rw [this, catT_app]
end EvtR
end Go.Proofs.Ytmilejcpdfhmmaa
