/-
  What the program and the model read of a batch's text is one thing. Bytes alone. No condition.
-/
import Derived.Test.YtmilejcpdfhmmaaSBRead
namespace Go.Proofs.Ytmilejcpdfhmmaa
open Go.RowKit
set_option linter.unusedVariables false
namespace EvtR
open NumsR NumR
theorem pT_some {s : ByteArray} {o : Option Nat} {q : Nat} (h : pT s o = some q) : ∃ p, o = some p ∧ txtAt s p = some (rT s o, q) := by
  unfold pT at h
  cases hb : o.bind (txtAt s) with
  | none => rw [hb] at h; simp at h
  | some x =>
    obtain ⟨p, rfl, hp⟩ := Option.bind_eq_some_iff.1 hb
    rw [hb] at h
    simp only [Option.map_some, Option.some.injEq] at h
    refine ⟨p, rfl, ?_⟩
    unfold rT
    rw [hb, hp]
    simp [← h]
theorem pN_some {s : ByteArray} {o : Option Nat} {q : Nat} (h : pN s o = some q) : ∃ p, o = some p ∧ numAt s p = some (rN s o, q) := by
  unfold pN at h
  cases hb : o.bind (numAt s) with
  | none => rw [hb] at h; simp at h
  | some x =>
    obtain ⟨p, rfl, hp⟩ := Option.bind_eq_some_iff.1 hb
    rw [hb] at h
    simp only [Option.map_some, Option.some.injEq] at h
    refine ⟨p, rfl, ?_⟩
    unfold rN
    rw [hb, hp]
    simp [← h]
theorem pE_some {s : ByteArray} {o : Option Nat} {q : Nat} (h : pE s o = some q) : ∃ p, o = some p ∧ evAt s p = some (rE s o, q) := by
  unfold pE at h
  obtain ⟨p6, h6, g6⟩ := pT_some h
  obtain ⟨p5, h5, g5⟩ := pN_some h6
  obtain ⟨p4, h4, g4⟩ := pN_some h5
  obtain ⟨p3, h3, g3⟩ := pT_some h4
  obtain ⟨p2, h2, g2⟩ := pT_some h3
  obtain ⟨p1, h1, g1⟩ := pT_some h2
  refine ⟨p1, h1, ?_⟩
  unfold evAt rE
  rw [g1]; simp only [Option.bind_some]
  rw [g2]; simp only [Option.bind_some]
  rw [g3]; simp only [Option.bind_some]
  rw [g4]; simp only [Option.bind_some]
  rw [g5]; simp only [Option.bind_some]
  rw [g6]; simp only [Option.bind_some]
theorem pE_none (s : ByteArray) : pE s none = none := rfl
theorem evAt_pE {s : ByteArray} {p : Nat} {e : E} {q : Nat} (h : evAt s p = some (e, q)) : rE s (some p) = e ∧ pE s (some p) = some q := by
  unfold evAt at h
  simp only [Option.bind_eq_some_iff] at h
  obtain ⟨⟨i, p1⟩, h1, ⟨a, p2⟩, h2, ⟨m, p3⟩, h3, ⟨n, p4⟩, h4, ⟨k, p5⟩, h5, ⟨t, p6⟩, h6, he⟩ := h
  simp only [Option.some.injEq, Prod.mk.injEq] at he
  obtain ⟨rfl, rfl⟩ := he
  simp only at h1 h2 h3 h4 h5 h6
  unfold rE pE
  simp only [rT, pT, rN, pN, Option.bind_some, h1, h2, h3, h4, h5, h6, Option.map_some, Option.getD_some, and_self]
theorem evsR_none (s : ByteArray) : ∀ k l o, evsR s none k = some (l, o) → o = none
  | 0, l, o, h => by simp [evsR] at h; exact h.2.symm
  | k + 1, l, o, h => by
    rw [evsR] at h
    cases hk : (rE s none).ok
    · rw [hk] at h; simp at h
    · rw [hk, pE_none] at h
      simp only [cond_true, Option.map_eq_some_iff] at h
      obtain ⟨⟨l', o'⟩, h1, h2⟩ := h
      simp only [Prod.mk.injEq] at h2
      obtain ⟨_, rfl⟩ := h2
      exact evsR_none s k l' o' h1
/-- Where the program's reading ends without a fault, the model's is the same, and all are right. -/
theorem evsR_evsS (s : ByteArray) : ∀ (k : Nat) (o : Option Nat) (l : List E) (q : Nat), evsR s o k = some (l, some q) → evsS s o k = (l, some q) ∧ l.all E.ok = true
  | 0, o, l, q, h => by
    simp only [evsR, Option.some.injEq, Prod.mk.injEq] at h
    obtain ⟨rfl, rfl⟩ := h
    exact ⟨rfl, rfl⟩
  | k + 1, none, l, q, h => by have := evsR_none s (k + 1) l (some q) h; simp at this
  | k + 1, some p, l, q, h => by
    rw [evsR] at h
    cases hk : (rE s (some p)).ok
    · rw [hk] at h; simp at h
    · rw [hk] at h
      simp only [cond_true, Option.map_eq_some_iff] at h
      obtain ⟨⟨l', o'⟩, h1, h2⟩ := h
      simp only [Prod.mk.injEq] at h2
      obtain ⟨rfl, rfl⟩ := h2
      obtain ⟨a, b⟩ := evsR_evsS s k _ l' q h1
      refine ⟨by rw [evsS, a], by simp [hk]; simpa using b⟩
theorem evsS_evsR (s : ByteArray) : ∀ (k : Nat) (o : Option Nat) (l : List E) (q : Nat), evsS s o k = (l, some q) → l.all E.ok = true → evsR s o k = some (l, some q)
  | 0, o, l, q, h, _ => by
    simp only [evsS, Prod.mk.injEq] at h
    obtain ⟨rfl, rfl⟩ := h
    rfl
  | k + 1, none, l, q, h, _ => by simp [evsS] at h
  | k + 1, some p, l, q, h, ha => by
    simp only [evsS, Prod.mk.injEq] at h
    obtain ⟨rfl, h2⟩ := h
    simp only [List.all_cons, Bool.and_eq_true] at ha
    have := evsS_evsR s k _ _ q (Prod.ext rfl h2) ha.2
    rw [evsR, ha.1, this]
    rfl
theorem evsS_at (s : ByteArray) : ∀ (k : Nat) (p : Nat) (l : List E) (q : Nat), evsS s (some p) k = (l, some q) → evsAt s p k = some (l, q)
  | 0, p, l, q, h => by
    simp only [evsS, Prod.mk.injEq, Option.some.injEq] at h
    obtain ⟨rfl, rfl⟩ := h
    rfl
  | k + 1, p, l, q, h => by
    simp only [evsS, Prod.mk.injEq] at h
    obtain ⟨rfl, h2⟩ := h
    cases hp : pE s (some p) with
    | none =>
      rw [hp] at h2
      cases k <;> simp [evsS] at h2
    | some r =>
      obtain ⟨p', h1, g⟩ := pE_some hp
      obtain rfl : p = p' := by simpa using h1
      rw [hp] at h2
      have := evsS_at s k r _ q (Prod.ext rfl h2)
      rw [evsAt, g]
      simp only [Option.bind_some]
      rw [this]
      simp
theorem evsS_none_end (s : ByteArray) (k : Nat) : (evsS s none k).2 = none := by cases k <;> rfl
/-- What a whole reading is, in bytes. -/
theorem whole (s : ByteArray) (C : Nat) (l : List E) (q : Nat) (hc : rN s (some 0) = C) (h : evsS s (pN s (some 0)) C = (l, some q)) : ∃ q0, 0 < q0 ∧ q0 ≤ q ∧ q ≤ s.size ∧ l.length = C ∧ s.extract 0 q0 = numB C ∧ s.extract q0 q = catT ⟨#[]⟩ l := by
  cases h0 : pN s (some 0) with
  | none =>
    rw [h0] at h
    have := evsS_none_end s C
    rw [h] at this
    simp at this
  | some q0 =>
    obtain ⟨p, h1, g⟩ := pN_some h0
    obtain rfl : p = 0 := by simpa using h1.symm
    obtain ⟨_, b1, b2, b3⟩ := numAt_back g
    rw [h0] at h
    obtain ⟨c1, c2, c3, c4⟩ := evsAt_back b2 (evsS_at s C q0 l q h)
    rw [hc] at b3
    exact ⟨q0, b1, c2, c3, c1, b3, c4⟩
theorem cut_all (s : ByteArray) : s.extract 0 s.size = s := by
  apply ByteArray.ext
  rw [ByteArray.data_extract]
  exact Array.extract_size
theorem bat_of (C : Nat) (l : List E) (hl : l.length = C) (h20 : C ≤ 20) (ha : l.all E.ok = true) : batT l = numB C ++ catT ⟨#[]⟩ l := by
  unfold batT
  rw [if_pos ⟨by omega, ha⟩, hl, ← catT_app]
  congr 1
  apply ByteArray.ext
  simp
/-- The program's reading and the model's are one. -/
theorem bat_eq (s : ByteArray) : batS s = batR s := by
  unfold batS batR
  by_cases hc : 0 ≤ rN s (some 0) ∧ rN s (some 0) ≤ 20
  · rw [if_pos hc, if_pos hc]
    obtain ⟨C, hC⟩ : ∃ C : Nat, rN s (some 0) = C := ⟨(rN s (some 0)).toNat, by omega⟩
    rw [hC, Int.toNat_natCast]
    have h20 : C ≤ 20 := by omega
    obtain ⟨l, o, hS⟩ : ∃ l o, evsS s (pN s (some 0)) C = (l, o) := ⟨_, _, rfl⟩
    rw [hS]
    simp only
    cases o with
    | none =>
      rw [if_neg (by simp)]
      cases hR : evsR s (pN s (some 0)) C with
      | none => rfl
      | some x =>
        obtain ⟨l', o'⟩ := x
        cases o' with
        | none => simp
        | some q' =>
          have := (evsR_evsS s C _ l' q' hR).1
          rw [hS] at this
          simp at this
    | some q =>
      obtain ⟨q0, w1, w2, w3, w4, w5, w6⟩ := whole s C l q hC hS
      by_cases ha : l.all E.ok = true
      · rw [evsS_evsR s C _ l q hS ha]
        simp only
        have hb := bat_of C l w4 h20 ha
        by_cases hq : q = s.size
        · subst hq
          have e : batT l = s := by rw [hb, ← w5, ← w6, ← cut_two s 0 q0 s.size (by omega) w2, cut_all]
          rw [if_pos ⟨by simp, by omega, e⟩, if_pos rfl]
        · have hne : batT l ≠ s := by
            intro e
            have e2 := congrArg ByteArray.size e
            rw [hb, ByteArray.size_append, ← w5, ← w6, cut_size s 0 q0 (by omega), cut_size s q0 q w3] at e2
            omega
          rw [if_neg (fun h => hne h.2.2), if_neg (by simp; exact hq)]
      · have hne : ¬ ((some q : Option Nat) ≠ none ∧ s.size ≠ 0 ∧ batT l = s) := by
          rintro ⟨_, h0, h1⟩
          have : batT l = ⟨#[]⟩ := if_neg (fun h => ha h.2)
          rw [this] at h1
          rw [← h1] at h0
          exact h0 rfl
        rw [if_neg hne]
        cases hR : evsR s (pN s (some 0)) C with
        | none => rfl
        | some x =>
          obtain ⟨l', o'⟩ := x
          cases o' with
          | none => simp
          | some q' =>
            obtain ⟨h1, h2⟩ := evsR_evsS s C _ l' q' hR
            rw [hS] at h1
            simp only [Prod.mk.injEq, Option.some.injEq] at h1
            obtain ⟨rfl, rfl⟩ := h1
            exact absurd h2 ha
  · rw [if_neg hc, if_neg hc]
end EvtR
end Go.Proofs.Ytmilejcpdfhmmaa
