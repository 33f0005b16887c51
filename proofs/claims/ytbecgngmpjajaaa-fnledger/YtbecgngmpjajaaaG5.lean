/-
  Bytes put are got back: what is spelled at a place is read there. Bytes alone. No condition.
  A right ledger comes back from its bytes, and what is read of a text is told by just its bytes. Bytes alone, and then both sides' readers. The condition: the text has at most 1048576 bytes.
-/
import Derived.Test.YtbecgngmpjajaaaG4
namespace Go.Proofs.Ytbecgngmpjajaaa
open Go.ChangeShapes Go.WideShapes Go.ChangeAt Go.RowKit
set_option linter.unusedVariables false
namespace SpR
open EvtR (rT pT rN pN rC pC rC_le txtAt txtAt_back txtAt_put txtB cut_two cut_size cut_split rT_size)
open NumsR (numAt numAt_back numAt_put I64)
open NumR (numB numB_size)
open JoinR (joinB)
open DocR (joinB_app joinB_one)
/-- These parts stand at a place. -/
def Sq (s : ByteArray) (p : Nat) (L : List ByteArray) : Prop := p + (joinB L).size ≤ s.size ∧ s.extract p (p + (joinB L).size) = joinB L
theorem sq_app {s : ByteArray} {p : Nat} {L L' : List ByteArray} (h : Sq s p (L ++ L')) : Sq s p L ∧ Sq s (p + (joinB L).size) L' := by
  obtain ⟨h1, h2⟩ := h
  rw [joinB_app, ByteArray.size_append] at h1 h2
  obtain ⟨e1, e2⟩ := cut_split h1 h2
  exact ⟨⟨by omega, e1⟩, ⟨by omega, e2⟩⟩
theorem sq_cons {s : ByteArray} {p : Nat} {x : ByteArray} {L : List ByteArray} (h : Sq s p (x :: L)) : Sq s p [x] ∧ Sq s (p + x.size) L := by
  have := sq_app (L := [x]) (L' := L) h
  rw [joinB_one] at this
  exact this
theorem sq_one {s : ByteArray} {p : Nat} {L : List ByteArray} (h : Sq s p [joinB L]) : Sq s p L := by
  obtain ⟨h1, h2⟩ := h
  rw [joinB_one] at h1 h2
  exact ⟨h1, h2⟩
theorem sq_whole (L : List ByteArray) : Sq (joinB L) 0 L := ⟨by omega, by rw [Nat.zero_add]; exact cut_whole _⟩
theorem num_sq {s : ByteArray} {p : Nat} {n : Int} (hn : I64 n) (h : Sq s p [numB n]) : rN s (some p) = n ∧ pN s (some p) = some (p + (numB n).size) := by
  obtain ⟨h1, h2⟩ := h
  rw [joinB_one] at h1 h2
  have := numAt_put hn h1 h2
  unfold rN pN
  simp [this]
theorem txt_sq {s : ByteArray} {p : Nat} {t : ByteArray} (ht : t.size ≤ 8000) (h : Sq s p [txB t]) : rT s (some p) = t ∧ pT s (some p) = some (p + (txB t).size) := by
  obtain ⟨h1, h2⟩ := h
  rw [joinB_one] at h1 h2
  have := txtAt_put (s := s) (p := p) (t := t) ht h1 h2
  unfold rT pT
  simp [this]
  rfl
theorem cnt_sq {s : ByteArray} {p n M : Nat} (hn : n ≤ M) (hM : M ≤ 1000) (h : Sq s p [numB (n : Int)]) : rC s (some p) M = n ∧ pC s (some p) M = some (p + (numB (n : Int)).size) := by
  obtain ⟨e1, e2⟩ := num_sq (n := (n : Int)) ⟨by omega, by omega⟩ h
  unfold rC pC
  rw [e1, e2]
  have k : 0 ≤ (n : Int) ∧ (n : Int) ≤ (M : Int) := by omega
  rw [if_pos k, if_pos k]
  exact ⟨by simp, rfl⟩
end SpR
end Go.Proofs.Ytbecgngmpjajaaa
namespace Go.Proofs.Ytbecgngmpjajaaa
open Go.ChangeShapes Go.WideShapes Go.ChangeAt Go.RowKit
set_option linter.unusedVariables false
namespace LedR
open LinR NetR DocR
open EvtR (rT pT rN pN rC pC rC_le rT_size cut_size)
open NumR (numB)
open NumsR (I64)
open JoinR (joinB)
open DocR (joinB_app joinB_one)
open SpR (Sq sq_app sq_cons sq_one sq_whole num_sq txt_sq cnt_sq cut_whole)
theorem lns_put (s : ByteArray) : ∀ (ls : List N) (p : Nat), (∀ y ∈ ls, y.i.size ≤ 8000 ∧ I64 y.n) → Sq s p (ls.flatMap lnP) → lnsR s (some p) ls.length = (ls, some (p + (joinB (ls.flatMap lnP)).size))
  | [], p, _, h => rfl
  | t :: ts, p, hb, h => by
    have h0 : Sq s p (SpR.txB t.i :: (numB t.n :: ts.flatMap lnP)) := h
    obtain ⟨h1, h2⟩ := sq_cons h0
    obtain ⟨h3, h4⟩ := sq_cons h2
    obtain ⟨b1, b2⟩ := hb t (List.mem_cons_self ..)
    obtain ⟨e1, e2⟩ := txt_sq b1 h1
    obtain ⟨e3, e4⟩ := num_sq b2 h3
    have ih := lns_put s ts _ (fun t ht => hb t (List.mem_cons_of_mem _ ht)) h4
    show ((⟨rT s (some p), rN s (pT s (some p))⟩ : N) :: (lnsR s (pN s (pT s (some p))) ts.length).1, (lnsR s (pN s (pT s (some p))) ts.length).2) = _
    rw [e2, e4, ih, e1, e3]
    refine Prod.ext rfl ?_
    simp only [Option.some.injEq]
    have e : (t :: ts).flatMap lnP = [SpR.txB t.i] ++ ([numB t.n] ++ ts.flatMap lnP) := rfl
    rw [e, joinB_app, joinB_app, ByteArray.size_append, ByteArray.size_append, joinB_one, joinB_one]
    omega
theorem doc_put {s : ByteArray} {p : Nat} {x : D} (hx : dB x = true) (h : Sq s p [dBy x]) : docR s (some p) = x ∧ docP s (some p) = some (p + (dBy x).size) := by
  obtain ⟨k0, k1, k2, k3, k4⟩ := doc_bd hx
  have eB : dBy x = joinB (SpR.txB x.a :: (numB x.mo :: (numB x.sq :: (numB (x.ls.length : Int) :: x.ls.flatMap lnP)))) := by
    unfold dBy bP
    rw [List.take_length]
    rfl
  have h0 : Sq s p (SpR.txB x.a :: (numB x.mo :: (numB x.sq :: (numB (x.ls.length : Int) :: x.ls.flatMap lnP)))) := by
    rw [eB] at h
    exact sq_one h
  obtain ⟨h1, h2⟩ := sq_cons h0
  obtain ⟨h3, h4⟩ := sq_cons h2
  obtain ⟨h5, h6⟩ := sq_cons h4
  obtain ⟨h7, h8⟩ := sq_cons h6
  obtain ⟨e1, e2⟩ := txt_sq (by omega) h1
  obtain ⟨e3, e4⟩ := num_sq ⟨by omega, by omega⟩ h3
  obtain ⟨e5, e6⟩ := num_sq ⟨by omega, by omega⟩ h5
  obtain ⟨e7, e8⟩ := cnt_sq (M := 6) k3 (by omega) h7
  have e9 := lns_put s x.ls _ (fun y hy => ⟨by have := (k4 y hy).1; omega, ⟨by have := (k4 y hy).2; omega, by have := (k4 y hy).2; omega⟩⟩) h8
  have o3 : dO3 s (some p) = some (p + (SpR.txB x.a).size + (numB x.mo).size + (numB x.sq).size) := by
    unfold dO3
    rw [e2, e4, e6]
  have o4 : dO4 s (some p) = some (p + (SpR.txB x.a).size + (numB x.mo).size + (numB x.sq).size + (numB (x.ls.length : Int)).size) := by
    unfold dO4
    rw [o3]
    exact e8
  have oc : dC s (some p) = x.ls.length := by
    unfold dC
    rw [o3]
    exact e7
  constructor
  · unfold docR
    rw [o4, oc, e9, e1, e2, e3, e4, e5]
  · unfold docP
    rw [o4, oc, e9, eB]
    have e : (SpR.txB x.a :: (numB x.mo :: (numB x.sq :: (numB (x.ls.length : Int) :: x.ls.flatMap lnP)))) = [SpR.txB x.a] ++ ([numB x.mo] ++ ([numB x.sq] ++ ([numB (x.ls.length : Int)] ++ x.ls.flatMap lnP))) := rfl
    rw [e]
    simp only [joinB_app, ByteArray.size_append, joinB_one, Option.some.injEq]
    omega
theorem docs_put (s : ByteArray) : ∀ (ds : List D) (p : Nat), (∀ d ∈ ds, dB d = true) → Sq s p (ds.map dBy) → docsR s (some p) ds.length = (ds, some (p + (joinB (ds.map dBy)).size))
  | [], p, _, h => rfl
  | d :: ds, p, hb, h => by
    have h0 : Sq s p (dBy d :: ds.map dBy) := h
    obtain ⟨h1, h2⟩ := sq_cons h0
    obtain ⟨e1, e2⟩ := doc_put (hb d (List.mem_cons_self ..)) h1
    have ih := docs_put s ds _ (fun t ht => hb t (List.mem_cons_of_mem _ ht)) h2
    show (docR s (some p) :: (docsR s (docP s (some p)) ds.length).1, (docsR s (docP s (some p)) ds.length).2) = _
    rw [e2, ih, e1]
    refine Prod.ext rfl ?_
    simp only [Option.some.injEq]
    have e : (d :: ds).map dBy = [dBy d] ++ ds.map dBy := rfl
    rw [e, joinB_app, ByteArray.size_append, joinB_one]
    omega
theorem led_put {s : ByteArray} {ds : List D} (h : lB ds = true) (hs : s = lBy ds) : dsR s = ds ∧ oDE s = some s.size := by
  have hR := lB_iff.1 h
  have hd : ∀ d ∈ ds, dB d = true := fun d hd => by
    obtain ⟨i, hi, rfl⟩ := List.getElem_of_mem hd
    have := (hR.2.1 i hi).1
    rw [show ds.getD i D.zero = ds[i] by simp [List.getD, hi]] at this
    exact this
  have eB : lBy ds = joinB ([numB (ds.length : Int)] ++ ds.map dBy) := by
    unfold lBy lP
    rw [List.take_length]
  have h0 : Sq s 0 ([numB (ds.length : Int)] ++ ds.map dBy) := by
    rw [hs, eB]
    exact sq_whole _
  obtain ⟨h1, h2⟩ := sq_app h0
  rw [joinB_one, Nat.zero_add] at h2
  obtain ⟨e1, e2⟩ := cnt_sq (M := 30) hR.1 (by omega) h1
  rw [Nat.zero_add] at e2
  have e3 := docs_put s ds _ hd h2
  have o0 : oD0 s = some (numB (ds.length : Int)).size := e2
  have n0 : nD s = ds.length := e1
  constructor
  · unfold dsR
    rw [o0, n0, e3]
  · unfold oDE
    rw [o0, n0, e3, hs, eB, joinB_app, ByteArray.size_append, joinB_one]
/-- What is read of a text, and what is told by it. -/
def LrOk (s : ByteArray) (ds : List D) (cd : Int) : Prop := (cd = 0 → lbB ds = s) ∧ ∀ d0, s.size ≠ 0 → s = lbB d0 → ds = d0 ∧ cd = 0
theorem lb_right {d0 : List D} (h : (lbB d0).size ≠ 0) : lB d0 = true ∧ (lBy d0).size ≤ 8000 ∧ lbB d0 = lBy d0 := by
  unfold lbB at *
  cases h1 : lB d0
  · rw [h1] at h; exact absurd rfl h
  · rw [h1] at h
    cases h2 : decide ((lBy d0).size ≤ 8000)
    · rw [h2] at h; exact absurd rfl h
    · exact ⟨rfl, of_decide_eq_true h2, rfl⟩
/-- For every text there is one answer. -/
theorem lread_all (s : ByteArray) (hm : s.size ≤ 1048576) : ∃ (ds : List D) (cd : Int), LrOk s ds cd ∧ ds.length ≤ 30 ∧ (∀ d ∈ ds, d.Sm ∧ (Lit.int .i64 d.mo).wf = true) ∧
    (∀ w, Calls Try.prog 7 #[.string s] w fun e w' => ∃ v, e = .returned v ∧ LoO w.heap.size v ds D.zero cd w' ∧ Below w.heap.size w w') ∧
    (∀ w, Calls Try.prog 11 #[.string s] w fun e w' => ∃ v, e = .returned v ∧ LoO w.heap.size v ds D.zero cd w' ∧ Below w.heap.size w w') := by
  by_cases h8 : 8000 < s.size
  · refine ⟨[], 2, ⟨(fun q => by cases q), fun d0 h0 e => ?_⟩, by simp, (fun d h => absurd h (by simp)), fun w => (ilbig s w h8 hm).mono ?_, fun w => (slbig s w h8 hm).mono ?_⟩
    · rw [e] at h0
      obtain ⟨_, h2, h3⟩ := lb_right h0
      rw [e, h3] at h8
      omega
    · rintro e w' ⟨rfl, hb⟩
      exact ⟨_, rfl, loO_of (dso_nil _ _), hb⟩
    · rintro e w' ⟨rfl, hb⟩
      exact ⟨_, rfl, loO_of (dso_nil _ _), hb⟩
  have hs : s.size ≤ 8000 := by omega
  have hlen := dsR_le s
  have hsm : ∀ d ∈ dsR s, d.Sm := docsR_all s (docR_sm s) _ _
  have hwf : ∀ d ∈ dsR s, (Lit.int .i64 d.mo).wf = true := docsR_all (P := fun d => (Lit.int .i64 d.mo).wf = true) s (docR_wf s) _ _
  obtain ⟨hi, hS⟩ := lread_ways s hs
  have key := led_same s hs
  by_cases hr : oDE s = some s.size ∧ lB (dsR s) = true
  · refine ⟨dsR s, 0, ⟨fun _ => (key.2 hr).2.2, fun d0 h0 e => ?_⟩, hlen, fun d hd => ⟨hsm d hd, hwf d hd⟩, fun w => (hi w).mono ?_, fun w => (hS w).mono ?_⟩
    · rw [e] at h0
      obtain ⟨h1, h2, h3⟩ := lb_right h0
      exact ⟨(led_put h1 (e.trans h3)).1, rfl⟩
    · rintro e w' ⟨⟨q, _⟩ | ⟨_, ao, cap, rfl, hd⟩, hb⟩
      · rw [hr.2, decide_eq_true hr.1] at q
        cases q
      · exact ⟨_, rfl, loO_of hd, hb⟩
    · rintro e w' ⟨⟨q, _⟩ | ⟨_, ao, cap, rfl, hd⟩, hb⟩
      · exact absurd (key.2 hr) q
      · exact ⟨_, rfl, loO_of hd, hb⟩
  · refine ⟨[], 3, ⟨(fun q => by cases q), fun d0 h0 e => ?_⟩, by simp, (fun d h => absurd h (by simp)), fun w => (hi w).mono ?_, fun w => (hS w).mono ?_⟩
    · rw [e] at h0
      obtain ⟨h1, h2, h3⟩ := lb_right h0
      obtain ⟨q1, q2⟩ := led_put h1 (e.trans h3)
      exact absurd ⟨q2, by rw [q1]; exact h1⟩ hr
    · rintro e w' ⟨⟨_, rfl⟩ | ⟨q, _⟩, hb⟩
      · exact ⟨_, rfl, loO_of (dso_nil _ _), hb⟩
      · rw [Bool.and_eq_true, decide_eq_true_eq] at q
        exact absurd q hr
    · rintro e w' ⟨⟨_, rfl⟩ | ⟨q, _⟩, hb⟩
      · exact ⟨_, rfl, loO_of (dso_nil _ _), hb⟩
      · exact absurd (key.1 q) hr
end LedR
end Go.Proofs.Ytbecgngmpjajaaa
