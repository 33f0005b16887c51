/-
  The names that the model's bill goes by: each of an account's windows with its place, put among others by its meter. No condition.
-/
import Derived.Test.YtcilbmhkhllmjaaGreatDoorB25
namespace Go.Proofs.YtcilbmhkhllmjaaGreatDoor
open Go.ChangeShapes Go.WideShapes Go.ChangeAt Go.RowKit
set_option linter.unusedVariables false
namespace BilR
open LtR WinR LinR
open RowG (getD_mem)
open NetR (put fnd nlt addN)
/-- The places of an account's windows, of the first k. -/
def ixs (a : ByteArray) (ws : List Wd) (k : Nat) : List Nat := (List.range k).filter (fun j => ownW a (ws.getD j Wd.zero))
def wm (ws : List Wd) (j : Nat) : ByteArray := (ws.getD j Wd.zero).m
def mk (ws : List Wd) (j : Nat) : N := ⟨wm ws j, (j : Int)⟩
/-- The places in the order of their meters. -/
def jx (a : ByteArray) (ws : List Wd) (k : Nat) : List Nat := srt (wm ws) (ixs a ws k)
def nms (a : ByteArray) (ws : List Wd) (k : Nat) : List N := (jx a ws k).map (mk ws)
theorem ixs_more (a : ByteArray) (ws : List Wd) (k : Nat) : ixs a ws (k + 1) = ixs a ws k ++ (if ownW a (ws.getD k Wd.zero) = true then [k] else []) := by
  unfold ixs
  rw [List.range_succ, List.filter_append]
  congr 1
  rw [List.filter_cons]
  split <;> simp_all
theorem ixs_map (a : ByteArray) (ws : List Wd) : (ixs a ws ws.length).map (fun j => ws.getD j Wd.zero) = ws.filter (ownW a) := by
  have e : ws = (List.range ws.length).map (fun j => ws.getD j Wd.zero) := by
    refine List.ext_getElem (by simp) (fun i h1 h2 => ?_)
    simp [List.getD, h1]
  conv => rhs; rw [e]
  rw [List.filter_map]
  rfl
theorem ixs_lt {a : ByteArray} {ws : List Wd} {k j : Nat} (h : j ∈ ixs a ws k) : j < k ∧ ownW a (ws.getD j Wd.zero) = true := by
  unfold ixs at h
  obtain ⟨h1, h2⟩ := List.mem_filter.1 h
  exact ⟨List.mem_range.1 h1, h2⟩
theorem jx_lt {a : ByteArray} {ws : List Wd} {k j : Nat} (h : j ∈ jx a ws k) : j < k ∧ ownW a (ws.getD j Wd.zero) = true := ixs_lt ((srt_perm _).mem_iff.1 h)
theorem jx_wds (a : ByteArray) (ws : List Wd) : (jx a ws ws.length).map (fun j => ws.getD j Wd.zero) = srt Wd.m (ws.filter (ownW a)) := by
  rw [← ixs_map]
  exact srt_map (f := Wd.m) (fun j => ws.getD j Wd.zero) (ixs a ws ws.length)
theorem nms_eq (a : ByteArray) (ws : List Wd) (k : Nat) : nms a ws k = srt N.i ((ixs a ws k).map (mk ws)) := srt_map (f := N.i) (mk ws) (ixs a ws k)
theorem nms_other {a : ByteArray} {ws : List Wd} {k : Nat} (h : ownW a (ws.getD k Wd.zero) = false) : nms a ws (k + 1) = nms a ws k := by
  rw [nms_eq, nms_eq, ixs_more, h]; simp
theorem put_insB : ∀ {L : List N} {x : N}, fnd L x.i = false → put L x = insB N.i x L
  | [], x, _ => rfl
  | y :: l, x, h => by
    unfold put NetR.ins
    unfold NetR.fnd at h
    unfold insB
    cases q : lt y.i x.i
    · rw [q, cond_false] at h
      have q2 : nlt y x = false := q
      cases q3 : lt x.i y.i
      · have := lt_total q q3
        rw [this] at h; simp at h
      · have q4 : nlt x y = true := q3
        simp [q2, q4]
    · rw [q, cond_true] at h
      have q2 : nlt y x = true := q
      rw [if_pos q2, if_pos rfl]
      have := put_insB h
      unfold put at this
      rw [this]
theorem nms_own {a : ByteArray} {ws : List Wd} {k : Nat} (h : ownW a (ws.getD k Wd.zero) = true) (hf : fnd (nms a ws k) (wm ws k) = false) : put (nms a ws k) (mk ws k) = nms a ws (k + 1) := by
  rw [put_insB (x := mk ws k) hf, nms_eq, nms_eq, ixs_more, if_pos h, List.map_append, List.map_cons, List.map_nil, srt_snoc]
theorem fnd_some : ∀ {L : List N} {x : ByteArray}, fnd L x = true → ∃ y ∈ L, y.i = x
  | y :: l, x, h => by
    unfold NetR.fnd at h
    cases q : lt y.i x
    · rw [q, cond_false] at h
      exact ⟨y, List.mem_cons_self .., toList_inj (by simpa using h)⟩
    · rw [q, cond_true] at h
      obtain ⟨z, hz, e⟩ := fnd_some h
      exact ⟨z, List.mem_cons_of_mem _ hz, e⟩
theorem lt_irr (x : ByteArray) : lt x x = false := by
  cases h : lt x x
  · rfl
  · have := lt_asymm h; rw [h] at this; cases this
theorem fnd_none : ∀ {L : List N} {x : ByteArray}, Ris N.i L → fnd L x = false → ∀ y ∈ L, y.i ≠ x
  | y :: l, x, hR, h, z, hz, e => by
    obtain ⟨h1, h2⟩ := List.pairwise_cons.1 hR
    unfold NetR.fnd at h
    cases q : lt y.i x
    · rw [q, cond_false] at h
      rcases List.mem_cons.1 hz with rfl | hz
      · rw [e] at h; simp at h
      · have := h1 z hz
        rw [e] at this; rw [this] at q; cases q
    · rw [q, cond_true] at h
      rcases List.mem_cons.1 hz with rfl | hz
      · rw [e, lt_irr] at q; cases q
      · exact fnd_none h2 h z hz e
/-- No meter twice among the first k. -/
def NoTwo (a : ByteArray) (ws : List Wd) (k : Nat) : Prop := ((ixs a ws k).map (wm ws)).Nodup
theorem nms_ris {a : ByteArray} {ws : List Wd} {k : Nat} (h : NoTwo a ws k) : Ris N.i (nms a ws k) := by
  rw [nms_eq]
  refine srt_ris _ ?_
  rw [List.map_map]
  exact h
theorem noTwo_other {a : ByteArray} {ws : List Wd} {k : Nat} (h : ownW a (ws.getD k Wd.zero) = false) (hn : NoTwo a ws k) : NoTwo a ws (k + 1) := by
  unfold NoTwo at hn ⊢
  rw [ixs_more, h]; simpa using hn
theorem noTwo_own {a : ByteArray} {ws : List Wd} {k : Nat} (h : ownW a (ws.getD k Wd.zero) = true) (hf : fnd (nms a ws k) (wm ws k) = false) (hn : NoTwo a ws k) : NoTwo a ws (k + 1) := by
  unfold NoTwo
  rw [ixs_more, if_pos h, List.map_append, List.nodup_append]
  refine ⟨hn, by simp, fun x hx y hy => ?_⟩
  simp only [List.map_cons, List.map_nil, List.mem_singleton] at hy
  subst hy
  obtain ⟨j, hj, rfl⟩ := List.mem_map.1 hx
  exact fnd_none (nms_ris hn) hf (mk ws j) (List.mem_map.2 ⟨j, (srt_perm _).mem_iff.2 hj, rfl⟩)
/-- One meter twice, so the list has it. -/
theorem two_of {a : ByteArray} {ws : List Wd} {k : Nat} (hk : k < ws.length) (h : ownW a (ws.getD k Wd.zero) = true) (hf : fnd (nms a ws k) (wm ws k) = true) : ¬ ((ws.filter (ownW a)).map Wd.m).Nodup := by
  intro hn
  obtain ⟨y, hy, e⟩ := fnd_some hf
  obtain ⟨j, hj, rfl⟩ := List.mem_map.1 hy
  obtain ⟨h1, h2⟩ := jx_lt hj
  have hp : ((List.range ws.length).filter (fun j => ownW a (ws.getD j Wd.zero))).Pairwise (fun i j => wm ws i ≠ wm ws j) := by
    rw [← ixs_map, List.map_map] at hn
    exact List.pairwise_map.1 hn
  have hs : [j, k].Sublist ((List.range ws.length).filter (fun j => ownW a (ws.getD j Wd.zero))) := by
    have h3 : [j, k].Sublist (List.range ws.length) := by
      have h4 : ([j] ++ [k]).Sublist (List.range k ++ (List.range (ws.length - k)).map (k + ·)) := by
        refine List.Sublist.append (List.singleton_sublist.2 (List.mem_range.2 h1)) (List.singleton_sublist.2 (List.mem_map.2 ⟨0, List.mem_range.2 (by omega), by omega⟩))
      rw [← List.range_add, show k + (ws.length - k) = ws.length by omega] at h4
      exact h4
    have := h3.filter (fun j => ownW a (ws.getD j Wd.zero))
    rwa [show [j, k].filter (fun j => ownW a (ws.getD j Wd.zero)) = [j, k] from List.filter_eq_self.2 (fun z hz => by rcases List.mem_cons.1 hz with rfl | hz; exact h2; rcases List.mem_cons.1 hz with rfl | hz; exact h; cases hz)] at this
  have := hp.sublist hs
  simp only [List.pairwise_cons, List.mem_singleton, forall_eq] at this
  exact this.1 e
theorem noTwo_all {a : ByteArray} {ws : List Wd} (h : NoTwo a ws ws.length) : ((ws.filter (ownW a)).map Wd.m).Nodup := by
  rw [← ixs_map, List.map_map]; exact h
end BilR
end Go.Proofs.YtcilbmhkhllmjaaGreatDoor
