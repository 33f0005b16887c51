/-
  The law's own marks in a list of documents. The condition: at most 1048576 documents and lines together.
-/
import Derived.Test.YtnhpkcacjkebnaaLgN
import Derived.Test.YtnhpkcacjkebnaaLiK
namespace Go.Proofs.Ytnhpkcacjkebnaa
open Go.ChangeShapes Go.WideShapes Go.ChangeAt Go.RowKit Go.Deep
set_option linter.unusedVariables false
namespace LedR
open LinR RowG LtR NetR DocR
open EvtR (Pt cell_put cell_far)
open MarkR (mk mT mark_any)
/-- How many lines there are, and how many marks. -/
def lns (ds : List D) : Nat := (ds.map (fun d => d.ls.length)).sum
def tot (ds : List D) : Nat := (ds.map (fun d => 3 + 2 * d.ls.length)).sum
theorem tot_eq (ds : List D) : tot ds = 3 * ds.length + 2 * lns ds := by
  unfold tot lns
  induction ds with
  | nil => rfl
  | cons d ds ih => simp only [List.map_cons, List.sum_cons, List.length_cons]; omega
theorem tot_more (ds : List D) (k : Nat) (h : k < ds.length) : tot (ds.take (k + 1)) = tot (ds.take k) + (3 + 2 * (ds.getD k D.zero).ls.length) := by
  unfold tot
  rw [take_more (z := D.zero) ds k h, List.map_append, List.sum_append]
  simp
theorem tot_le (ds : List D) (k : Nat) : tot (ds.take k) ≤ tot ds := by
  have e : tot ds = tot (ds.take k) + tot (ds.drop k) := by
    unfold tot
    rw [← List.sum_append, ← List.map_append, List.take_append_drop]
  omega
theorem dsz_le {l : Int} {x : D} (h : ¬ dszR l x < 0) : dszR l x ≤ l - (x.ls.length : Int) := by
  unfold dszR LinR.szF at *
  have := szL_nn x.ls
  split at h
  · split at h
    · rename_i h1 h2
      rw [if_pos h1, if_pos h2]
      omega
    · exact absurd (by omega) h
  · exact absurd (by omega) h
theorem lns_le : ∀ {ds : List D} {l : Int}, ¬ dsS l ds < 0 → (lns ds : Int) ≤ l
  | [], l, h => by simp only [dsS] at h; simp [lns]; omega
  | x :: ds, l, h => by
    rw [dsS] at h
    by_cases q : dszR l x < 0
    · rw [if_pos q] at h; exact absurd (by omega) h
    · rw [if_neg q] at h
      have h1 := dsz_le q
      have h2 := lns_le h
      have e : lns (x :: ds) = x.ls.length + lns ds := by simp [lns]
      rw [e]
      omega
theorem tot_small {ds : List D} (h : ¬ szDR ds < 0) : tot ds ≤ 5300000 := by
  have hl := (szDR_small h).1
  unfold szDR at h
  rw [tot_eq]
  split at h
  · exact absurd (by omega) h
  · have := lns_le h
    omega
/-- Nothing outside has changed. -/
structure Ot (g top : Nat) (w w' : World) : Prop where
  os : w'.os = w.os
  tape : w'.tape = w.tape
  output : w'.output = w.output
  size : w.heap.size ≤ w'.heap.size
  block : ∀ b, b < w.heap.size → (b < g ∨ top ≤ b) → w'.heap[b]? = w.heap[b]?
theorem Ot.refl (g top : Nat) (w : World) : Ot g top w w := ⟨rfl, rfl, rfl, Nat.le_refl _, fun _ _ _ => rfl⟩
theorem Ot.below {g top : Nat} {w w1 w2 : World} (h : Ot g top w w1) (hb : Below w1.heap.size w1 w2) : Ot g top w w2 :=
  ⟨hb.os.trans h.os, hb.tape.trans h.tape, hb.output.trans h.output, Nat.le_trans h.size hb.size, fun b h1 h2 => (hb.block b (by have := h.size; omega)).trans (h.block b h1 h2)⟩
theorem Ot.grown {g top x : Nat} {w w1 w2 : World} (h : Ot g top w w1) (hg : w1.grownBy w2 (some x)) (hx : g ≤ x ∧ x < top) : Ot g top w w2 :=
  ⟨hg.os.trans h.os, hg.tape.trans h.tape, hg.output.trans h.output, Nat.le_trans h.size hg.size, fun b h1 h2 => (hg.block b (by have := h.size; omega) (by simp; omega)).trans (h.block b h1 h2)⟩
theorem Ot.lis {g top : Nat} {w0 w w' : World} {ao : Option Addr} {es : List N} (h : Ot g top w w') (h0 : Lis ao es w0) (hI : Lis ao es w) (hg : w0.heap.size ≤ g) (hs : w0.heap.size ≤ w.heap.size) : Lis ao es w' := by
  rcases hI with h1 | ⟨b, off, rfl, hl, hc⟩
  · exact .inl h1
  · rcases h0 with h1 | ⟨b0, off0, e, hl0, _⟩
    · exact .inl h1
    · simp only [Option.some.injEq, Addr.mk.injEq, and_true] at e
      obtain ⟨rfl, rfl⟩ := e
      have eb := h.block b hl (.inl (by omega))
      exact .inr ⟨b, off, rfl, by have := h.size; omega, fun j hj i hi => (World.cell?_of_block (a := ⟨b, off + j * 2 + i, none⟩) eb).trans (hc j hj i hi)⟩
theorem Ot.made {g top base : Nat} {w w' : World} {bo : Option Addr} {l : List N} (h : Ot g top w w') (hm : MadeG 2 N.cells N.zero base bo l w) (hb : top ≤ base) : MadeG 2 N.cells N.zero base bo l w' := by
  rcases hm.own with h0 | ⟨x, rfl, hx, hp⟩
  · obtain rfl : l = [] := List.length_eq_zero_iff.1 h0
    exact made_nil _ _ _
  · have eb := h.block x hp.lt (.inr (by omega))
    refine ⟨?_, .inr ⟨x, rfl, hx, by have := h.size; have := hp.lt; omega, fun o ho => by obtain ⟨v, hv⟩ := hp.has o ho; exact ⟨v, (World.cell?_of_block (a := ⟨x, o, none⟩) eb).trans hv⟩, fun o ho => (World.frozen?_of_block (a := ⟨x, o, none⟩) eb).trans (hp.free o ho)⟩⟩
    rcases hm.rws with h1 | ⟨b, off, e, hl, hc⟩
    · exact .inl h1
    · simp only [Option.some.injEq, Addr.mk.injEq, and_true] at e
      obtain ⟨rfl, rfl⟩ := e
      exact .inr ⟨x, 0, rfl, by have := h.size; omega, fun j hj i hi => (World.cell?_of_block (a := ⟨x, 0 + j * 2 + i, none⟩) eb).trans (hc j hj i hi)⟩
theorem Ot.out {g top B : Nat} {a w w' : World} (h : Ot g top w w') (hb : Below B a w) (hB : B ≤ g) (ha : B ≤ a.heap.size) : Below B a w' :=
  ⟨h.os.trans hb.os, h.tape.trans hb.tape, h.output.trans hb.output, Nat.le_trans hb.size h.size, fun k hk => (h.block k (by have := hb.size; omega) (.inl (by omega))).trans (hb.block k hk)⟩
/-- What is marked yet to be. -/
def DX (g top k : Nat) (ds : List D) (W : World) : Prop := ∀ j, j < k → ∃ la lc, W.cell? ⟨g, j * 4 + 3, none⟩ = some (.slice la (ds.getD j D.zero).ls.length lc) ∧ ((ds.getD j D.zero).ls.length = 0 ∨ ∃ g', la = some ⟨g', 0, none⟩ ∧ g < g' ∧ g' < top ∧ Pt g' ((ds.getD j D.zero).ls.length * 2) W)
theorem DW.dx {g k : Nat} {ds : List D} {W : World} (h : DW g k ds W) : DX g W.heap.size k ds W := fun j hj => by
  obtain ⟨la, lc, _, _, _, c3, _, hn⟩ := h j hj
  exact ⟨la, lc, c3, hn⟩
theorem DX.below {g top k : Nat} {ds : List D} {W W' : World} (h : DX g top k ds W) (hg : g < W.heap.size) (hb : Below W.heap.size W W') : DX g top k ds W' := fun j hj => by
  obtain ⟨la, lc, c3, hn⟩ := h j hj
  exact ⟨la, lc, (hb.cell (p := ⟨g, j * 4 + 3, none⟩) hg).trans c3, hn.imp id (fun ⟨g', e1, e2, e3, e4⟩ => ⟨g', e1, e2, e3, e4.below hb⟩)⟩
theorem DX.put {g top k o : Nat} {ds : List D} {W : World} (h : DX g top k ds W) (ho : o % 4 ≠ 3) (v : Value) : DX g top k ds (W.setCell ⟨g, o, none⟩ v) := fun j hj => by
  obtain ⟨la, lc, c3, hn⟩ := h j hj
  exact ⟨la, lc, (cell_far _ _ (by omega) v).trans c3, hn.imp id (fun ⟨g', e1, e2, e3, e4⟩ => ⟨g', e1, e2, e3, pt_any e4⟩)⟩
theorem DX.grown {g top k x : Nat} {ds : List D} {W W' : World} (h : DX g top k ds W) (hgl : g < W.heap.size) (hg : W.grownBy W' (some x)) (hx : g < x) (ha : ∀ n', Pt x n' W → Pt x n' W') : DX g top k ds W' := fun j hj => by
  obtain ⟨la, lc, c3, hn⟩ := h j hj
  have eb := hg.block g hgl (by simp; omega)
  refine ⟨la, lc, (World.cell?_of_block (a := ⟨g, j * 4 + 3, none⟩) eb).trans c3, hn.imp id (fun ⟨g', e1, e2, e3, e4⟩ => ⟨g', e1, e2, e3, ?_⟩)⟩
  by_cases e : g' = x
  · subst e; exact ha _ e4
  · exact pt_far e4 hg e
set_option maxRecDepth 100000 in
set_option maxHeartbeats 8000000 in
theorem markDs (g top cap : Nat) (ds : List D) (w : World) (hlen : ds.length ≤ 1048576) (hSm : ∀ d ∈ ds, d.Sm) (ht : tot ds ≤ 5300000) (htop : g < top) (hP : Pt g (ds.length * 4) w) (hD : DX g top ds.length ds w) :
    Calls Try.prog 21 #[.slice (some ⟨g, 0, none⟩) ds.length cap, .int .i64 1] w fun e w' => e = .returned (.int .i64 (1 + tot ds : Nat)) ∧ Ot g top w w' := by
  have HSm := hid_intro hSm
  have HT : Hid (∀ (z : Int) (K : Nat), z = K → 1 ≤ K → K < 100000000 → ∀ w, Calls Try.prog 31 #[.int .i64 z] w fun e w' => e = .returned (.string (mT K)) ∧ Below w.heap.size w w') := hid_intro (fun z K e h0 h w => by subst e; exact mark_any K h0 h w)
  have HTL := hid_intro (fun k => tot_le ds k)
  obtain ⟨len, hl⟩ : ∃ len, len = ds.length := ⟨_, rfl⟩
  have HEND : Hid (tot (ds.take len) = tot ds) := hid_intro (by rw [hl, List.take_length])
  rw [← hl] at hlen hP hD ⊢
  have HP := hid_intro hP
  have HD := hid_intro hD
  have HL := hid_intro hl
  clear hP hD hl hSm
  go_enter Try.func21, Try.ntmps21
  go_wp2_with fail
  go_loopw [5, 1] (fun x z wr => ∃ (i K : Nat), x = .int .i64 (i : Int) ∧ z = .int .i64 (K : Int) ∧ i ≤ len ∧ 1 ≤ K ∧ K ≤ 5300001 ∧ Hid (K = 1 + tot (ds.take i)) ∧ Hid (Pt g (len * 4) wr) ∧ Hid (DX g top len ds wr) ∧ Hid (Ot g top w wr)) (fun x _ _ => len - (intOf x).toNat)
  case atStart => exact ⟨0, 1, rfl, rfl, by omega, by omega, by omega, hid_intro (by simp [tot]), HP, HD, hid_intro (Ot.refl _ _ _)⟩
  case round =>
    obtain ⟨i, K, rfl, rfl, hi, k0, k1, HK, HP, HD, HO⟩ := hrel
    by_cases hin : i = len
    · subst hin
      have HE : Hid (K = 1 + tot ds) := hid_intro (by rw [HK.out, HEND.out])
      go_wp2_with fail
      go_ret
      exact ⟨by rw [HE.out]; rfl, HO.out⟩
    · have h1 : (i : Int) < (len : Int) := by omega
      have hil : i < ds.length := by have := HL.out; omega
      have HTM := hid_intro (tot_more ds i hil)
      have hk2 : K + (3 + 2 * (ds.getD i D.zero).ls.length) ≤ 5300001 := by have := HTM.out; have := HTL.out (i + 1); have := HK.out; omega
      have hgl := HP.out.lt
      go_wp2_with fail
      refine (HT.out _ K rfl (by omega) (by omega) _).mono ?_
      rintro e w1 ⟨rfl, hb⟩
      replace HD := hid_intro (HD.out.below hgl hb)
      replace HP := hid_intro (HP.out.below hb)
      replace HO := hid_intro (HO.out.below hb)
      clear hb hgl
      obtain ⟨v0, c0⟩ := HP.out.has (i * 4) (by omega)
      have f0 := HP.out.free (i * 4) (by omega)
      obtain ⟨v1, c1⟩ := HP.out.has (i * 4 + 1) (by omega)
      have f1 := HP.out.free (i * 4 + 1) (by omega)
      obtain ⟨v2, c2⟩ := HP.out.has (i * 4 + 2) (by omega)
      have f2 := HP.out.free (i * 4 + 2) (by omega)
      obtain ⟨la, lc, c3, hn⟩ := HD.out i (by omega)
      have HNL := hid_intro hn
      have hgl := HP.out.lt
      obtain ⟨W3, hW3⟩ : ∃ W3, W3 = ((w1.setCell ⟨g, i * 4, none⟩ (.string (mT K))).setCell ⟨g, i * 4 + 1, none⟩ (.int .i64 ((K : Int) + 1))).setCell ⟨g, i * 4 + 2, none⟩ (.int .i64 ((K : Int) + 1 + 1)) := ⟨_, rfl⟩
      have HD3 : Hid (DX g top len ds W3) := hid_intro (by rw [hW3]; exact ((HD.out.put (by omega) _).put (by omega) _).put (by omega) _)
      have HP3 : Hid (Pt g (len * 4) W3) := hid_intro (by rw [hW3]; exact ((HP.out.set _ _).set _ _).set _ _)
      have HO3 : Hid (Ot g top w W3) := hid_intro (by rw [hW3]; exact ((HO.out.grown (grown_set _ g _ _) ⟨Nat.le_refl _, htop⟩).grown (grown_set _ g _ _) ⟨Nat.le_refl _, htop⟩).grown (grown_set _ g _ _) ⟨Nat.le_refl _, htop⟩)
      have HN3 : Hid ((ds.getD i D.zero).ls.length = 0 ∨ ∃ g', la = some ⟨g', 0, none⟩ ∧ g < g' ∧ g' < top ∧ Pt g' ((ds.getD i D.zero).ls.length * 2) W3) := hid_intro (by rw [hW3]; exact hn.imp id (fun ⟨g', e1, e2, e3, e4⟩ => ⟨g', e1, e2, e3, pt_any (pt_any (pt_any e4))⟩))
      have hln := (HSm.out _ (getD_mem (z := D.zero) ds i hil)).2.1
      generalize hll : (ds.getD i D.zero).ls.length = ll at *
      generalize mT K = T0 at *
      clear hn HNL HD HP HO
      rcases HN3.out with h0 | ⟨g', rfl, e2, e3, e4⟩
      · subst h0
        have HMK := hid_intro (fun z => marks0K z la lc W3)
        go_wp2_with fail
        rw [← hW3]
        refine (HMK.out _).mono ?_
        rintro e w4 ⟨rfl, hb⟩
        replace HD3 := hid_intro (HD3.out.below HP3.out.lt hb)
        replace HP3 := hid_intro (HP3.out.below hb)
        replace HO3 := hid_intro (HO3.out.below hb)
        clear hb hW3
        go_wp2_with fail
        go_roundw
        case rel => exact ⟨i + 1, K + 3, by go_num, by go_num, by omega, by omega, by omega, hid_intro (by rw [HTM.out, HK.out]; omega), HP3, HD3, HO3⟩
        case measure => simp [intOf]; omega
      · have HMK : Hid (∀ z : Int, z = ((K + 3 : Nat) : Int) → Calls Try.prog 12 #[.slice (some ⟨g', 0, none⟩) ll lc, .int .i64 z] W3 fun e w' => e = .returned (.int .i64 ((K + 3) + 2 * ll : Nat)) ∧ W3.grownBy w' (some g') ∧ ∀ n', Pt g' n' W3 → Pt g' n' w') := hid_intro (fun z hz => by subst hz; exact marksK (K + 3) (by omega) (by omega) g' ll lc W3 hln e4)
        have HE4 := hid_intro (show g < g' ∧ g' < top from ⟨e2, e3⟩)
        clear e4
        go_wp2_with fail
        rw [← hW3]
        refine (HMK.out _ (by push_cast; omega)).mono ?_
        rintro e w4 ⟨rfl, hg4, ha4⟩
        have hgl3 := HP3.out.lt
        replace HD3 := hid_intro (HD3.out.grown hgl3 hg4 e2 ha4)
        replace HP3 := hid_intro (pt_far HP3.out hg4 (by omega))
        replace HO3 := hid_intro (HO3.out.grown hg4 ⟨by omega, e3⟩)
        clear hg4 ha4 hW3
        go_wp2_with fail
        go_roundw
        case rel => exact ⟨i + 1, K + 3 + 2 * ll, by go_num, by go_num, by omega, by omega, by omega, hid_intro (by rw [HTM.out, HK.out]; omega), HP3, HD3, HO3⟩
        case measure => simp [intOf]; omega
end LedR
end Go.Proofs.Ytnhpkcacjkebnaa
