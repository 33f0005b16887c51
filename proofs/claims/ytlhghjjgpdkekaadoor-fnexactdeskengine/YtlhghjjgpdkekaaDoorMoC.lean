/-
  A meter laid in new memory, the program's copyMeter. The conditions: 1 to 5 tiers, a name of at most 1048576 bytes.
-/
import Derived.Test.YtlhghjjgpdkekaaDoorCaL2
import Derived.Test.YtlhghjjgpdkekaaDoorMeL2
import Derived.Test.YtlhghjjgpdkekaaDoorClone
import Derived.Test.YtlhghjjgpdkekaaDoorCopyK
import Derived.Lib.SliceRun
namespace Go.Proofs.YtlhghjjgpdkekaaDoor
open Go.ChangeShapes Go.WideShapes Go.ChangeAt Go.RowKit
set_option linter.unusedVariables false
namespace CatR
open EvtR (Pt)
def Ti.cellz (t : Ti) : List Value := [.int .i64 t.u, .int .i64 t.p]
theorem Ti.lenz (t : Ti) : t.cellz.length = 2 := rfl
/-- The cells of tiers. -/
def tisC (ts : List Ti) : List Value := RowG.cellsAll Ti.cellz ts
theorem tisC_len (ts : List Ti) : (tisC ts).length = ts.length * 2 := RowG.cellsAll_len Ti.lenz ts
theorem tis_cells {b off : Nat} {ts : List Ti} {w : World} (h : Tis (some ⟨b, off, none⟩) ts.length ts w) : ∀ j u, (tisC ts)[j]? = some u → w.cell? ⟨b, off + j, none⟩ = some u := by
  intro j u hj
  have hlt := (List.getElem?_eq_some_iff.1 hj).1
  rw [tisC_len] at hlt
  have e : j = (j / 2) * 2 + j % 2 := by omega
  have hi : j / 2 < ts.length := by omega
  unfold tisC at hj
  rw [e, RowG.cellsAll_get (z := Ti.zero) Ti.lenz ts (j / 2) (j % 2) hi (by omega)] at hj
  rcases h.2 with h0 | ⟨b', off', he, _, hc⟩
  · omega
  · simp only [Option.some.injEq, Addr.mk.injEq, and_true] at he
    obtain ⟨rfl, rfl⟩ := he
    obtain ⟨c0, c1⟩ := hc (j / 2) hi
    rcases (show j % 2 = 0 ∨ j % 2 = 1 by omega) with q | q
    · rw [q] at hj
      rw [show off + j = off + (j / 2) * 2 by omega, c0]
      simpa [Ti.cellz] using hj
    · rw [q] at hj
      rw [show off + j = off + (j / 2) * 2 + 1 by omega, c1]
      simpa [Ti.cellz] using hj
theorem tisC_one (ts : List Ti) : ∀ v ∈ tisC ts, v.oneCell' = true := by
  intro v hv
  simp only [tisC, RowG.cellsAll, List.mem_flatMap, Ti.cellz, List.mem_cons, List.not_mem_nil, or_false] at hv
  obtain ⟨x, _, rfl | rfl⟩ := hv <;> rfl
/-- A row of tiers that was made. -/
theorem own_tisz {w : World} {base : Nat} {v : Value} {ts : List Ti} (h : w.ownsRow base 57 2 v ts.length (tisC ts)) : ∃ ao cap, v = .slice ao ts.length cap ∧ Tis ao ts.length ts w ∧ (ts.length = 0 ∨ ∃ g, ao = some ⟨g, 0, none⟩ ∧ base ≤ g ∧ Pt g (ts.length * 2) w) := by
  obtain ⟨ao, cap, hv, hm⟩ := RowG.own_made (z := Ti.zero) Ti.lenz h
  refine ⟨ao, cap, hv, ⟨rfl, ?_⟩, hm.own⟩
  rcases hm.rws with h0 | ⟨b, off, e, hl, hc⟩
  · exact .inl h0
  · exact .inr ⟨b, off, e, hl, fun j hj => ⟨hc j hj 0 (by omega), hc j hj 1 (by omega)⟩⟩
set_option maxRecDepth 100000 in
set_option maxHeartbeats 4000000 in
theorem clone_tis (b off cap : Nat) (ts : List Ti) (w : World) (h1 : 1 ≤ ts.length) (h5 : ts.length ≤ 5) (hI : Tis (some ⟨b, off, none⟩) ts.length ts w) :
    Calls Tryd.prog 77 #[.slice (some ⟨b, off, none⟩) ts.length cap] w fun e w' => ∃ v, e = .returned v ∧ w'.ownsRow w.heap.size 57 2 v ts.length (tisC ts) ∧ Below w.heap.size w w' := by
  obtain ⟨i0, hi, hz0, hz1, hz2⟩ := info_parts infoT
  have HC := hid_intro (tis_cells hI)
  have HL := hid_intro (tisC_len ts)
  have H1 := hid_intro (tisC_one ts)
  generalize tisC ts = C at *
  generalize ts.length = len at *
  clear hI
  have hnil := fun W => Lib.run_eql_slice_nil (P := Tryd.prog) W 37 57 (some ⟨b, off, none⟩) len cap 0 0 Tryd.underlying37
  have HE0 : Hid ((w.alloc (.cells #[] 57)).ownsRow w.heap.size 57 2 (.slice (some ⟨w.heap.size, 0, none⟩) 0 0) 0 []) := hid_intro (World.ownsRow_made w #[] 0 (Nat.le_refl _) (by unfold maxLen; omega) (by simp))
  have HN : Hid (∀ j u, C[j]? = some u → (w.alloc (.cells #[] 57)).cell? ((⟨b, off, none⟩ : Addr).add j) = some u) := hid_intro (fun j u hj => by
    have h := HC.out j u hj
    rw [Addr.add_lit]
    exact (((Below.refl w.heap.size w).alloc (Nat.le_refl _) _).cell (p := ⟨b, off + j, none⟩) (World.block_lt_of_cell? w ⟨b, off + j, none⟩ h)).trans h)
  go_enter Tryd.func77, Tryd.ntmps77
  go_wp2_with (at_builtin; refine wpList_append_own _ rfl _ _ 37 rfl w.heap.size 57 i0 (.agg #[.int .i64 0, .int .i64 0]) 2 16 Tryd.underlying37 hi hz0 hz1 hz2 rfl (by decide) _ _ _ rfl HE0.out ⟨b, off, none⟩ len cap C rfl HL.out HN.out H1.out (by unfold maxLen; omega) (by omega) (by simp) ?_)
  intro v1 w1 hown hgrow hne
  have HO : Hid (w1.ownsRow w.heap.size 57 2 v1 len C) := hid_intro (by first | exact hown | simpa using hown)
  have HB : Hid (Below w.heap.size w w1) := hid_intro (((Below.refl _ _).alloc (Nat.le_refl _) _).grown hgrow (by simp) (fun k e => by simp [Value.ownBlock] at e; omega))
  clear hown hgrow hne
  go_wp2_with fail
  go_ret
  exact ⟨_, rfl, HO.out, HB.out⟩
theorem pt_new (w : World) (cs : List Value) (T : TypeId) : Pt w.heap.size cs.length (w.alloc (.cells cs.toArray T)) := pt_row (heap_alloc_new w _) rfl
/-- A meter that was made. -/
def ResM (w : World) (r : Me) (e : Ending) (w' : World) : Prop := ∃ ta tc, e = .returned (.agg #[.string r.n, .int .i64 r.g, .bool r.wh, .int .i64 r.f, .int .i64 r.l, .slice ta r.ts.length tc]) ∧ Tis ta r.ts.length r.ts w' ∧ (r.ts.length = 0 ∨ ∃ g, ta = some ⟨g, 0, none⟩ ∧ w.heap.size ≤ g ∧ Pt g (r.ts.length * 2) w') ∧ Below w.heap.size w w'
set_option maxRecDepth 100000 in
set_option maxHeartbeats 4000000 in
theorem copy_me (b off cap : Nat) (r : Me) (w : World) (h1 : 1 ≤ r.ts.length) (h5 : r.ts.length ≤ 5) (hn : r.n.size ≤ 1048576) (hI : Tis (some ⟨b, off, none⟩) r.ts.length r.ts w) :
    Calls Tryd.prog 62 #[.agg #[.string r.n, .int .i64 r.g, .bool r.wh, .int .i64 r.f, .int .i64 r.l, .slice (some ⟨b, off, none⟩) r.ts.length cap]] w fun e w' => ResM w r e w' := by
  obtain ⟨n, g, wh, f, l, ts⟩ := r
  simp only at *
  unfold ResM
  simp only
  have H1 := hid_intro (fun w => CloneR.clone_any n w (by omega))
  have H2 : Hid (∀ W, Below w.heap.size w W → Calls Tryd.prog 77 #[.slice (some ⟨b, off, none⟩) ts.length cap] W fun e w' => ∃ ao cp, e = .returned (.slice ao ts.length cp) ∧ Tis ao ts.length ts w' ∧ (ts.length = 0 ∨ ∃ g, ao = some ⟨g, 0, none⟩ ∧ W.heap.size ≤ g ∧ Pt g (ts.length * 2) w') ∧ Below W.heap.size W w') := hid_intro (fun W hW => (clone_tis b off cap ts W h1 h5 (hI.below hW)).mono fun e w' ⟨v, he, ho, hb⟩ => by
    obtain ⟨ao, cp, rfl, h3, h4⟩ := own_tisz ho
    exact ⟨ao, cp, he, h3, h4, hb⟩)
  generalize ts.length = tl at *
  clear hI
  go_enter Tryd.func62, Tryd.ntmps62
  have HB0 : Hid (Below w.heap.size w ((w.alloc (.cells #[.string n, .int .i64 g, .bool wh, .int .i64 f, .int .i64 l, .slice (some ⟨b, off, none⟩) tl cap] 39)).alloc (.cells #[.string ⟨#[]⟩, .int .i64 0, .bool false, .int .i64 0, .int .i64 0, .slice none 0 0] 39))) := hid_intro (((Below.refl _ _).alloc (Nat.le_refl _) _).alloc (by simp) _)
  have HP0 : Hid (Pt w.heap.size 6 ((w.alloc (.cells #[.string n, .int .i64 g, .bool wh, .int .i64 f, .int .i64 l, .slice (some ⟨b, off, none⟩) tl cap] 39)).alloc (.cells #[.string ⟨#[]⟩, .int .i64 0, .bool false, .int .i64 0, .int .i64 0, .slice none 0 0] 39))) := hid_intro ((pt_new w [.string n, .int .i64 g, .bool wh, .int .i64 f, .int .i64 l, .slice (some ⟨b, off, none⟩) tl cap] 39).below ((Below.refl _ _).alloc (Nat.le_refl _) _))
  have HQ0 : Hid (Pt (w.heap.size + 1) 6 ((w.alloc (.cells #[.string n, .int .i64 g, .bool wh, .int .i64 f, .int .i64 l, .slice (some ⟨b, off, none⟩) tl cap] 39)).alloc (.cells #[.string ⟨#[]⟩, .int .i64 0, .bool false, .int .i64 0, .int .i64 0, .slice none 0 0] 39))) := hid_intro (by have := pt_new (w.alloc (.cells #[.string n, .int .i64 g, .bool wh, .int .i64 f, .int .i64 l, .slice (some ⟨b, off, none⟩) tl cap] 39)) [.string ⟨#[]⟩, .int .i64 0, .bool false, .int .i64 0, .int .i64 0, .slice none 0 0] 39; simpa using this)
  go_wp2_with fail
  refine (H1.out _).mono ?_
  rintro e w1 ⟨rfl, hb1⟩
  have HB1 := hid_intro (HB0.out.trans (hb1.mono HB0.out.size))
  have HP1 := hid_intro (HP0.out.below hb1)
  have HQ1 := hid_intro (HQ0.out.below hb1)
  have k := fun o => hb1.cell (p := ⟨w.heap.size, o, none⟩) (by simp; omega)
  have c0 := k 0
  have c1 := k 1
  have c2 := k 2
  have c3 := k 3
  have c4 := k 4
  have c5 := k 5
  simp [go_sem] at c0 c1 c2 c3 c4 c5
  have f0 := HP1.out.free 0 (by omega)
  have l1 := HP1.out.lt
  have HPs := hid_intro (HP1.out.set 0 (.string n))
  have HQs := hid_intro (HQ1.out.far (b := w.heap.size) (by omega) 0 (.string n))
  have HBs : Hid (Below w.heap.size w (w1.setCell ⟨w.heap.size, 0, none⟩ (.string n))) := hid_intro (HB1.out.setCell (Nat.le_refl _) _)
  clear hb1 k
  go_wp2_with fail
  refine (H2.out _ HBs.out).mono ?_
  rintro e w2 ⟨ao, cp, rfl, hT, hP, hb2⟩
  have HB2 := hid_intro (HBs.out.trans (hb2.mono HBs.out.size))
  have HT2 := hid_intro hT
  have HO2 := hid_intro hP
  have HP2 := hid_intro (HPs.out.below hb2)
  have HQ2 := hid_intro (HQs.out.below hb2)
  have hs1 : w.heap.size + 1 < w1.heap.size := HQ1.out.lt
  have hs2 : (w1.setCell ⟨w.heap.size, 0, none⟩ (.string n)).heap.size = w1.heap.size := by simp
  have HZ : Hid (∀ g, tl ≠ 0 → ao = some ⟨g, 0, none⟩ → w1.heap.size ≤ g) := hid_intro (fun g h0 hg => by
    obtain ⟨g', e1, e2, _⟩ := hP.resolve_left h0
    rw [e1] at hg
    simp only [Option.some.injEq, Addr.mk.injEq, and_true] at hg
    omega)
  have k := fun o => hb2.cell (p := ⟨w.heap.size, o, none⟩) (by simpa using l1)
  have d0 : w2.cell? ⟨w.heap.size, 0, none⟩ = some (.string n) := (k 0).trans (by simp [go_sem, c0])
  have d1 : w2.cell? ⟨w.heap.size, 1, none⟩ = some (.int .i64 g) := (k 1).trans (by simp [go_sem, c1])
  have d2 : w2.cell? ⟨w.heap.size, 2, none⟩ = some (.bool wh) := (k 2).trans (by simp [go_sem, c2])
  have d3 : w2.cell? ⟨w.heap.size, 3, none⟩ = some (.int .i64 f) := (k 3).trans (by simp [go_sem, c3])
  have d4 : w2.cell? ⟨w.heap.size, 4, none⟩ = some (.int .i64 l) := (k 4).trans (by simp [go_sem, c4])
  obtain ⟨v5, d5⟩ := HP2.out.has 5 (by omega)
  have g5 := HP2.out.free 5 (by omega)
  have l2 := HP2.out.lt
  have q := HQ2.out.lt
  obtain ⟨y0, e0⟩ := HQ2.out.has 0 (by omega)
  obtain ⟨y1, e1⟩ := HQ2.out.has 1 (by omega)
  obtain ⟨y2, e2⟩ := HQ2.out.has 2 (by omega)
  obtain ⟨y3, e3⟩ := HQ2.out.has 3 (by omega)
  obtain ⟨y4, e4⟩ := HQ2.out.has 4 (by omega)
  obtain ⟨y5, e5⟩ := HQ2.out.has 5 (by omega)
  have z0 := HQ2.out.free 0 (by omega)
  have z1 := HQ2.out.free 1 (by omega)
  have z2 := HQ2.out.free 2 (by omega)
  have z3 := HQ2.out.free 3 (by omega)
  have z4 := HQ2.out.free 4 (by omega)
  have z5 := HQ2.out.free 5 (by omega)
  clear hT hP hb2 k c0 c1 c2 c3 c4 c5 f0 hs2
  go_wp2_with fail
  refine bodyPost_ret (v := .agg #[.string n, .int .i64 g, .bool wh, .int .i64 f, .int .i64 l, .slice ao tl cp]) (by simp [results, Tryd.results62, go_sem, e0, e1, e2, e3, e4, e5]) rfl ⟨ao, cp, rfl, ?_, ?_, ?_⟩
  · rcases Nat.eq_zero_or_pos tl with h0 | h0
    · exact ⟨HT2.out.1, .inl h0⟩
    · obtain ⟨g', e1, e2, e3⟩ := HO2.out.resolve_left (by omega)
      subst e1
      have hz := HZ.out g' (by omega) rfl
      exact ((((((HT2.out.far (by omega) _ _).far (by omega) _ _).far (by omega) _ _).far (by omega) _ _).far (by omega) _ _).far (by omega) _ _).far (by omega) _ _
  · refine HO2.out.imp id (fun ⟨g', e1, e2, e3⟩ => ⟨g', e1, by have := HB1.out.size; simp at e2; omega, ?_⟩)
    have hz : w1.heap.size ≤ g' := by simp at e2; omega
    exact ((((((e3.far (by omega) _ _).far (by omega) _ _).far (by omega) _ _).far (by omega) _ _).far (by omega) _ _).far (by omega) _ _).far (by omega) _ _
  · exact ((((((HB2.out.setCell (Nat.le_refl _) _).setCell (by simp) _).setCell (by simp) _).setCell (by simp) _).setCell (by simp) _).setCell (by simp) _).setCell (by simp) _
end CatR
end Go.Proofs.YtlhghjjgpdkekaaDoor
