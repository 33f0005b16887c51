/-
  A meter laid in new memory, the program's copyMeter. The conditions: 1 to 5 tiers, a name of at most 1048576 bytes.
  errors.Is at the program's own sentinel: of the sentinel it tells true, of nil false. No condition.
  What the program calls right meters. The conditions: at most 1048576 of them, each small; the program's own error stands in its variable.
  What the program calls right credits. The condition: at most 1048576 of them, each account of at most 1048576 bytes.
  What the program calls a right catalog. The conditions: all in it is small; the program's own error stands in its variable.
-/
import Derived.Lib.SliceRun
import Derived.LaidEql
import Derived.Stop.Asserts
import Derived.RowKitTokens
import Derived.Test.YtcilbmhkhllmjaaGreatDoorB13
namespace Go.Proofs.YtcilbmhkhllmjaaGreatDoor
open Go.ChangeShapes Go.WideShapes Go.ChangeAt Go.RowKit
set_option linter.unusedVariables false
namespace CatR
open EvtR (Pt)
def Ti.cellz (t : Ti) : List Value := [.int .i64 t.u, .int .i64 t.p]
theorem Ti.lenz (t : Ti) : t.cellz.length = 2 := rfl
/-- The cells of tiers. -/
def tisC (ts : List Ti) : List Value := RowG.cellsAll Ti.cellz ts
theorem tisC_len (ts : List Ti) : (tisC ts).length = ts.length * 2 := RowG.cellsAll_len Ti.lenz ts
theorem tis_cells {b off : Nat} {ts : List Ti} {w : World} (h : Tis (some ⟨b, off, none⟩) ts.length ts w) : ∀ j u, (tisC ts)[j]? = some u → w.cell? ⟨b, off + j, none⟩ = some u := by
  intro j u hj
  have hlt := (List.getElem?_eq_some_iff.1 hj).1
  rw [tisC_len] at hlt
  have e : j = (j / 2) * 2 + j % 2 := by omega
  have hi : j / 2 < ts.length := by omega
  unfold tisC at hj
  rw [e, RowG.cellsAll_get (z := Ti.zero) Ti.lenz ts (j / 2) (j % 2) hi (by omega)] at hj
  rcases h.2 with h0 | ⟨b', off', he, _, hc⟩
  · omega
  · simp only [Option.some.injEq, Addr.mk.injEq, and_true] at he
    obtain ⟨rfl, rfl⟩ := he
    obtain ⟨c0, c1⟩ := hc (j / 2) hi
    rcases (show j % 2 = 0 ∨ j % 2 = 1 by omega) with q | q
    · rw [q] at hj
      rw [show off + j = off + (j / 2) * 2 by omega, c0]
      simpa [Ti.cellz] using hj
    · rw [q] at hj
      rw [show off + j = off + (j / 2) * 2 + 1 by omega, c1]
      simpa [Ti.cellz] using hj
theorem tisC_one (ts : List Ti) : ∀ v ∈ tisC ts, v.oneCell' = true := by
  intro v hv
  simp only [tisC, RowG.cellsAll, List.mem_flatMap, Ti.cellz, List.mem_cons, List.not_mem_nil, or_false] at hv
  obtain ⟨x, _, rfl | rfl⟩ := hv <;> rfl
/-- A row of tiers that was made. -/
theorem own_tisz {w : World} {base : Nat} {v : Value} {ts : List Ti} (h : w.ownsRow base 162 2 v ts.length (tisC ts)) : ∃ ao cap, v = .slice ao ts.length cap ∧ Tis ao ts.length ts w ∧ (ts.length = 0 ∨ ∃ g, ao = some ⟨g, 0, none⟩ ∧ base ≤ g ∧ Pt g (ts.length * 2) w) := by
  obtain ⟨ao, cap, hv, hm⟩ := RowG.own_made (z := Ti.zero) Ti.lenz h
  refine ⟨ao, cap, hv, ⟨rfl, ?_⟩, hm.own⟩
  rcases hm.rws with h0 | ⟨b, off, e, hl, hc⟩
  · exact .inl h0
  · exact .inr ⟨b, off, e, hl, fun j hj => ⟨hc j hj 0 (by omega), hc j hj 1 (by omega)⟩⟩
set_option maxRecDepth 100000 in
set_option maxHeartbeats 4000000 in
theorem clone_tis (b off cap : Nat) (ts : List Ti) (w : World) (h1 : 1 ≤ ts.length) (h5 : ts.length ≤ 5) (hI : Tis (some ⟨b, off, none⟩) ts.length ts w) :
    Calls Tryz.prog 151 #[.slice (some ⟨b, off, none⟩) ts.length cap] w fun e w' => ∃ v, e = .returned v ∧ w'.ownsRow w.heap.size 162 2 v ts.length (tisC ts) ∧ Below w.heap.size w w' := by
  obtain ⟨i0, hi, hz0, hz1, hz2⟩ := info_parts infoT
  have HC := hid_intro (tis_cells hI)
  have HL := hid_intro (tisC_len ts)
  have H1 := hid_intro (tisC_one ts)
  generalize tisC ts = C at *
  generalize ts.length = len at *
  clear hI
  have hnil := fun W => Lib.run_eql_slice_nil (P := Tryz.prog) W 115 162 (some ⟨b, off, none⟩) len cap 0 0 Tryz.underlying115
  have HE0 : Hid ((w.alloc (.cells #[] 162)).ownsRow w.heap.size 162 2 (.slice (some ⟨w.heap.size, 0, none⟩) 0 0) 0 []) := hid_intro (World.ownsRow_made w #[] 0 (Nat.le_refl _) (by unfold maxLen; omega) (by simp))
  have HN : Hid (∀ j u, C[j]? = some u → (w.alloc (.cells #[] 162)).cell? ((⟨b, off, none⟩ : Addr).add j) = some u) := hid_intro (fun j u hj => by
    have h := HC.out j u hj
    rw [Addr.add_lit]
    exact (((Below.refl w.heap.size w).alloc (Nat.le_refl _) _).cell (p := ⟨b, off + j, none⟩) (World.block_lt_of_cell? w ⟨b, off + j, none⟩ h)).trans h)
  go_enter Tryz.func151, Tryz.ntmps151
  go_wp2_with (at_builtin; refine wpList_append_own _ rfl _ _ 115 rfl w.heap.size 162 i0 (.agg #[.int .i64 0, .int .i64 0]) 2 16 Tryz.underlying115 hi hz0 hz1 hz2 rfl (by decide) _ _ _ rfl HE0.out ⟨b, off, none⟩ len cap C rfl HL.out HN.out H1.out (by unfold maxLen; omega) (by omega) (by simp) ?_)
  intro v1 w1 hown hgrow hne
  have HO : Hid (w1.ownsRow w.heap.size 162 2 v1 len C) := hid_intro (by first | exact hown | simpa using hown)
  have HB : Hid (Below w.heap.size w w1) := hid_intro (((Below.refl _ _).alloc (Nat.le_refl _) _).grown hgrow (by simp) (fun k e => by simp [Value.ownBlock] at e; omega))
  clear hown hgrow hne
  go_wp2_with fail
  go_ret
  exact ⟨_, rfl, HO.out, HB.out⟩
theorem pt_new (w : World) (cs : List Value) (T : TypeId) : Pt w.heap.size cs.length (w.alloc (.cells cs.toArray T)) := pt_row (heap_alloc_new w _) rfl
/-- A meter that was made. -/
def ResM (w : World) (r : Me) (e : Ending) (w' : World) : Prop := ∃ ta tc, e = .returned (.agg #[.string r.n, .int .i64 r.g, .bool r.wh, .int .i64 r.f, .int .i64 r.l, .slice ta r.ts.length tc]) ∧ Tis ta r.ts.length r.ts w' ∧ (r.ts.length = 0 ∨ ∃ g, ta = some ⟨g, 0, none⟩ ∧ w.heap.size ≤ g ∧ Pt g (r.ts.length * 2) w') ∧ Below w.heap.size w w'
set_option maxRecDepth 100000 in
set_option maxHeartbeats 4000000 in
theorem copy_me (b off cap : Nat) (r : Me) (w : World) (h1 : 1 ≤ r.ts.length) (h5 : r.ts.length ≤ 5) (hn : r.n.size ≤ 1048576) (hI : Tis (some ⟨b, off, none⟩) r.ts.length r.ts w) :
    Calls Tryz.prog 125 #[.agg #[.string r.n, .int .i64 r.g, .bool r.wh, .int .i64 r.f, .int .i64 r.l, .slice (some ⟨b, off, none⟩) r.ts.length cap]] w fun e w' => ResM w r e w' := by
  obtain ⟨n, g, wh, f, l, ts⟩ := r
  simp only at *
  unfold ResM
  simp only
  have H1 := hid_intro (fun w => CloneR.clone_any n w (by omega))
  have H2 : Hid (∀ W, Below w.heap.size w W → Calls Tryz.prog 151 #[.slice (some ⟨b, off, none⟩) ts.length cap] W fun e w' => ∃ ao cp, e = .returned (.slice ao ts.length cp) ∧ Tis ao ts.length ts w' ∧ (ts.length = 0 ∨ ∃ g, ao = some ⟨g, 0, none⟩ ∧ W.heap.size ≤ g ∧ Pt g (ts.length * 2) w') ∧ Below W.heap.size W w') := hid_intro (fun W hW => (clone_tis b off cap ts W h1 h5 (hI.below hW)).mono fun e w' ⟨v, he, ho, hb⟩ => by
    obtain ⟨ao, cp, rfl, h3, h4⟩ := own_tisz ho
    exact ⟨ao, cp, he, h3, h4, hb⟩)
  generalize ts.length = tl at *
  clear hI
  go_enter Tryz.func125, Tryz.ntmps125
  have HB0 : Hid (Below w.heap.size w ((w.alloc (.cells #[.string n, .int .i64 g, .bool wh, .int .i64 f, .int .i64 l, .slice (some ⟨b, off, none⟩) tl cap] 117)).alloc (.cells #[.string ⟨#[]⟩, .int .i64 0, .bool false, .int .i64 0, .int .i64 0, .slice none 0 0] 117))) := hid_intro (((Below.refl _ _).alloc (Nat.le_refl _) _).alloc (by simp) _)
  have HP0 : Hid (Pt w.heap.size 6 ((w.alloc (.cells #[.string n, .int .i64 g, .bool wh, .int .i64 f, .int .i64 l, .slice (some ⟨b, off, none⟩) tl cap] 117)).alloc (.cells #[.string ⟨#[]⟩, .int .i64 0, .bool false, .int .i64 0, .int .i64 0, .slice none 0 0] 117))) := hid_intro ((pt_new w [.string n, .int .i64 g, .bool wh, .int .i64 f, .int .i64 l, .slice (some ⟨b, off, none⟩) tl cap] 117).below ((Below.refl _ _).alloc (Nat.le_refl _) _))
  have HQ0 : Hid (Pt (w.heap.size + 1) 6 ((w.alloc (.cells #[.string n, .int .i64 g, .bool wh, .int .i64 f, .int .i64 l, .slice (some ⟨b, off, none⟩) tl cap] 117)).alloc (.cells #[.string ⟨#[]⟩, .int .i64 0, .bool false, .int .i64 0, .int .i64 0, .slice none 0 0] 117))) := hid_intro (by have := pt_new (w.alloc (.cells #[.string n, .int .i64 g, .bool wh, .int .i64 f, .int .i64 l, .slice (some ⟨b, off, none⟩) tl cap] 117)) [.string ⟨#[]⟩, .int .i64 0, .bool false, .int .i64 0, .int .i64 0, .slice none 0 0] 117; simpa using this)
  go_wp2_with fail
  refine (H1.out _).mono ?_
  rintro e w1 ⟨rfl, hb1⟩
  have HB1 := hid_intro (HB0.out.trans (hb1.mono HB0.out.size))
  have HP1 := hid_intro (HP0.out.below hb1)
  have HQ1 := hid_intro (HQ0.out.below hb1)
  have k := fun o => hb1.cell (p := ⟨w.heap.size, o, none⟩) (by simp; omega)
  have c0 := k 0
  have c1 := k 1
  have c2 := k 2
  have c3 := k 3
  have c4 := k 4
  have c5 := k 5
  simp [go_sem] at c0 c1 c2 c3 c4 c5
  have f0 := HP1.out.free 0 (by omega)
  have l1 := HP1.out.lt
  have HPs := hid_intro (HP1.out.set 0 (.string n))
  have HQs := hid_intro (HQ1.out.far (b := w.heap.size) (by omega) 0 (.string n))
  have HBs : Hid (Below w.heap.size w (w1.setCell ⟨w.heap.size, 0, none⟩ (.string n))) := hid_intro (HB1.out.setCell (Nat.le_refl _) _)
  clear hb1 k
  go_wp2_with fail
  refine (H2.out _ HBs.out).mono ?_
  rintro e w2 ⟨ao, cp, rfl, hT, hP, hb2⟩
  have HB2 := hid_intro (HBs.out.trans (hb2.mono HBs.out.size))
  have HT2 := hid_intro hT
  have HO2 := hid_intro hP
  have HP2 := hid_intro (HPs.out.below hb2)
  have HQ2 := hid_intro (HQs.out.below hb2)
  have hs1 : w.heap.size + 1 < w1.heap.size := HQ1.out.lt
  have hs2 : (w1.setCell ⟨w.heap.size, 0, none⟩ (.string n)).heap.size = w1.heap.size := by simp
  have HZ : Hid (∀ g, tl ≠ 0 → ao = some ⟨g, 0, none⟩ → w1.heap.size ≤ g) := hid_intro (fun g h0 hg => by
    obtain ⟨g', e1, e2, _⟩ := hP.resolve_left h0
    rw [e1] at hg
    simp only [Option.some.injEq, Addr.mk.injEq, and_true] at hg
    omega)
  have k := fun o => hb2.cell (p := ⟨w.heap.size, o, none⟩) (by simpa using l1)
  have d0 : w2.cell? ⟨w.heap.size, 0, none⟩ = some (.string n) := (k 0).trans (by simp [go_sem, c0])
  have d1 : w2.cell? ⟨w.heap.size, 1, none⟩ = some (.int .i64 g) := (k 1).trans (by simp [go_sem, c1])
  have d2 : w2.cell? ⟨w.heap.size, 2, none⟩ = some (.bool wh) := (k 2).trans (by simp [go_sem, c2])
  have d3 : w2.cell? ⟨w.heap.size, 3, none⟩ = some (.int .i64 f) := (k 3).trans (by simp [go_sem, c3])
  have d4 : w2.cell? ⟨w.heap.size, 4, none⟩ = some (.int .i64 l) := (k 4).trans (by simp [go_sem, c4])
  obtain ⟨v5, d5⟩ := HP2.out.has 5 (by omega)
  have g5 := HP2.out.free 5 (by omega)
  have l2 := HP2.out.lt
  have q := HQ2.out.lt
  obtain ⟨y0, e0⟩ := HQ2.out.has 0 (by omega)
  obtain ⟨y1, e1⟩ := HQ2.out.has 1 (by omega)
  obtain ⟨y2, e2⟩ := HQ2.out.has 2 (by omega)
  obtain ⟨y3, e3⟩ := HQ2.out.has 3 (by omega)
  obtain ⟨y4, e4⟩ := HQ2.out.has 4 (by omega)
  obtain ⟨y5, e5⟩ := HQ2.out.has 5 (by omega)
  have z0 := HQ2.out.free 0 (by omega)
  have z1 := HQ2.out.free 1 (by omega)
  have z2 := HQ2.out.free 2 (by omega)
  have z3 := HQ2.out.free 3 (by omega)
  have z4 := HQ2.out.free 4 (by omega)
  have z5 := HQ2.out.free 5 (by omega)
  clear hT hP hb2 k c0 c1 c2 c3 c4 c5 f0 hs2
  go_wp2_with fail
  refine bodyPost_ret (v := .agg #[.string n, .int .i64 g, .bool wh, .int .i64 f, .int .i64 l, .slice ao tl cp]) (by simp [results, Tryz.results125, go_sem, e0, e1, e2, e3, e4, e5]) rfl ⟨ao, cp, rfl, ?_, ?_, ?_⟩
  · rcases Nat.eq_zero_or_pos tl with h0 | h0
    · exact ⟨HT2.out.1, .inl h0⟩
    · obtain ⟨g', e1, e2, e3⟩ := HO2.out.resolve_left (by omega)
      subst e1
      have hz := HZ.out g' (by omega) rfl
      exact ((((((HT2.out.far (by omega) _ _).far (by omega) _ _).far (by omega) _ _).far (by omega) _ _).far (by omega) _ _).far (by omega) _ _).far (by omega) _ _
  · refine HO2.out.imp id (fun ⟨g', e1, e2, e3⟩ => ⟨g', e1, by have := HB1.out.size; simp at e2; omega, ?_⟩)
    have hz : w1.heap.size ≤ g' := by simp at e2; omega
    exact ((((((e3.far (by omega) _ _).far (by omega) _ _).far (by omega) _ _).far (by omega) _ _).far (by omega) _ _).far (by omega) _ _).far (by omega) _ _
  · exact ((((((HB2.out.setCell (Nat.le_refl _) _).setCell (by simp) _).setCell (by simp) _).setCell (by simp) _).setCell (by simp) _).setCell (by simp) _).setCell (by simp) _
end CatR
end Go.Proofs.YtcilbmhkhllmjaaGreatDoor
namespace Go.Proofs.YtcilbmhkhllmjaaGreatDoor
open Go.RowKit Go.Extern.Stop Go.Stop Go.Extern
set_option linter.unusedVariables false
namespace IsR
theorem typeOfS (v : Value) (w : World) : (Extern.ReflectliteType.typeOf #[.iface 265 v]).run Tryz.prog w = .ok (.iface 237 (.agg #[.pointer (some ⟨4, 265, none⟩)])) w := by kernel_rfl
def compF : TypeId → Sem Value := fun t => do Rtype.noPackHeld "Comparable" t; pure (.bool (← typeInfo t).comparable)
theorem compS (w : World) : ((Extern.ReflectliteType.method compF) #[.agg #[.pointer (some ⟨4, 265, none⟩)]]).run Tryz.prog w = .ok (.bool true) w := by kernel_rfl
theorem methodComp (v : Value) (w : World) : (Go.method 401 237 v "Comparable").run Tryz.prog w = .ok (235, v) w := by kernel_rfl
theorem isComp : (Tryz.prog.info? 265).map (·.comparable) = some true := by kernel_rfl
theorem isSize : (Tryz.prog.info? 289).map (·.size) = some 1 := by kernel_rfl
theorem is_same (a : Addr) (w : World) :
    Calls Tryz.prog 121 #[.iface 265 (.pointer (some a)), .iface 265 (.pointer (some a))] w fun e w' => e = .returned (.bool true) ∧ w' = w := by
  obtain ⟨i, hi, hcmp⟩ := Option.map_eq_some_iff.1 isComp
  obtain ⟨j, hj, hjs⟩ := Option.map_eq_some_iff.1 isSize
  have h8 := @run_callFunc_extern Tryz.prog 142 _ Extern.ReflectliteType.typeOf Tryz.func142 (by kernel_rfl) (by kernel_rfl) (by kernel_rfl) (by kernel_rfl)
  have h32 := @run_callFunc_extern Tryz.prog 235 _ (Extern.ReflectliteType.method compF) Tryz.func235 (by kernel_rfl) (by kernel_rfl) (by kernel_rfl) (by kernel_rfl)
  have tT := typeOfS
  have cT := compS
  have mR := methodComp
  have heq := run_eql_iface_ptr_same (P := Tryz.prog) w a Tryz.underlying169 Tryz.underlying265 hi hcmp hj
  go_enter Tryz.func121, Tryz.ntmps121
  go_wp2
  refine wp_loop_rounds 1 ?_
  rw [rounds_succ]
  go_wp2
  go_ret
  exact ⟨rfl, rfl⟩
theorem is_nil (b : Addr) (w : World) :
    Calls Tryz.prog 121 #[.nilIface, .iface 265 (.pointer (some b))] w fun e w' => e = .returned (.bool false) ∧ w' = w := by
  have hn := run_eql_iface_nil_left (P := Tryz.prog) w 265 (.pointer (some b)) Tryz.underlying169
  go_enter Tryz.func121, Tryz.ntmps121
  go_wp2
  go_ret
  exact ⟨rfl, rfl⟩
end IsR
end Go.Proofs.YtcilbmhkhllmjaaGreatDoor
namespace Go.Proofs.YtcilbmhkhllmjaaGreatDoor
open Go.ChangeShapes Go.WideShapes Go.ChangeAt Go.RowKit
set_option linter.unusedVariables false
namespace CatR
set_option maxRecDepth 100000 in
set_option maxHeartbeats 8000000 in
theorem impl_ms (ao : Option Addr) (len cap : Nat) (ms : List Me) (V : Nat → Value) (w : World) (hz : ms.length = len) (hlen : len ≤ 1048576) (hS : ∀ i, i < len → (ms.getD i Me.zero).Small) (hI : MesV ao len ms V w) (hL : Laid w) :
    Calls Tryz.prog 90 #[.slice ao len cap] w fun e w' => e = .returned (.bool (msB ms)) ∧ Below w.heap.size w w' := by
  by_cases h6 : 6 < len
  · have h6' : (6 : Int) < (len : Int) := by omega
    have HR := hid_intro (ms_many (ms := ms) (by omega))
    clear hI hS hL
    go_enter Tryz.func90, Tryz.ntmps90
    go_wp2_with fail
    go_ret
    exact ⟨ret_bool HR.out.symm, Below.refl _ _⟩
  · have h6' : ¬ (6 : Int) < (len : Int) := by omega
    have HN := hid_intro (byName_any ao len cap ms V w (by omega) (fun i hi => (hS i hi).1) hI)
    have HI := hid_intro hI
    have HS := hid_intro hS
    have HL := hid_intro hL
    have HZ := hid_intro hz
    obtain ⟨hl0, a0, hl1⟩ := hL
    clear hI hS
    go_enter Tryz.func90, Tryz.ntmps90
    go_wp2_with fail
    refine HN.out.mono ?_
    rintro e w1 ⟨rfl, hown1, hb1⟩
    have HB1 := hid_intro hb1
    have HO1 := hid_intro hown1
    clear hown1 hb1
    go_wp2_with fail
    go_loopw [17] (fun z wr => ∃ k : Nat, k ≤ len ∧ z = .int .i64 k ∧ Hid (MOk ms k) ∧ Hid (Below w.heap.size w wr) ∧ Hid (wr.ownsMap Tryz.prog 9 RV w.heap.size len (delD ms (mapD ms V len) k))) (fun z _ => len - (intOf z).toNat)
    case atStart => exact ⟨0, by omega, rfl, hid_intro (MOk.zero ms), HB1, HO1⟩
    case round =>
      obtain ⟨k, hk, rfl, HK, HB, HO⟩ := hrel
      have hwr := HO.out.lt
      by_cases hlt : k < len
      · have hlt2 : (k : Int) < (len : Int) := by omega
        have hkl : k < ms.length := by have := HZ.out; omega
        rcases HI.out with h | ⟨b, off, rfl, hb0, h⟩
        · omega
        have HP : Hid (∀ j, j + 1 = k → w.cell? ⟨b, off + j * 6, none⟩ = some (.string (mN ms j))) := hid_intro (fun j hj => by
          obtain ⟨_, _, _, q, _⟩ := h j (by omega)
          exact q)
        have HVS : Hid (∀ j, j < len → ∃ x0 x1 x2 x3 x4 x5 x6 x7, V j = .agg #[.string x0, .int .i64 x1, .bool x2, .int .i64 x3, .int .i64 x4, .slice x5 x6 x7]) := hid_intro (fun j hj => by
          obtain ⟨_, _, q, _⟩ := h j hj
          exact ⟨_, _, _, _, _, _, _, _, q⟩)
        obtain ⟨ta, tc, hv, _, _, _, _, _, _, _⟩ := h k hlt
        have hbl : b < wr.heap.size := by have := HB.out.size; omega
        have hcw := fun o => HB.out.cell (p := ⟨b, o, none⟩) hb0
        obtain ⟨ta', tc', hv', c0, c1, c2, c3, c4, c5, _⟩ := h k hlt
        have eta : ta = ta' ∧ tc = tc' := by rw [hv] at hv'; simpa using hv'
        obtain ⟨rfl, rfl⟩ := eta
        clear hv' h
        replace c0 := (hcw _).trans c0
        replace c1 := (hcw _).trans c1
        replace c2 := (hcw _).trans c2
        replace c3 := (hcw _).trans c3
        replace c4 := (hcw _).trans c4
        replace c5 := (hcw _).trans c5
        have HMR := hid_intro (fun W (hW : Below w.heap.size w W) => impl_meter (V k) (ms.getD k Me.zero) W (HS.out k hlt).1 (HS.out k hlt).2 ((HI.out.below hW).is k hlt))
        have HWR := hid_intro (ms_wrong (ms := ms) hkl)
        have HFA := hid_intro (ms_falls (ms := ms) hkl)
        have HAL := hid_intro (fun i (hi : i < k) e => ms_alike (ms := ms) hkl hi e)
        have HMO := hid_intro (fun (h1 : mB (ms.getD k Me.zero) = true) h2 => HK.out.more (mB_iff.1 h1) h2)
        have HHD := hid_intro (has_delD ms (mapD ms V len) (mN ms k) k)
        have HHM : Hid (Maps.has (mapD ms V len) (kS (mN ms k)) = true) := hid_intro ((has_mapD ms V (mN ms k) len).2 ⟨k, hlt, rfl⟩)
        have HDS : Hid (delD ms (mapD ms V len) (k + 1) = (delD ms (mapD ms V len) k).del (kS (mN ms k))) := rfl
        have hnz : (mN ms k).size ≤ 1048576 := (HS.out k hlt).1
        rw [hv] at HMR
        generalize mB (ms.getD k Me.zero) = r at *
        cases hh : Maps.has (delD ms (mapD ms V len) k) (kS (mN ms k))
        · -- one ahead had this name
          obtain ⟨i, hi, hie⟩ : ∃ i, i < k ∧ mN ms i = mN ms k := by
            apply Classical.byContradiction
            intro hne
            have := HHD.out.2 ⟨HHM.out, fun i hi e => hne ⟨i, hi, e⟩⟩
            rw [hh] at this
            cases this
          have HR := hid_intro (HAL.out i hi hie)
          obtain ⟨j, hj⟩ : ∃ j, j + 1 = k := ⟨k - 1, by omega⟩
          have HT := hid_intro (take_no w.heap.size len _ (mN ms k) (wr.alloc (.cells #[.string (mN ms k), .int .i64 (ms.getD k Me.zero).g, .bool (ms.getD k Me.zero).wh, .int .i64 (ms.getD k Me.zero).f, .int .i64 (ms.getD k Me.zero).l, .slice ta (ms.getD k Me.zero).ts.length tc] 117)) hnz (HO.out.alloc _) hh a0 (by have := HB.out.size; simp only [World.alloc, Array.size_push]; omega) (((HB.out.alloc HB.out.size _).cell (p := ⟨0, 0, none⟩) hl0).trans hl1))
          generalize mN ms k = n at *
          generalize (ms.getD k Me.zero).ts.length = tl at *
          generalize (ms.getD k Me.zero).g = g at *
          generalize (ms.getD k Me.zero).wh = wh at *
          generalize (ms.getD k Me.zero).f = f at *
          generalize (ms.getD k Me.zero).l = l at *
          clear hv hh HWR HFA HMO HAL HHD HHM HDS hie hi hcw
          go_wp2_with fail
          refine HT.out.mono ?_
          rintro e w2 ⟨rfl, hbT⟩
          have hg : (wr.alloc (.cells #[.string n, .int .i64 g, .bool wh, .int .i64 f, .int .i64 l, .slice ta tl tc] 117)).grownBy w2 (some w.heap.size) := ⟨hbT.os, hbT.tape, hbT.output, hbT.size, fun k hk _ => hbT.block k hk⟩
          have hsz : wr.heap.size < w2.heap.size := by have := hg.size; simp at this; omega
          have EM := fun o => World.cell?_of_block (a := ⟨wr.heap.size, o, none⟩) (hg.block wr.heap.size (by simp) (by simp; omega))
          have m0 : w2.cell? ⟨wr.heap.size, 0, none⟩ = some (.string n) := (EM 0).trans (by simp [go_sem])
          have m1 : w2.cell? ⟨wr.heap.size, 1, none⟩ = some (.int .i64 g) := (EM 1).trans (by simp [go_sem])
          have m2 : w2.cell? ⟨wr.heap.size, 2, none⟩ = some (.bool wh) := (EM 2).trans (by simp [go_sem])
          have m3 : w2.cell? ⟨wr.heap.size, 3, none⟩ = some (.int .i64 f) := (EM 3).trans (by simp [go_sem])
          have m4 : w2.cell? ⟨wr.heap.size, 4, none⟩ = some (.int .i64 l) := (EM 4).trans (by simp [go_sem])
          have m5 : w2.cell? ⟨wr.heap.size, 5, none⟩ = some (.slice ta tl tc) := (EM 5).trans (by simp [go_sem])
          have HB2 : Hid (Below w.heap.size w w2) := hid_intro ((HB.out.alloc HB.out.size _).grown hg (HB.out.alloc HB.out.size _).size (fun k e => by cases e; exact Nat.le_refl _))
          have g0 : w2.cell? ⟨0, 0, none⟩ = some (.iface 265 (.pointer (some a0))) := (HB2.out.cell (p := ⟨0, 0, none⟩) hl0).trans hl1
          have hl2 : 0 < w2.heap.size := by have := HB2.out.size; omega
          have p2 : ∀ j, j + 1 = k → w2.cell? ⟨b, off + j * 6, none⟩ = some (.string (mN ms j)) := fun j hj => (HB2.out.cell (p := ⟨b, _, none⟩) hb0).trans (HP.out j hj)
          have HI2 := hid_intro (HI.out.below HB2.out)
          clear EM c0 c1 c2 c3 c4 c5
          have p3 := p2 j hj
          clear p2 hg hbT HT
          have HIS := hid_intro (fun w => IsR.is_same a0 w)
          have hj1 : IntKind.i64.wrap ((k : Int) - 1) = (j : Int) := by rw [IntKind.wrap_i64]; omega
          have hj2 : 0 < k := by omega
          have hj3 : (j : Int) < (len : Int) := by omega
          have hb2 : b < w2.heap.size := by have := HB2.out.size; omega
          have HF : Hid (∀ o m, Below w.heap.size w ((w2.alloc o).drewN m)) := hid_intro (fun o m => bdrewN (HB2.out.alloc HB2.out.size o) m)
          clear hj
          go_wp2_with (go_at_call 121; refine (HIS.out _).mono ?_; rintro e w' ⟨rfl, rfl⟩)
          go_quiet (fail)
          go_wp2_with fail
          go_ret
          exact ⟨ret_bool HR.out.symm, HF.out _ _⟩
        · have HAP := hid_intro (HHD.out.1 hh).2
          obtain ⟨q, hq, hqz⟩ := at_mapD_some ms V (mN ms k) len ⟨k, hlt, rfl⟩
          obtain ⟨x0, x1, x2, x3, x4, x5, x6, x7, hvq⟩ := HVS.out q hq
          have HT := hid_intro (take_has w.heap.size len _ (mN ms k) x0 x1 x2 x3 x4 x5 x6 x7 (wr.alloc (.cells #[.string (mN ms k), .int .i64 (ms.getD k Me.zero).g, .bool (ms.getD k Me.zero).wh, .int .i64 (ms.getD k Me.zero).f, .int .i64 (ms.getD k Me.zero).l, .slice ta (ms.getD k Me.zero).ts.length tc] 117)) hnz (HO.out.alloc _) hh (fun z => by rw [at_delD ms _ (mN ms k) z k HAP.out, hqz z, hvq]))
          have HHE := hid_intro hh
          have HRI : Hid (lt (mN ms k) (mN ms (k - 1)) = false → 0 < k → lt (mN ms (k - 1)) (mN ms k) = true) := hid_intro (fun h1 h0 => by
            cases h2 : lt (mN ms (k - 1)) (mN ms k)
            · exact absurd (lt_total h2 h1) (HAP.out (k - 1) (by omega))
            · rfl)
          clear hh hqz hvq
          rw [← HDS.out] at HT
          generalize mN ms k = n at *
          generalize (ms.getD k Me.zero).ts.length = tl at *
          generalize (ms.getD k Me.zero).g = g at *
          generalize (ms.getD k Me.zero).wh = wh at *
          generalize (ms.getD k Me.zero).f = f at *
          generalize (ms.getD k Me.zero).l = l at *
          clear hv HAL HHD HHM HDS hcw HHE
          go_wp2_with fail
          refine HT.out.mono ?_
          rintro e w2 ⟨rfl, hown2, hg⟩
          have HO2 := hid_intro hown2
          have hsz : wr.heap.size < w2.heap.size := by have := hg.size; simp at this; omega
          have EM := fun o => World.cell?_of_block (a := ⟨wr.heap.size, o, none⟩) (hg.block wr.heap.size (by simp) (by simp; omega))
          have m0 : w2.cell? ⟨wr.heap.size, 0, none⟩ = some (.string n) := (EM 0).trans (by simp [go_sem])
          have m1 : w2.cell? ⟨wr.heap.size, 1, none⟩ = some (.int .i64 g) := (EM 1).trans (by simp [go_sem])
          have m2 : w2.cell? ⟨wr.heap.size, 2, none⟩ = some (.bool wh) := (EM 2).trans (by simp [go_sem])
          have m3 : w2.cell? ⟨wr.heap.size, 3, none⟩ = some (.int .i64 f) := (EM 3).trans (by simp [go_sem])
          have m4 : w2.cell? ⟨wr.heap.size, 4, none⟩ = some (.int .i64 l) := (EM 4).trans (by simp [go_sem])
          have m5 : w2.cell? ⟨wr.heap.size, 5, none⟩ = some (.slice ta tl tc) := (EM 5).trans (by simp [go_sem])
          have HB2 : Hid (Below w.heap.size w w2) := hid_intro ((HB.out.alloc HB.out.size _).grown hg (HB.out.alloc HB.out.size _).size (fun k e => by cases e; exact Nat.le_refl _))
          have g0 : w2.cell? ⟨0, 0, none⟩ = some (.iface 265 (.pointer (some a0))) := (HB2.out.cell (p := ⟨0, 0, none⟩) hl0).trans hl1
          have hl2 : 0 < w2.heap.size := by have := HB2.out.size; omega
          have p2 : ∀ j, j + 1 = k → w2.cell? ⟨b, off + j * 6, none⟩ = some (.string (mN ms j)) := fun j hj => (HB2.out.cell (p := ⟨b, _, none⟩) hb0).trans (HP.out j hj)
          have HI2 := hid_intro (HI.out.below HB2.out)
          clear EM c0 c1 c2 c3 c4 c5
          clear hg hown2 HT
          have HIS := hid_intro (fun w => IsR.is_nil a0 w)
          have hb2 : b < w2.heap.size := by have := HB2.out.size; omega
          have HF : Hid (∀ o m, Below w.heap.size w ((w2.alloc o).drewN m)) := hid_intro (fun o m => bdrewN (HB2.out.alloc HB2.out.size o) m)
          have HFO : Hid (∀ o m, ((w2.alloc o).drewN m).ownsMap Tryz.prog 9 RV w.heap.size len (delD ms (mapD ms V len) (k + 1))) := hid_intro (fun o m => by obtain ⟨es, c, h⟩ := HO2.out.alloc o; exact ⟨es, c, h⟩)
          rcases (show k = 0 ∨ ∃ j, j + 1 = k from by rcases k with _ | j; exact .inl rfl; exact .inr ⟨j, rfl⟩) with rfl | ⟨j, hj⟩
          · go_wp2_with (go_at_call 121; refine (HIS.out _).mono ?_; rintro e w' ⟨rfl, rfl⟩)
            go_quiet (fail)
            go_wp2_with fail
            refine (HMR.out _ (HF.out _ _)).mono ?_
            rintro e w5 ⟨rfl, hb5⟩
            have HB5 := hid_intro ((HF.out _ _).trans (hb5.mono (HF.out _ _).size))
            have HO5 := hid_intro ((HFO.out _ _).kept (row := none) ⟨hb5.os, hb5.tape, hb5.output, hb5.size, fun k hk _ => hb5.block k hk⟩ (by simp))
            clear hb5
            cases r
            · have HR := hid_intro (HWR.out rfl)
              go_wp2_with fail
              go_ret
              exact ⟨ret_bool HR.out.symm, HB5.out⟩
            · have HM := hid_intro (HMO.out rfl (fun h => absurd h (by omega)))
              go_wp2_with fail
              go_roundw
              case rel => exact ⟨0 + 1, by omega, by go_num, HM, HB5, HO5⟩
              case measure => simp [intOf]; omega
          · have p3 := p2 j hj
            clear p2
            have hj1 : IntKind.i64.wrap ((k : Int) - 1) = (j : Int) := by rw [IntKind.wrap_i64]; omega
            have hj2 : 0 < k := by omega
            have hj3 : (j : Int) < (len : Int) := by omega
            have ejk : k - 1 = j := by omega
            rw [ejk] at HFA HRI HMO
            clear hj ejk
            cases hfl : Op.bytesLess n.toList (mN ms j).toList
            · have HRI2 := hid_intro (HRI.out hfl hj2)
              go_wp2_with (go_at_call 121; refine (HIS.out _).mono ?_; rintro e w' ⟨rfl, rfl⟩)
              go_quiet (fail)
              go_wp2_with fail
              refine (HMR.out _ (HF.out _ _)).mono ?_
              rintro e w5 ⟨rfl, hb5⟩
              have HB5 := hid_intro ((HF.out _ _).trans (hb5.mono (HF.out _ _).size))
              have HO5 := hid_intro ((HFO.out _ _).kept (row := none) ⟨hb5.os, hb5.tape, hb5.output, hb5.size, fun k hk _ => hb5.block k hk⟩ (by simp))
              clear hb5
              cases r
              · have HR := hid_intro (HWR.out rfl)
                go_wp2_with fail
                go_ret
                exact ⟨ret_bool HR.out.symm, HB5.out⟩
              · have HM := hid_intro (HMO.out rfl (fun _ => HRI2.out))
                go_wp2_with fail
                go_roundw
                case rel => exact ⟨k + 1, by omega, by go_num, HM, HB5, HO5⟩
                case measure => simp [intOf]; omega
            · have HR := hid_intro (HFA.out hj2 hfl)
              go_wp2_with (go_at_call 121; refine (HIS.out _).mono ?_; rintro e w' ⟨rfl, rfl⟩)
              go_quiet (fail)
              go_wp2_with fail
              go_ret
              exact ⟨ret_bool HR.out.symm, HF.out _ _⟩
      · obtain rfl : k = len := by omega
        have HR : Hid (msB ms = true) := hid_intro (ms_end (by have := HZ.out; omega) (by rw [HZ.out]; exact HK.out))
        go_wp2_with fail
        go_ret
        exact ⟨ret_bool HR.out.symm, HB.out⟩
end CatR
end Go.Proofs.YtcilbmhkhllmjaaGreatDoor
namespace Go.Proofs.YtcilbmhkhllmjaaGreatDoor
open Go.ChangeShapes Go.WideShapes Go.ChangeAt Go.RowKit
set_option linter.unusedVariables false
namespace CatR
/-- The account ahead, none ahead of the first. -/
def cP (cs : List Cr) : Nat → ByteArray
  | 0 => ⟨#[]⟩
  | k + 1 => cA cs k
theorem leq_yes {a p : ByteArray} (h : (Op.bytesLess a.toList p.toList || (a.toList == p.toList)) = true) : lt p a = false := by
  rw [Bool.or_eq_true] at h
  rcases h with h | h
  · exact lt_asymm h
  · rw [toList_inj (beq_iff_eq.1 h)]; exact lt_irrefl _
theorem leq_no {a p : ByteArray} (h : (Op.bytesLess a.toList p.toList || (a.toList == p.toList)) = false) : lt p a = true := by
  rw [Bool.or_eq_false_iff] at h
  cases h2 : lt p a
  · have := lt_total h2 h.1
    rw [this] at h
    simp at h
  · rfl
theorem cs_le {cs : List Cr} {k : Nat} (hk : k < cs.length) (h : (Op.bytesLess (cA cs k).toList (cP cs k).toList || ((cA cs k).toList == (cP cs k).toList)) = true) : csB cs = false := by
  have h2 := leq_yes h
  match k, hk, h2 with
  | 0, hk, h2 =>
    refine cs_name hk ?_
    apply NameR.name_size
    rcases Nat.lt_or_ge (cA cs 0).size 1 with h3 | h3
    · exact .inl h3
    · have := lt_empty h3
      rw [show lt ⟨#[]⟩ (cA cs 0) = lt (cP cs 0) (cA cs 0) from rfl, h2] at this
      cases this
  | k + 1, hk, h2 => exact cs_flat hk (by omega) h2
theorem cs_go {cs : List Cr} {k : Nat} (h : COk cs k) (hl : (Op.bytesLess (cA cs k).toList (cP cs k).toList || ((cA cs k).toList == (cP cs k).toList)) = false) (hn : NameR.nameB (cA cs k) = true) (hm : 0 ≤ cM cs k ∧ cM cs k ≤ 1000000000000) : COk cs (k + 1) := by
  refine h.more hn hm (fun h0 => ?_)
  have h2 := leq_no hl
  match k, h0, h2 with
  | k + 1, _, h2 => exact h2
set_option maxRecDepth 100000 in
set_option maxHeartbeats 8000000 in
theorem impl_cs (ao : Option Addr) (len cap : Nat) (cs : List Cr) (w : World) (hlen : len ≤ 1048576) (hS : ∀ i, i < len → (cs.getD i Cr.zero).a.size ≤ 1048576) (hI : Crs ao len cs w) :
    Calls Tryz.prog 91 #[.slice ao len cap] w fun e w' => e = .returned (.bool (csB cs)) ∧ Below w.heap.size w w' := by
  have hz := hI.1
  by_cases h6 : 6 < len
  · have h6' : (6 : Int) < (len : Int) := by omega
    have HR := hid_intro (cs_many (cs := cs) (by omega))
    clear hI hS
    go_enter Tryz.func91, Tryz.ntmps91
    go_wp2_with fail
    go_ret
    exact ⟨ret_bool HR.out.symm, Below.refl _ _⟩
  · have h6' : ¬ (6 : Int) < (len : Int) := by omega
    have HI := hid_intro hI
    have HS := hid_intro hS
    have HZ := hid_intro hz
    clear hI hS
    go_enter Tryz.func91, Tryz.ntmps91
    go_wp2_with fail
    go_loopw [3, 11] (fun x z wr => ∃ k : Nat, k ≤ len ∧ x = .string (cP cs k) ∧ z = .int .i64 k ∧ Hid (COk cs k) ∧ Hid (Below w.heap.size w wr)) (fun x z _ => len - (intOf z).toNat)
    case atStart => exact ⟨0, by omega, rfl, rfl, hid_intro (COk.zero cs), hid_intro (Below.refl _ _)⟩
    case round =>
      obtain ⟨k, hk, rfl, rfl, HK, HB⟩ := hrel
      by_cases hlt : k < len
      · have hlt2 : (k : Int) < (len : Int) := by omega
        have hkl : k < cs.length := by have := HZ.out; omega
        obtain ⟨b, off, rfl, hbl, d0, d1⟩ := crs_at (HI.out.below HB.out) k hlt
        have c0 : wr.cell? ⟨b, off + k * 2, none⟩ = some (.string (cA cs k)) := d0
        have c1 : wr.cell? ⟨b, off + k * 2 + 1, none⟩ = some (.int .i64 (cM cs k)) := d1
        clear d0 d1
        have hsz : (cA cs k).size ≤ 1048576 := HS.out k hlt
        have HN := hid_intro (fun w => NameR.impl_any (cA cs k) w hsz)
        have HW := hid_intro (fun w => within64 (cM cs k) 0 1000000000000 w)
        have HLE := hid_intro (cs_le hkl)
        have HNA := hid_intro (cs_name hkl)
        have HMI := hid_intro (cs_micro hkl)
        have HGO := hid_intro (cs_go HK.out)
        have HP : Hid (cP cs (k + 1) = cA cs k) := rfl
        generalize NameR.nameB (cA cs k) = r at *
        generalize cA cs k = a at *
        generalize cP cs k = p at *
        generalize cM cs k = m at *
        have HAl := hid_intro (fun o => HB.out.alloc HB.out.size o)
        cases hle : (Op.bytesLess a.toList p.toList || (a.toList == p.toList))
        · cases r
          · have HR := hid_intro (HNA.out rfl)
            go_wp2_with (first | (go_at_call 42; refine (HN.out _).mono ?_; rintro e w' ⟨rfl, rfl⟩) | (go_at_call 66; refine (HW.out _).mono ?_; rintro e w' ⟨rfl, rfl⟩))
            go_ret
            exact ⟨ret_bool HR.out.symm, HAl.out _⟩
          · by_cases hm : 0 ≤ m ∧ m ≤ 1000000000000
            · have HM := hid_intro (HGO.out hle rfl hm)
              rw [decide_eq_true hm] at HW
              go_wp2_with (first | (go_at_call 42; refine (HN.out _).mono ?_; rintro e w' ⟨rfl, rfl⟩) | (go_at_call 66; refine (HW.out _).mono ?_; rintro e w' ⟨rfl, rfl⟩))
              go_roundw
              case rel => exact ⟨k + 1, by omega, by rw [HP.out], by go_num, HM, hid_intro (HAl.out _)⟩
              case measure => simp [intOf]; omega
            · have HR := hid_intro (HMI.out hm)
              rw [decide_eq_false hm] at HW
              go_wp2_with (first | (go_at_call 42; refine (HN.out _).mono ?_; rintro e w' ⟨rfl, rfl⟩) | (go_at_call 66; refine (HW.out _).mono ?_; rintro e w' ⟨rfl, rfl⟩))
              go_ret
              exact ⟨ret_bool HR.out.symm, HAl.out _⟩
        · have HR := hid_intro (HLE.out hle)
          go_wp2_with fail
          go_ret
          exact ⟨ret_bool HR.out.symm, HAl.out _⟩
      · obtain rfl : k = len := by omega
        have HR : Hid (csB cs = true) := hid_intro (cs_end (by have := HZ.out; omega) (by rw [HZ.out]; exact HK.out))
        go_wp2_with fail
        go_ret
        exact ⟨ret_bool HR.out.symm, HB.out⟩
end CatR
end Go.Proofs.YtcilbmhkhllmjaaGreatDoor
namespace Go.Proofs.YtcilbmhkhllmjaaGreatDoor
open Go.ChangeShapes Go.WideShapes Go.ChangeAt Go.RowKit
set_option linter.unusedVariables false
namespace CatR
set_option maxHeartbeats 4000000 in
theorem impl_ca (v : Value) (c : Ca) (w : World) (hS : c.Small) (hC : IsCa v c w) (hL : Laid w) :
    Calls Tryz.prog 41 #[v] w fun e w' => e = .returned (.bool (caB c)) ∧ Below w.heap.size w w' := by
  obtain ⟨ma, mc, ca, cc, rfl, hM, hR⟩ := hC
  obtain ⟨ms, cs⟩ := c
  obtain ⟨s1, s2, s3, s4⟩ := hS
  simp only at *
  obtain ⟨V, hV⟩ := mes_v hM
  have HM : Hid (∀ W, Below w.heap.size w W → Calls Tryz.prog 90 #[.slice ma ms.length mc] W fun e w' => e = .returned (.bool (msB ms)) ∧ Below W.heap.size W w') := hid_intro (fun W hW => impl_ms ma ms.length mc ms V W rfl s1 s2 (hV.below hW) (hL.below hW))
  have HR : Hid (∀ W, Below w.heap.size w W → Calls Tryz.prog 91 #[.slice ca cs.length cc] W fun e w' => e = .returned (.bool (csB cs)) ∧ Below W.heap.size W w') := hid_intro (fun W hW => impl_cs ca cs.length cc cs W s3 s4 (hR.below hW))
  have HV : Hid (caB ⟨ms, cs⟩ = (msB ms && csB cs)) := rfl
  clear hM hR s1 s2 s3 s4 hV hL
  generalize msB ms = r1 at *
  generalize csB cs = r2 at *
  generalize caB ⟨ms, cs⟩ = R at *
  generalize ms.length = ml at *
  generalize cs.length = cl at *
  have HB : Hid (Below w.heap.size w (w.alloc (.cells #[.slice ma ml mc, .slice ca cl cc] 36))) := hid_intro ((Below.refl _ _).alloc (Nat.le_refl _) _)
  have hw1 : ∀ w1, Below (w.alloc (.cells #[.slice ma ml mc, .slice ca cl cc] 36)).heap.size (w.alloc (.cells #[.slice ma ml mc, .slice ca cl cc] 36)) w1 → w.heap.size < w1.heap.size ∧ w1.cell? ⟨w.heap.size, 1, none⟩ = some (.slice ca cl cc) := fun w1 hb => ⟨by have := hb.size; simp at this; omega, (hb.cell (p := ⟨w.heap.size, 1, none⟩) (by simp)).trans (by simp [go_sem])⟩
  have HW1 := hid_intro hw1
  clear hw1
  go_enter Tryz.func41, Tryz.ntmps41
  go_wp2_with fail
  refine (HM.out _ HB.out).mono ?_
  rintro e w1 ⟨rfl, hb1⟩
  have HB1 := hid_intro (HB.out.trans (hb1.mono HB.out.size))
  obtain ⟨hl, p1⟩ := HW1.out _ hb1
  clear hb1
  cases r1
  · go_wp2_with fail
    go_ret
    exact ⟨ret_bool (by rw [HV.out]; rfl), HB1.out⟩
  · go_wp2_with fail
    refine (HR.out _ HB1.out).mono ?_
    rintro e w2 ⟨rfl, hb2⟩
    have HB2 := hid_intro (HB1.out.trans (hb2.mono HB1.out.size))
    clear hb2
    go_wp2_with fail
    go_ret
    exact ⟨ret_bool (by rw [HV.out]; rfl), HB2.out⟩
end CatR
end Go.Proofs.YtcilbmhkhllmjaaGreatDoor
