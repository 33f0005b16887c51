/-
  The program's map of meters by their names: made, and taken from. The condition: at most 6 meters, their names of at most 1048576 bytes; the program's own error stands in its variable.
  The law's own marks in a catalog and in a meter's tiers: written, and found again. The condition: all is small.
  Cells of a block written one behind another. No condition.
-/
import Derived.OwnWalk
import Derived.Carry
import Derived.Lib.ConvBytes
import Derived.Laws.BytesArg
import Derived.Test.YtcilbmhkhllmjaaGreatDoorB7
namespace Go.Proofs.YtcilbmhkhllmjaaGreatDoor
open Go.ChangeShapes Go.WideShapes Go.ChangeAt Go.RowKit
set_option linter.unusedVariables false
namespace CatR
/-- A row of meters with the values that stand there. -/
def MesV (ao : Option Addr) (len : Nat) (ms : List Me) (V : Nat → Value) (w : World) : Prop := len = 0 ∨ ∃ b off, ao = some ⟨b, off, none⟩ ∧ b < w.heap.size ∧ ∀ j, j < len → ∃ ta tc, V j = .agg #[.string (mN ms j), .int .i64 (ms.getD j Me.zero).g, .bool (ms.getD j Me.zero).wh, .int .i64 (ms.getD j Me.zero).f, .int .i64 (ms.getD j Me.zero).l, .slice ta (ms.getD j Me.zero).ts.length tc] ∧ w.cell? ⟨b, off + j * 6, none⟩ = some (.string (mN ms j)) ∧ w.cell? ⟨b, off + j * 6 + 1, none⟩ = some (.int .i64 (ms.getD j Me.zero).g) ∧ w.cell? ⟨b, off + j * 6 + 2, none⟩ = some (.bool (ms.getD j Me.zero).wh) ∧ w.cell? ⟨b, off + j * 6 + 3, none⟩ = some (.int .i64 (ms.getD j Me.zero).f) ∧ w.cell? ⟨b, off + j * 6 + 4, none⟩ = some (.int .i64 (ms.getD j Me.zero).l) ∧ w.cell? ⟨b, off + j * 6 + 5, none⟩ = some (.slice ta (ms.getD j Me.zero).ts.length tc) ∧ Tis ta (ms.getD j Me.zero).ts.length (ms.getD j Me.zero).ts w
theorem MesV.below {ao : Option Addr} {len : Nat} {ms : List Me} {V : Nat → Value} {w w' : World} (h : MesV ao len ms V w) (hb : Below w.heap.size w w') : MesV ao len ms V w' := by
  rcases h with h | ⟨b, off, rfl, hl, h⟩
  · exact .inl h
  · refine .inr ⟨b, off, rfl, by have := hb.size; omega, fun j hj => ?_⟩
    obtain ⟨ta, tc, hv, h0, h1, h2, h3, h4, h5, h6⟩ := h j hj
    have f := fun k => hb.cell (p := ⟨b, k, none⟩) hl
    exact ⟨ta, tc, hv, (f _).trans h0, (f _).trans h1, (f _).trans h2, (f _).trans h3, (f _).trans h4, (f _).trans h5, h6.below hb⟩
theorem MesV.is {ao : Option Addr} {len : Nat} {ms : List Me} {V : Nat → Value} {w : World} (h : MesV ao len ms V w) (j : Nat) (hj : j < len) : IsMe (V j) (ms.getD j Me.zero) w := by
  rcases h with h | ⟨b, off, rfl, hl, h⟩
  · omega
  · obtain ⟨ta, tc, hv, _, _, _, _, _, _, h6⟩ := h j hj
    exact ⟨ta, tc, hv, h6⟩
theorem mes_v {ao : Option Addr} {len : Nat} {ms : List Me} {w : World} (h : Mes ao len ms w) : ∃ V, MesV ao len ms V w := by
  rcases h.2 with h | ⟨b, off, rfl, hl, h⟩
  · exact ⟨fun _ => undef, .inl h⟩
  · refine ⟨fun j => if hj : j < len then .agg #[.string (mN ms j), .int .i64 (ms.getD j Me.zero).g, .bool (ms.getD j Me.zero).wh, .int .i64 (ms.getD j Me.zero).f, .int .i64 (ms.getD j Me.zero).l, .slice (Classical.choose (h j hj)) (ms.getD j Me.zero).ts.length (Classical.choose (Classical.choose_spec (h j hj)))] else undef, .inr ⟨b, off, rfl, hl, fun j hj => ?_⟩⟩
    obtain ⟨h0, h1, h2, h3, h4, h5, h6⟩ := Classical.choose_spec (Classical.choose_spec (h j hj))
    exact ⟨_, _, by simp only [hj, dif_pos], h0, h1, h2, h3, h4, h5, h6⟩
theorem keyedS : Maps.Keyed Tryz.prog 9 := Maps.string_keyed Tryz.underlying9
set_option maxRecDepth 100000 in
set_option maxHeartbeats 4000000 in
theorem byName_any (ao : Option Addr) (len cap : Nat) (ms : List Me) (V : Nat → Value) (w : World) (hlen : len ≤ 6) (hn : ∀ i, i < len → (mN ms i).size ≤ 1048576) (hI : MesV ao len ms V w) :
    Calls Tryz.prog 119 #[.slice ao len cap] w fun e w' => e = .returned (.map (some w.heap.size)) ∧ w'.ownsMap Tryz.prog 9 RV w.heap.size len (mapD ms V len) ∧ Below w.heap.size w w' := by
  have HI := hid_intro hI
  have HN := hid_intro hn
  clear hI hn
  have HO0 : Hid ((w.alloc (.map #[] 0)).ownsMap Tryz.prog 9 RV w.heap.size 0 (mapD ms V 0)) := hid_intro (World.ownsMap_made w Tryz.prog 9 RV)
  have HB0 : Hid (Below w.heap.size w (w.alloc (.map #[] 0))) := hid_intro ((Below.refl _ _).alloc (Nat.le_refl _) _)
  have hmm := @run_makeMap Tryz.prog
  go_enter Tryz.func119, Tryz.ntmps119
  go_wp2_with fail
  go_loopw [9] (fun z wr => ∃ k : Nat, k ≤ len ∧ z = .int .i64 k ∧ Hid (Below w.heap.size w wr) ∧ Hid (wr.ownsMap Tryz.prog 9 RV w.heap.size k (mapD ms V k))) (fun z _ => len - (intOf z).toNat)
  case atStart => exact ⟨0, by omega, rfl, HB0, HO0⟩
  case round =>
    obtain ⟨k, hk, rfl, HB, HO⟩ := hrel
    by_cases hlt : k < len
    · have hlt2 : (k : Int) < (len : Int) := by omega
      rcases HI.out.below HB.out with h | ⟨b, off, rfl, hbl, h⟩
      · omega
      obtain ⟨ta, tc, hv, c0, c1, c2, c3, c4, c5, _⟩ := h k hlt
      clear h
      have HK := hid_intro (Go.WideMaps.keyOf_string_mk (P := Tryz.prog) (k := 9) Tryz.underlying9 (s := mN ms k) (Nat.le_trans (HN.out k hlt) (by unfold maxLen; omega)))
      have HV : Hid (RV (.agg #[.string (mN ms k), .int .i64 (ms.getD k Me.zero).g, .bool (ms.getD k Me.zero).wh, .int .i64 (ms.getD k Me.zero).f, .int .i64 (ms.getD k Me.zero).l, .slice ta (ms.getD k Me.zero).ts.length tc]) = some (.held (V k), [])) := hid_intro (by rw [hv]; rfl)
      have HD : Hid (mapD ms V (k + 1) = (mapD ms V k).put (kS (mN ms k)) (.held (V k))) := rfl
      have HKE : Hid (kS (mN ms k) = .string (mN ms k).data.toList) := rfl
      have HAl := hid_intro (fun o => HB.out.alloc HB.out.size o)
      have HOl := hid_intro (fun o => HO.out.alloc o)
      generalize (mapD ms V k) = D0 at *
      generalize kS (mN ms k) = K0 at *
      generalize mN ms k = n at *
      generalize V k = X at *
      generalize (ms.getD k Me.zero).ts.length = tl at *
      generalize (ms.getD k Me.zero).g = g at *
      generalize (ms.getD k Me.zero).wh = wh at *
      generalize (ms.getD k Me.zero).f = f at *
      generalize (ms.getD k Me.zero).l = l at *
      clear hv
      go_wp2_with (at_mapUpdate; refine wpList_mapUpdate_own _ rfl _ _ _ 166 rfl 9 117 keyedS Tryz.underlying166 RV w.heap.size k D0 rfl (HOl.out _) (by unfold maxLen; omega) _ _ _ rfl rfl HK.out (.held X) [] HV.out ?_; intro w1 hown1 hgrow1)
      have HO1 : Hid (w1.ownsMap Tryz.prog 9 RV w.heap.size (k + 1) (mapD ms V (k + 1))) := hid_intro (by rw [HD.out, HKE.out]; exact hown1)
      have HB1 : Hid (Below w.heap.size w w1) := hid_intro ((HAl.out _).grown hgrow1 (HAl.out _).size (fun k e => by cases e; exact Nat.le_refl _))
      clear hown1 hgrow1
      go_wp2_with fail
      go_roundw
      case rel => exact ⟨k + 1, by omega, by go_num, HB1, hid_intro HO1.out⟩
      case measure => simp [intOf]; omega
    · obtain rfl : k = len := by omega
      go_wp2_with fail
      go_ret
      exact ⟨rfl, HO.out, HB.out⟩
theorem gtr {w w1 w2 : World} {g : Option Nat} (h1 : w.grownBy w1 g) (h2 : w1.grownBy w2 g) : w.grownBy w2 g :=
  ⟨h2.os.trans h1.os, h2.tape.trans h1.tape, h2.output.trans h1.output, Nat.le_trans h1.size h2.size, fun k hk hne => (h2.block k (by have := h1.size; omega) hne).trans (h1.block k hk hne)⟩
theorem gnew {w wx : World} {g : Option Nat} (h : w.grownBy wx g) (o : Nat) (v : Value) : w.grownBy (wx.setCell ⟨w.heap.size, o, none⟩ v) g := by
  refine ⟨h.os, h.tape, h.output, by have := h.size; simpa using this, fun k hk hne => ?_⟩
  have e : (wx.setCell ⟨w.heap.size, o, none⟩ v).heap[k]? = wx.heap[k]? := by
    simp only [World.setCell]
    rw [Array.getElem?_modify, if_neg (by omega)]
  exact e.trans (h.block k hk hne)
/-- The program's own error stands in its variable. -/
def Laid (w : World) : Prop := 0 < w.heap.size ∧ ∃ a : Addr, w.cell? ⟨0, 0, none⟩ = some (.iface 265 (.pointer (some a)))
theorem Laid.below {w w' : World} (h : Laid w) (hb : Below w.heap.size w w') : Laid w' := by
  obtain ⟨h1, a, h2⟩ := h
  exact ⟨by have := hb.size; omega, a, (hb.cell (p := ⟨_, 0, none⟩) h1).trans h2⟩
theorem zeroM (w : World) : (zeroValue 117).run Tryz.prog w = .ok (.agg #[.string ⟨#[]⟩, .int .i64 0, .bool false, .int .i64 0, .int .i64 0, .slice none 0 0]) w := by kernel_rfl
set_option maxRecDepth 100000 in
set_option maxHeartbeats 4000000 in
theorem take_has (b N : Nat) (D : DataW Value) (n : ByteArray) (x0 : ByteArray) (x1 : Int) (x2 : Bool) (x3 x4 : Int) (x5 : Option Addr) (x6 x7 : Nat) (w : World) (hn : n.size ≤ 1048576) (hO : w.ownsMap Tryz.prog 9 RV b N D) (hh : Maps.has D (kS n) = true) (hx : ∀ z, D.atKey (kS n) z = .held (.agg #[.string x0, .int .i64 x1, .bool x2, .int .i64 x3, .int .i64 x4, .slice x5 x6 x7])) :
    Calls Tryz.prog 120 #[.map (some b), .string n] w fun e w' => e = .returned (.tuple #[.agg #[.string x0, .int .i64 x1, .bool x2, .int .i64 x3, .int .i64 x4, .slice x5 x6 x7], .nilIface]) ∧ w'.ownsMap Tryz.prog 9 RV b N (D.del (kS n)) ∧ w.grownBy w' (some b) := by
  have HK := hid_intro (Go.WideMaps.keyOf_string_mk (P := Tryz.prog) (k := 9) Tryz.underlying9 (s := n) (Nat.le_trans hn (by unfold maxLen; omega)))
  have HH := hid_intro hh
  have HX := hid_intro hx
  have HO := hid_intro hO
  have hlt := hO.lt
  clear hh hx hO
  have e : (.string n.data.toList : Lit) = kS n := rfl
  rw [e] at HK
  generalize kS n = K0 at *
  clear e
  obtain ⟨W, hW⟩ : ∃ W, W = w.alloc (.cells #[.string ⟨#[]⟩, .int .i64 0, .bool false, .int .i64 0, .int .i64 0, .slice none 0 0] 117) := ⟨_, rfl⟩
  obtain ⟨v, ps, hrun, hv⟩ := (HO.out.alloc (.cells #[.string ⟨#[]⟩, .int .i64 0, .bool false, .int .i64 0, .int .i64 0, .slice none 0 0] 117)).look_ok keyedS Tryz.underlying166 (zeroM _) (zd := .held (.agg #[.string ⟨#[]⟩, .int .i64 0, .bool false, .int .i64 0, .int .i64 0, .slice none 0 0])) (zp := []) rfl HK.out
  obtain rfl : v = .agg #[.string x0, .int .i64 x1, .bool x2, .int .i64 x3, .int .i64 x4, .slice x5 x6 x7] := by
    rw [HX.out] at hv
    simp [RV] at hv
    exact hv.1
  rw [HH.out] at hrun
  clear hv hW W
  have HOl := hid_intro (fun (o1 o2 : Obj) => (HO.out.alloc o1).alloc o2)
  have HGl := hid_intro (fun (o1 o2 : Obj) => gtr (World.grownBy_alloc w o1 (some b)) (World.grownBy_alloc (w.alloc o1) o2 (some b)))
  go_enter Tryz.func120, Tryz.ntmps120
  go_wp2_with (at_delete; refine wpList_delete_own _ rfl _ _ 166 9 rfl 117 keyedS Tryz.underlying166 RV b N D rfl (HOl.out _ _) _ _ rfl HK.out ?_; intro w1 hown1 hturn1; have hgr := hturn1.grown; have hsz : w.heap.size + 2 ≤ w1.heap.size := (by have := hgr.size; simp at this; omega); have E1 := fun o => World.cell?_of_block (a := ⟨w.heap.size + 1, o, none⟩) (hgr.block (w.heap.size + 1) (by simp) (by simp; omega)); have E2 := fun o => World.cell?_of_block (a := ⟨w.heap.size, o, none⟩) (hgr.block w.heap.size (by simp; omega) (by simp; omega)); have E3 := fun o => World.frozen?_of_block (a := ⟨w.heap.size, o, none⟩) (hgr.block w.heap.size (by simp; omega) (by simp; omega)); have m0 : w1.cell? ⟨w.heap.size + 1, 0, none⟩ = some (.string x0) := (E1 0).trans (by simp [go_sem]); have m1 : w1.cell? ⟨w.heap.size + 1, 1, none⟩ = some (.int .i64 x1) := (E1 1).trans (by simp [go_sem]); have m2 : w1.cell? ⟨w.heap.size + 1, 2, none⟩ = some (.bool x2) := (E1 2).trans (by simp [go_sem]); have m3 : w1.cell? ⟨w.heap.size + 1, 3, none⟩ = some (.int .i64 x3) := (E1 3).trans (by simp [go_sem]); have m4 : w1.cell? ⟨w.heap.size + 1, 4, none⟩ = some (.int .i64 x4) := (E1 4).trans (by simp [go_sem]); have m5 : w1.cell? ⟨w.heap.size + 1, 5, none⟩ = some (.slice x5 x6 x7) := (E1 5).trans (by simp [go_sem]); have r0 : w1.cell? ⟨w.heap.size, 0, none⟩ = some (.string ⟨#[]⟩) := (E2 0).trans (by simp [go_sem]); have f0 : w1.frozen? ⟨w.heap.size, 0, none⟩ = false := (E3 0).trans (by simp [go_sem]); have r1 : w1.cell? ⟨w.heap.size, 1, none⟩ = some (.int .i64 0) := (E2 1).trans (by simp [go_sem]); have f1 : w1.frozen? ⟨w.heap.size, 1, none⟩ = false := (E3 1).trans (by simp [go_sem]); have r2 : w1.cell? ⟨w.heap.size, 2, none⟩ = some (.bool false) := (E2 2).trans (by simp [go_sem]); have f2 : w1.frozen? ⟨w.heap.size, 2, none⟩ = false := (E3 2).trans (by simp [go_sem]); have r3 : w1.cell? ⟨w.heap.size, 3, none⟩ = some (.int .i64 0) := (E2 3).trans (by simp [go_sem]); have f3 : w1.frozen? ⟨w.heap.size, 3, none⟩ = false := (E3 3).trans (by simp [go_sem]); have r4 : w1.cell? ⟨w.heap.size, 4, none⟩ = some (.int .i64 0) := (E2 4).trans (by simp [go_sem]); have f4 : w1.frozen? ⟨w.heap.size, 4, none⟩ = false := (E3 4).trans (by simp [go_sem]); have r5 : w1.cell? ⟨w.heap.size, 5, none⟩ = some (.slice none 0 0) := (E2 5).trans (by simp [go_sem]); have f5 : w1.frozen? ⟨w.heap.size, 5, none⟩ = false := (E3 5).trans (by simp [go_sem]); have HG1 := hid_intro (gtr (HGl.out _ _) hgr); have HO1 := hid_intro hown1; clear E1 E2 E3 hgr hturn1 hown1)
  refine bodyPost_ret (v := .tuple #[.agg #[.string x0, .int .i64 x1, .bool x2, .int .i64 x3, .int .i64 x4, .slice x5 x6 x7], .nilIface]) (by simp [results, Tryz.results120, go_sem, r0, r1, r2, r3, r4, r5]) rfl ⟨rfl, ?_, ?_⟩
  · exact (((((HO1.out.setCell (a := ⟨w.heap.size, 0, none⟩) (show b ≠ w.heap.size by omega) _).setCell (a := ⟨w.heap.size, 1, none⟩) (show b ≠ w.heap.size by omega) _).setCell (a := ⟨w.heap.size, 2, none⟩) (show b ≠ w.heap.size by omega) _).setCell (a := ⟨w.heap.size, 3, none⟩) (show b ≠ w.heap.size by omega) _).setCell (a := ⟨w.heap.size, 4, none⟩) (show b ≠ w.heap.size by omega) _).setCell (a := ⟨w.heap.size, 5, none⟩) (show b ≠ w.heap.size by omega) _
  · exact gnew (gnew (gnew (gnew (gnew (gnew HG1.out _ _) _ _) _ _) _ _) _ _) _ _
set_option maxRecDepth 100000 in
set_option maxHeartbeats 4000000 in
theorem take_no (b N : Nat) (D : DataW Value) (n : ByteArray) (w : World) (hn : n.size ≤ 1048576) (hO : w.ownsMap Tryz.prog 9 RV b N D) (hh : Maps.has D (kS n) = false) (a0 : Addr) (hl : 0 < w.heap.size) (ha : w.cell? ⟨0, 0, none⟩ = some (.iface 265 (.pointer (some a0)))) :
    Calls Tryz.prog 120 #[.map (some b), .string n] w fun e w' => e = .returned (.tuple #[.agg #[.string ⟨#[]⟩, .int .i64 0, .bool false, .int .i64 0, .int .i64 0, .slice none 0 0], .iface 265 (.pointer (some a0))]) ∧ Below w.heap.size w w' := by
  have HK := hid_intro (Go.WideMaps.keyOf_string_mk (P := Tryz.prog) (k := 9) Tryz.underlying9 (s := n) (Nat.le_trans hn (by unfold maxLen; omega)))
  have HH := hid_intro hh
  have HO := hid_intro hO
  have hlt := hO.lt
  clear hh hO
  have e : (.string n.data.toList : Lit) = kS n := rfl
  rw [e] at HK
  generalize kS n = K0 at *
  clear e
  obtain ⟨v, ps, hrun, hv⟩ := (HO.out.alloc (.cells #[.string ⟨#[]⟩, .int .i64 0, .bool false, .int .i64 0, .int .i64 0, .slice none 0 0] 117)).look_ok keyedS Tryz.underlying166 (zeroM _) (zd := .held (.agg #[.string ⟨#[]⟩, .int .i64 0, .bool false, .int .i64 0, .int .i64 0, .slice none 0 0])) (zp := []) rfl HK.out
  obtain rfl : v = .agg #[.string ⟨#[]⟩, .int .i64 0, .bool false, .int .i64 0, .int .i64 0, .slice none 0 0] := by
    rw [Maps.atKey_of_not_has HH.out] at hv
    simp [RV] at hv
    exact hv.1
  rw [HH.out] at hrun
  clear hv
  go_enter Tryz.func120, Tryz.ntmps120
  go_wp2_with fail
  go_region
  all_goals try go_wp2
  refine bodyPost_ret (v := .tuple #[.agg #[.string ⟨#[]⟩, .int .i64 0, .bool false, .int .i64 0, .int .i64 0, .slice none 0 0], .iface 265 (.pointer (some a0))]) (by simp [results, Tryz.results120, go_sem]) rfl ⟨rfl, ?_⟩
  repeat' first | exact Below.refl _ _ | apply Below.setCell | apply Below.alloc | apply Below.drew
  all_goals first | omega | (simp; done) | (simp; omega)
end CatR
end Go.Proofs.YtcilbmhkhllmjaaGreatDoor
namespace Go.Proofs.YtcilbmhkhllmjaaGreatDoor
open Go.ChangeShapes Go.WideShapes Go.ChangeAt Go.RowKit
set_option linter.unusedVariables false
namespace CatR
open EvtR (Pt)
/-- Only blocks between two bounds are written. -/
structure Outs (base top : Nat) (w w' : World) : Prop where
  os : w'.os = w.os
  tape : w'.tape = w.tape
  output : w'.output = w.output
  size : w.heap.size ≤ w'.heap.size
  block : ∀ k, k < w.heap.size → (k < base ∨ top ≤ k) → w'.heap[k]? = w.heap[k]?
theorem Outs.refl (base top : Nat) (w : World) : Outs base top w w := ⟨rfl, rfl, rfl, Nat.le_refl _, fun _ _ _ => rfl⟩
theorem Outs.trans {base top : Nat} {w w1 w2 : World} (h : Outs base top w w1) (h2 : Outs base top w1 w2) : Outs base top w w2 :=
  ⟨h2.os.trans h.os, h2.tape.trans h.tape, h2.output.trans h.output, Nat.le_trans h.size h2.size, fun k hk hb => (h2.block k (by have := h.size; omega) hb).trans (h.block k hk hb)⟩
theorem Outs.below {base top : Nat} {w w1 w2 : World} (h : Outs base top w w1) (hb : Below w1.heap.size w1 w2) : Outs base top w w2 :=
  h.trans ⟨hb.os, hb.tape, hb.output, hb.size, fun k hk _ => hb.block k hk⟩
theorem Outs.grown {base top : Nat} {w w1 w2 : World} {g : Nat} (h : Outs base top w w1) (hg : w1.grownBy w2 (some g)) (h1 : base ≤ g) (h2 : g < top) : Outs base top w w2 :=
  h.trans ⟨hg.os, hg.tape, hg.output, hg.size, fun k hk hb => hg.block k hk (fun e => by simp at e; omega)⟩
theorem Outs.put {base top : Nat} {w w1 : World} (h : Outs base top w w1) (g o : Nat) (v : Value) (h1 : base ≤ g) (h2 : g < top) : Outs base top w (w1.setCell ⟨g, o, none⟩ v) := h.grown (RowG.grown_set w1 g o v) h1 h2
theorem pt_any {g m : Nat} {w : World} (h : Pt g m w) (b o : Nat) (v : Value) : Pt g m (w.setCell ⟨b, o, none⟩ v) := by
  by_cases e : b = g
  · subst e; exact h.set o v
  · exact h.far e o v
theorem pt_gr {g m b : Nat} {w w' : World} (h : Pt g m w) (hg : w.grownBy w' (some b)) (hp : b = g → Pt g m w') : Pt g m w' := by
  by_cases e : b = g
  · exact hp e
  · have e2 := hg.block g h.lt (fun q => e (by simpa using q.symm))
    exact ⟨by have := hg.size; have := h.lt; omega, fun o ho => by obtain ⟨v, hv⟩ := h.has o ho; exact ⟨v, (World.cell?_of_block (a := ⟨g, o, none⟩) e2).trans hv⟩, fun o ho => (World.frozen?_of_block (a := ⟨g, o, none⟩) e2).trans (h.free o ho)⟩
/-- The cells of marked tiers. -/
def mTi (K o : Nat) : Option Value := some (.int .i64 ((K + o : Nat) : Int))
set_option maxRecDepth 100000 in
set_option maxHeartbeats 4000000 in
theorem markTis (g n cap K : Nat) (w : World) (hn : n ≤ 1048576) (hK : K ≤ 1000000000000000) (h0 : Pt g (n * 2) w) :
    Calls Tryz.prog 105 #[.slice (some ⟨g, 0, none⟩) n cap, .int .i64 K] w fun e w' => e = .returned (.int .i64 (K + 2 * n : Nat)) ∧ Pt g (n * 2) w' ∧ RowG.Wr (mTi K) (n * 2) g w' ∧ w.grownBy w' (some g) := by
  have HP := hid_intro h0
  clear h0
  go_enter Tryz.func105, Tryz.ntmps105
  go_wp2_with fail
  go_loopw [5, 1] (fun x z wr => ∃ i : Nat, x = .int .i64 (i : Int) ∧ z = .int .i64 ((K : Int) + 2 * (i : Int)) ∧ i ≤ n ∧ Hid (Pt g (n * 2) wr) ∧ Hid (RowG.Wr (mTi K) (i * 2) g wr) ∧ Hid (w.grownBy wr (some g))) (fun x _ _ => n - (intOf x).toNat)
  case atStart => exact ⟨0, rfl, by go_num, by omega, HP, hid_intro (fun o ho => absurd ho (by omega)), hid_intro ⟨rfl, rfl, rfl, Nat.le_refl _, fun _ _ _ => rfl⟩⟩
  case round =>
    obtain ⟨i, rfl, rfl, hi, HP, HM, HG⟩ := hrel
    by_cases hin : i = n
    · subst hin
      go_wp2_with fail
      go_ret
      exact ⟨by go_num, HP.out, HM.out, HG.out⟩
    · have h1 : (i : Int) < (n : Int) := by omega
      obtain ⟨v0, c0⟩ := HP.out.has (i * 2) (by omega)
      have f0 := HP.out.free (i * 2) (by omega)
      obtain ⟨v1, c1⟩ := HP.out.has (i * 2 + 1) (by omega)
      have f1 := HP.out.free (i * 2 + 1) (by omega)
      have HM1 := hid_intro (HM.out.more HP.out (by omega) (.int .i64 ((K : Int) + 2 * (i : Int))) (by unfold mTi; congr 2; omega))
      have HP1 := hid_intro (HP.out.set (i * 2) (.int .i64 ((K : Int) + 2 * (i : Int))))
      have HM2 := hid_intro (HM1.out.more HP1.out (by omega) (.int .i64 ((K : Int) + 2 * (i : Int) + 1)) (by unfold mTi; congr 2; omega))
      have HP2 := hid_intro (HP1.out.set (i * 2 + 1) (.int .i64 ((K : Int) + 2 * (i : Int) + 1)))
      have HG2 := hid_intro (gtr (gtr HG.out (RowG.grown_set wr g (i * 2) (.int .i64 ((K : Int) + 2 * (i : Int))))) (RowG.grown_set _ g (i * 2 + 1) (.int .i64 ((K : Int) + 2 * (i : Int) + 1))))
      clear HP HM HG HM1 HP1
      go_wp2_with fail
      go_roundw
      case rel => exact ⟨i + 1, by go_num, by go_num, by omega, HP2, hid_intro (by rw [show (i + 1) * 2 = i * 2 + 1 + 1 by omega]; exact HM2.out), HG2⟩
      case measure => simp [intOf]; omega
theorem conv_x (w : World) (z : Int) : (convert 47 9 (.slice (some ⟨w.heap.size, 0, none⟩) 1 1)).run Tryz.prog (w.alloc (Obj.cells #[.int .u8 z] 5)) = .ok (.string (strOfNums [z])) (w.alloc (Obj.cells #[.int .u8 z] 5)) := by
  refine run_convert_bytes_arg _ 47 5 Tryz.underlying47 Tryz.underlying5 w.heap.size 0 1 1 _ rfl ?_ 9 Tryz.underlying9
  intro i hi
  match i, hi with
  | 0, _ => simp [go_sem]
set_option maxRecDepth 100000 in
set_option maxHeartbeats 4000000 in
/-- The law's mark, some text. -/
theorem mark_some (K : Nat) (h0 : 1 ≤ K) (h : K < 1000000000000000000) (w : World) : Calls Tryz.prog 54 #[.int .i64 K] w fun e w' => (∃ T, e = .returned (.string T)) ∧ Below w.heap.size w w' := by
  have h1 : ¬ (K : Int) ≤ 0 := by omega
  go_enter Tryz.func54, Tryz.ntmps54
  go_wp2_with fail
  go_loopw [0, 3] (fun x z wr => ∃ (f k : Nat) (out : ByteArray), x = .int .i64 (k : Int) ∧ z = .string out ∧ k < 10 ^ f ∧ f ≤ 18 ∧ out.size + f = 18 ∧ Hid (Below w.heap.size w wr)) (fun x _ _ => (intOf x).toNat)
  case atStart => exact ⟨18, K, ⟨#[]⟩, rfl, rfl, by omega, by omega, rfl, hid_intro (Below.refl _ _)⟩
  case round =>
    obtain ⟨f, k, out, rfl, rfl, hk, hf, hz, HB⟩ := hrel
    by_cases hk0 : k = 0
    · subst hk0
      have q1 : ¬ 9223372036854775807 < 1 + out.size := by omega
      go_wp2_with fail
      go_ret
      exact ⟨⟨_, rfl⟩, HB.out⟩
    · obtain ⟨g, rfl⟩ : ∃ g, f = g + 1 := ⟨f - 1, by rcases f with _ | f; simp at hk; omega; omega⟩
      have hk2 : k / 10 < 10 ^ g := by rw [Nat.pow_succ] at hk; omega
      have hkb : k < 1000000000000000000 := by
        have : 10 ^ (g + 1) ≤ 10 ^ 18 := Nat.pow_le_pow_right (by omega) hf
        omega
      have k1 : (0 : Int) < (k : Int) := by omega
      have e1 : (k : Int) % 10 = ((k % 10 : Nat) : Int) := by omega
      have e2 : (k : Int) / 10 = ((k / 10 : Nat) : Int) := by omega
      have e3 : (k : Int).tmod 10 = ((k % 10 : Nat) : Int) := by rw [Int.tmod_eq_emod_of_nonneg (by omega)]; omega
      have e4 : (k : Int).tdiv 10 = ((k / 10 : Nat) : Int) := by rw [Int.tdiv_eq_ediv_of_nonneg (by omega)]; omega
      have d10 : k % 10 < 10 := by omega
      have dk : k / 10 < k := by omega
      have hC : (strOfNums [48 + ((k % 10 : Nat) : Int)]).size = 1 := strOfNums_size _
      have hcv := conv_x wr (48 + ((k % 10 : Nat) : Int))
      generalize k % 10 = d at *
      generalize k / 10 = q at *
      generalize strOfNums [48 + (d : Int)] = T at *
      have q1 : ¬ 9223372036854775807 < T.size + out.size := by omega
      have HDk := hid_intro dk
      clear dk hk
      go_wp2_with fail
      go_roundw
      case rel => exact ⟨g, q, T ++ out, rfl, rfl, hk2, by omega, by rw [ByteArray.size_append]; omega, hid_intro (HB.out.alloc HB.out.size _)⟩
      case measure => simp [intOf]; have := HDk.out; omega
/-- A list of meters that may be marked: its cells, and each one's tiers. -/
structure MkMes (base top g : Nat) (bs : Nat → Nat) (ls : Nat → Nat) (n : Nat) (w : World) : Prop where
  lo : base ≤ g
  hi : g < top
  pt : Pt g (n * 6) w
  tp : ∀ i, i < n → base ≤ bs i ∧ bs i < top ∧ bs i ≠ g ∧ Pt (bs i) (ls i * 2) w ∧ ls i ≤ 1048576
  sl : ∀ i, i < n → w.cell? ⟨g, i * 6 + 5, none⟩ = some (.slice (some ⟨bs i, 0, none⟩) (ls i) (ls i))
theorem MkMes.below {base top g : Nat} {bs ls : Nat → Nat} {n : Nat} {w w' : World} (h : MkMes base top g bs ls n w) (hb : Below w.heap.size w w') : MkMes base top g bs ls n w' :=
  ⟨h.lo, h.hi, h.pt.below hb, fun i hi => by obtain ⟨a, b, c, d, e⟩ := h.tp i hi; exact ⟨a, b, c, d.below hb, e⟩, fun i hi => (hb.cell (p := ⟨g, i * 6 + 5, none⟩) h.pt.lt).trans (h.sl i hi)⟩
theorem MkMes.put {base top g : Nat} {bs ls : Nat → Nat} {n : Nat} {w : World} (h : MkMes base top g bs ls n w) (o : Nat) (v : Value) (ho : ∀ i, i < n → o ≠ i * 6 + 5) : MkMes base top g bs ls n (w.setCell ⟨g, o, none⟩ v) :=
  ⟨h.lo, h.hi, h.pt.set o v, fun i hi => by obtain ⟨a, b, c, d, e⟩ := h.tp i hi; exact ⟨a, b, c, pt_any d g o v, e⟩, fun i hi => (EvtR.cell_far o (i * 6 + 5) (ho i hi) v).trans (h.sl i hi)⟩
theorem MkMes.tier {base top g : Nat} {bs ls : Nat → Nat} {n j : Nat} {w w' : World} (h : MkMes base top g bs ls n w) (hj : j < n) (hg : w.grownBy w' (some (bs j))) (hp : Pt (bs j) (ls j * 2) w') (hsame : ∀ i, i < n → bs i = bs j → ls i = ls j) : MkMes base top g bs ls n w' := by
  obtain ⟨_, _, hjg, _, _⟩ := h.tp j hj
  have e := hg.block g h.pt.lt (fun q => hjg (by simpa using q.symm))
  exact ⟨h.lo, h.hi, pt_gr h.pt hg (fun q => absurd q hjg), fun i hi => by
    obtain ⟨a, b, c, d, e⟩ := h.tp i hi
    exact ⟨a, b, c, pt_gr d hg (fun q => by rw [← q, hsame i hi q.symm]; exact hp), e⟩, fun i hi => (World.cell?_of_block (a := ⟨g, i * 6 + 5, none⟩) e).trans (h.sl i hi)⟩
set_option maxRecDepth 100000 in
set_option maxHeartbeats 8000000 in
theorem markMes (base top g : Nat) (bs ls : Nat → Nat) (n cap : Nat) (w : World) (hn : n ≤ 1048576) (hM : MkMes base top g bs ls n w) (hs : ∀ i j, i < n → j < n → bs i = bs j → ls i = ls j) :
    Calls Tryz.prog 52 #[.slice (some ⟨g, 0, none⟩) n cap, .int .i64 1] w fun e w' => ∃ K : Nat, e = .returned (.int .i64 K) ∧ 1 ≤ K ∧ K ≤ 10000000000000 ∧ MkMes base top g bs ls n w' ∧ Outs base top w w' := by
  have HM := hid_intro hM
  have HS := hid_intro hs
  have HT : Hid (∀ (z : Int) (K : Nat), z = K → 1 ≤ K → K ≤ 10000000000000 → ∀ w, Calls Tryz.prog 54 #[.int .i64 z] w fun e w' => (∃ T, e = .returned (.string T)) ∧ Below w.heap.size w w') := hid_intro (fun z K e h0 h w => by subst e; exact mark_some K h0 (by omega) w)
  have HTT : Hid (∀ (g n cap : Nat) (z : Int) (K : Nat), z = K → n ≤ 1048576 → K ≤ 10000000000000 → ∀ w, Pt g (n * 2) w → Calls Tryz.prog 105 #[.slice (some ⟨g, 0, none⟩) n cap, .int .i64 z] w fun e w' => e = .returned (.int .i64 (K + 2 * n : Nat)) ∧ Pt g (n * 2) w' ∧ RowG.Wr (mTi K) (n * 2) g w' ∧ w.grownBy w' (some g)) := hid_intro (fun g n cap z K e hn hK w h => by subst e; exact markTis g n cap K w hn (by omega) h)
  clear hM hs
  go_enter Tryz.func52, Tryz.ntmps52
  go_wp2_with fail
  go_loopw [5, 1] (fun x z wr => ∃ i K : Nat, x = .int .i64 (i : Int) ∧ z = .int .i64 (K : Int) ∧ i ≤ n ∧ 1 ≤ K ∧ K ≤ 1 + i * 2097157 ∧ Hid (MkMes base top g bs ls n wr) ∧ Hid (Outs base top w wr)) (fun x _ _ => n - (intOf x).toNat)
  case atStart => exact ⟨0, 1, rfl, rfl, by omega, by omega, by omega, HM, hid_intro (Outs.refl _ _ _)⟩
  case round =>
    obtain ⟨i, K, rfl, rfl, hi, hK1, hK2, HM, HO⟩ := hrel
    have hKb : K ≤ 2200000000000 := by have : i * 2097157 ≤ 1048576 * 2097157 := Nat.mul_le_mul_right _ (by omega); omega
    by_cases hin : i = n
    · subst hin
      go_wp2_with fail
      go_ret
      exact ⟨K, rfl, hK1, by omega, HM.out, HO.out⟩
    · have h1 : (i : Int) < (n : Int) := by omega
      go_wp2_with fail
      refine (HT.out _ K rfl hK1 (by omega) _).mono ?_
      rintro e w1 ⟨⟨T, rfl⟩, hb⟩
      have HM1 := hid_intro (HM.out.below hb)
      have HO1 := hid_intro (HO.out.below hb)
      clear hb HM HO
      obtain ⟨v0, c0⟩ := HM1.out.pt.has (i * 6) (by omega)
      have f0 := HM1.out.pt.free (i * 6) (by omega)
      have hh0 : ∀ j, j < n → i * 6 ≠ j * 6 + 5 := fun j _ => by omega
      obtain ⟨v1, c1⟩ := HM1.out.pt.has (i * 6 + 1) (by omega)
      have f1 := HM1.out.pt.free (i * 6 + 1) (by omega)
      have hh1 : ∀ j, j < n → i * 6 + 1 ≠ j * 6 + 5 := fun j _ => by omega
      obtain ⟨v2, c2⟩ := HM1.out.pt.has (i * 6 + 2) (by omega)
      have f2 := HM1.out.pt.free (i * 6 + 2) (by omega)
      have hh2 : ∀ j, j < n → i * 6 + 2 ≠ j * 6 + 5 := fun j _ => by omega
      obtain ⟨v3, c3⟩ := HM1.out.pt.has (i * 6 + 3) (by omega)
      have f3 := HM1.out.pt.free (i * 6 + 3) (by omega)
      have hh3 : ∀ j, j < n → i * 6 + 3 ≠ j * 6 + 5 := fun j _ => by omega
      obtain ⟨v4, c4⟩ := HM1.out.pt.has (i * 6 + 4) (by omega)
      have f4 := HM1.out.pt.free (i * 6 + 4) (by omega)
      have hh4 : ∀ j, j < n → i * 6 + 4 ≠ j * 6 + 5 := fun j _ => by omega
      have c5 := HM1.out.sl i (by omega)
      obtain ⟨t1, t2, t3, t4, t5⟩ := HM1.out.tp i (by omega)
      have HTP := hid_intro t4
      have HSS := hid_intro (fun j hj => HS.out j i hj (by omega))
      have hgl := HM1.out.pt.lt
      have hlo := HM1.out.lo
      have hhi := HM1.out.hi
      have hli : i < n := by omega
      have HHH := hid_intro (show (∀ j, j < n → i * 6 ≠ j * 6 + 5) ∧ (∀ j, j < n → i * 6 + 1 ≠ j * 6 + 5) ∧ (∀ j, j < n → i * 6 + 2 ≠ j * 6 + 5) ∧ (∀ j, j < n → i * 6 + 3 ≠ j * 6 + 5) ∧ (∀ j, j < n → i * 6 + 4 ≠ j * 6 + 5) from ⟨hh0, hh1, hh2, hh3, hh4⟩)
      clear hh0 hh1 hh2 hh3 hh4 t4
      go_wp2_with fail
      refine (HTT.out _ _ _ _ (K + 5) (by push_cast; omega) t5 (by omega) _ (pt_any (pt_any (pt_any (pt_any (pt_any HTP.out _ _ _) _ _ _) _ _ _) _ _ _) _ _ _)).mono ?_
      rintro e w2 ⟨rfl, hp2, _, hg2⟩
      have HM2 := hid_intro (MkMes.tier (((((HM1.out.put (i * 6) _ HHH.out.1).put (i * 6 + 1) _ HHH.out.2.1).put (i * 6 + 2) _ HHH.out.2.2.1).put (i * 6 + 3) _ HHH.out.2.2.2.1).put (i * 6 + 4) _ HHH.out.2.2.2.2) hli hg2 hp2 HSS.out)
      have HO2 := hid_intro (Outs.grown (((((HO1.out.put g (i * 6) _ hlo hhi).put g (i * 6 + 1) _ hlo hhi).put g (i * 6 + 2) _ hlo hhi).put g (i * 6 + 3) _ hlo hhi).put g (i * 6 + 4) _ hlo hhi) hg2 t1 t2)
      clear hp2 hg2 c0 c1 c2 c3 c4 c5 f0 f1 f2 f3 f4 HM1 HO1
      have hb2 : K + 5 + 2 * ls i ≤ 1 + (i + 1) * 2097157 := by rw [Nat.add_mul]; omega
      go_wp2_with fail
      go_roundw
      case rel => exact ⟨i + 1, K + 5 + 2 * ls i, by go_num, by go_num, by omega, by omega, hb2, HM2, HO2⟩
      case measure => simp [intOf]; omega
set_option maxRecDepth 100000 in
set_option maxHeartbeats 4000000 in
theorem markCrs (base top g n cap K0 : Nat) (w : World) (hn : n ≤ 1048576) (hK0 : 1 ≤ K0) (hK : K0 ≤ 10000000000000) (hlo : base ≤ g) (hhi : g < top) (h0 : Pt g (n * 2) w) :
    Calls Tryz.prog 53 #[.slice (some ⟨g, 0, none⟩) n cap, .int .i64 K0] w fun e w' => ∃ K : Nat, e = .returned (.int .i64 K) ∧ 1 ≤ K ∧ K ≤ K0 + n * 2 ∧ Outs base top w w' := by
  have HP := hid_intro h0
  have HT : Hid (∀ (z : Int) (K : Nat), z = K → 1 ≤ K → K ≤ 20000000000000 → ∀ w, Calls Tryz.prog 54 #[.int .i64 z] w fun e w' => (∃ T, e = .returned (.string T)) ∧ Below w.heap.size w w') := hid_intro (fun z K e h0 h w => by subst e; exact mark_some K h0 (by omega) w)
  clear h0
  go_enter Tryz.func53, Tryz.ntmps53
  go_wp2_with fail
  go_loopw [5, 1] (fun x z wr => ∃ i K : Nat, x = .int .i64 (i : Int) ∧ z = .int .i64 (K : Int) ∧ i ≤ n ∧ 1 ≤ K ∧ K ≤ K0 + i * 2 ∧ Hid (Pt g (n * 2) wr) ∧ Hid (Outs base top w wr)) (fun x _ _ => n - (intOf x).toNat)
  case atStart => exact ⟨0, K0, rfl, rfl, by omega, by omega, by omega, HP, hid_intro (Outs.refl _ _ _)⟩
  case round =>
    obtain ⟨i, K, rfl, rfl, hi, hK1, hK2, HP, HO⟩ := hrel
    by_cases hin : i = n
    · subst hin
      go_wp2_with fail
      go_ret
      exact ⟨K, rfl, hK1, hK2, HO.out⟩
    · have h1 : (i : Int) < (n : Int) := by omega
      go_wp2_with fail
      refine (HT.out _ K rfl hK1 (by omega) _).mono ?_
      rintro e w1 ⟨⟨T, rfl⟩, hb⟩
      have HP1 := hid_intro (HP.out.below hb)
      have HO1 := hid_intro (HO.out.below hb)
      clear hb HP HO
      obtain ⟨v0, c0⟩ := HP1.out.has (i * 2) (by omega)
      have f0 := HP1.out.free (i * 2) (by omega)
      obtain ⟨v1, c1⟩ := HP1.out.has (i * 2 + 1) (by omega)
      have f1 := HP1.out.free (i * 2 + 1) (by omega)
      have hgl := HP1.out.lt
      have HP2 := hid_intro ((HP1.out.set (i * 2) (.string T)).set (i * 2 + 1) (.int .i64 ((K : Int) + 1)))
      have HO2 := hid_intro ((HO1.out.put g (i * 2) (.string T) hlo hhi).put g (i * 2 + 1) (.int .i64 ((K : Int) + 1)) hlo hhi)
      clear HP1 HO1
      go_wp2_with fail
      go_roundw
      case rel => exact ⟨i + 1, K + 2, by go_num, by go_num, by omega, by omega, by omega, HP2, HO2⟩
      case measure => simp [intOf]; omega
/-- A catalog that a copy has made may be marked. -/
theorem new_mk {base top : Nat} {g : Nat} {bs : Nat → Nat} {n : Nat} {ms : List Me} {w : World} (h : NewMes base g bs n n ms w) (hS : ∀ i, i < n → (ms.getD i Me.zero).Small) (ht : ∀ i, i < n → bs i < top) (hg : g < top) : MkMes base top g bs (fun i => (ms.getD i Me.zero).ts.length) n w := by
  refine ⟨h.lo, hg, h.pt, fun i hi => ?_, fun i hi => ?_⟩
  · have h1 := (h.inc i hi).1
    have h2 := h.lo
    exact ⟨by omega, ht i hi, by omega, (h.cel i hi).2.2, (hS i hi).2⟩
  · exact (h.cel i hi).1.2.2.2.2.2
theorem Outs.wide {base base' top top' : Nat} {w w' : World} (h : Outs base top w w') (h1 : base' ≤ base) (h2 : top ≤ top') : Outs base' top' w w' :=
  ⟨h.os, h.tape, h.output, h.size, fun k hk hb => h.block k hk (by omega)⟩
theorem Outs.pt {base top g m : Nat} {w w' : World} (h : Outs base top w w') (hp : Pt g m w) (hg : g < base ∨ top ≤ g) : Pt g m w' := by
  have e2 := h.block g hp.lt hg
  exact ⟨by have := h.size; have := hp.lt; omega, fun o ho => by obtain ⟨v, hv⟩ := hp.has o ho; exact ⟨v, (World.cell?_of_block (a := ⟨g, o, none⟩) e2).trans hv⟩, fun o ho => (World.frozen?_of_block (a := ⟨g, o, none⟩) e2).trans (hp.free o ho)⟩
theorem Outs.blk {base top b : Nat} {cs : List Value} {w w' : World} (h : Outs base top w w') (hp : Blk b cs w) (hg : b < base ∨ top ≤ b) : Blk b cs w' :=
  ⟨by have := h.size; have := hp.1; omega, fun i hi => (World.cell?_of_block (a := ⟨b, i, none⟩) (h.block b hp.1 hg)).trans (hp.2 i hi)⟩
set_option maxHeartbeats 4000000 in
theorem markCa (base : Nat) (v : Value) (c : Ca) (w : World) (top : Nat) (hS : c.Small) (h : NewCa base v c w) (ht : ∀ (hh : Nat) (x : Value), v = .agg #[x, .slice (some ⟨hh, 0, none⟩) c.cs.length c.cs.length] → hh < top) :
    Calls Tryz.prog 14 #[v, .int .i64 1] w fun e w' => ∃ K : Nat, e = .returned (.int .i64 K) ∧ 1 ≤ K ∧ K ≤ 20000000000000 ∧ Outs base top w w' := by
  obtain ⟨g, bs, hh, rfl, hN, hgh, hbh, hC, hP⟩ := h
  have hht : hh < top := ht hh _ rfl
  have hhw : hh < w.heap.size := hP.lt
  clear ht
  have hap : ∀ i j, i < c.ms.length → j < c.ms.length → bs i = bs j → i = j := fun i j hi hj e => by
    rcases (show i < j ∨ i = j ∨ j < i by omega) with q | q | q
    · have := (hN.inc j hj).2 i q; omega
    · exact q
    · have := (hN.inc i hi).2 j q; omega
  have HMM := hid_intro (fun W (hW : Below w.heap.size w W) => markMes base hh g bs _ c.ms.length c.ms.length W hS.ml (new_mk (hN.below hW) hS.ms hbh hgh) (fun i j hi hj e => by rw [hap i j hi hj e]))
  have HCC := hid_intro (fun W K (h1 : 1 ≤ K) (h2 : K ≤ 10000000000000) (hp : Pt hh (c.cs.length * 2) W) => markCrs hh top hh c.cs.length c.cs.length K W hS.cl h1 h2 (Nat.le_refl _) hht hp)
  have HP := hid_intro hP
  have hlo := hN.lo
  have HX0 : Hid (Blk w.heap.size [.slice (some ⟨g, 0, none⟩) c.ms.length c.ms.length, .slice (some ⟨hh, 0, none⟩) c.cs.length c.cs.length] (w.alloc (.cells #[.slice (some ⟨g, 0, none⟩) c.ms.length c.ms.length, .slice (some ⟨hh, 0, none⟩) c.cs.length c.cs.length] 36))) := hid_intro (Blk.new w _ _)
  have hal : ∀ o, Below w.heap.size w (w.alloc o) := fun o => (Below.refl _ _).alloc (Nat.le_refl _) _
  have HAL := hid_intro hal
  have HCL : Hid (c.cs.length ≤ 1048576) := hid_intro hS.cl
  clear hN hbh hC hP hap hal hS
  generalize c.ms.length = ml at *
  generalize c.cs.length = cl at *
  go_enter Tryz.func14, Tryz.ntmps14
  go_wp2_with fail
  refine (HMM.out _ (HAL.out _)).mono ?_
  rintro e w1 ⟨K, rfl, hK1, hK2, _, ho1⟩
  have HX1 := hid_intro (ho1.blk HX0.out (by omega))
  have HP1 := hid_intro (ho1.pt (HP.out.below (HAL.out _)) (by omega))
  have HO1 : Hid (Outs base top w w1) := hid_intro (((Outs.refl base top w).below (HAL.out _)).trans (ho1.wide (Nat.le_refl _) (by omega)))
  clear ho1
  have x1 : w1.cell? ⟨w.heap.size, 1, none⟩ = some (.slice (some ⟨hh, 0, none⟩) cl cl) := HX1.out.2 1 (by simp)
  have xl := HX1.out.1
  go_wp2_with fail
  refine (HCC.out _ K hK1 hK2 HP1.out).mono ?_
  rintro e w2 ⟨K2, rfl, hk3, hk4, ho2⟩
  have HO2 := hid_intro (HO1.out.trans (ho2.wide (by omega) (Nat.le_refl _)))
  clear ho2
  go_wp2_with fail
  go_ret
  exact ⟨K2, rfl, hk3, by have := HCL.out; omega, HO2.out⟩
end CatR
end Go.Proofs.YtcilbmhkhllmjaaGreatDoor
namespace Go.Proofs.YtcilbmhkhllmjaaGreatDoor
open Go.ChangeShapes Go.WideShapes Go.ChangeAt Go.RowKit
set_option linter.unusedVariables false
namespace StR
open EvtR (Pt cell_put cell_far)
open CatR (Blk)
/-- The cells from a place on are written. -/
def stL (W : World) (p : Nat) : Nat → List Value → World
  | _, [] => W
  | o, v :: vs => stL (W.setCell ⟨p, o, none⟩ v) p (o + 1) vs
theorem gtr {w w1 w2 : World} {g : Option Nat} (h1 : w.grownBy w1 g) (h2 : w1.grownBy w2 g) : w.grownBy w2 g :=
  ⟨h2.os.trans h1.os, h2.tape.trans h1.tape, h2.output.trans h1.output, Nat.le_trans h1.size h2.size, fun k hk hne => (h2.block k (by have := h1.size; omega) hne).trans (h1.block k hk hne)⟩
theorem stL_grown (p : Nat) : ∀ (vs : List Value) (o : Nat) (W : World), W.grownBy (stL W p o vs) (some p)
  | [], _, W => ⟨rfl, rfl, rfl, Nat.le_refl _, fun _ _ _ => rfl⟩
  | v :: vs, o, W => gtr (RowG.grown_set W p o v) (stL_grown p vs (o + 1) _)
theorem stL_pt {p n : Nat} : ∀ (vs : List Value) (o : Nat) (W : World), Pt p n W → Pt p n (stL W p o vs)
  | [], _, _, h => h
  | v :: vs, o, W, h => stL_pt vs (o + 1) _ (h.set o v)
theorem stL_old {p : Nat} : ∀ (vs : List Value) (o : Nat) (W : World) (j : Nat), j < o → (stL W p o vs).cell? ⟨p, j, none⟩ = W.cell? ⟨p, j, none⟩
  | [], _, _, _, _ => rfl
  | v :: vs, o, W, j, hj => (stL_old vs (o + 1) _ j (by omega)).trans (cell_far o j (by omega) v)
theorem stL_cells {p n : Nat} : ∀ (vs : List Value) (o : Nat) (W : World), Pt p n W → o + vs.length ≤ n → ∀ i, i < vs.length → (stL W p o vs).cell? ⟨p, o + i, none⟩ = vs[i]?
  | [], _, _, _, _, i, hi => absurd hi (by simp)
  | v :: vs, o, W, hp, hn, i, hi => by
    simp only [List.length_cons] at hn hi
    cases i with
    | zero =>
      rw [Nat.add_zero]
      exact (stL_old vs (o + 1) _ o (by omega)).trans ((cell_put hp o (by omega) v).trans rfl)
    | succ i =>
      have := stL_cells vs (o + 1) (W.setCell ⟨p, o, none⟩ v) (hp.set o v) (by omega) i (by omega)
      rw [show o + 1 + i = o + (i + 1) by omega] at this
      exact this.trans rfl
theorem stL_blk {p n : Nat} {vs : List Value} {W : World} (hp : Pt p n W) (hn : vs.length ≤ n) : Blk p vs (stL W p 0 vs) :=
  ⟨(stL_pt vs 0 W hp).lt, fun i hi => by have := stL_cells vs 0 W hp (by omega) i hi; rw [Nat.zero_add] at this; exact this⟩
theorem pt_far {p q n : Nat} {W W' : World} (h : Pt p n W) (hg : W.grownBy W' (some q)) (hne : p ≠ q) : Pt p n W' := by
  have e := hg.block p h.lt (by simpa using hne)
  exact ⟨by have := hg.size; have := h.lt; omega, fun o ho => by obtain ⟨v, hv⟩ := h.has o ho; exact ⟨v, (World.cell?_of_block (a := ⟨p, o, none⟩) e).trans hv⟩, fun o ho => (World.frozen?_of_block (a := ⟨p, o, none⟩) e).trans (h.free o ho)⟩
theorem blk_far {p q : Nat} {cs : List Value} {W W' : World} (h : Blk p cs W) (hg : W.grownBy W' (some q)) (hne : p ≠ q) : Blk p cs W' := by
  have e := hg.block p h.1 (by simpa using hne)
  exact ⟨by have := hg.size; have := h.1; omega, fun i hi => (World.cell?_of_block (a := ⟨p, i, none⟩) e).trans (h.2 i hi)⟩
/-- A new block of cells may be written. -/
theorem pt_new (w : World) (cs : List Value) (T : TypeId) : Pt w.heap.size cs.length (w.alloc (.cells cs.toArray T)) :=
  ⟨by simp, fun o ho => ⟨cs[o], by simp [go_sem, ho]⟩, fun o ho => by simp [go_sem]⟩
end StR
end Go.Proofs.YtcilbmhkhllmjaaGreatDoor
