/-
  The program's nets: whether one runs beyond, and its lines. The conditions: at most 1048576 Meters of at most 1048576 bytes.
  A list of lines that came in, read as a row. No condition.
  What a list of lines that the law does not pass by is like. No condition.
  The model's and the program's Less: both hand back the same lines. The conditions: what right lines are.
  Documents: what is read of one, the law's own copies, and two held against each other. The condition: at most 1048576 lines.
  What a right document is: both sides say the same. The condition: at most 1048576 lines, texts of at most 1048576 bytes.
  What a right ledger is: documents counted and added by account and month. No condition.
  Periods as keys of a map. The conditions: accounts of at most 1048576 bytes, months that are numbers of 64 bits.
  The model's count of documents of an account and month, and what they come to. The conditions: at most 1048576 documents to count, at most 30 that are right to add.
  The program's rows of a ledger, one document more. No condition.
  The program's rows of a ledger: impl.rowsOf. The conditions: documents that are small, their months numbers of 64 bits.
  LedgerRight on both sides. The conditions: documents that are small, their months numbers of 64 bits.
  The program's Less and the model's: both hand back the same lines. The condition: at most 1048576 lines, whose Meters have at most 1048576 bytes.
  NetOf on both sides. The conditions: documents that are small, months that are numbers of 64 bits, accounts of at most 1048576 bytes.
  What Issue answers, on both sides. No condition.
  append of a whole list, that may be none, to an empty list of one's own. The condition: sizes that fit.
-/
import Derived.Deep.Fields
import Derived.OpenVars
import Derived.Carry
import Derived.ChangeMaps5
import Derived.Lib.SmallJoins
import Derived.DataReads
import Derived.DeepKeys4
import Derived.Maps.OwnSet
import Derived.Deep.RegionHeld3
import Derived.Deep.AppendSrc
import Derived.Test.YtlfebpgohpmknaaGreatDoorH1
namespace Go.Proofs.YtlfebpgohpmknaaGreatDoor
open Go.ChangeShapes Go.WideShapes Go.ChangeAt Go.RowKit
set_option linter.unusedVariables false
namespace NetR
open LinR RowG LtR
/-- Why not: a number runs beyond. -/
def ovE (r : Bool) : Value := if r then .nilIface else .iface 91 (.agg #[.int .i64 12])
theorem ov_false {L : List N} {y : N} (hy : y ∈ L) (h : nOk y.n = false) : ovB L = false := by
  unfold ovB
  cases hh : L.all (fun y => nOk y.n)
  · rfl
  · rw [List.all_eq_true] at hh
    have := hh y hy
    rw [h] at this
    cases this
set_option maxRecDepth 100000 in
set_option maxHeartbeats 4000000 in
theorem over_any (b M : Nat) (D : DataW Value) (L : List N) (w : World) (hO : w.ownsMap Tryz.prog 9 (plainElem (H := Value) Tryz.prog 2) b M D) (hN : NetM D L) :
    Calls Tryz.prog 59 #[.map (some b)] w fun e w' => e = .returned (ovE (ovB L)) ∧ Below w.heap.size w w' := by
  have HO := hid_intro hO
  have HN := hid_intro hN
  have hblt := hO.lt
  have HIN := hid_intro (fun n w => inum n w)
  clear hO hN
  go_enter Tryz.func59, Tryz.ntmps59
  go_wp2_with (at_range; refine wpList_range_own _ rfl _ 65 rfl 9 2 keyedS Tryz.underlying65 _ b M D rfl HO.out ?_; intro w0 hrg0 hg0 hs0)
  have HB0 : Hid (Below w.heap.size w w0) := hid_intro ((Below.refl _ _).grown hg0 (Nat.le_refl _) (fun k e => by cases e))
  clear hg0 hs0
  go_frame
  go_loopw [2] (fun v wr => ∃ (left : Lit → Bool) (cnt : Nat), v = .nilIface ∧ wr.ranges Tryz.prog 9 (plainElem (H := Value) Tryz.prog 2) b w.heap.size M D left cnt ∧ Hid (∀ y ∈ L, left (kS y.i) = false → nOk y.n = true) ∧ Hid (Below w.heap.size w wr)) (fun _ wr => wr.rangeLeft b w.heap.size)
  case atStart => exact ⟨_, _, rfl, hrg0, hid_intro (fun y hy h => by rw [(HN.out.has y.i).2 ⟨y, hy, rfl⟩] at h; cases h), HB0⟩
  case round =>
    obtain ⟨left, cnt, rfl, hrg, HLf, HB⟩ := hrel
    have HRG := hid_intro hrg
    have hmeas := hrg.left_eq
    clear hrg
    go_wp2_with (at_next; refine wpList_next_ranges _ rfl _ rfl 9 keyedS _ encStr (Value.int .i64) (fun key kl h => by obtain ⟨x, hx, _⟩ := Maps.keyOf_str Tryz.underlying9 h; exact ⟨x, hx⟩) (fun v y h => by obtain ⟨a, ha, _⟩ := plainElem_int_inv Tryz.underlying2 h; exact ⟨a, ha⟩) b w.heap.size M D left cnt rfl HRG.out ?_ ?_)
    · intro hc0 hl0
      have HE : Hid (ovB L = true) := hid_intro (by unfold ovB; rw [List.all_eq_true]; exact fun y hy => HLf.out y hy (hl0 _))
      clear hl0
      go_wp2_with fail
      go_ret
      exact ⟨by rw [HE.out]; rfl, HB.out⟩
    · intro x c kl yd yp w' cnt' hkey hlk hv hat hrg' hlt hgr hsz hen
      obtain ⟨x', hx', hkl, _⟩ := Maps.keyOf_str Tryz.underlying9 hkey
      obtain ⟨a, ha, hy, _⟩ := plainElem_int_inv Tryz.underlying2 hv
      simp only [Value.int.injEq, true_and] at ha
      subst ha
      simp only [Prod.mk.injEq] at hy
      obtain ⟨rfl, _⟩ := hy
      obtain ⟨q, hq, hqk⟩ := HN.out.key ⟨x', hkl⟩ (Maps.has_true_of_atKey hat)
      have hqn : q.n = c := by
        have h1 := HN.out.nat q hq (.lit (.int .i64 0))
        rw [hqk, hat] at h1
        simpa using h1.symm
      have HB1 := hid_intro (HB.out.grown hgr HB.out.size (fun k e => by cases e; exact Nat.le_refl _))
      have HRG1 := hid_intro hrg'
      have hms := hrg'.left_eq
      have HQ : Hid (nOk c = false → ovB L = false) := hid_intro (fun h => ov_false hq (by rw [hqn]; exact h))
      have HL2 : Hid (nOk c = true → ∀ y ∈ L, (left (kS y.i) && !(kS y.i).sameKey kl) = false → nOk y.n = true) := hid_intro (fun h y hy h2 => by
        cases h3 : left (kS y.i)
        · exact HLf.out y hy h3
        · rw [h3] at h2
          simp only [Bool.true_and, Bool.not_eq_false'] at h2
          have e := WideAt.sameKey_eq h2
          have h4 := HN.out.nat y hy (.lit (.int .i64 0))
          rw [e, hat] at h4
          have h5 : c = y.n := by simpa using h4
          rw [← h5]; exact h)
      clear hkey hlk hv hat hrg' hgr hqk hqn hq hx' hkl HRG HLf HB
      have HC := hid_intro (fun w => inum c w)
      generalize nOk c = r at *
      cases r
      · have HE := hid_intro (HQ.out rfl)
        go_wp2_with (go_at_call 60; refine (HC.out _).mono ?_; rintro e w2 ⟨rfl, rfl⟩)
        go_ret
        exact ⟨by rw [HE.out]; rfl, HB1.out⟩
      · have HE := hid_intro (HL2.out rfl)
        go_wp2_with (go_at_call 60; refine (HC.out _).mono ?_; rintro e w2 ⟨rfl, rfl⟩)
        go_roundw
        case rel => exact ⟨_, _, rfl, HRG1.out, HE, HB1⟩
        case measure => rw [hms, hmeas]; exact hlt
/-- A row of Meters. -/
def icell (y : N) : List Value := [.string y.i]
theorem icells (L : List N) : (L.map (fun y => y.i.data.toList)).map encStr = cellsAll icell L := by
  induction L with
  | nil => rfl
  | cons y l ih =>
    simp only [List.map_cons, cellsAll, List.flatMap_cons, icell] at *
    rw [ih]
    simp [encStr]
theorem nil_row (w : World) (e : TypeId) : w.ownsRow w.heap.size e 2 (.slice none 0 0) ([] : List N).length (cellsAll N.cells []) := World.ownsRow_nil _ _ _ _
theorem omap_below {P : Program} {k : TypeId} {R : Value → Option (DataW Value × List MemPlace)} {w w' : World} {b n : Nat} {D : DataW Value} (h : w.ownsMap P k R b n D) (hb : Below w.heap.size w w') : w'.ownsMap P k R b n D :=
  h.kept (row := none) ⟨hb.os, hb.tape, hb.output, hb.size, fun k hk _ => hb.block k hk⟩ (by simp)
set_option maxRecDepth 100000 in
set_option maxHeartbeats 4000000 in
theorem lines_any (b M : Nat) (D : DataW Value) (L : List N) (w : World) (hO : w.ownsMap Tryz.prog 9 (plainElem (H := Value) Tryz.prog 2) b M D) (hM : M ≤ 1048576) (hN : NetM D L) (hlen : L.length ≤ 1048575) (hS : ∀ y ∈ L, y.i.size ≤ 1048576) :
    Calls Tryz.prog 42 #[.map (some b)] w fun e w' => ∃ v, e = .returned v ∧ w'.ownsRow w.heap.size 74 2 v (L.filter nz).length (cellsAll N.cells (L.filter nz)) ∧ Below w.heap.size w w' := by
  obtain ⟨i0, hi, hz0, hz1, hz2⟩ := info_parts infoN
  have hsl := hO.size_le
  have HSK := hid_intro (callsIn_wide.1 (Tryz.slices_Sorted_keys_67_68 b M D (plainElem (H := Value) Tryz.prog 2) w hO (by unfold maxLen; omega) (by omega)))
  have HSO : Hid (∀ ss : List (List UInt8), ss.Perm (strKeys D) → ss.mergeSort (fun x y => decide (x ≤ y)) = L.map (fun y => y.i.data.toList)) := hid_intro (fun ss h => hN.sorted Tryz.underlying9 hO h)
  have HO := hid_intro hO
  have HN := hid_intro hN
  have HS := hid_intro hS
  have HKY := hid_intro (Tryz.keys_any (some b) w)
  obtain ⟨len, hl⟩ : ∃ len, len = L.length := ⟨_, rfl⟩
  rw [← hl] at hlen
  have HL := hid_intro hl
  clear hO hN hS hl hsl
  go_enter Tryz.func42, Tryz.ntmps42
  go_wp2_with fail
  refine HKY.out.mono ?_
  rintro e w1 ⟨rfl, rfl⟩
  go_wp2_with fail
  refine HSK.out.mono ?_
  rintro e w2 ⟨v0, ss, rfl, hss, hrow, hnil, hb2⟩
  have HB2 : Hid (Below w.heap.size w w2) := hid_intro (((Below.refl _ w).alloc (Nat.le_refl _) _).trans (hb2.mono (by simp)))
  have hsl2 : ss.length = L.length := by
    have h1 := congrArg List.length (HSO.out ss hss)
    simpa using h1
  rw [HSO.out ss hss, icells, hsl2] at hrow
  obtain ⟨ao, cap, rfl, hm⟩ := own_made (k := 1) (z := N.zero) (cells := icell) (fun _ => rfl) hrow
  have HM0 := hid_intro hm.rws
  have HB20 : Hid (∀ W, Below w2.heap.size w2 W → Rws 1 icell N.zero ao L W) := hid_intro (fun W h => Rws.below HM0.out h)
  rw [← HL.out]
  clear hrow hnil hss hsl2 hm hb2 HM0 HSK HSO HKY
  go_wp2_with fail
  go_loopw [3, 10] (fun v z wr => ∃ k : Nat, k ≤ len ∧ z = .int .i64 k ∧ Hid (wr.ownsRow w2.heap.size 74 2 v k (cellsAll N.cells (L.take k))) ∧ Hid (Below w2.heap.size w2 wr)) (fun v z _ => len - (intOf z).toNat)
  case atStart => exact ⟨0, by omega, rfl, hid_intro (World.ownsRow_nil _ _ _ _), hid_intro (Below.refl _ _)⟩
  case round =>
    obtain ⟨k, hk, rfl, HR, HBw⟩ := hrel
    have HB := hid_intro (HB2.out.trans (HBw.out.mono HB2.out.size))
    by_cases hlt : k < len
    · have hlt2 : (k : Int) < (len : Int) := by omega
      have hkl : k < L.length := by have := HL.out; omega
      obtain ⟨b0, off, rfl, hbl, ca⟩ := (HB20.out wr HBw.out).at k hkl
      have c0 : wr.cell? ⟨b0, off + k, none⟩ = some (.string (L.getD k N.zero).i) := by have := ca 0 (by omega); rw [Nat.mul_one, Nat.add_zero] at this; exact this
      have hmem := getD_mem (z := N.zero) L k hkl
      have hsz := HS.out _ hmem
      have HT := hid_intro (take_more (z := N.zero) L k hkl)
      have HLK : Hid (D.atKey (kS (L.getD k N.zero).i) (.lit (.int .i64 0)) = .lit (.int .i64 (L.getD k N.zero).n)) := hid_intro (HN.out.nat _ hmem _)
      generalize L.getD k N.zero = X at *
      obtain ⟨xi, xn⟩ := X
      dsimp only at c0 hsz HLK
      have HK := hid_intro (Go.WideMaps.keyOf_string_mk (P := Tryz.prog) (k := 9) Tryz.underlying9 (s := xi) (Nat.le_trans hsz (by unfold maxLen; omega)))
      have HKE : Hid (kS xi = .string xi.data.toList) := rfl
      have HOl := hid_intro (omap_below HO.out HB.out)
      rw [← HKE.out] at HK
      generalize kS xi = K0 at *
      have sz1 : k + 1 ≤ maxLen := by unfold maxLen; omega
      have sz2 : (k + 1) * 24 ≤ 140737488355328 := by omega
      have sz5 := HBw.out.size
      clear HKE ca hmem
      go_wp2_with (first | (at_lookup; refine wpList_lookup_own_int _ rfl _ _ 65 rfl 9 2 .i64 keyedS Tryz.underlying65 Tryz.underlying2 (zeroI _) b M D rfl HOl.out _ _ rfl HK.out ?_; intro c hat hwc; obtain rfl : xn = c := (by have h := HLK.out.symm.trans hat; simpa using h); clear hat hwc) | (at_builtin; refine wpList_append_own _ rfl _ _ 24 rfl w2.heap.size 74 i0 (.agg #[.string ⟨#[]⟩, .int .i64 0]) 2 24 Tryz.underlying24 hi hz0 hz1 hz2 rfl (by decide) _ _ _ rfl (HR.out.alloc _) ⟨wr.heap.size, 0, none⟩ 1 1 (N.cells ⟨xi, xn⟩) rfl rfl (two_cells _ _ _ _) (two_one _) sz1 sz2 (by simp; omega) ?_; intro v' w4 hown hgrow hne))
      have HR4 : Hid (w4.ownsRow w2.heap.size 74 2 v' (k + 1) (cellsAll N.cells (L.take (k + 1)))) := hid_intro (by rw [HT.out, cellsAll_app]; exact hown)
      have HOB := hid_intro (fun c hc => (HR.out.lt c hc).1)
      have HB4 : Hid (Below w2.heap.size w2 w4) := hid_intro ((HBw.out.alloc HBw.out.size _).grown hgrow (HBw.out.alloc HBw.out.size _).size (fun c e => HOB.out c e))
      clear hown hgrow hne HOB
      go_wp2_with fail
      go_roundw
      case rel => exact ⟨k + 1, by omega, by go_num, HR4, HB4⟩
      case measure => simp [intOf]; omega
    · have hlt2 : ¬ (k : Int) < (len : Int) := by omega
      obtain rfl : k = len := by omega
      have HT : Hid (L.take k = L) := hid_intro (List.take_of_length_le (by have := HL.out; omega))
      rw [HT.out] at HR
      obtain ⟨bo, cap', rfl, hm⟩ := own_made (z := N.zero) N.len (by rw [← HL.out]; exact HR.out)
      have HM := hid_intro hm.rws
      have HPT := hid_intro (put_any bo cap' L wr (by have := HL.out; omega) HS.out hm.rws)
      rw [← HL.out] at HPT ⊢
      clear hm
      go_wp2_with fail
      refine HPT.out.mono ?_
      rintro e w5 ⟨v, rfl, ho, hb5⟩
      have HO5 := hid_intro (own_low ho HB.out.size)
      have HB5 := hid_intro (HB.out.trans (hb5.mono HB.out.size))
      clear ho hb5
      go_wp2_with fail
      go_ret
      exact ⟨_, rfl, HO5.out, HB5.out⟩
set_option maxRecDepth 100000 in
set_option maxHeartbeats 4000000 in
theorem lines_nil (w : World) :
    Calls Tryz.prog 42 #[.map none] w fun e w' => ∃ v, e = .returned v ∧ w'.ownsRow w.heap.size 74 2 v ([] : List N).length (cellsAll N.cells []) ∧ Below w.heap.size w w' := by
  have HSK := hid_intro (callsIn_wide.1 (Tryz.slices_Sorted_keys_nil_67_68 w))
  have HKY := hid_intro (Tryz.keys_any none w)
  go_enter Tryz.func42, Tryz.ntmps42
  go_wp2_with fail
  refine HKY.out.mono ?_
  rintro e w1 ⟨rfl, rfl⟩
  go_wp2_with fail
  refine HSK.out.mono ?_
  rintro e w2 ⟨v0, ss, rfl, hss, hrow, hnil, hb2⟩
  obtain rfl : v0 = .slice none 0 0 := hnil.2 hss
  have HB2 : Hid (Below w.heap.size w w2) := hid_intro (((Below.refl _ w).alloc (Nat.le_refl _) _).trans (hb2.mono (by simp)))
  clear hrow hnil hss hb2 HSK HKY
  go_wp2_with fail
  go_loopw [3, 10] (fun v z wr => v = .slice none 0 0 ∧ z = .int .i64 0 ∧ Hid (Below w.heap.size w wr)) (fun v z _ => 0)
  case atStart => exact ⟨rfl, rfl, HB2⟩
  case round =>
    obtain ⟨rfl, rfl, HB⟩ := hrel
    have HPT := hid_intro (put_any none 0 [] wr (by simp) (fun e he => by cases he) (.inl rfl))
    go_wp2_with fail
    refine HPT.out.mono ?_
    rintro e w5 ⟨v, rfl, ho, hb5⟩
    have HO5 := hid_intro (own_low ho HB.out.size)
    have HB5 := hid_intro (HB.out.trans (hb5.mono HB.out.size))
    clear ho hb5
    go_wp2_with fail
    go_ret
    exact ⟨_, rfl, HO5.out, HB5.out⟩
end NetR
end Go.Proofs.YtlfebpgohpmknaaGreatDoor
namespace Go.Proofs.YtlfebpgohpmknaaGreatDoor
open Go.ChangeShapes Go.WideShapes Go.ChangeAt Go.RowKit Go.Deep
set_option linter.unusedVariables false
namespace LinR
/-- A slice of lines that came in. -/
def IsLis (w : World) (a : Option Addr) (es : List N) : Prop := es.length ≤ maxLen ∧ Lis a es w ∧ ∀ e ∈ es, e.i.size ≤ maxLen
section
variable {H : Type} {enc : TypeId × Value → H} {P : Program} {w : World} {base : Nat} {spare : Nat → Bool} {held : Bool}
theorem list2 {α : Type} {cs : List α} (h : cs.length = 2) : ∃ c0 c1, cs = [c0, c1] := by
  match cs, h with
  | [c0, c1], _ => exact ⟨c0, c1, rfl⟩
theorem line_cells {t : TypeId} {f0 f1 : Field} {fuel : Nat} {cs : List Value} {x : DataW H × List MemPlace} (hs : P.underlying t = some (.struct #[f0, f1])) (hone : oneCellFields P #[f0, f1] = true) (hC : P.cellsOf t = 2)
    (u0 : P.underlying f0.type = some .string) (u1 : P.underlying f1.type = some (.int .i64))
    (h : DataW.trod enc P w base spare held fuel t cs = some x) :
    ∃ (i : ByteArray) (n : Int), cs = [.string i, .int .i64 n] ∧ i.size ≤ maxLen := by
  obtain ⟨xs, n, _, _, hl, hlen, hf⟩ := DataW.trod_struct hs h
  obtain ⟨c0, c1, rfl⟩ := list2 (hl.trans hC)
  obtain ⟨y0, y1, rfl⟩ := list2 (show xs.length = 2 from hlen)
  obtain ⟨o0, k0⟩ := hone_of hone 0 f0 rfl
  obtain ⟨o1, k1⟩ := hone_of hone 1 f1 rfl
  have h0 := hf 0 f0 rfl
  have h1 := hf 1 f1 rfl
  simp [o0, k0] at h0
  simp [o1, k1] at h1
  obtain ⟨i, e0, _, s0⟩ := DataW.trod_string u0 h0
  obtain ⟨p, e1, _, s1⟩ := DataW.trod_int u1 h1
  simp only [List.cons.injEq, and_true] at e0 e1
  subst e0 e1
  exact ⟨i, p, rfl, s0⟩
theorem cells_at {a : Addr} {cs : List Value} {n : Nat} (h : w.cells? base a n = some cs) (j : Nat) (hj : j < n) : w.cell? (a.add j) = cs[j]? := by
  obtain ⟨_, h1, h2⟩ := World.cells?_some h
  exact h2 j hj
theorem lis_open {t e : TypeId} {f0 f1 : Field} {fuel : Nat} {ao : Option Addr} {len cap : Nat} {x : DataW H × List MemPlace} (ht : P.underlying t = some (.slice e)) (hs : P.underlying e = some (.struct #[f0, f1])) (hone : oneCellFields P #[f0, f1] = true) (hC : P.cellsOf e = 2)
    (u0 : P.underlying f0.type = some .string) (u1 : P.underlying f1.type = some (.int .i64))
    (h : DataW.trod enc P w base spare held fuel t [.slice ao len cap] = some x) : ∃ es, es.length = len ∧ IsLis w ao es := by
  rcases DataW.trod_slice ht h with ⟨hcs, _⟩ | ⟨a, len', cap', elems, rest, n, _, hcs, _, hb, hl, hm, hlen, hel, _, _⟩
  · simp only [List.cons.injEq, Value.slice.injEq, and_true] at hcs
    obtain ⟨rfl, rfl, rfl⟩ := hcs
    exact ⟨[], rfl, Nat.zero_le _, .inl rfl, fun e he => by cases he⟩
  · simp only [List.cons.injEq, Value.slice.injEq, and_true] at hcs
    obtain ⟨rfl, rfl, rfl⟩ := hcs
    have key : ∀ i, i < len → ∃ E1 : N, E1.i.size ≤ maxLen ∧ w.cells? base (a.add (i * 2)) 2 = some E1.cells := by
      intro i hi
      have h1 := hel i hi
      rw [hC, List.getElem?_eq_getElem (by omega)] at h1
      cases hc : w.cells? base (a.add (i * 2)) 2 with
      | none => rw [hc] at h1; simp at h1
      | some cs =>
        rw [hc] at h1
        simp only [Option.bind_some] at h1
        obtain ⟨i', n', rfl, q0⟩ := line_cells hs hone hC u0 u1 h1
        exact ⟨⟨i', n'⟩, q0, rfl⟩
    have : ∃ f : Nat → N, ∀ i, i < len → (f i).i.size ≤ maxLen ∧ w.cells? base (a.add (i * 2)) 2 = some (f i).cells := by
      refine ⟨fun i => if hi : i < len then Classical.choose (key i hi) else N.zero, fun i hi => ?_⟩
      simp only [hi, dif_pos]
      exact Classical.choose_spec (key i hi)
    obtain ⟨f, hf⟩ := this
    refine ⟨(List.range len).map f, by simp, by simp; omega, ?_, fun e he => ?_⟩
    · by_cases h0 : len = 0
      · exact .inl (by simpa using h0)
      · obtain ⟨b, off, spot⟩ := a
        have hc0 := cells_at (hf 0 (by omega)).2 0 (by omega)
        have hspot : spot = none := by
          have : w.cell? ⟨b, off, spot⟩ = some (.string (f 0).i) := by simpa [Addr.add, N.cells] using hc0
          exact World.cell?_spot this
        subst hspot
        refine .inr ⟨b, off, rfl, ?_, fun j hj => ?_⟩
        · have : w.cell? ⟨b, off, none⟩ = some (.string (f 0).i) := by simpa [Addr.add, N.cells] using hc0
          exact World.block_lt_of_cell? w _ this
        · have hj : j < len := by simpa using hj
          have e : ((List.range len).map f).getD j N.zero = f j := by simp [List.getD, hj]
          rw [e]
          have g := fun k (hk : k < 2) => cells_at (hf j hj).2 k hk
          have ad : ∀ k, ((⟨b, off, none⟩ : Addr).add (j * 2)).add k = ⟨b, off + j * 2 + k, none⟩ := by
            intro k
            unfold Addr.add
            split <;> split <;> simp_all
          simp only [ad] at g
          exact fun i hi => g i hi
    · simp only [List.mem_map, List.mem_range] at he
      obtain ⟨i, hi, rfl⟩ := he
      exact (hf i hi).1
end
end LinR
end Go.Proofs.YtlfebpgohpmknaaGreatDoor
namespace Go.Proofs.YtlfebpgohpmknaaGreatDoor
open Go.RowKit
namespace LinR
open RowG
theorem szL_mem {es : List N} {e : N} (h : e ∈ es) : (e.i.size : Int) ≤ szL es := by
  induction es with
  | nil => cases h
  | cons x es ih =>
    have hn := szL_nn es
    have hx : szL (x :: es) = (x.i.size : Int) + szL es := by simp [szL]
    rcases List.mem_cons.1 h with rfl | h
    · omega
    · have := ih h; omega
theorem sz_small {es : List N} (h : ¬ szR es < 0) : es.length ≤ 1048576 ∧ (∀ e ∈ es, e.i.size ≤ 1048576) ∧ 0 ≤ szR es ∧ szR es ≤ 1048576 := by
  unfold szR at *
  have hn := szL_nn es
  by_cases q : (es.length : Int) + szL es ≤ 1048576
  · rw [if_pos q]
    exact ⟨by omega, fun e he => by have := szL_mem he; omega, by omega, by omega⟩
  · rw [if_neg q] at h
    exact absurd (by omega) h
end LinR
end Go.Proofs.YtlfebpgohpmknaaGreatDoor
namespace Go.Proofs.YtlfebpgohpmknaaGreatDoor
open Go.ChangeShapes Go.WideShapes Go.ChangeAt Go.RowKit
set_option linter.unusedVariables false
namespace NetR
open LinR RowG LtR
/-- What is left of lines, none if one runs beyond. -/
def clL (L : List N) : List N := bif ovB L then L.filter nz else []
theorem all_take {L : List N} {k : Nat} (h : k < L.length) : (L.take (k + 1)).all (fun y => nOk y.n) = ((L.take k).all (fun y => nOk y.n) && nOk (L.getD k N.zero).n) := by
  rw [take_more (z := N.zero) L k h, List.all_append]
  simp
set_option maxRecDepth 100000 in
set_option maxHeartbeats 4000000 in
theorem sclean (ao : Option Addr) (cap : Nat) (L : List N) (w : World) (hlen : L.length ≤ 1048575) (hI : Lis ao L w) :
    Calls Tryz.prog 52 #[.slice ao L.length cap] w fun e w' => ∃ v, e = .returned (.tuple #[v, .bool (ovB L)]) ∧ OwnN w' w.heap.size v (clL L) ∧ Below w.heap.size w w' := by
  obtain ⟨i0, hi, hz0, hz1, hz2⟩ := info_parts infoN
  have HI := hid_intro hI
  obtain ⟨len, hl⟩ : ∃ len, len = L.length := ⟨_, rfl⟩
  rw [← hl] at hlen ⊢
  have HL := hid_intro hl
  have HSN := hid_intro (fun n w => snum n w)
  have HE := hid_intro (own_empty w w.heap.size 74 2 (Nat.le_refl _))
  clear hI hl
  go_enter Tryz.func52, Tryz.ntmps52
  go_wp2_with fail
  go_loopw [4, 5] (fun v z wr => ∃ k : Nat, k ≤ len ∧ z = .int .i64 k ∧ Hid (OwnN wr w.heap.size v ((L.take k).filter nz)) ∧ Hid ((L.take k).all (fun y => nOk y.n) = true) ∧ Hid (Below w.heap.size w wr)) (fun v z _ => len - (intOf z).toNat)
  case atStart => exact ⟨0, by omega, rfl, hid_intro ⟨HE.out, fun e => by cases e⟩, hid_intro rfl, hid_intro (al _ _)⟩
  case round =>
    obtain ⟨k, hk, rfl, HO, HA, HB⟩ := hrel
    by_cases hlt : k < len
    · have hlt2 : (k : Int) < (len : Int) := by omega
      have hkl : k < L.length := by have := HL.out; omega
      obtain ⟨b, off, rfl, hbl, c0, c1⟩ := (HI.out.below HB.out).at k hkl
      have HF := hid_intro (filter_more nz L k hkl)
      have HA2 := hid_intro (all_take hkl)
      have HLF : Hid (((L.take k).filter nz).length ≤ 1048575) := hid_intro (by
        have h1 := List.length_filter_le nz (L.take k)
        have h2 := (List.take_sublist k L).length_le
        have := HL.out
        omega)
      have HMEM := hid_intro (getD_mem (z := N.zero) L k hkl)
      obtain ⟨F, hF⟩ : ∃ F, F = (L.take k).filter nz := ⟨_, rfl⟩
      rw [← hF] at HO HF HLF
      clear hF
      generalize L.getD k N.zero = X at *
      obtain ⟨xi, xn⟩ := X
      dsimp only at c0 c1 HA2
      have HC := hid_intro (fun w => snum xn w)
      have HOV : Hid (nOk xn = false → ovB L = false) := hid_intro (fun h => ov_false HMEM.out h)
      generalize nOk xn = r at *
      cases r
      · have HE2 := hid_intro (HOV.out rfl)
        have HBz := hid_intro (HB.out.alloc HB.out.size (.cells #[] 74))
        have HOz := hid_intro (own_empty wr w.heap.size 74 2 HB.out.size)
        have HPz : Hid (∀ W, W.ownsRow w.heap.size 74 2 (.slice (some ⟨wr.heap.size, 0, none⟩) 0 0) 0 [] → OwnN W w.heap.size (.slice (some ⟨wr.heap.size, 0, none⟩) 0 0) (clL L)) := hid_intro (fun W h => by
          unfold clL
          rw [HE2.out, cond_false]
          exact ⟨h, fun e => by cases e⟩)
        go_wp2_with (go_at_call 54; refine (HC.out _).mono ?_; rintro e w2 ⟨rfl, rfl⟩)
        go_ret2
        exact ⟨_, by rw [HE2.out]; rfl, HPz.out _ HOz.out, HBz.out⟩
      · have HA3 : Hid ((L.take (k + 1)).all (fun y => nOk y.n) = true) := hid_intro (by rw [HA2.out, HA.out]; rfl)
        rcases nz_cases xi xn with ⟨q1, q2, q3⟩ | ⟨q1, q2, q3⟩
        · rw [q3, cond_false, List.append_nil] at HF
          go_wp2_with (go_at_call 54; refine (HC.out _).mono ?_; rintro e w2 ⟨rfl, rfl⟩)
          go_roundw
          case rel => exact ⟨k + 1, by omega, by go_num, hid_intro (by rw [HF.out]; exact HO.out), HA3, HB⟩
          case measure => simp [intOf]; omega
        · rw [q3, cond_true] at HF
          go_wp2_with (first | (go_at_call 54; refine (HC.out _).mono ?_; rintro e w2 ⟨rfl, rfl⟩) | (at_builtin; refine wpList_append_own _ rfl _ _ 24 rfl w.heap.size 74 i0 (.agg #[.string ⟨#[]⟩, .int .i64 0]) 2 24 Tryz.underlying24 hi hz0 hz1 hz2 rfl (by decide) _ _ _ rfl (HO.out.1.alloc _) ⟨_, 0, none⟩ 1 1 (N.cells ⟨xi, xn⟩) rfl rfl (two_cells _ _ _ _) (two_one _) ?d3 ?d4 ?d5 ?_))
          case d3 => unfold maxLen; have := HLF.out; omega
          case d4 => have := HLF.out; omega
          case d5 => have h1 := HB.out.size; simp; omega
          intro v' w4 hown hgrow hne
          have HO4 : Hid (OwnN w4 w.heap.size v' (F ++ [(⟨xi, xn⟩ : N)])) := hid_intro (own_nonnil (by rw [cellsAll_app, List.length_append]; exact hown) (by simp))
          have HOB := hid_intro (fun c hc => (HO.out.1.lt c hc).1)
          have HB4 : Hid (Below w.heap.size w w4) := hid_intro ((HB.out.alloc HB.out.size _).grown hgrow (HB.out.alloc HB.out.size _).size (fun c e => HOB.out c e))
          clear hown hgrow hne
          go_wp2_with fail
          go_roundw
          case rel => exact ⟨k + 1, by omega, by go_num, hid_intro (by rw [HF.out]; exact HO4.out), HA3, HB4⟩
          case measure => simp [intOf]; omega
    · have hlt2 : ¬ (k : Int) < (len : Int) := by omega
      obtain rfl : k = len := by omega
      have HT : Hid (L.take k = L) := hid_intro (List.take_of_length_le (by have := HL.out; omega))
      rw [HT.out] at HO HA
      have HE2 : Hid (ovB L = true) := HA
      have HP : Hid (∀ W v, OwnN W w.heap.size v (L.filter nz) → OwnN W w.heap.size v (clL L)) := hid_intro (fun W v h => by unfold clL; rw [HE2.out, cond_true]; exact h)
      go_wp2_with fail
      go_ret2
      exact ⟨_, by rw [HE2.out]; rfl, HP.out _ _ HO.out, HB.out⟩
/-- What right lines are, by hand. -/
theorem right_rise {es : List N} (h : SRight es) : Rise es := by
  unfold Rise
  rw [List.pairwise_iff_getElem]
  have key : ∀ j, j < es.length → ∀ i, i < j → lt (es.getD i N.zero).i (es.getD j N.zero).i = true := by
    intro j
    induction j with
    | zero => intro _ i hi; omega
    | succ j ih =>
      intro hj i hi
      have h1 : lt (es.getD j N.zero).i (es.getD (j + 1) N.zero).i = true := (h.2 (j + 1) hj).1
      by_cases e : i = j
      · subst e; exact h1
      · exact lt_trans (ih (by omega) i (by omega)) h1
  intro i j hi hj hij
  have := key j hj i hij
  simpa [List.getD, hi, hj] using this
theorem right_bd {es : List N} (h : SRight es) : ∀ e ∈ es, -1000000000000000 ≤ e.n ∧ e.n ≤ 1000000000000000 := by
  intro e he
  obtain ⟨i, hi, rfl⟩ := List.getElem_of_mem he
  have h1 := (h.2 i hi).2
  unfold lOk nOk at h1
  simp only [Bool.and_eq_true, decide_eq_true_eq] at h1
  have e2 : es.getD i N.zero = es[i] := by simp [List.getD, hi]
  rw [e2] at h1
  exact h1.2.1
/-- Both answers. -/
def lessL (a b : List N) : List N := clL (all a b (-1))
def lessB (a b : List N) : List N := bif sB a && sB b then lessL a b else []
theorem less_len {a b : List N} : (lessB a b).length ≤ 12 := by
  unfold lessB
  cases ha : sB a
  · simp
  · cases hb : sB b
    · simp
    · have h1 := (sB_iff.1 ha).1
      have h2 := (sB_iff.1 hb).1
      have h3 := all_len a b (-1)
      simp only [Bool.and_self, cond_true, lessL, clL]
      cases ovB (all a b (-1))
      · simp
      · have h4 := List.length_filter_le nz (all a b (-1))
        simp only [cond_true]
        omega
theorem res_ownN {w w' : World} {l : List N} {v : Value} (h : OwnN w' w.heap.size v l) (hb : Below w.heap.size w w') : ∃ ao cap, v = .slice ao l.length cap ∧ MadeG 2 N.cells N.zero w.heap.size ao l w' ∧ Below w.heap.size w w' := by
  obtain ⟨ao, cap, e, hm⟩ := own_made (z := N.zero) N.len h.1
  exact ⟨ao, cap, e, hm, hb⟩
/-- What is handed back. -/
def ResL (w : World) (l : List N) (e : Ending) (w' : World) : Prop := ∃ ao cap, e = .returned (.slice ao l.length cap) ∧ MadeG 2 N.cells N.zero w.heap.size ao l w' ∧ Below w.heap.size w w'
theorem resL_own {w w' : World} {l : List N} {v : Value} (h : w'.ownsRow w.heap.size 74 2 v l.length (cellsAll N.cells l)) (hb : Below w.heap.size w w') : ResL w l (.returned v) w' := by
  obtain ⟨ao, cap, rfl, hm⟩ := own_made (z := N.zero) N.len h
  exact ⟨ao, cap, rfl, hm, hb⟩
theorem resL_nil {w w' : World} (hb : Below w.heap.size w w') (ao : Option Addr) (cap : Nat) : ResL w [] (.returned (.slice ao 0 cap)) w' := ⟨ao, cap, rfl, made_nil _ _ _, hb⟩
set_option maxRecDepth 100000 in
set_option maxHeartbeats 4000000 in
theorem sless0 (ab aoff cap0 : Nat) (a : List N) (bo : Option Addr) (capb : Nat) (b : List N) (w : World) (ha : SRight a) (hb : SRight b) (hA : Lis (some ⟨ab, aoff, none⟩) a w) (hI : Lis bo b w) :
    Calls Tryz.prog 44 #[.slice (some ⟨ab, aoff, none⟩) a.length cap0, .slice bo b.length capb] w fun e w' => ResL w (lessL a b) e w' := by
  have H1 := hid_intro (sadd ab aoff cap0 a bo capb b (-1) 1000000000000000 w (.inr rfl) (by have := hb.1; omega) (right_bd hb) (right_rise ha) (by have := ha.1; omega) (by omega) (right_bd ha) hA hI)
  have HLn : Hid ((all a b (-1)).length ≤ 12) := hid_intro (by have := all_len a b (-1); have := ha.1; have := hb.1; omega)
  have HT : Hid (lessL a b = clL (all a b (-1))) := rfl
  generalize lessL a b = T at *
  generalize all a b (-1) = L at *
  generalize a.length = al0 at *
  generalize b.length = bl0 at *
  clear hA hI ha hb
  go_enter Tryz.func44, Tryz.ntmps44
  go_wp2_with fail
  refine H1.out.mono ?_
  rintro e w1 ⟨v, rfl, hv, hb1⟩
  have HB1 := hid_intro hb1
  obtain ⟨g, cap, rfl, h1, h2, h3, h4, h5⟩ := hv.open
  have H2 := hid_intro (sclean (some ⟨g, 0, none⟩) cap L w1 (by have := HLn.out; omega) h5)
  clear hv h5 hb1
  generalize L.length = ll at *
  go_wp2_with fail
  refine H2.out.mono ?_
  rintro e w2 ⟨v2, rfl, hv2, hb2⟩
  have HB2 := hid_intro (HB1.out.trans (hb2.mono HB1.out.size))
  have HV2 := hid_intro (own_low hv2.1 HB1.out.size)
  clear hv2 hb2
  rw [← HT.out] at HV2
  generalize ovB L = rr at *
  go_wp2_with fail
  go_ret
  exact resL_own HV2.out HB2.out
end NetR
end Go.Proofs.YtlfebpgohpmknaaGreatDoor
namespace Go.Proofs.YtlfebpgohpmknaaGreatDoor
open Go.ChangeShapes Go.WideShapes Go.ChangeAt Go.RowKit
set_option linter.unusedVariables false
namespace LinR
open RowG
/-- What is left of a size. -/
def szF (L0 : Int) (es : List N) : Int := if (es.length : Int) + szL es ≤ L0 then L0 - (es.length : Int) - szL es else -1
theorem szL_memF {es : List N} {e : N} (h : e ∈ es) : (e.i.size : Int) ≤ szL es := by
  induction es with
  | nil => cases h
  | cons x es ih =>
    have hn := szL_nn es
    have hx : szL (x :: es) = (x.i.size : Int) + szL es := by simp [szL]
    rcases List.mem_cons.1 h with rfl | h
    · omega
    · have := ih h; omega
end LinR
namespace DocR
open LinR RowG
open CatR (Blk Blk.new)
open EvtR (Pt)
/-- A document. -/
structure D where
  a : ByteArray
  mo : Int
  sq : Int
  ls : List N
def dcells (x : D) (la : Option Addr) (lc : Nat) : Array Value := #[.string x.a, .int .i64 x.mo, .int .i64 x.sq, .slice la x.ls.length lc]
/-- The value is this document. -/
def IsD (v : Value) (x : D) (W : World) : Prop := ∃ la lc, v = .agg (dcells x la lc) ∧ Lis la x.ls W
theorem IsD.below {v : Value} {x : D} {w w' : World} (h : IsD v x w) (hb : Below w.heap.size w w') : IsD v x w' := by
  obtain ⟨la, lc, e, hL⟩ := h
  exact ⟨la, lc, e, hL.below hb⟩
/-- A document that came in. -/
def D.In (x : D) : Prop := x.a.size ≤ maxLen ∧ x.ls.length ≤ maxLen ∧ ∀ e ∈ x.ls, e.i.size ≤ maxLen
def dszR (L0 : Int) (x : D) : Int := if (x.a.size : Int) ≤ L0 then szF (L0 - (x.a.size : Int)) x.ls else -1
/-- Its texts and its list are short. -/
def D.Sm (x : D) : Prop := x.a.size ≤ 1048576 ∧ x.ls.length ≤ 1048576 ∧ ∀ e ∈ x.ls, e.i.size ≤ 1048576
theorem dsz_small {L0 : Int} {x : D} (hL : L0 ≤ 1048576) (h : ¬ dszR L0 x < 0) : x.Sm ∧ dszR L0 x ≤ L0 := by
  unfold dszR szF at *
  have hn := szL_nn x.ls
  by_cases q : (x.a.size : Int) ≤ L0
  · rw [if_pos q] at h ⊢
    by_cases q2 : (x.ls.length : Int) + szL x.ls ≤ L0 - (x.a.size : Int)
    · rw [if_pos q2]
      exact ⟨⟨by omega, by omega, fun e he => by have := szL_memF he; omega⟩, by omega⟩
    · rw [if_neg q2] at h; exact absurd (by omega) h
  · rw [if_neg q] at h; exact absurd (by omega) h
end DocR
end Go.Proofs.YtlfebpgohpmknaaGreatDoor
namespace Go.Proofs.YtlfebpgohpmknaaGreatDoor
open Go.ChangeShapes Go.WideShapes Go.ChangeAt Go.RowKit
set_option linter.unusedVariables false
namespace DocR
open LinR RowG LtR
open NameR (nameB)
open CatR (Blk Blk.new)
theorem inW (n low high : Int) (w : World) : Calls Tryz.prog 49 #[.int .i64 n, .int .i64 low, .int .i64 high] w fun e w' => e = .returned (.bool (decide (low ≤ n ∧ n ≤ high))) ∧ w' = w := by
  rcases (show (¬ low ≤ n) ∨ (low ≤ n ∧ ¬ n ≤ high) ∨ (low ≤ n ∧ n ≤ high) by omega) with h | ⟨h1, h2⟩ | ⟨h1, h2⟩
  all_goals
    go_enter Tryz.func49, Tryz.ntmps49
    go_wp2
    go_ret
    exact ⟨ret_bool (by first | (simp [*]; done) | (simp; omega)), rfl⟩
theorem isW (n low high : Int) (w : World) : Calls Tryz.prog 50 #[.int .i64 n, .int .i64 low, .int .i64 high] w fun e w' => e = .returned (.bool (decide (low ≤ n ∧ n ≤ high))) ∧ w' = w := by
  rcases (show (¬ low ≤ n) ∨ (low ≤ n ∧ ¬ n ≤ high) ∨ (low ≤ n ∧ n ≤ high) by omega) with h | ⟨h1, h2⟩ | ⟨h1, h2⟩
  all_goals
    go_enter Tryz.func50, Tryz.ntmps50
    go_wp2
    go_ret
    exact ⟨ret_bool (by first | (simp [*]; done) | (simp; omega)), rfl⟩
theorem iMon (n : Int) (w : World) : Calls Tryz.prog 31 #[.int .i64 n] w fun e w' => e = .returned (.bool (decide (0 ≤ n ∧ n ≤ 2760))) ∧ w' = w := by
  have H := inW n 0 2760
  generalize decide (0 ≤ n ∧ n ≤ 2760) = b at *
  go_enter Tryz.func31, Tryz.ntmps31
  go_wp2_with (go_at_call 49; refine (H _).mono ?_; rintro e w' ⟨rfl, rfl⟩)
  go_ret
  exact ⟨rfl, rfl⟩
theorem sMon (n : Int) (w : World) : Calls Tryz.prog 40 #[.int .i64 n] w fun e w' => e = .returned (.bool (decide (0 ≤ n ∧ n ≤ 2760))) ∧ w' = w := by
  have H := isW n 0 2760
  generalize decide (0 ≤ n ∧ n ≤ 2760) = b at *
  go_enter Tryz.func40, Tryz.ntmps40
  go_wp2_with (go_at_call 50; refine (H _).mono ?_; rintro e w' ⟨rfl, rfl⟩)
  go_ret
  exact ⟨rfl, rfl⟩
/-- Is this a right document? -/
def dB (x : D) : Bool := nameB x.a && (decide (0 ≤ x.mo ∧ x.mo ≤ 2760) && (decide (0 ≤ x.sq ∧ x.sq ≤ 1000000) && (sB x.ls && (decide (x.sq = 0) || decide (0 < x.ls.length)))))
theorem five (b1 b2 b3 b4 b5 b6 : Bool) : (b1 = false) ∨ (b1 = true ∧ b2 = false) ∨ (b1 = true ∧ b2 = true ∧ b3 = false) ∨ (b1 = true ∧ b2 = true ∧ b3 = true ∧ b4 = false) ∨ (b1 = true ∧ b2 = true ∧ b3 = true ∧ b4 = true ∧ b5 = true) ∨ (b1 = true ∧ b2 = true ∧ b3 = true ∧ b4 = true ∧ b5 = false ∧ b6 = true) ∨ (b1 = true ∧ b2 = true ∧ b3 = true ∧ b4 = true ∧ b5 = false ∧ b6 = false) := by
  cases b1 <;> cases b2 <;> cases b3 <;> cases b4 <;> cases b5 <;> cases b6 <;> simp
set_option maxRecDepth 100000 in
set_option maxHeartbeats 8000000 in
theorem iright_in (a : ByteArray) (mo sq : Int) (la : Option Addr) (ll lc : Nat) (b1 b2 b3 b4 b5 b6 : Bool) (w : World) (hll : ll ≤ 1048576)
    (h1 : ∀ W, Calls Tryz.prog 30 #[.string a] W fun e w' => e = .returned (.bool b1) ∧ w' = W)
    (h2 : ∀ W, Calls Tryz.prog 31 #[.int .i64 mo] W fun e w' => e = .returned (.bool b2) ∧ w' = W)
    (h3 : ∀ W, Calls Tryz.prog 49 #[.int .i64 sq, .int .i64 0, .int .i64 1000000] W fun e w' => e = .returned (.bool b3) ∧ w' = W)
    (h4 : ∀ W, Below w.heap.size w W → Calls Tryz.prog 32 #[.slice la ll lc] W fun e w' => e = .returned (.bool b4) ∧ Below W.heap.size W w') (h5 : b5 = decide (sq = 0)) (h6 : b6 = decide (0 < ll)) :
    Calls Tryz.prog 18 #[.agg #[.string a, .int .i64 mo, .int .i64 sq, .slice la ll lc]] w fun e w' => e = .returned (.bool (b1 && (b2 && (b3 && (b4 && (b5 || b6)))))) ∧ Below w.heap.size w w' := by
  have H1 := hid_intro h1
  have H2 := hid_intro h2
  have H3 := hid_intro h3
  have H4 := hid_intro h4
  clear h1 h2 h3 h4
  have HB0 : Hid (Below w.heap.size w (w.alloc (.cells #[.string a, .int .i64 mo, .int .i64 sq, .slice la ll lc] 28))) := hid_intro ((Below.refl _ _).alloc (Nat.le_refl _) _)
  have HX0 := hid_intro (Blk.new w [.string a, .int .i64 mo, .int .i64 sq, .slice la ll lc] 28)
  rcases five b1 b2 b3 b4 b5 b6 with rfl | ⟨rfl, rfl⟩ | ⟨rfl, rfl, rfl⟩ | ⟨rfl, rfl, rfl, rfl⟩ | ⟨rfl, rfl, rfl, rfl, rfl⟩ | ⟨rfl, rfl, rfl, rfl, rfl, rfl⟩ | ⟨rfl, rfl, rfl, rfl, rfl, rfl⟩
  · clear h5 h6
    go_enter Tryz.func18, Tryz.ntmps18
    go_wp2_with (go_at_call 30; refine (H1.out _).mono ?_; rintro e w1 ⟨rfl, rfl⟩)
    go_ret
    exact ⟨rfl, HB0.out⟩
  · clear h5 h6
    go_enter Tryz.func18, Tryz.ntmps18
    go_wp2_with (first | (go_at_call 30; refine (H1.out _).mono ?_; rintro e w1 ⟨rfl, rfl⟩) | (go_at_call 31; refine (H2.out _).mono ?_; rintro e w1 ⟨rfl, rfl⟩) | (go_at_call 49; refine (H3.out _).mono ?_; rintro e w1 ⟨rfl, rfl⟩))
    go_ret
    exact ⟨rfl, HB0.out⟩
  · clear h5 h6
    go_enter Tryz.func18, Tryz.ntmps18
    go_wp2_with (first | (go_at_call 30; refine (H1.out _).mono ?_; rintro e w1 ⟨rfl, rfl⟩) | (go_at_call 31; refine (H2.out _).mono ?_; rintro e w1 ⟨rfl, rfl⟩) | (go_at_call 49; refine (H3.out _).mono ?_; rintro e w1 ⟨rfl, rfl⟩))
    go_ret
    exact ⟨rfl, HB0.out⟩
  · clear h5 h6
    go_enter Tryz.func18, Tryz.ntmps18
    go_wp2_with (first | (go_at_call 30; refine (H1.out _).mono ?_; rintro e w1 ⟨rfl, rfl⟩) | (go_at_call 31; refine (H2.out _).mono ?_; rintro e w1 ⟨rfl, rfl⟩) | (go_at_call 49; refine (H3.out _).mono ?_; rintro e w1 ⟨rfl, rfl⟩))
    refine (H4.out _ HB0.out).mono ?_
    rintro e w2 ⟨rfl, hb2⟩
    have HB2 := hid_intro (HB0.out.trans (hb2.mono HB0.out.size))
    obtain ⟨xl, xc⟩ := HX0.out.below hb2
    have p2 : w2.cell? ⟨w.heap.size, 2, none⟩ = some (.int .i64 sq) := xc 2 (by simp)
    have p3 : w2.cell? ⟨w.heap.size, 3, none⟩ = some (.slice la ll lc) := xc 3 (by simp)
    clear xc hb2
    go_wp2_with fail
    go_ret
    exact ⟨rfl, HB2.out⟩
  · obtain rfl : sq = 0 := of_decide_eq_true h5.symm
    clear h5 h6
    go_enter Tryz.func18, Tryz.ntmps18
    go_wp2_with (first | (go_at_call 30; refine (H1.out _).mono ?_; rintro e w1 ⟨rfl, rfl⟩) | (go_at_call 31; refine (H2.out _).mono ?_; rintro e w1 ⟨rfl, rfl⟩) | (go_at_call 49; refine (H3.out _).mono ?_; rintro e w1 ⟨rfl, rfl⟩))
    refine (H4.out _ HB0.out).mono ?_
    rintro e w2 ⟨rfl, hb2⟩
    have HB2 := hid_intro (HB0.out.trans (hb2.mono HB0.out.size))
    obtain ⟨xl, xc⟩ := HX0.out.below hb2
    have p2 : w2.cell? ⟨w.heap.size, 2, none⟩ = some (.int .i64 0) := xc 2 (by simp)
    have p3 : w2.cell? ⟨w.heap.size, 3, none⟩ = some (.slice la ll lc) := xc 3 (by simp)
    clear xc hb2
    go_wp2_with fail
    go_ret
    exact ⟨rfl, HB2.out⟩
  · have q5 : ¬ sq = 0 := of_decide_eq_false h5.symm
    have q5' : (sq == 0) = false := by simpa using q5
    have HQ : Hid (decide (0 < ll) = true) := hid_intro h6.symm
    clear h5 h6
    go_enter Tryz.func18, Tryz.ntmps18
    go_wp2_with (first | (go_at_call 30; refine (H1.out _).mono ?_; rintro e w1 ⟨rfl, rfl⟩) | (go_at_call 31; refine (H2.out _).mono ?_; rintro e w1 ⟨rfl, rfl⟩) | (go_at_call 49; refine (H3.out _).mono ?_; rintro e w1 ⟨rfl, rfl⟩))
    refine (H4.out _ HB0.out).mono ?_
    rintro e w2 ⟨rfl, hb2⟩
    have HB2 := hid_intro (HB0.out.trans (hb2.mono HB0.out.size))
    obtain ⟨xl, xc⟩ := HX0.out.below hb2
    have p2 : w2.cell? ⟨w.heap.size, 2, none⟩ = some (.int .i64 sq) := xc 2 (by simp)
    have p3 : w2.cell? ⟨w.heap.size, 3, none⟩ = some (.slice la ll lc) := xc 3 (by simp)
    clear xc hb2
    go_wp2_with fail
    go_ret
    exact ⟨ret_bool HQ.out, HB2.out⟩
  · have q5 : ¬ sq = 0 := of_decide_eq_false h5.symm
    have q5' : (sq == 0) = false := by simpa using q5
    have HQ : Hid (decide (0 < ll) = false) := hid_intro h6.symm
    clear h5 h6
    go_enter Tryz.func18, Tryz.ntmps18
    go_wp2_with (first | (go_at_call 30; refine (H1.out _).mono ?_; rintro e w1 ⟨rfl, rfl⟩) | (go_at_call 31; refine (H2.out _).mono ?_; rintro e w1 ⟨rfl, rfl⟩) | (go_at_call 49; refine (H3.out _).mono ?_; rintro e w1 ⟨rfl, rfl⟩))
    refine (H4.out _ HB0.out).mono ?_
    rintro e w2 ⟨rfl, hb2⟩
    have HB2 := hid_intro (HB0.out.trans (hb2.mono HB0.out.size))
    obtain ⟨xl, xc⟩ := HX0.out.below hb2
    have p2 : w2.cell? ⟨w.heap.size, 2, none⟩ = some (.int .i64 sq) := xc 2 (by simp)
    have p3 : w2.cell? ⟨w.heap.size, 3, none⟩ = some (.slice la ll lc) := xc 3 (by simp)
    clear xc hb2
    go_wp2_with fail
    go_ret
    exact ⟨ret_bool HQ.out, HB2.out⟩
set_option maxRecDepth 100000 in
set_option maxHeartbeats 8000000 in
theorem sright_in (a : ByteArray) (mo sq : Int) (la : Option Addr) (ll lc : Nat) (b1 b2 b3 b4 b5 b6 : Bool) (w : World) (hll : ll ≤ 1048576)
    (h1 : ∀ W, Calls Tryz.prog 39 #[.string a] W fun e w' => e = .returned (.bool b1) ∧ w' = W)
    (h2 : ∀ W, Calls Tryz.prog 40 #[.int .i64 mo] W fun e w' => e = .returned (.bool b2) ∧ w' = W)
    (h3 : ∀ W, Calls Tryz.prog 50 #[.int .i64 sq, .int .i64 0, .int .i64 1000000] W fun e w' => e = .returned (.bool b3) ∧ w' = W)
    (h4 : ∀ W, Below w.heap.size w W → Calls Tryz.prog 22 #[.slice la ll lc] W fun e w' => e = .returned (.bool b4) ∧ Below W.heap.size W w') (h5 : b5 = decide (sq = 0)) (h6 : b6 = decide (0 < ll)) :
    Calls Tryz.prog 19 #[.agg #[.string a, .int .i64 mo, .int .i64 sq, .slice la ll lc]] w fun e w' => e = .returned (.bool (b1 && (b2 && (b3 && (b4 && (b5 || b6)))))) ∧ Below w.heap.size w w' := by
  have H1 := hid_intro h1
  have H2 := hid_intro h2
  have H3 := hid_intro h3
  have H4 := hid_intro h4
  clear h1 h2 h3 h4
  have HB0 : Hid (Below w.heap.size w (w.alloc (.cells #[.string a, .int .i64 mo, .int .i64 sq, .slice la ll lc] 28))) := hid_intro ((Below.refl _ _).alloc (Nat.le_refl _) _)
  have HX0 := hid_intro (Blk.new w [.string a, .int .i64 mo, .int .i64 sq, .slice la ll lc] 28)
  rcases five b1 b2 b3 b4 b5 b6 with rfl | ⟨rfl, rfl⟩ | ⟨rfl, rfl, rfl⟩ | ⟨rfl, rfl, rfl, rfl⟩ | ⟨rfl, rfl, rfl, rfl, rfl⟩ | ⟨rfl, rfl, rfl, rfl, rfl, rfl⟩ | ⟨rfl, rfl, rfl, rfl, rfl, rfl⟩
  · clear h5 h6
    go_enter Tryz.func19, Tryz.ntmps19
    go_wp2_with (go_at_call 39; refine (H1.out _).mono ?_; rintro e w1 ⟨rfl, rfl⟩)
    go_ret
    exact ⟨rfl, HB0.out⟩
  · clear h5 h6
    go_enter Tryz.func19, Tryz.ntmps19
    go_wp2_with (first | (go_at_call 39; refine (H1.out _).mono ?_; rintro e w1 ⟨rfl, rfl⟩) | (go_at_call 40; refine (H2.out _).mono ?_; rintro e w1 ⟨rfl, rfl⟩) | (go_at_call 50; refine (H3.out _).mono ?_; rintro e w1 ⟨rfl, rfl⟩))
    go_ret
    exact ⟨rfl, HB0.out⟩
  · clear h5 h6
    go_enter Tryz.func19, Tryz.ntmps19
    go_wp2_with (first | (go_at_call 39; refine (H1.out _).mono ?_; rintro e w1 ⟨rfl, rfl⟩) | (go_at_call 40; refine (H2.out _).mono ?_; rintro e w1 ⟨rfl, rfl⟩) | (go_at_call 50; refine (H3.out _).mono ?_; rintro e w1 ⟨rfl, rfl⟩))
    go_ret
    exact ⟨rfl, HB0.out⟩
  · clear h5 h6
    go_enter Tryz.func19, Tryz.ntmps19
    go_wp2_with (first | (go_at_call 39; refine (H1.out _).mono ?_; rintro e w1 ⟨rfl, rfl⟩) | (go_at_call 40; refine (H2.out _).mono ?_; rintro e w1 ⟨rfl, rfl⟩) | (go_at_call 50; refine (H3.out _).mono ?_; rintro e w1 ⟨rfl, rfl⟩))
    refine (H4.out _ HB0.out).mono ?_
    rintro e w2 ⟨rfl, hb2⟩
    have HB2 := hid_intro (HB0.out.trans (hb2.mono HB0.out.size))
    obtain ⟨xl, xc⟩ := HX0.out.below hb2
    have p2 : w2.cell? ⟨w.heap.size, 2, none⟩ = some (.int .i64 sq) := xc 2 (by simp)
    have p3 : w2.cell? ⟨w.heap.size, 3, none⟩ = some (.slice la ll lc) := xc 3 (by simp)
    clear xc hb2
    go_wp2_with fail
    go_ret
    exact ⟨rfl, HB2.out⟩
  · obtain rfl : sq = 0 := of_decide_eq_true h5.symm
    clear h5 h6
    go_enter Tryz.func19, Tryz.ntmps19
    go_wp2_with (first | (go_at_call 39; refine (H1.out _).mono ?_; rintro e w1 ⟨rfl, rfl⟩) | (go_at_call 40; refine (H2.out _).mono ?_; rintro e w1 ⟨rfl, rfl⟩) | (go_at_call 50; refine (H3.out _).mono ?_; rintro e w1 ⟨rfl, rfl⟩))
    refine (H4.out _ HB0.out).mono ?_
    rintro e w2 ⟨rfl, hb2⟩
    have HB2 := hid_intro (HB0.out.trans (hb2.mono HB0.out.size))
    obtain ⟨xl, xc⟩ := HX0.out.below hb2
    have p2 : w2.cell? ⟨w.heap.size, 2, none⟩ = some (.int .i64 0) := xc 2 (by simp)
    have p3 : w2.cell? ⟨w.heap.size, 3, none⟩ = some (.slice la ll lc) := xc 3 (by simp)
    clear xc hb2
    go_wp2_with fail
    go_ret
    exact ⟨rfl, HB2.out⟩
  · have q5 : ¬ sq = 0 := of_decide_eq_false h5.symm
    have q5' : (sq == 0) = false := by simpa using q5
    have HQ : Hid (decide (0 < ll) = true) := hid_intro h6.symm
    clear h5 h6
    go_enter Tryz.func19, Tryz.ntmps19
    go_wp2_with (first | (go_at_call 39; refine (H1.out _).mono ?_; rintro e w1 ⟨rfl, rfl⟩) | (go_at_call 40; refine (H2.out _).mono ?_; rintro e w1 ⟨rfl, rfl⟩) | (go_at_call 50; refine (H3.out _).mono ?_; rintro e w1 ⟨rfl, rfl⟩))
    refine (H4.out _ HB0.out).mono ?_
    rintro e w2 ⟨rfl, hb2⟩
    have HB2 := hid_intro (HB0.out.trans (hb2.mono HB0.out.size))
    obtain ⟨xl, xc⟩ := HX0.out.below hb2
    have p2 : w2.cell? ⟨w.heap.size, 2, none⟩ = some (.int .i64 sq) := xc 2 (by simp)
    have p3 : w2.cell? ⟨w.heap.size, 3, none⟩ = some (.slice la ll lc) := xc 3 (by simp)
    clear xc hb2
    go_wp2_with fail
    go_ret
    exact ⟨ret_bool HQ.out, HB2.out⟩
  · have q5 : ¬ sq = 0 := of_decide_eq_false h5.symm
    have q5' : (sq == 0) = false := by simpa using q5
    have HQ : Hid (decide (0 < ll) = false) := hid_intro h6.symm
    clear h5 h6
    go_enter Tryz.func19, Tryz.ntmps19
    go_wp2_with (first | (go_at_call 39; refine (H1.out _).mono ?_; rintro e w1 ⟨rfl, rfl⟩) | (go_at_call 40; refine (H2.out _).mono ?_; rintro e w1 ⟨rfl, rfl⟩) | (go_at_call 50; refine (H3.out _).mono ?_; rintro e w1 ⟨rfl, rfl⟩))
    refine (H4.out _ HB0.out).mono ?_
    rintro e w2 ⟨rfl, hb2⟩
    have HB2 := hid_intro (HB0.out.trans (hb2.mono HB0.out.size))
    obtain ⟨xl, xc⟩ := HX0.out.below hb2
    have p2 : w2.cell? ⟨w.heap.size, 2, none⟩ = some (.int .i64 sq) := xc 2 (by simp)
    have p3 : w2.cell? ⟨w.heap.size, 3, none⟩ = some (.slice la ll lc) := xc 3 (by simp)
    clear xc hb2
    go_wp2_with fail
    go_ret
    exact ⟨ret_bool HQ.out, HB2.out⟩
theorem impl_doc (x : D) (la : Option Addr) (lc : Nat) (w : World) (h : x.Sm) (hL : Lis la x.ls w) : Calls Tryz.prog 18 #[.agg (dcells x la lc)] w fun e w' => e = .returned (.bool (dB x)) ∧ Below w.heap.size w w' :=
  iright_in x.a x.mo x.sq la x.ls.length lc _ _ _ _ _ _ w h.2.1 (fun W => NameR.impl_any x.a W h.1) (fun W => iMon x.mo W) (fun W => inW x.sq 0 1000000 W) (fun W hW => impl_lines la lc x.ls W h.2.1 h.2.2 (hL.below hW)) rfl rfl
theorem spec_doc (x : D) (la : Option Addr) (lc : Nat) (w : World) (h : x.Sm) (hL : Lis la x.ls w) : Calls Tryz.prog 19 #[.agg (dcells x la lc)] w fun e w' => e = .returned (.bool (dB x)) ∧ Below w.heap.size w w' :=
  sright_in x.a x.mo x.sq la x.ls.length lc _ _ _ _ _ _ w h.2.1 (fun W => NameR.spec_any x.a W h.1) (fun W => sMon x.mo W) (fun W => isW x.sq 0 1000000 W) (fun W hW => spec_lines la lc x.ls W h.2.1 h.2.2 (hL.below hW)) rfl rfl
end DocR
end Go.Proofs.YtlfebpgohpmknaaGreatDoor
namespace Go.Proofs.YtlfebpgohpmknaaGreatDoor
open Go.ChangeShapes Go.WideShapes Go.ChangeAt Go.RowKit
set_option linter.unusedVariables false
namespace LedR
open LinR RowG LtR NetR DocR
/-- Is it of this account and month? -/
def of (a : ByteArray) (m : Int) (d : D) : Bool := d.a.toList == a.toList && d.mo == m
theorem of_iff {a : ByteArray} {m : Int} {d : D} : of a m d = true ↔ d.a = a ∧ d.mo = m := by
  unfold of
  simp only [Bool.and_eq_true, beq_iff_eq]
  exact ⟨fun h => ⟨toList_inj h.1, h.2⟩, fun h => ⟨by rw [h.1], h.2⟩⟩
theorem of_self (d : D) : of d.a d.mo d = true := of_iff.2 ⟨rfl, rfl⟩
def D.zero : D := ⟨⟨#[]⟩, 0, 0, []⟩
/-- How many there are of it, and what they come to. -/
def cnt (ds : List D) (a : ByteArray) (m : Int) : Nat := (ds.filter (of a m)).length
def net (ds : List D) (a : ByteArray) (m : Int) : List N := ds.foldl (fun L d => bif of a m d then all L d.ls 1 else L) []
theorem tk_more (ds : List D) (k : Nat) (h : k < ds.length) : ds.take (k + 1) = ds.take k ++ [ds.getD k D.zero] := take_more (z := D.zero) ds k h
theorem cnt_more (ds : List D) (k : Nat) (h : k < ds.length) (a : ByteArray) (m : Int) : cnt (ds.take (k + 1)) a m = cnt (ds.take k) a m + (bif of a m (ds.getD k D.zero) then 1 else 0) := by
  unfold cnt
  rw [tk_more ds k h, List.filter_append]
  generalize ds.getD k D.zero = X
  cases hx : of a m X <;> simp [hx]
theorem net_more (ds : List D) (k : Nat) (h : k < ds.length) (a : ByteArray) (m : Int) : net (ds.take (k + 1)) a m = bif of a m (ds.getD k D.zero) then all (net (ds.take k) a m) (ds.getD k D.zero).ls 1 else net (ds.take k) a m := by
  unfold net
  rw [tk_more ds k h, List.foldl_append]
  rfl
theorem cnt_le (ds : List D) (a : ByteArray) (m : Int) : cnt ds a m ≤ ds.length := List.length_filter_le _ _
theorem net_zero : ∀ {ds : List D} {a : ByteArray} {m : Int}, cnt ds a m = 0 → net ds a m = [] := by
  intro ds a m h
  unfold cnt at h
  unfold net
  have hf : ∀ d ∈ ds, of a m d = false := by
    intro d hd
    cases hx : of a m d
    · rfl
    · have : d ∈ ds.filter (of a m) := List.mem_filter.2 ⟨hd, hx⟩
      rw [List.length_eq_zero_iff.1 h] at this
      cases this
  clear h
  generalize ([] : List N) = L
  induction ds generalizing L with
  | nil => rfl
  | cons d ds ih =>
    rw [List.foldl_cons, hf d (by simp), cond_false]
    exact ih (fun d hd => hf d (by simp [hd])) L
/-- So many documents are right, and count up. -/
def SOk (ds : List D) (k : Nat) : Prop := ∀ i, i < k → dB (ds.getD i D.zero) = true ∧ (ds.getD i D.zero).sq = cnt (ds.take i) (ds.getD i D.zero).a (ds.getD i D.zero).mo
def NOk (ds : List D) (k : Nat) : Prop := ∀ i, i < k → ovB (net ds (ds.getD i D.zero).a (ds.getD i D.zero).mo) = true
def LRight (ds : List D) : Prop := ds.length ≤ 30 ∧ SOk ds ds.length ∧ NOk ds ds.length
def SOkDec (ds : List D) (k : Nat) : Decidable (SOk ds k) := inferInstanceAs (Decidable (∀ i, i < k → dB (ds.getD i D.zero) = true ∧ (ds.getD i D.zero).sq = cnt (ds.take i) (ds.getD i D.zero).a (ds.getD i D.zero).mo))
def NOkDec (ds : List D) (k : Nat) : Decidable (NOk ds k) := inferInstanceAs (Decidable (∀ i, i < k → ovB (net ds (ds.getD i D.zero).a (ds.getD i D.zero).mo) = true))
def LRightDec (ds : List D) : Decidable (LRight ds) :=
  haveI := SOkDec ds ds.length
  haveI := NOkDec ds ds.length
  inferInstanceAs (Decidable (ds.length ≤ 30 ∧ SOk ds ds.length ∧ NOk ds ds.length))
def lB (ds : List D) : Bool := @decide (LRight ds) (LRightDec ds)
theorem lB_no {ds : List D} (h : ¬ LRight ds) : lB ds = false := by unfold lB; exact @decide_eq_false _ (LRightDec ds) h
theorem lB_yes {ds : List D} (h : LRight ds) : lB ds = true := by unfold lB; exact @decide_eq_true _ (LRightDec ds) h
theorem lB_iff {ds : List D} : lB ds = true ↔ LRight ds := by unfold lB; exact @decide_eq_true_iff _ (LRightDec ds)
theorem SOk.zero (ds : List D) : SOk ds 0 := fun i h => absurd h (by omega)
theorem SOk.more {ds : List D} {k : Nat} (h : SOk ds k) (h1 : dB (ds.getD k D.zero) = true) (h2 : (ds.getD k D.zero).sq = cnt (ds.take k) (ds.getD k D.zero).a (ds.getD k D.zero).mo) : SOk ds (k + 1) := by
  intro i hi
  by_cases e : i = k
  · subst e; exact ⟨h1, h2⟩
  · exact h i (by omega)
theorem dB_lines {x : D} (h : dB x = true) : SRight x.ls := by
  unfold dB at h
  simp only [Bool.and_eq_true] at h
  exact sB_iff.1 h.2.2.2.1
theorem mem_cnt {ds : List D} {a : ByteArray} {m : Int} (h : cnt ds a m ≠ 0) : ∃ i, i < ds.length ∧ (ds.getD i D.zero).a = a ∧ (ds.getD i D.zero).mo = m := by
  unfold cnt at h
  have : ds.filter (of a m) ≠ [] := fun e => h (by rw [e]; rfl)
  obtain ⟨d, hd⟩ := List.exists_mem_of_ne_nil _ this
  obtain ⟨h1, h2⟩ := List.mem_filter.1 hd
  obtain ⟨i, hi, rfl⟩ := List.getElem_of_mem h1
  refine ⟨i, hi, ?_⟩
  have e2 : ds.getD i D.zero = ds[i] := by simp [List.getD, hi]
  rw [e2]
  exact of_iff.1 h2
theorem cnt_mem {ds : List D} {i : Nat} (hi : i < ds.length) : cnt ds (ds.getD i D.zero).a (ds.getD i D.zero).mo ≠ 0 := by
  unfold cnt
  have e2 : ds.getD i D.zero ∈ ds := getD_mem (z := D.zero) ds i hi
  have : ds.getD i D.zero ∈ ds.filter (of (ds.getD i D.zero).a (ds.getD i D.zero).mo) := List.mem_filter.2 ⟨e2, of_self _⟩
  intro h
  rw [List.length_eq_zero_iff.1 h] at this
  cases this
/-- All of so many right documents: the nets rise, are small, and far from running over. -/
theorem net_facts {ds : List D} : ∀ k, k ≤ ds.length → SOk ds k → ∀ a m, Rise (net (ds.take k) a m) ∧ (net (ds.take k) a m).length ≤ 6 * k ∧ (∀ y ∈ net (ds.take k) a m, -(6000000000000000 * (k : Int)) ≤ y.n ∧ y.n ≤ 6000000000000000 * (k : Int))
  | 0, _, _, a, m => by simp [net, Rise]
  | k + 1, hk, h, a, m => by
    obtain ⟨i1, i2, i3⟩ := net_facts k (by omega) (fun i hi => h i (by omega)) a m
    rw [net_more ds k (by omega)]
    have hr := dB_lines (h k (by omega)).1
    generalize ds.getD k D.zero = X at *
    cases of a m X
    · rw [cond_false]
      exact ⟨i1, by omega, fun y hy => by have := i3 y hy; omega⟩
    · rw [cond_true]
      refine ⟨rise_all _ _ i1, by have := all_len (net (ds.take k) a m) X.ls 1; have := hr.1; omega, ?_⟩
      have key : ∀ (b : List N) (L : List N) (B : Int), 0 ≤ B → (∀ y ∈ L, -B ≤ y.n ∧ y.n ≤ B) → (∀ e ∈ b, -1000000000000000 ≤ e.n ∧ e.n ≤ 1000000000000000) → ∀ y ∈ all L b 1, -(B + 1000000000000000 * (b.length : Int)) ≤ y.n ∧ y.n ≤ B + 1000000000000000 * (b.length : Int) := by
        intro b
        induction b with
        | nil => intro L B hB hL _ y hy; have := hL y hy; simp; omega
        | cons e b ih =>
          intro L B hB hL hb y hy
          have h1 := hb e (by simp)
          have h2 := ih (NetR.put L (sg 1 e)) (B + 1000000000000000) (by omega) (put_bd hB hL (by omega) (by simp only [sg]; omega)) (fun e he => hb e (by simp [he])) y hy
          simp only [List.length_cons]
          omega
      intro y hy
      have h1 := key X.ls _ (6000000000000000 * (k : Int)) (by omega) i3 (right_bd hr) y hy
      have h2 := hr.1
      omega
end LedR
end Go.Proofs.YtlfebpgohpmknaaGreatDoor
namespace Go.Proofs.YtlfebpgohpmknaaGreatDoor
open Go.ChangeShapes Go.WideShapes Go.ChangeAt Go.RowKit
set_option linter.unusedVariables false
namespace LedR
open LinR RowG LtR NetR DocR
theorem laidOut : laidOutB Tryz.prog = true := by kernel_rfl
theorem k1 : (61 : TypeId) < Tryz.prog.types.size := of_decide_eq_true (by kernel_rfl)
theorem k2 : Tryz.prog.keyTypeAt 2 61 = true := by kernel_rfl
theorem ten : 2 + 1 ≤ 10000 := by omega
theorem lawP : WideMaps.KeyLaw Tryz.prog 61 := by
  have h := @deep_law_laid Tryz.prog laidOut 2 ten 61 k1 k2
  refine h ?_
  rw [Tryz.underlying61]
theorem keyedP : Maps.Keyed Tryz.prog 61 := Maps.Keyed.of_law lawP
theorem hkt : Tryz.prog.keyType 61 = true := by kernel_rfl
theorem hc : Tryz.prog.cellsOf 61 = 2 := by kernel_rfl
theorem hcs : Tryz.prog.cellsOf 9 = 1 := by kernel_rfl
theorem hci : Tryz.prog.cellsOf 2 = 1 := by kernel_rfl
theorem tsz : 1 ≤ Tryz.prog.types.size := of_decide_eq_true (by kernel_rfl)
/-- A period as a key. -/
def kP (a : ByteArray) (m : Int) : Lit := .string (keyBytes [.string a.data.toList, .int .i64 m])
/-- It may be one. -/
def Good (a : ByteArray) (m : Int) : Prop := a.size ≤ 1048576 ∧ (Lit.int .i64 m).wf = true
theorem keyP_gen {P : Program} {k : TypeId} {f0 f1 : Field} (hu : P.underlying k = some (.struct #[f0, f1])) (u0 : P.underlying f0.type = some .string) (u1 : P.underlying f1.type = some (.int .i64)) (hc : P.cellsOf k = 2) (c0 : P.cellsOf f0.type = 1) (c1 : P.cellsOf f1.type = 1) (o0 : f0.offset = 0) (o1 : f1.offset = 1) (n0 : (f0.name != "_") = true) (n1 : (f1.name != "_") = true) (hkt : P.keyType k = true) (hn : 1 ≤ P.types.size)
    {a : ByteArray} {m : Int} (hs : a.size ≤ maxLen) (hm : (Lit.int .i64 m).wf = true) : keyOf P k (.agg #[.string a, .int .i64 m]) = some (kP a m) := by
  have hf : (Value.agg #[.string a, .int .i64 m]).formed P k = true := by simp [Value.formed, hu, hc]
  obtain ⟨n, hn⟩ : ∃ n, P.types.size = n + 1 := ⟨P.types.size - 1, by omega⟩
  have e : P.keyLits (P.types.size + 1) k [.string a, .int .i64 m] = some [.string a.data.toList, .int .i64 m] := by
    rw [hn]
    simp [Program.keyLits, hu, u0, u1, hs, hm, hc, n0, n1, o0, o1, c0, c1]
  unfold keyOf
  rw [hu]
  simp [hkt, hf, Value.cells, e, kP]
theorem keyP {a : ByteArray} {m : Int} (h : Good a m) : keyOf Tryz.prog 61 (.agg #[.string a, .int .i64 m]) = some (kP a m) :=
  keyP_gen Tryz.underlying61 Tryz.underlying9 Tryz.underlying2 hc hcs hci rfl rfl rfl rfl hkt tsz (Nat.le_trans h.1 (by unfold maxLen; omega)) h.2
theorem kP_inj {a a' : ByteArray} {m m' : Int} (h : Good a m) (h' : Good a' m') (e : kP a m = kP a' m') : a = a' ∧ m = m' := by
  have := keyedP.inj (keyP h) (by rw [e]; exact keyP h')
  simpa using this
theorem kP_key (a : ByteArray) (m : Int) : WideAt.IsKeyLit (kP a m) := by
  unfold kP
  first | trivial | exact rfl | (simp [WideAt.IsKeyLit])
def RV (v : Value) : Option (DataW Value × List MemPlace) := some (.held v, [])
theorem zeroR (w : World) : (zeroValue 67).run Tryz.prog w = .ok (.agg #[.int .i64 0, .map none]) w := by kernel_rfl
/-- A list of documents. -/
def Dcs (ao : Option Addr) (ds : List D) (w : World) : Prop := ds.length = 0 ∨ ∃ b off, ao = some ⟨b, off, none⟩ ∧ b < w.heap.size ∧ ∀ j, j < ds.length → ∃ la lc, w.cell? ⟨b, off + j * 4, none⟩ = some (.string (ds.getD j D.zero).a) ∧ w.cell? ⟨b, off + j * 4 + 1, none⟩ = some (.int .i64 (ds.getD j D.zero).mo) ∧ w.cell? ⟨b, off + j * 4 + 2, none⟩ = some (.int .i64 (ds.getD j D.zero).sq) ∧ w.cell? ⟨b, off + j * 4 + 3, none⟩ = some (.slice la (ds.getD j D.zero).ls.length lc) ∧ Lis la (ds.getD j D.zero).ls w
theorem Dcs.below {ao : Option Addr} {ds : List D} {w w' : World} (h : Dcs ao ds w) (hb : Below w.heap.size w w') : Dcs ao ds w' := by
  rcases h with h0 | ⟨b, off, rfl, hl, h⟩
  · exact .inl h0
  · refine .inr ⟨b, off, rfl, by have := hb.size; omega, fun j hj => ?_⟩
    obtain ⟨la, lc, c0, c1, c2, c3, hL⟩ := h j hj
    have f := fun x => hb.cell (p := ⟨b, x, none⟩) hl
    exact ⟨la, lc, (f _).trans c0, (f _).trans c1, (f _).trans c2, (f _).trans c3, hL.below hb⟩
theorem Dcs.at {ao : Option Addr} {ds : List D} {w : World} (h : Dcs ao ds w) (j : Nat) (hj : j < ds.length) : ∃ b off la lc, ao = some ⟨b, off, none⟩ ∧ b < w.heap.size ∧ w.cell? ⟨b, off + j * 4, none⟩ = some (.string (ds.getD j D.zero).a) ∧ w.cell? ⟨b, off + j * 4 + 1, none⟩ = some (.int .i64 (ds.getD j D.zero).mo) ∧ w.cell? ⟨b, off + j * 4 + 2, none⟩ = some (.int .i64 (ds.getD j D.zero).sq) ∧ w.cell? ⟨b, off + j * 4 + 3, none⟩ = some (.slice la (ds.getD j D.zero).ls.length lc) ∧ Lis la (ds.getD j D.zero).ls w := by
  rcases h with h0 | ⟨b, off, rfl, hl, h⟩
  · omega
  · obtain ⟨la, lc, r⟩ := h j hj
    exact ⟨b, off, la, lc, rfl, hl, r⟩
/-- The program's rows: each period's count and nets. -/
def RowsM (rb M : Nat) (ds : List D) (W : World) : Prop := ∃ (Dm : DataW Value) (f : ByteArray → Int → Nat), W.ownsMap Tryz.prog 61 RV rb M Dm ∧
  (∀ kl, Maps.has Dm kl = true → ∃ a m, Good a m ∧ kl = kP a m ∧ cnt ds a m ≠ 0) ∧
  (∀ a m, cnt ds a m ≠ 0 → Good a m ∧ (∀ z, Dm.atKey (kP a m) z = .held (.agg #[.int .i64 (cnt ds a m : Nat), .map (some (f a m))])) ∧ rb < f a m ∧ f a m < W.heap.size ∧ ∃ Dn M', M' ≤ 6 * ds.length ∧ W.ownsMap Tryz.prog 9 (plainElem (H := Value) Tryz.prog 2) (f a m) M' Dn ∧ NetM Dn (net ds a m)) ∧
  (∀ a m a' m', cnt ds a m ≠ 0 → cnt ds a' m' ≠ 0 → f a m = f a' m' → a = a' ∧ m = m')
theorem rows_nil (w : World) : RowsM w.heap.size 0 [] (w.alloc (.map #[] 0)) :=
  ⟨.map [], fun _ _ => 0, World.ownsMap_made w _ _ _, fun kl h => by rw [Maps.has_eq] at h; simp at h, fun a m h => absurd rfl h, fun a m _ _ h => absurd rfl h⟩
theorem RowsM.kept {rb M : Nat} {ds : List D} {W W' : World} (h : RowsM rb M ds W) (hb : Below W.heap.size W W') : RowsM rb M ds W' := by
  obtain ⟨Dm, f, h1, h2, h3, h4⟩ := h
  refine ⟨Dm, f, omap_below h1 hb, h2, fun a m hc => ?_, h4⟩
  obtain ⟨g, p1, p2, p3, Dn, M', p4, p5, p6⟩ := h3 a m hc
  exact ⟨g, p1, p2, by have := hb.size; omega, Dn, M', p4, omap_below p5 hb, p6⟩
end LedR
end Go.Proofs.YtlfebpgohpmknaaGreatDoor
namespace Go.Proofs.YtlfebpgohpmknaaGreatDoor
open Go.ChangeShapes Go.WideShapes Go.ChangeAt Go.RowKit
set_option linter.unusedVariables false
namespace LedR
open LinR RowG LtR NetR DocR
theorem of_cases (a : ByteArray) (m : Int) (x : D) : ((x.a.toList == a.toList) = false ∧ of a m x = false) ∨ ((x.a.toList == a.toList) = true ∧ (x.mo == m) = false ∧ of a m x = false) ∨ ((x.a.toList == a.toList) = true ∧ (x.mo == m) = true ∧ of a m x = true) := by
  unfold of
  cases (x.a.toList == a.toList) <;> cases (x.mo == m) <;> simp
set_option maxRecDepth 100000 in
set_option maxHeartbeats 4000000 in
theorem scount (ao : Option Addr) (cap : Nat) (ds : List D) (n : Nat) (a : ByteArray) (m : Int) (w : World) (hn : n ≤ ds.length) (hlen : ds.length ≤ 1048576) (hI : Dcs ao ds w) :
    Calls Tryz.prog 51 #[.slice ao ds.length cap, .int .i64 n, .string a, .int .i64 m] w fun e w' => e = .returned (.int .i64 (cnt (ds.take n) a m : Nat)) ∧ Below w.heap.size w w' := by
  have HI := hid_intro hI
  have HN := hid_intro hn
  obtain ⟨len, hl⟩ : ∃ len, len = ds.length := ⟨_, rfl⟩
  rw [← hl] at hlen hn ⊢
  have HL := hid_intro hl
  have HCL : Hid (∀ k, cnt (ds.take k) a m ≤ 1048576) := hid_intro (fun k => by have h1 := cnt_le (ds.take k) a m; have h2 := (List.take_sublist k ds).length_le; omega)
  clear hI hl
  go_enter Tryz.func51, Tryz.ntmps51
  go_wp2_with fail
  go_loopw [9, 10] (fun c z wr => ∃ k : Nat, k ≤ n ∧ z = .int .i64 k ∧ c = .int .i64 (cnt (ds.take k) a m : Nat) ∧ Hid (Below w.heap.size w wr)) (fun c z _ => n - (intOf z).toNat)
  case atStart => exact ⟨0, by omega, rfl, rfl, hid_intro (Below.refl _ _)⟩
  case round =>
    obtain ⟨k, hk, rfl, rfl, HB⟩ := hrel
    have hcl := HCL.out k
    by_cases hlt : k < n
    · have hlt2 : (k : Int) < (n : Int) := by omega
      have hkl2 : (k : Int) < (len : Int) := by omega
      have hkl : k < ds.length := by have := HL.out; omega
      obtain ⟨b, off, la, lc, rfl, hbl, c0, c1, c2, c3, _⟩ := (HI.out.below HB.out).at k hkl
      have HC := hid_intro (cnt_more ds k hkl a m)
      have HO := hid_intro (of_cases a m (ds.getD k D.zero))
      generalize ds.getD k D.zero = X at *
      obtain ⟨xa, xm, xs, xl⟩ := X
      dsimp only at c0 c1
      rcases HO.out with ⟨q1, q2⟩ | ⟨q1, q3, q2⟩ | ⟨q1, q3, q2⟩
      · dsimp only at q1
        rw [q2, cond_false, Nat.add_zero] at HC
        go_wp2_with fail
        go_roundw
        case rel => exact ⟨k + 1, by omega, by go_num, by rw [HC.out]; rfl, HB⟩
        case measure => simp [intOf]; omega
      · dsimp only at q1 q3
        rw [q2, cond_false, Nat.add_zero] at HC
        go_wp2_with fail
        go_roundw
        case rel => exact ⟨k + 1, by omega, by go_num, by rw [HC.out]; rfl, HB⟩
        case measure => simp [intOf]; omega
      · dsimp only at q1 q3
        rw [q2, cond_true] at HC
        generalize cnt (ds.take k) a m = C at *
        go_wp2_with fail
        go_roundw
        case rel => exact ⟨k + 1, by omega, by go_num, by rw [HC.out]; go_num, HB⟩
        case measure => simp [intOf]; omega
    · have hlt2 : ¬ (k : Int) < (n : Int) := by omega
      obtain rfl : k = n := by omega
      go_wp2_with fail
      go_ret
      exact ⟨rfl, HB.out⟩
set_option maxRecDepth 100000 in
set_option maxHeartbeats 4000000 in
theorem ssum (ao : Option Addr) (cap : Nat) (ds : List D) (a : ByteArray) (m : Int) (w : World) (hlen : ds.length ≤ 30) (hS : SOk ds ds.length) (hI : Dcs ao ds w) :
    Calls Tryz.prog 53 #[.slice ao ds.length cap, .string a, .int .i64 m] w fun e w' => ∃ v, e = .returned v ∧ OwnN w' w.heap.size v (net ds a m) ∧ Below w.heap.size w w' := by
  have HI := hid_intro hI
  have HS := hid_intro hS
  obtain ⟨len, hl⟩ : ∃ len, len = ds.length := ⟨_, rfl⟩
  have HEND : Hid (net (ds.take len) a m = net ds a m) := hid_intro (by rw [hl, List.take_length])
  rw [← hl] at hlen ⊢
  have HL := hid_intro hl
  have HE := hid_intro (own_empty w w.heap.size 74 2 (Nat.le_refl _))
  clear hI hl hS
  go_enter Tryz.func53, Tryz.ntmps53
  go_wp2_with fail
  go_loopw [7, 8] (fun v z wr => ∃ k : Nat, k ≤ len ∧ z = .int .i64 k ∧ Hid (OwnN wr w.heap.size v (net (ds.take k) a m)) ∧ Hid (Below w.heap.size w wr)) (fun v z _ => len - (intOf z).toNat)
  case atStart => exact ⟨0, by omega, rfl, hid_intro ⟨HE.out, fun e => by cases e⟩, hid_intro (al _ _)⟩
  case round =>
    obtain ⟨k, hk, rfl, HV, HB⟩ := hrel
    by_cases hlt : k < len
    · have hlt2 : (k : Int) < (len : Int) := by omega
      have hkl : k < ds.length := by have := HL.out; omega
      obtain ⟨b, off, la, lc, rfl, hbl, c0, c1, c2, c3, hLi⟩ := (HI.out.below HB.out).at k hkl
      have HLi := hid_intro hLi
      have HNM := hid_intro (net_more ds k hkl a m)
      have HNF := hid_intro (net_facts (ds := ds) k (by omega) (fun i hi => HS.out i (by omega)) a m)
      have HRG := hid_intro (dB_lines (HS.out k hkl).1)
      have HO := hid_intro (of_cases a m (ds.getD k D.zero))
      clear hLi
      generalize ds.getD k D.zero = X at *
      obtain ⟨xa, xm, xs, xl⟩ := X
      dsimp only at c0 c1 c3
      rcases HO.out with ⟨q1, q2⟩ | ⟨q1, q3, q2⟩ | ⟨q1, q3, q2⟩
      · dsimp only at q1
        rw [q2, cond_false] at HNM
        go_wp2_with fail
        go_roundw
        case rel => exact ⟨k + 1, by omega, by go_num, hid_intro (by rw [HNM.out]; exact HV.out), HB⟩
        case measure => simp [intOf]; omega
      · dsimp only at q1 q3
        rw [q2, cond_false] at HNM
        go_wp2_with fail
        go_roundw
        case rel => exact ⟨k + 1, by omega, by go_num, hid_intro (by rw [HNM.out]; exact HV.out), HB⟩
        case measure => simp [intOf]; omega
      · dsimp only at q1 q3
        rw [q2, cond_true] at HNM
        obtain ⟨g, cp, rfl, g1, g2, g3, g4, g5⟩ := HV.out.open
        have h6 : xl.length ≤ 6 := HRG.out.1
        have HAD := hid_intro (sadd g 0 cp (net (ds.take k) a m) la lc xl 1 (6000000000000000 * (k : Int)) wr (.inl rfl) (by omega) (right_bd HRG.out) HNF.out.1 (by have := HNF.out.2.1; omega) (by omega) HNF.out.2.2 g5 HLi.out)
        generalize net (ds.take k) a m = NL at *
        generalize xl.length = ll at *
        generalize NL.length = nl at *
        clear g5
        go_wp2_with fail
        refine HAD.out.mono ?_
        rintro e w2 ⟨v, rfl, hv, hb⟩
        have HV2 : Hid (OwnN w2 w.heap.size v (all NL xl 1)) := hid_intro ⟨own_low hv.1 HB.out.size, hv.2⟩
        have HB2 := hid_intro (HB.out.trans (hb.mono HB.out.size))
        clear hv hb
        go_wp2_with fail
        go_roundw
        case rel => exact ⟨k + 1, by omega, by go_num, hid_intro (by rw [HNM.out]; exact HV2.out), HB2⟩
        case measure => simp [intOf]; omega
    · have hlt2 : ¬ (k : Int) < (len : Int) := by omega
      obtain rfl : k = len := by omega
      rw [HEND.out] at HV
      go_wp2_with fail
      go_ret
      exact ⟨_, rfl, HV.out, HB.out⟩
end LedR
end Go.Proofs.YtlfebpgohpmknaaGreatDoor
namespace Go.Proofs.YtlfebpgohpmknaaGreatDoor
open Go.ChangeShapes Go.WideShapes Go.ChangeAt Go.RowKit
set_option linter.unusedVariables false
namespace LedR
open LinR RowG LtR NetR DocR
theorem rows_step {rb M k nb : Nat} {ds : List D} {W W' : World} {Dm : DataW Value} {f : ByteArray → Int → Nat} (hk : k < ds.length) (hg : Good (ds.getD k D.zero).a (ds.getD k D.zero).mo)
    (h1 : W.ownsMap Tryz.prog 61 RV rb M Dm)
    (h2 : ∀ kl, Maps.has Dm kl = true → ∃ a m, Good a m ∧ kl = kP a m ∧ cnt (ds.take k) a m ≠ 0)
    (h3 : ∀ a m, cnt (ds.take k) a m ≠ 0 → Good a m ∧ (∀ z, Dm.atKey (kP a m) z = .held (.agg #[.int .i64 (cnt (ds.take k) a m : Nat), .map (some (f a m))])) ∧ rb < f a m ∧ f a m < W.heap.size ∧ ∃ Dn M', M' ≤ 6 * (ds.take k).length ∧ W.ownsMap Tryz.prog 9 (plainElem (H := Value) Tryz.prog 2) (f a m) M' Dn ∧ NetM Dn (net (ds.take k) a m))
    (h4 : ∀ a m a' m', cnt (ds.take k) a m ≠ 0 → cnt (ds.take k) a' m' ≠ 0 → f a m = f a' m' → a = a' ∧ m = m')
    (hnb : rb < nb ∧ nb < W'.heap.size)
    (hnew : (cnt (ds.take k) (ds.getD k D.zero).a (ds.getD k D.zero).mo ≠ 0 ∧ nb = f (ds.getD k D.zero).a (ds.getD k D.zero).mo) ∨ (cnt (ds.take k) (ds.getD k D.zero).a (ds.getD k D.zero).mo = 0 ∧ W.heap.size ≤ nb))
    (hrows : W'.ownsMap Tryz.prog 61 RV rb (M + 1) (Dm.put (kP (ds.getD k D.zero).a (ds.getD k D.zero).mo) (.held (.agg #[.int .i64 ((cnt (ds.take k) (ds.getD k D.zero).a (ds.getD k D.zero).mo : Nat) + 1), .map (some nb)]))))
    (hnet : ∃ Dn M', M' ≤ 6 * (k + 1) ∧ W'.ownsMap Tryz.prog 9 (plainElem (H := Value) Tryz.prog 2) nb M' Dn ∧ NetM Dn (all (net (ds.take k) (ds.getD k D.zero).a (ds.getD k D.zero).mo) (ds.getD k D.zero).ls 1))
    (hoth : ∀ b, b < W.heap.size → b ≠ rb → b ≠ nb → W'.heap[b]? = W.heap[b]?) (hsz : W.heap.size ≤ W'.heap.size) :
    RowsM rb (M + 1) (ds.take (k + 1)) W' := by
  have htl : (ds.take (k + 1)).length = k + 1 := by simp; omega
  have htk : (ds.take k).length = k := by simp; omega
  have hcm := fun a m => cnt_more ds k hk a m
  have hnm := fun a m => net_more ds k hk a m
  generalize hX : ds.getD k D.zero = X at *
  have hself : of X.a X.mo X = true := of_self X
  have hoth2 : ∀ a m, ¬ (a = X.a ∧ m = X.mo) → of a m X = false := by
    intro a m hn
    cases h : of a m X
    · rfl
    · obtain ⟨e1, e2⟩ := of_iff.1 h
      exact absurd ⟨e1.symm, e2.symm⟩ hn
  have hkeep : ∀ b n Dn, b < W.heap.size → b ≠ rb → b ≠ nb → W.ownsMap Tryz.prog 9 (plainElem (H := Value) Tryz.prog 2) b n Dn → W'.ownsMap Tryz.prog 9 (plainElem (H := Value) Tryz.prog 2) b n Dn := by
    intro b n Dn hb n1 n2 ⟨es, clock, q1, q2⟩
    exact ⟨es, clock, (hoth b hb n1 n2).trans q1, q2⟩
  have hmono : ∀ a m, cnt (ds.take k) a m ≠ 0 → cnt (ds.take (k + 1)) a m ≠ 0 := fun a m h => by rw [hcm]; omega
  obtain ⟨f', hf1, hf2⟩ : ∃ f' : ByteArray → Int → Nat, f' X.a X.mo = nb ∧ ∀ a m, ¬ (a = X.a ∧ m = X.mo) → f' a m = f a m := ⟨fun a m => if a = X.a ∧ m = X.mo then nb else f a m, by simp, fun a m h => by simp [h]⟩
  refine ⟨_, f', hrows, fun kl hh => ?_, fun a m hc => ?_, fun a m a' m' hc hc' e => ?_⟩
  · by_cases e : kl = kP X.a X.mo
    · exact ⟨X.a, X.mo, hg, e, by rw [hcm, hself, cond_true]; omega⟩
    · rw [Maps.has_put_other e] at hh
      obtain ⟨a, m, g, e2, hc⟩ := h2 kl hh
      exact ⟨a, m, g, e2, hmono a m hc⟩
  · by_cases e : a = X.a ∧ m = X.mo
    · obtain ⟨rfl, rfl⟩ := e
      obtain ⟨Dn, M', q1, q2, q3⟩ := hnet
      refine ⟨hg, fun z => ?_, ?_, ?_, Dn, M', by rw [htl]; exact q1, ?_, ?_⟩
      · rw [Maps.atKey_put_same h1.isMap (kP_key _ _), hcm, hself, cond_true, hf1]
        rfl
      · rw [hf1]; exact hnb.1
      · rw [hf1]; exact hnb.2
      · rw [hf1]; exact q2
      · rw [hnm, hself, cond_true]; exact q3
    · have h0 := hoth2 a m e
      rw [hcm, h0, cond_false, Nat.add_zero] at hc
      obtain ⟨g, p1, p2, p3, Dn, M', p4, p5, p6⟩ := h3 a m hc
      have hne : f a m ≠ nb := by
        rcases hnew with ⟨hn, en⟩ | ⟨_, hn⟩
        · intro e2
          exact e (h4 a m X.a X.mo hc hn (e2.trans en))
        · omega
      refine ⟨g, fun z => ?_, ?_, ?_, Dn, M', by rw [htl]; rw [htk] at p4; omega, ?_, ?_⟩
      · rw [Maps.atKey_put_other (fun e2 => e (kP_inj g hg e2)), p1, hcm, h0, cond_false, Nat.add_zero, hf2 a m e]
      · rw [hf2 a m e]; exact p2
      · rw [hf2 a m e]; omega
      · rw [hf2 a m e]; exact hkeep _ _ _ p3 (by omega) hne p5
      · rw [hnm, h0, cond_false]; exact p6
  · have key : ∀ a m, cnt (ds.take (k + 1)) a m ≠ 0 → ¬ (a = X.a ∧ m = X.mo) → cnt (ds.take k) a m ≠ 0 ∧ f a m ≠ nb := by
      intro a m hc hn
      rw [hcm, hoth2 a m hn, cond_false, Nat.add_zero] at hc
      refine ⟨hc, ?_⟩
      rcases hnew with ⟨hn2, en⟩ | ⟨_, hn2⟩
      · intro e2
        exact hn (h4 a m X.a X.mo hc hn2 (e2.trans en))
      · have := (h3 a m hc).2.2.2.1; omega
    by_cases e1 : a = X.a ∧ m = X.mo
    · by_cases e2 : a' = X.a ∧ m' = X.mo
      · exact ⟨e1.1.trans e2.1.symm, e1.2.trans e2.2.symm⟩
      · rw [e1.1, e1.2, hf1, hf2 a' m' e2] at e
        exact absurd e.symm (key a' m' hc' e2).2
    · by_cases e2 : a' = X.a ∧ m' = X.mo
      · rw [e2.1, e2.2, hf1, hf2 a m e1] at e
        exact absurd e (key a m hc e1).2
      · rw [hf2 a m e1, hf2 a' m' e2] at e
        exact h4 a m a' m' (key a m hc e1).1 (key a' m' hc' e2).1 e
end LedR
end Go.Proofs.YtlfebpgohpmknaaGreatDoor
namespace Go.Proofs.YtlfebpgohpmknaaGreatDoor
open Go.ChangeShapes Go.WideShapes Go.ChangeAt Go.RowKit
set_option linter.unusedVariables false
namespace LedR
open LinR RowG LtR NetR DocR
theorem new_at {w : World} {n : Nat} (h : n = w.heap.size) (cs : List Value) (T : TypeId) : BlkW n cs (w.alloc (.cells cs.toArray T)) := by subst h; exact BlkW.new w cs T
theorem omade_at {P : Program} {k : TypeId} {R : Value → Option (DataW Value × List MemPlace)} {w : World} {n : Nat} (h : n = w.heap.size) : (w.alloc (.map #[] 0)).ownsMap P k R n 0 (.map []) := by subst h; exact World.ownsMap_made w P k R
theorem al2 (w : World) (o1 o2 : Obj) : Below w.heap.size w ((w.alloc o1).alloc o2) := (al w o1).trans ((al _ o2).mono (by simp))
theorem al3 (w : World) (o1 o2 o3 : Obj) : Below w.heap.size w (((w.alloc o1).alloc o2).alloc o3) := (al2 w o1 o2).trans ((al _ o3).mono (by simp; omega))
theorem al4 (w : World) (o1 o2 o3 o4 : Obj) : Below w.heap.size w ((((w.alloc o1).alloc o2).alloc o3).alloc o4) := (al3 w o1 o2 o3).trans ((al _ o4).mono (by simp; omega))
/-- What is handed back. -/
def RowsR (ds : List D) (w : World) (e : Ending) (w' : World) : Prop := Below w.heap.size w w' ∧ ((lB ds = false ∧ ∃ c, e = .returned (.tuple #[.map none, .iface 91 (.agg #[.int .i64 c])])) ∨ (lB ds = true ∧ ∃ M, e = .returned (.tuple #[.map (some w.heap.size), .nilIface]) ∧ RowsM w.heap.size M ds w'))
set_option maxRecDepth 100000 in
set_option maxHeartbeats 8000000 in
theorem irows (ao : Option Addr) (cap : Nat) (ds : List D) (w : World) (hlen : ds.length ≤ 1048576) (hSm : ∀ d ∈ ds, d.Sm) (hwf : ∀ d ∈ ds, (Lit.int .i64 d.mo).wf = true) (hI : Dcs ao ds w) :
    Calls Tryz.prog 29 #[.slice ao ds.length cap] w (RowsR ds w) := by
  obtain ⟨len, hl⟩ : ∃ len, len = ds.length := ⟨_, rfl⟩
  have HI := hid_intro hI
  have HSm := hid_intro hSm
  have HWf := hid_intro hwf
  have HNO : Hid (∀ c w', lB ds = false → Below w.heap.size w w' → RowsR ds w (.returned (.tuple #[.map none, .iface 91 (.agg #[.int .i64 c])])) w') := hid_intro (fun c w' h hb => ⟨hb, .inl ⟨h, c, rfl⟩⟩)
  have HYES : Hid (∀ M w', lB ds = true → Below w.heap.size w w' → RowsM w.heap.size M ds w' → RowsR ds w (.returned (.tuple #[.map (some w.heap.size), .nilIface])) w') := hid_intro (fun M w' h hb hr => ⟨hb, .inr ⟨h, M, rfl, hr⟩⟩)
  generalize RowsR ds w = PP at *
  rw [← hl] at hlen ⊢
  have HL := hid_intro hl
  have hmm := @run_makeMap Tryz.prog
  clear hI hSm hwf hl
  by_cases hbig : 30 < len
  · have hbig2 : (30 : Int) < (len : Int) := by omega
    have HE : Hid (lB ds = false) := hid_intro (lB_no (fun h => by have := h.1; have := HL.out; omega))
    go_enter Tryz.func29, Tryz.ntmps29
    go_wp2_with fail
    try go_ret2
    exact HNO.out _ _ HE.out (Below.refl _ _)
  have hbig2 : ¬ (30 : Int) < (len : Int) := by omega
  have HR0 := hid_intro (rows_nil w)
  have HB0 := hid_intro (al w (.map #[] 0))
  go_enter Tryz.func29, Tryz.ntmps29
  go_wp2_with fail
  go_loopw [21] (fun z wr => ∃ k : Nat, k ≤ len ∧ z = .int .i64 k ∧ Hid (RowsM w.heap.size k (ds.take k) wr) ∧ Hid (SOk ds k) ∧ Hid (Below w.heap.size w wr)) (fun z _ => len - (intOf z).toNat)
  case atStart => exact ⟨0, by omega, rfl, HR0, hid_intro (SOk.zero ds), HB0⟩
  case round =>
    clear HR0 HB0
    obtain ⟨k, hk, rfl, HR, HS, HB⟩ := hrel
    by_cases hlt : k < len
    · have hlt2 : (k : Int) < (len : Int) := by omega
      have hkl : k < ds.length := by have := HL.out; omega
      obtain ⟨b, off, la, lc, rfl, hbl, c0, c1, c2, c3, hLi⟩ := (HI.out.below HB.out).at k hkl
      have hmem := getD_mem (z := D.zero) ds k hkl
      have HG : Hid (Good (ds.getD k D.zero).a (ds.getD k D.zero).mo) := hid_intro ⟨(HSm.out _ hmem).1, HWf.out _ hmem⟩
      have HX := hid_intro (HSm.out _ hmem)
      obtain ⟨Dm, f, h1, h2, h3, h4⟩ := HR.out
      have HST := hid_intro (fun nb W W' => rows_step (nb := nb) (W := W) (W' := W') (Dm := Dm) (f := f) (M := k) (rb := w.heap.size) hkl HG.out)
      have HKY := hid_intro (keyP HG.out)
      have HO := hid_intro h1
      have HLi := hid_intro hLi
      have hrb := h1.lt
      clear hLi hmem
      obtain ⟨X, hX⟩ : ∃ X, X = ds.getD k D.zero := ⟨_, rfl⟩
      rw [← hX] at c0 c1 c2 c3 HG HX HKY HLi
      have HXX := hid_intro hX
      clear hX
      obtain ⟨xa, xm, xs, xl⟩ := X
      dsimp only at c0 c1 c2 c3 HKY HG
      have H1 := hid_intro h1
      have H2 := hid_intro h2
      have H3 := hid_intro h3
      have H4 := hid_intro h4
      generalize hxl : xl.length = ll at *
      obtain ⟨c, hc0⟩ : ∃ c : Int, c = ((cnt (ds.take k) xa xm : Nat) : Int) := ⟨_, rfl⟩
      have HC0 := hid_intro hc0
      by_cases hc : cnt (ds.take k) xa xm = 0
      · have hhas : Maps.has Dm (kP xa xm) = false := by
          cases hh : Maps.has Dm (kP xa xm)
          · rfl
          · obtain ⟨a, m, g, e, hn⟩ := h2 _ hh
            obtain ⟨rfl, rfl⟩ := kP_inj HG.out g e
            exact absurd hc hn
        obtain ⟨v, ps, hrun, hv⟩ := ((h1.alloc (.cells #[.string xa, .int .i64 xm, .int .i64 xs, .slice la ll lc] 28)).alloc (.cells #[.string xa, .int .i64 xm] 61)).look_ok keyedP Tryz.underlying54 (zeroR _) (zd := .held (.agg #[.int .i64 0, .map none])) (zp := []) rfl HKY.out
        obtain rfl : v = .agg #[.int .i64 c, .map none] := by
          rw [Maps.atKey_of_not_has hhas] at hv
          simp [RV] at hv
          rw [hc0, hc]
          exact hv.1
        rw [hhas] at hrun
        clear hv h1 h2 h3 h4 hhas hc0
        go_wp2_with fail
        obtain ⟨W2, hW2⟩ : ∃ W2, W2 = (((wr.alloc (.cells #[.string xa, .int .i64 xm, .int .i64 xs, .slice la ll lc] 28)).alloc (.cells #[.string xa, .int .i64 xm] 61)).alloc (.cells #[.int .i64 c, .map (some (wr.heap.size + 1 + 1 + 1))] 67)).alloc (.map #[] 0) := ⟨_, rfl⟩
        obtain ⟨nb, hnb⟩ : ∃ nb, nb = wr.heap.size + 1 + 1 + 1 := ⟨_, rfl⟩
        have HBW : Hid (Below wr.heap.size wr W2) := hid_intro (by rw [hW2]; exact al4 _ _ _ _ _)
        have X1 : Hid (BlkW wr.heap.size [.string xa, .int .i64 xm, .int .i64 xs, .slice la ll lc] W2) := hid_intro (by rw [hW2]; exact (((BlkW.new wr [.string xa, .int .i64 xm, .int .i64 xs, .slice la ll lc] 28).below (al _ _)).below (al _ _)).below (al _ _))
        have X2 : Hid (BlkW (wr.heap.size + 1) [.string xa, .int .i64 xm] W2) := hid_intro (by rw [hW2]; exact ((new_at (w := wr.alloc (.cells #[.string xa, .int .i64 xm, .int .i64 xs, .slice la ll lc] 28)) (by simp) [.string xa, .int .i64 xm] 61).below (al _ _)).below (al _ _))
        have X3 : Hid (BlkW (wr.heap.size + 1 + 1) [.int .i64 c, .map (some nb)] W2) := hid_intro (by rw [hW2, hnb]; exact (new_at (w := (wr.alloc (.cells #[.string xa, .int .i64 xm, .int .i64 xs, .slice la ll lc] 28)).alloc (.cells #[.string xa, .int .i64 xm] 61)) (by simp) _ 67).below (al _ _))
        obtain ⟨Dn, M', hM', hNM, hNN⟩ : ∃ Dn M', M' ≤ 6 * k ∧ W2.ownsMap Tryz.prog 9 (plainElem (H := Value) Tryz.prog 2) nb M' Dn ∧ NetM Dn (net (ds.take k) xa xm) := ⟨.map [], 0, by omega, by rw [hW2, hnb]; exact omade_at (by simp), by rw [net_zero hc]; exact netM_nil⟩
        have HNM := hid_intro hNM
        have HNN := hid_intro hNN
        have HNB : Hid (w.heap.size < nb ∧ nb < W2.heap.size ∧ ((cnt (ds.take k) xa xm ≠ 0 ∧ nb = f xa xm) ∨ (cnt (ds.take k) xa xm = 0 ∧ wr.heap.size ≤ nb)) ∧ nb ≠ wr.heap.size ∧ nb ≠ (wr.heap.size + 1) ∧ nb ≠ (wr.heap.size + 1 + 1)) := hid_intro (by rw [hnb, hW2]; refine ⟨?_, ?_, .inr ⟨hc, ?_⟩, ?_, ?_, ?_⟩ <;> (try simp) <;> (try omega))
        rw [← hW2]
        rw [← hnb]
        clear hW2 hnb hNM hNN hrun
        replace HO := hid_intro (omap_below HO.out HBW.out)
        have HD : Hid (Calls Tryz.prog 18 #[.agg #[.string xa, .int .i64 xm, .int .i64 xs, .slice la ll lc]] W2 fun e w' => e = .returned (.bool (dB ⟨xa, xm, xs, xl⟩)) ∧ Below W2.heap.size W2 w') := hid_intro (by
          have h := impl_doc ⟨xa, xm, xs, xl⟩ la lc W2 HX.out (HLi.out.below HBW.out)
          simp only [dcells, hxl] at h
          exact h)
        have HDB := hid_intro (fun h : dB ⟨xa, xm, xs, xl⟩ = true => dB_lines h)
        have HDN : Hid (dB ⟨xa, xm, xs, xl⟩ = false ∨ xs ≠ c → lB ds = false) := hid_intro (fun h => lB_no (fun hr => by
          have h1 := hr.2.1 k hkl
          rw [← HXX.out] at h1
          rcases h with h | h
          · rw [h] at h1; exact absurd h1.1 (by simp)
          · exact h (h1.2.trans HC0.out.symm)))
        have HSO : Hid (dB ⟨xa, xm, xs, xl⟩ = true → xs = c → SOk ds (k + 1)) := hid_intro (fun h1 h2 => HS.out.more (by rw [← HXX.out]; exact h1) (by rw [← HXX.out]; exact h2.trans HC0.out))
        generalize dB ⟨xa, xm, xs, xl⟩ = r at *
        have a2 : W2.cell? ⟨wr.heap.size, 2, none⟩ = some (.int .i64 xs) := X1.out.1.2 2 (by simp)
        have a3 : W2.cell? ⟨wr.heap.size, 3, none⟩ = some (.slice la ll lc) := X1.out.1.2 3 (by simp)
        have a1l := X1.out.1.1
        have p0 : W2.cell? ⟨(wr.heap.size + 1), 0, none⟩ = some (.string xa) := X2.out.1.2 0 (by simp)
        have p1 : W2.cell? ⟨(wr.heap.size + 1), 1, none⟩ = some (.int .i64 xm) := X2.out.1.2 1 (by simp)
        have p2l := X2.out.1.1
        have r0 : W2.cell? ⟨(wr.heap.size + 1 + 1), 0, none⟩ = some (.int .i64 c) := X3.out.1.2 0 (by simp)
        have r1 : W2.cell? ⟨(wr.heap.size + 1 + 1), 1, none⟩ = some (.map (some nb)) := X3.out.1.2 1 (by simp)
        have rf : W2.frozen? ⟨(wr.heap.size + 1 + 1), 0, none⟩ = false := X3.out.2 0 (by simp)
        have r3l := X3.out.1.1
        refine HD.out.mono ?_
        rintro e w3 ⟨rfl, hb3⟩
        clear a2 a3 a1l p0 p1 p2l r0 r1 rf r3l
        have HB3 := hid_intro (HB.out.trans ((HBW.out.trans (hb3.mono HBW.out.size)).mono HB.out.size))
        have HBW3 := hid_intro (HBW.out.trans (hb3.mono HBW.out.size))
        have hsz3 := hb3.size
        replace X1 := hid_intro (X1.out.below hb3)
        replace X2 := hid_intro (X2.out.below hb3)
        replace X3 := hid_intro (X3.out.below hb3)
        replace HNM := hid_intro (omap_below HNM.out hb3)
        replace HO := hid_intro (omap_below HO.out hb3)
        clear hb3 HD HBW
        cases r
        · have HE := hid_intro (HDN.out (.inl rfl))
          have a2 : w3.cell? ⟨wr.heap.size, 2, none⟩ = some (.int .i64 xs) := X1.out.1.2 2 (by simp)
          have a3 : w3.cell? ⟨wr.heap.size, 3, none⟩ = some (.slice la ll lc) := X1.out.1.2 3 (by simp)
          have a1l := X1.out.1.1
          have p0 : w3.cell? ⟨(wr.heap.size + 1), 0, none⟩ = some (.string xa) := X2.out.1.2 0 (by simp)
          have p1 : w3.cell? ⟨(wr.heap.size + 1), 1, none⟩ = some (.int .i64 xm) := X2.out.1.2 1 (by simp)
          have p2l := X2.out.1.1
          have r0 : w3.cell? ⟨(wr.heap.size + 1 + 1), 0, none⟩ = some (.int .i64 c) := X3.out.1.2 0 (by simp)
          have r1 : w3.cell? ⟨(wr.heap.size + 1 + 1), 1, none⟩ = some (.map (some nb)) := X3.out.1.2 1 (by simp)
          have rf : w3.frozen? ⟨(wr.heap.size + 1 + 1), 0, none⟩ = false := X3.out.2 0 (by simp)
          have r3l := X3.out.1.1
          go_wp2_with fail
          try go_ret2
          exact HNO.out _ _ HE.out HB3.out
        have HRG := hid_intro (HDB.out rfl)
        by_cases hsq : xs = c
        · have HSK := hid_intro (HSO.out rfl hsq)
          subst hsq
          have hq : (xs != xs) = false := by simp
          have h6 : xl.length ≤ 6 := HRG.out.1
          have HNF := hid_intro (net_facts (ds := ds) k (by omega) HS.out xa xm)
          have HBR := hid_intro (bring_any la lc xl 1 nb M' Dn (net (ds.take k) xa xm) (6000000000000000 * (k : Int)) w3 (.inl rfl) (by omega) HX.out.2.2 (right_bd HRG.out) HNM.out (by omega) HNN.out (by omega) HNF.out.2.2 (HLi.out.below HBW3.out))
          rw [hxl] at HBR
          have a2 : w3.cell? ⟨wr.heap.size, 2, none⟩ = some (.int .i64 xs) := X1.out.1.2 2 (by simp)
          have a3 : w3.cell? ⟨wr.heap.size, 3, none⟩ = some (.slice la ll lc) := X1.out.1.2 3 (by simp)
          have a1l := X1.out.1.1
          have p0 : w3.cell? ⟨(wr.heap.size + 1), 0, none⟩ = some (.string xa) := X2.out.1.2 0 (by simp)
          have p1 : w3.cell? ⟨(wr.heap.size + 1), 1, none⟩ = some (.int .i64 xm) := X2.out.1.2 1 (by simp)
          have p2l := X2.out.1.1
          have r0 : w3.cell? ⟨(wr.heap.size + 1 + 1), 0, none⟩ = some (.int .i64 xs) := X3.out.1.2 0 (by simp)
          have r1 : w3.cell? ⟨(wr.heap.size + 1 + 1), 1, none⟩ = some (.map (some nb)) := X3.out.1.2 1 (by simp)
          have rf : w3.frozen? ⟨(wr.heap.size + 1 + 1), 0, none⟩ = false := X3.out.2 0 (by simp)
          have r3l := X3.out.1.1
          go_wp2_with fail
          refine HBR.out.mono ?_
          rintro e w4 ⟨rfl, ⟨D4, hO4, hN4⟩, _, hg4⟩
          clear a2 a3 a1l p0 p1 p2l r0 r1 rf r3l
          have hn := HNB.out
          have X1 := hid_intro (blkw_grown X1.out hg4 (by simp; omega))
          have X2 := hid_intro (blkw_grown X2.out hg4 (by simp; omega))
          have X3 := hid_intro (blkw_grown X3.out hg4 (by simp; omega))
          have HO4 := hid_intro (HO.out.kept hg4 (by simp; omega))
          have HN4 := hid_intro hO4
          have HM4 := hid_intro hN4
          have HB4 := hid_intro (HB3.out.grown hg4 HB3.out.size (fun k e => by cases e; omega))
          have HG4 := hid_intro hg4
          have hsz4 := hg4.size
          have hcw : wrap64 (xs + 1) = xs + 1 := by have := HC0.out; have := cnt_le (ds.take k) xa xm; have h2 : (ds.take k).length ≤ k := List.length_take_le k ds; unfold wrap64; omega
          have HO5 := hid_intro (HO4.out.setCell (a := ⟨(wr.heap.size + 1 + 1), 0, none⟩) (show w.heap.size ≠ (wr.heap.size + 1 + 1) by have := HB.out.size; omega) (.int .i64 (xs + 1)))
          have X25 := hid_intro (DocR.BlkW.other X2.out (wr.heap.size + 1 + 1) 0 (.int .i64 (xs + 1)) (by omega))
          have X35 := hid_intro (X3.out.set 0 (.int .i64 (xs + 1)) (by simp))
          clear hO4 hN4 hg4 HBR
          have a2 : w4.cell? ⟨wr.heap.size, 2, none⟩ = some (.int .i64 xs) := X1.out.1.2 2 (by simp)
          have a3 : w4.cell? ⟨wr.heap.size, 3, none⟩ = some (.slice la ll lc) := X1.out.1.2 3 (by simp)
          have a1l := X1.out.1.1
          have p0 : w4.cell? ⟨(wr.heap.size + 1), 0, none⟩ = some (.string xa) := X2.out.1.2 0 (by simp)
          have p1 : w4.cell? ⟨(wr.heap.size + 1), 1, none⟩ = some (.int .i64 xm) := X2.out.1.2 1 (by simp)
          have p2l := X2.out.1.1
          have r0 : w4.cell? ⟨(wr.heap.size + 1 + 1), 0, none⟩ = some (.int .i64 xs) := X3.out.1.2 0 (by simp)
          have r1 : w4.cell? ⟨(wr.heap.size + 1 + 1), 1, none⟩ = some (.map (some nb)) := X3.out.1.2 1 (by simp)
          have rf : w4.frozen? ⟨(wr.heap.size + 1 + 1), 0, none⟩ = false := X3.out.2 0 (by simp)
          have r3l := X3.out.1.1
          have q0 : (w4.setCell ⟨(wr.heap.size + 1 + 1), 0, none⟩ (.int .i64 (xs + 1))).cell? ⟨(wr.heap.size + 1), 0, none⟩ = some (.string xa) := X25.out.1.2 0 (by simp)
          have q1 : (w4.setCell ⟨(wr.heap.size + 1 + 1), 0, none⟩ (.int .i64 (xs + 1))).cell? ⟨(wr.heap.size + 1), 1, none⟩ = some (.int .i64 xm) := X25.out.1.2 1 (by simp)
          have t0 : (w4.setCell ⟨(wr.heap.size + 1 + 1), 0, none⟩ (.int .i64 (xs + 1))).cell? ⟨(wr.heap.size + 1 + 1), 0, none⟩ = some (.int .i64 (xs + 1)) := X35.out.1.2 0 (by simp)
          have t1 : (w4.setCell ⟨(wr.heap.size + 1 + 1), 0, none⟩ (.int .i64 (xs + 1))).cell? ⟨(wr.heap.size + 1 + 1), 1, none⟩ = some (.map (some nb)) := X35.out.1.2 1 (by simp)
          go_wp2_with (at_mapUpdate; refine wpList_mapUpdate_own _ rfl _ _ _ 54 rfl 61 67 keyedP Tryz.underlying54 RV w.heap.size k Dm rfl HO5.out (by unfold maxLen; omega) _ _ _ rfl rfl HKY.out (.held (.agg #[.int .i64 (xs + 1), .map (some nb)])) [] rfl ?_; intro w6 hown hgrow)
          have HRS : Hid (RowsM w.heap.size (k + 1) (ds.take (k + 1)) w6) := hid_intro (by
            have hz6 := hgrow.size
            have hz5 : (w4.setCell ⟨(wr.heap.size + 1 + 1), 0, none⟩ (.int .i64 (xs + 1))).heap.size = w4.heap.size := by simp
            have hst := HST.out nb wr w6
            rw [← HXX.out] at hst
            dsimp only at hst
            refine hst H1.out H2.out H3.out H4.out ⟨hn.1, by omega⟩ hn.2.2.1 (by rw [← HC0.out]; exact hown) ⟨D4, M' + ll, by omega, ?_, HM4.out⟩ (fun b0 hb0 n1 n2 => ?_) (by have := HBW3.out.size; omega)
            · exact (HN4.out.setCell (a := ⟨(wr.heap.size + 1 + 1), 0, none⟩) (show nb ≠ (wr.heap.size + 1 + 1) by omega) _).kept hgrow (by simp; omega)
            · have e1 := hgrow.block b0 (by rw [hz5]; have := HBW3.out.size; omega) (by simpa using n1)
              have e2 : (w4.setCell ⟨(wr.heap.size + 1 + 1), 0, none⟩ (.int .i64 (xs + 1))).heap[b0]? = w4.heap[b0]? := by
                simp only [World.setCell]
                rw [Array.getElem?_modify, if_neg (by omega)]
              have e3 := HG4.out.block b0 (by have := HBW3.out.size; omega) (by simpa using n2)
              exact ((e1.trans e2).trans e3).trans (HBW3.out.block b0 hb0))
          have HB6 : Hid (Below w.heap.size w w6) := hid_intro ((HB4.out.setCell (p := ⟨(wr.heap.size + 1 + 1), 0, none⟩) (show w.heap.size ≤ (wr.heap.size + 1 + 1) by have := HB.out.size; omega) _).grown hgrow (by have := HB4.out.size; simpa using this) (fun k e => by cases e; exact Nat.le_refl _))
          clear a2 a3 a1l p0 p1 p2l r0 r1 rf r3l
          clear hown hgrow q0 q1 t0 t1
          go_wp2_with fail
          go_roundw
          case rel => exact ⟨k + 1, by omega, by go_num, HRS, HSK, HB6⟩
          case measure => simp [intOf]; omega
        · have hq : (xs != c) = true := by simpa using hsq
          have HE := hid_intro (HDN.out (.inr hsq))
          have a2 : w3.cell? ⟨wr.heap.size, 2, none⟩ = some (.int .i64 xs) := X1.out.1.2 2 (by simp)
          have a3 : w3.cell? ⟨wr.heap.size, 3, none⟩ = some (.slice la ll lc) := X1.out.1.2 3 (by simp)
          have a1l := X1.out.1.1
          have p0 : w3.cell? ⟨(wr.heap.size + 1), 0, none⟩ = some (.string xa) := X2.out.1.2 0 (by simp)
          have p1 : w3.cell? ⟨(wr.heap.size + 1), 1, none⟩ = some (.int .i64 xm) := X2.out.1.2 1 (by simp)
          have p2l := X2.out.1.1
          have r0 : w3.cell? ⟨(wr.heap.size + 1 + 1), 0, none⟩ = some (.int .i64 c) := X3.out.1.2 0 (by simp)
          have r1 : w3.cell? ⟨(wr.heap.size + 1 + 1), 1, none⟩ = some (.map (some nb)) := X3.out.1.2 1 (by simp)
          have rf : w3.frozen? ⟨(wr.heap.size + 1 + 1), 0, none⟩ = false := X3.out.2 0 (by simp)
          have r3l := X3.out.1.1
          go_wp2_with fail
          try go_ret2
          exact HNO.out _ _ HE.out HB3.out
      · have hatk := (h3 xa xm hc).2.1
        have hhas : Maps.has Dm (kP xa xm) = true := Maps.has_true_of_atKey hatk
        obtain ⟨v, ps, hrun, hv⟩ := ((h1.alloc (.cells #[.string xa, .int .i64 xm, .int .i64 xs, .slice la ll lc] 28)).alloc (.cells #[.string xa, .int .i64 xm] 61)).look_ok keyedP Tryz.underlying54 (zeroR _) (zd := .held (.agg #[.int .i64 0, .map none])) (zp := []) rfl HKY.out
        obtain rfl : v = .agg #[.int .i64 c, .map (some (f xa xm))] := by
          rw [hatk, ← hc0] at hv
          simp [RV] at hv
          exact hv.1
        rw [hhas] at hrun
        clear hv h1 h2 h3 h4 hhas hc0 hatk
        go_wp2_with fail
        obtain ⟨W2, hW2⟩ : ∃ W2, W2 = ((wr.alloc (.cells #[.string xa, .int .i64 xm, .int .i64 xs, .slice la ll lc] 28)).alloc (.cells #[.string xa, .int .i64 xm] 61)).alloc (.cells #[.int .i64 c, .map (some (f xa xm))] 67) := ⟨_, rfl⟩
        obtain ⟨nb, hnb⟩ : ∃ nb, nb = f xa xm := ⟨_, rfl⟩
        have HBW : Hid (Below wr.heap.size wr W2) := hid_intro (by rw [hW2]; exact al3 _ _ _ _)
        have X1 : Hid (BlkW wr.heap.size [.string xa, .int .i64 xm, .int .i64 xs, .slice la ll lc] W2) := hid_intro (by rw [hW2]; exact ((BlkW.new wr [.string xa, .int .i64 xm, .int .i64 xs, .slice la ll lc] 28).below (al _ _)).below (al _ _))
        have X2 : Hid (BlkW (wr.heap.size + 1) [.string xa, .int .i64 xm] W2) := hid_intro (by rw [hW2]; exact (new_at (w := wr.alloc (.cells #[.string xa, .int .i64 xm, .int .i64 xs, .slice la ll lc] 28)) (by simp) [.string xa, .int .i64 xm] 61).below (al _ _))
        have X3 : Hid (BlkW (wr.heap.size + 1 + 1) [.int .i64 c, .map (some nb)] W2) := hid_intro (by rw [hW2, hnb]; exact new_at (w := (wr.alloc (.cells #[.string xa, .int .i64 xm, .int .i64 xs, .slice la ll lc] 28)).alloc (.cells #[.string xa, .int .i64 xm] 61)) (by simp) _ 67)
        obtain ⟨Dn, M', hM', hNM, hNN⟩ : ∃ Dn M', M' ≤ 6 * k ∧ W2.ownsMap Tryz.prog 9 (plainElem (H := Value) Tryz.prog 2) nb M' Dn ∧ NetM Dn (net (ds.take k) xa xm) := by
          obtain ⟨_, _, _, q3, Dn, M', q4, q5, q6⟩ := H3.out xa xm hc
          refine ⟨Dn, M', ?_, ?_, q6⟩
          · have h2 : (ds.take k).length ≤ k := List.length_take_le k ds
            omega
          · rw [hnb]; exact omap_below q5 HBW.out
        have HNM := hid_intro hNM
        have HNN := hid_intro hNN
        have HNB : Hid (w.heap.size < nb ∧ nb < W2.heap.size ∧ ((cnt (ds.take k) xa xm ≠ 0 ∧ nb = f xa xm) ∨ (cnt (ds.take k) xa xm = 0 ∧ wr.heap.size ≤ nb)) ∧ nb ≠ wr.heap.size ∧ nb ≠ (wr.heap.size + 1) ∧ nb ≠ (wr.heap.size + 1 + 1)) := hid_intro (by
          obtain ⟨_, _, q2, q3, _⟩ := H3.out xa xm hc
          have := HBW.out.size
          rw [hnb]
          exact ⟨q2, by omega, .inl ⟨hc, rfl⟩, by omega, by omega, by omega⟩)
        rw [← hW2]
        rw [← hnb]
        clear hW2 hnb hNM hNN hrun
        replace HO := hid_intro (omap_below HO.out HBW.out)
        have HD : Hid (Calls Tryz.prog 18 #[.agg #[.string xa, .int .i64 xm, .int .i64 xs, .slice la ll lc]] W2 fun e w' => e = .returned (.bool (dB ⟨xa, xm, xs, xl⟩)) ∧ Below W2.heap.size W2 w') := hid_intro (by
          have h := impl_doc ⟨xa, xm, xs, xl⟩ la lc W2 HX.out (HLi.out.below HBW.out)
          simp only [dcells, hxl] at h
          exact h)
        have HDB := hid_intro (fun h : dB ⟨xa, xm, xs, xl⟩ = true => dB_lines h)
        have HDN : Hid (dB ⟨xa, xm, xs, xl⟩ = false ∨ xs ≠ c → lB ds = false) := hid_intro (fun h => lB_no (fun hr => by
          have h1 := hr.2.1 k hkl
          rw [← HXX.out] at h1
          rcases h with h | h
          · rw [h] at h1; exact absurd h1.1 (by simp)
          · exact h (h1.2.trans HC0.out.symm)))
        have HSO : Hid (dB ⟨xa, xm, xs, xl⟩ = true → xs = c → SOk ds (k + 1)) := hid_intro (fun h1 h2 => HS.out.more (by rw [← HXX.out]; exact h1) (by rw [← HXX.out]; exact h2.trans HC0.out))
        generalize dB ⟨xa, xm, xs, xl⟩ = r at *
        have a2 : W2.cell? ⟨wr.heap.size, 2, none⟩ = some (.int .i64 xs) := X1.out.1.2 2 (by simp)
        have a3 : W2.cell? ⟨wr.heap.size, 3, none⟩ = some (.slice la ll lc) := X1.out.1.2 3 (by simp)
        have a1l := X1.out.1.1
        have p0 : W2.cell? ⟨(wr.heap.size + 1), 0, none⟩ = some (.string xa) := X2.out.1.2 0 (by simp)
        have p1 : W2.cell? ⟨(wr.heap.size + 1), 1, none⟩ = some (.int .i64 xm) := X2.out.1.2 1 (by simp)
        have p2l := X2.out.1.1
        have r0 : W2.cell? ⟨(wr.heap.size + 1 + 1), 0, none⟩ = some (.int .i64 c) := X3.out.1.2 0 (by simp)
        have r1 : W2.cell? ⟨(wr.heap.size + 1 + 1), 1, none⟩ = some (.map (some nb)) := X3.out.1.2 1 (by simp)
        have rf : W2.frozen? ⟨(wr.heap.size + 1 + 1), 0, none⟩ = false := X3.out.2 0 (by simp)
        have r3l := X3.out.1.1
        refine HD.out.mono ?_
        rintro e w3 ⟨rfl, hb3⟩
        clear a2 a3 a1l p0 p1 p2l r0 r1 rf r3l
        have HB3 := hid_intro (HB.out.trans ((HBW.out.trans (hb3.mono HBW.out.size)).mono HB.out.size))
        have HBW3 := hid_intro (HBW.out.trans (hb3.mono HBW.out.size))
        have hsz3 := hb3.size
        replace X1 := hid_intro (X1.out.below hb3)
        replace X2 := hid_intro (X2.out.below hb3)
        replace X3 := hid_intro (X3.out.below hb3)
        replace HNM := hid_intro (omap_below HNM.out hb3)
        replace HO := hid_intro (omap_below HO.out hb3)
        clear hb3 HD HBW
        cases r
        · have HE := hid_intro (HDN.out (.inl rfl))
          have a2 : w3.cell? ⟨wr.heap.size, 2, none⟩ = some (.int .i64 xs) := X1.out.1.2 2 (by simp)
          have a3 : w3.cell? ⟨wr.heap.size, 3, none⟩ = some (.slice la ll lc) := X1.out.1.2 3 (by simp)
          have a1l := X1.out.1.1
          have p0 : w3.cell? ⟨(wr.heap.size + 1), 0, none⟩ = some (.string xa) := X2.out.1.2 0 (by simp)
          have p1 : w3.cell? ⟨(wr.heap.size + 1), 1, none⟩ = some (.int .i64 xm) := X2.out.1.2 1 (by simp)
          have p2l := X2.out.1.1
          have r0 : w3.cell? ⟨(wr.heap.size + 1 + 1), 0, none⟩ = some (.int .i64 c) := X3.out.1.2 0 (by simp)
          have r1 : w3.cell? ⟨(wr.heap.size + 1 + 1), 1, none⟩ = some (.map (some nb)) := X3.out.1.2 1 (by simp)
          have rf : w3.frozen? ⟨(wr.heap.size + 1 + 1), 0, none⟩ = false := X3.out.2 0 (by simp)
          have r3l := X3.out.1.1
          go_wp2_with fail
          try go_ret2
          exact HNO.out _ _ HE.out HB3.out
        have HRG := hid_intro (HDB.out rfl)
        by_cases hsq : xs = c
        · have HSK := hid_intro (HSO.out rfl hsq)
          subst hsq
          have hq : (xs != xs) = false := by simp
          have h6 : xl.length ≤ 6 := HRG.out.1
          have HNF := hid_intro (net_facts (ds := ds) k (by omega) HS.out xa xm)
          have HBR := hid_intro (bring_any la lc xl 1 nb M' Dn (net (ds.take k) xa xm) (6000000000000000 * (k : Int)) w3 (.inl rfl) (by omega) HX.out.2.2 (right_bd HRG.out) HNM.out (by omega) HNN.out (by omega) HNF.out.2.2 (HLi.out.below HBW3.out))
          rw [hxl] at HBR
          have a2 : w3.cell? ⟨wr.heap.size, 2, none⟩ = some (.int .i64 xs) := X1.out.1.2 2 (by simp)
          have a3 : w3.cell? ⟨wr.heap.size, 3, none⟩ = some (.slice la ll lc) := X1.out.1.2 3 (by simp)
          have a1l := X1.out.1.1
          have p0 : w3.cell? ⟨(wr.heap.size + 1), 0, none⟩ = some (.string xa) := X2.out.1.2 0 (by simp)
          have p1 : w3.cell? ⟨(wr.heap.size + 1), 1, none⟩ = some (.int .i64 xm) := X2.out.1.2 1 (by simp)
          have p2l := X2.out.1.1
          have r0 : w3.cell? ⟨(wr.heap.size + 1 + 1), 0, none⟩ = some (.int .i64 xs) := X3.out.1.2 0 (by simp)
          have r1 : w3.cell? ⟨(wr.heap.size + 1 + 1), 1, none⟩ = some (.map (some nb)) := X3.out.1.2 1 (by simp)
          have rf : w3.frozen? ⟨(wr.heap.size + 1 + 1), 0, none⟩ = false := X3.out.2 0 (by simp)
          have r3l := X3.out.1.1
          go_wp2_with fail
          refine HBR.out.mono ?_
          rintro e w4 ⟨rfl, ⟨D4, hO4, hN4⟩, _, hg4⟩
          clear a2 a3 a1l p0 p1 p2l r0 r1 rf r3l
          have hn := HNB.out
          have X1 := hid_intro (blkw_grown X1.out hg4 (by simp; omega))
          have X2 := hid_intro (blkw_grown X2.out hg4 (by simp; omega))
          have X3 := hid_intro (blkw_grown X3.out hg4 (by simp; omega))
          have HO4 := hid_intro (HO.out.kept hg4 (by simp; omega))
          have HN4 := hid_intro hO4
          have HM4 := hid_intro hN4
          have HB4 := hid_intro (HB3.out.grown hg4 HB3.out.size (fun k e => by cases e; omega))
          have HG4 := hid_intro hg4
          have hsz4 := hg4.size
          have hcw : wrap64 (xs + 1) = xs + 1 := by have := HC0.out; have := cnt_le (ds.take k) xa xm; have h2 : (ds.take k).length ≤ k := List.length_take_le k ds; unfold wrap64; omega
          have HO5 := hid_intro (HO4.out.setCell (a := ⟨(wr.heap.size + 1 + 1), 0, none⟩) (show w.heap.size ≠ (wr.heap.size + 1 + 1) by have := HB.out.size; omega) (.int .i64 (xs + 1)))
          have X25 := hid_intro (DocR.BlkW.other X2.out (wr.heap.size + 1 + 1) 0 (.int .i64 (xs + 1)) (by omega))
          have X35 := hid_intro (X3.out.set 0 (.int .i64 (xs + 1)) (by simp))
          clear hO4 hN4 hg4 HBR
          have a2 : w4.cell? ⟨wr.heap.size, 2, none⟩ = some (.int .i64 xs) := X1.out.1.2 2 (by simp)
          have a3 : w4.cell? ⟨wr.heap.size, 3, none⟩ = some (.slice la ll lc) := X1.out.1.2 3 (by simp)
          have a1l := X1.out.1.1
          have p0 : w4.cell? ⟨(wr.heap.size + 1), 0, none⟩ = some (.string xa) := X2.out.1.2 0 (by simp)
          have p1 : w4.cell? ⟨(wr.heap.size + 1), 1, none⟩ = some (.int .i64 xm) := X2.out.1.2 1 (by simp)
          have p2l := X2.out.1.1
          have r0 : w4.cell? ⟨(wr.heap.size + 1 + 1), 0, none⟩ = some (.int .i64 xs) := X3.out.1.2 0 (by simp)
          have r1 : w4.cell? ⟨(wr.heap.size + 1 + 1), 1, none⟩ = some (.map (some nb)) := X3.out.1.2 1 (by simp)
          have rf : w4.frozen? ⟨(wr.heap.size + 1 + 1), 0, none⟩ = false := X3.out.2 0 (by simp)
          have r3l := X3.out.1.1
          have q0 : (w4.setCell ⟨(wr.heap.size + 1 + 1), 0, none⟩ (.int .i64 (xs + 1))).cell? ⟨(wr.heap.size + 1), 0, none⟩ = some (.string xa) := X25.out.1.2 0 (by simp)
          have q1 : (w4.setCell ⟨(wr.heap.size + 1 + 1), 0, none⟩ (.int .i64 (xs + 1))).cell? ⟨(wr.heap.size + 1), 1, none⟩ = some (.int .i64 xm) := X25.out.1.2 1 (by simp)
          have t0 : (w4.setCell ⟨(wr.heap.size + 1 + 1), 0, none⟩ (.int .i64 (xs + 1))).cell? ⟨(wr.heap.size + 1 + 1), 0, none⟩ = some (.int .i64 (xs + 1)) := X35.out.1.2 0 (by simp)
          have t1 : (w4.setCell ⟨(wr.heap.size + 1 + 1), 0, none⟩ (.int .i64 (xs + 1))).cell? ⟨(wr.heap.size + 1 + 1), 1, none⟩ = some (.map (some nb)) := X35.out.1.2 1 (by simp)
          go_wp2_with (at_mapUpdate; refine wpList_mapUpdate_own _ rfl _ _ _ 54 rfl 61 67 keyedP Tryz.underlying54 RV w.heap.size k Dm rfl HO5.out (by unfold maxLen; omega) _ _ _ rfl rfl HKY.out (.held (.agg #[.int .i64 (xs + 1), .map (some nb)])) [] rfl ?_; intro w6 hown hgrow)
          have HRS : Hid (RowsM w.heap.size (k + 1) (ds.take (k + 1)) w6) := hid_intro (by
            have hz6 := hgrow.size
            have hz5 : (w4.setCell ⟨(wr.heap.size + 1 + 1), 0, none⟩ (.int .i64 (xs + 1))).heap.size = w4.heap.size := by simp
            have hst := HST.out nb wr w6
            rw [← HXX.out] at hst
            dsimp only at hst
            refine hst H1.out H2.out H3.out H4.out ⟨hn.1, by omega⟩ hn.2.2.1 (by rw [← HC0.out]; exact hown) ⟨D4, M' + ll, by omega, ?_, HM4.out⟩ (fun b0 hb0 n1 n2 => ?_) (by have := HBW3.out.size; omega)
            · exact (HN4.out.setCell (a := ⟨(wr.heap.size + 1 + 1), 0, none⟩) (show nb ≠ (wr.heap.size + 1 + 1) by omega) _).kept hgrow (by simp; omega)
            · have e1 := hgrow.block b0 (by rw [hz5]; have := HBW3.out.size; omega) (by simpa using n1)
              have e2 : (w4.setCell ⟨(wr.heap.size + 1 + 1), 0, none⟩ (.int .i64 (xs + 1))).heap[b0]? = w4.heap[b0]? := by
                simp only [World.setCell]
                rw [Array.getElem?_modify, if_neg (by omega)]
              have e3 := HG4.out.block b0 (by have := HBW3.out.size; omega) (by simpa using n2)
              exact ((e1.trans e2).trans e3).trans (HBW3.out.block b0 hb0))
          have HB6 : Hid (Below w.heap.size w w6) := hid_intro ((HB4.out.setCell (p := ⟨(wr.heap.size + 1 + 1), 0, none⟩) (show w.heap.size ≤ (wr.heap.size + 1 + 1) by have := HB.out.size; omega) _).grown hgrow (by have := HB4.out.size; simpa using this) (fun k e => by cases e; exact Nat.le_refl _))
          clear a2 a3 a1l p0 p1 p2l r0 r1 rf r3l
          clear hown hgrow q0 q1 t0 t1
          go_wp2_with fail
          go_roundw
          case rel => exact ⟨k + 1, by omega, by go_num, HRS, HSK, HB6⟩
          case measure => simp [intOf]; omega
        · have hq : (xs != c) = true := by simpa using hsq
          have HE := hid_intro (HDN.out (.inr hsq))
          have a2 : w3.cell? ⟨wr.heap.size, 2, none⟩ = some (.int .i64 xs) := X1.out.1.2 2 (by simp)
          have a3 : w3.cell? ⟨wr.heap.size, 3, none⟩ = some (.slice la ll lc) := X1.out.1.2 3 (by simp)
          have a1l := X1.out.1.1
          have p0 : w3.cell? ⟨(wr.heap.size + 1), 0, none⟩ = some (.string xa) := X2.out.1.2 0 (by simp)
          have p1 : w3.cell? ⟨(wr.heap.size + 1), 1, none⟩ = some (.int .i64 xm) := X2.out.1.2 1 (by simp)
          have p2l := X2.out.1.1
          have r0 : w3.cell? ⟨(wr.heap.size + 1 + 1), 0, none⟩ = some (.int .i64 c) := X3.out.1.2 0 (by simp)
          have r1 : w3.cell? ⟨(wr.heap.size + 1 + 1), 1, none⟩ = some (.map (some nb)) := X3.out.1.2 1 (by simp)
          have rf : w3.frozen? ⟨(wr.heap.size + 1 + 1), 0, none⟩ = false := X3.out.2 0 (by simp)
          have r3l := X3.out.1.1
          go_wp2_with fail
          try go_ret2
          exact HNO.out _ _ HE.out HB3.out
    · have hlt2 : ¬ (k : Int) < (len : Int) := by omega
      obtain rfl : k = len := by omega
      have HT : Hid (ds.take k = ds) := hid_intro (List.take_of_length_le (by have := HL.out; omega))
      rw [HT.out] at HR
      obtain ⟨Wo, hWo⟩ : ∃ Wo, Wo = wr := ⟨_, rfl⟩
      subst hWo
      have HRK := HR
      obtain ⟨Dm, f, h1, h2, h3, h4⟩ := HR.out
      have HO := hid_intro h1
      have H2 := hid_intro h2
      have H3 := hid_intro h3
      have hrb := h1.lt
      clear h1 h2 h3 h4 HR
      have HNK : Hid (∀ a m, cnt ds a m ≠ 0 → ovB (net ds a m) = false → lB ds = false) := hid_intro (fun a m hc h => lB_no (fun hr => by
        obtain ⟨i, hi, rfl, rfl⟩ := mem_cnt hc
        have := hr.2.2 i hi
        rw [h] at this
        cases this))
      have HYK : Hid ((∀ a m, cnt ds a m ≠ 0 → ovB (net ds a m) = true) → lB ds = true) := hid_intro (fun h => lB_yes ⟨by have := HL.out; omega, by have := HS.out; rw [HL.out] at this; exact this, fun i hi => h _ _ (cnt_mem hi)⟩)
      go_wp2_with (at_range; refine wpList_range_own _ rfl _ 54 rfl 61 67 keyedP Tryz.underlying54 _ w.heap.size k Dm rfl HO.out ?_; intro w0 hrg0 hg0 hs0)
      have HB0 : Hid (Below Wo.heap.size Wo w0) := hid_intro ((Below.refl _ _).grown hg0 (Nat.le_refl _) (fun k e => by cases e))
      clear hg0 hs0
      try go_frame
      go_loopw [2] (fun v2 wr => ∃ (left : Lit → Bool) (cn : Nat), wr.ranges Tryz.prog 61 RV w.heap.size Wo.heap.size k Dm left cn ∧ Hid (∀ a m, cnt ds a m ≠ 0 → left (kP a m) = false → ovB (net ds a m) = true) ∧ Hid (Below Wo.heap.size Wo wr)) (fun _ wr => wr.rangeLeft w.heap.size Wo.heap.size)
      case atStart => exact ⟨_, _, hrg0, hid_intro (fun a m hc h => by rw [Maps.has_true_of_atKey (H3.out a m hc).2.1] at h; cases h), HB0⟩
      case round =>
        obtain ⟨left, cn, hrg, HLf, HBo⟩ := hrel
        have HRG := hid_intro hrg
        have hmeas := hrg.left_eq
        clear hrg hrg0 HB0
        have HBa := hid_intro (HB.out.trans (HBo.out.mono HB.out.size))
        go_wp2_with (at_next; refine wpList_next_ranges _ rfl _ rfl 61 keyedP _ (fun v : Value => v) (fun v : Value => v) (fun key kl h => ⟨key, rfl⟩) (fun v y h => ⟨v, rfl⟩) w.heap.size Wo.heap.size k Dm left cn rfl HRG.out ?_ ?_)
        · intro hc0 hl0
          have HE := hid_intro (HYK.out (fun a m hc => HLf.out a m hc (hl0 _)))
          have HRW := hid_intro (HRK.out.kept HBo.out)
          clear hl0
          go_wp2_with fail
          try go_ret2
          exact HYES.out k _ HE.out HBa.out HRW.out
        · intro x c kl yd yp w' cnt' hkey hlk hv hat hrg' hlt3 hgr hsz hen
          simp only [RV, Option.some.injEq, Prod.mk.injEq] at hv
          obtain ⟨rfl, _⟩ := hv
          obtain ⟨a, m, hgd, rfl, hcn⟩ := H2.out kl (Maps.has_true_of_atKey hat)
          obtain ⟨_, q1, q2, q3, Dn, M', q4, q5, q6⟩ := H3.out a m hcn
          obtain rfl : c = .agg #[.int .i64 (cnt ds a m : Nat), .map (some (f a m))] := by
            have h := (hat (.held undef)).symm.trans (q1 _)
            simpa using h
          have HB1 := hid_intro (HBo.out.grown hgr HBo.out.size (fun k e => by cases e; exact Nat.le_refl _))
          have HBb := hid_intro (HB.out.trans (HB1.out.mono HB.out.size))
          have HRG1 := hid_intro hrg'
          have hms := hrg'.left_eq
          have HOV := hid_intro (fun o => over_any (f a m) M' Dn (net ds a m) (w'.alloc o) ((omap_below q5 HB1.out).alloc o) q6)
          have HNO2 : Hid (ovB (net ds a m) = false → lB ds = false) := hid_intro (HNK.out a m hcn)
          have HL2 : Hid (ovB (net ds a m) = true → ∀ a' m', cnt ds a' m' ≠ 0 → (left (kP a' m') && !(kP a' m').sameKey (kP a m)) = false → ovB (net ds a' m') = true) := hid_intro (fun h a' m' hc' h2 => by
            cases h3 : left (kP a' m')
            · exact HLf.out a' m' hc' h3
            · rw [h3] at h2
              simp only [Bool.true_and, Bool.not_eq_false'] at h2
              obtain ⟨rfl, rfl⟩ := kP_inj (H3.out a' m' hc').1 hgd (WideAt.sameKey_eq h2)
              exact h)
          clear hkey hlk hat hrg' hgr q1 q2 q3 q4 q5 q6 HRG HLf HBo HBa
          generalize ovB (net ds a m) = r at *
          generalize ((cnt ds a m : Nat) : Int) = cc at *
          generalize f a m = nb at *
          cases r
          · have HE := hid_intro (HNO2.out rfl)
            go_wp2_with fail
            refine (HOV.out _).mono ?_
            rintro e w5 ⟨rfl, hb5⟩
            have HB5 := hid_intro (HBb.out.trans (((al w' _).trans (hb5.mono (by simp))).mono HBb.out.size))
            clear hb5
            simp only [ovE, Bool.false_eq_true, if_false]
            go_wp2_with fail
            try go_ret2
            exact HNO.out _ _ HE.out HB5.out
          · have HE := hid_intro (HL2.out rfl)
            have HRA := hid_intro (fun o => HRG1.out.alloc o)
            go_wp2_with fail
            refine (HOV.out _).mono ?_
            rintro e w5 ⟨rfl, hb5⟩
            have HB5 := hid_intro (HB1.out.trans (((al w' _).trans (hb5.mono (by simp))).mono HB1.out.size))
            have HR5 := hid_intro ((HRA.out _).kept (row := none) ⟨hb5.os, hb5.tape, hb5.output, hb5.size, fun k hk _ => hb5.block k hk⟩ (by simp) (by simp))
            have hm5 := HR5.out.left_eq
            clear hb5 hms
            simp only [ovE, if_true]
            go_wp2_with fail
            go_roundw
            case rel => exact ⟨_, _, HR5.out, HE, HB5⟩
            case measure => rw [hm5, hmeas]; exact hlt3
end LedR
end Go.Proofs.YtlfebpgohpmknaaGreatDoor
namespace Go.Proofs.YtlfebpgohpmknaaGreatDoor
open Go.ChangeShapes Go.WideShapes Go.ChangeAt Go.RowKit
set_option linter.unusedVariables false
namespace LedR
open LinR RowG LtR NetR DocR
/-- What is held while a document is asked. -/
def QB (w : World) (b o : Nat) (xa : ByteArray) (xm xs : Int) (la : Option Addr) (ll lc : Nat) (W : World) : Prop := Below w.heap.size w W ∧ b < W.heap.size ∧ W.cell? ⟨b, o, none⟩ = some (.string xa) ∧ W.cell? ⟨b, o + 1, none⟩ = some (.int .i64 xm) ∧ W.cell? ⟨b, o + 2, none⟩ = some (.int .i64 xs) ∧ W.cell? ⟨b, o + 3, none⟩ = some (.slice la ll lc)
theorem QB.below {w : World} {b o : Nat} {xa : ByteArray} {xm xs : Int} {la : Option Addr} {ll lc : Nat} {W W' : World} (h : QB w b o xa xm xs la ll lc W) (hb : Below W.heap.size W W') : QB w b o xa xm xs la ll lc W' := by
  obtain ⟨h0, hl, p0, p1, p2, p3⟩ := h
  have f := fun x => hb.cell (p := ⟨b, x, none⟩) hl
  exact ⟨h0.trans (hb.mono h0.size), by have := hb.size; omega, (f _).trans p0, (f _).trans p1, (f _).trans p2, (f _).trans p3⟩
set_option maxRecDepth 100000 in
set_option maxHeartbeats 8000000 in
theorem spec_ledger (ao : Option Addr) (cap : Nat) (ds : List D) (w : World) (hlen : ds.length ≤ 1048576) (hSm : ∀ d ∈ ds, d.Sm) (hI : Dcs ao ds w) :
    Calls Tryz.prog 21 #[.slice ao ds.length cap] w fun e w' => e = .returned (.bool (lB ds)) ∧ Below w.heap.size w w' := by
  have HI := hid_intro hI
  have HSm := hid_intro hSm
  obtain ⟨len, hl⟩ : ∃ len, len = ds.length := ⟨_, rfl⟩
  obtain ⟨R, hR⟩ : ∃ R, lB ds = R := ⟨_, rfl⟩
  rw [hR, ← hl]
  rw [← hl] at hlen
  have HR := hid_intro hR
  have HL := hid_intro hl
  clear hI hSm hl hR
  by_cases hbig : 30 < len
  · have hbig2 : (30 : Int) < (len : Int) := by omega
    have HE : Hid (R = false) := hid_intro (by rw [← HR.out]; exact lB_no (fun h => by have := h.1; have := HL.out; omega))
    go_enter Tryz.func21, Tryz.ntmps21
    go_wp2_with fail
    go_ret
    exact ⟨by rw [HE.out]; rfl, Below.refl _ _⟩
  have hbig2 : ¬ (30 : Int) < (len : Int) := by omega
  go_enter Tryz.func21, Tryz.ntmps21
  go_wp2_with fail
  go_loopw [3] (fun z wr => ∃ k : Nat, k ≤ len ∧ z = .int .i64 k ∧ Hid (SOk ds k) ∧ Hid (Below w.heap.size w wr)) (fun z _ => len - (intOf z).toNat)
  case atStart => exact ⟨0, by omega, rfl, hid_intro (SOk.zero ds), hid_intro (Below.refl _ _)⟩
  case round =>
    obtain ⟨k, hk, rfl, HS, HB⟩ := hrel
    by_cases hlt : k < len
    · have hlt2 : (k : Int) < (len : Int) := by omega
      have hkl : k < ds.length := by have := HL.out; omega
      obtain ⟨b, off, la, lc, rfl, hbl, c0, c1, c2, c3, hLi⟩ := (HI.out.below HB.out).at k hkl
      have hmem := getD_mem (z := D.zero) ds k hkl
      have HX := hid_intro (HSm.out _ hmem)
      have HLi := hid_intro hLi
      obtain ⟨X, hX⟩ : ∃ X, X = ds.getD k D.zero := ⟨_, rfl⟩
      rw [← hX] at c0 c1 c2 c3 HX HLi
      have HXX := hid_intro hX
      clear hX hLi hmem
      obtain ⟨xa, xm, xs, xl⟩ := X
      dsimp only at c0 c1 c2 c3
      have HC : Hid (∀ W, Below w.heap.size w W → Calls Tryz.prog 51 #[.slice (some ⟨b, off, none⟩) len cap, .int .i64 k, .string xa, .int .i64 xm] W fun e w' => e = .returned (.int .i64 (cnt (ds.take k) xa xm : Nat)) ∧ Below W.heap.size W w') := hid_intro (fun W hW => by have h := scount (some ⟨b, off, none⟩) cap ds k xa xm W (by omega) (by have := HL.out; omega) (HI.out.below hW); rw [← HL.out] at h; exact h)
      generalize hxl : xl.length = ll at *
      have HD : Hid (Calls Tryz.prog 19 #[.agg #[.string xa, .int .i64 xm, .int .i64 xs, .slice la ll lc]] wr.drew fun e w' => e = .returned (.bool (dB ⟨xa, xm, xs, xl⟩)) ∧ Below wr.drew.heap.size wr.drew w') := hid_intro (by
        have h := spec_doc ⟨xa, xm, xs, xl⟩ la lc wr.drew HX.out (HLi.out.below (Below.refl _ _).drew)
        simp only [dcells, hxl] at h
        exact h)
      have HDN : Hid (dB ⟨xa, xm, xs, xl⟩ = false ∨ xs ≠ ((cnt (ds.take k) xa xm : Nat) : Int) → R = false) := hid_intro (fun h => by rw [← HR.out]; exact lB_no (fun hr => by
        have h1 := hr.2.1 k hkl
        rw [← HXX.out] at h1
        rcases h with h | h
        · rw [h] at h1; exact absurd h1.1 (by simp)
        · exact h h1.2))
      have HSO : Hid (dB ⟨xa, xm, xs, xl⟩ = true → xs = ((cnt (ds.take k) xa xm : Nat) : Int) → SOk ds (k + 1)) := hid_intro (fun h1 h2 => HS.out.more (by rw [← HXX.out]; exact h1) (by rw [← HXX.out]; exact h2))
      have HS0 : Hid (QB w b (off + k * 4) xa xm xs la ll lc wr.drew) := hid_intro ⟨HB.out.drew, hbl, c0, c1, c2, c3⟩
      generalize dB ⟨xa, xm, xs, xl⟩ = r at *
      generalize ((cnt (ds.take k) xa xm : Nat) : Int) = cc at *
      clear c0 c1 c2 c3 HX HLi
      cases r
      · have HE := hid_intro (HDN.out (.inl rfl))
        go_wp2_with fail
        refine wp_region_held_drew (S := (fun W => Below w.heap.size w W ∧ b < W.heap.size ∧ W.cell? ⟨b, off + k * 4, none⟩ = some (.string xa) ∧ W.cell? ⟨b, off + k * 4 + 1, none⟩ = some (.int .i64 xm) ∧ W.cell? ⟨b, off + k * 4 + 2, none⟩ = some (.int .i64 xs) ∧ W.cell? ⟨b, off + k * 4 + 3, none⟩ = some (.slice la ll lc))) (by kernel_rfl) HS0.out (fun hHeld => ?_)
        refine wpAnyH_take (i := 0) (oi := { dst := some 16, op := Op.move (Operand.tmp 0), type := 23, pos := "l09_ledger.go:69", after := #[], guard := none }) (v := ?_) rfl (by kernel_rfl) (by kernel_rfl) (by kernel_rfl) (fun _ _ _ h => h) (Or.inl ⟨by rfl, ?_⟩) (by assumption) ?_
        rotate_left
        · (intro w hSw; (try dsimp only at hSw); go_simp) <;> with_reducible rfl
        try simp only [Act.put, List.setIfInBounds_toArray, List.set_cons_zero, List.set_cons_succ]
        refine wpAnyH_take (i := 1) (oi := { dst := some 17, op := Op.move (Operand.tmp 3), type := 3, pos := "l09_ledger.go:69", after := #[], guard := none }) (v := ?_) rfl (by kernel_rfl) (by kernel_rfl) (by kernel_rfl) (fun _ _ _ h => h) (Or.inl ⟨by rfl, ?_⟩) (by assumption) ?_
        rotate_left
        · (intro w hSw; (try dsimp only at hSw); go_simp) <;> with_reducible rfl
        try simp only [Act.put, List.setIfInBounds_toArray, List.set_cons_zero, List.set_cons_succ]
        refine wpAnyH_take (i := 2) (oi := { dst := some 18, op := Op.indexAddr 23 (Operand.tmp 16) (Operand.tmp 17), type := 0, pos := "l09_ledger.go:69", after := #[{ on := 0, ground := Ground.data }, { on := 1, ground := Ground.data }], guard := none }) (v := ?_) rfl (by kernel_rfl) (by kernel_rfl) (by kernel_rfl) (fun _ _ _ h => h) (Or.inl ⟨by rfl, ?_⟩) (by assumption) ?_
        rotate_left
        · (intro w hSw; (try dsimp only at hSw); go_simp) <;> with_reducible rfl
        try simp only [Act.put, List.setIfInBounds_toArray, List.set_cons_zero, List.set_cons_succ]
        refine wpAnyH_take (i := 3) (oi := { dst := some 19, op := Op.load 28 (Operand.tmp 18), type := 28, pos := "l09_ledger.go:69", after := #[{ on := 2, ground := Ground.data }], guard := none }) (v := ?_) rfl (by kernel_rfl) (by kernel_rfl) (by kernel_rfl) (fun _ _ _ h => h) (Or.inl ⟨by rfl, ?_⟩) (by assumption) ?_
        rotate_left
        · (intro w hSw; (try dsimp only at hSw); go_simp) <;> with_reducible rfl
        try simp only [Act.put, List.setIfInBounds_toArray, List.set_cons_zero, List.set_cons_succ]
        refine wpAnyH_ready (rs := [4]) (by kernel_rfl) (by simp) ?_
        refine AllReadyH.cons (o := { dst := some 20, op := Op.call { callee := Callee.value (Operand.func 19), args := #[Operand.tmp 19], argTypes := #[28] }, type := 4, pos := "l09_ledger.go:69", after := #[{ on := 3, ground := Ground.data }], guard := none }) rfl (fun K hK => ?_) AllReadyH.nil
        go_simp
        go_at_call 19
        refine HD.out.mono ?_
        rintro e q1 ⟨rfl, hq1⟩
        try go_wp2_with fail
        have hk1 := QB.below (w := w) (b := b) (o := off + k * 4) (xa := xa) (xm := xm) (xs := xs) (la := la) (ll := ll) (lc := lc) HS0.out hq1
        refine hK.out _ _ hk1 (fun _ => ?_)
        clear hK K
        try simp only [Act.put, List.setIfInBounds_toArray, List.set_cons_zero, List.set_cons_succ]
        refine wpAnyH_take (i := 5) (oi := { dst := some 21, op := Op.unOp UnOp.not 4 (Operand.tmp 20), type := 4, pos := "l09_ledger.go:69", after := #[{ on := 4, ground := Ground.data }], guard := none }) (v := ?_) rfl (by kernel_rfl) (by kernel_rfl) (by kernel_rfl) (fun _ _ _ h => h) (Or.inl ⟨by rfl, ?_⟩) (by assumption) ?_
        rotate_left
        · (intro w hSw; (try dsimp only at hSw); go_simp) <;> with_reducible rfl
        try simp only [Act.put, List.setIfInBounds_toArray, List.set_cons_zero, List.set_cons_succ]
        refine wpAnyH_take (i := 6) (oi := { dst := some 22, op := Op.move (Operand.tmp 21), type := 4, pos := "l09_ledger.go:69", after := #[{ on := 5, ground := Ground.data }, { on := 4, ground := Ground.chain }], guard := none }) (v := ?_) rfl (by kernel_rfl) (by kernel_rfl) (by kernel_rfl) (fun _ _ _ h => h) (Or.inl ⟨by rfl, ?_⟩) (by assumption) ?_
        rotate_left
        · (intro w hSw; (try dsimp only at hSw); go_simp) <;> with_reducible rfl
        try simp only [Act.put, List.setIfInBounds_toArray, List.set_cons_zero, List.set_cons_succ]
        refine wpAnyH_take (i := 7) (oi := { dst := some 23, op := Op.move (Operand.tmp 0), type := 23, pos := "l09_ledger.go:69", after := #[{ on := 6, ground := Ground.guard }], guard := some (6, false) }) (v := undef) rfl (by kernel_rfl) (by kernel_rfl) (by kernel_rfl) (fun _ _ _ h => h) (Or.inr ⟨by rfl, rfl⟩) (by assumption) ?_
        try simp only [Act.put, List.setIfInBounds_toArray, List.set_cons_zero, List.set_cons_succ]
        refine wpAnyH_take (i := 8) (oi := { dst := some 24, op := Op.move (Operand.tmp 3), type := 3, pos := "l09_ledger.go:69", after := #[{ on := 6, ground := Ground.guard }], guard := some (6, false) }) (v := undef) rfl (by kernel_rfl) (by kernel_rfl) (by kernel_rfl) (fun _ _ _ h => h) (Or.inr ⟨by rfl, rfl⟩) (by assumption) ?_
        try simp only [Act.put, List.setIfInBounds_toArray, List.set_cons_zero, List.set_cons_succ]
        refine wpAnyH_take (i := 9) (oi := { dst := some 25, op := Op.indexAddr 23 (Operand.tmp 23) (Operand.tmp 24), type := 0, pos := "l09_ledger.go:69", after := #[{ on := 7, ground := Ground.data }, { on := 8, ground := Ground.data }, { on := 6, ground := Ground.guard }], guard := some (6, false) }) (v := undef) rfl (by kernel_rfl) (by kernel_rfl) (by kernel_rfl) (fun _ _ _ h => h) (Or.inr ⟨by rfl, rfl⟩) (by assumption) ?_
        try simp only [Act.put, List.setIfInBounds_toArray, List.set_cons_zero, List.set_cons_succ]
        refine wpAnyH_take (i := 10) (oi := { dst := some 26, op := Op.fieldAddr 28 (Operand.tmp 25) 2, type := 0, pos := "l09_ledger.go:69", after := #[{ on := 9, ground := Ground.data }, { on := 6, ground := Ground.guard }], guard := some (6, false) }) (v := undef) rfl (by kernel_rfl) (by kernel_rfl) (by kernel_rfl) (fun _ _ _ h => h) (Or.inr ⟨by rfl, rfl⟩) (by assumption) ?_
        try simp only [Act.put, List.setIfInBounds_toArray, List.set_cons_zero, List.set_cons_succ]
        refine wpAnyH_take (i := 11) (oi := { dst := some 27, op := Op.load 2 (Operand.tmp 26), type := 2, pos := "l09_ledger.go:69", after := #[{ on := 10, ground := Ground.data }, { on := 6, ground := Ground.guard }], guard := some (6, false) }) (v := undef) rfl (by kernel_rfl) (by kernel_rfl) (by kernel_rfl) (fun _ _ _ h => h) (Or.inr ⟨by rfl, rfl⟩) (by assumption) ?_
        try simp only [Act.put, List.setIfInBounds_toArray, List.set_cons_zero, List.set_cons_succ]
        refine wpAnyH_take (i := 12) (oi := { dst := some 28, op := Op.move (Operand.tmp 0), type := 23, pos := "l09_ledger.go:69", after := #[{ on := 6, ground := Ground.guard }], guard := some (6, false) }) (v := undef) rfl (by kernel_rfl) (by kernel_rfl) (by kernel_rfl) (fun _ _ _ h => h) (Or.inr ⟨by rfl, rfl⟩) (by assumption) ?_
        try simp only [Act.put, List.setIfInBounds_toArray, List.set_cons_zero, List.set_cons_succ]
        refine wpAnyH_take (i := 13) (oi := { dst := some 29, op := Op.move (Operand.tmp 3), type := 3, pos := "l09_ledger.go:69", after := #[{ on := 6, ground := Ground.guard }], guard := some (6, false) }) (v := undef) rfl (by kernel_rfl) (by kernel_rfl) (by kernel_rfl) (fun _ _ _ h => h) (Or.inr ⟨by rfl, rfl⟩) (by assumption) ?_
        try simp only [Act.put, List.setIfInBounds_toArray, List.set_cons_zero, List.set_cons_succ]
        refine wpAnyH_take (i := 14) (oi := { dst := some 30, op := Op.move (Operand.tmp 0), type := 23, pos := "l09_ledger.go:69", after := #[{ on := 6, ground := Ground.guard }], guard := some (6, false) }) (v := undef) rfl (by kernel_rfl) (by kernel_rfl) (by kernel_rfl) (fun _ _ _ h => h) (Or.inr ⟨by rfl, rfl⟩) (by assumption) ?_
        try simp only [Act.put, List.setIfInBounds_toArray, List.set_cons_zero, List.set_cons_succ]
        refine wpAnyH_take (i := 15) (oi := { dst := some 31, op := Op.move (Operand.tmp 3), type := 3, pos := "l09_ledger.go:69", after := #[{ on := 6, ground := Ground.guard }], guard := some (6, false) }) (v := undef) rfl (by kernel_rfl) (by kernel_rfl) (by kernel_rfl) (fun _ _ _ h => h) (Or.inr ⟨by rfl, rfl⟩) (by assumption) ?_
        try simp only [Act.put, List.setIfInBounds_toArray, List.set_cons_zero, List.set_cons_succ]
        refine wpAnyH_take (i := 16) (oi := { dst := some 32, op := Op.indexAddr 23 (Operand.tmp 30) (Operand.tmp 31), type := 0, pos := "l09_ledger.go:69", after := #[{ on := 14, ground := Ground.data }, { on := 15, ground := Ground.data }, { on := 6, ground := Ground.guard }], guard := some (6, false) }) (v := undef) rfl (by kernel_rfl) (by kernel_rfl) (by kernel_rfl) (fun _ _ _ h => h) (Or.inr ⟨by rfl, rfl⟩) (by assumption) ?_
        try simp only [Act.put, List.setIfInBounds_toArray, List.set_cons_zero, List.set_cons_succ]
        refine wpAnyH_take (i := 17) (oi := { dst := some 33, op := Op.fieldAddr 28 (Operand.tmp 32) 0, type := 0, pos := "l09_ledger.go:69", after := #[{ on := 16, ground := Ground.data }, { on := 6, ground := Ground.guard }], guard := some (6, false) }) (v := undef) rfl (by kernel_rfl) (by kernel_rfl) (by kernel_rfl) (fun _ _ _ h => h) (Or.inr ⟨by rfl, rfl⟩) (by assumption) ?_
        try simp only [Act.put, List.setIfInBounds_toArray, List.set_cons_zero, List.set_cons_succ]
        refine wpAnyH_take (i := 18) (oi := { dst := some 34, op := Op.load 9 (Operand.tmp 33), type := 9, pos := "l09_ledger.go:69", after := #[{ on := 17, ground := Ground.data }, { on := 6, ground := Ground.guard }], guard := some (6, false) }) (v := undef) rfl (by kernel_rfl) (by kernel_rfl) (by kernel_rfl) (fun _ _ _ h => h) (Or.inr ⟨by rfl, rfl⟩) (by assumption) ?_
        try simp only [Act.put, List.setIfInBounds_toArray, List.set_cons_zero, List.set_cons_succ]
        refine wpAnyH_take (i := 19) (oi := { dst := some 35, op := Op.move (Operand.tmp 0), type := 23, pos := "l09_ledger.go:69", after := #[{ on := 6, ground := Ground.guard }], guard := some (6, false) }) (v := undef) rfl (by kernel_rfl) (by kernel_rfl) (by kernel_rfl) (fun _ _ _ h => h) (Or.inr ⟨by rfl, rfl⟩) (by assumption) ?_
        try simp only [Act.put, List.setIfInBounds_toArray, List.set_cons_zero, List.set_cons_succ]
        refine wpAnyH_take (i := 20) (oi := { dst := some 36, op := Op.move (Operand.tmp 3), type := 3, pos := "l09_ledger.go:69", after := #[{ on := 6, ground := Ground.guard }], guard := some (6, false) }) (v := undef) rfl (by kernel_rfl) (by kernel_rfl) (by kernel_rfl) (fun _ _ _ h => h) (Or.inr ⟨by rfl, rfl⟩) (by assumption) ?_
        try simp only [Act.put, List.setIfInBounds_toArray, List.set_cons_zero, List.set_cons_succ]
        refine wpAnyH_take (i := 21) (oi := { dst := some 37, op := Op.indexAddr 23 (Operand.tmp 35) (Operand.tmp 36), type := 0, pos := "l09_ledger.go:69", after := #[{ on := 19, ground := Ground.data }, { on := 20, ground := Ground.data }, { on := 6, ground := Ground.guard }], guard := some (6, false) }) (v := undef) rfl (by kernel_rfl) (by kernel_rfl) (by kernel_rfl) (fun _ _ _ h => h) (Or.inr ⟨by rfl, rfl⟩) (by assumption) ?_
        try simp only [Act.put, List.setIfInBounds_toArray, List.set_cons_zero, List.set_cons_succ]
        refine wpAnyH_take (i := 22) (oi := { dst := some 38, op := Op.fieldAddr 28 (Operand.tmp 37) 1, type := 0, pos := "l09_ledger.go:69", after := #[{ on := 21, ground := Ground.data }, { on := 6, ground := Ground.guard }], guard := some (6, false) }) (v := undef) rfl (by kernel_rfl) (by kernel_rfl) (by kernel_rfl) (fun _ _ _ h => h) (Or.inr ⟨by rfl, rfl⟩) (by assumption) ?_
        try simp only [Act.put, List.setIfInBounds_toArray, List.set_cons_zero, List.set_cons_succ]
        refine wpAnyH_take (i := 23) (oi := { dst := some 39, op := Op.load 2 (Operand.tmp 38), type := 2, pos := "l09_ledger.go:69", after := #[{ on := 22, ground := Ground.data }, { on := 6, ground := Ground.guard }], guard := some (6, false) }) (v := undef) rfl (by kernel_rfl) (by kernel_rfl) (by kernel_rfl) (fun _ _ _ h => h) (Or.inr ⟨by rfl, rfl⟩) (by assumption) ?_
        try simp only [Act.put, List.setIfInBounds_toArray, List.set_cons_zero, List.set_cons_succ]
        refine wpAnyH_take (i := 24) (oi := { dst := some 40, op := Op.call { callee := Callee.value (Operand.func 51), args := #[Operand.tmp 28, Operand.tmp 29, Operand.tmp 34, Operand.tmp 39], argTypes := #[23, 3, 9, 2] }, type := 2, pos := "l09_ledger.go:69", after := #[{ on := 12, ground := Ground.data }, { on := 13, ground := Ground.data }, { on := 18, ground := Ground.data }, { on := 23, ground := Ground.data }, { on := 6, ground := Ground.chain }, { on := 6, ground := Ground.guard }], guard := some (6, false) }) (v := undef) rfl (by kernel_rfl) (by kernel_rfl) (by kernel_rfl) (fun _ _ _ h => h) (Or.inr ⟨by rfl, rfl⟩) (by assumption) ?_
        try simp only [Act.put, List.setIfInBounds_toArray, List.set_cons_zero, List.set_cons_succ]
        refine wpAnyH_take (i := 25) (oi := { dst := some 41, op := Op.binOp BinOp.neq 2 (Operand.tmp 27) (Operand.tmp 40) 2, type := 4, pos := "l09_ledger.go:69", after := #[{ on := 11, ground := Ground.data }, { on := 24, ground := Ground.data }, { on := 6, ground := Ground.guard }], guard := some (6, false) }) (v := undef) rfl (by kernel_rfl) (by kernel_rfl) (by kernel_rfl) (fun _ _ _ h => h) (Or.inr ⟨by rfl, rfl⟩) (by assumption) ?_
        try simp only [Act.put, List.setIfInBounds_toArray, List.set_cons_zero, List.set_cons_succ]
        refine wpAnyH_take (i := 26) (oi := { dst := some 42, op := Op.pick (Operand.tmp 22) (Operand.const (Value.bool true)) (Operand.tmp 41), type := 4, pos := "l09_ledger.go:69", after := #[{ on := 6, ground := Ground.data }, { on := 25, ground := Ground.data }], guard := none }) (v := ?_) rfl (by kernel_rfl) (by kernel_rfl) (by kernel_rfl) (fun _ _ _ h => h) (Or.inl ⟨by rfl, ?_⟩) (by assumption) ?_
        rotate_left
        · (intro w hSw; (try dsimp only at hSw); go_simp) <;> with_reducible rfl
        try simp only [Act.put, List.setIfInBounds_toArray, List.set_cons_zero, List.set_cons_succ]
        refine wpAnyH_done (by kernel_rfl) ?_ _
        have HBQ := hid_intro hk1.1
        clear hk1
        go_wp2_with fail
        go_ret
        exact ⟨by rw [HE.out]; rfl, HBQ.out⟩
      by_cases hsq : xs = cc
      · have HE := hid_intro (HSO.out rfl hsq)
        have hq : (xs != cc) = false := by simpa using hsq
        clear hsq HDN HSO
        go_wp2_with fail
        refine wp_region_held_drew (S := (fun W => Below w.heap.size w W ∧ b < W.heap.size ∧ W.cell? ⟨b, off + k * 4, none⟩ = some (.string xa) ∧ W.cell? ⟨b, off + k * 4 + 1, none⟩ = some (.int .i64 xm) ∧ W.cell? ⟨b, off + k * 4 + 2, none⟩ = some (.int .i64 xs) ∧ W.cell? ⟨b, off + k * 4 + 3, none⟩ = some (.slice la ll lc))) (by kernel_rfl) HS0.out (fun hHeld => ?_)
        refine wpAnyH_take (i := 0) (oi := { dst := some 16, op := Op.move (Operand.tmp 0), type := 23, pos := "l09_ledger.go:69", after := #[], guard := none }) (v := ?_) rfl (by kernel_rfl) (by kernel_rfl) (by kernel_rfl) (fun _ _ _ h => h) (Or.inl ⟨by rfl, ?_⟩) (by assumption) ?_
        rotate_left
        · (intro w hSw; (try dsimp only at hSw); go_simp) <;> with_reducible rfl
        try simp only [Act.put, List.setIfInBounds_toArray, List.set_cons_zero, List.set_cons_succ]
        refine wpAnyH_take (i := 1) (oi := { dst := some 17, op := Op.move (Operand.tmp 3), type := 3, pos := "l09_ledger.go:69", after := #[], guard := none }) (v := ?_) rfl (by kernel_rfl) (by kernel_rfl) (by kernel_rfl) (fun _ _ _ h => h) (Or.inl ⟨by rfl, ?_⟩) (by assumption) ?_
        rotate_left
        · (intro w hSw; (try dsimp only at hSw); go_simp) <;> with_reducible rfl
        try simp only [Act.put, List.setIfInBounds_toArray, List.set_cons_zero, List.set_cons_succ]
        refine wpAnyH_take (i := 2) (oi := { dst := some 18, op := Op.indexAddr 23 (Operand.tmp 16) (Operand.tmp 17), type := 0, pos := "l09_ledger.go:69", after := #[{ on := 0, ground := Ground.data }, { on := 1, ground := Ground.data }], guard := none }) (v := ?_) rfl (by kernel_rfl) (by kernel_rfl) (by kernel_rfl) (fun _ _ _ h => h) (Or.inl ⟨by rfl, ?_⟩) (by assumption) ?_
        rotate_left
        · (intro w hSw; (try dsimp only at hSw); go_simp) <;> with_reducible rfl
        try simp only [Act.put, List.setIfInBounds_toArray, List.set_cons_zero, List.set_cons_succ]
        refine wpAnyH_take (i := 3) (oi := { dst := some 19, op := Op.load 28 (Operand.tmp 18), type := 28, pos := "l09_ledger.go:69", after := #[{ on := 2, ground := Ground.data }], guard := none }) (v := ?_) rfl (by kernel_rfl) (by kernel_rfl) (by kernel_rfl) (fun _ _ _ h => h) (Or.inl ⟨by rfl, ?_⟩) (by assumption) ?_
        rotate_left
        · (intro w hSw; (try dsimp only at hSw); go_simp) <;> with_reducible rfl
        try simp only [Act.put, List.setIfInBounds_toArray, List.set_cons_zero, List.set_cons_succ]
        refine wpAnyH_ready (rs := [4]) (by kernel_rfl) (by simp) ?_
        refine AllReadyH.cons (o := { dst := some 20, op := Op.call { callee := Callee.value (Operand.func 19), args := #[Operand.tmp 19], argTypes := #[28] }, type := 4, pos := "l09_ledger.go:69", after := #[{ on := 3, ground := Ground.data }], guard := none }) rfl (fun K hK => ?_) AllReadyH.nil
        go_simp
        go_at_call 19
        refine HD.out.mono ?_
        rintro e q1 ⟨rfl, hq1⟩
        try go_wp2_with fail
        have hk1 := QB.below (w := w) (b := b) (o := off + k * 4) (xa := xa) (xm := xm) (xs := xs) (la := la) (ll := ll) (lc := lc) HS0.out hq1
        refine hK.out _ _ hk1 (fun _ => ?_)
        clear hK K
        try simp only [Act.put, List.setIfInBounds_toArray, List.set_cons_zero, List.set_cons_succ]
        refine wpAnyH_take (i := 5) (oi := { dst := some 21, op := Op.unOp UnOp.not 4 (Operand.tmp 20), type := 4, pos := "l09_ledger.go:69", after := #[{ on := 4, ground := Ground.data }], guard := none }) (v := ?_) rfl (by kernel_rfl) (by kernel_rfl) (by kernel_rfl) (fun _ _ _ h => h) (Or.inl ⟨by rfl, ?_⟩) (by assumption) ?_
        rotate_left
        · (intro w hSw; (try dsimp only at hSw); go_simp) <;> with_reducible rfl
        try simp only [Act.put, List.setIfInBounds_toArray, List.set_cons_zero, List.set_cons_succ]
        refine wpAnyH_take (i := 6) (oi := { dst := some 22, op := Op.move (Operand.tmp 21), type := 4, pos := "l09_ledger.go:69", after := #[{ on := 5, ground := Ground.data }, { on := 4, ground := Ground.chain }], guard := none }) (v := ?_) rfl (by kernel_rfl) (by kernel_rfl) (by kernel_rfl) (fun _ _ _ h => h) (Or.inl ⟨by rfl, ?_⟩) (by assumption) ?_
        rotate_left
        · (intro w hSw; (try dsimp only at hSw); go_simp) <;> with_reducible rfl
        try simp only [Act.put, List.setIfInBounds_toArray, List.set_cons_zero, List.set_cons_succ]
        refine wpAnyH_take (i := 7) (oi := { dst := some 23, op := Op.move (Operand.tmp 0), type := 23, pos := "l09_ledger.go:69", after := #[{ on := 6, ground := Ground.guard }], guard := some (6, false) }) (v := ?_) rfl (by kernel_rfl) (by kernel_rfl) (by kernel_rfl) (fun _ _ _ h => h) (Or.inl ⟨by rfl, ?_⟩) (by assumption) ?_
        rotate_left
        · (intro w hSw; (try dsimp only at hSw); go_simp) <;> with_reducible rfl
        try simp only [Act.put, List.setIfInBounds_toArray, List.set_cons_zero, List.set_cons_succ]
        refine wpAnyH_take (i := 8) (oi := { dst := some 24, op := Op.move (Operand.tmp 3), type := 3, pos := "l09_ledger.go:69", after := #[{ on := 6, ground := Ground.guard }], guard := some (6, false) }) (v := ?_) rfl (by kernel_rfl) (by kernel_rfl) (by kernel_rfl) (fun _ _ _ h => h) (Or.inl ⟨by rfl, ?_⟩) (by assumption) ?_
        rotate_left
        · (intro w hSw; (try dsimp only at hSw); go_simp) <;> with_reducible rfl
        try simp only [Act.put, List.setIfInBounds_toArray, List.set_cons_zero, List.set_cons_succ]
        refine wpAnyH_take (i := 9) (oi := { dst := some 25, op := Op.indexAddr 23 (Operand.tmp 23) (Operand.tmp 24), type := 0, pos := "l09_ledger.go:69", after := #[{ on := 7, ground := Ground.data }, { on := 8, ground := Ground.data }, { on := 6, ground := Ground.guard }], guard := some (6, false) }) (v := ?_) rfl (by kernel_rfl) (by kernel_rfl) (by kernel_rfl) (fun _ _ _ h => h) (Or.inl ⟨by rfl, ?_⟩) (by assumption) ?_
        rotate_left
        · (intro w hSw; (try dsimp only at hSw); go_simp) <;> with_reducible rfl
        try simp only [Act.put, List.setIfInBounds_toArray, List.set_cons_zero, List.set_cons_succ]
        refine wpAnyH_take (i := 10) (oi := { dst := some 26, op := Op.fieldAddr 28 (Operand.tmp 25) 2, type := 0, pos := "l09_ledger.go:69", after := #[{ on := 9, ground := Ground.data }, { on := 6, ground := Ground.guard }], guard := some (6, false) }) (v := ?_) rfl (by kernel_rfl) (by kernel_rfl) (by kernel_rfl) (fun _ _ _ h => h) (Or.inl ⟨by rfl, ?_⟩) (by assumption) ?_
        rotate_left
        · (intro w hSw; (try dsimp only at hSw); go_simp) <;> with_reducible rfl
        try simp only [Act.put, List.setIfInBounds_toArray, List.set_cons_zero, List.set_cons_succ]
        refine wpAnyH_take (i := 11) (oi := { dst := some 27, op := Op.load 2 (Operand.tmp 26), type := 2, pos := "l09_ledger.go:69", after := #[{ on := 10, ground := Ground.data }, { on := 6, ground := Ground.guard }], guard := some (6, false) }) (v := ?_) rfl (by kernel_rfl) (by kernel_rfl) (by kernel_rfl) (fun _ _ _ h => h) (Or.inl ⟨by rfl, ?_⟩) (by assumption) ?_
        rotate_left
        · (intro w hSw; (try dsimp only at hSw); go_simp) <;> with_reducible rfl
        try simp only [Act.put, List.setIfInBounds_toArray, List.set_cons_zero, List.set_cons_succ]
        refine wpAnyH_take (i := 12) (oi := { dst := some 28, op := Op.move (Operand.tmp 0), type := 23, pos := "l09_ledger.go:69", after := #[{ on := 6, ground := Ground.guard }], guard := some (6, false) }) (v := ?_) rfl (by kernel_rfl) (by kernel_rfl) (by kernel_rfl) (fun _ _ _ h => h) (Or.inl ⟨by rfl, ?_⟩) (by assumption) ?_
        rotate_left
        · (intro w hSw; (try dsimp only at hSw); go_simp) <;> with_reducible rfl
        try simp only [Act.put, List.setIfInBounds_toArray, List.set_cons_zero, List.set_cons_succ]
        refine wpAnyH_take (i := 13) (oi := { dst := some 29, op := Op.move (Operand.tmp 3), type := 3, pos := "l09_ledger.go:69", after := #[{ on := 6, ground := Ground.guard }], guard := some (6, false) }) (v := ?_) rfl (by kernel_rfl) (by kernel_rfl) (by kernel_rfl) (fun _ _ _ h => h) (Or.inl ⟨by rfl, ?_⟩) (by assumption) ?_
        rotate_left
        · (intro w hSw; (try dsimp only at hSw); go_simp) <;> with_reducible rfl
        try simp only [Act.put, List.setIfInBounds_toArray, List.set_cons_zero, List.set_cons_succ]
        refine wpAnyH_take (i := 14) (oi := { dst := some 30, op := Op.move (Operand.tmp 0), type := 23, pos := "l09_ledger.go:69", after := #[{ on := 6, ground := Ground.guard }], guard := some (6, false) }) (v := ?_) rfl (by kernel_rfl) (by kernel_rfl) (by kernel_rfl) (fun _ _ _ h => h) (Or.inl ⟨by rfl, ?_⟩) (by assumption) ?_
        rotate_left
        · (intro w hSw; (try dsimp only at hSw); go_simp) <;> with_reducible rfl
        try simp only [Act.put, List.setIfInBounds_toArray, List.set_cons_zero, List.set_cons_succ]
        refine wpAnyH_take (i := 15) (oi := { dst := some 31, op := Op.move (Operand.tmp 3), type := 3, pos := "l09_ledger.go:69", after := #[{ on := 6, ground := Ground.guard }], guard := some (6, false) }) (v := ?_) rfl (by kernel_rfl) (by kernel_rfl) (by kernel_rfl) (fun _ _ _ h => h) (Or.inl ⟨by rfl, ?_⟩) (by assumption) ?_
        rotate_left
        · (intro w hSw; (try dsimp only at hSw); go_simp) <;> with_reducible rfl
        try simp only [Act.put, List.setIfInBounds_toArray, List.set_cons_zero, List.set_cons_succ]
        refine wpAnyH_take (i := 16) (oi := { dst := some 32, op := Op.indexAddr 23 (Operand.tmp 30) (Operand.tmp 31), type := 0, pos := "l09_ledger.go:69", after := #[{ on := 14, ground := Ground.data }, { on := 15, ground := Ground.data }, { on := 6, ground := Ground.guard }], guard := some (6, false) }) (v := ?_) rfl (by kernel_rfl) (by kernel_rfl) (by kernel_rfl) (fun _ _ _ h => h) (Or.inl ⟨by rfl, ?_⟩) (by assumption) ?_
        rotate_left
        · (intro w hSw; (try dsimp only at hSw); go_simp) <;> with_reducible rfl
        try simp only [Act.put, List.setIfInBounds_toArray, List.set_cons_zero, List.set_cons_succ]
        refine wpAnyH_take (i := 17) (oi := { dst := some 33, op := Op.fieldAddr 28 (Operand.tmp 32) 0, type := 0, pos := "l09_ledger.go:69", after := #[{ on := 16, ground := Ground.data }, { on := 6, ground := Ground.guard }], guard := some (6, false) }) (v := ?_) rfl (by kernel_rfl) (by kernel_rfl) (by kernel_rfl) (fun _ _ _ h => h) (Or.inl ⟨by rfl, ?_⟩) (by assumption) ?_
        rotate_left
        · (intro w hSw; (try dsimp only at hSw); go_simp) <;> with_reducible rfl
        try simp only [Act.put, List.setIfInBounds_toArray, List.set_cons_zero, List.set_cons_succ]
        refine wpAnyH_take (i := 18) (oi := { dst := some 34, op := Op.load 9 (Operand.tmp 33), type := 9, pos := "l09_ledger.go:69", after := #[{ on := 17, ground := Ground.data }, { on := 6, ground := Ground.guard }], guard := some (6, false) }) (v := ?_) rfl (by kernel_rfl) (by kernel_rfl) (by kernel_rfl) (fun _ _ _ h => h) (Or.inl ⟨by rfl, ?_⟩) (by assumption) ?_
        rotate_left
        · (intro w hSw; (try dsimp only at hSw); go_simp) <;> with_reducible rfl
        try simp only [Act.put, List.setIfInBounds_toArray, List.set_cons_zero, List.set_cons_succ]
        refine wpAnyH_take (i := 19) (oi := { dst := some 35, op := Op.move (Operand.tmp 0), type := 23, pos := "l09_ledger.go:69", after := #[{ on := 6, ground := Ground.guard }], guard := some (6, false) }) (v := ?_) rfl (by kernel_rfl) (by kernel_rfl) (by kernel_rfl) (fun _ _ _ h => h) (Or.inl ⟨by rfl, ?_⟩) (by assumption) ?_
        rotate_left
        · (intro w hSw; (try dsimp only at hSw); go_simp) <;> with_reducible rfl
        try simp only [Act.put, List.setIfInBounds_toArray, List.set_cons_zero, List.set_cons_succ]
        refine wpAnyH_take (i := 20) (oi := { dst := some 36, op := Op.move (Operand.tmp 3), type := 3, pos := "l09_ledger.go:69", after := #[{ on := 6, ground := Ground.guard }], guard := some (6, false) }) (v := ?_) rfl (by kernel_rfl) (by kernel_rfl) (by kernel_rfl) (fun _ _ _ h => h) (Or.inl ⟨by rfl, ?_⟩) (by assumption) ?_
        rotate_left
        · (intro w hSw; (try dsimp only at hSw); go_simp) <;> with_reducible rfl
        try simp only [Act.put, List.setIfInBounds_toArray, List.set_cons_zero, List.set_cons_succ]
        refine wpAnyH_take (i := 21) (oi := { dst := some 37, op := Op.indexAddr 23 (Operand.tmp 35) (Operand.tmp 36), type := 0, pos := "l09_ledger.go:69", after := #[{ on := 19, ground := Ground.data }, { on := 20, ground := Ground.data }, { on := 6, ground := Ground.guard }], guard := some (6, false) }) (v := ?_) rfl (by kernel_rfl) (by kernel_rfl) (by kernel_rfl) (fun _ _ _ h => h) (Or.inl ⟨by rfl, ?_⟩) (by assumption) ?_
        rotate_left
        · (intro w hSw; (try dsimp only at hSw); go_simp) <;> with_reducible rfl
        try simp only [Act.put, List.setIfInBounds_toArray, List.set_cons_zero, List.set_cons_succ]
        refine wpAnyH_take (i := 22) (oi := { dst := some 38, op := Op.fieldAddr 28 (Operand.tmp 37) 1, type := 0, pos := "l09_ledger.go:69", after := #[{ on := 21, ground := Ground.data }, { on := 6, ground := Ground.guard }], guard := some (6, false) }) (v := ?_) rfl (by kernel_rfl) (by kernel_rfl) (by kernel_rfl) (fun _ _ _ h => h) (Or.inl ⟨by rfl, ?_⟩) (by assumption) ?_
        rotate_left
        · (intro w hSw; (try dsimp only at hSw); go_simp) <;> with_reducible rfl
        try simp only [Act.put, List.setIfInBounds_toArray, List.set_cons_zero, List.set_cons_succ]
        refine wpAnyH_take (i := 23) (oi := { dst := some 39, op := Op.load 2 (Operand.tmp 38), type := 2, pos := "l09_ledger.go:69", after := #[{ on := 22, ground := Ground.data }, { on := 6, ground := Ground.guard }], guard := some (6, false) }) (v := ?_) rfl (by kernel_rfl) (by kernel_rfl) (by kernel_rfl) (fun _ _ _ h => h) (Or.inl ⟨by rfl, ?_⟩) (by assumption) ?_
        rotate_left
        · (intro w hSw; (try dsimp only at hSw); go_simp) <;> with_reducible rfl
        try simp only [Act.put, List.setIfInBounds_toArray, List.set_cons_zero, List.set_cons_succ]
        refine wpAnyH_ready (rs := [24]) (by kernel_rfl) (by simp) ?_
        refine AllReadyH.cons (o := { dst := some 40, op := Op.call { callee := Callee.value (Operand.func 51), args := #[Operand.tmp 28, Operand.tmp 29, Operand.tmp 34, Operand.tmp 39], argTypes := #[23, 3, 9, 2] }, type := 2, pos := "l09_ledger.go:69", after := #[{ on := 12, ground := Ground.data }, { on := 13, ground := Ground.data }, { on := 18, ground := Ground.data }, { on := 23, ground := Ground.data }, { on := 6, ground := Ground.chain }, { on := 6, ground := Ground.guard }], guard := some (6, false) }) rfl (fun K hK => ?_) AllReadyH.nil
        go_simp
        go_at_call 51
        refine (HC.out _ hk1.1).mono ?_
        rintro e q2 ⟨rfl, hq2⟩
        try go_wp2_with fail
        have hk2 := QB.below (w := w) (b := b) (o := off + k * 4) (xa := xa) (xm := xm) (xs := xs) (la := la) (ll := ll) (lc := lc) hk1 hq2
        refine hK.out _ _ hk2 (fun _ => ?_)
        clear hK K
        try simp only [Act.put, List.setIfInBounds_toArray, List.set_cons_zero, List.set_cons_succ]
        refine wpAnyH_take (i := 25) (oi := { dst := some 41, op := Op.binOp BinOp.neq 2 (Operand.tmp 27) (Operand.tmp 40) 2, type := 4, pos := "l09_ledger.go:69", after := #[{ on := 11, ground := Ground.data }, { on := 24, ground := Ground.data }, { on := 6, ground := Ground.guard }], guard := some (6, false) }) (v := ?_) rfl (by kernel_rfl) (by kernel_rfl) (by kernel_rfl) (fun _ _ _ h => h) (Or.inl ⟨by rfl, ?_⟩) (by assumption) ?_
        rotate_left
        · (intro w hSw; (try dsimp only at hSw); go_simp) <;> with_reducible rfl
        try simp only [Act.put, List.setIfInBounds_toArray, List.set_cons_zero, List.set_cons_succ]
        refine wpAnyH_take (i := 26) (oi := { dst := some 42, op := Op.pick (Operand.tmp 22) (Operand.const (Value.bool true)) (Operand.tmp 41), type := 4, pos := "l09_ledger.go:69", after := #[{ on := 6, ground := Ground.data }, { on := 25, ground := Ground.data }], guard := none }) (v := ?_) rfl (by kernel_rfl) (by kernel_rfl) (by kernel_rfl) (fun _ _ _ h => h) (Or.inl ⟨by rfl, ?_⟩) (by assumption) ?_
        rotate_left
        · (intro w hSw; (try dsimp only at hSw); go_simp) <;> with_reducible rfl
        try simp only [Act.put, List.setIfInBounds_toArray, List.set_cons_zero, List.set_cons_succ]
        refine wpAnyH_done (by kernel_rfl) ?_ _
        have HBQ := hid_intro hk2.1
        clear hk1 hk2
        go_wp2_with fail
        go_roundw
        case rel => exact ⟨k + 1, by omega, by go_num, HE, HBQ⟩
        case measure => simp [intOf]; omega
      · have HE := hid_intro (HDN.out (.inr hsq))
        have hq : (xs != cc) = true := by simpa using hsq
        clear hsq HDN HSO
        go_wp2_with fail
        refine wp_region_held_drew (S := (fun W => Below w.heap.size w W ∧ b < W.heap.size ∧ W.cell? ⟨b, off + k * 4, none⟩ = some (.string xa) ∧ W.cell? ⟨b, off + k * 4 + 1, none⟩ = some (.int .i64 xm) ∧ W.cell? ⟨b, off + k * 4 + 2, none⟩ = some (.int .i64 xs) ∧ W.cell? ⟨b, off + k * 4 + 3, none⟩ = some (.slice la ll lc))) (by kernel_rfl) HS0.out (fun hHeld => ?_)
        refine wpAnyH_take (i := 0) (oi := { dst := some 16, op := Op.move (Operand.tmp 0), type := 23, pos := "l09_ledger.go:69", after := #[], guard := none }) (v := ?_) rfl (by kernel_rfl) (by kernel_rfl) (by kernel_rfl) (fun _ _ _ h => h) (Or.inl ⟨by rfl, ?_⟩) (by assumption) ?_
        rotate_left
        · (intro w hSw; (try dsimp only at hSw); go_simp) <;> with_reducible rfl
        try simp only [Act.put, List.setIfInBounds_toArray, List.set_cons_zero, List.set_cons_succ]
        refine wpAnyH_take (i := 1) (oi := { dst := some 17, op := Op.move (Operand.tmp 3), type := 3, pos := "l09_ledger.go:69", after := #[], guard := none }) (v := ?_) rfl (by kernel_rfl) (by kernel_rfl) (by kernel_rfl) (fun _ _ _ h => h) (Or.inl ⟨by rfl, ?_⟩) (by assumption) ?_
        rotate_left
        · (intro w hSw; (try dsimp only at hSw); go_simp) <;> with_reducible rfl
        try simp only [Act.put, List.setIfInBounds_toArray, List.set_cons_zero, List.set_cons_succ]
        refine wpAnyH_take (i := 2) (oi := { dst := some 18, op := Op.indexAddr 23 (Operand.tmp 16) (Operand.tmp 17), type := 0, pos := "l09_ledger.go:69", after := #[{ on := 0, ground := Ground.data }, { on := 1, ground := Ground.data }], guard := none }) (v := ?_) rfl (by kernel_rfl) (by kernel_rfl) (by kernel_rfl) (fun _ _ _ h => h) (Or.inl ⟨by rfl, ?_⟩) (by assumption) ?_
        rotate_left
        · (intro w hSw; (try dsimp only at hSw); go_simp) <;> with_reducible rfl
        try simp only [Act.put, List.setIfInBounds_toArray, List.set_cons_zero, List.set_cons_succ]
        refine wpAnyH_take (i := 3) (oi := { dst := some 19, op := Op.load 28 (Operand.tmp 18), type := 28, pos := "l09_ledger.go:69", after := #[{ on := 2, ground := Ground.data }], guard := none }) (v := ?_) rfl (by kernel_rfl) (by kernel_rfl) (by kernel_rfl) (fun _ _ _ h => h) (Or.inl ⟨by rfl, ?_⟩) (by assumption) ?_
        rotate_left
        · (intro w hSw; (try dsimp only at hSw); go_simp) <;> with_reducible rfl
        try simp only [Act.put, List.setIfInBounds_toArray, List.set_cons_zero, List.set_cons_succ]
        refine wpAnyH_ready (rs := [4]) (by kernel_rfl) (by simp) ?_
        refine AllReadyH.cons (o := { dst := some 20, op := Op.call { callee := Callee.value (Operand.func 19), args := #[Operand.tmp 19], argTypes := #[28] }, type := 4, pos := "l09_ledger.go:69", after := #[{ on := 3, ground := Ground.data }], guard := none }) rfl (fun K hK => ?_) AllReadyH.nil
        go_simp
        go_at_call 19
        refine HD.out.mono ?_
        rintro e q1 ⟨rfl, hq1⟩
        try go_wp2_with fail
        have hk1 := QB.below (w := w) (b := b) (o := off + k * 4) (xa := xa) (xm := xm) (xs := xs) (la := la) (ll := ll) (lc := lc) HS0.out hq1
        refine hK.out _ _ hk1 (fun _ => ?_)
        clear hK K
        try simp only [Act.put, List.setIfInBounds_toArray, List.set_cons_zero, List.set_cons_succ]
        refine wpAnyH_take (i := 5) (oi := { dst := some 21, op := Op.unOp UnOp.not 4 (Operand.tmp 20), type := 4, pos := "l09_ledger.go:69", after := #[{ on := 4, ground := Ground.data }], guard := none }) (v := ?_) rfl (by kernel_rfl) (by kernel_rfl) (by kernel_rfl) (fun _ _ _ h => h) (Or.inl ⟨by rfl, ?_⟩) (by assumption) ?_
        rotate_left
        · (intro w hSw; (try dsimp only at hSw); go_simp) <;> with_reducible rfl
        try simp only [Act.put, List.setIfInBounds_toArray, List.set_cons_zero, List.set_cons_succ]
        refine wpAnyH_take (i := 6) (oi := { dst := some 22, op := Op.move (Operand.tmp 21), type := 4, pos := "l09_ledger.go:69", after := #[{ on := 5, ground := Ground.data }, { on := 4, ground := Ground.chain }], guard := none }) (v := ?_) rfl (by kernel_rfl) (by kernel_rfl) (by kernel_rfl) (fun _ _ _ h => h) (Or.inl ⟨by rfl, ?_⟩) (by assumption) ?_
        rotate_left
        · (intro w hSw; (try dsimp only at hSw); go_simp) <;> with_reducible rfl
        try simp only [Act.put, List.setIfInBounds_toArray, List.set_cons_zero, List.set_cons_succ]
        refine wpAnyH_take (i := 7) (oi := { dst := some 23, op := Op.move (Operand.tmp 0), type := 23, pos := "l09_ledger.go:69", after := #[{ on := 6, ground := Ground.guard }], guard := some (6, false) }) (v := ?_) rfl (by kernel_rfl) (by kernel_rfl) (by kernel_rfl) (fun _ _ _ h => h) (Or.inl ⟨by rfl, ?_⟩) (by assumption) ?_
        rotate_left
        · (intro w hSw; (try dsimp only at hSw); go_simp) <;> with_reducible rfl
        try simp only [Act.put, List.setIfInBounds_toArray, List.set_cons_zero, List.set_cons_succ]
        refine wpAnyH_take (i := 8) (oi := { dst := some 24, op := Op.move (Operand.tmp 3), type := 3, pos := "l09_ledger.go:69", after := #[{ on := 6, ground := Ground.guard }], guard := some (6, false) }) (v := ?_) rfl (by kernel_rfl) (by kernel_rfl) (by kernel_rfl) (fun _ _ _ h => h) (Or.inl ⟨by rfl, ?_⟩) (by assumption) ?_
        rotate_left
        · (intro w hSw; (try dsimp only at hSw); go_simp) <;> with_reducible rfl
        try simp only [Act.put, List.setIfInBounds_toArray, List.set_cons_zero, List.set_cons_succ]
        refine wpAnyH_take (i := 9) (oi := { dst := some 25, op := Op.indexAddr 23 (Operand.tmp 23) (Operand.tmp 24), type := 0, pos := "l09_ledger.go:69", after := #[{ on := 7, ground := Ground.data }, { on := 8, ground := Ground.data }, { on := 6, ground := Ground.guard }], guard := some (6, false) }) (v := ?_) rfl (by kernel_rfl) (by kernel_rfl) (by kernel_rfl) (fun _ _ _ h => h) (Or.inl ⟨by rfl, ?_⟩) (by assumption) ?_
        rotate_left
        · (intro w hSw; (try dsimp only at hSw); go_simp) <;> with_reducible rfl
        try simp only [Act.put, List.setIfInBounds_toArray, List.set_cons_zero, List.set_cons_succ]
        refine wpAnyH_take (i := 10) (oi := { dst := some 26, op := Op.fieldAddr 28 (Operand.tmp 25) 2, type := 0, pos := "l09_ledger.go:69", after := #[{ on := 9, ground := Ground.data }, { on := 6, ground := Ground.guard }], guard := some (6, false) }) (v := ?_) rfl (by kernel_rfl) (by kernel_rfl) (by kernel_rfl) (fun _ _ _ h => h) (Or.inl ⟨by rfl, ?_⟩) (by assumption) ?_
        rotate_left
        · (intro w hSw; (try dsimp only at hSw); go_simp) <;> with_reducible rfl
        try simp only [Act.put, List.setIfInBounds_toArray, List.set_cons_zero, List.set_cons_succ]
        refine wpAnyH_take (i := 11) (oi := { dst := some 27, op := Op.load 2 (Operand.tmp 26), type := 2, pos := "l09_ledger.go:69", after := #[{ on := 10, ground := Ground.data }, { on := 6, ground := Ground.guard }], guard := some (6, false) }) (v := ?_) rfl (by kernel_rfl) (by kernel_rfl) (by kernel_rfl) (fun _ _ _ h => h) (Or.inl ⟨by rfl, ?_⟩) (by assumption) ?_
        rotate_left
        · (intro w hSw; (try dsimp only at hSw); go_simp) <;> with_reducible rfl
        try simp only [Act.put, List.setIfInBounds_toArray, List.set_cons_zero, List.set_cons_succ]
        refine wpAnyH_take (i := 12) (oi := { dst := some 28, op := Op.move (Operand.tmp 0), type := 23, pos := "l09_ledger.go:69", after := #[{ on := 6, ground := Ground.guard }], guard := some (6, false) }) (v := ?_) rfl (by kernel_rfl) (by kernel_rfl) (by kernel_rfl) (fun _ _ _ h => h) (Or.inl ⟨by rfl, ?_⟩) (by assumption) ?_
        rotate_left
        · (intro w hSw; (try dsimp only at hSw); go_simp) <;> with_reducible rfl
        try simp only [Act.put, List.setIfInBounds_toArray, List.set_cons_zero, List.set_cons_succ]
        refine wpAnyH_take (i := 13) (oi := { dst := some 29, op := Op.move (Operand.tmp 3), type := 3, pos := "l09_ledger.go:69", after := #[{ on := 6, ground := Ground.guard }], guard := some (6, false) }) (v := ?_) rfl (by kernel_rfl) (by kernel_rfl) (by kernel_rfl) (fun _ _ _ h => h) (Or.inl ⟨by rfl, ?_⟩) (by assumption) ?_
        rotate_left
        · (intro w hSw; (try dsimp only at hSw); go_simp) <;> with_reducible rfl
        try simp only [Act.put, List.setIfInBounds_toArray, List.set_cons_zero, List.set_cons_succ]
        refine wpAnyH_take (i := 14) (oi := { dst := some 30, op := Op.move (Operand.tmp 0), type := 23, pos := "l09_ledger.go:69", after := #[{ on := 6, ground := Ground.guard }], guard := some (6, false) }) (v := ?_) rfl (by kernel_rfl) (by kernel_rfl) (by kernel_rfl) (fun _ _ _ h => h) (Or.inl ⟨by rfl, ?_⟩) (by assumption) ?_
        rotate_left
        · (intro w hSw; (try dsimp only at hSw); go_simp) <;> with_reducible rfl
        try simp only [Act.put, List.setIfInBounds_toArray, List.set_cons_zero, List.set_cons_succ]
        refine wpAnyH_take (i := 15) (oi := { dst := some 31, op := Op.move (Operand.tmp 3), type := 3, pos := "l09_ledger.go:69", after := #[{ on := 6, ground := Ground.guard }], guard := some (6, false) }) (v := ?_) rfl (by kernel_rfl) (by kernel_rfl) (by kernel_rfl) (fun _ _ _ h => h) (Or.inl ⟨by rfl, ?_⟩) (by assumption) ?_
        rotate_left
        · (intro w hSw; (try dsimp only at hSw); go_simp) <;> with_reducible rfl
        try simp only [Act.put, List.setIfInBounds_toArray, List.set_cons_zero, List.set_cons_succ]
        refine wpAnyH_take (i := 16) (oi := { dst := some 32, op := Op.indexAddr 23 (Operand.tmp 30) (Operand.tmp 31), type := 0, pos := "l09_ledger.go:69", after := #[{ on := 14, ground := Ground.data }, { on := 15, ground := Ground.data }, { on := 6, ground := Ground.guard }], guard := some (6, false) }) (v := ?_) rfl (by kernel_rfl) (by kernel_rfl) (by kernel_rfl) (fun _ _ _ h => h) (Or.inl ⟨by rfl, ?_⟩) (by assumption) ?_
        rotate_left
        · (intro w hSw; (try dsimp only at hSw); go_simp) <;> with_reducible rfl
        try simp only [Act.put, List.setIfInBounds_toArray, List.set_cons_zero, List.set_cons_succ]
        refine wpAnyH_take (i := 17) (oi := { dst := some 33, op := Op.fieldAddr 28 (Operand.tmp 32) 0, type := 0, pos := "l09_ledger.go:69", after := #[{ on := 16, ground := Ground.data }, { on := 6, ground := Ground.guard }], guard := some (6, false) }) (v := ?_) rfl (by kernel_rfl) (by kernel_rfl) (by kernel_rfl) (fun _ _ _ h => h) (Or.inl ⟨by rfl, ?_⟩) (by assumption) ?_
        rotate_left
        · (intro w hSw; (try dsimp only at hSw); go_simp) <;> with_reducible rfl
        try simp only [Act.put, List.setIfInBounds_toArray, List.set_cons_zero, List.set_cons_succ]
        refine wpAnyH_take (i := 18) (oi := { dst := some 34, op := Op.load 9 (Operand.tmp 33), type := 9, pos := "l09_ledger.go:69", after := #[{ on := 17, ground := Ground.data }, { on := 6, ground := Ground.guard }], guard := some (6, false) }) (v := ?_) rfl (by kernel_rfl) (by kernel_rfl) (by kernel_rfl) (fun _ _ _ h => h) (Or.inl ⟨by rfl, ?_⟩) (by assumption) ?_
        rotate_left
        · (intro w hSw; (try dsimp only at hSw); go_simp) <;> with_reducible rfl
        try simp only [Act.put, List.setIfInBounds_toArray, List.set_cons_zero, List.set_cons_succ]
        refine wpAnyH_take (i := 19) (oi := { dst := some 35, op := Op.move (Operand.tmp 0), type := 23, pos := "l09_ledger.go:69", after := #[{ on := 6, ground := Ground.guard }], guard := some (6, false) }) (v := ?_) rfl (by kernel_rfl) (by kernel_rfl) (by kernel_rfl) (fun _ _ _ h => h) (Or.inl ⟨by rfl, ?_⟩) (by assumption) ?_
        rotate_left
        · (intro w hSw; (try dsimp only at hSw); go_simp) <;> with_reducible rfl
        try simp only [Act.put, List.setIfInBounds_toArray, List.set_cons_zero, List.set_cons_succ]
        refine wpAnyH_take (i := 20) (oi := { dst := some 36, op := Op.move (Operand.tmp 3), type := 3, pos := "l09_ledger.go:69", after := #[{ on := 6, ground := Ground.guard }], guard := some (6, false) }) (v := ?_) rfl (by kernel_rfl) (by kernel_rfl) (by kernel_rfl) (fun _ _ _ h => h) (Or.inl ⟨by rfl, ?_⟩) (by assumption) ?_
        rotate_left
        · (intro w hSw; (try dsimp only at hSw); go_simp) <;> with_reducible rfl
        try simp only [Act.put, List.setIfInBounds_toArray, List.set_cons_zero, List.set_cons_succ]
        refine wpAnyH_take (i := 21) (oi := { dst := some 37, op := Op.indexAddr 23 (Operand.tmp 35) (Operand.tmp 36), type := 0, pos := "l09_ledger.go:69", after := #[{ on := 19, ground := Ground.data }, { on := 20, ground := Ground.data }, { on := 6, ground := Ground.guard }], guard := some (6, false) }) (v := ?_) rfl (by kernel_rfl) (by kernel_rfl) (by kernel_rfl) (fun _ _ _ h => h) (Or.inl ⟨by rfl, ?_⟩) (by assumption) ?_
        rotate_left
        · (intro w hSw; (try dsimp only at hSw); go_simp) <;> with_reducible rfl
        try simp only [Act.put, List.setIfInBounds_toArray, List.set_cons_zero, List.set_cons_succ]
        refine wpAnyH_take (i := 22) (oi := { dst := some 38, op := Op.fieldAddr 28 (Operand.tmp 37) 1, type := 0, pos := "l09_ledger.go:69", after := #[{ on := 21, ground := Ground.data }, { on := 6, ground := Ground.guard }], guard := some (6, false) }) (v := ?_) rfl (by kernel_rfl) (by kernel_rfl) (by kernel_rfl) (fun _ _ _ h => h) (Or.inl ⟨by rfl, ?_⟩) (by assumption) ?_
        rotate_left
        · (intro w hSw; (try dsimp only at hSw); go_simp) <;> with_reducible rfl
        try simp only [Act.put, List.setIfInBounds_toArray, List.set_cons_zero, List.set_cons_succ]
        refine wpAnyH_take (i := 23) (oi := { dst := some 39, op := Op.load 2 (Operand.tmp 38), type := 2, pos := "l09_ledger.go:69", after := #[{ on := 22, ground := Ground.data }, { on := 6, ground := Ground.guard }], guard := some (6, false) }) (v := ?_) rfl (by kernel_rfl) (by kernel_rfl) (by kernel_rfl) (fun _ _ _ h => h) (Or.inl ⟨by rfl, ?_⟩) (by assumption) ?_
        rotate_left
        · (intro w hSw; (try dsimp only at hSw); go_simp) <;> with_reducible rfl
        try simp only [Act.put, List.setIfInBounds_toArray, List.set_cons_zero, List.set_cons_succ]
        refine wpAnyH_ready (rs := [24]) (by kernel_rfl) (by simp) ?_
        refine AllReadyH.cons (o := { dst := some 40, op := Op.call { callee := Callee.value (Operand.func 51), args := #[Operand.tmp 28, Operand.tmp 29, Operand.tmp 34, Operand.tmp 39], argTypes := #[23, 3, 9, 2] }, type := 2, pos := "l09_ledger.go:69", after := #[{ on := 12, ground := Ground.data }, { on := 13, ground := Ground.data }, { on := 18, ground := Ground.data }, { on := 23, ground := Ground.data }, { on := 6, ground := Ground.chain }, { on := 6, ground := Ground.guard }], guard := some (6, false) }) rfl (fun K hK => ?_) AllReadyH.nil
        go_simp
        go_at_call 51
        refine (HC.out _ hk1.1).mono ?_
        rintro e q2 ⟨rfl, hq2⟩
        try go_wp2_with fail
        have hk2 := QB.below (w := w) (b := b) (o := off + k * 4) (xa := xa) (xm := xm) (xs := xs) (la := la) (ll := ll) (lc := lc) hk1 hq2
        refine hK.out _ _ hk2 (fun _ => ?_)
        clear hK K
        try simp only [Act.put, List.setIfInBounds_toArray, List.set_cons_zero, List.set_cons_succ]
        refine wpAnyH_take (i := 25) (oi := { dst := some 41, op := Op.binOp BinOp.neq 2 (Operand.tmp 27) (Operand.tmp 40) 2, type := 4, pos := "l09_ledger.go:69", after := #[{ on := 11, ground := Ground.data }, { on := 24, ground := Ground.data }, { on := 6, ground := Ground.guard }], guard := some (6, false) }) (v := ?_) rfl (by kernel_rfl) (by kernel_rfl) (by kernel_rfl) (fun _ _ _ h => h) (Or.inl ⟨by rfl, ?_⟩) (by assumption) ?_
        rotate_left
        · (intro w hSw; (try dsimp only at hSw); go_simp) <;> with_reducible rfl
        try simp only [Act.put, List.setIfInBounds_toArray, List.set_cons_zero, List.set_cons_succ]
        refine wpAnyH_take (i := 26) (oi := { dst := some 42, op := Op.pick (Operand.tmp 22) (Operand.const (Value.bool true)) (Operand.tmp 41), type := 4, pos := "l09_ledger.go:69", after := #[{ on := 6, ground := Ground.data }, { on := 25, ground := Ground.data }], guard := none }) (v := ?_) rfl (by kernel_rfl) (by kernel_rfl) (by kernel_rfl) (fun _ _ _ h => h) (Or.inl ⟨by rfl, ?_⟩) (by assumption) ?_
        rotate_left
        · (intro w hSw; (try dsimp only at hSw); go_simp) <;> with_reducible rfl
        try simp only [Act.put, List.setIfInBounds_toArray, List.set_cons_zero, List.set_cons_succ]
        refine wpAnyH_done (by kernel_rfl) ?_ _
        have HBQ := hid_intro hk2.1
        clear hk1 hk2
        go_wp2_with fail
        go_ret
        exact ⟨by rw [HE.out]; rfl, HBQ.out⟩
    · have hlt2 : ¬ (k : Int) < (len : Int) := by omega
      obtain rfl : k = len := by omega
      have HSL : Hid (SOk ds ds.length) := hid_intro (by have h := HS.out; rw [HL.out] at h; exact h)
      obtain ⟨Wo, hWo⟩ : ∃ Wo, Wo = wr := ⟨_, rfl⟩
      subst hWo
      clear HS
      obtain ⟨len, hlen2⟩ : ∃ len, len = k := ⟨_, rfl⟩
      subst hlen2
      go_wp2_with fail
      go_loopw [4] (fun z wr => ∃ k : Nat, k ≤ len ∧ z = .int .i64 k ∧ Hid (NOk ds k) ∧ Hid (Below w.heap.size w wr)) (fun z _ => len - (intOf z).toNat)
      case atStart => exact ⟨0, by omega, rfl, hid_intro (fun i hi => absurd hi (by omega)), HB⟩
      case round =>
        clear HB
        obtain ⟨k, hk, rfl, HN, HB⟩ := hrel
        by_cases hlt : k < len
        · have hlt2 : (k : Int) < (len : Int) := by omega
          have hkl : k < ds.length := by have := HL.out; omega
          obtain ⟨b, off, la, lc, rfl, hbl, c0, c1, c2, c3, hLi⟩ := (HI.out.below HB.out).at k hkl
          obtain ⟨X, hX⟩ : ∃ X, X = ds.getD k D.zero := ⟨_, rfl⟩
          rw [← hX] at c0 c1 c2 c3
          have HXX := hid_intro hX
          clear hX hLi
          obtain ⟨xa, xm, xs, xl⟩ := X
          dsimp only at c0 c1 c2 c3
          generalize xl.length = ll at *
          have HSM : Hid (Calls Tryz.prog 53 #[.slice (some ⟨b, off, none⟩) len cap, .string xa, .int .i64 xm] wr.drew fun e w' => ∃ v, e = .returned v ∧ OwnN w' wr.drew.heap.size v (net ds xa xm) ∧ Below wr.drew.heap.size wr.drew w') := hid_intro (by have h := ssum (some ⟨b, off, none⟩) cap ds xa xm wr.drew (by have := HL.out; omega) HSL.out (HI.out.below (HB.out.trans ((Below.refl _ _).drew.mono HB.out.size))); rw [← HL.out] at h; exact h)
          have HNL : Hid ((net ds xa xm).length ≤ 1000) := hid_intro (by have h := (net_facts (ds := ds) ds.length (Nat.le_refl _) HSL.out xa xm).2.1; rw [List.take_length] at h; have := HL.out; omega)
          have HNO : Hid (ovB (net ds xa xm) = false → R = false) := hid_intro (fun h => by rw [← HR.out]; exact lB_no (fun hr => by
            have h1 := hr.2.2 k hkl
            rw [← HXX.out] at h1
            rw [h] at h1
            cases h1))
          have HYE : Hid (ovB (net ds xa xm) = true → NOk ds (k + 1)) := hid_intro (fun h i hi => by
            by_cases e : i = k
            · subst e
              rw [← HXX.out]
              exact h
            · exact HN.out i (by omega))
          have HS0 : Hid (QB w b (off + k * 4) xa xm xs la ll lc wr.drew) := hid_intro ⟨HB.out.drew, hbl, c0, c1, c2, c3⟩
          clear c0 c1 c2 c3
          cases ho : ovB (net ds xa xm)
          · have HE := hid_intro (HNO.out ho)
            have HOV := hid_intro ho
            clear ho
            go_wp2_with fail
            refine wp_region_held_drew (S := (fun W => Below w.heap.size w W ∧ b < W.heap.size ∧ W.cell? ⟨b, off + k * 4, none⟩ = some (.string xa) ∧ W.cell? ⟨b, off + k * 4 + 1, none⟩ = some (.int .i64 xm) ∧ W.cell? ⟨b, off + k * 4 + 2, none⟩ = some (.int .i64 xs) ∧ W.cell? ⟨b, off + k * 4 + 3, none⟩ = some (.slice la ll lc))) (by kernel_rfl) HS0.out (fun hHeld => ?_)
            refine wpAnyH_take (i := 0) (oi := { dst := some 50, op := Op.move (Operand.tmp 0), type := 23, pos := "l09_ledger.go:74", after := #[], guard := none }) (v := ?_) rfl (by kernel_rfl) (by kernel_rfl) (by kernel_rfl) (fun _ _ _ h => h) (Or.inl ⟨by rfl, ?_⟩) (by assumption) ?_
            rotate_left
            · (intro w hSw; (try dsimp only at hSw); go_simp) <;> with_reducible rfl
            try simp only [Act.put, List.setIfInBounds_toArray, List.set_cons_zero, List.set_cons_succ]
            refine wpAnyH_take (i := 1) (oi := { dst := some 51, op := Op.move (Operand.tmp 0), type := 23, pos := "l09_ledger.go:74", after := #[], guard := none }) (v := ?_) rfl (by kernel_rfl) (by kernel_rfl) (by kernel_rfl) (fun _ _ _ h => h) (Or.inl ⟨by rfl, ?_⟩) (by assumption) ?_
            rotate_left
            · (intro w hSw; (try dsimp only at hSw); go_simp) <;> with_reducible rfl
            try simp only [Act.put, List.setIfInBounds_toArray, List.set_cons_zero, List.set_cons_succ]
            refine wpAnyH_take (i := 2) (oi := { dst := some 52, op := Op.move (Operand.tmp 4), type := 3, pos := "l09_ledger.go:74", after := #[], guard := none }) (v := ?_) rfl (by kernel_rfl) (by kernel_rfl) (by kernel_rfl) (fun _ _ _ h => h) (Or.inl ⟨by rfl, ?_⟩) (by assumption) ?_
            rotate_left
            · (intro w hSw; (try dsimp only at hSw); go_simp) <;> with_reducible rfl
            try simp only [Act.put, List.setIfInBounds_toArray, List.set_cons_zero, List.set_cons_succ]
            refine wpAnyH_take (i := 3) (oi := { dst := some 53, op := Op.indexAddr 23 (Operand.tmp 51) (Operand.tmp 52), type := 0, pos := "l09_ledger.go:74", after := #[{ on := 1, ground := Ground.data }, { on := 2, ground := Ground.data }], guard := none }) (v := ?_) rfl (by kernel_rfl) (by kernel_rfl) (by kernel_rfl) (fun _ _ _ h => h) (Or.inl ⟨by rfl, ?_⟩) (by assumption) ?_
            rotate_left
            · (intro w hSw; (try dsimp only at hSw); go_simp) <;> with_reducible rfl
            try simp only [Act.put, List.setIfInBounds_toArray, List.set_cons_zero, List.set_cons_succ]
            refine wpAnyH_take (i := 4) (oi := { dst := some 54, op := Op.fieldAddr 28 (Operand.tmp 53) 0, type := 0, pos := "l09_ledger.go:74", after := #[{ on := 3, ground := Ground.data }], guard := none }) (v := ?_) rfl (by kernel_rfl) (by kernel_rfl) (by kernel_rfl) (fun _ _ _ h => h) (Or.inl ⟨by rfl, ?_⟩) (by assumption) ?_
            rotate_left
            · (intro w hSw; (try dsimp only at hSw); go_simp) <;> with_reducible rfl
            try simp only [Act.put, List.setIfInBounds_toArray, List.set_cons_zero, List.set_cons_succ]
            refine wpAnyH_take (i := 5) (oi := { dst := some 55, op := Op.load 9 (Operand.tmp 54), type := 9, pos := "l09_ledger.go:74", after := #[{ on := 4, ground := Ground.data }], guard := none }) (v := ?_) rfl (by kernel_rfl) (by kernel_rfl) (by kernel_rfl) (fun _ _ _ h => h) (Or.inl ⟨by rfl, ?_⟩) (by assumption) ?_
            rotate_left
            · (intro w hSw; (try dsimp only at hSw); go_simp) <;> with_reducible rfl
            try simp only [Act.put, List.setIfInBounds_toArray, List.set_cons_zero, List.set_cons_succ]
            refine wpAnyH_take (i := 6) (oi := { dst := some 56, op := Op.move (Operand.tmp 0), type := 23, pos := "l09_ledger.go:74", after := #[], guard := none }) (v := ?_) rfl (by kernel_rfl) (by kernel_rfl) (by kernel_rfl) (fun _ _ _ h => h) (Or.inl ⟨by rfl, ?_⟩) (by assumption) ?_
            rotate_left
            · (intro w hSw; (try dsimp only at hSw); go_simp) <;> with_reducible rfl
            try simp only [Act.put, List.setIfInBounds_toArray, List.set_cons_zero, List.set_cons_succ]
            refine wpAnyH_take (i := 7) (oi := { dst := some 57, op := Op.move (Operand.tmp 4), type := 3, pos := "l09_ledger.go:74", after := #[], guard := none }) (v := ?_) rfl (by kernel_rfl) (by kernel_rfl) (by kernel_rfl) (fun _ _ _ h => h) (Or.inl ⟨by rfl, ?_⟩) (by assumption) ?_
            rotate_left
            · (intro w hSw; (try dsimp only at hSw); go_simp) <;> with_reducible rfl
            try simp only [Act.put, List.setIfInBounds_toArray, List.set_cons_zero, List.set_cons_succ]
            refine wpAnyH_take (i := 8) (oi := { dst := some 58, op := Op.indexAddr 23 (Operand.tmp 56) (Operand.tmp 57), type := 0, pos := "l09_ledger.go:74", after := #[{ on := 6, ground := Ground.data }, { on := 7, ground := Ground.data }], guard := none }) (v := ?_) rfl (by kernel_rfl) (by kernel_rfl) (by kernel_rfl) (fun _ _ _ h => h) (Or.inl ⟨by rfl, ?_⟩) (by assumption) ?_
            rotate_left
            · (intro w hSw; (try dsimp only at hSw); go_simp) <;> with_reducible rfl
            try simp only [Act.put, List.setIfInBounds_toArray, List.set_cons_zero, List.set_cons_succ]
            refine wpAnyH_take (i := 9) (oi := { dst := some 59, op := Op.fieldAddr 28 (Operand.tmp 58) 1, type := 0, pos := "l09_ledger.go:74", after := #[{ on := 8, ground := Ground.data }], guard := none }) (v := ?_) rfl (by kernel_rfl) (by kernel_rfl) (by kernel_rfl) (fun _ _ _ h => h) (Or.inl ⟨by rfl, ?_⟩) (by assumption) ?_
            rotate_left
            · (intro w hSw; (try dsimp only at hSw); go_simp) <;> with_reducible rfl
            try simp only [Act.put, List.setIfInBounds_toArray, List.set_cons_zero, List.set_cons_succ]
            refine wpAnyH_take (i := 10) (oi := { dst := some 60, op := Op.load 2 (Operand.tmp 59), type := 2, pos := "l09_ledger.go:74", after := #[{ on := 9, ground := Ground.data }], guard := none }) (v := ?_) rfl (by kernel_rfl) (by kernel_rfl) (by kernel_rfl) (fun _ _ _ h => h) (Or.inl ⟨by rfl, ?_⟩) (by assumption) ?_
            rotate_left
            · (intro w hSw; (try dsimp only at hSw); go_simp) <;> with_reducible rfl
            try simp only [Act.put, List.setIfInBounds_toArray, List.set_cons_zero, List.set_cons_succ]
            refine wpAnyH_ready (rs := [11]) (by kernel_rfl) (by simp) ?_
            refine AllReadyH.cons (o := { dst := some 61, op := Op.call { callee := Callee.value (Operand.func 53), args := #[Operand.tmp 50, Operand.tmp 55, Operand.tmp 60], argTypes := #[23, 9, 2] }, type := 24, pos := "l09_ledger.go:74", after := #[{ on := 0, ground := Ground.data }, { on := 5, ground := Ground.data }, { on := 10, ground := Ground.data }], guard := none }) rfl (fun K hK => ?_) AllReadyH.nil
            go_simp
            go_at_call 53
            refine HSM.out.mono ?_
            rintro e q1 ⟨v, rfl, hv, hq1⟩
            obtain ⟨g, cp, rfl, g1, g2, g3, g4, g5⟩ := hv.open
            have HCL := hid_intro (sclean (some ⟨g, 0, none⟩) cp (net ds xa xm) q1 (by have := HNL.out; omega) g5)
            clear hv g5
            try go_wp2_with fail
            have hk1 := QB.below (w := w) (b := b) (o := off + k * 4) (xa := xa) (xm := xm) (xs := xs) (la := la) (ll := ll) (lc := lc) HS0.out hq1
            refine hK.out _ _ hk1 (fun _ => ?_)
            clear hK K
            try simp only [Act.put, List.setIfInBounds_toArray, List.set_cons_zero, List.set_cons_succ]
            refine wpAnyH_ready (rs := [12]) (by kernel_rfl) (by simp) ?_
            refine AllReadyH.cons (o := { dst := some 62, op := Op.call { callee := Callee.value (Operand.func 52), args := #[Operand.tmp 61], argTypes := #[24] }, type := 81, pos := "l09_ledger.go:74", after := #[{ on := 11, ground := Ground.data }, { on := 11, ground := Ground.chain }], guard := none }) rfl (fun K hK => ?_) AllReadyH.nil
            go_simp
            go_at_call 52
            refine HCL.out.mono ?_
            rintro e q2 ⟨v2, rfl, hv2, hq2⟩
            clear hv2
            try go_wp2_with fail
            have hk2 := QB.below (w := w) (b := b) (o := off + k * 4) (xa := xa) (xm := xm) (xs := xs) (la := la) (ll := ll) (lc := lc) hk1 hq2
            refine hK.out _ _ hk2 (fun _ => ?_)
            clear hK K
            try simp only [Act.put, List.setIfInBounds_toArray, List.set_cons_zero, List.set_cons_succ]
            refine wpAnyH_take (i := 13) (oi := { dst := some 49, op := Op.move (Operand.tmp 62), type := 81, pos := "l09_ledger.go:74", after := #[{ on := 12, ground := Ground.data }], guard := none }) (v := ?_) rfl (by kernel_rfl) (by kernel_rfl) (by kernel_rfl) (fun _ _ _ h => h) (Or.inl ⟨by rfl, ?_⟩) (by assumption) ?_
            rotate_left
            · (intro w hSw; (try dsimp only at hSw); go_simp) <;> with_reducible rfl
            try simp only [Act.put, List.setIfInBounds_toArray, List.set_cons_zero, List.set_cons_succ]
            refine wpAnyH_take (i := 14) (oi := { dst := some 63, op := Op.extract (Operand.tmp 49) 0, type := 24, pos := "l09_ledger.go:74", after := #[{ on := 13, ground := Ground.data }], guard := none }) (v := ?_) rfl (by kernel_rfl) (by kernel_rfl) (by kernel_rfl) (fun _ _ _ h => h) (Or.inl ⟨by rfl, ?_⟩) (by assumption) ?_
            rotate_left
            · (intro w hSw; (try dsimp only at hSw); go_simp) <;> with_reducible rfl
            try simp only [Act.put, List.setIfInBounds_toArray, List.set_cons_zero, List.set_cons_succ]
            refine wpAnyH_take (i := 15) (oi := { dst := some 64, op := Op.extract (Operand.tmp 49) 1, type := 4, pos := "l09_ledger.go:74", after := #[{ on := 13, ground := Ground.data }, { on := 16, ground := Ground.gcOnly Departure.lateStores }], guard := none }) (v := ?_) rfl (by kernel_rfl) (by kernel_rfl) (by kernel_rfl) (fun _ _ _ h => h) (Or.inl ⟨by rfl, ?_⟩) (by assumption) ?_
            rotate_left
            · (intro w hSw; (try dsimp only at hSw); go_simp) <;> with_reducible rfl
            try simp only [Act.put, List.setIfInBounds_toArray, List.set_cons_zero, List.set_cons_succ]
            refine wpAnyH_take (i := 16) (oi := { dst := some 5, op := Op.assign (Operand.tmp 63), type := 24, pos := "l09_ledger.go:74", after := #[{ on := 14, ground := Ground.data }, { on := 12, ground := Ground.chain }, { on := 0, ground := Ground.phase }, { on := 1, ground := Ground.phase }, { on := 2, ground := Ground.phase }, { on := 3, ground := Ground.phase }, { on := 4, ground := Ground.phase }, { on := 5, ground := Ground.phase }, { on := 6, ground := Ground.phase }, { on := 7, ground := Ground.phase }, { on := 8, ground := Ground.phase }, { on := 9, ground := Ground.phase }, { on := 10, ground := Ground.phase }, { on := 11, ground := Ground.phase }, { on := 12, ground := Ground.phase }, { on := 13, ground := Ground.phase }, { on := 14, ground := Ground.phase }, { on := 15, ground := Ground.textOnly Departure.lateStores }], guard := none }) (v := ?_) rfl (by kernel_rfl) (by kernel_rfl) (by kernel_rfl) (fun _ _ _ h => h) (Or.inl ⟨by rfl, ?_⟩) (by assumption) ?_
            rotate_left
            · (intro w hSw; (try dsimp only at hSw); go_simp) <;> with_reducible rfl
            try simp only [Act.put, List.setIfInBounds_toArray, List.set_cons_zero, List.set_cons_succ]
            refine wpAnyH_take (i := 17) (oi := { dst := some 6, op := Op.assign (Operand.tmp 64), type := 4, pos := "l09_ledger.go:74", after := #[{ on := 15, ground := Ground.data }, { on := 16, ground := Ground.chain }, { on := 0, ground := Ground.phase }, { on := 1, ground := Ground.phase }, { on := 2, ground := Ground.phase }, { on := 3, ground := Ground.phase }, { on := 4, ground := Ground.phase }, { on := 5, ground := Ground.phase }, { on := 6, ground := Ground.phase }, { on := 7, ground := Ground.phase }, { on := 8, ground := Ground.phase }, { on := 9, ground := Ground.phase }, { on := 10, ground := Ground.phase }, { on := 11, ground := Ground.phase }, { on := 12, ground := Ground.phase }, { on := 13, ground := Ground.phase }, { on := 14, ground := Ground.phase }, { on := 15, ground := Ground.phase }, { on := 16, ground := Ground.phase }], guard := none }) (v := ?_) rfl (by kernel_rfl) (by kernel_rfl) (by kernel_rfl) (fun _ _ _ h => h) (Or.inl ⟨by rfl, ?_⟩) (by assumption) ?_
            rotate_left
            · (intro w hSw; (try dsimp only at hSw); go_simp) <;> with_reducible rfl
            try simp only [Act.put, List.setIfInBounds_toArray, List.set_cons_zero, List.set_cons_succ]
            refine wpAnyH_done (by kernel_rfl) ?_ _
            have HBQ := hid_intro hk2.1
            clear hk1 hk2 HCL
            rw [HOV.out]
            go_wp2_with fail
            go_ret
            exact ⟨by rw [HE.out]; rfl, HBQ.out⟩
          · have HE := hid_intro (HYE.out ho)
            have HOV := hid_intro ho
            clear ho
            go_wp2_with fail
            refine wp_region_held_drew (S := (fun W => Below w.heap.size w W ∧ b < W.heap.size ∧ W.cell? ⟨b, off + k * 4, none⟩ = some (.string xa) ∧ W.cell? ⟨b, off + k * 4 + 1, none⟩ = some (.int .i64 xm) ∧ W.cell? ⟨b, off + k * 4 + 2, none⟩ = some (.int .i64 xs) ∧ W.cell? ⟨b, off + k * 4 + 3, none⟩ = some (.slice la ll lc))) (by kernel_rfl) HS0.out (fun hHeld => ?_)
            refine wpAnyH_take (i := 0) (oi := { dst := some 50, op := Op.move (Operand.tmp 0), type := 23, pos := "l09_ledger.go:74", after := #[], guard := none }) (v := ?_) rfl (by kernel_rfl) (by kernel_rfl) (by kernel_rfl) (fun _ _ _ h => h) (Or.inl ⟨by rfl, ?_⟩) (by assumption) ?_
            rotate_left
            · (intro w hSw; (try dsimp only at hSw); go_simp) <;> with_reducible rfl
            try simp only [Act.put, List.setIfInBounds_toArray, List.set_cons_zero, List.set_cons_succ]
            refine wpAnyH_take (i := 1) (oi := { dst := some 51, op := Op.move (Operand.tmp 0), type := 23, pos := "l09_ledger.go:74", after := #[], guard := none }) (v := ?_) rfl (by kernel_rfl) (by kernel_rfl) (by kernel_rfl) (fun _ _ _ h => h) (Or.inl ⟨by rfl, ?_⟩) (by assumption) ?_
            rotate_left
            · (intro w hSw; (try dsimp only at hSw); go_simp) <;> with_reducible rfl
            try simp only [Act.put, List.setIfInBounds_toArray, List.set_cons_zero, List.set_cons_succ]
            refine wpAnyH_take (i := 2) (oi := { dst := some 52, op := Op.move (Operand.tmp 4), type := 3, pos := "l09_ledger.go:74", after := #[], guard := none }) (v := ?_) rfl (by kernel_rfl) (by kernel_rfl) (by kernel_rfl) (fun _ _ _ h => h) (Or.inl ⟨by rfl, ?_⟩) (by assumption) ?_
            rotate_left
            · (intro w hSw; (try dsimp only at hSw); go_simp) <;> with_reducible rfl
            try simp only [Act.put, List.setIfInBounds_toArray, List.set_cons_zero, List.set_cons_succ]
            refine wpAnyH_take (i := 3) (oi := { dst := some 53, op := Op.indexAddr 23 (Operand.tmp 51) (Operand.tmp 52), type := 0, pos := "l09_ledger.go:74", after := #[{ on := 1, ground := Ground.data }, { on := 2, ground := Ground.data }], guard := none }) (v := ?_) rfl (by kernel_rfl) (by kernel_rfl) (by kernel_rfl) (fun _ _ _ h => h) (Or.inl ⟨by rfl, ?_⟩) (by assumption) ?_
            rotate_left
            · (intro w hSw; (try dsimp only at hSw); go_simp) <;> with_reducible rfl
            try simp only [Act.put, List.setIfInBounds_toArray, List.set_cons_zero, List.set_cons_succ]
            refine wpAnyH_take (i := 4) (oi := { dst := some 54, op := Op.fieldAddr 28 (Operand.tmp 53) 0, type := 0, pos := "l09_ledger.go:74", after := #[{ on := 3, ground := Ground.data }], guard := none }) (v := ?_) rfl (by kernel_rfl) (by kernel_rfl) (by kernel_rfl) (fun _ _ _ h => h) (Or.inl ⟨by rfl, ?_⟩) (by assumption) ?_
            rotate_left
            · (intro w hSw; (try dsimp only at hSw); go_simp) <;> with_reducible rfl
            try simp only [Act.put, List.setIfInBounds_toArray, List.set_cons_zero, List.set_cons_succ]
            refine wpAnyH_take (i := 5) (oi := { dst := some 55, op := Op.load 9 (Operand.tmp 54), type := 9, pos := "l09_ledger.go:74", after := #[{ on := 4, ground := Ground.data }], guard := none }) (v := ?_) rfl (by kernel_rfl) (by kernel_rfl) (by kernel_rfl) (fun _ _ _ h => h) (Or.inl ⟨by rfl, ?_⟩) (by assumption) ?_
            rotate_left
            · (intro w hSw; (try dsimp only at hSw); go_simp) <;> with_reducible rfl
            try simp only [Act.put, List.setIfInBounds_toArray, List.set_cons_zero, List.set_cons_succ]
            refine wpAnyH_take (i := 6) (oi := { dst := some 56, op := Op.move (Operand.tmp 0), type := 23, pos := "l09_ledger.go:74", after := #[], guard := none }) (v := ?_) rfl (by kernel_rfl) (by kernel_rfl) (by kernel_rfl) (fun _ _ _ h => h) (Or.inl ⟨by rfl, ?_⟩) (by assumption) ?_
            rotate_left
            · (intro w hSw; (try dsimp only at hSw); go_simp) <;> with_reducible rfl
            try simp only [Act.put, List.setIfInBounds_toArray, List.set_cons_zero, List.set_cons_succ]
            refine wpAnyH_take (i := 7) (oi := { dst := some 57, op := Op.move (Operand.tmp 4), type := 3, pos := "l09_ledger.go:74", after := #[], guard := none }) (v := ?_) rfl (by kernel_rfl) (by kernel_rfl) (by kernel_rfl) (fun _ _ _ h => h) (Or.inl ⟨by rfl, ?_⟩) (by assumption) ?_
            rotate_left
            · (intro w hSw; (try dsimp only at hSw); go_simp) <;> with_reducible rfl
            try simp only [Act.put, List.setIfInBounds_toArray, List.set_cons_zero, List.set_cons_succ]
            refine wpAnyH_take (i := 8) (oi := { dst := some 58, op := Op.indexAddr 23 (Operand.tmp 56) (Operand.tmp 57), type := 0, pos := "l09_ledger.go:74", after := #[{ on := 6, ground := Ground.data }, { on := 7, ground := Ground.data }], guard := none }) (v := ?_) rfl (by kernel_rfl) (by kernel_rfl) (by kernel_rfl) (fun _ _ _ h => h) (Or.inl ⟨by rfl, ?_⟩) (by assumption) ?_
            rotate_left
            · (intro w hSw; (try dsimp only at hSw); go_simp) <;> with_reducible rfl
            try simp only [Act.put, List.setIfInBounds_toArray, List.set_cons_zero, List.set_cons_succ]
            refine wpAnyH_take (i := 9) (oi := { dst := some 59, op := Op.fieldAddr 28 (Operand.tmp 58) 1, type := 0, pos := "l09_ledger.go:74", after := #[{ on := 8, ground := Ground.data }], guard := none }) (v := ?_) rfl (by kernel_rfl) (by kernel_rfl) (by kernel_rfl) (fun _ _ _ h => h) (Or.inl ⟨by rfl, ?_⟩) (by assumption) ?_
            rotate_left
            · (intro w hSw; (try dsimp only at hSw); go_simp) <;> with_reducible rfl
            try simp only [Act.put, List.setIfInBounds_toArray, List.set_cons_zero, List.set_cons_succ]
            refine wpAnyH_take (i := 10) (oi := { dst := some 60, op := Op.load 2 (Operand.tmp 59), type := 2, pos := "l09_ledger.go:74", after := #[{ on := 9, ground := Ground.data }], guard := none }) (v := ?_) rfl (by kernel_rfl) (by kernel_rfl) (by kernel_rfl) (fun _ _ _ h => h) (Or.inl ⟨by rfl, ?_⟩) (by assumption) ?_
            rotate_left
            · (intro w hSw; (try dsimp only at hSw); go_simp) <;> with_reducible rfl
            try simp only [Act.put, List.setIfInBounds_toArray, List.set_cons_zero, List.set_cons_succ]
            refine wpAnyH_ready (rs := [11]) (by kernel_rfl) (by simp) ?_
            refine AllReadyH.cons (o := { dst := some 61, op := Op.call { callee := Callee.value (Operand.func 53), args := #[Operand.tmp 50, Operand.tmp 55, Operand.tmp 60], argTypes := #[23, 9, 2] }, type := 24, pos := "l09_ledger.go:74", after := #[{ on := 0, ground := Ground.data }, { on := 5, ground := Ground.data }, { on := 10, ground := Ground.data }], guard := none }) rfl (fun K hK => ?_) AllReadyH.nil
            go_simp
            go_at_call 53
            refine HSM.out.mono ?_
            rintro e q1 ⟨v, rfl, hv, hq1⟩
            obtain ⟨g, cp, rfl, g1, g2, g3, g4, g5⟩ := hv.open
            have HCL := hid_intro (sclean (some ⟨g, 0, none⟩) cp (net ds xa xm) q1 (by have := HNL.out; omega) g5)
            clear hv g5
            try go_wp2_with fail
            have hk1 := QB.below (w := w) (b := b) (o := off + k * 4) (xa := xa) (xm := xm) (xs := xs) (la := la) (ll := ll) (lc := lc) HS0.out hq1
            refine hK.out _ _ hk1 (fun _ => ?_)
            clear hK K
            try simp only [Act.put, List.setIfInBounds_toArray, List.set_cons_zero, List.set_cons_succ]
            refine wpAnyH_ready (rs := [12]) (by kernel_rfl) (by simp) ?_
            refine AllReadyH.cons (o := { dst := some 62, op := Op.call { callee := Callee.value (Operand.func 52), args := #[Operand.tmp 61], argTypes := #[24] }, type := 81, pos := "l09_ledger.go:74", after := #[{ on := 11, ground := Ground.data }, { on := 11, ground := Ground.chain }], guard := none }) rfl (fun K hK => ?_) AllReadyH.nil
            go_simp
            go_at_call 52
            refine HCL.out.mono ?_
            rintro e q2 ⟨v2, rfl, hv2, hq2⟩
            clear hv2
            try go_wp2_with fail
            have hk2 := QB.below (w := w) (b := b) (o := off + k * 4) (xa := xa) (xm := xm) (xs := xs) (la := la) (ll := ll) (lc := lc) hk1 hq2
            refine hK.out _ _ hk2 (fun _ => ?_)
            clear hK K
            try simp only [Act.put, List.setIfInBounds_toArray, List.set_cons_zero, List.set_cons_succ]
            refine wpAnyH_take (i := 13) (oi := { dst := some 49, op := Op.move (Operand.tmp 62), type := 81, pos := "l09_ledger.go:74", after := #[{ on := 12, ground := Ground.data }], guard := none }) (v := ?_) rfl (by kernel_rfl) (by kernel_rfl) (by kernel_rfl) (fun _ _ _ h => h) (Or.inl ⟨by rfl, ?_⟩) (by assumption) ?_
            rotate_left
            · (intro w hSw; (try dsimp only at hSw); go_simp) <;> with_reducible rfl
            try simp only [Act.put, List.setIfInBounds_toArray, List.set_cons_zero, List.set_cons_succ]
            refine wpAnyH_take (i := 14) (oi := { dst := some 63, op := Op.extract (Operand.tmp 49) 0, type := 24, pos := "l09_ledger.go:74", after := #[{ on := 13, ground := Ground.data }], guard := none }) (v := ?_) rfl (by kernel_rfl) (by kernel_rfl) (by kernel_rfl) (fun _ _ _ h => h) (Or.inl ⟨by rfl, ?_⟩) (by assumption) ?_
            rotate_left
            · (intro w hSw; (try dsimp only at hSw); go_simp) <;> with_reducible rfl
            try simp only [Act.put, List.setIfInBounds_toArray, List.set_cons_zero, List.set_cons_succ]
            refine wpAnyH_take (i := 15) (oi := { dst := some 64, op := Op.extract (Operand.tmp 49) 1, type := 4, pos := "l09_ledger.go:74", after := #[{ on := 13, ground := Ground.data }, { on := 16, ground := Ground.gcOnly Departure.lateStores }], guard := none }) (v := ?_) rfl (by kernel_rfl) (by kernel_rfl) (by kernel_rfl) (fun _ _ _ h => h) (Or.inl ⟨by rfl, ?_⟩) (by assumption) ?_
            rotate_left
            · (intro w hSw; (try dsimp only at hSw); go_simp) <;> with_reducible rfl
            try simp only [Act.put, List.setIfInBounds_toArray, List.set_cons_zero, List.set_cons_succ]
            refine wpAnyH_take (i := 16) (oi := { dst := some 5, op := Op.assign (Operand.tmp 63), type := 24, pos := "l09_ledger.go:74", after := #[{ on := 14, ground := Ground.data }, { on := 12, ground := Ground.chain }, { on := 0, ground := Ground.phase }, { on := 1, ground := Ground.phase }, { on := 2, ground := Ground.phase }, { on := 3, ground := Ground.phase }, { on := 4, ground := Ground.phase }, { on := 5, ground := Ground.phase }, { on := 6, ground := Ground.phase }, { on := 7, ground := Ground.phase }, { on := 8, ground := Ground.phase }, { on := 9, ground := Ground.phase }, { on := 10, ground := Ground.phase }, { on := 11, ground := Ground.phase }, { on := 12, ground := Ground.phase }, { on := 13, ground := Ground.phase }, { on := 14, ground := Ground.phase }, { on := 15, ground := Ground.textOnly Departure.lateStores }], guard := none }) (v := ?_) rfl (by kernel_rfl) (by kernel_rfl) (by kernel_rfl) (fun _ _ _ h => h) (Or.inl ⟨by rfl, ?_⟩) (by assumption) ?_
            rotate_left
            · (intro w hSw; (try dsimp only at hSw); go_simp) <;> with_reducible rfl
            try simp only [Act.put, List.setIfInBounds_toArray, List.set_cons_zero, List.set_cons_succ]
            refine wpAnyH_take (i := 17) (oi := { dst := some 6, op := Op.assign (Operand.tmp 64), type := 4, pos := "l09_ledger.go:74", after := #[{ on := 15, ground := Ground.data }, { on := 16, ground := Ground.chain }, { on := 0, ground := Ground.phase }, { on := 1, ground := Ground.phase }, { on := 2, ground := Ground.phase }, { on := 3, ground := Ground.phase }, { on := 4, ground := Ground.phase }, { on := 5, ground := Ground.phase }, { on := 6, ground := Ground.phase }, { on := 7, ground := Ground.phase }, { on := 8, ground := Ground.phase }, { on := 9, ground := Ground.phase }, { on := 10, ground := Ground.phase }, { on := 11, ground := Ground.phase }, { on := 12, ground := Ground.phase }, { on := 13, ground := Ground.phase }, { on := 14, ground := Ground.phase }, { on := 15, ground := Ground.phase }, { on := 16, ground := Ground.phase }], guard := none }) (v := ?_) rfl (by kernel_rfl) (by kernel_rfl) (by kernel_rfl) (fun _ _ _ h => h) (Or.inl ⟨by rfl, ?_⟩) (by assumption) ?_
            rotate_left
            · (intro w hSw; (try dsimp only at hSw); go_simp) <;> with_reducible rfl
            try simp only [Act.put, List.setIfInBounds_toArray, List.set_cons_zero, List.set_cons_succ]
            refine wpAnyH_done (by kernel_rfl) ?_ _
            have HBQ := hid_intro hk2.1
            clear hk1 hk2 HCL
            rw [HOV.out]
            go_wp2_with fail
            go_roundw
            case rel => exact ⟨k + 1, by omega, by go_num, HE, HBQ⟩
            case measure => simp [intOf]; omega
        · have hlt2 : ¬ (k : Int) < (len : Int) := by omega
          obtain rfl : k = len := by omega
          have HE : Hid (R = true) := hid_intro (by rw [← HR.out]; exact lB_yes ⟨by have := HL.out; omega, HSL.out, by have h := HN.out; rw [HL.out] at h; exact h⟩)
          go_wp2_with fail
          go_ret
          exact ⟨by rw [HE.out]; rfl, HB.out⟩
set_option maxRecDepth 100000 in
set_option maxHeartbeats 4000000 in
theorem impl_ledger (ao : Option Addr) (cap : Nat) (ds : List D) (w : World) (hlen : ds.length ≤ 1048576) (hSm : ∀ d ∈ ds, d.Sm) (hwf : ∀ d ∈ ds, (Lit.int .i64 d.mo).wf = true) (hI : Dcs ao ds w) :
    Calls Tryz.prog 20 #[.slice ao ds.length cap] w fun e w' => e = .returned (.bool (lB ds)) ∧ Below w.heap.size w w' := by
  have H1 := hid_intro (irows ao cap ds w hlen hSm hwf hI)
  unfold RowsR at H1
  generalize lB ds = r at *
  generalize ds.length = len at *
  clear hI hSm hwf
  go_enter Tryz.func20, Tryz.ntmps20
  go_wp2_with fail
  refine H1.out.mono ?_
  rintro e w1 ⟨hb, ⟨rfl, c, rfl⟩ | ⟨rfl, M, rfl, _⟩⟩
  · have HB := hid_intro hb
    clear hb
    go_wp2_with fail
    go_ret
    exact ⟨rfl, HB.out⟩
  · have HB := hid_intro hb
    clear hb
    go_wp2_with fail
    go_ret
    exact ⟨rfl, HB.out⟩
end LedR
end Go.Proofs.YtlfebpgohpmknaaGreatDoor
namespace Go.Proofs.YtlfebpgohpmknaaGreatDoor
open Go.ChangeShapes Go.WideShapes Go.ChangeAt Go.RowKit
set_option linter.unusedVariables false
namespace NetR
open LinR RowG LtR
theorem all_size {L b : List N} {s : Int} (hL : ∀ y ∈ L, y.i.size ≤ 1048576) (hb : ∀ y ∈ b, y.i.size ≤ 1048576) : ∀ y ∈ all L b s, y.i.size ≤ 1048576 := all_i (fun n => n.size ≤ 1048576) b s hL hb
set_option maxRecDepth 100000 in
set_option maxHeartbeats 4000000 in
theorem iless0 (ao bo : Option Addr) (capa capb : Nat) (a b : List N) (w : World) (hla : a.length ≤ 400) (hlb : b.length ≤ 400) (hsa : ∀ e ∈ a, e.i.size ≤ 1048576) (hsb : ∀ e ∈ b, e.i.size ≤ 1048576) (hna : ∀ e ∈ a, -1000000000000000 ≤ e.n ∧ e.n ≤ 1000000000000000) (hnb : ∀ e ∈ b, -1000000000000000 ≤ e.n ∧ e.n ≤ 1000000000000000) (hr : Rise a) (hA : Lis ao a w) (hI : Lis bo b w) :
    Calls Tryz.prog 37 #[.slice ao a.length capa, .slice bo b.length capb] w fun e w' => ∃ v, e = .returned (.tuple #[v, ovE (ovB (all a b (-1)))]) ∧ w'.ownsRow w.heap.size 74 2 v (clL (all a b (-1))).length (cellsAll N.cells (clL (all a b (-1)))) ∧ Below w.heap.size w w' := by
  have ea : all [] a 1 = a := by have := all_self a [] (by simpa using hr); simpa using this
  have HO1 := hid_intro (World.ownsMap_made w Tryz.prog 9 (plainElem (H := Value) Tryz.prog 2))
  have HB1 := hid_intro (al w (.map #[] 0))
  have H1 := hid_intro (bring_any ao capa a 1 w.heap.size 0 _ [] 0 (w.alloc (.map #[] 0)) (.inl rfl) hla hsa hna HO1.out (by omega) netM_nil (by omega) (fun y h => by cases h) (hA.below HB1.out))
  have H2 := hid_intro (fun W D (hO : W.ownsMap Tryz.prog 9 (plainElem (H := Value) Tryz.prog 2) w.heap.size (0 + a.length) D) (hN : NetM D a) (hW : Below w.heap.size w W) => bring_any bo capb b (-1) w.heap.size (0 + a.length) D a 1000000000000000 W (.inr rfl) hlb hsb hnb hO (by omega) hN (by omega) hna (hI.below hW))
  have HS := hid_intro (all_size (s := -1) hsa hsb)
  have HLn : Hid ((all a b (-1)).length ≤ 800) := hid_intro (by have := all_len a b (-1); omega)
  rw [ea] at H1
  have HCL : Hid (clL (all a b (-1)) = bif ovB (all a b (-1)) then (all a b (-1)).filter nz else []) := rfl
  have hmm := @run_makeMap Tryz.prog
  generalize clL (all a b (-1)) = C at *
  generalize all a b (-1) = L at *
  obtain ⟨r, hr0⟩ : ∃ r, ovB L = r := ⟨_, rfl⟩
  rw [hr0] at HCL ⊢
  have HR0 := hid_intro hr0
  clear hr0
  generalize ha0 : a.length = al0 at *
  generalize hb0 : b.length = bl0 at *
  clear ea hA hI hr hsa hsb hna hnb
  go_enter Tryz.func37, Tryz.ntmps37
  go_wp2_with fail
  refine H1.out.mono ?_
  rintro e w2 ⟨rfl, ⟨D, hO2, hN2⟩, _, hg2⟩
  have HB2 : Hid (Below w.heap.size w w2) := hid_intro (HB1.out.grown hg2 HB1.out.size (fun k e => by cases e; exact Nat.le_refl _))
  have H3 := hid_intro (H2.out w2 D hO2 hN2 HB2.out)
  clear hO2 hN2 hg2 H1 H2
  go_wp2_with fail
  refine H3.out.mono ?_
  rintro e w3 ⟨rfl, ⟨D3, hO3, hN3⟩, _, hg3⟩
  have HB3 : Hid (Below w.heap.size w w3) := hid_intro (HB2.out.grown hg3 HB2.out.size (fun k e => by cases e; exact Nat.le_refl _))
  have HO3 := hid_intro hO3
  have HN3 := hid_intro hN3
  have H4 := hid_intro (over_any w.heap.size _ D3 L w3 hO3 hN3)
  have H5 := hid_intro (fun W (h : Below w3.heap.size w3 W) => lines_any w.heap.size _ D3 L W (omap_below hO3 h) (by omega) hN3 (by have := HLn.out; omega) HS.out)
  clear hO3 hN3 hg3 H3
  rw [HR0.out] at H4
  clear HR0
  cases r
  · go_wp2_with fail
    refine H4.out.mono ?_
    rintro e w4 ⟨rfl, hb4⟩
    have HB4 := hid_intro (HB3.out.trans (hb4.mono HB3.out.size))
    clear hb4
    simp only [ovE, Bool.false_eq_true, if_false]
    go_wp2_with fail
    go_ret2
    exact ⟨.slice none 0 0, by first | rfl | (simp [ovE]; done), by rw [HCL.out, cond_false]; exact World.ownsRow_nil _ _ _ _, HB4.out⟩
  · go_wp2_with fail
    refine H4.out.mono ?_
    rintro e w4 ⟨rfl, hb4⟩
    have HB4 := hid_intro (HB3.out.trans (hb4.mono HB3.out.size))
    have H6 := hid_intro (H5.out w4 hb4)
    clear hb4
    simp only [ovE, if_true]
    go_wp2_with fail
    refine H6.out.mono ?_
    rintro e w5 ⟨v, rfl, ho, hb5⟩
    have HB5 := hid_intro (HB4.out.trans (hb5.mono HB4.out.size))
    have HO5 := hid_intro (own_low ho HB4.out.size)
    clear ho hb5
    go_wp2_with fail
    go_ret2
    exact ⟨v, by first | rfl | (simp [ovE]; done), by rw [HCL.out, cond_true]; exact HO5.out, HB5.out⟩
set_option maxRecDepth 100000 in
set_option maxHeartbeats 4000000 in
theorem impl_less (ao bo : Option Addr) (capa capb : Nat) (a b : List N) (w : World) (hla : a.length ≤ 1048576) (hlb : b.length ≤ 1048576) (hsa : ∀ e ∈ a, e.i.size ≤ 1048576) (hsb : ∀ e ∈ b, e.i.size ≤ 1048576) (hA : Lis ao a w) (hI : Lis bo b w) :
    Calls Tryz.prog 8 #[.slice ao a.length capa, .slice bo b.length capb] w fun e w' => ResL w (lessB a b) e w' := by
  have H1 := hid_intro (impl_lines ao capa a w hla hsa hA)
  have H2 := hid_intro (fun W (h : Below w.heap.size w W) => impl_lines bo capb b W hlb hsb (hI.below h))
  have HK := hid_intro (fun W (h : Below w.heap.size w W) (ra : sB a = true) (rb : sB b = true) => iless0 ao bo capa capb a b W (by have := (sB_iff.1 ra).1; omega) (by have := (sB_iff.1 rb).1; omega) hsa hsb (right_bd (sB_iff.1 ra)) (right_bd (sB_iff.1 rb)) (right_rise (sB_iff.1 ra)) (hA.below h) (hI.below h))
  have HT : Hid (lessB a b = bif sB a && sB b then clL (all a b (-1)) else []) := rfl
  have HV : Hid (ovB (all a b (-1)) = false → clL (all a b (-1)) = []) := hid_intro (fun h => by unfold clL; rw [h]; rfl)
  generalize clL (all a b (-1)) = C at *
  generalize ovB (all a b (-1)) = o at *
  generalize lessB a b = T at *
  generalize sB a = ra at *
  generalize sB b = rb at *
  generalize a.length = al0 at *
  generalize b.length = bl0 at *
  clear hA hI hsa hsb hla hlb
  cases ra
  · go_enter Tryz.func8, Tryz.ntmps8
    go_wp2_with fail
    refine H1.out.mono ?_
    rintro e w1 ⟨rfl, hb1⟩
    have HB := hid_intro hb1
    clear hb1
    go_wp2_with fail
    go_ret
    rw [HT.out]
    exact resL_nil HB.out _ _
  cases rb
  · go_enter Tryz.func8, Tryz.ntmps8
    go_wp2_with fail
    refine H1.out.mono ?_
    rintro e w1 ⟨rfl, hb1⟩
    have HB := hid_intro hb1
    clear hb1
    go_wp2_with fail
    refine (H2.out _ HB.out).mono ?_
    rintro e w2 ⟨rfl, hb2⟩
    have HB2 := hid_intro (HB.out.trans (hb2.mono HB.out.size))
    clear hb2
    go_wp2_with fail
    go_ret
    rw [HT.out]
    exact resL_nil HB2.out _ _
  go_enter Tryz.func8, Tryz.ntmps8
  go_wp2_with fail
  refine H1.out.mono ?_
  rintro e w1 ⟨rfl, hb1⟩
  have HB := hid_intro hb1
  clear hb1
  go_wp2_with fail
  refine (H2.out _ HB.out).mono ?_
  rintro e w2 ⟨rfl, hb2⟩
  have HB2 := hid_intro (HB.out.trans (hb2.mono HB.out.size))
  clear hb2
  have H3 := hid_intro (HK.out w2 HB2.out (by trivial) (by trivial))
  go_wp2_with fail
  refine H3.out.mono ?_
  rintro e w3 ⟨v, rfl, ho, hb3⟩
  have HB3 := hid_intro (HB2.out.trans (hb3.mono HB2.out.size))
  have HO := hid_intro (own_low ho HB2.out.size)
  clear ho hb3
  cases o
  · have HC := hid_intro (HV.out rfl)
    simp only [ovE, Bool.false_eq_true, if_false]
    go_wp2_with fail
    go_ret
    rw [HT.out, Bool.and_self, cond_true, HC.out]
    exact resL_nil HB3.out _ _
  · simp only [ovE, if_true]
    go_wp2_with fail
    go_ret
    rw [HT.out, Bool.and_self, cond_true]
    exact resL_own HO.out HB3.out
set_option maxRecDepth 100000 in
set_option maxHeartbeats 4000000 in
theorem spec_less (ab aoff capa : Nat) (bo : Option Addr) (capb : Nat) (a b : List N) (w : World) (hla : a.length ≤ 1048576) (hlb : b.length ≤ 1048576) (hsa : ∀ e ∈ a, e.i.size ≤ 1048576) (hsb : ∀ e ∈ b, e.i.size ≤ 1048576) (hA : Lis (some ⟨ab, aoff, none⟩) a w) (hI : Lis bo b w) :
    Calls Tryz.prog 15 #[.slice (some ⟨ab, aoff, none⟩) a.length capa, .slice bo b.length capb] w fun e w' => ResL w (lessB a b) e w' := by
  have H1 := hid_intro (spec_lines (some ⟨ab, aoff, none⟩) capa a w hla hsa hA)
  have H2 := hid_intro (fun W (h : Below w.heap.size w W) => spec_lines bo capb b W hlb hsb (hI.below h))
  have HK := hid_intro (fun W (h : Below w.heap.size w W) (ra : sB a = true) (rb : sB b = true) => sless0 ab aoff capa a bo capb b W (sB_iff.1 ra) (sB_iff.1 rb) (hA.below h) (hI.below h))
  have HT : Hid (lessB a b = bif sB a && sB b then lessL a b else []) := rfl
  have HLA : Hid (400 < a.length → sB a = false) := hid_intro (fun h => sB_long (by omega))
  have HLB : Hid (400 < b.length → sB b = false) := hid_intro (fun h => sB_long (by omega))
  generalize lessL a b = C at *
  generalize lessB a b = T at *
  generalize sB a = ra at *
  generalize sB b = rb at *
  generalize a.length = al0 at *
  generalize b.length = bl0 at *
  clear hA hI hsa hsb
  have HBz := hid_intro (fun W (h : Below w.heap.size w W) => h.alloc h.size (.cells #[] 74))
  by_cases qa : 400 < al0
  · have qa2 : (400 : Int) < (al0 : Int) := by omega
    have HE := hid_intro (HLA.out qa)
    go_enter Tryz.func15, Tryz.ntmps15
    go_wp2_with fail
    go_ret
    rw [HT.out, HE.out]
    exact resL_nil (HBz.out _ (Below.refl _ _)) _ _
  have qa2 : ¬ (400 : Int) < (al0 : Int) := by omega
  by_cases qb : 400 < bl0
  · have qb2 : (400 : Int) < (bl0 : Int) := by omega
    have HE := hid_intro (HLB.out qb)
    go_enter Tryz.func15, Tryz.ntmps15
    go_wp2_with fail
    go_ret
    rw [HT.out, HE.out, Bool.and_false]
    exact resL_nil (HBz.out _ (Below.refl _ _)) _ _
  have qb2 : ¬ (400 : Int) < (bl0 : Int) := by omega
  cases ra
  · go_enter Tryz.func15, Tryz.ntmps15
    go_wp2_with fail
    refine H1.out.mono ?_
    rintro e w1 ⟨rfl, hb1⟩
    have HB := hid_intro hb1
    clear hb1
    go_wp2_with fail
    go_ret
    rw [HT.out]
    exact resL_nil (HBz.out _ HB.out) _ _
  cases rb
  · go_enter Tryz.func15, Tryz.ntmps15
    go_wp2_with fail
    refine H1.out.mono ?_
    rintro e w1 ⟨rfl, hb1⟩
    have HB := hid_intro hb1
    clear hb1
    go_wp2_with fail
    refine (H2.out _ HB.out).mono ?_
    rintro e w2 ⟨rfl, hb2⟩
    have HB2 := hid_intro (HB.out.trans (hb2.mono HB.out.size))
    clear hb2
    go_wp2_with fail
    go_ret
    rw [HT.out]
    exact resL_nil (HBz.out _ HB2.out) _ _
  go_enter Tryz.func15, Tryz.ntmps15
  go_wp2_with fail
  refine H1.out.mono ?_
  rintro e w1 ⟨rfl, hb1⟩
  have HB := hid_intro hb1
  clear hb1
  go_wp2_with fail
  refine (H2.out _ HB.out).mono ?_
  rintro e w2 ⟨rfl, hb2⟩
  have HB2 := hid_intro (HB.out.trans (hb2.mono HB.out.size))
  clear hb2
  have H3 := hid_intro (HK.out w2 HB2.out (by trivial) (by trivial))
  go_wp2_with fail
  refine H3.out.mono ?_
  rintro e w3 ⟨ao, cap, rfl, hm, hb3⟩
  have HB3 := hid_intro (HB2.out.trans (hb3.mono HB2.out.size))
  have HM := hid_intro (hm.low HB2.out.size)
  clear hm hb3
  generalize hcl : C.length = cl at *
  go_wp2_with fail
  go_ret
  rw [HT.out, Bool.and_self, cond_true]
  exact ⟨ao, cap, by rw [hcl]; rfl, HM.out, HB3.out⟩
end NetR
end Go.Proofs.YtlfebpgohpmknaaGreatDoor
namespace Go.Proofs.YtlfebpgohpmknaaGreatDoor
open Go.ChangeShapes Go.WideShapes Go.ChangeAt Go.RowKit
set_option linter.unusedVariables false
namespace LedR
open LinR RowG LtR NetR DocR
theorem net_size {a : ByteArray} {m : Int} : ∀ (ds : List D) (L : List N), (∀ d ∈ ds, ∀ e ∈ d.ls, e.i.size ≤ 1048576) → (∀ y ∈ L, y.i.size ≤ 1048576) → ∀ y ∈ ds.foldl (fun L d => bif of a m d then all L d.ls 1 else L) L, y.i.size ≤ 1048576
  | [], L, _, hL => hL
  | d :: ds, L, h, hL => by
    rw [List.foldl_cons]
    refine net_size ds _ (fun d hd => h d (by simp [hd])) ?_
    cases of a m d
    · exact hL
    · exact all_size hL (h d (by simp))
/-- Both answers. -/
def netB (ds : List D) (a : ByteArray) (m : Int) : List N := bif lB ds then clL (net ds a m) else []
theorem name_small {s : ByteArray} (h : NameR.nameB s = true) : s.size ≤ 8000 := by
  unfold NameR.nameB at h
  simp only [decide_eq_true_eq] at h
  omega
theorem net_long {ds : List D} {a : ByteArray} {m : Int} (h : LRight ds) (ha : 8000 < a.size) : net ds a m = [] := by
  refine net_zero ?_
  cases hc : cnt ds a m with
  | zero => rfl
  | succ n =>
    obtain ⟨i, hi, e1, e2⟩ := mem_cnt (ds := ds) (a := a) (m := m) (by omega)
    have h1 := (h.2.1 i hi).1
    unfold dB at h1
    simp only [Bool.and_eq_true] at h1
    have := name_small h1.1
    rw [e1] at this
    omega
theorem netB_len {ds : List D} {a : ByteArray} {m : Int} : (netB ds a m).length ≤ 180 := by
  unfold netB
  cases h : lB ds
  · simp
  · have hr := lB_iff.1 h
    have h1 := (net_facts (ds := ds) ds.length (Nat.le_refl _) hr.2.1 a m).2.1
    rw [List.take_length] at h1
    have h2 := hr.1
    simp only [cond_true, clL]
    cases ovB (net ds a m)
    · simp
    · have h3 := List.length_filter_le nz (net ds a m)
      simp only [cond_true]
      omega
theorem ov_net {ds : List D} (h : LRight ds) (a : ByteArray) (m : Int) : ovB (net ds a m) = true := by
  by_cases hc : cnt ds a m = 0
  · rw [net_zero hc]; rfl
  · obtain ⟨i, hi, rfl, rfl⟩ := mem_cnt hc
    exact h.2.2 i hi
theorem fldR (c : Int) (mb : Option Nat) (w : World) : (Instr.field 67 (.agg #[.int .i64 c, .map mb]) 1).run Tryz.prog w = .ok (.map mb) w := by kernel_rfl
set_option maxRecDepth 100000 in
set_option maxHeartbeats 4000000 in
theorem impl_net (ao : Option Addr) (cap : Nat) (ds : List D) (a : ByteArray) (m : Int) (w : World) (hlen : ds.length ≤ 1048576) (hSm : ∀ d ∈ ds, d.Sm) (hwf : ∀ d ∈ ds, (Lit.int .i64 d.mo).wf = true) (hg : Good a m) (hI : Dcs ao ds w) :
    Calls Tryz.prog 13 #[.slice ao ds.length cap, .string a, .int .i64 m] w fun e w' => ResL w (netB ds a m) e w' := by
  have H1 := hid_intro (irows ao cap ds w hlen hSm hwf hI)
  unfold RowsR at H1
  have HKY := hid_intro (keyP hg)
  have HG := hid_intro hg
  have HSz := hid_intro (net_size (a := a) (m := m) ds [] (fun d hd => (hSm d hd).2.2) (fun y h => by cases h))
  have HNL := hid_intro (fun h : LRight ds => (net_facts (ds := ds) ds.length (Nat.le_refl _) h.2.1 a m).2.1)
  have HT : Hid (netB ds a m = bif lB ds then clL (net ds a m) else []) := rfl
  have HOV := hid_intro (fun h : lB ds = true => ov_net (lB_iff.1 h) a m)
  have HLR := hid_intro (fun h : lB ds = true => lB_iff.1 h)
  have HCL : Hid (clL (net ds a m) = bif ovB (net ds a m) then (net ds a m).filter nz else []) := rfl
  have HZR : Hid (∀ h : cnt ds a m = 0, net ds a m = []) := hid_intro net_zero
  obtain ⟨T, hT0⟩ : ∃ T, netB ds a m = T := ⟨_, rfl⟩
  rw [hT0] at HT ⊢
  obtain ⟨len, hl0⟩ : ∃ len, ds.length = len := ⟨_, rfl⟩
  rw [hl0] at H1 ⊢
  have HL := hid_intro hl0
  clear hI hSm hwf hg hT0 hl0
  go_enter Tryz.func13, Tryz.ntmps13
  go_wp2_with fail
  refine H1.out.mono ?_
  rintro e w1 ⟨hb, ⟨hlb, c, rfl⟩ | ⟨hlb, M, rfl, hrows⟩⟩
  · have HB := hid_intro hb
    have HE : Hid (T = []) := hid_intro (by rw [HT.out, hlb]; rfl)
    clear hb hlb
    go_wp2_with fail
    go_ret
    rw [HE.out]
    exact resL_nil HB.out _ _
  · have HB := hid_intro hb
    have HE : Hid (T = (net ds a m).filter nz) := hid_intro (by rw [HT.out, hlb, cond_true, HCL.out, HOV.out hlb]; rfl)
    have HLR2 := hid_intro (HLR.out hlb)
    obtain ⟨Dm, f, h1, h2, h3, h4⟩ := hrows
    by_cases hc : cnt ds a m = 0
    · have hhas : Maps.has Dm (kP a m) = false := by
        cases hh : Maps.has Dm (kP a m)
        · rfl
        · obtain ⟨a', m', g, e, hn⟩ := h2 _ hh
          obtain ⟨rfl, rfl⟩ := kP_inj HG.out g e
          exact absurd hc hn
      obtain ⟨v, ps, hrun, hv⟩ := h1.lookup keyedP Tryz.underlying54 (zeroR _) (zd := .held (.agg #[.int .i64 0, .map none])) (zp := []) rfl HKY.out
      obtain rfl : v = .agg #[.int .i64 0, .map none] := by
        rw [Maps.atKey_of_not_has hhas] at hv
        simp [RV] at hv
        exact hv.1
      have HLN := hid_intro (lines_nil w1)
      have hfl := fldR 0 none w1
      have HE2 : Hid (T = []) := hid_intro (by rw [HE.out, HZR.out hc]; rfl)
      clear h1 h2 h3 h4 hv hb hlb hhas hc
      go_wp2_with fail
      refine HLN.out.mono ?_
      rintro e w2 ⟨v, rfl, ho, hb2⟩
      have HB2 := hid_intro (HB.out.trans (hb2.mono HB.out.size))
      have HO2 := hid_intro (own_low ho HB.out.size)
      clear ho hb2
      go_wp2_with fail
      go_ret
      rw [HE2.out]
      exact resL_own HO2.out HB2.out
    · obtain ⟨_, hatk, _, _, Dn, M', hM', hNO, hNN⟩ := h3 a m hc
      obtain ⟨v, ps, hrun, hv⟩ := h1.lookup keyedP Tryz.underlying54 (zeroR _) (zd := .held (.agg #[.int .i64 0, .map none])) (zp := []) rfl HKY.out
      obtain rfl : v = .agg #[.int .i64 (cnt ds a m : Nat), .map (some (f a m))] := by
        rw [hatk] at hv
        simp [RV] at hv
        exact hv.1
      have h30 := HLR2.out.1
      have hnl := HNL.out HLR2.out
      rw [List.take_length] at hnl
      have HLN := hid_intro (lines_any (f a m) M' Dn (net ds a m) w1 hNO (by omega) hNN (by omega) HSz.out)
      have hfl := fldR (cnt ds a m : Nat) (some (f a m)) w1
      generalize ((cnt ds a m : Nat) : Int) = cc at *
      generalize f a m = nb at *
      clear h1 h2 h3 h4 hv hb hlb hc hatk hNO hNN
      go_wp2_with fail
      refine HLN.out.mono ?_
      rintro e w2 ⟨v, rfl, ho, hb2⟩
      have HB2 := hid_intro (HB.out.trans (hb2.mono HB.out.size))
      have HO2 := hid_intro (own_low ho HB.out.size)
      clear ho hb2
      go_wp2_with fail
      go_ret
      rw [HE.out]
      exact resL_own HO2.out HB2.out
set_option maxRecDepth 100000 in
set_option maxHeartbeats 4000000 in
theorem snet (ao : Option Addr) (cap : Nat) (ds : List D) (a : ByteArray) (m : Int) (w : World) (hR : LRight ds) (hI : Dcs ao ds w) :
    Calls Tryz.prog 43 #[.slice ao ds.length cap, .string a, .int .i64 m] w fun e w' => ∃ v, e = .returned v ∧ OwnN w' w.heap.size v (clL (net ds a m)) ∧ Below w.heap.size w w' := by
  have H1 := hid_intro (ssum ao cap ds a m w hR.1 hR.2.1 hI)
  have HNL : Hid ((net ds a m).length ≤ 1000) := hid_intro (by have h := (net_facts (ds := ds) ds.length (Nat.le_refl _) hR.2.1 a m).2.1; rw [List.take_length] at h; have := hR.1; omega)
  generalize ds.length = len at *
  generalize net ds a m = L at *
  clear hI hR
  go_enter Tryz.func43, Tryz.ntmps43
  go_wp2_with fail
  refine H1.out.mono ?_
  rintro e w1 ⟨v, rfl, hv, hb1⟩
  have HB1 := hid_intro hb1
  obtain ⟨g, cp, rfl, h1, h2, h3, h4, h5⟩ := hv.open
  have H2 := hid_intro (sclean (some ⟨g, 0, none⟩) cp L w1 (by have := HNL.out; omega) h5)
  clear hv h5 hb1
  generalize L.length = ll at *
  generalize ovB L = rr at *
  go_wp2_with fail
  refine H2.out.mono ?_
  rintro e w2 ⟨v2, rfl, hv2, hb2⟩
  have HB2 := hid_intro (HB1.out.trans (hb2.mono HB1.out.size))
  have HV2 : Hid (OwnN w2 w.heap.size v2 (clL L)) := hid_intro ⟨own_low hv2.1 HB1.out.size, hv2.2⟩
  clear hv2 hb2
  go_wp2_with fail
  go_ret
  exact ⟨_, rfl, HV2.out, HB2.out⟩
set_option maxRecDepth 100000 in
set_option maxHeartbeats 4000000 in
theorem spec_netN (ao : Option Addr) (cap : Nat) (ds : List D) (a : ByteArray) (m : Int) (w : World) (hlen : ds.length ≤ 1048576) (hSm : ∀ d ∈ ds, d.Sm) (ha : a.size ≤ 1048576) (hI : Dcs ao ds w) :
    Calls Tryz.prog 14 #[.slice ao ds.length cap, .string a, .int .i64 m] w fun e w' => ∃ v, e = .returned v ∧ OwnN w' w.heap.size v (netB ds a m) ∧ Below w.heap.size w w' := by
  have H1 := hid_intro (spec_ledger ao cap ds w hlen hSm hI)
  have HK := hid_intro (fun W (h : Below w.heap.size w W) (r : lB ds = true) => snet ao cap ds a m W (lB_iff.1 r) (hI.below h))
  have HT : Hid (netB ds a m = bif lB ds then clL (net ds a m) else []) := rfl
  have HLA : Hid (400 < ds.length → lB ds = false) := hid_intro (fun h => lB_no (fun hr => by have := hr.1; omega))
  have HLG : Hid (8000 < a.size → netB ds a m = []) := hid_intro (fun h => by
    unfold netB
    cases hb : lB ds
    · rfl
    · rw [cond_true, net_long (lB_iff.1 hb) h]; rfl)
  generalize clL (net ds a m) = C at *
  generalize netB ds a m = T at *
  generalize lB ds = r at *
  generalize ds.length = len at *
  generalize hsz : a.size = sz at *
  clear hI hSm
  have HBz := hid_intro (fun W (h : Below w.heap.size w W) => h.alloc h.size (.cells #[] 74))
  by_cases qa : 400 < len
  · have qa2 : (400 : Int) < (len : Int) := by omega
    have HE : Hid (T = []) := hid_intro (by rw [HT.out, HLA.out qa]; rfl)
    go_enter Tryz.func14, Tryz.ntmps14
    go_wp2_with fail
    go_ret
    rw [HE.out]
    exact ⟨_, rfl, ⟨own_empty w w.heap.size 74 2 (Nat.le_refl _), fun e => by cases e⟩, HBz.out _ (Below.refl _ _)⟩
  have qa2 : ¬ (400 : Int) < (len : Int) := by omega
  by_cases qb : 8000 < sz
  · have qb2 : (8000 : Int) < (sz : Int) := by omega
    have HE := hid_intro (HLG.out qb)
    go_enter Tryz.func14, Tryz.ntmps14
    go_wp2_with fail
    go_ret
    rw [HE.out]
    exact ⟨_, rfl, ⟨own_empty w w.heap.size 74 2 (Nat.le_refl _), fun e => by cases e⟩, HBz.out _ (Below.refl _ _)⟩
  have qb2 : ¬ (8000 : Int) < (sz : Int) := by omega
  cases r
  · have HE : Hid (T = []) := HT
    go_enter Tryz.func14, Tryz.ntmps14
    go_wp2_with fail
    refine H1.out.mono ?_
    rintro e w1 ⟨rfl, hb1⟩
    have HB := hid_intro hb1
    clear hb1
    go_wp2_with fail
    go_ret
    rw [HE.out]
    exact ⟨_, rfl, ⟨own_empty w1 w.heap.size 74 2 HB.out.size, fun e => by cases e⟩, HBz.out _ HB.out⟩
  · have HE : Hid (T = C) := HT
    go_enter Tryz.func14, Tryz.ntmps14
    go_wp2_with fail
    refine H1.out.mono ?_
    rintro e w1 ⟨rfl, hb1⟩
    have HB := hid_intro hb1
    clear hb1
    have H2 := hid_intro (HK.out w1 HB.out (by trivial))
    go_wp2_with fail
    refine H2.out.mono ?_
    rintro e w2 ⟨v, rfl, hv, hb2⟩
    have HB2 := hid_intro (HB.out.trans (hb2.mono HB.out.size))
    have HV : Hid (OwnN w2 w.heap.size v C) := hid_intro ⟨own_low hv.1 HB.out.size, hv.2⟩
    clear hv hb2
    go_wp2_with fail
    go_ret
    rw [HE.out]
    exact ⟨_, rfl, HV.out, HB2.out⟩
theorem spec_net (ao : Option Addr) (cap : Nat) (ds : List D) (a : ByteArray) (m : Int) (w : World) (hlen : ds.length ≤ 1048576) (hSm : ∀ d ∈ ds, d.Sm) (ha : a.size ≤ 1048576) (hI : Dcs ao ds w) :
    Calls Tryz.prog 14 #[.slice ao ds.length cap, .string a, .int .i64 m] w fun e w' => ResL w (netB ds a m) e w' := by
  refine (spec_netN ao cap ds a m w hlen hSm ha hI).mono ?_
  rintro e w' ⟨v, rfl, hv, hb⟩
  exact resL_own hv.1 hb
end LedR
end Go.Proofs.YtlfebpgohpmknaaGreatDoor
namespace Go.Proofs.YtlfebpgohpmknaaGreatDoor
open Go.ChangeShapes Go.WideShapes Go.ChangeAt Go.RowKit
set_option linter.unusedVariables false
namespace LedR
open LinR RowG LtR NetR DocR
open NameR (nameB)
/-- What the bill has more than the net. -/
def moreG (ds : List D) (a : ByteArray) (m : Int) (bl : List N) : List N := all bl ((net ds a m).filter nz) (-1)
def isBigB (ds : List D) (a : ByteArray) (bl : List N) : Bool := decide (400 < ds.length ∨ 8000 < a.size ∨ 400 < bl.length)
def isFormB (ds : List D) (a : ByteArray) (m : Int) (bl : List N) : Bool := lB ds && (nameB a && (decide (0 ≤ m ∧ m ≤ 2760) && sB bl))
def isC (ds : List D) (a : ByteArray) (m : Int) (bl : List N) : Int :=
  bif isBigB ds a bl then 2 else bif !isFormB ds a m bl then 1 else bif !ovB (moreG ds a m bl) then 12 else bif decide (clL (moreG ds a m bl) = [] ∧ 0 < cnt ds a m) then 7 else bif decide (30 ≤ ds.length) then 9 else 0
/-- The document that is issued. -/
def newD (ds : List D) (a : ByteArray) (m : Int) (bl : List N) : D := ⟨a, m, cnt ds a m, clL (moreG ds a m bl)⟩
def isX (ds : List D) (a : ByteArray) (m : Int) (bl : List N) : D := if isC ds a m bl = 0 then newD ds a m bl else D.zero
def isD (ds : List D) (a : ByteArray) (m : Int) (bl : List N) : List D := if isC ds a m bl = 0 then ds ++ [newD ds a m bl] else []
section
variable (ds : List D) (a : ByteArray) (m : Int) (bl : List N)
theorem is_err {c : Int} (h : isC ds a m bl = c) (h0 : c ≠ 0) : isD ds a m bl = [] ∧ isX ds a m bl = D.zero ∧ isC ds a m bl = c := by
  have : ¬ isC ds a m bl = 0 := by rw [h]; exact h0
  exact ⟨if_neg this, if_neg this, h⟩
theorem isBig (h : 400 < ds.length ∨ 8000 < a.size ∨ 400 < bl.length) : isD ds a m bl = [] ∧ isX ds a m bl = D.zero ∧ isC ds a m bl = 2 :=
  is_err ds a m bl (by unfold isC isBigB; rw [decide_eq_true h]; rfl) (by decide)
theorem isForm (h : ¬ (400 < ds.length ∨ 8000 < a.size ∨ 400 < bl.length)) (h1 : isFormB ds a m bl = false) : isD ds a m bl = [] ∧ isX ds a m bl = D.zero ∧ isC ds a m bl = 1 :=
  is_err ds a m bl (by unfold isC isBigB; rw [decide_eq_false h, h1]; rfl) (by decide)
theorem isGo (h : ¬ (400 < ds.length ∨ 8000 < a.size ∨ 400 < bl.length)) (h1 : isFormB ds a m bl = true) :
    (ovB (moreG ds a m bl) = false → isD ds a m bl = [] ∧ isX ds a m bl = D.zero ∧ isC ds a m bl = 12)
    ∧ (ovB (moreG ds a m bl) = true → clL (moreG ds a m bl) = [] → 0 < cnt ds a m → isD ds a m bl = [] ∧ isX ds a m bl = D.zero ∧ isC ds a m bl = 7)
    ∧ (ovB (moreG ds a m bl) = true → ¬ (clL (moreG ds a m bl) = [] ∧ 0 < cnt ds a m) → 30 ≤ ds.length → isD ds a m bl = [] ∧ isX ds a m bl = D.zero ∧ isC ds a m bl = 9)
    ∧ (ovB (moreG ds a m bl) = true → ¬ (clL (moreG ds a m bl) = [] ∧ 0 < cnt ds a m) → ds.length < 30 → isD ds a m bl = ds ++ [newD ds a m bl] ∧ isX ds a m bl = newD ds a m bl ∧ isC ds a m bl = 0) := by
  have e : isC ds a m bl = bif !ovB (moreG ds a m bl) then 12 else bif decide (clL (moreG ds a m bl) = [] ∧ 0 < cnt ds a m) then 7 else bif decide (30 ≤ ds.length) then 9 else 0 := by
    unfold isC isBigB
    rw [decide_eq_false h, h1]
    rfl
  refine ⟨fun h2 => ?_, fun h2 h3 h4 => ?_, fun h2 h3 h4 => ?_, fun h2 h3 h4 => ?_⟩
  · exact is_err ds a m bl (by rw [e, h2]; rfl) (by decide)
  · exact is_err ds a m bl (by rw [e, h2, decide_eq_true ⟨h3, h4⟩]; rfl) (by decide)
  · exact is_err ds a m bl (by rw [e, h2, decide_eq_false h3, decide_eq_true h4]; rfl) (by decide)
  · have e0 : isC ds a m bl = 0 := by rw [e, h2, decide_eq_false h3, decide_eq_false (by omega)]; rfl
    exact ⟨if_pos e0, if_pos e0, e0⟩
end
theorem right_nz {es : List N} (h : SRight es) : es.filter nz = es := by
  rw [List.filter_eq_self]
  intro x hx
  obtain ⟨i, hi, rfl⟩ := List.getElem_of_mem hx
  have := (h.2 i hi).2
  rw [show es.getD i N.zero = es[i] by simp [List.getD, hi]] at this
  unfold lOk at this
  simp only [Bool.and_eq_true] at this
  exact this.2.2
theorem clL_nz (G : List N) : (clL G).filter nz = clL G := by
  unfold clL
  cases ovB G
  · rfl
  · rw [cond_true, List.filter_filter]
    simp
theorem cnt_lt (ds : List D) (a : ByteArray) (m : Int) : cnt ds a m ≤ ds.length := cnt_le ds a m
end LedR
end Go.Proofs.YtlfebpgohpmknaaGreatDoor
namespace Go.Proofs.YtlfebpgohpmknaaGreatDoor
open Go.ChangeShapes Go.WideShapes Go.ChangeAt Go.RowKit
set_option linter.unusedVariables false
namespace RowG
theorem grown_refl (w : World) (row : Option Nat) : w.grownBy w row := ⟨rfl, rfl, rfl, Nat.le_refl _, fun _ _ _ => rfl⟩
theorem wpList_append_whole {P : Program} (w : World) {ops : Array Oper} {rest : List Oper} {o : Oper} {a : Act} {Q : Exit → Act → World → Prop} (hgd : o.guard = none) (s x : Operand) (t : TypeId)
    (ho : o.op = .call { callee := .builtin .append, args := #[s, x], argTypes := #[t, t] })
    (base : Nat) (e : TypeId) (i : TypeInfo) (z : Value) (size bytes : Nat) (ht : P.underlying t = some (.slice e)) (hi : P.info? e = some i) (hz : i.zero = some z)
    (hsize : i.size = size) (hby : i.bytes = bytes) (hzs : z.cells.size = size) (hsz : 0 < size)
    (g : Nat) (hs : a.eval s = .slice (some ⟨g, 0, none⟩) 0 0) (hown : w.ownsRow base e size (.slice (some ⟨g, 0, none⟩) 0 0) 0 [])
    (la : Option Addr) (m c : Nat) (news : List Value) (hx : a.eval x = .slice la m c) (hl : news.length = m * size) (hla : m = 0 ∨ ∃ ad, la = some ad ∧ ∀ j u, news[j]? = some u → w.cell? (ad.add j) = some u) (h1 : ∀ u ∈ news, u.oneCell' = true)
    (h63 : m ≤ maxLen) (hbytes : m * bytes ≤ 140737488355328) (hbase : base ≤ w.heap.size)
    (h : ∀ v' w', w'.ownsRow base e size v' m news → w.grownBy w' (some g) → v' ≠ .slice none 0 0 → wpList P ops Q rest (a.put o.dst v') w') : wpList P ops Q (o :: rest) a w := by
  cases la with
  | none =>
    have hm : m = 0 := by
      rcases hla with h0 | ⟨ad, e, _⟩
      · exact h0
      · cases e
    subst hm
    obtain rfl : news = [] := List.eq_nil_of_length_eq_zero (by simpa using hl)
    have hrun := run_append_room_src (P := P) w t t o.type e i ht hi g 0 0 0 (.slice none 0 c) 0 [] (Src.ofNil w ht c) (by omega) (fun j hj => by simp at hj) (fun j hj => by simp at hj)
    refine wpList_plain hgd fun K hK => ?_
    unfold Oper.wp
    simp only [execOp, ho, resolve, invoke, builtin, Sem.run_bind, Sem.run_pure, Result.andThen_ok, List.map_toArray, List.map_cons, List.map_nil, hs, hx, hrun]
    exact hK _ _ (h _ _ hown (grown_refl _ _) (by simp))
  | some ad =>
    refine wpList_append_own w hgd s x t ho base e i z size bytes ht hi hz hsize hby hzs hsz _ 0 [] hs hown ad m c news hx hl ?_ h1 (by rw [Nat.zero_add]; exact h63) (by rw [Nat.zero_add]; exact hbytes) hbase ?_
    · rcases hla with h0 | ⟨ad', e, hc⟩
      · subst h0
        obtain rfl : news = [] := List.eq_nil_of_length_eq_zero (by simpa using hl)
        intro j u hj
        simp at hj
      · cases e
        exact hc
    · intro v' w' hv hg hn
      refine h v' w' (by simpa using hv) hg (fun e => ?_)
      have := (hn.1 e).1
      cases this
end RowG
end Go.Proofs.YtlfebpgohpmknaaGreatDoor
