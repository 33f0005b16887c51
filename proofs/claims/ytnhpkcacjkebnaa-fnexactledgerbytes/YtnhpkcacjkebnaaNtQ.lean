/-
  The program's nets: whether one runs beyond, and its lines. The conditions: at most 1048576 Meters of at most 1048576 bytes.
-/
import Derived.Test.YtnhpkcacjkebnaaNtP
import Derived.Test.YtnhpkcacjkebnaaLiD
import Derived.Test.YtnhpkcacjkebnaaIter
namespace Go.Proofs.Ytnhpkcacjkebnaa
open Go.ChangeShapes Go.WideShapes Go.ChangeAt Go.RowKit
set_option linter.unusedVariables false
namespace NetR
open LinR RowG LtR
/-- Why not: a number runs beyond. -/
def ovE (r : Bool) : Value := if r then .nilIface else .iface 87 (.agg #[.int .i64 12])
theorem ov_false {L : List N} {y : N} (hy : y ∈ L) (h : nOk y.n = false) : ovB L = false := by
  unfold ovB
  cases hh : L.all (fun y => nOk y.n)
  · rfl
  · rw [List.all_eq_true] at hh
    have := hh y hy
    rw [h] at this
    cases this
set_option maxRecDepth 100000 in
set_option maxHeartbeats 4000000 in
theorem over_any (b M : Nat) (D : DataW Value) (L : List N) (w : World) (hO : w.ownsMap Try.prog 9 (plainElem (H := Value) Try.prog 2) b M D) (hN : NetM D L) :
    Calls Try.prog 53 #[.map (some b)] w fun e w' => e = .returned (ovE (ovB L)) ∧ Below w.heap.size w w' := by
  have HO := hid_intro hO
  have HN := hid_intro hN
  have hblt := hO.lt
  have HIN := hid_intro (fun n w => inum n w)
  clear hO hN
  go_enter Try.func53, Try.ntmps53
  go_wp2_with (at_range; refine wpList_range_own _ rfl _ 68 rfl 9 2 keyedS Try.underlying68 _ b M D rfl HO.out ?_; intro w0 hrg0 hg0 hs0)
  have HB0 : Hid (Below w.heap.size w w0) := hid_intro ((Below.refl _ _).grown hg0 (Nat.le_refl _) (fun k e => by cases e))
  clear hg0 hs0
  go_frame
  go_loopw [2] (fun v wr => ∃ (left : Lit → Bool) (cnt : Nat), v = .nilIface ∧ wr.ranges Try.prog 9 (plainElem (H := Value) Try.prog 2) b w.heap.size M D left cnt ∧ Hid (∀ y ∈ L, left (kS y.i) = false → nOk y.n = true) ∧ Hid (Below w.heap.size w wr)) (fun _ wr => wr.rangeLeft b w.heap.size)
  case atStart => exact ⟨_, _, rfl, hrg0, hid_intro (fun y hy h => by rw [(HN.out.has y.i).2 ⟨y, hy, rfl⟩] at h; cases h), HB0⟩
  case round =>
    obtain ⟨left, cnt, rfl, hrg, HLf, HB⟩ := hrel
    have HRG := hid_intro hrg
    have hmeas := hrg.left_eq
    clear hrg
    go_wp2_with (at_next; refine wpList_next_ranges _ rfl _ rfl 9 keyedS _ encStr (Value.int .i64) (fun key kl h => by obtain ⟨x, hx, _⟩ := Maps.keyOf_str Try.underlying9 h; exact ⟨x, hx⟩) (fun v y h => by obtain ⟨a, ha, _⟩ := plainElem_int_inv Try.underlying2 h; exact ⟨a, ha⟩) b w.heap.size M D left cnt rfl HRG.out ?_ ?_)
    · intro hc0 hl0
      have HE : Hid (ovB L = true) := hid_intro (by unfold ovB; rw [List.all_eq_true]; exact fun y hy => HLf.out y hy (hl0 _))
      clear hl0
      go_wp2_with fail
      go_ret
      exact ⟨by rw [HE.out]; rfl, HB.out⟩
    · intro x c kl yd yp w' cnt' hkey hlk hv hat hrg' hlt hgr hsz hen
      obtain ⟨x', hx', hkl, _⟩ := Maps.keyOf_str Try.underlying9 hkey
      obtain ⟨a, ha, hy, _⟩ := plainElem_int_inv Try.underlying2 hv
      simp only [Value.int.injEq, true_and] at ha
      subst ha
      simp only [Prod.mk.injEq] at hy
      obtain ⟨rfl, _⟩ := hy
      obtain ⟨q, hq, hqk⟩ := HN.out.key ⟨x', hkl⟩ (Maps.has_true_of_atKey hat)
      have hqn : q.n = c := by
        have h1 := HN.out.nat q hq (.lit (.int .i64 0))
        rw [hqk, hat] at h1
        simpa using h1.symm
      have HB1 := hid_intro (HB.out.grown hgr HB.out.size (fun k e => by cases e; exact Nat.le_refl _))
      have HRG1 := hid_intro hrg'
      have hms := hrg'.left_eq
      have HQ : Hid (nOk c = false → ovB L = false) := hid_intro (fun h => ov_false hq (by rw [hqn]; exact h))
      have HL2 : Hid (nOk c = true → ∀ y ∈ L, (left (kS y.i) && !(kS y.i).sameKey kl) = false → nOk y.n = true) := hid_intro (fun h y hy h2 => by
        cases h3 : left (kS y.i)
        · exact HLf.out y hy h3
        · rw [h3] at h2
          simp only [Bool.true_and, Bool.not_eq_false'] at h2
          have e := WideAt.sameKey_eq h2
          have h4 := HN.out.nat y hy (.lit (.int .i64 0))
          rw [e, hat] at h4
          have h5 : c = y.n := by simpa using h4
          rw [← h5]; exact h)
      clear hkey hlk hv hat hrg' hgr hqk hqn hq hx' hkl HRG HLf HB
      have HC := hid_intro (fun w => inum c w)
      generalize nOk c = r at *
      cases r
      · have HE := hid_intro (HQ.out rfl)
        go_wp2_with (go_at_call 51; refine (HC.out _).mono ?_; rintro e w2 ⟨rfl, rfl⟩)
        go_ret
        exact ⟨by rw [HE.out]; rfl, HB1.out⟩
      · have HE := hid_intro (HL2.out rfl)
        go_wp2_with (go_at_call 51; refine (HC.out _).mono ?_; rintro e w2 ⟨rfl, rfl⟩)
        go_roundw
        case rel => exact ⟨_, _, rfl, HRG1.out, HE, HB1⟩
        case measure => rw [hms, hmeas]; exact hlt
/-- A row of Meters. -/
def icell (y : N) : List Value := [.string y.i]
theorem icells (L : List N) : (L.map (fun y => y.i.data.toList)).map encStr = cellsAll icell L := by
  induction L with
  | nil => rfl
  | cons y l ih =>
    simp only [List.map_cons, cellsAll, List.flatMap_cons, icell] at *
    rw [ih]
    simp [encStr]
theorem nil_row (w : World) (e : TypeId) : w.ownsRow w.heap.size e 2 (.slice none 0 0) ([] : List N).length (cellsAll N.cells []) := World.ownsRow_nil _ _ _ _
theorem omap_below {P : Program} {k : TypeId} {R : Value → Option (DataW Value × List MemPlace)} {w w' : World} {b n : Nat} {D : DataW Value} (h : w.ownsMap P k R b n D) (hb : Below w.heap.size w w') : w'.ownsMap P k R b n D :=
  h.kept (row := none) ⟨hb.os, hb.tape, hb.output, hb.size, fun k hk _ => hb.block k hk⟩ (by simp)
set_option maxRecDepth 100000 in
set_option maxHeartbeats 4000000 in
theorem lines_any (b M : Nat) (D : DataW Value) (L : List N) (w : World) (hO : w.ownsMap Try.prog 9 (plainElem (H := Value) Try.prog 2) b M D) (hM : M ≤ 1048576) (hN : NetM D L) (hlen : L.length ≤ 1048575) (hS : ∀ y ∈ L, y.i.size ≤ 1048576) :
    Calls Try.prog 41 #[.map (some b)] w fun e w' => ∃ v, e = .returned v ∧ w'.ownsRow w.heap.size 45 2 v (L.filter nz).length (cellsAll N.cells (L.filter nz)) ∧ Below w.heap.size w w' := by
  obtain ⟨i0, hi, hz0, hz1, hz2⟩ := info_parts infoN
  have hsl := hO.size_le
  have HSK := hid_intro (callsIn_wide.1 (Try.slices_Sorted_keys_57_58 b M D (plainElem (H := Value) Try.prog 2) w hO (by unfold maxLen; omega) (by omega)))
  have HSO : Hid (∀ ss : List (List UInt8), ss.Perm (strKeys D) → ss.mergeSort (fun x y => decide (x ≤ y)) = L.map (fun y => y.i.data.toList)) := hid_intro (fun ss h => hN.sorted Try.underlying9 hO h)
  have HO := hid_intro hO
  have HN := hid_intro hN
  have HS := hid_intro hS
  have HKY := hid_intro (Try.keys_any (some b) w)
  obtain ⟨len, hl⟩ : ∃ len, len = L.length := ⟨_, rfl⟩
  rw [← hl] at hlen
  have HL := hid_intro hl
  clear hO hN hS hl hsl
  go_enter Try.func41, Try.ntmps41
  go_wp2_with fail
  refine HKY.out.mono ?_
  rintro e w1 ⟨rfl, rfl⟩
  go_wp2_with fail
  refine HSK.out.mono ?_
  rintro e w2 ⟨v0, ss, rfl, hss, hrow, hnil, hb2⟩
  have HB2 : Hid (Below w.heap.size w w2) := hid_intro (((Below.refl _ w).alloc (Nat.le_refl _) _).trans (hb2.mono (by simp)))
  have hsl2 : ss.length = L.length := by
    have h1 := congrArg List.length (HSO.out ss hss)
    simpa using h1
  rw [HSO.out ss hss, icells, hsl2] at hrow
  obtain ⟨ao, cap, rfl, hm⟩ := own_made (k := 1) (z := N.zero) (cells := icell) (fun _ => rfl) hrow
  have HM0 := hid_intro hm.rws
  have HB20 : Hid (∀ W, Below w2.heap.size w2 W → Rws 1 icell N.zero ao L W) := hid_intro (fun W h => Rws.below HM0.out h)
  rw [← HL.out]
  clear hrow hnil hss hsl2 hm hb2 HM0 HSK HSO HKY
  go_wp2_with fail
  go_loopw [3, 10] (fun v z wr => ∃ k : Nat, k ≤ len ∧ z = .int .i64 k ∧ Hid (wr.ownsRow w2.heap.size 45 2 v k (cellsAll N.cells (L.take k))) ∧ Hid (Below w2.heap.size w2 wr)) (fun v z _ => len - (intOf z).toNat)
  case atStart => exact ⟨0, by omega, rfl, hid_intro (World.ownsRow_nil _ _ _ _), hid_intro (Below.refl _ _)⟩
  case round =>
    obtain ⟨k, hk, rfl, HR, HBw⟩ := hrel
    have HB := hid_intro (HB2.out.trans (HBw.out.mono HB2.out.size))
    by_cases hlt : k < len
    · have hlt2 : (k : Int) < (len : Int) := by omega
      have hkl : k < L.length := by have := HL.out; omega
      obtain ⟨b0, off, rfl, hbl, ca⟩ := (HB20.out wr HBw.out).at k hkl
      have c0 : wr.cell? ⟨b0, off + k, none⟩ = some (.string (L.getD k N.zero).i) := by have := ca 0 (by omega); rw [Nat.mul_one, Nat.add_zero] at this; exact this
      have hmem := getD_mem (z := N.zero) L k hkl
      have hsz := HS.out _ hmem
      have HT := hid_intro (take_more (z := N.zero) L k hkl)
      have HLK : Hid (D.atKey (kS (L.getD k N.zero).i) (.lit (.int .i64 0)) = .lit (.int .i64 (L.getD k N.zero).n)) := hid_intro (HN.out.nat _ hmem _)
      generalize L.getD k N.zero = X at *
      obtain ⟨xi, xn⟩ := X
      dsimp only at c0 hsz HLK
      have HK := hid_intro (Go.WideMaps.keyOf_string_mk (P := Try.prog) (k := 9) Try.underlying9 (s := xi) (Nat.le_trans hsz (by unfold maxLen; omega)))
      have HKE : Hid (kS xi = .string xi.data.toList) := rfl
      have HOl := hid_intro (omap_below HO.out HB.out)
      rw [← HKE.out] at HK
      generalize kS xi = K0 at *
      have sz1 : k + 1 ≤ maxLen := by unfold maxLen; omega
      have sz2 : (k + 1) * 24 ≤ 140737488355328 := by omega
      have sz5 := HBw.out.size
      clear HKE ca hmem
      go_wp2_with (first | (at_lookup; refine wpList_lookup_own_int _ rfl _ _ 68 rfl 9 2 .i64 keyedS Try.underlying68 Try.underlying2 (zeroI _) b M D rfl HOl.out _ _ rfl HK.out ?_; intro c hat hwc; obtain rfl : xn = c := (by have h := HLK.out.symm.trans hat; simpa using h); clear hat hwc) | (at_builtin; refine wpList_append_own _ rfl _ _ 24 rfl w2.heap.size 45 i0 (.agg #[.string ⟨#[]⟩, .int .i64 0]) 2 24 Try.underlying24 hi hz0 hz1 hz2 rfl (by decide) _ _ _ rfl (HR.out.alloc _) ⟨wr.heap.size, 0, none⟩ 1 1 (N.cells ⟨xi, xn⟩) rfl rfl (two_cells _ _ _ _) (two_one _) sz1 sz2 (by simp; omega) ?_; intro v' w4 hown hgrow hne))
      have HR4 : Hid (w4.ownsRow w2.heap.size 45 2 v' (k + 1) (cellsAll N.cells (L.take (k + 1)))) := hid_intro (by rw [HT.out, cellsAll_app]; exact hown)
      have HOB := hid_intro (fun c hc => (HR.out.lt c hc).1)
      have HB4 : Hid (Below w2.heap.size w2 w4) := hid_intro ((HBw.out.alloc HBw.out.size _).grown hgrow (HBw.out.alloc HBw.out.size _).size (fun c e => HOB.out c e))
      clear hown hgrow hne HOB
      go_wp2_with fail
      go_roundw
      case rel => exact ⟨k + 1, by omega, by go_num, HR4, HB4⟩
      case measure => simp [intOf]; omega
    · have hlt2 : ¬ (k : Int) < (len : Int) := by omega
      obtain rfl : k = len := by omega
      have HT : Hid (L.take k = L) := hid_intro (List.take_of_length_le (by have := HL.out; omega))
      rw [HT.out] at HR
      obtain ⟨bo, cap', rfl, hm⟩ := own_made (z := N.zero) N.len (by rw [← HL.out]; exact HR.out)
      have HM := hid_intro hm.rws
      have HPT := hid_intro (put_any bo cap' L wr (by have := HL.out; omega) HS.out hm.rws)
      rw [← HL.out] at HPT ⊢
      clear hm
      go_wp2_with fail
      refine HPT.out.mono ?_
      rintro e w5 ⟨v, rfl, ho, hb5⟩
      have HO5 := hid_intro (own_low ho HB.out.size)
      have HB5 := hid_intro (HB.out.trans (hb5.mono HB.out.size))
      clear ho hb5
      go_wp2_with fail
      go_ret
      exact ⟨_, rfl, HO5.out, HB5.out⟩
set_option maxRecDepth 100000 in
set_option maxHeartbeats 4000000 in
theorem lines_nil (w : World) :
    Calls Try.prog 41 #[.map none] w fun e w' => ∃ v, e = .returned v ∧ w'.ownsRow w.heap.size 45 2 v ([] : List N).length (cellsAll N.cells []) ∧ Below w.heap.size w w' := by
  have HSK := hid_intro (callsIn_wide.1 (Try.slices_Sorted_keys_nil_57_58 w))
  have HKY := hid_intro (Try.keys_any none w)
  go_enter Try.func41, Try.ntmps41
  go_wp2_with fail
  refine HKY.out.mono ?_
  rintro e w1 ⟨rfl, rfl⟩
  go_wp2_with fail
  refine HSK.out.mono ?_
  rintro e w2 ⟨v0, ss, rfl, hss, hrow, hnil, hb2⟩
  obtain rfl : v0 = .slice none 0 0 := hnil.2 hss
  have HB2 : Hid (Below w.heap.size w w2) := hid_intro (((Below.refl _ w).alloc (Nat.le_refl _) _).trans (hb2.mono (by simp)))
  clear hrow hnil hss hb2 HSK HKY
  go_wp2_with fail
  go_loopw [3, 10] (fun v z wr => v = .slice none 0 0 ∧ z = .int .i64 0 ∧ Hid (Below w.heap.size w wr)) (fun v z _ => 0)
  case atStart => exact ⟨rfl, rfl, HB2⟩
  case round =>
    obtain ⟨rfl, rfl, HB⟩ := hrel
    have HPT := hid_intro (put_any none 0 [] wr (by simp) (fun e he => by cases he) (.inl rfl))
    go_wp2_with fail
    refine HPT.out.mono ?_
    rintro e w5 ⟨v, rfl, ho, hb5⟩
    have HO5 := hid_intro (own_low ho HB.out.size)
    have HB5 := hid_intro (HB.out.trans (hb5.mono HB.out.size))
    clear ho hb5
    go_wp2_with fail
    go_ret
    exact ⟨_, rfl, HO5.out, HB5.out⟩
end NetR
end Go.Proofs.Ytnhpkcacjkebnaa
