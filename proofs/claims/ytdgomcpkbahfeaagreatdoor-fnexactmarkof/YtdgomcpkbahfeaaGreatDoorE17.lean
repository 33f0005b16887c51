/-
  A list of lines that came in, read as a row. No condition.
  What a list of lines that the law does not pass by is like. No condition.
  The model's and the program's Less: both hand back the same lines. The conditions: what right lines are.
  Documents: what is read of one, the law's own copies, and two held against each other. The condition: at most 1048576 lines.
-/
import Derived.Deep.Fields
import Derived.OpenVars
import Derived.Carry
import Derived.ChangeMaps5
import Derived.Lib.SmallJoins
import Derived.DataReads
import Derived.Test.YtdgomcpkbahfeaaGreatDoorE16
namespace Go.Proofs.YtdgomcpkbahfeaaGreatDoor
open Go.ChangeShapes Go.WideShapes Go.ChangeAt Go.RowKit Go.Deep
set_option linter.unusedVariables false
namespace LinR
/-- A slice of lines that came in. -/
def IsLis (w : World) (a : Option Addr) (es : List N) : Prop := es.length ≤ maxLen ∧ Lis a es w ∧ ∀ e ∈ es, e.i.size ≤ maxLen
section
variable {H : Type} {enc : TypeId × Value → H} {P : Program} {w : World} {base : Nat} {spare : Nat → Bool} {held : Bool}
theorem list2 {α : Type} {cs : List α} (h : cs.length = 2) : ∃ c0 c1, cs = [c0, c1] := by
  match cs, h with
  | [c0, c1], _ => exact ⟨c0, c1, rfl⟩
theorem line_cells {t : TypeId} {f0 f1 : Field} {fuel : Nat} {cs : List Value} {x : DataW H × List MemPlace} (hs : P.underlying t = some (.struct #[f0, f1])) (hone : oneCellFields P #[f0, f1] = true) (hC : P.cellsOf t = 2)
    (u0 : P.underlying f0.type = some .string) (u1 : P.underlying f1.type = some (.int .i64))
    (h : DataW.trod enc P w base spare held fuel t cs = some x) :
    ∃ (i : ByteArray) (n : Int), cs = [.string i, .int .i64 n] ∧ i.size ≤ maxLen := by
  obtain ⟨xs, n, _, _, hl, hlen, hf⟩ := DataW.trod_struct hs h
  obtain ⟨c0, c1, rfl⟩ := list2 (hl.trans hC)
  obtain ⟨y0, y1, rfl⟩ := list2 (show xs.length = 2 from hlen)
  obtain ⟨o0, k0⟩ := hone_of hone 0 f0 rfl
  obtain ⟨o1, k1⟩ := hone_of hone 1 f1 rfl
  have h0 := hf 0 f0 rfl
  have h1 := hf 1 f1 rfl
  simp [o0, k0] at h0
  simp [o1, k1] at h1
  obtain ⟨i, e0, _, s0⟩ := DataW.trod_string u0 h0
  obtain ⟨p, e1, _, s1⟩ := DataW.trod_int u1 h1
  simp only [List.cons.injEq, and_true] at e0 e1
  subst e0 e1
  exact ⟨i, p, rfl, s0⟩
theorem cells_at {a : Addr} {cs : List Value} {n : Nat} (h : w.cells? base a n = some cs) (j : Nat) (hj : j < n) : w.cell? (a.add j) = cs[j]? := by
  obtain ⟨_, h1, h2⟩ := World.cells?_some h
  exact h2 j hj
theorem lis_open {t e : TypeId} {f0 f1 : Field} {fuel : Nat} {ao : Option Addr} {len cap : Nat} {x : DataW H × List MemPlace} (ht : P.underlying t = some (.slice e)) (hs : P.underlying e = some (.struct #[f0, f1])) (hone : oneCellFields P #[f0, f1] = true) (hC : P.cellsOf e = 2)
    (u0 : P.underlying f0.type = some .string) (u1 : P.underlying f1.type = some (.int .i64))
    (h : DataW.trod enc P w base spare held fuel t [.slice ao len cap] = some x) : ∃ es, es.length = len ∧ IsLis w ao es := by
  rcases DataW.trod_slice ht h with ⟨hcs, _⟩ | ⟨a, len', cap', elems, rest, n, _, hcs, _, hb, hl, hm, hlen, hel, _, _⟩
  · simp only [List.cons.injEq, Value.slice.injEq, and_true] at hcs
    obtain ⟨rfl, rfl, rfl⟩ := hcs
    exact ⟨[], rfl, Nat.zero_le _, .inl rfl, fun e he => by cases he⟩
  · simp only [List.cons.injEq, Value.slice.injEq, and_true] at hcs
    obtain ⟨rfl, rfl, rfl⟩ := hcs
    have key : ∀ i, i < len → ∃ E1 : N, E1.i.size ≤ maxLen ∧ w.cells? base (a.add (i * 2)) 2 = some E1.cells := by
      intro i hi
      have h1 := hel i hi
      rw [hC, List.getElem?_eq_getElem (by omega)] at h1
      cases hc : w.cells? base (a.add (i * 2)) 2 with
      | none => rw [hc] at h1; simp at h1
      | some cs =>
        rw [hc] at h1
        simp only [Option.bind_some] at h1
        obtain ⟨i', n', rfl, q0⟩ := line_cells hs hone hC u0 u1 h1
        exact ⟨⟨i', n'⟩, q0, rfl⟩
    have : ∃ f : Nat → N, ∀ i, i < len → (f i).i.size ≤ maxLen ∧ w.cells? base (a.add (i * 2)) 2 = some (f i).cells := by
      refine ⟨fun i => if hi : i < len then Classical.choose (key i hi) else N.zero, fun i hi => ?_⟩
      simp only [hi, dif_pos]
      exact Classical.choose_spec (key i hi)
    obtain ⟨f, hf⟩ := this
    refine ⟨(List.range len).map f, by simp, by simp; omega, ?_, fun e he => ?_⟩
    · by_cases h0 : len = 0
      · exact .inl (by simpa using h0)
      · obtain ⟨b, off, spot⟩ := a
        have hc0 := cells_at (hf 0 (by omega)).2 0 (by omega)
        have hspot : spot = none := by
          have : w.cell? ⟨b, off, spot⟩ = some (.string (f 0).i) := by simpa [Addr.add, N.cells] using hc0
          exact World.cell?_spot this
        subst hspot
        refine .inr ⟨b, off, rfl, ?_, fun j hj => ?_⟩
        · have : w.cell? ⟨b, off, none⟩ = some (.string (f 0).i) := by simpa [Addr.add, N.cells] using hc0
          exact World.block_lt_of_cell? w _ this
        · have hj : j < len := by simpa using hj
          have e : ((List.range len).map f).getD j N.zero = f j := by simp [List.getD, hj]
          rw [e]
          have g := fun k (hk : k < 2) => cells_at (hf j hj).2 k hk
          have ad : ∀ k, ((⟨b, off, none⟩ : Addr).add (j * 2)).add k = ⟨b, off + j * 2 + k, none⟩ := by
            intro k
            unfold Addr.add
            split <;> split <;> simp_all
          simp only [ad] at g
          exact fun i hi => g i hi
    · simp only [List.mem_map, List.mem_range] at he
      obtain ⟨i, hi, rfl⟩ := he
      exact (hf i hi).1
end
end LinR
end Go.Proofs.YtdgomcpkbahfeaaGreatDoor
namespace Go.Proofs.YtdgomcpkbahfeaaGreatDoor
open Go.RowKit
namespace LinR
open RowG
theorem szL_mem {es : List N} {e : N} (h : e ∈ es) : (e.i.size : Int) ≤ szL es := by
  induction es with
  | nil => cases h
  | cons x es ih =>
    have hn := szL_nn es
    have hx : szL (x :: es) = (x.i.size : Int) + szL es := by simp [szL]
    rcases List.mem_cons.1 h with rfl | h
    · omega
    · have := ih h; omega
theorem sz_small {es : List N} (h : ¬ szR es < 0) : es.length ≤ 1048576 ∧ (∀ e ∈ es, e.i.size ≤ 1048576) ∧ 0 ≤ szR es ∧ szR es ≤ 1048576 := by
  unfold szR at *
  have hn := szL_nn es
  by_cases q : (es.length : Int) + szL es ≤ 1048576
  · rw [if_pos q]
    exact ⟨by omega, fun e he => by have := szL_mem he; omega, by omega, by omega⟩
  · rw [if_neg q] at h
    exact absurd (by omega) h
end LinR
end Go.Proofs.YtdgomcpkbahfeaaGreatDoor
namespace Go.Proofs.YtdgomcpkbahfeaaGreatDoor
open Go.ChangeShapes Go.WideShapes Go.ChangeAt Go.RowKit
set_option linter.unusedVariables false
namespace NetR
open LinR RowG LtR
/-- What is left of lines, none if one runs beyond. -/
def clL (L : List N) : List N := bif ovB L then L.filter nz else []
theorem all_take {L : List N} {k : Nat} (h : k < L.length) : (L.take (k + 1)).all (fun y => nOk y.n) = ((L.take k).all (fun y => nOk y.n) && nOk (L.getD k N.zero).n) := by
  rw [take_more (z := N.zero) L k h, List.all_append]
  simp
set_option maxRecDepth 100000 in
set_option maxHeartbeats 4000000 in
theorem sclean (ao : Option Addr) (cap : Nat) (L : List N) (w : World) (hlen : L.length ≤ 1048575) (hI : Lis ao L w) :
    Calls Tryz.prog 57 #[.slice ao L.length cap] w fun e w' => ∃ v, e = .returned (.tuple #[v, .bool (ovB L)]) ∧ OwnN w' w.heap.size v (clL L) ∧ Below w.heap.size w w' := by
  obtain ⟨i0, hi, hz0, hz1, hz2⟩ := info_parts infoN
  have HI := hid_intro hI
  obtain ⟨len, hl⟩ : ∃ len, len = L.length := ⟨_, rfl⟩
  rw [← hl] at hlen ⊢
  have HL := hid_intro hl
  have HSN := hid_intro (fun n w => snum n w)
  have HE := hid_intro (own_empty w w.heap.size 152 2 (Nat.le_refl _))
  clear hI hl
  go_enter Tryz.func57, Tryz.ntmps57
  go_wp2_with fail
  go_loopw [4, 5] (fun v z wr => ∃ k : Nat, k ≤ len ∧ z = .int .i64 k ∧ Hid (OwnN wr w.heap.size v ((L.take k).filter nz)) ∧ Hid ((L.take k).all (fun y => nOk y.n) = true) ∧ Hid (Below w.heap.size w wr)) (fun v z _ => len - (intOf z).toNat)
  case atStart => exact ⟨0, by omega, rfl, hid_intro ⟨HE.out, fun e => by cases e⟩, hid_intro rfl, hid_intro (al _ _)⟩
  case round =>
    obtain ⟨k, hk, rfl, HO, HA, HB⟩ := hrel
    by_cases hlt : k < len
    · have hlt2 : (k : Int) < (len : Int) := by omega
      have hkl : k < L.length := by have := HL.out; omega
      obtain ⟨b, off, rfl, hbl, c0, c1⟩ := (HI.out.below HB.out).at k hkl
      have HF := hid_intro (filter_more nz L k hkl)
      have HA2 := hid_intro (all_take hkl)
      have HLF : Hid (((L.take k).filter nz).length ≤ 1048575) := hid_intro (by
        have h1 := List.length_filter_le nz (L.take k)
        have h2 := (List.take_sublist k L).length_le
        have := HL.out
        omega)
      have HMEM := hid_intro (getD_mem (z := N.zero) L k hkl)
      obtain ⟨F, hF⟩ : ∃ F, F = (L.take k).filter nz := ⟨_, rfl⟩
      rw [← hF] at HO HF HLF
      clear hF
      generalize L.getD k N.zero = X at *
      obtain ⟨xi, xn⟩ := X
      dsimp only at c0 c1 HA2
      have HC := hid_intro (fun w => snum xn w)
      have HOV : Hid (nOk xn = false → ovB L = false) := hid_intro (fun h => ov_false HMEM.out h)
      generalize nOk xn = r at *
      cases r
      · have HE2 := hid_intro (HOV.out rfl)
        have HBz := hid_intro (HB.out.alloc HB.out.size (.cells #[] 152))
        have HOz := hid_intro (own_empty wr w.heap.size 152 2 HB.out.size)
        have HPz : Hid (∀ W, W.ownsRow w.heap.size 152 2 (.slice (some ⟨wr.heap.size, 0, none⟩) 0 0) 0 [] → OwnN W w.heap.size (.slice (some ⟨wr.heap.size, 0, none⟩) 0 0) (clL L)) := hid_intro (fun W h => by
          unfold clL
          rw [HE2.out, cond_false]
          exact ⟨h, fun e => by cases e⟩)
        go_wp2_with (go_at_call 95; refine (HC.out _).mono ?_; rintro e w2 ⟨rfl, rfl⟩)
        go_ret2
        exact ⟨_, by rw [HE2.out]; rfl, HPz.out _ HOz.out, HBz.out⟩
      · have HA3 : Hid ((L.take (k + 1)).all (fun y => nOk y.n) = true) := hid_intro (by rw [HA2.out, HA.out]; rfl)
        rcases nz_cases xi xn with ⟨q1, q2, q3⟩ | ⟨q1, q2, q3⟩
        · rw [q3, cond_false, List.append_nil] at HF
          go_wp2_with (go_at_call 95; refine (HC.out _).mono ?_; rintro e w2 ⟨rfl, rfl⟩)
          go_roundw
          case rel => exact ⟨k + 1, by omega, by go_num, hid_intro (by rw [HF.out]; exact HO.out), HA3, HB⟩
          case measure => simp [intOf]; omega
        · rw [q3, cond_true] at HF
          go_wp2_with (first | (go_at_call 95; refine (HC.out _).mono ?_; rintro e w2 ⟨rfl, rfl⟩) | (at_builtin; refine wpList_append_own _ rfl _ _ 104 rfl w.heap.size 152 i0 (.agg #[.string ⟨#[]⟩, .int .i64 0]) 2 24 Tryz.underlying104 hi hz0 hz1 hz2 rfl (by decide) _ _ _ rfl (HO.out.1.alloc _) ⟨_, 0, none⟩ 1 1 (N.cells ⟨xi, xn⟩) rfl rfl (two_cells _ _ _ _) (two_one _) ?d3 ?d4 ?d5 ?_))
          case d3 => unfold maxLen; have := HLF.out; omega
          case d4 => have := HLF.out; omega
          case d5 => have h1 := HB.out.size; simp; omega
          intro v' w4 hown hgrow hne
          have HO4 : Hid (OwnN w4 w.heap.size v' (F ++ [(⟨xi, xn⟩ : N)])) := hid_intro (own_nonnil (by rw [cellsAll_app, List.length_append]; exact hown) (by simp))
          have HOB := hid_intro (fun c hc => (HO.out.1.lt c hc).1)
          have HB4 : Hid (Below w.heap.size w w4) := hid_intro ((HB.out.alloc HB.out.size _).grown hgrow (HB.out.alloc HB.out.size _).size (fun c e => HOB.out c e))
          clear hown hgrow hne
          go_wp2_with fail
          go_roundw
          case rel => exact ⟨k + 1, by omega, by go_num, hid_intro (by rw [HF.out]; exact HO4.out), HA3, HB4⟩
          case measure => simp [intOf]; omega
    · have hlt2 : ¬ (k : Int) < (len : Int) := by omega
      obtain rfl : k = len := by omega
      have HT : Hid (L.take k = L) := hid_intro (List.take_of_length_le (by have := HL.out; omega))
      rw [HT.out] at HO HA
      have HE2 : Hid (ovB L = true) := HA
      have HP : Hid (∀ W v, OwnN W w.heap.size v (L.filter nz) → OwnN W w.heap.size v (clL L)) := hid_intro (fun W v h => by unfold clL; rw [HE2.out, cond_true]; exact h)
      go_wp2_with fail
      go_ret2
      exact ⟨_, by rw [HE2.out]; rfl, HP.out _ _ HO.out, HB.out⟩
/-- What right lines are, by hand. -/
theorem right_rise {es : List N} (h : SRight es) : Rise es := by
  unfold Rise
  rw [List.pairwise_iff_getElem]
  have key : ∀ j, j < es.length → ∀ i, i < j → lt (es.getD i N.zero).i (es.getD j N.zero).i = true := by
    intro j
    induction j with
    | zero => intro _ i hi; omega
    | succ j ih =>
      intro hj i hi
      have h1 : lt (es.getD j N.zero).i (es.getD (j + 1) N.zero).i = true := (h.2 (j + 1) hj).1
      by_cases e : i = j
      · subst e; exact h1
      · exact lt_trans (ih (by omega) i (by omega)) h1
  intro i j hi hj hij
  have := key j hj i hij
  simpa [List.getD, hi, hj] using this
theorem right_bd {es : List N} (h : SRight es) : ∀ e ∈ es, -1000000000000000 ≤ e.n ∧ e.n ≤ 1000000000000000 := by
  intro e he
  obtain ⟨i, hi, rfl⟩ := List.getElem_of_mem he
  have h1 := (h.2 i hi).2
  unfold lOk nOk at h1
  simp only [Bool.and_eq_true, decide_eq_true_eq] at h1
  have e2 : es.getD i N.zero = es[i] := by simp [List.getD, hi]
  rw [e2] at h1
  exact h1.2.1
/-- Both answers. -/
def lessL (a b : List N) : List N := clL (all a b (-1))
def lessB (a b : List N) : List N := bif sB a && sB b then lessL a b else []
theorem less_len {a b : List N} : (lessB a b).length ≤ 12 := by
  unfold lessB
  cases ha : sB a
  · simp
  · cases hb : sB b
    · simp
    · have h1 := (sB_iff.1 ha).1
      have h2 := (sB_iff.1 hb).1
      have h3 := all_len a b (-1)
      simp only [Bool.and_self, cond_true, lessL, clL]
      cases ovB (all a b (-1))
      · simp
      · have h4 := List.length_filter_le nz (all a b (-1))
        simp only [cond_true]
        omega
theorem res_ownN {w w' : World} {l : List N} {v : Value} (h : OwnN w' w.heap.size v l) (hb : Below w.heap.size w w') : ∃ ao cap, v = .slice ao l.length cap ∧ MadeG 2 N.cells N.zero w.heap.size ao l w' ∧ Below w.heap.size w w' := by
  obtain ⟨ao, cap, e, hm⟩ := own_made (z := N.zero) N.len h.1
  exact ⟨ao, cap, e, hm, hb⟩
/-- What is handed back. -/
def ResL (w : World) (l : List N) (e : Ending) (w' : World) : Prop := ∃ ao cap, e = .returned (.slice ao l.length cap) ∧ MadeG 2 N.cells N.zero w.heap.size ao l w' ∧ Below w.heap.size w w'
theorem resL_own {w w' : World} {l : List N} {v : Value} (h : w'.ownsRow w.heap.size 152 2 v l.length (cellsAll N.cells l)) (hb : Below w.heap.size w w') : ResL w l (.returned v) w' := by
  obtain ⟨ao, cap, rfl, hm⟩ := own_made (z := N.zero) N.len h
  exact ⟨ao, cap, rfl, hm, hb⟩
theorem resL_nil {w w' : World} (hb : Below w.heap.size w w') (ao : Option Addr) (cap : Nat) : ResL w [] (.returned (.slice ao 0 cap)) w' := ⟨ao, cap, rfl, made_nil _ _ _, hb⟩
end NetR
end Go.Proofs.YtdgomcpkbahfeaaGreatDoor
namespace Go.Proofs.YtdgomcpkbahfeaaGreatDoor
open Go.ChangeShapes Go.WideShapes Go.ChangeAt Go.RowKit
set_option linter.unusedVariables false
namespace LinR
open RowG
/-- What is left of a size. -/
def szF (L0 : Int) (es : List N) : Int := if (es.length : Int) + szL es ≤ L0 then L0 - (es.length : Int) - szL es else -1
set_option maxHeartbeats 4000000 in
theorem szs_from (L0 : Int) (h0 : 0 ≤ L0) (h1 : L0 ≤ 1048576) (ao : Option Addr) (cap : Nat) (es : List N) (w : World) (hm : es.length ≤ maxLen) (hI : Lis ao es w) (hw : ∀ e ∈ es, e.i.size ≤ maxLen) :
    Calls Tryz.prog 92 #[.slice ao es.length cap, .int .i64 L0] w fun e w' => e = .returned (.int .i64 (szF L0 es)) ∧ Below w.heap.size w w' := by
  obtain ⟨len, hlen⟩ : ∃ len, len = es.length := ⟨_, rfl⟩
  rw [← hlen] at hm ⊢
  have HZ := hid_intro hlen
  have HI := hid_intro hI
  have HW := hid_intro hw
  have HR : Hid (szF L0 es = if (es.length : Int) + szL es ≤ L0 then L0 - (es.length : Int) - szL es else -1) := rfl
  generalize szF L0 es = R at *
  unfold maxLen at hm
  clear hI hw hlen
  by_cases hbig : L0 < len
  · have hl2 : (L0 : Int) - (len : Int) < 0 := by omega
    have HN : Hid (R = -1) := hid_intro (by rw [HR.out, if_neg]; have := szL_nn es; have := HZ.out; omega)
    go_enter Tryz.func92, Tryz.ntmps92
    go_wp2_with fail
    go_ret
    exact ⟨ret_int HN.out.symm, Below.refl _ _⟩
  have hl : (len : Int) ≤ L0 := by omega
  have hl2 : ¬ (L0 : Int) - (len : Int) < 0 := by omega
  go_enter Tryz.func92, Tryz.ntmps92
  go_wp2_with fail
  go_loopw [5, 1] (fun x y w' => ∃ (j : Nat) (L : Int), j ≤ len ∧ x = .int .i64 j ∧ y = .int .i64 L ∧ 0 ≤ L ∧ L ≤ 1048576 ∧ Hid (L = L0 - (len : Int) - szL (es.take j)) ∧ Hid (Below w.heap.size w w')) (fun x y w' => len - (intOf x).toNat)
  case atStart => exact ⟨0, L0 - (len : Int), Nat.zero_le _, rfl, rfl, by omega, by omega, hid_intro (by simp [szL]), hid_intro (Below.refl _ _)⟩
  case round =>
    obtain ⟨j, L, hj, rfl, rfl, l0, l1, HL, HB⟩ := hrel
    by_cases hlt : j < len
    · obtain ⟨b, off, rfl, hbl, c0, c1⟩ := (HI.out.below HB.out).at j (by have := HZ.out; omega)
      have HS := hid_intro (szL_take es j (by have := HZ.out; omega))
      have q1 := HW.out _ (getD_mem (z := N.zero) es j (by have := HZ.out; omega))
      generalize es.getD j N.zero = E1 at *
      obtain ⟨i, n⟩ := E1
      have HS : Hid (szL (es.take (j + 1)) = szL (es.take j) + (i.size : Int)) := HS
      have HC := hid_intro (fun w => sz_any i n L q1 l0 l1 w)
      have hlt2 : (j : Int) < (len : Int) := by omega
      clear q1
      by_cases hs : (i.size : Int) ≤ L
      · rw [if_pos hs] at HC
        have HN : Hid (L - (i.size : Int) = L0 - (len : Int) - szL (es.take (j + 1))) := hid_intro (by rw [HS.out, HL.out]; omega)
        have r0 : 0 ≤ L - (i.size : Int) := by omega
        have r1 : L - (i.size : Int) ≤ 1048576 := by omega
        generalize L - (i.size : Int) = L2 at *
        clear hs
        go_wp2_with fail
        refine (HC.out _).mono ?_
        rintro e w1 ⟨rfl, hb⟩
        have HB1 := hid_intro (HB.out.trans (hb.mono HB.out.size))
        clear hb HB c0 c1
        have r2 : ¬ L2 < 0 := by omega
        go_wp2_with fail
        go_roundw
        case rel => exact ⟨j + 1, L2, by omega, by go_num, rfl, r0, r1, HN, HB1⟩
        case measure => simp [intOf]; omega
      · rw [if_neg hs] at HC
        have HN : Hid (R = -1) := hid_intro (by rw [HR.out, if_neg]; have := szL_le es (j + 1); have := HS.out; have := HL.out; have := HZ.out; omega)
        go_wp2_with fail
        refine (HC.out _).mono ?_
        rintro e w1 ⟨rfl, hb⟩
        have HB1 := hid_intro (HB.out.trans (hb.mono HB.out.size))
        clear hb HB c0 c1
        go_wp2_with fail
        go_ret
        exact ⟨ret_int HN.out.symm, HB1.out⟩
    · obtain rfl : j = len := by omega
      have HN : Hid (R = L) := hid_intro (by
        have e := HL.out
        rw [List.take_of_length_le (by have := HZ.out; omega)] at e
        rw [HR.out, if_pos (by have := HZ.out; omega)]; have := HZ.out; omega)
      go_wp2_with fail
      go_ret
      exact ⟨ret_int HN.out.symm, HB.out⟩
theorem szL_memF {es : List N} {e : N} (h : e ∈ es) : (e.i.size : Int) ≤ szL es := by
  induction es with
  | nil => cases h
  | cons x es ih =>
    have hn := szL_nn es
    have hx : szL (x :: es) = (x.i.size : Int) + szL es := by simp [szL]
    rcases List.mem_cons.1 h with rfl | h
    · omega
    · have := ih h; omega
end LinR
namespace DocR
open LinR RowG
open CatR (Blk Blk.new)
open EvtR (Pt)
/-- A document. -/
structure D where
  a : ByteArray
  mo : Int
  sq : Int
  ls : List N
def dcells (x : D) (la : Option Addr) (lc : Nat) : Array Value := #[.string x.a, .int .i64 x.mo, .int .i64 x.sq, .slice la x.ls.length lc]
/-- The value is this document. -/
def IsD (v : Value) (x : D) (W : World) : Prop := ∃ la lc, v = .agg (dcells x la lc) ∧ Lis la x.ls W
theorem IsD.below {v : Value} {x : D} {w w' : World} (h : IsD v x w) (hb : Below w.heap.size w w') : IsD v x w' := by
  obtain ⟨la, lc, e, hL⟩ := h
  exact ⟨la, lc, e, hL.below hb⟩
/-- A document that came in. -/
def D.In (x : D) : Prop := x.a.size ≤ maxLen ∧ x.ls.length ≤ maxLen ∧ ∀ e ∈ x.ls, e.i.size ≤ maxLen
def dszR (L0 : Int) (x : D) : Int := if (x.a.size : Int) ≤ L0 then szF (L0 - (x.a.size : Int)) x.ls else -1
/-- Its texts and its list are short. -/
def D.Sm (x : D) : Prop := x.a.size ≤ 1048576 ∧ x.ls.length ≤ 1048576 ∧ ∀ e ∈ x.ls, e.i.size ≤ 1048576
theorem dsz_small {L0 : Int} {x : D} (hL : L0 ≤ 1048576) (h : ¬ dszR L0 x < 0) : x.Sm ∧ dszR L0 x ≤ L0 := by
  unfold dszR szF at *
  have hn := szL_nn x.ls
  by_cases q : (x.a.size : Int) ≤ L0
  · rw [if_pos q] at h ⊢
    by_cases q2 : (x.ls.length : Int) + szL x.ls ≤ L0 - (x.a.size : Int)
    · rw [if_pos q2]
      exact ⟨⟨by omega, by omega, fun e he => by have := szL_memF he; omega⟩, by omega⟩
    · rw [if_neg q2] at h; exact absurd (by omega) h
  · rw [if_neg q] at h; exact absurd (by omega) h
set_option maxHeartbeats 4000000 in
theorem szD_in (a : ByteArray) (mo sq : Int) (la : Option Addr) (ll lc : Nat) (L0 R : Int) (w : World) (h0 : 0 ≤ L0) (h1 : L0 ≤ 1048576) (ha : a.size ≤ maxLen)
    (hs : (a.size : Int) ≤ L0 → ∀ W, Below w.heap.size w W → Calls Tryz.prog 92 #[.slice la ll lc, .int .i64 (L0 - (a.size : Int))] W fun e w' => e = .returned (.int .i64 R) ∧ Below W.heap.size W w') :
    Calls Tryz.prog 49 #[.agg #[.string a, .int .i64 mo, .int .i64 sq, .slice la ll lc], .int .i64 L0] w fun e w' => e = .returned (.int .i64 (if (a.size : Int) ≤ L0 then (if R < 0 then -1 else R) else -1)) ∧ Below w.heap.size w w' := by
  unfold maxLen at ha
  have HB0 : Hid (Below w.heap.size w (w.alloc (.cells #[.string a, .int .i64 mo, .int .i64 sq, .slice la ll lc] 93))) := hid_intro ((Below.refl _ _).alloc (Nat.le_refl _) _)
  by_cases q : (a.size : Int) ≤ L0
  · rw [if_pos q]
    have q2 : ¬ L0 - (a.size : Int) < 0 := by omega
    have HS := hid_intro (hs q)
    have b1 : 0 ≤ L0 - (a.size : Int) := by omega
    have b2 : L0 - (a.size : Int) ≤ 1048576 := by omega
    clear hs q
    by_cases hr : R < 0
    all_goals
      first | rw [if_pos hr] | rw [if_neg hr]
      go_enter Tryz.func49, Tryz.ntmps49
      go_wp2_with fail
      refine (HS.out _ HB0.out).mono ?_
      rintro e w1 ⟨rfl, hb1⟩
      have HB1 := hid_intro (HB0.out.trans (hb1.mono HB0.out.size))
      clear hb1
      go_wp2_with fail
      go_ret
      exact ⟨rfl, HB1.out⟩
  · rw [if_neg q]
    have q2 : L0 - (a.size : Int) < 0 := by omega
    clear hs q
    go_enter Tryz.func49, Tryz.ntmps49
    go_wp2_with fail
    go_ret
    exact ⟨rfl, HB0.out⟩
theorem szD_any (x : D) (la : Option Addr) (lc : Nat) (L0 : Int) (w : World) (h0 : 0 ≤ L0) (h1 : L0 ≤ 1048576) (hin : x.In) (hL : Lis la x.ls w) :
    Calls Tryz.prog 49 #[.agg (dcells x la lc), .int .i64 L0] w fun e w' => e = .returned (.int .i64 (dszR L0 x)) ∧ Below w.heap.size w w' := by
  have h := szD_in x.a x.mo x.sq la x.ls.length lc L0 (szF (L0 - (x.a.size : Int)) x.ls) w h0 h1 hin.1 (fun q W hW => szs_from _ (by omega) (by omega) la lc x.ls W hin.2.1 (hL.below hW) hin.2.2)
  have e : (if szF (L0 - (x.a.size : Int)) x.ls < 0 then -1 else szF (L0 - (x.a.size : Int)) x.ls) = szF (L0 - (x.a.size : Int)) x.ls := by
    unfold szF
    have := szL_nn x.ls
    split
    · rw [if_neg (by omega)]
    · rw [if_pos (by omega)]
  rw [e] at h
  exact h
/-- A document that a call has made. -/
def MadeD (base : Nat) (x : D) (v : Value) (w : World) : Prop := ∃ la lc, v = .agg (dcells x la lc) ∧ MadeG 2 N.cells N.zero base la x.ls w
theorem MadeD.below {base : Nat} {x : D} {v : Value} {w w' : World} (h : MadeD base x v w) (hb : Below w.heap.size w w') : MadeD base x v w' := by
  obtain ⟨la, lc, hv, h1⟩ := h
  exact ⟨la, lc, hv, h1.below hb⟩
theorem MadeD.low {base base' : Nat} {x : D} {v : Value} {w : World} (h : MadeD base x v w) (hb : base' ≤ base) : MadeD base' x v w := by
  obtain ⟨la, lc, hv, h1⟩ := h
  exact ⟨la, lc, hv, h1.low hb⟩
theorem MadeD.is {base : Nat} {x : D} {v : Value} {w : World} (h : MadeD base x v w) : IsD v x w := by
  obtain ⟨la, lc, hv, h1⟩ := h
  exact ⟨la, lc, hv, h1.rws⟩
set_option maxRecDepth 100000 in
set_option maxHeartbeats 8000000 in
theorem toD_in (a : ByteArray) (mo sq : Int) (la : Option Addr) (lc : Nat) (ls : List N) (w : World) (hl : ls.length ≤ 1048576) (hL : Lis la ls w) :
    Calls Tryz.prog 67 #[.agg #[.string a, .int .i64 mo, .int .i64 sq, .slice la ls.length lc]] w fun e w' => ∃ v, e = .returned v ∧ MadeD w.heap.size ⟨a, mo, sq, ls⟩ v w' ∧ Below w.heap.size w w' := by
  have H1 := hid_intro (fun W (hW : Below w.heap.size w W) => toLis_any la lc ls W hl (hL.below hW))
  have HF : Hid (∀ W g1, w.heap.size ≤ g1 → MadeG 2 N.cells N.zero g1 (some ⟨g1, 0, none⟩) ls W → MadeD w.heap.size ⟨a, mo, sq, ls⟩ (.agg #[.string a, .int .i64 mo, .int .i64 sq, .slice (some ⟨g1, 0, none⟩) ls.length ls.length]) W) := hid_intro (fun W g1 l1 m1 => ⟨_, _, rfl, m1.low l1⟩)
  generalize MadeD w.heap.size ⟨a, mo, sq, ls⟩ = M at *
  obtain ⟨ll, hll⟩ : ∃ ll, ll = ls.length := ⟨_, rfl⟩
  have HLL := hid_intro hll
  rw [← hll] at hl H1 HF ⊢
  clear hL hll
  have HB0 : Hid (Below w.heap.size w (((w.alloc (.cells #[.string a, .int .i64 mo, .int .i64 sq, .slice la ll lc] 93)).alloc (.cells #[.string ⟨#[]⟩, .int .i64 0, .int .i64 0, .slice none 0 0] 106)).alloc (.cells #[.string a, .int .i64 mo, .int .i64 sq, .slice none 0 0] 106))) := hid_intro ((((Below.refl _ _).alloc (Nat.le_refl _) _).alloc (by simp) _).alloc (by simp; omega) _)
  have HX0 := hid_intro (((BlkW.new w [.string a, .int .i64 mo, .int .i64 sq, .slice la ll lc] 93).below ((Below.refl _ _).alloc (Nat.le_refl _) (Obj.cells #[.string ⟨#[]⟩, .int .i64 0, .int .i64 0, .slice none 0 0] 106))).below ((Below.refl _ _).alloc (Nat.le_refl _) (Obj.cells #[.string a, .int .i64 mo, .int .i64 sq, .slice none 0 0] 106)))
  have HY0 := hid_intro ((BlkW.new (w.alloc (.cells #[.string a, .int .i64 mo, .int .i64 sq, .slice la ll lc] 93)) [.string ⟨#[]⟩, .int .i64 0, .int .i64 0, .slice none 0 0] 106).below ((Below.refl _ _).alloc (Nat.le_refl _) (Obj.cells #[.string a, .int .i64 mo, .int .i64 sq, .slice none 0 0] 106)))
  have HZ0 := hid_intro (BlkW.new ((w.alloc (.cells #[.string a, .int .i64 mo, .int .i64 sq, .slice la ll lc] 93)).alloc (.cells #[.string ⟨#[]⟩, .int .i64 0, .int .i64 0, .slice none 0 0] 106)) [.string a, .int .i64 mo, .int .i64 sq, .slice none 0 0] 106)
  have e1 : (w.alloc (.cells #[.string a, .int .i64 mo, .int .i64 sq, .slice la ll lc] 93)).heap.size = w.heap.size + 1 := by simp
  have e2 : ((w.alloc (.cells #[.string a, .int .i64 mo, .int .i64 sq, .slice la ll lc] 93)).alloc (.cells #[.string ⟨#[]⟩, .int .i64 0, .int .i64 0, .slice none 0 0] 106)).heap.size = w.heap.size + 1 + 1 := by simp
  rw [e1] at HY0
  rw [e2] at HZ0
  clear e1 e2
  go_enter Tryz.func67, Tryz.ntmps67
  go_wp2_with fail
  refine (H1.out _ HB0.out).mono ?_
  rintro e w1 ⟨rfl, hT1, hP1, hb1⟩
  have HM1 := hid_intro (show MadeG 2 N.cells N.zero _ _ ls w1 from ⟨hT1, .inr ⟨_, rfl, Nat.le_refl _, HLL.out ▸ hP1⟩⟩)
  obtain ⟨g1, hg1⟩ : ∃ g1, g1 = (((w.alloc (.cells #[.string a, .int .i64 mo, .int .i64 sq, .slice la ll lc] 93)).alloc (.cells #[.string ⟨#[]⟩, .int .i64 0, .int .i64 0, .slice none 0 0] 106)).alloc (.cells #[.string a, .int .i64 mo, .int .i64 sq, .slice none 0 0] 106)).heap.size := ⟨_, rfl⟩
  have HG1 : Hid (w.heap.size + 3 = g1) := hid_intro (by rw [hg1]; simp)
  rw [← hg1] at HM1 ⊢
  clear hg1
  have HY1 := hid_intro (HY0.out.below hb1)
  have HZ1 := hid_intro (HZ0.out.below hb1)
  have HB1 := hid_intro (HB0.out.trans (hb1.mono HB0.out.size))
  clear hT1 hP1 hb1 HX0 HY0 HZ0 HB0
  obtain ⟨⟨zl, zk⟩, zf⟩ := HZ1.out
  have z0 : w1.cell? ⟨w.heap.size + 1 + 1, 0, none⟩ = some (.string a) := zk 0 (by simp)
  have f0 : w1.frozen? ⟨w.heap.size + 1 + 1, 0, none⟩ = false := zf 0 (by simp)
  have z1 : w1.cell? ⟨w.heap.size + 1 + 1, 1, none⟩ = some (.int .i64 mo) := zk 1 (by simp)
  have f1 : w1.frozen? ⟨w.heap.size + 1 + 1, 1, none⟩ = false := zf 1 (by simp)
  have z2 : w1.cell? ⟨w.heap.size + 1 + 1, 2, none⟩ = some (.int .i64 sq) := zk 2 (by simp)
  have f2 : w1.frozen? ⟨w.heap.size + 1 + 1, 2, none⟩ = false := zf 2 (by simp)
  have z3 : w1.cell? ⟨w.heap.size + 1 + 1, 3, none⟩ = some (.slice none 0 0) := zk 3 (by simp)
  have f3 : w1.frozen? ⟨w.heap.size + 1 + 1, 3, none⟩ = false := zf 3 (by simp)
  obtain ⟨⟨yl, yk⟩, yf⟩ := HY1.out
  have y0 : w1.cell? ⟨w.heap.size + 1, 0, none⟩ = some (.string ⟨#[]⟩) := yk 0 (by simp)
  have q0 : w1.frozen? ⟨w.heap.size + 1, 0, none⟩ = false := yf 0 (by simp)
  have y1 : w1.cell? ⟨w.heap.size + 1, 1, none⟩ = some (.int .i64 0) := yk 1 (by simp)
  have q1 : w1.frozen? ⟨w.heap.size + 1, 1, none⟩ = false := yf 1 (by simp)
  have y2 : w1.cell? ⟨w.heap.size + 1, 2, none⟩ = some (.int .i64 0) := yk 2 (by simp)
  have q2 : w1.frozen? ⟨w.heap.size + 1, 2, none⟩ = false := yf 2 (by simp)
  have y3 : w1.cell? ⟨w.heap.size + 1, 3, none⟩ = some (.slice none 0 0) := yk 3 (by simp)
  have q3 : w1.frozen? ⟨w.heap.size + 1, 3, none⟩ = false := yf 3 (by simp)
  clear zk zf yk yf HY1 HZ1
  have HN1 : Hid (∀ b off, (some ⟨g1, 0, none⟩ : Option Addr) = some ⟨b, off, none⟩ → ∀ g, g ≤ w.heap.size + 1 + 1 → b ≠ g) := hid_intro (fun b off e g hg => by simp at e; have := HG1.out; omega)
  go_wp2_with fail
  refine bodyPost_ret (v := .agg #[.string a, .int .i64 mo, .int .i64 sq, .slice (some ⟨g1, 0, none⟩) ll ll]) (by simp [results, Tryz.results67, go_sem, y0, y1, y2, y3]) rfl ⟨_, rfl, HF.out _ g1 (by have := HG1.out; omega) ?_, ?_⟩
  · exact (MadeG.put (MadeG.put (MadeG.put (MadeG.put (MadeG.put HM1.out _ _ _ (.inr (fun b off e => HN1.out b off e _ (by omega)))) _ _ _ (.inr (fun b off e => HN1.out b off e _ (by omega)))) _ _ _ (.inr (fun b off e => HN1.out b off e _ (by omega)))) _ _ _ (.inr (fun b off e => HN1.out b off e _ (by omega)))) _ _ _ (.inr (fun b off e => HN1.out b off e _ (by omega))))
  · exact (((((HB1.out.setCell (by simp; omega) _).setCell (by simp) _).setCell (by simp) _).setCell (by simp) _).setCell (by simp) _)
theorem toD_any (v : Value) (x : D) (w : World) (hl : x.ls.length ≤ 1048576) (h : IsD v x w) :
    Calls Tryz.prog 67 #[v] w fun e w' => ∃ v', e = .returned v' ∧ MadeD w.heap.size x v' w' ∧ Below w.heap.size w w' := by
  obtain ⟨la, lc, rfl, hL⟩ := h
  exact toD_in x.a x.mo x.sq la lc x.ls w hl hL
set_option maxRecDepth 100000 in
set_option maxHeartbeats 8000000 in
theorem eqD_in (a : ByteArray) (mo sq : Int) (la : Option Addr) (ll lc : Nat) (la' : Option Addr) (lc' : Nat) (w : World)
    (h1 : ∀ W, Below w.heap.size w W → Calls Tryz.prog 130 #[.slice la ll lc, .slice la' ll lc'] W fun e w' => e = .returned (.bool true) ∧ Below W.heap.size W w') :
    Calls Tryz.prog 86 #[.agg #[.string a, .int .i64 mo, .int .i64 sq, .slice la ll lc], .agg #[.string a, .int .i64 mo, .int .i64 sq, .slice la' ll lc']] w fun e w' => e = .returned (.bool true) ∧ Below w.heap.size w w' := by
  have H1 := hid_intro h1
  have HB0 : Hid (Below w.heap.size w ((w.alloc (.cells #[.string a, .int .i64 mo, .int .i64 sq, .slice la ll lc] 106)).alloc (.cells #[.string a, .int .i64 mo, .int .i64 sq, .slice la' ll lc'] 106))) := hid_intro (((Below.refl _ _).alloc (Nat.le_refl _) _).alloc (by simp) _)
  clear h1
  go_enter Tryz.func86, Tryz.ntmps86
  go_wp2_with fail
  refine (H1.out _ HB0.out).mono ?_
  rintro e w1 ⟨rfl, hb1⟩
  have HB1 := hid_intro (HB0.out.trans (hb1.mono HB0.out.size))
  clear hb1
  go_wp2_with fail
  go_ret
  exact ⟨rfl, HB1.out⟩
theorem eqD_any (v v' : Value) (x : D) (w : World) (hl : x.ls.length ≤ 1048576) (h : IsD v x w) (h' : IsD v' x w) :
    Calls Tryz.prog 86 #[v, v'] w fun e w' => e = .returned (.bool true) ∧ Below w.heap.size w w' := by
  obtain ⟨la, lc, rfl, hL⟩ := h
  obtain ⟨la', lc', rfl, hL'⟩ := h'
  exact eqD_in x.a x.mo x.sq la x.ls.length lc la' lc' w (fun W hW => eqLis_any la la' lc lc' x.ls W hl (hL.below hW) (hL'.below hW))
end DocR
end Go.Proofs.YtdgomcpkbahfeaaGreatDoor
