/-
  The draws' source, further: texts, edges, and the source itself out of bytes: what is drawn lies within its bounds; drawing writes the source's own block alone. The condition: the bytes are at most 1048576.
-/
import Derived.Test.YthfcdfeomekkeaaDoorDraw
namespace Go.Proofs.YthfcdfeomekkeaaDoor
open Go.ChangeShapes Go.WideShapes Go.ChangeAt Go.RowKit
set_option linter.unusedVariables false
namespace DrawR
theorem Src.kept {ao : Option Addr} {len cap g : Nat} {w w' : World} {row : Option Nat} (h : Src ao len cap g w) (hg : w.grownBy w' row) (hr : ∀ k, row = some k → g < k) : Src ao len cap g w' := by
  obtain ⟨h1, ⟨k, mix, size, a, b, c, d, e, f⟩, h3⟩ := h
  have hlt : g < w.heap.size := (Array.getElem?_eq_some_iff.1 f).1
  refine ⟨h1, ⟨k, mix, size, a, b, c, d, e, ?_⟩, ?_⟩
  · rw [hg.block g hlt (fun e => by have := hr g e.symm; omega)]; exact f
  · rcases h3 with h0 | ⟨ab, aoff, e1, e2, e3⟩
    · exact .inl h0
    · refine .inr ⟨ab, aoff, e1, e2, fun i hi => ?_⟩
      obtain ⟨z, a, b, c⟩ := e3 i hi
      exact ⟨z, hg.cell a (fun e => by have := hr ab e.symm; omega), b, c⟩
theorem Src.lt {ao : Option Addr} {len cap g : Nat} {w : World} (h : Src ao len cap g w) : g < w.heap.size := by
  obtain ⟨h1, ⟨k, mix, size, a, b, c, d, e, f⟩, h3⟩ := h
  exact (Array.getElem?_eq_some_iff.1 f).1
theorem Src.alloc {ao : Option Addr} {len cap g : Nat} {w : World} (h : Src ao len cap g w) (o : Obj) : Src ao len cap g (w.alloc o) :=
  h.kept (World.grownBy_alloc w o none) (fun k e => by cases e)
theorem own_string {w : World} {base n : Nat} {v : Value} {xs : List Int} (h : w.ownsRow base 5 1 v n (xs.map (Value.int .u8))) (hne : v ≠ .slice none 0 0) :
    ∃ g cap, v = .slice (some ⟨g, 0, none⟩) n cap ∧ (convert 22 9 (.slice (some ⟨g, 0, none⟩) n cap)).run Tryd.prog w = .ok (.string (strOfNums xs)) w := by
  have hl := h.1
  rcases h.2 with ⟨h0, _⟩ | ⟨g, cap, cur, hv, _⟩
  · exact absurd h0 hne
  · refine ⟨g, cap, hv, ?_⟩
    have hlen : xs.length = n := by simpa using hl
    refine run_convert_bytes_arg w 22 5 Tryd.underlying22 Tryd.underlying5 g 0 n cap xs hlen ?_ 9 Tryd.underlying9
    intro i hi
    have := h.cells (g := g) (by rw [hv]; rfl) i (.int .u8 (xs.getD i 0)) (by simp [List.getElem?_map, List.getD, List.getElem?_eq_getElem (show i < xs.length by omega)])
    rw [← this]
    congr 1
    unfold Addr.add; split <;> simp_all
theorem Trydinfo5 : (Tryd.prog.info? 5).map (fun i => (i.zero, i.size, i.bytes)) = some (some (.int .u8 0), 1, 1) := by kernel_rfl
theorem hid_intro {p : Prop} (h : p) : Hid p := h
set_option maxRecDepth 100000 in
set_option maxHeartbeats 4000000 in
theorem bytes_any (ao : Option Addr) (len cap g : Nat) (n : Nat) (w : World) (hn : n ≤ 100000) (hS : Src ao len cap g w) :
    Calls Tryd.prog 20 #[.pointer (some ⟨g, 0, none⟩), .int .i64 n] w fun e w' => (∃ t : ByteArray, e = .returned (.string t) ∧ t.size = n) ∧ Src ao len cap g w' ∧ w.grownBy w' (some g) := by
  obtain ⟨i0, hi, hz0, hz1, hz2⟩ := info_parts Trydinfo5
  have hgl := hS.lt
  have hown0 := World.ownsRow_made (base := w.heap.size) (e := 5) (size := 1) w #[] 0 (Nat.le_refl _) (by unfold maxLen; omega) rfl
  have HS0 : Hid (Src ao len cap g (w.alloc (Obj.cells #[] 5))) := hS.alloc _
  have HG0 : Hid (w.grownBy (w.alloc (Obj.cells #[] 5)) (some g)) := World.grownBy_alloc w _ _
  clear hS
  go_enter Tryd.func20, Tryd.ntmps20
  go_wp2
  go_loopw [5, 6] (fun v i wr => ∃ (k : Nat) (acc : List Int), k ≤ n ∧ i = .int .i64 k ∧ acc.length = k ∧ wr.ownsRow w.heap.size 5 1 v k (acc.map (Value.int .u8)) ∧ Hid (v ≠ .slice none 0 0) ∧ Hid (Src ao len cap g wr) ∧ Hid (w.grownBy wr (some g))) (fun _ i _ => n - (intOf i).toNat)
  case atStart => exact ⟨0, [], by omega, rfl, rfl, hown0, hid_intro (by simp), HS0, HG0⟩
  case round =>
    obtain ⟨k, acc, hk, rfl, hacc, hown, HV, HS, HG⟩ := hrel
    clear hown0 HS0 HG0
    have hown' : Hid (wr.ownsRow w.heap.size 5 1 u5 k (acc.map (Value.int .u8))) := hown
    clear hown
    have HA : Hid (acc.length = k) := hacc
    clear hacc
    by_cases hlt : k < n
    · have hlt2 : (k : Int) < n := by omega
      go_wp2_with (first | (go_at_call 19; refine (n_any ao len cap g 256 _ (by omega) HS.out).mono ?_; rintro e w1 ⟨v, rfl, hv0, hv1, hv2, hS1, hg1⟩; have hv3 : v < 256 := hv2 (by omega); clear hv1 hv2; have HS1 := hid_intro hS1; have HG1 := hid_intro hg1; clear hS1 hg1) | (at_builtin; refine wpList_append_own _ rfl _ _ 22 rfl w.heap.size 5 i0 (.int .u8 0) 1 1 Tryd.underlying22 hi hz0 hz1 hz2 rfl (by decide) _ _ _ rfl (((hown'.out).kept HG1.out ?h0).alloc _) ⟨w1.heap.size, 0, none⟩ 1 1 [.int .u8 v] rfl rfl ?c1 ?c2 ?c3 ?c4 ?c5 ?_))
      case h0 =>
        rcases hob : u5.ownBlock with _ | b
        · exact .inl rfl
        · refine .inr (fun e => ?_)
          have := (hown'.out.lt b hob).1
          simp only [Option.some.injEq] at e
          omega
      case c1 =>
        intro j u hj
        match j, hj with
        | 0, hj => simp at hj; subst hj; simp [Addr.add]
      case c2 => intro u hu; simp at hu; subst hu; rfl
      case c3 => unfold maxLen; omega
      case c4 => omega
      case c5 => have h1 := HG.out.size; have h2 := HG1.out.size; simp; omega
      intro v' w2 hown2 hgrow hne
      have hown3 : w2.ownsRow w.heap.size 5 1 v' (k + 1) ((acc ++ [v]).map (Value.int .u8)) := by simpa using hown2
      have hlt5 : ∀ j, u5.ownBlock = some j → w.heap.size ≤ j := fun j hj => (hown'.out.lt j hj).1
      have HS2 : Hid (Src ao len cap g w2) := (HS1.out.alloc _).kept hgrow (fun j hj => by have := hlt5 j hj; omega)
      have HG2 : Hid (w.grownBy w2 (some g)) := (Lib.grownBy_allocR (Lib.grownBy_trans HG.out HG1.out) _).andThen hgrow (fun j hj => .inl (hlt5 j hj))
      have HN := hid_intro hne
      clear hown2 hgrow hne hlt5
      go_wp2
      go_roundw
      case rel => exact ⟨k + 1, acc ++ [v], by omega, by go_num, by simp [HA.out], hown3, HN, HS2, HG2⟩
      case measure => simp [intOf]; omega
    · have hk2 : ¬ (k : Int) < n := by omega
      obtain ⟨g2, cap2, hv, hconv⟩ := own_string hown'.out HV.out
      have HK : Hid (k = n) := hid_intro (by omega)
      clear hown' HV
      rw [hv]
      clear hv
      go_wp2
      go_ret
      exact ⟨⟨_, rfl, by rw [strOfNums_size, HA.out, HK.out]⟩, HS.out, HG.out⟩
theorem Trydinfo2 : (Tryd.prog.info? 2).map (fun i => (i.zero, i.size, i.bytes)) = some (some (.int .i64 0), 1, 8) := by kernel_rfl
/-- The fourteen edges. -/
def edges : List Int := [0, 1, -1, 2, 1000, 1001, 2147483648, 2147483647, -2147483648, 4611686018427387904, 9223372036854775807, -9223372036854775808, 1000000, 1000001]
theorem edges_bd (j : Nat) (h : j < 14) : ∃ x : Int, (edges.map (Value.int .i64))[j]? = some (.int .i64 x) ∧ -9223372036854775808 ≤ x ∧ x ≤ 9223372036854775807 := by
  match j, h with
  | 0, _ => exact ⟨_, rfl, by decide, by decide⟩
  | 1, _ => exact ⟨_, rfl, by decide, by decide⟩
  | 2, _ => exact ⟨_, rfl, by decide, by decide⟩
  | 3, _ => exact ⟨_, rfl, by decide, by decide⟩
  | 4, _ => exact ⟨_, rfl, by decide, by decide⟩
  | 5, _ => exact ⟨_, rfl, by decide, by decide⟩
  | 6, _ => exact ⟨_, rfl, by decide, by decide⟩
  | 7, _ => exact ⟨_, rfl, by decide, by decide⟩
  | 8, _ => exact ⟨_, rfl, by decide, by decide⟩
  | 9, _ => exact ⟨_, rfl, by decide, by decide⟩
  | 10, _ => exact ⟨_, rfl, by decide, by decide⟩
  | 11, _ => exact ⟨_, rfl, by decide, by decide⟩
  | 12, _ => exact ⟨_, rfl, by decide, by decide⟩
  | 13, _ => exact ⟨_, rfl, by decide, by decide⟩
theorem edge_cell (w : World) (T : TypeId) (j : Nat) (x : Int) (hx : (edges.map (Value.int .i64))[j]? = some (.int .i64 x)) : (w.alloc (.cells (edges.map (Value.int .i64)).toArray T)).cell? ⟨w.heap.size, j, none⟩ = some (.int .i64 x) := by
  rw [World.cell?_alloc_mark, List.getElem?_toArray]; exact hx
set_option maxRecDepth 100000 in
set_option maxHeartbeats 4000000 in
theorem edge_any (ao : Option Addr) (len cap g : Nat) (w : World) (hS : Src ao len cap g w) :
    Calls Tryd.prog 23 #[.pointer (some ⟨g, 0, none⟩)] w fun e w' => (∃ v : Int, e = .returned (.int .i64 v) ∧ -9223372036854775808 ≤ v ∧ v ≤ 9223372036854775807) ∧ Src ao len cap g w' ∧ w.grownBy w' (some g) := by
  have HS := hid_intro hS
  have hgl := hS.lt
  clear hS
  go_enter Tryd.func23, Tryd.ntmps23
  go_wp2_with (first | (go_at_call 19; go_must (refine (n_any ao len cap g 14 _ (by omega) (HS.out.alloc _)).mono ?_); rintro e w1 ⟨v, rfl, hv0, hv1, hv2, hS1, hg1⟩; have hv3 : v < 14 := hv2 (by omega); clear hv1 hv2; have HS1 := hid_intro hS1; have HG1 := hid_intro hg1; clear hS1 hg1; obtain ⟨j, rfl⟩ : ∃ j : Nat, v = j := ⟨v.toNat, by omega⟩; obtain ⟨x, hx, hx1, hx2⟩ := edges_bd j (by omega); go_must (have hcell : w1.cell? ⟨w.heap.size, j, none⟩ = some (.int .i64 x) := HG1.out.cell (a := ⟨w.heap.size, j, none⟩) (edge_cell w 2 j x hx) (by simp; omega)); clear hx))
  go_ret
  exact ⟨⟨x, rfl, hx1, hx2⟩, HS1.out, Lib.grownBy_trans (World.grownBy_alloc w _ _) HG1.out⟩
/-- Bytes that can be read: none, or so many cells, each a byte. -/
def Bytes (ao : Option Addr) (len : Nat) (w : World) : Prop :=
  len = 0 ∨ ∃ ab aoff, ao = some ⟨ab, aoff, none⟩ ∧ ab < w.heap.size ∧ ∀ i, i < len → ∃ z : Int, w.cell? ⟨ab, aoff + i, none⟩ = some (.int .u8 z) ∧ 0 ≤ z ∧ z ≤ 255
theorem Bytes.below {ao : Option Addr} {len : Nat} {w w' : World} (h : Bytes ao len w) (hb : Below w.heap.size w w') : Bytes ao len w' := by
  rcases h with h0 | ⟨ab, aoff, e1, e2, e3⟩
  · exact .inl h0
  · refine .inr ⟨ab, aoff, e1, Nat.lt_of_lt_of_le e2 hb.size, fun i hi => ?_⟩
    obtain ⟨z, a, b, c⟩ := e3 i hi
    exact ⟨z, (hb.cell (p := ⟨ab, aoff + i, none⟩) e2).trans a, b, c⟩
theorem wrap_bd64 (x : Int) : 0 ≤ IntKind.u64.wrap x ∧ IntKind.u64.wrap x ≤ 18446744073709551615 := by rw [u64wrap]; omega
theorem block_mix {w : World} {g : Nat} {c0 c1 c2 c3 y : Value} {T : TypeId} (hg : w.heap[g]? = some (.cells #[c0, c1, c2, c3] T (0, 0))) :
    (w.setCell ⟨g, 2, none⟩ y).heap[g]? = some (.cells #[c0, c1, y, c3] T (0, 0)) := by
  rw [Lib.heap_setCell_same hg y]; rfl
theorem block_size {w : World} {g : Nat} {c0 c1 c2 c3 y : Value} {T : TypeId} (hg : w.heap[g]? = some (.cells #[c0, c1, c2, c3] T (0, 0))) :
    (w.setCell ⟨g, 3, none⟩ y).heap[g]? = some (.cells #[c0, c1, c2, y] T (0, 0)) := by
  rw [Lib.heap_setCell_same hg y]; rfl
theorem src_mk {ao : Option Addr} {len cap : Nat} {w w' : World} {mix size : Int} (hlen : len ≤ 1048576) (hm : 0 ≤ mix ∧ mix ≤ 18446744073709551615) (hs : 0 ≤ size ∧ size ≤ 12)
    (hg : w'.heap[w.heap.size]? = some (.cells #[.slice ao len cap, .int .i64 0, .int .u64 mix, .int .i64 size] 52 (0, 0))) (hB : Bytes ao len w) (hb : Below w.heap.size w w') : Src ao len cap w.heap.size w' := by
  refine ⟨hlen, ⟨0, mix, size, by omega, hm.1, hm.2, hs.1, hs.2, hg⟩, ?_⟩
  rcases hB with h0 | ⟨ab, aoff, e1, e2, e3⟩
  · exact .inl h0
  · refine .inr ⟨ab, aoff, e1, e2, fun i hi => ?_⟩
    obtain ⟨z, a, b, c⟩ := e3 i hi
    exact ⟨z, (hb.cell (p := ⟨ab, aoff + i, none⟩) e2).trans a, b, c⟩
set_option maxRecDepth 100000 in
set_option maxHeartbeats 4000000 in
theorem source_any (ao : Option Addr) (len cap : Nat) (w : World) (hlen : len ≤ 1048576) (hB : Bytes ao len w) :
    Calls Tryd.prog 12 #[.slice ao len cap] w fun e w' => e = .returned (.pointer (some ⟨w.heap.size, 0, none⟩)) ∧ Src ao len cap w.heap.size w' ∧ Below w.heap.size w w' := by
  have HB := hid_intro hB
  clear hB
  have HG0 : Hid ((w.alloc (Obj.cells #[.slice ao len cap, .int .i64 0, .int .u64 88172645463325252, .int .i64 0] 52)).heap[w.heap.size]? = some (.cells #[.slice ao len cap, .int .i64 0, .int .u64 88172645463325252, .int .i64 0] 52 (0, 0))) := heap_alloc_new w _
  have HB0 : Hid (Below w.heap.size w (w.alloc (Obj.cells #[.slice ao len cap, .int .i64 0, .int .u64 88172645463325252, .int .i64 0] 52))) := (Below.refl _ _).alloc (Nat.le_refl _) _
  go_enter Tryd.func12, Tryd.ntmps12
  go_wp2
  go_loopw [4] (fun i wr => ∃ (k : Nat) (mix : Int), k ≤ len ∧ k ≤ 64 ∧ i = .int .i64 k ∧ 0 ≤ mix ∧ mix ≤ 18446744073709551615 ∧ Hid (wr.heap[w.heap.size]? = some (.cells #[.slice ao len cap, .int .i64 0, .int .u64 mix, .int .i64 0] 52 (0, 0))) ∧ Hid (Below w.heap.size w wr)) (fun i _ => 64 - (intOf i).toNat)
  case atStart => exact ⟨0, _, by omega, by omega, rfl, by omega, by omega, HG0, HB0⟩
  case round =>
    obtain ⟨k, mix, hk1, hk2, rfl, hm1, hm2, HG, HL⟩ := hrel
    clear HG0 HB0
    have c2 : wr.cell? ⟨w.heap.size, 2, none⟩ = some (.int .u64 mix) := by rw [cell_of_row wr w.heap.size 2 _ _ _ HG.out]; rfl
    have f2 : wr.frozen? ⟨w.heap.size, 2, none⟩ = false := by simp [World.frozen?, HG.out]
    have c3 : wr.cell? ⟨w.heap.size, 3, none⟩ = some (.int .i64 0) := by rw [cell_of_row wr w.heap.size 3 _ _ _ HG.out]; rfl
    have f3 : wr.frozen? ⟨w.heap.size, 3, none⟩ = false := by simp [World.frozen?, HG.out]
    by_cases hlt : k < len ∧ k < 64
    · obtain ⟨h1, h2⟩ := hlt
      have h3 : (k : Int) < (len : Int) := by omega
      have h4 : (k : Int) < 64 := by omega
      rcases HB.out with h0 | ⟨ab, aoff, rfl, hab, hcell⟩
      · omega
      obtain ⟨z, hz, hz1, hz2⟩ := hcell k h1
      have hz' : wr.cell? ⟨ab, aoff + k, none⟩ = some (.int .u8 z) := (HL.out.cell (p := ⟨ab, aoff + k, none⟩) hab).trans hz
      clear hcell hz c3 f3
      go_wp2
      go_region
      go_wp2
      go_roundw
      case rel => exact ⟨k + 1, _, by omega, by omega, by go_num, (wrap_bd64 _).1, (wrap_bd64 _).2, hid_intro (block_mix HG.out), hid_intro ((HL.out.setCell (Nat.le_refl _) _).drew)⟩
      case measure => simp [intOf]; omega
    · have hnot : ¬ (k : Int) < (len : Int) ∨ ((k : Int) < (len : Int) ∧ ¬ (k : Int) < 64) := by omega
      have hdiv : (0 : Int) ≤ (len : Int) / 20 := by omega
      clear hlt
      have hss : ∀ (W : World) (x y : Value), (W.setCell ⟨w.heap.size, 3, none⟩ x).setCell ⟨w.heap.size, 3, none⟩ y = W.setCell ⟨w.heap.size, 3, none⟩ y := fun W x y => set_twice W _ x y
      by_cases h12 : 12 < (len : Int) / 20
      all_goals
        rcases hnot with q1 | ⟨q1, q2⟩
        all_goals
          first
            | (exfalso; omega)
            | (go_wp2
               go_ret
               first
                 | exact ⟨rfl, src_mk hlen ⟨hm1, hm2⟩ (size := 12) ⟨by omega, by omega⟩ (block_size HG.out) HB.out (HL.out.setCell (Nat.le_refl _) _), HL.out.setCell (Nat.le_refl _) _⟩
                 | exact ⟨rfl, src_mk hlen ⟨hm1, hm2⟩ (size := (len : Int) / 20) ⟨by omega, by omega⟩ (block_size HG.out) HB.out (HL.out.setCell (Nat.le_refl _) _), HL.out.setCell (Nat.le_refl _) _⟩)
/-- A slice of integers that came in: nil; or a row of cells, each an integer of its kind. -/
def IsRow (k : IntKind) (w : World) (a : Option Addr) (len cap : Nat) (zs : List Int) : Prop :=
  (a = none ∧ len = 0 ∧ cap = 0 ∧ zs = []) ∨
  ∃ x, a = some x ∧ len ≤ cap ∧ cap ≤ maxLen ∧ zs.length = cap ∧ (∀ i, i < zs.length → w.cell? (x.add i) = some (.int k (zs.getD i 0))) ∧ ∀ n ∈ zs, (Lit.int k n).wf = true
theorem IsRow.bytes {w : World} {a : Option Addr} {len cap : Nat} {zs : List Int} (h : IsRow .u8 w a len cap zs) : Bytes a len w := by
  rcases h with ⟨_, h0, _⟩ | ⟨x, rfl, hl, hm, hz, hcell, hwz⟩
  · exact .inl h0
  · by_cases h0 : len = 0
    · exact .inl h0
    · obtain ⟨b, off, spot⟩ := x
      have hc := hcell 0 (by omega)
      have hspot : spot = none := by simpa [Addr.add] using World.cell?_spot hc
      subst hspot
      refine .inr ⟨b, off, rfl, ?_, fun i hi => ?_⟩
      · have := World.block_lt_of_cell? w _ hc
        simpa [Addr.add] using this
      · have hi2 : i < zs.length := by omega
        have h1 := hcell i hi2
        have e : (⟨b, off, none⟩ : Addr).add i = ⟨b, off + i, none⟩ := by simp [Addr.add]
        rw [e] at h1
        have hw := hwz (zs.getD i 0) (by rw [List.getD, List.getElem?_eq_getElem hi2]; exact List.getElem_mem hi2)
        have hb := bounds_u8 hw
        exact ⟨_, h1, by omega, by omega⟩
theorem IsRow.len {k : IntKind} {w : World} {a : Option Addr} {len cap : Nat} {zs : List Int} (h : IsRow k w a len cap zs) : len ≤ maxLen := by
  rcases h with ⟨_, h0, _⟩ | ⟨x, _, hl, hm, _⟩
  · omega
  · omega
end DrawR
end Go.Proofs.YthfcdfeomekkeaaDoor
