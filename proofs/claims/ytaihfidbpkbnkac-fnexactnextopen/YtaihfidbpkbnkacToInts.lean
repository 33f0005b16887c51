/-
  The law's own copies of a list, and lists held against each other. The condition: the list has at most 1048576 numbers.
-/
import Derived.Test.YtaihfidbpkbnkacFreeS
import Derived.Laws.CopyOwn
import Derived.OwnWalk
namespace Go.Proofs.Ytaihfidbpkbnkac
open Go.ChangeShapes Go.WideShapes Go.ChangeAt Go.RowKit
set_option linter.unusedVariables false
namespace DateR
theorem infoI : (Try.prog.info? 2).map (fun i => (i.zero, i.size, i.bytes)) = some (some (.int .i64 0), 1, 8) := by kernel_rfl
theorem row_full {w : World} {base e g n : Nat} {xs : List Value} (h : w.ownsRow base e 1 (.slice (some ⟨g, 0, none⟩) n n) n xs) :
    ∃ rest : List Value, w.heap[g]? = some (.cells rest.toArray e (0, 0)) ∧ rest.length = n := by
  rcases h.2 with ⟨h1, _⟩ | ⟨g', cap, cur, h1, _, hg, _, _, hs, _⟩
  · simp at h1
  · simp at h1
    obtain ⟨rfl, rfl⟩ := h1
    exact ⟨cur.toList, by simpa using hg, by simpa using hs⟩
/-- How far the copy has come. -/
structure Fill (w wr : World) (n k : Nat) (zs : List Int) : Prop where
  bel : Below w.heap.size w wr
  row : ∃ cs : List Value, wr.heap[w.heap.size]? = some (.cells cs.toArray 2 (0, 0)) ∧ cs.length = n ∧ ∀ i, i < k → cs[i]? = some (.int .i64 (zs.getD i 0))
theorem Fill.lt {w wr : World} {n k : Nat} {zs : List Int} (h : Fill w wr n k zs) : w.heap.size < wr.heap.size := by
  obtain ⟨cs, hh, _⟩ := h.row
  exact (Array.getElem?_eq_some_iff.1 hh).1
theorem Fill.cell {w wr : World} {n k : Nat} {zs : List Int} (h : Fill w wr n k zs) (i : Nat) (hi : i < n) : ∃ v, wr.cell? ⟨w.heap.size, i, none⟩ = some v := by
  obtain ⟨cs, hh, hl, _⟩ := h.row
  refine ⟨cs[i]'(by omega), ?_⟩
  simp [World.cell?, hh, hl, hi]
theorem Fill.frozen {w wr : World} {n k : Nat} {zs : List Int} (h : Fill w wr n k zs) (i : Nat) : wr.frozen? ⟨w.heap.size, i, none⟩ = false := by
  obtain ⟨cs, hh, hl, _⟩ := h.row
  simp [World.frozen?, hh]
theorem Fill.set {w wr : World} {n k : Nat} {zs : List Int} (h : Fill w wr n k zs) (hk : k < n) : Fill w (wr.setCell ⟨w.heap.size, k, none⟩ (.int .i64 (zs.getD k 0))) n (k + 1) zs where
  bel := h.bel.setCell (Nat.le_refl _) _
  row := by
    obtain ⟨cs, hh, hl, hc⟩ := h.row
    refine ⟨cs.set k (.int .i64 (zs.getD k 0)), ?_, by simpa using hl, fun i hi => ?_⟩
    · simp [World.setCell, Array.getElem?_modify, hh]
    · by_cases e : i = k
      · subst e; simp [hl, hk]
      · rw [List.getElem?_set_ne (by omega)]; exact hc i (by omega)
theorem Fill.ints {w wr : World} {n : Nat} {zs : List Int} (h : Fill w wr n n zs) (hz : zs.length = n) : Ints (some ⟨w.heap.size, 0, none⟩) n zs wr := by
  refine ⟨hz, .inr ⟨w.heap.size, 0, rfl, h.lt, fun i hi => ?_⟩⟩
  obtain ⟨cs, hh, hl, hc⟩ := h.row
  have := hc i hi
  rw [Nat.zero_add]
  simp [World.cell?, hh]
  exact this
set_option maxHeartbeats 4000000 in
theorem toInts_any (ao : Option Addr) (len cap : Nat) (zs : List Int) (w : World) (hlen : len ≤ 1048576) (hI : Ints ao len zs w) :
    Calls Try.prog 6 #[.slice ao len cap] w fun e w' => e = .returned (.slice (some ⟨w.heap.size, 0, none⟩) len len) ∧ Ints (some ⟨w.heap.size, 0, none⟩) len zs w' ∧ Below w.heap.size w w' := by
  obtain ⟨i0, hi, hz0, hz1, hz2⟩ := info_parts infoI
  have HI := hid_intro hI
  clear hI
  go_enter Try.func6, Try.ntmps6
  go_wp2_with (at_make; refine wpList_make_full _ rfl _ _ 22 rfl w.heap.size 2 i0 (.int .i64 0) 1 Try.underlying22 hi hz0 hz1 .i64 .i64 _ _ len rfl rfl rfl rfl ?b2 ?b3 ?b4 ?_)
  case b2 => rw [hz2]; omega
  case b3 => unfold maxLen; omega
  case b4 => exact Nat.le_refl _
  intro wm hown hgrow
  obtain ⟨rest0, hrow0, hrl0⟩ := row_full hown
  have HF0 : Hid (Fill w wm len 0 zs) := hid_intro ⟨(Below.refl _ _).grown hgrow (Nat.le_refl _) (fun _ h => by cases h), rest0, hrow0, hrl0, fun i hi => by omega⟩
  clear hown hgrow hrow0
  go_wp2_with fail
  go_loopw [4] (fun z wr => ∃ k : Nat, k ≤ len ∧ z = .int .i64 k ∧ Hid (Fill w wr len k zs)) (fun z _ => len - (intOf z).toNat)
  case atStart => exact ⟨0, by omega, rfl, HF0⟩
  case round =>
    obtain ⟨k, hk, rfl, HF⟩ := hrel
    by_cases hlt : k < len
    · have hlt2 : (k : Int) < (len : Int) := by omega
      obtain ⟨b, off, X, rfl, hc, HX⟩ := cell_at (HI.out.below HF.out.bel) k hlt
      obtain ⟨v, hv⟩ := HF.out.cell k hlt
      have hz := HF.out.frozen k
      have HS := hid_intro (HF.out.set hlt)
      rw [← HX.out] at HS
      go_wp2_with fail
      go_roundw
      case rel => exact ⟨k + 1, by omega, by go_num, HS⟩
      case measure => simp [intOf]; omega
    · have hlt2 : ¬ (k : Int) < (len : Int) := by omega
      obtain rfl : k = len := by omega
      go_wp2_with fail
      go_ret
      exact ⟨rfl, HF.out.ints HI.out.1, HF.out.bel⟩
set_option maxHeartbeats 4000000 in
theorem eqInts_any (ao bo : Option Addr) (len cap cap' : Nat) (zs : List Int) (w : World) (hlen : len ≤ 1048576) (hI : Ints ao len zs w) (hJ : Ints bo len zs w) :
    Calls Try.prog 8 #[.slice ao len cap, .slice bo len cap'] w fun e w' => e = .returned (.bool true) ∧ Drawn w w' := by
  have HI := hid_intro hI
  have HJ := hid_intro hJ
  clear hI hJ
  go_enter Try.func8, Try.ntmps8
  go_wp2_with fail
  go_loopw [5] (fun z wr => ∃ k : Nat, k ≤ len ∧ z = .int .i64 k ∧ Hid (Drawn w wr)) (fun z _ => len - (intOf z).toNat)
  case atStart => exact ⟨0, by omega, rfl, 0, rfl⟩
  case round =>
    obtain ⟨k, hk, rfl, HW⟩ := hrel
    by_cases hlt : k < len
    · have hlt2 : (k : Int) < (len : Int) := by omega
      obtain ⟨b, off, X, rfl, hc, HX⟩ := cell_at (HW.out.ints HI.out) k hlt
      obtain ⟨b', off', Y, rfl, hc', HY⟩ := cell_at (HW.out.ints HJ.out) k hlt
      obtain rfl : X = Y := by rw [HX.out, HY.out]
      go_wp2_with fail
      go_quiet (fail)
      go_wp2
      go_roundw
      case rel => exact ⟨k + 1, by omega, by go_num, hid_intro (HW.out.more _)⟩
      case measure => simp [intOf]; omega
    · have hlt2 : ¬ (k : Int) < (len : Int) := by omega
      go_wp2_with fail
      go_ret
      exact ⟨rfl, HW.out⟩
end DateR
end Go.Proofs.Ytaihfidbpkbnkac
