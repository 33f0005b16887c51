/-
  Drawn batches: some events of short texts; drawing writes the source's own block alone. The condition: the bytes are at most 1048576.
-/
import Derived.Test.YtmilejcpdfhmmaaDrawEvt
import Derived.Test.YtmilejcpdfhmmaaMarkT
import Derived.Test.YtmilejcpdfhmmaaBatRes
namespace Go.Proofs.Ytmilejcpdfhmmaa
open Go.ChangeShapes Go.WideShapes Go.ChangeAt Go.RowKit
set_option linter.unusedVariables false
namespace DrawR
open EvtR (ev E)
set_option maxRecDepth 100000 in
set_option maxHeartbeats 4000000 in
theorem dec_sz (N : Nat) (h : N < 1000) (w : World) : Calls Try.prog 59 #[.int .i64 N] w fun e w' => (∃ T : ByteArray, e = .returned (.string T) ∧ T.size ≤ 5) ∧ Below w.heap.size w w' := by
  by_cases h0 : N = 0
  · subst h0
    go_enter Try.func59, Try.ntmps59
    go_wp2_with fail
    go_ret
    exact ⟨⟨_, rfl, by decide⟩, Below.refl _ _⟩
  have h1 : (0 : Int) < (N : Int) := by omega
  have h2 : ¬ (N : Int) = 0 := by omega
  go_enter Try.func59, Try.ntmps59
  go_wp2_with fail
  go_loopw [0, 4] (fun x s wr => ∃ (f m : Nat) (T : ByteArray), x = .int .i64 (m : Int) ∧ s = .string T ∧ m < 10 ^ f ∧ f ≤ 5 ∧ T.size + f = 5 ∧ Hid (Below w.heap.size w wr)) (fun x _ _ => (intOf x).toNat)
  case atStart => exact ⟨5, N, ⟨#[]⟩, rfl, rfl, by omega, by omega, rfl, hid_intro (Below.refl _ _)⟩
  case round =>
    obtain ⟨f, m, T, rfl, rfl, hm, hf, hz, HB⟩ := hrel
    by_cases hm0 : m = 0
    · subst hm0
      have HT : Hid (T.size ≤ 5) := hid_intro (by omega)
      clear hz hm
      go_wp2_with fail
      go_ret
      exact ⟨⟨T, rfl, HT.out⟩, HB.out⟩
    · obtain ⟨g, rfl⟩ : ∃ g, f = g + 1 := ⟨f - 1, by rcases f with _ | f; simp at hm; omega; omega⟩
      have hm2 : m / 10 < 10 ^ g := by rw [Nat.pow_succ] at hm; omega
      have hmb : m < 100000 := by
        have : 10 ^ (g + 1) ≤ 10 ^ 5 := Nat.pow_le_pow_right (by omega) hf
        omega
      have hmi : ¬ (m : Int) = 0 := by omega
      have hmi2 : (0 : Int) < (m : Int) := by omega
      have e1 : (m : Int) % 10 = ((m % 10 : Nat) : Int) := by omega
      have e2 : (m : Int) / 10 = ((m / 10 : Nat) : Int) := by omega
      have e3 : (m : Int).tmod 10 = ((m % 10 : Nat) : Int) := by rw [Int.tmod_eq_emod_of_nonneg (by omega)]; omega
      have e4 : (m : Int).tdiv 10 = ((m / 10 : Nat) : Int) := by rw [Int.tdiv_eq_ediv_of_nonneg (by omega)]; omega
      have d10 : m % 10 < 10 := by omega
      have HDk : Hid (m / 10 < m) := hid_intro (by omega)
      have hC : (strOfNums [48 + ((m % 10 : Nat) : Int)]).size = 1 := strOfNums_size _
      have hcv := MarkR.conv_m wr (48 + ((m % 10 : Nat) : Int))
      generalize m % 10 = d at *
      generalize m / 10 = q at *
      generalize strOfNums [48 + (d : Int)] = D at *
      have q1 : ¬ 9223372036854775807 < D.size + T.size := by omega
      clear hm
      go_wp2_with fail
      go_roundw
      case rel => exact ⟨g, q, D ++ T, rfl, rfl, hm2, by omega, by rw [ByteArray.size_append]; omega, hid_intro (HB.out.alloc HB.out.size _)⟩
      case measure => simp [intOf]; have := HDk.out; omega
theorem grow_new {w w1 w2 : World} {g : Nat} {row : Option Nat} (h1 : w.grownBy w1 (some g)) (h2 : w1.grownBy w2 row) (hr : ∀ b, row = some b → w.heap.size ≤ b) : w.grownBy w2 (some g) :=
  ⟨h2.os.trans h1.os, h2.tape.trans h1.tape, h2.output.trans h1.output, Nat.le_trans h1.size h2.size, fun k hk hne => (h2.block k (by have := h1.size; omega) (fun e => by have := hr k e.symm; omega)).trans (h1.block k hk hne)⟩
/-- How long a slice is. -/
def lenV : Value → Nat
  | .slice _ n _ => n
  | _ => 0
/-- A list of events that was drawn. -/
def BtOut (ao : Option Addr) (len cap g : Nat) (w : World) (e : Ending) (w' : World) : Prop := (∃ (v : Value) (l : List E), e = .returned v ∧ l.length ≤ 30 ∧ (∀ x ∈ l, x.Small) ∧ w'.ownsRow w.heap.size 31 6 v l.length (EvtR.cellsOf l)) ∧ Src ao len cap g w' ∧ w.grownBy w' (some g)
theorem small_app {l : List E} {x : E} (h : ∀ y ∈ l, y.Small) (hx : x.Small) : ∀ y ∈ l ++ [x], y.Small := by
  intro y hy
  rw [List.mem_append] at hy
  rcases hy with hy | hy
  · exact h y hy
  · rw [List.mem_singleton] at hy
    rw [hy]; exact hx
set_option maxRecDepth 100000 in
set_option maxHeartbeats 8000000 in
theorem batch_any (ao : Option Addr) (len cap g : Nat) (w : World) (hS : Src ao len cap g w) :
    Calls Try.prog 27 #[.pointer (some ⟨g, 0, none⟩)] w fun e w' => BtOut ao len cap g w e w' := by
  obtain ⟨i0, hi, hz0, hz1, hz2⟩ := info_parts EvtR.infoE6
  have HS := hid_intro hS
  have hgl := hS.lt
  clear hS
  have HO0 := hid_intro (World.ownsRow_made (base := w.heap.size) (e := 31) (size := 6) w #[] 0 (Nat.le_refl _) (by unfold maxLen; omega) rfl)
  have HS0 : Hid (Src ao len cap g (w.alloc (Obj.cells #[] 31))) := hid_intro (HS.out.alloc _)
  have HG0 : Hid (w.grownBy (w.alloc (Obj.cells #[] 31)) (some g)) := hid_intro (World.grownBy_alloc w _ _)
  go_enter Try.func27, Try.ntmps27
  go_wp2_with fail
  refine (n_any ao len cap g 5 _ (by omega) HS0.out).mono ?_
  rintro e w1 ⟨v1, rfl, lo1, _, hi1, hS1, hg1⟩
  have ht1 : v1 < 5 := hi1 (by omega)
  obtain ⟨K, rfl⟩ : ∃ K : Nat, v1 = K := ⟨v1.toNat, by omega⟩
  have HS1 := hid_intro hS1
  have HG1 := hid_intro (Lib.grownBy_trans HG0.out hg1)
  have HO1 := hid_intro (EvtR.own_kept HO0.out hg1 (by omega))
  clear hS1 hg1 hi1
  go_wp2_with fail
  go_loopw [3, 4] (fun v z wr => ∃ (j : Nat) (acc : List E), z = .int .i64 j ∧ acc.length + j ≤ 4 ∧ Hid (∀ x ∈ acc, x.Small) ∧ Hid (Src ao len cap g wr) ∧ Hid (w.grownBy wr (some g)) ∧ Hid (wr.ownsRow w.heap.size 31 6 v acc.length (EvtR.cellsOf acc))) (fun v z _ => (intOf z).toNat)
  case atStart => exact ⟨K, [], rfl, by simp; omega, hid_intro (by intro x hx; cases hx), HS1, HG1, HO1⟩
  case round =>
    clear HS1 HG1 HO1 HS0 HG0 HO0 HS
    obtain ⟨j, acc, rfl, hj, HSM, HS, HG, HO⟩ := hrel
    by_cases hj0 : 0 < j
    · have hj2 : (0 : Int) < (j : Int) := by omega
      have HE := hid_intro (event_any ao len cap g _ HS.out)
      go_wp2_with fail
      refine HE.out.mono ?_
      rintro e w2 ⟨⟨xi, xa, xm, xn, xk, xt, rfl, z1, z2, z3, z4⟩, hS, hg⟩
      have HS2 := hid_intro hS
      have HG2 := hid_intro (Lib.grownBy_trans HG.out hg)
      have HO2 := hid_intro (EvtR.own_kept HO.out hg (by omega))
      have HX : Hid (E.Small ⟨xi, xa, xm, xn, xk, xt⟩) := hid_intro ⟨by show xi.size ≤ _; omega, by show xa.size ≤ _; omega, by show xm.size ≤ _; omega, by show xt.size ≤ _; omega⟩
      clear hS hg z1 z2 z3 z4
      unfold ev
      go_wp2_with (at_builtin; refine wpList_append_own _ rfl _ _ 23 rfl w.heap.size 31 i0 (.agg #[.string ⟨#[]⟩, .string ⟨#[]⟩, .string ⟨#[]⟩, .int .i64 0, .int .i64 0, .string ⟨#[]⟩]) 6 80 Try.underlying23 hi hz0 hz1 hz2 rfl (by decide) _ _ _ rfl (HO2.out.alloc _) ⟨w2.heap.size, 0, none⟩ 1 1 (E.cells ⟨xi, xa, xm, xn, xk, xt⟩) rfl rfl ?d1 ?d2 ?d3 ?d4 ?d5 ?_)
      case d1 =>
        intro x u hx
        have hx2 : x < 6 := by
          have := (List.getElem?_eq_some_iff.1 hx).1
          simpa [E.cells] using this
        match x, hx2, hx with
        | 0, _, hx => simp [E.cells] at hx; subst hx; simp [Addr.add, go_sem]
        | 1, _, hx => simp [E.cells] at hx; subst hx; simp [Addr.add, go_sem]
        | 2, _, hx => simp [E.cells] at hx; subst hx; simp [Addr.add, go_sem]
        | 3, _, hx => simp [E.cells] at hx; subst hx; simp [Addr.add, go_sem]
        | 4, _, hx => simp [E.cells] at hx; subst hx; simp [Addr.add, go_sem]
        | 5, _, hx => simp [E.cells] at hx; subst hx; simp [Addr.add, go_sem]
      case d2 =>
        intro u hu
        simp only [E.cells, List.mem_cons, List.not_mem_nil, or_false] at hu
        rcases hu with rfl | rfl | rfl | rfl | rfl | rfl <;> rfl
      case d3 => unfold maxLen; omega
      case d4 => omega
      case d5 => have h1 := HG2.out.size; simp; omega
      intro v' w4 hown hgrow hne
      have hrow : ∀ b, u3.ownBlock = some b → w.heap.size ≤ b := fun b hb => (HO.out.lt b hb).1
      have HO4 : Hid (w4.ownsRow w.heap.size 31 6 v' (acc.length + 1) (EvtR.cellsOf (acc ++ [⟨xi, xa, xm, xn, xk, xt⟩]))) := hid_intro (by rw [EvtR.cellsOf_app]; exact hown)
      have HS4 : Hid (Src ao len cap g w4) := hid_intro ((HS2.out.alloc _).kept hgrow (fun k e => by have := hrow _ e; omega))
      have HG4 : Hid (w.grownBy w4 (some g)) := hid_intro (grow_new (Lib.grownBy_trans HG2.out (World.grownBy_alloc _ _ _)) hgrow hrow)
      clear hown hgrow hne hrow
      go_wp2_with fail
      go_roundw
      case rel => exact ⟨j - 1, acc ++ [⟨xi, xa, xm, xn, xk, xt⟩], by go_num, by simp; omega, hid_intro (small_app HSM.out HX.out), HS4, HG4, by rw [List.length_append]; exact HO4⟩
      case measure => simp [intOf]; omega
    · obtain rfl : j = 0 := by omega
      go_wp2_with fail
      refine (one_any ao len cap g 25 _ (by omega) HS.out).mono ?_
      rintro e w2 ⟨⟨q, rfl⟩, hS, hg⟩
      have HS2 := hid_intro hS
      have HG2 := hid_intro (Lib.grownBy_trans HG.out hg)
      have HO2 := hid_intro (EvtR.own_kept HO.out hg (by omega))
      clear hS hg
      have HAL : Hid (acc.length ≤ 4) := hid_intro (by omega)
      cases q
      · go_wp2_with fail
        go_ret
        exact ⟨⟨_, acc, rfl, by have := HAL.out; omega, HSM.out, HO2.out⟩, HS2.out, HG2.out⟩
      · go_wp2_with fail
        go_loopw [3] (fun v wx => ∃ acc : List E, acc.length ≤ 21 ∧ Hid (∀ x ∈ acc, x.Small) ∧ Hid (Src ao len cap g wx) ∧ Hid (w.grownBy wx (some g)) ∧ Hid (wx.ownsRow w.heap.size 31 6 v acc.length (EvtR.cellsOf acc))) (fun v _ => 30 - lenV v)
        case atStart => exact ⟨acc, by have := HAL.out; omega, HSM, HS2, HG2, HO2⟩
        case round =>
          clear HAL HSM HS2 HG2 HO2 HS HG HO
          obtain ⟨acc, hacc, HSM, HS, HG, HO⟩ := hrel
          obtain ⟨po, pc, rfl, _⟩ := EvtR.own_made HO.out
          go_wp2_with fail
          refine (n_any ao len cap g 2 _ (by omega) HS.out).mono ?_
          rintro e w2 ⟨v2, rfl, lo2, _, hi2, hS, hg⟩
          have ht2 : v2 < 2 := hi2 (by omega)
          have HS2 := hid_intro hS
          have HG2 := hid_intro (Lib.grownBy_trans HG.out hg)
          have HO2 := hid_intro (EvtR.own_kept HO.out hg (by omega))
          clear hS hg hi2
          by_cases hlt : (acc.length : Int) < 20 + v2
          · have HD := hid_intro (fun W => dec_sz acc.length (by omega) W)
            go_wp2_with fail
            refine (HD.out _).mono ?_
            rintro e w3 ⟨⟨T, rfl, hT⟩, hb3⟩
            replace HS2 := hid_intro (HS2.out.kept (EvtR.rgrown hb3 none) (fun k e => by cases e))
            replace HO2 := hid_intro (EvtR.own_below HO2.out hb3)
            replace HG2 := hid_intro (Lib.grownBy_trans HG2.out (EvtR.rgrown hb3 (some g)))
            have q1 : ¬ 9223372036854775807 < 1 + T.size := by omega
            have HX : Hid (E.Small ⟨(⟨#[120]⟩ : ByteArray) ++ T, ⟨#[97]⟩, ⟨#[98]⟩, 0, 0, ⟨#[]⟩⟩) := hid_intro ⟨by show (_ ++ T).size ≤ _; rw [ByteArray.size_append]; have : (⟨#[120]⟩ : ByteArray).size = 1 := rfl; omega, by show (⟨#[97]⟩ : ByteArray).size ≤ _; decide, by show (⟨#[98]⟩ : ByteArray).size ≤ _; decide, by show (⟨#[]⟩ : ByteArray).size ≤ _; decide⟩
            clear hb3
            go_wp2_with (at_builtin; refine wpList_append_own _ rfl _ _ 23 rfl w.heap.size 31 i0 (.agg #[.string ⟨#[]⟩, .string ⟨#[]⟩, .string ⟨#[]⟩, .int .i64 0, .int .i64 0, .string ⟨#[]⟩]) 6 80 Try.underlying23 hi hz0 hz1 hz2 rfl (by decide) _ _ _ rfl (HO2.out.alloc _) ⟨w3.heap.size, 0, none⟩ 1 1 (E.cells ⟨(⟨#[120]⟩ : ByteArray) ++ T, ⟨#[97]⟩, ⟨#[98]⟩, 0, 0, ⟨#[]⟩⟩) rfl rfl ?d1 ?d2 ?d3 ?d4 ?d5 ?_)
            case d1 =>
              intro x u hx
              have hx2 : x < 6 := by
                have := (List.getElem?_eq_some_iff.1 hx).1
                simpa [E.cells] using this
              match x, hx2, hx with
              | 0, _, hx => simp [E.cells] at hx; subst hx; simp [Addr.add, go_sem]
              | 1, _, hx => simp [E.cells] at hx; subst hx; simp [Addr.add, go_sem]
              | 2, _, hx => simp [E.cells] at hx; subst hx; simp [Addr.add, go_sem]
              | 3, _, hx => simp [E.cells] at hx; subst hx; simp [Addr.add, go_sem]
              | 4, _, hx => simp [E.cells] at hx; subst hx; simp [Addr.add, go_sem]
              | 5, _, hx => simp [E.cells] at hx; subst hx; simp [Addr.add, go_sem]
            case d2 =>
              intro u hu
              simp only [E.cells, List.mem_cons, List.not_mem_nil, or_false] at hu
              rcases hu with rfl | rfl | rfl | rfl | rfl | rfl <;> rfl
            case d3 => unfold maxLen; omega
            case d4 => omega
            case d5 => have h1 := HG2.out.size; simp; omega
            intro v' w4 hown hgrow hne
            have hrow : ∀ b, (Value.slice po acc.length pc).ownBlock = some b → w.heap.size ≤ b := fun b hb => (HO.out.lt b hb).1
            have HO4 : Hid (w4.ownsRow w.heap.size 31 6 v' (acc.length + 1) (EvtR.cellsOf (acc ++ [⟨(⟨#[120]⟩ : ByteArray) ++ T, ⟨#[97]⟩, ⟨#[98]⟩, 0, 0, ⟨#[]⟩⟩]))) := hid_intro (by rw [EvtR.cellsOf_app]; exact hown)
            have HS4 : Hid (Src ao len cap g w4) := hid_intro ((HS2.out.alloc _).kept hgrow (fun k e => by have := hrow _ e; omega))
            have HG4 : Hid (w.grownBy w4 (some g)) := hid_intro (grow_new (Lib.grownBy_trans HG2.out (World.grownBy_alloc _ _ _)) hgrow hrow)
            clear hown hgrow hne hrow
            go_wp2_with fail
            go_roundw
            case rel => exact ⟨acc ++ [⟨(⟨#[120]⟩ : ByteArray) ++ T, ⟨#[97]⟩, ⟨#[98]⟩, 0, 0, ⟨#[]⟩⟩], by simp; omega, hid_intro (small_app HSM.out HX.out), HS4, HG4, by rw [List.length_append]; exact HO4⟩
            case measure =>
              obtain ⟨po', pc', rfl, _⟩ := EvtR.own_made (l := acc ++ [⟨(⟨#[120]⟩ : ByteArray) ++ T, ⟨#[97]⟩, ⟨#[98]⟩, 0, 0, ⟨#[]⟩⟩]) (by rw [List.length_append]; exact HO4.out)
              simp [lenV]; omega
          · go_wp2_with fail
            go_ret
            exact ⟨⟨_, acc, rfl, by omega, HSM.out, HO2.out⟩, HS2.out, HG2.out⟩
end DrawR
end Go.Proofs.Ytmilejcpdfhmmaa
