/-
  Sizes of lists of lines, and the law's own marks in them, from any number on. The condition: at most 1048576 lines.
-/
import Derived.Test.YtnhpkcacjkebnaaLiM
import Derived.Test.YtnhpkcacjkebnaaLiZ
namespace Go.Proofs.Ytnhpkcacjkebnaa
open Go.ChangeShapes Go.WideShapes Go.ChangeAt Go.RowKit
set_option linter.unusedVariables false
namespace LinR
open RowG
open EvtR (Pt)
open MarkR (mk mT mark_any)
/-- What is left of a size. -/
def szH (lf : Int) (es : List N) : Int := if (es.length : Int) + szL es ≤ lf then lf - (es.length : Int) - szL es else -1
theorem szH_small {lf : Int} {es : List N} (h1 : lf ≤ 1048576) (h : ¬ szH lf es < 0) : es.length ≤ 1048576 ∧ (∀ e ∈ es, e.i.size ≤ 1048576) ∧ 0 ≤ szH lf es ∧ szH lf es ≤ 1048576 := by
  unfold szH at *
  have hn := szL_nn es
  by_cases q : (es.length : Int) + szL es ≤ lf
  · rw [if_pos q]
    exact ⟨by omega, fun e he => by have := szL_mem he; omega, by omega, by omega⟩
  · rw [if_neg q] at h
    exact absurd (by omega) h
set_option maxHeartbeats 4000000 in
theorem szs_left (lf : Int) (h0 : 0 ≤ lf) (h1 : lf ≤ 1048576) (ao : Option Addr) (cap : Nat) (es : List N) (w : World) (hm : es.length ≤ maxLen) (hI : Lis ao es w) (hw : ∀ e ∈ es, e.i.size ≤ maxLen) :
    Calls Try.prog 7 #[.slice ao es.length cap, .int .i64 lf] w fun e w' => e = .returned (.int .i64 (szH lf es)) ∧ Below w.heap.size w w' := by
  obtain ⟨len, hlen⟩ : ∃ len, len = es.length := ⟨_, rfl⟩
  rw [← hlen] at hm ⊢
  have HZ := hid_intro hlen
  have HI := hid_intro hI
  have HW := hid_intro hw
  have HR : Hid (szH lf es = if (es.length : Int) + szL es ≤ lf then lf - (es.length : Int) - szL es else -1) := rfl
  generalize szH lf es = R at *
  unfold maxLen at hm
  clear hI hw hlen
  by_cases hbig : lf < (len : Int)
  · have hl2 : lf - (len : Int) < 0 := by omega
    have HN : Hid (R = -1) := hid_intro (by rw [HR.out, if_neg]; have := szL_nn es; have := HZ.out; omega)
    go_enter Try.func7, Try.ntmps7
    go_wp2_with fail
    go_ret
    exact ⟨ret_int HN.out.symm, Below.refl _ _⟩
  have hl : (len : Int) ≤ 1048576 := by omega
  have hll : (len : Int) ≤ lf := by omega
  have hl2 : ¬ lf - (len : Int) < 0 := by omega
  go_enter Try.func7, Try.ntmps7
  go_wp2_with fail
  go_loopw [5, 1] (fun x y w' => ∃ (j : Nat) (L : Int), j ≤ len ∧ x = .int .i64 j ∧ y = .int .i64 L ∧ 0 ≤ L ∧ L ≤ 1048576 ∧ Hid (L = lf - (len : Int) - szL (es.take j)) ∧ Hid (Below w.heap.size w w')) (fun x y w' => len - (intOf x).toNat)
  case atStart => exact ⟨0, lf - (len : Int), Nat.zero_le _, rfl, rfl, by omega, by omega, hid_intro (by simp [szL]), hid_intro (Below.refl _ _)⟩
  case round =>
    obtain ⟨j, L, hj, rfl, rfl, l0, l1, HL, HB⟩ := hrel
    by_cases hlt : j < len
    · obtain ⟨b, off, rfl, hbl, c0, c1⟩ := (HI.out.below HB.out).at j (by have := HZ.out; omega)
      have HS := hid_intro (szL_take es j (by have := HZ.out; omega))
      have q1 := HW.out _ (getD_mem (z := N.zero) es j (by have := HZ.out; omega))
      generalize es.getD j N.zero = E1 at *
      obtain ⟨i, n⟩ := E1
      have HS : Hid (szL (es.take (j + 1)) = szL (es.take j) + (i.size : Int)) := HS
      have HC := hid_intro (fun w => sz_any i n L q1 l0 l1 w)
      have hlt2 : (j : Int) < (len : Int) := by omega
      clear q1
      by_cases hs : (i.size : Int) ≤ L
      · rw [if_pos hs] at HC
        have HN : Hid (L - (i.size : Int) = lf - (len : Int) - szL (es.take (j + 1))) := hid_intro (by rw [HS.out, HL.out]; omega)
        have r0 : 0 ≤ L - (i.size : Int) := by omega
        have r1 : L - (i.size : Int) ≤ 1048576 := by omega
        generalize L - (i.size : Int) = L2 at *
        clear hs
        go_wp2_with fail
        refine (HC.out _).mono ?_
        rintro e w1 ⟨rfl, hb⟩
        have HB1 := hid_intro (HB.out.trans (hb.mono HB.out.size))
        clear hb HB c0 c1
        have r2 : ¬ L2 < 0 := by omega
        go_wp2_with fail
        go_roundw
        case rel => exact ⟨j + 1, L2, by omega, by go_num, rfl, r0, r1, HN, HB1⟩
        case measure => simp [intOf]; omega
      · rw [if_neg hs] at HC
        have HN : Hid (R = -1) := hid_intro (by rw [HR.out, if_neg]; have := szL_le es (j + 1); have := HS.out; have := HL.out; have := HZ.out; omega)
        go_wp2_with fail
        refine (HC.out _).mono ?_
        rintro e w1 ⟨rfl, hb⟩
        have HB1 := hid_intro (HB.out.trans (hb.mono HB.out.size))
        clear hb HB c0 c1
        go_wp2_with fail
        go_ret
        exact ⟨ret_int HN.out.symm, HB1.out⟩
    · obtain rfl : j = len := by omega
      have HN : Hid (R = L) := hid_intro (by
        have e := HL.out
        rw [List.take_of_length_le (by have := HZ.out; omega)] at e
        rw [HR.out, if_pos (by have := HZ.out; omega)]; have := HZ.out; omega)
      go_wp2_with fail
      go_ret
      exact ⟨ret_int HN.out.symm, HB.out⟩
set_option maxRecDepth 100000 in
set_option maxHeartbeats 4000000 in
theorem marksK (K : Nat) (hK0 : 1 ≤ K) (hK : K ≤ 6000000) (g n cap : Nat) (w : World) (hn : n ≤ 1048576) (h0 : Pt g (n * 2) w) :
    Calls Try.prog 12 #[.slice (some ⟨g, 0, none⟩) n cap, .int .i64 K] w fun e w' => e = .returned (.int .i64 (K + 2 * n : Nat)) ∧ w.grownBy w' (some g) ∧ ∀ n', Pt g n' w → Pt g n' w' := by
  have HP := hid_intro h0
  have HT : Hid (∀ (z : Int) (K : Nat), z = K → 1 ≤ K → K < 100000000 → ∀ w, Calls Try.prog 31 #[.int .i64 z] w fun e w' => e = .returned (.string (mT K)) ∧ Below w.heap.size w w') := hid_intro (fun z K e h0 h w => by subst e; exact mark_any K h0 h w)
  clear h0
  go_enter Try.func12, Try.ntmps12
  go_wp2_with fail
  go_loopw [5, 1] (fun x z wr => ∃ i : Nat, x = .int .i64 (i : Int) ∧ z = .int .i64 ((K : Int) + 2 * (i : Int)) ∧ i ≤ n ∧ Hid (Pt g (n * 2) wr) ∧ Hid (w.grownBy wr (some g)) ∧ Hid (∀ n', Pt g n' w → Pt g n' wr)) (fun x _ _ => n - (intOf x).toNat)
  case atStart => exact ⟨0, rfl, by go_num, by omega, HP, hid_intro ⟨rfl, rfl, rfl, Nat.le_refl _, fun _ _ _ => rfl⟩, hid_intro (fun _ h => h)⟩
  case round =>
    obtain ⟨i, rfl, rfl, hi, HP, HG, HA⟩ := hrel
    by_cases hin : i = n
    · subst hin
      go_wp2_with fail
      go_ret
      exact ⟨by go_num, HG.out, HA.out⟩
    · have h1 : (i : Int) < (n : Int) := by omega
      go_wp2_with fail
      refine (HT.out _ (K + 2 * i) (by push_cast; omega) (by omega) (by omega) _).mono ?_
      rintro e w1 ⟨rfl, hb⟩
      have HP1 := hid_intro (HP.out.below hb)
      have HG1 := hid_intro (gtrans HG.out (rgrown hb _))
      have HA2 : Hid (∀ n', Pt g n' w → Pt g n' ((w1.setCell ⟨g, i * 2, none⟩ (.string (mT (K + 2 * i)))).setCell ⟨g, i * 2 + 1, none⟩ (.int .i64 ((K : Int) + 2 * (i : Int) + 1)))) := hid_intro (fun n' h => (((HA.out n' h).below hb).set _ _).set _ _)
      obtain ⟨v0, c0⟩ := HP1.out.has (i * 2) (by omega)
      have f0 := HP1.out.free (i * 2) (by omega)
      obtain ⟨v1, c1⟩ := HP1.out.has (i * 2 + 1) (by omega)
      have f1 := HP1.out.free (i * 2 + 1) (by omega)
      have HS := hid_intro (gtrans (gtrans HG1.out (grown_set _ g (i * 2) (.string (mT (K + 2 * i))))) (grown_set _ g (i * 2 + 1) (.int .i64 ((K : Int) + 2 * (i : Int) + 1))))
      have HP2 := hid_intro ((HP1.out.set (i * 2) (.string (mT (K + 2 * i)))).set (i * 2 + 1) (.int .i64 ((K : Int) + 2 * (i : Int) + 1)))
      clear hb HP HG HG1 HP1 HA
      go_wp2_with fail
      go_roundw
      case rel => exact ⟨i + 1, by go_num, by go_num, by omega, HP2, HS, HA2⟩
      case measure => simp [intOf]; omega
set_option maxHeartbeats 4000000 in
theorem marks0K (K : Int) (ao : Option Addr) (cap : Nat) (w : World) : Calls Try.prog 12 #[.slice ao 0 cap, .int .i64 K] w fun e w' => e = .returned (.int .i64 K) ∧ Below w.heap.size w w' := by
  go_enter Try.func12, Try.ntmps12
  go_wp2_with fail
  go_loopw [5, 1] (fun x z wr => x = .int .i64 0 ∧ z = .int .i64 K ∧ Hid (Below w.heap.size w wr)) (fun x _ _ => 0)
  case atStart => exact ⟨rfl, rfl, hid_intro (Below.refl _ _)⟩
  case round =>
    obtain ⟨rfl, rfl, HB⟩ := hrel
    go_wp2_with fail
    go_ret
    exact ⟨rfl, HB.out⟩
theorem pt_far {p q n : Nat} {W W' : World} (h : Pt p n W) (hg : W.grownBy W' (some q)) (hne : p ≠ q) : Pt p n W' := by
  have e := hg.block p h.lt (by simp; omega)
  exact ⟨by have := hg.size; have := h.lt; omega, fun o ho => by obtain ⟨v, hv⟩ := h.has o ho; exact ⟨v, (World.cell?_of_block (a := ⟨p, o, none⟩) e).trans hv⟩, fun o ho => (World.frozen?_of_block (a := ⟨p, o, none⟩) e).trans (h.free o ho)⟩
theorem made_far {base x : Nat} {bo : Option Addr} {D : List N} {w w' : World} (h : MadeG 2 N.cells N.zero base bo D w) (hg : w.grownBy w' (some x)) (hx : x < base) : MadeG 2 N.cells N.zero base bo D w' :=
  ⟨Rws.grown h.rws hg (h.own.imp id (fun ⟨g, h1, h2, h3⟩ b' off' e hr => by
      rw [h1] at e
      simp only [Option.some.injEq, Addr.mk.injEq] at e
      cases hr
      omega)), h.own.imp id (fun ⟨g, h1, h2, h3⟩ => ⟨g, h1, h2, pt_far h3 hg (by omega)⟩)⟩
theorem lis_far {ao : Option Addr} {es : List N} {w0 w w' : World} {row : Option Nat} (h0 : Lis ao es w0) (h : Lis ao es w) (hg : w.grownBy w' row) (hb : ∀ x, row = some x → w0.heap.size ≤ x) : Lis ao es w' := by
  refine Rws.grown h hg ?_
  rcases h0 with h1 | ⟨b, off, rfl, hl, _⟩
  · exact .inl h1
  · refine .inr (fun b' off' e hr => ?_)
    have := hb b' hr.symm
    simp only [Option.some.injEq, Addr.mk.injEq] at e
    omega
theorem made_top {base : Nat} {ao : Option Addr} {l : List N} {w : World} (h : MadeG 2 N.cells N.zero base ao l w) : l.length = 0 ∨ ∀ g, ao = some ⟨g, 0, none⟩ → g < w.heap.size :=
  h.own.imp id (fun ⟨g, h1, h2, h3⟩ g' e => by rw [h1] at e; cases e; exact h3.lt)
end LinR
end Go.Proofs.Ytnhpkcacjkebnaa
