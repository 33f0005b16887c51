/-
  The program's Less and the model's: both hand back the same lines. The condition: at most 1048576 lines, whose Meters have at most 1048576 bytes.
-/
import Derived.Test.YtnhpkcacjkebnaaNtV
namespace Go.Proofs.Ytnhpkcacjkebnaa
open Go.ChangeShapes Go.WideShapes Go.ChangeAt Go.RowKit
set_option linter.unusedVariables false
namespace NetR
open LinR RowG LtR
theorem all_size {L b : List N} {s : Int} (hL : ∀ y ∈ L, y.i.size ≤ 1048576) (hb : ∀ y ∈ b, y.i.size ≤ 1048576) : ∀ y ∈ all L b s, y.i.size ≤ 1048576 := all_i (fun n => n.size ≤ 1048576) b s hL hb
set_option maxRecDepth 100000 in
set_option maxHeartbeats 4000000 in
theorem iless0 (ao bo : Option Addr) (capa capb : Nat) (a b : List N) (w : World) (hla : a.length ≤ 400) (hlb : b.length ≤ 400) (hsa : ∀ e ∈ a, e.i.size ≤ 1048576) (hsb : ∀ e ∈ b, e.i.size ≤ 1048576) (hna : ∀ e ∈ a, -1000000000000000 ≤ e.n ∧ e.n ≤ 1000000000000000) (hnb : ∀ e ∈ b, -1000000000000000 ≤ e.n ∧ e.n ≤ 1000000000000000) (hr : Rise a) (hA : Lis ao a w) (hI : Lis bo b w) :
    Calls Try.prog 29 #[.slice ao a.length capa, .slice bo b.length capb] w fun e w' => ∃ v, e = .returned (.tuple #[v, ovE (ovB (all a b (-1)))]) ∧ w'.ownsRow w.heap.size 45 2 v (clL (all a b (-1))).length (cellsAll N.cells (clL (all a b (-1)))) ∧ Below w.heap.size w w' := by
  have ea : all [] a 1 = a := by have := all_self a [] (by simpa using hr); simpa using this
  have HO1 := hid_intro (World.ownsMap_made w Try.prog 9 (plainElem (H := Value) Try.prog 2))
  have HB1 := hid_intro (al w (.map #[] 0))
  have H1 := hid_intro (bring_any ao capa a 1 w.heap.size 0 _ [] 0 (w.alloc (.map #[] 0)) (.inl rfl) hla hsa hna HO1.out (by omega) netM_nil (by omega) (fun y h => by cases h) (hA.below HB1.out))
  have H2 := hid_intro (fun W D (hO : W.ownsMap Try.prog 9 (plainElem (H := Value) Try.prog 2) w.heap.size (0 + a.length) D) (hN : NetM D a) (hW : Below w.heap.size w W) => bring_any bo capb b (-1) w.heap.size (0 + a.length) D a 1000000000000000 W (.inr rfl) hlb hsb hnb hO (by omega) hN (by omega) hna (hI.below hW))
  have HS := hid_intro (all_size (s := -1) hsa hsb)
  have HLn : Hid ((all a b (-1)).length ≤ 800) := hid_intro (by have := all_len a b (-1); omega)
  rw [ea] at H1
  have HCL : Hid (clL (all a b (-1)) = bif ovB (all a b (-1)) then (all a b (-1)).filter nz else []) := rfl
  have hmm := @run_makeMap Try.prog
  generalize clL (all a b (-1)) = C at *
  generalize all a b (-1) = L at *
  obtain ⟨r, hr0⟩ : ∃ r, ovB L = r := ⟨_, rfl⟩
  rw [hr0] at HCL ⊢
  have HR0 := hid_intro hr0
  clear hr0
  generalize ha0 : a.length = al0 at *
  generalize hb0 : b.length = bl0 at *
  clear ea hA hI hr hsa hsb hna hnb
  go_enter Try.func29, Try.ntmps29
  go_wp2_with fail
  refine H1.out.mono ?_
  rintro e w2 ⟨rfl, ⟨D, hO2, hN2⟩, _, hg2⟩
  have HB2 : Hid (Below w.heap.size w w2) := hid_intro (HB1.out.grown hg2 HB1.out.size (fun k e => by cases e; exact Nat.le_refl _))
  have H3 := hid_intro (H2.out w2 D hO2 hN2 HB2.out)
  clear hO2 hN2 hg2 H1 H2
  go_wp2_with fail
  refine H3.out.mono ?_
  rintro e w3 ⟨rfl, ⟨D3, hO3, hN3⟩, _, hg3⟩
  have HB3 : Hid (Below w.heap.size w w3) := hid_intro (HB2.out.grown hg3 HB2.out.size (fun k e => by cases e; exact Nat.le_refl _))
  have HO3 := hid_intro hO3
  have HN3 := hid_intro hN3
  have H4 := hid_intro (over_any w.heap.size _ D3 L w3 hO3 hN3)
  have H5 := hid_intro (fun W (h : Below w3.heap.size w3 W) => lines_any w.heap.size _ D3 L W (omap_below hO3 h) (by omega) hN3 (by have := HLn.out; omega) HS.out)
  clear hO3 hN3 hg3 H3
  rw [HR0.out] at H4
  clear HR0
  cases r
  · go_wp2_with fail
    refine H4.out.mono ?_
    rintro e w4 ⟨rfl, hb4⟩
    have HB4 := hid_intro (HB3.out.trans (hb4.mono HB3.out.size))
    clear hb4
    simp only [ovE, Bool.false_eq_true, if_false]
    go_wp2_with fail
    go_ret2
    exact ⟨.slice none 0 0, by first | rfl | (simp [ovE]; done), by rw [HCL.out, cond_false]; exact World.ownsRow_nil _ _ _ _, HB4.out⟩
  · go_wp2_with fail
    refine H4.out.mono ?_
    rintro e w4 ⟨rfl, hb4⟩
    have HB4 := hid_intro (HB3.out.trans (hb4.mono HB3.out.size))
    have H6 := hid_intro (H5.out w4 hb4)
    clear hb4
    simp only [ovE, if_true]
    go_wp2_with fail
    refine H6.out.mono ?_
    rintro e w5 ⟨v, rfl, ho, hb5⟩
    have HB5 := hid_intro (HB4.out.trans (hb5.mono HB4.out.size))
    have HO5 := hid_intro (own_low ho HB4.out.size)
    clear ho hb5
    go_wp2_with fail
    go_ret2
    exact ⟨v, by first | rfl | (simp [ovE]; done), by rw [HCL.out, cond_true]; exact HO5.out, HB5.out⟩
set_option maxRecDepth 100000 in
set_option maxHeartbeats 4000000 in
theorem impl_less (ao bo : Option Addr) (capa capb : Nat) (a b : List N) (w : World) (hla : a.length ≤ 1048576) (hlb : b.length ≤ 1048576) (hsa : ∀ e ∈ a, e.i.size ≤ 1048576) (hsb : ∀ e ∈ b, e.i.size ≤ 1048576) (hA : Lis ao a w) (hI : Lis bo b w) :
    Calls Try.prog 10 #[.slice ao a.length capa, .slice bo b.length capb] w fun e w' => ResL w (lessB a b) e w' := by
  have H1 := hid_intro (impl_lines ao capa a w hla hsa hA)
  have H2 := hid_intro (fun W (h : Below w.heap.size w W) => impl_lines bo capb b W hlb hsb (hI.below h))
  have HK := hid_intro (fun W (h : Below w.heap.size w W) (ra : sB a = true) (rb : sB b = true) => iless0 ao bo capa capb a b W (by have := (sB_iff.1 ra).1; omega) (by have := (sB_iff.1 rb).1; omega) hsa hsb (right_bd (sB_iff.1 ra)) (right_bd (sB_iff.1 rb)) (right_rise (sB_iff.1 ra)) (hA.below h) (hI.below h))
  have HT : Hid (lessB a b = bif sB a && sB b then clL (all a b (-1)) else []) := rfl
  have HV : Hid (ovB (all a b (-1)) = false → clL (all a b (-1)) = []) := hid_intro (fun h => by unfold clL; rw [h]; rfl)
  generalize clL (all a b (-1)) = C at *
  generalize ovB (all a b (-1)) = o at *
  generalize lessB a b = T at *
  generalize sB a = ra at *
  generalize sB b = rb at *
  generalize a.length = al0 at *
  generalize b.length = bl0 at *
  clear hA hI hsa hsb hla hlb
  cases ra
  · go_enter Try.func10, Try.ntmps10
    go_wp2_with fail
    refine H1.out.mono ?_
    rintro e w1 ⟨rfl, hb1⟩
    have HB := hid_intro hb1
    clear hb1
    go_wp2_with fail
    go_ret
    rw [HT.out]
    exact resL_nil HB.out _ _
  cases rb
  · go_enter Try.func10, Try.ntmps10
    go_wp2_with fail
    refine H1.out.mono ?_
    rintro e w1 ⟨rfl, hb1⟩
    have HB := hid_intro hb1
    clear hb1
    go_wp2_with fail
    refine (H2.out _ HB.out).mono ?_
    rintro e w2 ⟨rfl, hb2⟩
    have HB2 := hid_intro (HB.out.trans (hb2.mono HB.out.size))
    clear hb2
    go_wp2_with fail
    go_ret
    rw [HT.out]
    exact resL_nil HB2.out _ _
  go_enter Try.func10, Try.ntmps10
  go_wp2_with fail
  refine H1.out.mono ?_
  rintro e w1 ⟨rfl, hb1⟩
  have HB := hid_intro hb1
  clear hb1
  go_wp2_with fail
  refine (H2.out _ HB.out).mono ?_
  rintro e w2 ⟨rfl, hb2⟩
  have HB2 := hid_intro (HB.out.trans (hb2.mono HB.out.size))
  clear hb2
  have H3 := hid_intro (HK.out w2 HB2.out (by trivial) (by trivial))
  go_wp2_with fail
  refine H3.out.mono ?_
  rintro e w3 ⟨v, rfl, ho, hb3⟩
  have HB3 := hid_intro (HB2.out.trans (hb3.mono HB2.out.size))
  have HO := hid_intro (own_low ho HB2.out.size)
  clear ho hb3
  cases o
  · have HC := hid_intro (HV.out rfl)
    simp only [ovE, Bool.false_eq_true, if_false]
    go_wp2_with fail
    go_ret
    rw [HT.out, Bool.and_self, cond_true, HC.out]
    exact resL_nil HB3.out _ _
  · simp only [ovE, if_true]
    go_wp2_with fail
    go_ret
    rw [HT.out, Bool.and_self, cond_true]
    exact resL_own HO.out HB3.out
set_option maxRecDepth 100000 in
set_option maxHeartbeats 4000000 in
theorem spec_less (ab aoff capa : Nat) (bo : Option Addr) (capb : Nat) (a b : List N) (w : World) (hla : a.length ≤ 1048576) (hlb : b.length ≤ 1048576) (hsa : ∀ e ∈ a, e.i.size ≤ 1048576) (hsb : ∀ e ∈ b, e.i.size ≤ 1048576) (hA : Lis (some ⟨ab, aoff, none⟩) a w) (hI : Lis bo b w) :
    Calls Try.prog 8 #[.slice (some ⟨ab, aoff, none⟩) a.length capa, .slice bo b.length capb] w fun e w' => ResL w (lessB a b) e w' := by
  have H1 := hid_intro (spec_lines (some ⟨ab, aoff, none⟩) capa a w hla hsa hA)
  have H2 := hid_intro (fun W (h : Below w.heap.size w W) => spec_lines bo capb b W hlb hsb (hI.below h))
  have HK := hid_intro (fun W (h : Below w.heap.size w W) (ra : sB a = true) (rb : sB b = true) => sless0 ab aoff capa a bo capb b W (sB_iff.1 ra) (sB_iff.1 rb) (hA.below h) (hI.below h))
  have HT : Hid (lessB a b = bif sB a && sB b then lessL a b else []) := rfl
  have HLA : Hid (400 < a.length → sB a = false) := hid_intro (fun h => sB_long (by omega))
  have HLB : Hid (400 < b.length → sB b = false) := hid_intro (fun h => sB_long (by omega))
  generalize lessL a b = C at *
  generalize lessB a b = T at *
  generalize sB a = ra at *
  generalize sB b = rb at *
  generalize a.length = al0 at *
  generalize b.length = bl0 at *
  clear hA hI hsa hsb
  have HBz := hid_intro (fun W (h : Below w.heap.size w W) => h.alloc h.size (.cells #[] 45))
  by_cases qa : 400 < al0
  · have qa2 : (400 : Int) < (al0 : Int) := by omega
    have HE := hid_intro (HLA.out qa)
    go_enter Try.func8, Try.ntmps8
    go_wp2_with fail
    go_ret
    rw [HT.out, HE.out]
    exact resL_nil (HBz.out _ (Below.refl _ _)) _ _
  have qa2 : ¬ (400 : Int) < (al0 : Int) := by omega
  by_cases qb : 400 < bl0
  · have qb2 : (400 : Int) < (bl0 : Int) := by omega
    have HE := hid_intro (HLB.out qb)
    go_enter Try.func8, Try.ntmps8
    go_wp2_with fail
    go_ret
    rw [HT.out, HE.out, Bool.and_false]
    exact resL_nil (HBz.out _ (Below.refl _ _)) _ _
  have qb2 : ¬ (400 : Int) < (bl0 : Int) := by omega
  cases ra
  · go_enter Try.func8, Try.ntmps8
    go_wp2_with fail
    refine H1.out.mono ?_
    rintro e w1 ⟨rfl, hb1⟩
    have HB := hid_intro hb1
    clear hb1
    go_wp2_with fail
    go_ret
    rw [HT.out]
    exact resL_nil (HBz.out _ HB.out) _ _
  cases rb
  · go_enter Try.func8, Try.ntmps8
    go_wp2_with fail
    refine H1.out.mono ?_
    rintro e w1 ⟨rfl, hb1⟩
    have HB := hid_intro hb1
    clear hb1
    go_wp2_with fail
    refine (H2.out _ HB.out).mono ?_
    rintro e w2 ⟨rfl, hb2⟩
    have HB2 := hid_intro (HB.out.trans (hb2.mono HB.out.size))
    clear hb2
    go_wp2_with fail
    go_ret
    rw [HT.out]
    exact resL_nil (HBz.out _ HB2.out) _ _
  go_enter Try.func8, Try.ntmps8
  go_wp2_with fail
  refine H1.out.mono ?_
  rintro e w1 ⟨rfl, hb1⟩
  have HB := hid_intro hb1
  clear hb1
  go_wp2_with fail
  refine (H2.out _ HB.out).mono ?_
  rintro e w2 ⟨rfl, hb2⟩
  have HB2 := hid_intro (HB.out.trans (hb2.mono HB.out.size))
  clear hb2
  have H3 := hid_intro (HK.out w2 HB2.out (by trivial) (by trivial))
  go_wp2_with fail
  refine H3.out.mono ?_
  rintro e w3 ⟨ao, cap, rfl, hm, hb3⟩
  have HB3 := hid_intro (HB2.out.trans (hb3.mono HB2.out.size))
  have HM := hid_intro (hm.low HB2.out.size)
  clear hm hb3
  generalize hcl : C.length = cl at *
  go_wp2_with fail
  go_ret
  rw [HT.out, Bool.and_self, cond_true]
  exact ⟨ao, cap, by rw [hcl]; rfl, HM.out, HB3.out⟩
end NetR
end Go.Proofs.Ytnhpkcacjkebnaa
