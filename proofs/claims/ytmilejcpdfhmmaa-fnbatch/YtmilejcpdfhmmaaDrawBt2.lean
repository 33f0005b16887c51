/-
  What FnBatch draws: a list of events, a text, an event. The condition: the bytes are at most 1048576.
-/
import Derived.Test.YtmilejcpdfhmmaaDrawBat
import Derived.Test.YtmilejcpdfhmmaaBat
namespace Go.Proofs.Ytmilejcpdfhmmaa
open Go.ChangeShapes Go.WideShapes Go.ChangeAt Go.RowKit
set_option linter.unusedVariables false
namespace DrawR
open EvtR (ev E)
theorem below_own {w w1 w2 : World} (hb : Below w.heap.size w w1) (hg : w1.grownBy w2 (some w.heap.size)) : Below w.heap.size w w2 :=
  hb.grown hg hb.size (fun k e => by cases e; exact Nat.le_refl _)
/-- A list of events that was drawn, as it stands. -/
def DBOut (w : World) (e : Ending) (w' : World) : Prop := (∃ (po : Option Addr) (pc : Nat) (l : List E), e = .returned (.slice po l.length pc) ∧ l.length ≤ 30 ∧ (∀ x ∈ l, x.Small) ∧ EvtR.Evs po l.length l w') ∧ Below w.heap.size w w'
set_option maxHeartbeats 4000000 in
theorem dbytes_any (ao : Option Addr) (len cap : Nat) (w : World) (hlen : len ≤ 1048576) (hB : Bytes ao len w) :
    Calls Try.prog 6 #[.slice ao len cap] w fun e w' => DBOut w e w' := by
  have h1 := hid_intro (source_any ao len cap w hlen hB)
  clear hB
  go_enter Try.func6, Try.ntmps6
  go_wp2_with fail
  refine h1.out.mono ?_
  rintro e w1 ⟨rfl, hS1, hb1⟩
  have HS1 := hid_intro hS1
  have HB1 := hid_intro hb1
  clear hS1 hb1
  go_wp2_with fail
  refine (batch_any ao len cap w.heap.size _ HS1.out).mono ?_
  rintro e w2 ⟨⟨v, l, rfl, hl, hs, hown⟩, hS2, hg2⟩
  have HB2 := hid_intro (below_own HB1.out hg2)
  obtain ⟨po, pc, rfl, hM⟩ := EvtR.own_made hown
  have HM := hid_intro hM.evs
  have HSm := hid_intro hs
  have HL := hid_intro hl
  clear hS2 hg2 hown hM hs hl
  go_wp2_with fail
  go_ret
  exact ⟨⟨po, pc, l, rfl, HL.out, HSm.out, HM.out⟩, HB2.out⟩
/-- A text that was drawn. -/
def DTOut (w : World) (e : Ending) (w' : World) : Prop := (∃ t : ByteArray, e = .returned (.string t) ∧ t.size ≤ 1048576) ∧ Below w.heap.size w w'
theorem batT_size (l : List E) : (EvtR.batT l).size ≤ 5000 := by
  unfold EvtR.batT
  by_cases h : l.length ≤ 20 ∧ l.all E.ok = true
  · rw [if_pos h]
    have key : ∀ (l : List E) (t : ByteArray), (l.all E.ok = true) → (EvtR.catT t l).size ≤ t.size + 240 * l.length := by
      intro l
      induction l with
      | nil => intro t _; simp [EvtR.catT]
      | cons x l ih =>
        intro t ha
        simp only [List.all_cons, Bool.and_eq_true] at ha
        have h1 := ih (t ++ x.b) ha.2
        have h2 := EvtR.E.b_size x ha.1
        rw [ByteArray.size_append] at h1
        have e : EvtR.catT t (x :: l) = EvtR.catT (t ++ x.b) l := rfl
        rw [e, List.length_cons]
        omega
    have h1 := key l (NumR.numB l.length) h.2
    have h2 := NumR.numB_size (n := (l.length : Int)) (by omega)
    omega
  · rw [if_neg h]
    exact Nat.zero_le _
set_option maxRecDepth 100000 in
set_option maxHeartbeats 4000000 in
theorem dread_any (ao : Option Addr) (len cap : Nat) (w : World) (hlen : len ≤ 1048576) (hB : Bytes ao len w) :
    Calls Try.prog 8 #[.slice ao len cap] w fun e w' => DTOut w e w' := by
  have h1 := hid_intro (source_any ao len cap w hlen hB)
  clear hB
  go_enter Try.func8, Try.ntmps8
  go_wp2_with fail
  refine h1.out.mono ?_
  rintro e w1 ⟨rfl, hS1, hb1⟩
  have HS1 := hid_intro hS1
  have HB1 := hid_intro hb1
  clear hS1 hb1
  go_wp2_with fail
  refine (batch_any ao len cap w.heap.size _ HS1.out).mono ?_
  rintro e w2 ⟨⟨v, l, rfl, hl, hs, hown⟩, hS2, hg2⟩
  have HB2 := hid_intro (below_own HB1.out hg2)
  have HS2 := hid_intro hS2
  obtain ⟨po, pc, rfl, hM⟩ := EvtR.own_made hown
  have HT := hid_intro (EvtR.spec_batch po l.length pc l w2 (by omega) hs hM.evs)
  have hz := batT_size l
  generalize EvtR.batT l = T at *
  clear hS2 hg2 hown hM hs hl
  go_wp2_with fail
  refine HT.out.mono ?_
  rintro e w3 ⟨rfl, hb3⟩
  have HB3 := hid_intro (HB2.out.trans (hb3.mono HB2.out.size))
  have HS3 := hid_intro (HS2.out.kept (EvtR.rgrown hb3 none) (fun k e => by cases e))
  clear hb3 HT
  go_wp2_with fail
  refine (n_any ao len cap w.heap.size 4 _ (by omega) HS3.out).mono ?_
  rintro e w4 ⟨v4, rfl, lo4, _, hi4, hS, hg⟩
  have ht4 : v4 < 4 := hi4 (by omega)
  have HS4 := hid_intro hS
  have HB4 := hid_intro (below_own HB3.out hg)
  clear hS hg hi4
  rcases (show v4 = 0 ∨ v4 = 1 ∨ (¬ v4 = 0 ∧ ¬ v4 = 1) by omega) with rfl | rfl | ⟨n0, n1⟩
  · go_wp2_with fail
    refine (spoil_any ao len cap w.heap.size T _ (by omega) HS4.out).mono ?_
    rintro e w5 ⟨⟨t5, rfl, ht5⟩, hS, hg⟩
    have HB5 := hid_intro (below_own HB4.out hg)
    have H5 := hid_intro ht5
    clear hS hg ht5
    go_wp2_with fail
    go_ret
    exact ⟨⟨t5, rfl, by have := H5.out; omega⟩, HB5.out⟩
  · go_wp2_with fail
    refine (n_any ao len cap w.heap.size ((T.size : Int) + 1) _ (by omega) HS4.out).mono ?_
    rintro e w5 ⟨v5, rfl, lo5, h51, hi5, hS, hg⟩
    have v3 : v5 ≤ T.size := by
      by_cases h : 1 < (T.size : Int) + 1
      · have := hi5 h; omega
      · have := h51 (by omega); omega
    obtain ⟨k, rfl⟩ : ∃ k : Nat, v5 = k := ⟨v5.toNat, by omega⟩
    have hk : k ≤ T.size := by omega
    have HB5 := hid_intro (below_own HB4.out hg)
    clear hS hg h51 hi5
    go_wp2_with fail
    go_ret
    exact ⟨⟨_, rfl, by rw [ByteArray.size_extract]; omega⟩, HB5.out⟩
  · go_wp2_with fail
    go_ret
    exact ⟨⟨T, rfl, by omega⟩, HB4.out⟩
/-- An event that was drawn, as a value. -/
def DEOut (w : World) (e : Ending) (w' : World) : Prop := (∃ (i a m : ByteArray) (n k : Int) (t : ByteArray), e = .returned (ev i a m n k t) ∧ i.size ≤ 100 ∧ a.size ≤ 100 ∧ m.size ≤ 100 ∧ t.size ≤ 100) ∧ Below w.heap.size w w'
set_option maxHeartbeats 4000000 in
theorem devent_any (ao : Option Addr) (len cap : Nat) (w : World) (hlen : len ≤ 1048576) (hB : Bytes ao len w) :
    Calls Try.prog 10 #[.slice ao len cap] w fun e w' => DEOut w e w' := by
  obtain ⟨W, hW⟩ : ∃ W, W = w.alloc (.cells #[.string ⟨#[]⟩, .string ⟨#[]⟩, .string ⟨#[]⟩, .int .i64 0, .int .i64 0, .string ⟨#[]⟩] 31) := ⟨_, rfl⟩
  have HW := hid_intro hW
  have HB0 : Hid (Below w.heap.size w W) := hid_intro (by rw [hW]; exact (Below.refl _ _).alloc (Nat.le_refl _) _)
  have HZ0 : Hid (EvtR.Z6 w.heap.size W) := hid_intro (by rw [hW]; exact EvtR.Z6.new w 31)
  have hWs : W.heap.size = w.heap.size + 1 := by rw [hW]; simp
  have h1 := hid_intro (source_any ao len cap W hlen (hB.below HB0.out))
  have HWs := hid_intro hWs
  clear hW hB hWs
  go_enter Try.func10, Try.ntmps10
  go_wp2_with fail
  rw [← HW.out]
  refine h1.out.mono ?_
  rintro e w1 ⟨rfl, hS1, hb1⟩
  have HS1 := hid_intro hS1
  have HB1 := hid_intro (HB0.out.trans (hb1.mono HB0.out.size))
  have HZ1 := hid_intro (HZ0.out.grown (EvtR.rgrown hb1 none) (by simp))
  clear hS1 hb1 h1
  go_wp2_with fail
  refine (event_any ao len cap W.heap.size _ HS1.out).mono ?_
  rintro e w2 ⟨⟨xi, xa, xm, xn, xk, xt, rfl, s1, s2, s3, s4⟩, hS2, hg2⟩
  have HB2 : Hid (Below w.heap.size w w2) := hid_intro (HB1.out.grown hg2 HB1.out.size (fun k e => by cases e; have := HWs.out; omega))
  obtain ⟨bz, zz⟩ := HZ1.out.grown hg2 (by have := HWs.out; simp; omega)
  have HX := hid_intro (show xi.size ≤ 100 ∧ xa.size ≤ 100 ∧ xm.size ≤ 100 ∧ xt.size ≤ 100 from ⟨s1, s2, s3, s4⟩)
  have z0 : w2.cell? ⟨w.heap.size, 0, none⟩ = some (.string ⟨#[]⟩) := (zz 0 (by omega)).1
  have z1 : w2.cell? ⟨w.heap.size, 1, none⟩ = some (.string ⟨#[]⟩) := (zz 1 (by omega)).1
  have z2 : w2.cell? ⟨w.heap.size, 2, none⟩ = some (.string ⟨#[]⟩) := (zz 2 (by omega)).1
  have z3 : w2.cell? ⟨w.heap.size, 3, none⟩ = some (.int .i64 0) := (zz 3 (by omega)).1
  have z4 : w2.cell? ⟨w.heap.size, 4, none⟩ = some (.int .i64 0) := (zz 4 (by omega)).1
  have z5 : w2.cell? ⟨w.heap.size, 5, none⟩ = some (.string ⟨#[]⟩) := (zz 5 (by omega)).1
  have y0 := (zz 0 (by omega)).2
  have y1 := (zz 1 (by omega)).2
  have y2 := (zz 2 (by omega)).2
  have y3 := (zz 3 (by omega)).2
  have y4 := (zz 4 (by omega)).2
  have y5 := (zz 5 (by omega)).2
  clear zz hS2 hg2 s1 s2 s3 s4
  unfold ev
  go_wp2_with fail
  refine bodyPost_ret (v := ev xi xa xm xn xk xt) (by simp [ev, results, Try.results10, go_sem, z0, z1, z2, z3, z4, z5]) rfl ⟨⟨xi, xa, xm, xn, xk, xt, rfl, HX.out⟩, ?_⟩
  exact (((((HB2.out.setCell (Nat.le_refl _) _).setCell (Nat.le_refl _) _).setCell (Nat.le_refl _) _).setCell (Nat.le_refl _) _).setCell (Nat.le_refl _) _).setCell (Nat.le_refl _) _
end DrawR
end Go.Proofs.Ytmilejcpdfhmmaa
