/-
  Drawn dates, days, years, months and texts of dates, off the bytes: some of each. The condition: the bytes are at most 1048576.
-/
import Derived.Test.YtfnkhohommahoaaDoorDrawDate
import Derived.Test.YtfnkhohommahoaaDoorDrawStr
import Derived.Test.YtfnkhohommahoaaDoorDateText
namespace Go.Proofs.YtfnkhohommahoaaDoor
open Go.ChangeShapes Go.WideShapes Go.ChangeAt Go.RowKit
set_option linter.unusedVariables false
namespace DrawR
open DateR (date)
theorem bel_own {w w1 w2 : World} (hb : Below w.heap.size w w1) (hg : w1.grownBy w2 (some w.heap.size)) : Below w.heap.size w w2 :=
  hb.grown hg hb.size (fun k e => by cases e; exact Nat.le_refl _)
theorem grown_of {w w' : World} (hb : Below w.heap.size w w') : w.grownBy w' none := ⟨hb.os, hb.tape, hb.output, hb.size, fun k hk _ => hb.block k hk⟩
theorem Src.below {ao : Option Addr} {len cap g : Nat} {w w' : World} (h : Src ao len cap g w) (hb : Below w.heap.size w w') : Src ao len cap g w' :=
  h.kept (grown_of hb) (fun k e => by cases e)
def dayEdges2 : List Int := [-1, 0, 100000, 100001, 84369, 84370]
theorem dayEdges2_at (j : Nat) (h : j < 6) : ∃ x : Int, (dayEdges2.map (Value.int .i64))[j]? = some (.int .i64 x) ∧ -1 ≤ x ∧ x ≤ 100001 := by
  match j, h with
  | 0, _ => exact ⟨_, rfl, by decide, by decide⟩
  | 1, _ => exact ⟨_, rfl, by decide, by decide⟩
  | 2, _ => exact ⟨_, rfl, by decide, by decide⟩
  | 3, _ => exact ⟨_, rfl, by decide, by decide⟩
  | 4, _ => exact ⟨_, rfl, by decide, by decide⟩
  | 5, _ => exact ⟨_, rfl, by decide, by decide⟩
theorem dayEdges2_cell (w : World) (T : TypeId) (j : Nat) (x : Int) (hx : (dayEdges2.map (Value.int .i64))[j]? = some (.int .i64 x)) : (w.alloc (.cells (dayEdges2.map (Value.int .i64)).toArray T)).cell? ⟨w.heap.size, j, none⟩ = some (.int .i64 x) := by
  rw [World.cell?_alloc_at _ _ _ _ rfl]
  simpa using hx
def leapEdges : List Int := [1900, 2000, 2100, -4, 0, -1]
theorem leapEdges_at (j : Nat) (h : j < 6) : ∃ x : Int, (leapEdges.map (Value.int .i64))[j]? = some (.int .i64 x) ∧ -4 ≤ x ∧ x ≤ 2100 := by
  match j, h with
  | 0, _ => exact ⟨_, rfl, by decide, by decide⟩
  | 1, _ => exact ⟨_, rfl, by decide, by decide⟩
  | 2, _ => exact ⟨_, rfl, by decide, by decide⟩
  | 3, _ => exact ⟨_, rfl, by decide, by decide⟩
  | 4, _ => exact ⟨_, rfl, by decide, by decide⟩
  | 5, _ => exact ⟨_, rfl, by decide, by decide⟩
theorem leapEdges_cell (w : World) (T : TypeId) (j : Nat) (x : Int) (hx : (leapEdges.map (Value.int .i64))[j]? = some (.int .i64 x)) : (w.alloc (.cells (leapEdges.map (Value.int .i64)).toArray T)).cell? ⟨w.heap.size, j, none⟩ = some (.int .i64 x) := by
  rw [World.cell?_alloc_at _ _ _ _ rfl]
  simpa using hx
def DayOut2 (ao : Option Addr) (len cap g : Nat) (w : World) (e : Ending) (w' : World) : Prop := (∃ v : Int, e = .returned (.int .i64 v) ∧ -1 ≤ v ∧ v ≤ 100001) ∧ Src ao len cap g w' ∧ w.grownBy w' (some g)
set_option maxRecDepth 100000 in
set_option maxHeartbeats 4000000 in
theorem day2_any (ao : Option Addr) (len cap g : Nat) (w : World) (hS : Src ao len cap g w) :
    Calls Tryd.prog 50 #[.pointer (some ⟨g, 0, none⟩)] w fun e w' => DayOut2 ao len cap g w e w' := by
  have HS := hid_intro hS
  have hgl := hS.lt
  clear hS
  go_enter Tryd.func50, Tryd.ntmps50
  go_wp2_with fail
  refine (one_any ao len cap g 8 _ (by omega) HS.out).mono ?_
  rintro e w1 ⟨⟨q, rfl⟩, hS1, hg1⟩
  have HS1 := hid_intro hS1
  have HG1 := hid_intro hg1
  have hgl1 := hS1.lt
  clear hS1 hg1 HS
  cases q
  · go_wp2_with fail
    refine (n_any ao len cap g 400 _ (by omega) HS1.out).mono ?_
    rintro e w2 ⟨x, rfl, hx0, hx1, hx2, hS2, hg2⟩
    have hx3 : x < 400 := hx2 (by omega)
    have HS2 := hid_intro hS2
    have HG2 := hid_intro (Lib.grownBy_trans HG1.out hg2)
    clear hx1 hx2 hS2 hg2
    go_wp2
    go_ret
    exact ⟨⟨20000 + x, rfl, by omega, by omega⟩, HS2.out, HG2.out⟩
  · go_wp2_with fail
    refine (n_any ao len cap g 6 _ (by omega) (HS1.out.alloc _)).mono ?_
    rintro e w2 ⟨v, rfl, hv0, hv1, hv2, hS2, hg2⟩
    have hv3 : v < 6 := hv2 (by omega)
    obtain ⟨j, rfl⟩ : ∃ j : Nat, v = j := ⟨v.toNat, by omega⟩
    obtain ⟨x, hx, hx1, hx2⟩ := dayEdges2_at j (by omega)
    have hcell : w2.cell? ⟨w1.heap.size, j, none⟩ = some (.int .i64 x) := hg2.cell (a := ⟨w1.heap.size, j, none⟩) (dayEdges2_cell w1 2 j x hx) (by simp; omega)
    have HS2 := hid_intro hS2
    have HG2 := hid_intro (Lib.grownBy_trans HG1.out (Lib.grownBy_trans (World.grownBy_alloc w1 _ _) hg2))
    have HX : Hid (-1 ≤ x ∧ x ≤ 100001) := hid_intro ⟨hx1, hx2⟩
    have hj : (j : Int) < 6 := by omega
    have hj0 : (0 : Int) ≤ j := by omega
    clear hv0 hv1 hv2 hv3 hS2 hg2 hx hx1 hx2
    go_wp2
    go_ret
    exact ⟨⟨x, rfl, HX.out⟩, HS2.out, HG2.out⟩
theorem strs_new (w : World) (T : TypeId) (K : Nat) (l : List ByteArray) (h : (l.all fun s => decide (s.size ≤ K)) = true) : Strs w.heap.size l.length K (w.alloc (.cells (l.map Value.string).toArray T)) := by
  refine ⟨by simp, fun j hj => ⟨l[j], ?_, ?_⟩⟩
  · rw [World.cell?_alloc_at _ _ _ _ rfl]
    simp [List.getElem?_eq_getElem hj]
  · exact of_decide_eq_true (List.all_eq_true.1 h _ (List.getElem_mem hj))
def DateD (w : World) (e : Ending) (w' : World) : Prop := (∃ Y M D : Int, e = .returned (date Y M D)) ∧ Below w.heap.size w w'
theorem ddate_any (ao : Option Addr) (len cap : Nat) (w : World) (hlen : len ≤ 1048576) (hB : Bytes ao len w) :
    Calls Tryd.prog 6 #[.slice ao len cap] w fun e w' => DateD w e w' := by
  obtain ⟨W, hW⟩ : ∃ W, W = w.alloc (.cells #[.int .i64 0, .int .i64 0, .int .i64 0] 24) := ⟨_, rfl⟩
  have hb0 : Below w.heap.size w W := by rw [hW]; exact (Below.refl _ _).alloc (Nat.le_refl _) _
  have hR : DB w.heap.size 0 0 0 W := by rw [hW]; exact DB.new w _ 0 0 0
  have h1 := hid_intro (source_any ao len cap W hlen (hB.below hb0))
  have HR := hid_intro hR
  have HW := hid_intro hW
  have HB0 := hid_intro hb0
  clear hB hR hW hb0
  go_enter Tryd.func6, Tryd.ntmps6
  go_wp2_with fail
  rw [← HW.out]
  refine h1.out.mono ?_
  rintro e w1 ⟨rfl, hS1, hb1⟩
  have HS1 := hid_intro hS1
  have HB1 := hid_intro hb1
  clear hS1 hb1 h1
  go_wp2_with fail
  refine (date_any ao len cap W.heap.size _ HS1.out).mono ?_
  rintro e w2 ⟨⟨Y, M, D, rfl⟩, hS2, hg2⟩
  have HB2 := hid_intro (bel_own HB1.out hg2)
  obtain ⟨rl, r0, r1, r2, s0, s1, s2⟩ := HR.out.grown (grown_of HB2.out) (by simp)
  have HB3 := hid_intro (HB0.out.trans (HB2.out.mono HB0.out.size))
  clear hS2 hg2
  unfold date
  go_wp2_with fail
  refine bodyPost_ret (v := date Y M D) (by simp [date, results, Tryd.results6, go_sem, r0, r1, r2]) rfl ⟨⟨Y, M, D, rfl⟩, ?_⟩
  exact ((HB3.out.setCell (Nat.le_refl _) _).setCell (Nat.le_refl _) _).setCell (Nat.le_refl _) _
def DayD (w : World) (e : Ending) (w' : World) : Prop := (∃ v : Int, e = .returned (.int .i64 v) ∧ -1 ≤ v ∧ v ≤ 100001) ∧ Below w.heap.size w w'
set_option maxRecDepth 100000 in
set_option maxHeartbeats 4000000 in
theorem dday_any (ao : Option Addr) (len cap : Nat) (w : World) (hlen : len ≤ 1048576) (hB : Bytes ao len w) :
    Calls Tryd.prog 10 #[.slice ao len cap] w fun e w' => DayD w e w' := by
  have h1 := source_any ao len cap w hlen hB
  clear hB
  go_enter Tryd.func10, Tryd.ntmps10
  go_wp2_with fail
  refine h1.mono ?_
  rintro e w1 ⟨rfl, hS1, hb1⟩
  have HS1 := hid_intro hS1
  have HB1 := hid_intro hb1
  clear hS1 hb1 h1
  go_wp2_with fail
  refine (one_any ao len cap w.heap.size 2 _ (by omega) HS1.out).mono ?_
  rintro e w2 ⟨⟨q, rfl⟩, hS2, hg2⟩
  have HS2 := hid_intro hS2
  have HB2 := hid_intro (bel_own HB1.out hg2)
  clear hS2 hg2 HS1
  cases q
  · go_wp2_with fail
    refine (day2_any ao len cap w.heap.size _ HS2.out).mono ?_
    rintro e w3 ⟨⟨v, rfl, v1, v2⟩, hS, hg⟩
    have HB3 := hid_intro (bel_own HB2.out hg)
    clear hS hg
    go_wp2
    go_ret
    exact ⟨⟨v, rfl, v1, v2⟩, HB3.out⟩
  · go_wp2_with fail
    refine (n_any ao len cap w.heap.size 100000 _ (by omega) HS2.out).mono ?_
    rintro e w3 ⟨x, rfl, hx0, hx1, hx2, hS, hg⟩
    have hx3 : x < 100000 := hx2 (by omega)
    have HB3 := hid_intro (bel_own HB2.out hg)
    clear hx1 hx2 hS hg
    go_wp2
    go_ret
    exact ⟨⟨x, rfl, by omega, by omega⟩, HB3.out⟩
def LeapD (w : World) (e : Ending) (w' : World) : Prop := (∃ v : Int, e = .returned (.int .i64 v)) ∧ Below w.heap.size w w'
set_option maxRecDepth 100000 in
set_option maxHeartbeats 4000000 in
theorem dleap_any (ao : Option Addr) (len cap : Nat) (w : World) (hlen : len ≤ 1048576) (hB : Bytes ao len w) :
    Calls Tryd.prog 12 #[.slice ao len cap] w fun e w' => LeapD w e w' := by
  have h1 := source_any ao len cap w hlen hB
  clear hB
  go_enter Tryd.func12, Tryd.ntmps12
  go_wp2_with fail
  refine h1.mono ?_
  rintro e w1 ⟨rfl, hS1, hb1⟩
  have HS1 := hid_intro hS1
  have HB1 := hid_intro hb1
  clear hS1 hb1 h1
  go_wp2_with fail
  refine (one_any ao len cap w.heap.size 4 _ (by omega) HS1.out).mono ?_
  rintro e w2 ⟨⟨q, rfl⟩, hS2, hg2⟩
  have HS2 := hid_intro hS2
  have HB2 := hid_intro (bel_own HB1.out hg2)
  have hgl2 := hS2.lt
  clear hS2 hg2 HS1
  cases q
  · go_wp2_with fail
    refine (n_any ao len cap w.heap.size 50 _ (by omega) HS2.out).mono ?_
    rintro e w3 ⟨x, rfl, hx0, hx1, hx2, hS3, hg3⟩
    have hx3 : x < 50 := hx2 (by omega)
    have HB3 := hid_intro (bel_own HB2.out hg3)
    clear hx1 hx2 hS3 hg3
    go_wp2
    go_ret
    exact ⟨⟨_, rfl⟩, HB3.out⟩
  · go_wp2_with fail
    refine (n_any ao len cap w.heap.size 6 _ (by omega) (HS2.out.alloc _)).mono ?_
    rintro e w3 ⟨v, rfl, hv0, hv1, hv2, hS3, hg3⟩
    have hv3 : v < 6 := hv2 (by omega)
    obtain ⟨j, rfl⟩ : ∃ j : Nat, v = j := ⟨v.toNat, by omega⟩
    obtain ⟨x, hx, hx1, hx2⟩ := leapEdges_at j (by omega)
    have hcell : w3.cell? ⟨w2.heap.size, j, none⟩ = some (.int .i64 x) := hg3.cell (a := ⟨w2.heap.size, j, none⟩) (leapEdges_cell w2 2 j x hx) (by simp; omega)
    have HB3 := hid_intro (bel_own (HB2.out.alloc HB2.out.size _) hg3)
    have hj : (j : Int) < 6 := by omega
    have hj0 : (0 : Int) ≤ j := by omega
    clear hv0 hv1 hv2 hv3 hS3 hg3 hx hx1 hx2
    go_wp2
    go_ret
    exact ⟨⟨x, rfl⟩, HB3.out⟩
def MDaysD (w : World) (e : Ending) (w' : World) : Prop := (∃ y m : Int, e = .returned (.tuple #[.int .i64 y, .int .i64 m])) ∧ Below w.heap.size w w'
set_option maxRecDepth 100000 in
set_option maxHeartbeats 4000000 in
theorem dmdays_any (ao : Option Addr) (len cap : Nat) (w : World) (hlen : len ≤ 1048576) (hB : Bytes ao len w) :
    Calls Tryd.prog 11 #[.slice ao len cap] w fun e w' => MDaysD w e w' := by
  have h1 := source_any ao len cap w hlen hB
  clear hB
  go_enter Tryd.func11, Tryd.ntmps11
  go_wp2_with fail
  refine h1.mono ?_
  rintro e w1 ⟨rfl, hS1, hb1⟩
  have HS1 := hid_intro hS1
  have HB1 := hid_intro hb1
  clear hS1 hb1 h1
  go_wp2_with fail
  refine (n_any ao len cap w.heap.size 240 _ (by omega) HS1.out).mono ?_
  rintro e w2 ⟨x, rfl, hx0, hx1, hx2, hS2, hg2⟩
  have hx3 : x < 240 := hx2 (by omega)
  have HS2 := hid_intro hS2
  have HB2 := hid_intro (bel_own HB1.out hg2)
  clear hx1 hx2 hS2 hg2
  go_wp2_with fail
  refine (n_any ao len cap w.heap.size 14 _ (by omega) HS2.out).mono ?_
  rintro e w3 ⟨z, rfl, hz0, hz1, hz2, hS3, hg3⟩
  have hz3 : z < 14 := hz2 (by omega)
  have HB3 := hid_intro (bel_own HB2.out hg3)
  clear hz1 hz2 hS3 hg3
  go_wp2
  go_ret2
  exact ⟨⟨_, _, rfl⟩, HB3.out⟩
/-- A drawn text of a date. -/
def TextD (K : Nat) (w : World) (e : Ending) (w' : World) : Prop := (∃ T : ByteArray, e = .returned (.string T) ∧ T.size ≤ K) ∧ Below w.heap.size w w'
set_option maxRecDepth 100000 in
set_option maxHeartbeats 4000000 in
theorem dread_any (ao : Option Addr) (len cap : Nat) (w : World) (hlen : len ≤ 1048576) (hB : Bytes ao len w) :
    Calls Tryd.prog 9 #[.slice ao len cap] w fun e w' => TextD 11 w e w' := by
  have h1 := source_any ao len cap w hlen hB
  clear hB
  go_enter Tryd.func9, Tryd.ntmps9
  go_wp2_with fail
  refine h1.mono ?_
  rintro e w1 ⟨rfl, hS1, hb1⟩
  have HS1 := hid_intro hS1
  have HB1 := hid_intro hb1
  clear hS1 hb1 h1
  go_wp2_with fail
  refine (date_any ao len cap w.heap.size _ HS1.out).mono ?_
  rintro e w2 ⟨⟨Y, M, D, rfl⟩, hS2, hg2⟩
  have HS2 := hid_intro hS2
  have HB2 := hid_intro (bel_own HB1.out hg2)
  obtain ⟨T, ht1, ht2, _, hT⟩ := DateR.text_both Y M D
  have hTs : T.size ≤ 10 := by
    cases hr : DateM.rightB Y M D
    · rw [ht2 hr]; decide
    · obtain ⟨y', m', d', _, _, _, h⟩ := ht1 hr
      rw [h]
      unfold DateR.dateT
      simp only [ByteArray.size_append, DecR.digT_size]
      exact Nat.le_refl 10
  have HT := hid_intro hT
  clear hS2 hg2 HS1 ht1 ht2 hT
  unfold date at HT ⊢
  go_wp2_with fail
  refine (HT.out _).mono ?_
  rintro e w3 ⟨rfl, hb3⟩
  have HS3 := hid_intro (HS2.out.below hb3)
  have HB3 := hid_intro (HB2.out.trans (hb3.mono HB2.out.size))
  clear hb3 HS2 HB2
  go_wp2_with fail
  refine (n_any ao len cap w.heap.size 4 _ (by omega) HS3.out).mono ?_
  rintro e w4 ⟨x, rfl, hx0, hx1, hx2, hS4, hg4⟩
  have hx3 : x < 4 := hx2 (by omega)
  have HS4 := hid_intro hS4
  have HB4 := hid_intro (bel_own HB3.out hg4)
  have hgl4 := hS4.lt
  clear hx1 hx2 hS4 hg4 HS3 HB3
  rcases (show x = 0 ∨ x = 1 ∨ (x ≠ 0 ∧ x ≠ 1) by omega) with rfl | rfl | ⟨n0, n1⟩
  · go_wp2_with fail
    refine (spoil_any ao len cap w.heap.size T _ (by omega) HS4.out).mono ?_
    rintro e w5 ⟨⟨U, rfl, hU⟩, hS, hg⟩
    have HB5 := hid_intro (bel_own HB4.out hg)
    have HU := hid_intro hU
    clear hS hg hU
    go_wp2
    go_ret
    exact ⟨⟨U, rfl, by have := HU.out; omega⟩, HB5.out⟩
  · go_wp2_with fail
    refine (pick_any ao len cap w.heap.size w4.heap.size 7 11 _ (by omega) (by omega) (by omega) (HS4.out.alloc _) (strs_new w4 9 11 [⟨#[]⟩, ⟨#[50, 48, 48, 49, 45, 48, 50, 45, 50, 57]⟩, ⟨#[50, 48, 48, 48, 45, 48, 50, 45, 50, 57]⟩, ⟨#[49, 57, 57, 57, 45, 49, 45, 48, 49]⟩, ⟨#[50, 50, 48, 49, 45, 48, 49, 45, 48, 49]⟩, ⟨#[50, 48, 48, 48, 47, 48, 50, 47, 48, 51]⟩, ⟨#[50, 48, 48, 48, 45, 48, 48, 45, 49, 48]⟩] (by decide))).mono ?_
    rintro e w5 ⟨⟨U, rfl, hU⟩, hS, hg⟩
    have HB5 := hid_intro (bel_own (HB4.out.alloc HB4.out.size _) hg)
    have HU := hid_intro hU
    clear hS hg hU
    go_wp2
    go_ret
    exact ⟨⟨U, rfl, HU.out⟩, HB5.out⟩
  · go_wp2
    go_ret
    exact ⟨⟨T, rfl, by omega⟩, HB4.out⟩
end DrawR
end Go.Proofs.YtfnkhohommahoaaDoor
