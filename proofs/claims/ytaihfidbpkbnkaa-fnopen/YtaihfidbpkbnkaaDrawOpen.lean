/-
  Drawn days and lists of free days: the list is a row of numbers; drawing writes the source's own block alone. The condition: the bytes are at most 1048576.
-/
import Derived.Test.YtaihfidbpkbnkaaDraw2
import Derived.Test.YtaihfidbpkbnkaaInts
namespace Go.Proofs.Ytaihfidbpkbnkaa
open Go.ChangeShapes Go.WideShapes Go.ChangeAt Go.RowKit
set_option linter.unusedVariables false
namespace DrawR
theorem grown_trans {w w1 w2 : World} {g : Nat} (h1 : w.grownBy w1 (some g)) (h2 : w1.grownBy w2 (some g)) : w.grownBy w2 (some g) := Lib.grownBy_trans h1 h2
def dayEdges : List Int := [-1, 0, 100000, 100001, 84369, 84370]
theorem dayEdges_at (j : Nat) (h : j < 6) : ∃ x : Int, (dayEdges.map (Value.int .i64))[j]? = some (.int .i64 x) ∧ -1 ≤ x ∧ x ≤ 100001 := by
  match j, h with
  | 0, _ => exact ⟨_, rfl, by decide, by decide⟩
  | 1, _ => exact ⟨_, rfl, by decide, by decide⟩
  | 2, _ => exact ⟨_, rfl, by decide, by decide⟩
  | 3, _ => exact ⟨_, rfl, by decide, by decide⟩
  | 4, _ => exact ⟨_, rfl, by decide, by decide⟩
  | 5, _ => exact ⟨_, rfl, by decide, by decide⟩
theorem dayEdge_cell (w : World) (T : TypeId) (j : Nat) (x : Int) (hx : (dayEdges.map (Value.int .i64))[j]? = some (.int .i64 x)) : (w.alloc (.cells (dayEdges.map (Value.int .i64)).toArray T)).cell? ⟨w.heap.size, j, none⟩ = some (.int .i64 x) := by
  rw [World.cell?_alloc_at _ _ _ _ rfl]
  simpa using hx
def DayOut (ao : Option Addr) (len cap g : Nat) (w : World) (e : Ending) (w' : World) : Prop := (∃ v : Int, e = .returned (.int .i64 v) ∧ -1 ≤ v ∧ v ≤ 100001) ∧ Src ao len cap g w' ∧ w.grownBy w' (some g)
set_option maxRecDepth 100000 in
set_option maxHeartbeats 4000000 in
theorem day_any (ao : Option Addr) (len cap g : Nat) (w : World) (hS : Src ao len cap g w) :
    Calls Try.prog 19 #[.pointer (some ⟨g, 0, none⟩)] w fun e w' => DayOut ao len cap g w e w' := by
  have HS := hid_intro hS
  have hgl := hS.lt
  clear hS
  go_enter Try.func19, Try.ntmps19
  go_wp2_with fail
  refine (one_any ao len cap g 8 _ (by omega) HS.out).mono ?_
  rintro e w1 ⟨⟨q, rfl⟩, hS1, hg1⟩
  have HS1 := hid_intro hS1
  have HG1 := hid_intro hg1
  have hgl1 := hS1.lt
  clear hS1 hg1 HS
  cases q
  · go_wp2_with fail
    refine (n_any ao len cap g 400 _ (by omega) HS1.out).mono ?_
    rintro e w2 ⟨x, rfl, hx0, hx1, hx2, hS2, hg2⟩
    have hx3 : x < 400 := hx2 (by omega)
    have HS2 := hid_intro hS2
    have HG2 := hid_intro (grown_trans HG1.out hg2)
    clear hx1 hx2 hS2 hg2
    go_wp2
    go_ret
    exact ⟨⟨20000 + x, rfl, by omega, by omega⟩, HS2.out, HG2.out⟩
  · go_wp2_with fail
    refine (n_any ao len cap g 6 _ (by omega) (HS1.out.alloc _)).mono ?_
    rintro e w2 ⟨v, rfl, hv0, hv1, hv2, hS2, hg2⟩
    have hv3 : v < 6 := hv2 (by omega)
    obtain ⟨j, rfl⟩ : ∃ j : Nat, v = j := ⟨v.toNat, by omega⟩
    obtain ⟨x, hx, hx1, hx2⟩ := dayEdges_at j (by omega)
    have hcell : w2.cell? ⟨w1.heap.size, j, none⟩ = some (.int .i64 x) := hg2.cell (a := ⟨w1.heap.size, j, none⟩) (dayEdge_cell w1 2 j x hx) (by simp; omega)
    have HS2 := hid_intro hS2
    have HG2 := hid_intro (grown_trans HG1.out (Lib.grownBy_trans (World.grownBy_alloc w1 _ _) hg2))
    have HX : Hid (-1 ≤ x ∧ x ≤ 100001) := hid_intro ⟨hx1, hx2⟩
    have hj : (j : Int) < 6 := by omega
    have hj0 : (0 : Int) ≤ j := by omega
    clear hv0 hv1 hv2 hv3 hS2 hg2 hx hx1 hx2
    go_wp2
    go_ret
    exact ⟨⟨x, rfl, HX.out⟩, HS2.out, HG2.out⟩
theorem infoI : (Try.prog.info? 2).map (fun i => (i.zero, i.size, i.bytes)) = some (some (.int .i64 0), 1, 8) := by kernel_rfl
theorem own_ints {w : World} {base n : Nat} {v : Value} {xs : List Int} (h : w.ownsRow base 2 1 v n (xs.map (Value.int .i64))) (hne : v ≠ .slice none 0 0) :
    ∃ g cap, v = .slice (some ⟨g, 0, none⟩) n cap ∧ DateR.Ints (some ⟨g, 0, none⟩) n xs w := by
  have hl := h.1
  have hlen : xs.length = n := by simpa using hl
  rcases h.2 with ⟨h0, _⟩ | ⟨g, cap, cur, hv, _⟩
  · exact absurd h0 hne
  · refine ⟨g, cap, hv, hlen, .inr ⟨g, 0, rfl, ?_, fun i hi => ?_⟩⟩
    · exact (h.lt g (by rw [hv]; rfl)).2
    · have := h.cells (g := g) (by rw [hv]; rfl) i (.int .i64 (xs.getD i 0)) (by simp [List.getElem?_map, List.getD, List.getElem?_eq_getElem (show i < xs.length by omega)])
      rw [Nat.zero_add, ← this]
      congr 1
      unfold Addr.add; split <;> simp_all
def FreeOut (ao : Option Addr) (len cap g : Nat) (w : World) (e : Ending) (w' : World) : Prop := (∃ (b n c : Nat) (xs : List Int), e = .returned (.slice (some ⟨b, 0, none⟩) n c) ∧ n ≤ 100 ∧ DateR.Ints (some ⟨b, 0, none⟩) n xs w') ∧ Src ao len cap g w' ∧ w.grownBy w' (some g)
set_option maxRecDepth 100000 in
set_option maxHeartbeats 4000000 in
theorem free_any (ao : Option Addr) (len cap g : Nat) (w : World) (hS : Src ao len cap g w) :
    Calls Try.prog 22 #[.pointer (some ⟨g, 0, none⟩)] w fun e w' => FreeOut ao len cap g w e w' := by
  obtain ⟨i0, hi, hz0, hz1, hz2⟩ := info_parts infoI
  have hgl := hS.lt
  have hown0 := World.ownsRow_made (base := w.heap.size) (e := 2) (size := 1) w #[] 0 (Nat.le_refl _) (by unfold maxLen; omega) rfl
  have HS0 : Hid (Src ao len cap g (w.alloc (Obj.cells #[] 2))) := hS.alloc _
  have HG0 : Hid (w.grownBy (w.alloc (Obj.cells #[] 2)) (some g)) := World.grownBy_alloc w _ _
  have keep : ∀ (wa wb : World) (v : Value) (n : Nat) (l : List Value), wa.ownsRow w.heap.size 2 1 v n l → wa.grownBy wb (some g) → wb.ownsRow w.heap.size 2 1 v n l := by
    intro wa wb v n l ho hg
    refine ho.kept hg ?_
    rcases hob : v.ownBlock with _ | b
    · exact .inl rfl
    · refine .inr (fun e => ?_)
      have := (ho.lt b hob).1
      simp only [Option.some.injEq] at e
      omega
  have KEEP := hid_intro keep
  clear hS keep
  go_enter Try.func22, Try.ntmps22
  go_wp2_with fail
  refine (n_any ao len cap g 9 _ (by omega) HS0.out).mono ?_
  rintro e w1 ⟨x, rfl, hx0, hx1, hx2, hS1, hg1⟩
  have hx3 : x < 9 := hx2 (by omega)
  have HS1 := hid_intro hS1
  have HG1 := hid_intro (grown_trans HG0.out hg1)
  have hown1 := KEEP.out _ _ _ _ _ hown0 hg1
  have HO1 := hid_intro hown1
  clear hx1 hx2 hS1 hg1 hown0 hown1
  go_wp2_with fail
  refine (n_any ao len cap g 6 _ (by omega) HS1.out).mono ?_
  rintro e w2 ⟨y, rfl, hy0, hy1, hy2, hS2, hg2⟩
  have hy3 : y < 6 := hy2 (by omega)
  have HS2 := hid_intro hS2
  have HG2 := hid_intro (grown_trans HG1.out hg2)
  have HO2 := hid_intro (KEEP.out _ _ _ _ _ HO1.out hg2)
  clear hy1 hy2 hS2 hg2 HO1 HG1 HS1 HS0 HG0
  obtain ⟨Y, rfl⟩ : ∃ Y : Nat, y = Y := ⟨y.toNat, by omega⟩
  go_wp2_with fail
  go_loopw [3, 4, 5] (fun v d z wr => ∃ (k : Nat) (acc : List Int) (dv : Int), z = .int .i64 (k : Int) ∧ acc.length + k = Y ∧ d = .int .i64 dv ∧ 20000 ≤ dv ∧ dv + 9 * (k : Int) ≤ 20100 ∧ Hid (wr.ownsRow w.heap.size 2 1 v acc.length (acc.map (Value.int .i64))) ∧ Hid (v ≠ .slice none 0 0) ∧ Hid (Src ao len cap g wr) ∧ Hid (w.grownBy wr (some g))) (fun _ _ z _ => (intOf z).toNat)
  case atStart => exact ⟨Y, [], 20000 + x, rfl, by simp, rfl, by omega, by omega, HO2, hid_intro (by simp), HS2, HG2⟩
  case round =>
    obtain ⟨k, acc, dv, rfl, hacc, rfl, hd1, hd2, HO, HV, HS, HG⟩ := hrel
    clear HO2 HS2 HG2
    obtain ⟨n, hn⟩ : ∃ n, n = acc.length := ⟨_, rfl⟩
    have HN := hid_intro hn
    rw [← hn] at HO hacc
    clear hn
    by_cases hlt : 0 < k
    · have hlt2 : (0 : Int) < (k : Int) := by omega
      have hdm : wrap64 dv = dv := by unfold wrap64; omega
      go_wp2_with (at_builtin; refine wpList_append_own _ rfl _ _ 23 rfl w.heap.size 2 i0 (.int .i64 0) 1 8 Try.underlying23 hi hz0 hz1 hz2 rfl (by decide) _ _ _ rfl (HO.out.alloc _) ⟨wr.heap.size, 0, none⟩ 1 1 [.int .i64 dv] rfl rfl ?c1 ?c2 ?c3 ?c4 ?c5 ?_)
      case c1 =>
        intro j u hj
        match j, hj with
        | 0, hj => simp at hj; subst hj; simp [Addr.add]
      case c2 => intro u hu; simp at hu; subst hu; rfl
      case c3 => unfold maxLen; omega
      case c4 => omega
      case c5 => have h1 := HG.out.size; simp; omega
      intro v' w3 hown2 hgrow hne
      have hown3 : w3.ownsRow w.heap.size 2 1 v' (n + 1) ((acc ++ [dv]).map (Value.int .i64)) := by simpa using hown2
      have hlt5 : ∀ j, u3.ownBlock = some j → w.heap.size ≤ j := fun j hj => (HO.out.lt j hj).1
      have HS2 : Hid (Src ao len cap g w3) := (HS.out.alloc _).kept hgrow (fun j hj => by have := hlt5 j hj; omega)
      have HG2 : Hid (w.grownBy w3 (some g)) := (Lib.grownBy_allocR HG.out _).andThen hgrow (fun j hj => .inl (hlt5 j hj))
      have HNE := hid_intro hne
      have HO3 := hid_intro hown3
      clear hown2 hgrow hne hlt5 hown3
      go_wp2_with fail
      refine (n_any ao len cap g 9 _ (by omega) HS2.out).mono ?_
      rintro e w4 ⟨q, rfl, hq0, hq1, hq2, hS3, hg3⟩
      have hq3 : q < 9 := hq2 (by omega)
      have HS3 := hid_intro hS3
      have HG3 := hid_intro (grown_trans HG2.out hg3)
      have HO4 := hid_intro (KEEP.out _ _ _ _ _ HO3.out hg3)
      clear hq1 hq2 hS3 hg3
      have e1 : wrap64 (dv + 1) = dv + 1 := by unfold wrap64; omega
      have e2 : wrap64 (dv + 1 + q) = dv + 1 + q := by unfold wrap64; omega
      go_wp2_with fail
      go_roundw
      case rel => exact ⟨k - 1, acc ++ [dv], dv + 1 + q, by go_num, by rw [List.length_append, ← HN.out]; simp; omega, rfl, by omega, by omega, hid_intro (by rw [List.length_append, ← HN.out]; exact HO4.out), HNE, HS3, HG3⟩
      case measure => simp [intOf]; omega
    · have hk0 : ¬ (0 : Int) < (k : Int) := by omega
      go_wp2_with fail
      refine (one_any ao len cap g 15 _ (by omega) HS.out).mono ?_
      rintro e w3 ⟨⟨q, rfl⟩, hS3, hg3⟩
      have HS3 := hid_intro hS3
      have HG3 := hid_intro (grown_trans HG.out hg3)
      have HO3 := hid_intro (KEEP.out _ _ _ _ _ HO.out hg3)
      clear hS3 hg3 HS HG HO
      cases q
      · obtain ⟨b, c, hv, hI⟩ := own_ints HO3.out HV.out
        have HI := hid_intro hI
        subst hv
        clear hI
        go_wp2_with fail
        go_ret
        exact ⟨⟨b, n, c, acc, rfl, by omega, HI.out⟩, HS3.out, HG3.out⟩
      · go_wp2_with (at_builtin; refine wpList_append_own _ rfl _ _ 23 rfl w.heap.size 2 i0 (.int .i64 0) 1 8 Try.underlying23 hi hz0 hz1 hz2 rfl (by decide) _ _ _ rfl (HO3.out.alloc _) ⟨w3.heap.size, 0, none⟩ 1 1 [.int .i64 20000] rfl rfl ?c1 ?c2 ?c3 ?c4 ?c5 ?_)
        case c1 =>
          intro j u hj
          match j, hj with
          | 0, hj => simp at hj; subst hj; simp [Addr.add]
        case c2 => intro u hu; simp at hu; subst hu; rfl
        case c3 => unfold maxLen; omega
        case c4 => omega
        case c5 => have h1 := HG3.out.size; simp; omega
        intro v' w4 hown2 hgrow hne
        have hown3 : w4.ownsRow w.heap.size 2 1 v' (n + 1) ((acc ++ [20000]).map (Value.int .i64)) := by simpa using hown2
        have hlt5 : ∀ j, u3.ownBlock = some j → w.heap.size ≤ j := fun j hj => (HO3.out.lt j hj).1
        have HS4 : Hid (Src ao len cap g w4) := (HS3.out.alloc _).kept hgrow (fun j hj => by have := hlt5 j hj; omega)
        have HG4 : Hid (w.grownBy w4 (some g)) := (Lib.grownBy_allocR HG3.out _).andThen hgrow (fun j hj => .inl (hlt5 j hj))
        obtain ⟨b, c, hv, hI⟩ := own_ints hown3 hne
        have HI := hid_intro hI
        subst hv
        clear hown2 hgrow hne hlt5 hown3 hI
        go_wp2_with fail
        go_ret
        exact ⟨⟨b, n + 1, c, acc ++ [20000], rfl, by omega, HI.out⟩, HS4.out, HG4.out⟩
end DrawR
end Go.Proofs.Ytaihfidbpkbnkaa
