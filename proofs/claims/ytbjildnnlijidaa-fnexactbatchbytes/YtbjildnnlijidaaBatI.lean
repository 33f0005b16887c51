/-
  The bytes of a list of events, the program's side. The conditions: at most 1048576 events, each text of at most 1048576 bytes.
-/
import Derived.Test.YtbjildnnlijidaaBat
import Derived.OwnWalk
namespace Go.Proofs.Ytbjildnnlijidaa
open Go.ChangeShapes Go.WideShapes Go.ChangeAt Go.RowKit
set_option linter.unusedVariables false
namespace EvtR
open NumR (numB numB_size)
theorem infoS : (Try.prog.info? 9).map (fun i => (i.zero, i.size, i.bytes)) = some (some (.string ⟨#[]⟩), 1, 16) := by kernel_rfl
/-- The texts that are joined: the number's, then each event's. -/
def partsT (T0 : ByteArray) (es : List E) : List ByteArray := T0 :: es.map E.b
theorem parts_take (T0 : ByteArray) (es : List E) (k : Nat) (h : k < es.length) : partsT T0 (es.take (k + 1)) = partsT T0 (es.take k) ++ [(es.getD k E.zero).b] := by
  unfold partsT
  rw [List.take_add_one, List.getElem?_eq_getElem h, List.map_append]
  simp [List.getD, h]
theorem join_parts (T0 : ByteArray) (es : List E) : JoinR.joinB (partsT T0 es) = catT T0 es := by
  unfold partsT catT
  induction es generalizing T0 with
  | nil => apply ByteArray.ext; simp [JoinR.joinB]
  | cons e es ih =>
    rw [List.foldl_cons, ← ih]
    apply ByteArray.ext
    simp [JoinR.joinB]
theorem size_parts (T0 : ByteArray) (es : List E) (h0 : T0.size ≤ 10) (h : es.all E.ok = true) : (JoinR.jl (partsT T0 es) (partsT T0 es).length).length ≤ 10 + es.length * 240 := by
  rw [JoinR.jl_all]
  unfold partsT
  induction es with
  | nil => simp; exact h0
  | cons e es ih =>
    simp only [List.all_cons, Bool.and_eq_true] at h
    have := ih h.2
    have hb := E.b_size e h.1
    simp only [List.map_cons, List.flatMap_cons, List.length_append, List.length_cons] at this ⊢
    have e1 : e.b.data.toList.length = e.b.size := rfl
    omega
theorem own_below {w w' : World} {base e size n : Nat} {v : Value} {xs : List Value} (h : w.ownsRow base e size v n xs) (hb : Below w.heap.size w w') : w'.ownsRow base e size v n xs := by
  refine ⟨h.1, ?_⟩
  rcases h.2 with hn | ⟨g, cap, cur, rfl, h1, hg, rest⟩
  · exact .inl hn
  · exact .inr ⟨g, cap, cur, rfl, h1, (hb.block g (Array.getElem?_eq_some_iff.1 hg).1).trans hg, rest⟩
theorem own_texts {w : World} {base n : Nat} {v : Value} {xs : List ByteArray} (h : w.ownsRow base 9 1 v n (xs.map Value.string)) (hne : v ≠ .slice none 0 0) :
    ∃ g cap, v = .slice (some ⟨g, 0, none⟩) n cap ∧ g < w.heap.size ∧ xs.length = n ∧ n ≤ cap ∧ ∀ k (hk : k < xs.length), w.cell? ⟨g, k, none⟩ = some (.string xs[k]) := by
  have hl := h.1
  have hlen : xs.length = n := by simpa using hl
  rcases h.2 with ⟨h0, _⟩ | ⟨g, cap, cur, hv, _, _, hc, _⟩
  · exact absurd h0 hne
  · refine ⟨g, cap, hv, (h.lt g (by rw [hv]; rfl)).2, hlen, hc, fun k hk => ?_⟩
    have := h.cells (g := g) (by rw [hv]; rfl) k (.string xs[k]) (by simp [List.getElem?_map, List.getElem?_eq_getElem hk])
    rw [← this]
    congr 1
    unfold Addr.add; split <;> simp_all
set_option maxRecDepth 100000 in
set_option maxHeartbeats 4000000 in
theorem impl_batch (ao : Option Addr) (len cap : Nat) (es : List E) (w : World) (hlen : len ≤ 1048576) (hS : ∀ e ∈ es, e.Small) (hI : Evs ao len es w) :
    Calls Try.prog 18 #[.slice ao len cap] w fun e w' => e = .returned (.string (batT es)) ∧ Below w.heap.size w w' := by
  have hz := hI.1
  by_cases hbig : 20 < len
  · have hb : batT es = ⟨#[]⟩ := if_neg (by omega)
    rw [hb]
    have h' : (20 : Int) < (len : Int) := by omega
    clear hI
    go_enter Try.func18, Try.ntmps18
    go_wp2_with fail
    go_ret
    exact ⟨rfl, Below.refl _ _⟩
  · have h' : ¬ (20 : Int) < (len : Int) := by omega
    obtain ⟨i0, hi, hz0, hz1, hz2⟩ := info_parts infoS
    have HI := hid_intro hI
    have HZ := hid_intro hz
    have HS := hid_intro hS
    have HN := hid_intro (fun w => NumR.impl_put len w (by omega))
    have HZ0 : Hid ((numB (len : Int)).size ≤ 10) := hid_intro (numB_size (n := len) (by omega))
    have HR0 : Hid (batT es = if es.all E.ok = true then catT (numB (len : Int)) es else ⟨#[]⟩) := hid_intro (by
      unfold batT
      rw [hz]
      by_cases ha : es.all E.ok = true
      · rw [if_pos ⟨by omega, ha⟩, if_pos ha]
      · rw [if_neg (fun h => ha h.2), if_neg ha])
    generalize numB (len : Int) = T0 at *
    generalize batT es = R at *
    clear hI hz hS
    go_enter Try.func18, Try.ntmps18
    go_wp2_with fail
    refine (HN.out _).mono ?_
    rintro e w1 ⟨rfl, hb1⟩
    have HB1 := hid_intro hb1
    clear hb1
    go_wp2_with fail
    have HO0 : Hid ((w1.alloc (Obj.cells #[Value.string T0] 9)).ownsRow w.heap.size 9 1 (.slice (some ⟨w1.heap.size, 0, none⟩) 1 1) 1 ((partsT T0 (es.take 0)).map Value.string)) := hid_intro ⟨by simp [partsT], .inr ⟨w1.heap.size, 1, #[.string T0], rfl, HB1.out.size, heap_alloc_new w1 _, Nat.le_refl _, by unfold maxLen; omega, by simp, by simp [partsT]⟩⟩
    have HB0 := hid_intro (HB1.out.alloc HB1.out.size (Obj.cells #[Value.string T0] 9))
    clear HB1
    go_loopw [3, 15] (fun v z wr => ∃ (j : Nat), j ≤ len ∧ z = .int .i64 j ∧ Hid (wr.ownsRow w.heap.size 9 1 v (j + 1) ((partsT T0 (es.take j)).map Value.string)) ∧ Hid (v ≠ .slice none 0 0) ∧ Hid ((es.take j).all E.ok = true) ∧ Hid (Below w.heap.size w wr)) (fun v z _ => len - (intOf z).toNat)
    case atStart => exact ⟨0, by omega, rfl, HO0, hid_intro (by simp), hid_intro (by simp), HB0⟩
    case round =>
      obtain ⟨j, hj, rfl, HO, HV, HA, HB⟩ := hrel
      by_cases hlt : j < len
      · have hlt2 : (j : Int) < (len : Int) := by omega
        obtain ⟨b, off, rfl, hbl, ha⟩ := evs_at (HI.out.below HB.out) j hlt
        have HJ : Hid (j < es.length) := hid_intro (by have := HZ.out; omega)
        have HC1 := hid_intro (parts_take T0 es j HJ.out)
        have HC2 := hid_intro (all_take es j HJ.out)
        have HC3 := hid_intro (not_all es j HJ.out)
        have hsm := HS.out _ (getD_mem es j HJ.out)
        generalize es.getD j E.zero = X at *
        obtain ⟨c0, c1, c2, c3, c4, c5⟩ := ha
        have HE := hid_intro (fun w => impl_event X.i X.a X.m X.n X.k X.t hsm.1 hsm.2.1 hsm.2.2.1 hsm.2.2.2 w)
        have HG := hid_intro (fun w => impl_bytes (n := X.n) (k := X.k) hsm.1 hsm.2.1 hsm.2.2.1 hsm.2.2.2 w)
        have HX1 : Hid (X.ok = evB X.i X.a X.m X.n X.k X.t) := rfl
        have HX2 : Hid (X.b = evT X.i X.a X.m X.n X.k X.t) := rfl
        generalize evB X.i X.a X.m X.n X.k X.t = q at *
        generalize evT X.i X.a X.m X.n X.k X.t = G at *
        clear hsm
        unfold ev at HE HG
        cases q
        · go_wp2_with fail
          refine (HE.out _).mono ?_
          rintro e w2 ⟨rfl, hb⟩
          have HB2 := hid_intro (HB.out.trans ((bel_alloc hb).mono HB.out.size))
          clear hb c0 c1 c2 c3 c4 c5
          go_wp2_with fail
          go_ret
          exact ⟨ret_str (by rw [HR0.out, if_neg (by rw [HC3.out HX1.out]; simp)]), HB2.out⟩
        · rw [if_pos rfl] at HG
          have HA2 : Hid ((es.take (j + 1)).all E.ok = true) := hid_intro (by rw [HC2.out, HA.out, HX1.out]; rfl)
          go_wp2_with fail
          refine (HE.out _).mono ?_
          rintro e w2 ⟨rfl, hb⟩
          obtain ⟨hc, hf⟩ := bcell hb
          have hl2 : wr.heap.size < w2.heap.size := by have := hb.size; simp at this; omega
          have HB2 := hid_intro (bel_alloc hb)
          clear hb c0 c1 c2 c3 c4 c5
          go_wp2_with fail
          refine (HG.out _).mono ?_
          rintro e w3 ⟨rfl, hb⟩
          have HB3 := hid_intro (HB2.out.trans (hb.mono HB2.out.size))
          have HO3 := hid_intro (own_below HO.out HB3.out)
          have HW3 := hid_intro (HB.out.trans (HB3.out.mono HB.out.size))
          clear hb hc hf
          go_wp2_with (at_builtin; refine wpList_append_own _ rfl _ _ 44 rfl w.heap.size 9 i0 (.string ⟨#[]⟩) 1 16 Try.underlying44 hi hz0 hz1 hz2 rfl (by decide) _ _ _ rfl (HO3.out.alloc _) ⟨w3.heap.size, 0, none⟩ 1 1 [.string G] rfl rfl ?d1 ?d2 ?d3 ?d4 ?d5 ?_)
          case d1 =>
            intro i u hi
            match i, hi with
            | 0, hi => simp at hi; subst hi; simp [Addr.add]
          case d2 => intro u hu; simp at hu; subst hu; rfl
          case d3 => unfold maxLen; omega
          case d4 => omega
          case d5 => have h1 := HW3.out.size; simp; omega
          intro v' w4 hown hgrow hne
          have HO4 : Hid (w4.ownsRow w.heap.size 9 1 v' (j + 1 + 1) ((partsT T0 (es.take (j + 1))).map Value.string)) := hid_intro (by rw [HC1.out, List.map_append, HX2.out]; exact hown)
          have HV4 : Hid (v' ≠ .slice none 0 0) := hid_intro hne
          have HB4 : Hid (Below w.heap.size w w4) := hid_intro ((HW3.out.alloc HW3.out.size _).grown hgrow (HW3.out.alloc HW3.out.size _).size (fun k e => (HO.out.lt k e).1))
          clear hown hgrow hne
          go_wp2_with fail
          go_roundw
          case rel => exact ⟨j + 1, by omega, by go_num, HO4, HV4, HA2, HB4⟩
          case measure => simp [intOf]; omega
      · obtain rfl : j = len := by omega
        have HT : Hid (es.take j = es) := hid_intro (List.take_of_length_le (by have := HZ.out; omega))
        rw [HT.out] at HO HA
        obtain ⟨g, cap', rfl, hg, hn, hcap, hcell⟩ := own_texts HO.out HV.out
        have hj2 := JoinR.join_len (partsT T0 es) g cap' _ (by omega) (by omega) hg hcell (by have := size_parts T0 es HZ0.out HA.out; have := HZ.out; omega)
        rw [join_parts, hn] at hj2
        have HJ2 := hid_intro hj2
        clear hj2 hcell
        go_wp2_with fail
        refine HJ2.out.mono ?_
        rintro e w2 ⟨rfl, hb⟩
        have HB2 := hid_intro (HB.out.trans (hb.mono HB.out.size))
        clear hb
        go_wp2_with fail
        go_ret
        exact ⟨ret_str (by rw [HR0.out, if_pos HA.out]), HB2.out⟩
end EvtR
end Go.Proofs.Ytbjildnnlijidaa
