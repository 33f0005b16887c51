/-
  The bytes of a list of events, the model's side. The conditions: at most 1048576 events, each text of at most 1048576 bytes.
-/
import Derived.Test.YtbjildnnlijidaaEvS
import Derived.Deep.RegionWith
namespace Go.Proofs.Ytbjildnnlijidaa
open Go.ChangeShapes Go.WideShapes Go.ChangeAt Go.RowKit
set_option linter.unusedVariables false
namespace EvtR
open NumR (numB numB_size)
def E.ok (e : E) : Bool := evB e.i e.a e.m e.n e.k e.t
def E.b (e : E) : ByteArray := evT e.i e.a e.m e.n e.k e.t
def E.Small (e : E) : Prop := e.i.size ≤ 1048576 ∧ e.a.size ≤ 1048576 ∧ e.m.size ≤ 1048576 ∧ e.t.size ≤ 1048576
/-- Bytes, and those of events behind them. -/
def catT (t : ByteArray) (es : List E) : ByteArray := es.foldl (fun t e => t ++ e.b) t
/-- The bytes of a list of events: none, if they are too many or one is not right. -/
def batT (es : List E) : ByteArray := if es.length ≤ 20 ∧ es.all E.ok = true then catT (numB es.length) es else ⟨#[]⟩
theorem E.b_size (e : E) (h : e.ok = true) : e.b.size ≤ 240 := by
  obtain ⟨h0, h1, h2, h3, h4, h5, h6, h7, h8⟩ := right_ev h
  have z := fun (s : ByteArray) (hs : s.size ≤ 20) => (show (txtB s).size ≤ 40 by unfold txtB; have := numB_size (n := s.size) (by omega); rw [ByteArray.size_append]; omega)
  have zn := fun (x : Int) (hx : 0 ≤ x ∧ x ≤ 1000000000) => (show (numB x).size ≤ 40 by have := numB_size (n := x) (by omega); omega)
  have a1 := z e.i h1
  have a2 := z e.a h2
  have a3 := z e.m h3
  have a4 := zn e.n (by omega)
  have a5 := zn e.k (by omega)
  have a6 := z e.t (by omega)
  unfold E.b evT
  simp only [ByteArray.size_append]
  omega
theorem catT_take (t : ByteArray) (es : List E) (k : Nat) (h : k < es.length) : catT t (es.take (k + 1)) = catT t (es.take k) ++ (es.getD k E.zero).b := by
  unfold catT
  rw [List.take_add_one, List.getElem?_eq_getElem h, List.foldl_append]
  simp [List.getD, h]
theorem all_take (es : List E) (k : Nat) (h : k < es.length) : (es.take (k + 1)).all E.ok = ((es.take k).all E.ok && (es.getD k E.zero).ok) := by
  rw [List.take_add_one, List.getElem?_eq_getElem h, List.all_append]
  simp [List.getD, h]
theorem not_all (es : List E) (k : Nat) (h : k < es.length) (hk : (es.getD k E.zero).ok = false) : es.all E.ok = false := by
  rw [List.all_eq_false]
  exact ⟨_, getD_mem es k h, by rw [hk]; decide⟩
set_option maxRecDepth 100000 in
set_option maxHeartbeats 4000000 in
theorem spec_batch (ao : Option Addr) (len cap : Nat) (es : List E) (w : World) (hlen : len ≤ 1048576) (hS : ∀ e ∈ es, e.Small) (hI : Evs ao len es w) :
    Calls Try.prog 16 #[.slice ao len cap] w fun e w' => e = .returned (.string (batT es)) ∧ Below w.heap.size w w' := by
  have hz := hI.1
  by_cases hbig : 20 < len
  · have hb : batT es = ⟨#[]⟩ := if_neg (by omega)
    rw [hb]
    have h' : (20 : Int) < (len : Int) := by omega
    clear hI
    go_enter Try.func16, Try.ntmps16
    go_wp2_with fail
    go_ret
    exact ⟨rfl, Below.refl _ _⟩
  · have h' : ¬ (20 : Int) < (len : Int) := by omega
    have HI := hid_intro hI
    have HZ := hid_intro hz
    have HS := hid_intro hS
    have HN := hid_intro (fun w => NumR.spec_put len w (by omega))
    have HZ0 : Hid ((numB (len : Int)).size ≤ 10) := hid_intro (numB_size (n := len) (by omega))
    have HR0 : Hid (batT es = if es.all E.ok = true then catT (numB (len : Int)) es else ⟨#[]⟩) := hid_intro (by
      unfold batT
      rw [hz]
      by_cases ha : es.all E.ok = true
      · rw [if_pos ⟨by omega, ha⟩, if_pos ha]
      · rw [if_neg (fun h => ha h.2), if_neg ha])
    generalize numB (len : Int) = T0 at *
    generalize batT es = R at *
    clear hI hz hS
    go_enter Try.func16, Try.ntmps16
    go_wp2_with fail
    refine (HN.out _).mono ?_
    rintro e w1 ⟨rfl, hb1⟩
    have HB1 := hid_intro hb1
    clear hb1
    go_wp2_with fail
    go_loopw [3, 4] (fun x z wr => ∃ (j : Nat) (T : ByteArray), j ≤ len ∧ z = .int .i64 j ∧ x = .string T ∧ Hid (T = catT T0 (es.take j)) ∧ Hid (T.size ≤ 10 + j * 240) ∧ Hid ((es.take j).all E.ok = true) ∧ Hid (Below w.heap.size w wr)) (fun x z _ => len - (intOf z).toNat)
    case atStart => exact ⟨0, T0, by omega, rfl, rfl, hid_intro (by simp [catT]), hid_intro (by have := HZ0.out; omega), hid_intro (by simp), HB1⟩
    case round =>
      obtain ⟨j, T, hj, rfl, rfl, HT, HTs, HA, HB⟩ := hrel
      by_cases hlt : j < len
      · have hlt2 : (j : Int) < (len : Int) := by omega
        obtain ⟨b, off, rfl, hbl, ha⟩ := evs_at (HI.out.below HB.out) j hlt
        have HJ : Hid (j < es.length) := hid_intro (by have := HZ.out; omega)
        have HC1 := hid_intro (catT_take T0 es j HJ.out)
        have HC2 := hid_intro (all_take es j HJ.out)
        have HC3 := hid_intro (not_all es j HJ.out)
        have hsm := HS.out _ (getD_mem es j HJ.out)
        generalize es.getD j E.zero = X at *
        have HEv := hid_intro ha
        obtain ⟨c0, c1, c2, c3, c4, c5⟩ := ha
        have HE := hid_intro (fun w => spec_event X.i X.a X.m X.n X.k X.t hsm.1 hsm.2.1 hsm.2.2.1 hsm.2.2.2 w)
        have HG := hid_intro (fun (h : evB X.i X.a X.m X.n X.k X.t = true) w => spec_l04Bytes h w)
        have HXs := hid_intro (E.b_size X)
        have HX1 : Hid (X.ok = evB X.i X.a X.m X.n X.k X.t) := rfl
        have HX2 : Hid (X.b = evT X.i X.a X.m X.n X.k X.t) := rfl
        generalize evB X.i X.a X.m X.n X.k X.t = q at *
        generalize evT X.i X.a X.m X.n X.k X.t = G at *
        clear hsm
        unfold ev at HE HG
        cases q
        · go_wp2_with fail
          refine (HE.out _).mono ?_
          rintro e w2 ⟨rfl, hb⟩
          have HB2 := hid_intro (HB.out.trans (hb.mono HB.out.size))
          clear hb c0 c1 c2 c3 c4 c5
          go_wp2_with fail
          go_ret
          exact ⟨ret_str (by rw [HR0.out, if_neg (by rw [HC3.out HX1.out]; simp)]), HB2.out⟩
        · have HTG : Hid (G.size ≤ 240) := hid_intro (by rw [← HX2.out]; exact HXs.out HX1.out)
          have q1 : ¬ 9223372036854775807 < T.size + G.size := by have := HTs.out; have := HTG.out; omega
          have HT2 : Hid (T ++ G = catT T0 (es.take (j + 1))) := hid_intro (by rw [HC1.out, HT.out, HX2.out])
          have HTs2 : Hid ((T ++ G).size ≤ 10 + (j + 1) * 240) := hid_intro (by rw [ByteArray.size_append]; have := HTs.out; have := HTG.out; omega)
          have HA2 : Hid ((es.take (j + 1)).all E.ok = true) := hid_intro (by rw [HC2.out, HA.out, HX1.out]; rfl)
          go_wp2_with fail
          refine (HE.out _).mono ?_
          rintro e w2 ⟨rfl, hb⟩
          have HB2 := hid_intro (HB.out.trans (hb.mono HB.out.size))
          obtain ⟨c0, c1, c2, c3, c4, c5⟩ := HEv.out.below hbl hb
          clear hb
          go_wp2_with fail
          refine (HG.out (by trivial) _).mono ?_
          rintro e w3 ⟨rfl, hb⟩
          have HB3 := hid_intro (HB2.out.trans (hb.mono HB2.out.size))
          clear hb c0 c1 c2 c3 c4 c5
          go_wp2_with fail
          go_roundw
          case rel => exact ⟨j + 1, T ++ G, by omega, by go_num, rfl, HT2, HTs2, HA2, HB3⟩
          case measure => simp [intOf]; omega
      · obtain rfl : j = len := by omega
        have HF : Hid (R = T) := hid_intro (by
          have e1 := HT.out
          have e2 := HA.out
          rw [List.take_of_length_le (by have := HZ.out; omega)] at e1 e2
          rw [HR0.out, if_pos e2, e1])
        go_wp2_with fail
        go_ret
        exact ⟨ret_str HF.out.symm, HB.out⟩
end EvtR
end Go.Proofs.Ytbjildnnlijidaa
