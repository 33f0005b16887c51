/-
  What a list tells of an Id, on both sides. The condition: at most 1048576 entries, whose Ids have at most 1048576 bytes.
-/
import Derived.Test.YtbhabplchcigfaaEnP
namespace Go.Proofs.Ytbhabplchcigfaa
open Go.ChangeShapes Go.WideShapes Go.ChangeAt Go.RowKit
set_option linter.unusedVariables false
namespace SeenR
open RowG WordR LtR
/-- What is seen of an Id. -/
def sight (es : List N) (id : ByteArray) : Value := bif decide (pos es id < es.length) && ((es.getD (pos es id) N.zero).i.toList == id.toList) then
  .iface 75 (.agg #[.int .i64 (pos es id : Nat), .string (es.getD (pos es id) N.zero).i, .int .i64 (es.getD (pos es id) N.zero).n, .int .i64 (es.getD (pos es id) N.zero).s])
  else .iface 77 (.agg #[.int .i64 (pos es id : Nat)])
theorem as_yes (v : Value) (w : World) : (Instr.typeAssert (.iface 75 v) 50 75 true).run Try.prog w = .ok (.tuple #[v, .bool true]) w := by kernel_rfl
theorem as_no (v : Value) (w : World) : (Instr.typeAssert (.iface 77 v) 50 75 true).run Try.prog w = .ok (.tuple #[.agg #[.int .i64 0, .string ⟨#[]⟩, .int .i64 0, .int .i64 0], .bool false]) w := by kernel_rfl
set_option maxRecDepth 100000 in
set_option maxHeartbeats 4000000 in
theorem impl_sight (ao : Option Addr) (cap : Nat) (es : List N) (id : ByteArray) (w : World) (hlen : es.length ≤ 1048576) (hI : Ens ao es w) :
    Calls Try.prog 22 #[.slice ao es.length cap, .string id] w fun e w' => e = .returned (sight es id) ∧ Below w.heap.size w w' := by
  have HPE := hid_intro (fun k => pos_eq (es := es) (id := id) (k := k))
  have HR : Hid (sight es id = bif decide (pos es id < es.length) && ((es.getD (pos es id) N.zero).i.toList == id.toList) then .iface 75 (.agg #[.int .i64 (pos es id : Nat), .string (es.getD (pos es id) N.zero).i, .int .i64 (es.getD (pos es id) N.zero).n, .int .i64 (es.getD (pos es id) N.zero).s]) else .iface 77 (.agg #[.int .i64 (pos es id : Nat)])) := rfl
  generalize sight es id = R at *
  have HI := hid_intro hI
  obtain ⟨len, hl⟩ : ∃ len, len = es.length := ⟨_, rfl⟩
  rw [← hl] at hlen ⊢
  have HL := hid_intro hl
  clear hI hl
  go_enter Try.func22, Try.ntmps22
  go_wp2_with fail
  go_loopw [5] (fun z wr => ∃ k : Nat, k ≤ len ∧ z = .int .i64 k ∧ Hid (Ahead es id k) ∧ Hid (Below w.heap.size w wr)) (fun z _ => len - (intOf z).toNat)
  case atStart => exact ⟨0, by omega, rfl, hid_intro (Ahead.zero es id), hid_intro (Below.refl _ _)⟩
  case round =>
    obtain ⟨k, hk, rfl, HK, HB⟩ := hrel
    by_cases hlt : k < len
    · have hlt2 : (k : Int) < (len : Int) := by omega
      obtain ⟨b, off, rfl, hbl, c0, c1, c2⟩ := (HI.out.below HB.out).at k (by have := HL.out; omega)
      cases hq : lt (es.getD k N.zero).i id
      · have HP : Hid (pos es id = k) := hid_intro (HPE.out k HK.out (by have := HL.out; omega) (fun _ => hq))
        rw [HP.out] at HR
        have HR2 : Hid (R = bif ((es.getD k N.zero).i.toList == id.toList) then .iface 75 (.agg #[.int .i64 k, .string (es.getD k N.zero).i, .int .i64 (es.getD k N.zero).n, .int .i64 (es.getD k N.zero).s]) else .iface 77 (.agg #[.int .i64 k])) := hid_intro (by
          have e := HR.out
          rw [decide_eq_true (show k < es.length by have := HL.out; omega), Bool.true_and] at e
          exact e)
        unfold lt at hq
        generalize es.getD k N.zero = X at *
        obtain ⟨xi, xn, xs⟩ := X
        dsimp only at hq HR2 c0 c1 c2
        clear HPE HR HP
        by_cases he : xi.toList = id.toList
        · have he2 : (xi.toList == id.toList) = true := by simpa using he
          rw [he2] at HR2
          obtain rfl := toList_inj he
          clear he he2
          go_wp2_with fail
          go_ret
          refine ⟨by rw [HR2.out]; rfl, ?_⟩
          repeat' first | exact HB.out | apply Below.setCell | apply Below.alloc
          all_goals first | exact HB.out.size | (have := HB.out.size; simp; omega)
        · have he2 : (xi.toList == id.toList) = false := by simpa using he
          rw [he2] at HR2
          go_wp2_with fail
          go_ret
          refine ⟨by rw [HR2.out]; rfl, ?_⟩
          repeat' first | exact HB.out | apply Below.setCell | apply Below.alloc
          all_goals first | exact HB.out.size | (have := HB.out.size; simp; omega)
      · have HK2 := hid_intro (HK.out.more hq)
        unfold lt at hq
        generalize es.getD k N.zero = X at *
        obtain ⟨xi, xn, xs⟩ := X
        dsimp only at hq c0 c1 c2
        go_wp2_with fail
        go_roundw
        case rel => exact ⟨k + 1, by omega, by go_num, HK2, HB⟩
        case measure => simp [intOf]; omega
    · have hlt2 : ¬ (k : Int) < (len : Int) := by omega
      obtain rfl : k = len := by omega
      have HP : Hid (pos es id = k) := hid_intro (HPE.out k HK.out (by have := HL.out; omega) (fun h => absurd h (by have := HL.out; omega)))
      have HR2 : Hid (R = .iface 77 (.agg #[.int .i64 k])) := hid_intro (by
        have e := HR.out
        rw [HP.out, decide_eq_false (show ¬ k < es.length by have := HL.out; omega), Bool.false_and] at e
        exact e)
      clear HR HPE HP
      go_wp2_with fail
      go_ret
      refine ⟨by rw [HR2.out]; rfl, ?_⟩
      repeat' first | exact HB.out | apply Below.setCell | apply Below.alloc
      all_goals first | exact HB.out.size | (have := HB.out.size; simp; omega)
set_option maxHeartbeats 4000000 in
theorem was_any (es : List N) (id : ByteArray) (w : World) : Calls Try.prog 35 #[sight es id] w fun e w' => e = .returned (.bool (decide (pos es id < es.length) && ((es.getD (pos es id) N.zero).i.toList == id.toList))) ∧ Below w.heap.size w w' := by
  unfold sight
  generalize (decide (pos es id < es.length) && ((es.getD (pos es id) N.zero).i.toList == id.toList)) = b
  generalize pos es id = k
  generalize es.getD k N.zero = X
  cases b
  · rw [cond_false]
    have hn := as_no (.agg #[.int .i64 k]) w
    go_enter Try.func35, Try.ntmps35
    go_wp2_with fail
    go_ret
    exact ⟨rfl, Below.refl _ _⟩
  · rw [cond_true]
    have hy := as_yes (.agg #[.int .i64 k, .string X.i, .int .i64 X.n, .int .i64 X.s]) w
    go_enter Try.func35, Try.ntmps35
    go_wp2_with fail
    go_ret
    exact ⟨rfl, Below.refl _ _⟩
theorem has_of {es : List N} {id : ByteArray} (h : SRight es) : hasB es id = (decide (pos es id < es.length) && ((es.getD (pos es id) N.zero).i.toList == id.toList)) := by
  rw [Bool.eq_iff_iff, has_pos h, Bool.and_eq_true, decide_eq_true_eq, beq_iff_eq]
  constructor
  · rintro ⟨a, b⟩; exact ⟨a, by rw [b]⟩
  · rintro ⟨a, b⟩; exact ⟨a, toList_inj b⟩
set_option maxHeartbeats 4000000 in
theorem impl_has (ao : Option Addr) (cap : Nat) (es : List N) (id : ByteArray) (w : World) (hlen : es.length ≤ 1048576) (hS : ∀ e ∈ es, e.i.size ≤ 1048576) (hI : Ens ao es w) :
    Calls Try.prog 12 #[.slice ao es.length cap, .string id] w fun e w' => e = .returned (.bool (sB es && hasB es id)) ∧ Below w.heap.size w w' := by
  have H1 := hid_intro (impl_seen ao cap es w hlen hS hI)
  have H2 := hid_intro (fun W (hW : Below w.heap.size w W) => impl_sight ao cap es id W hlen (hI.below hW))
  have H3 := hid_intro (was_any es id)
  have HH : Hid (sB es = true → hasB es id = (decide (pos es id < es.length) && ((es.getD (pos es id) N.zero).i.toList == id.toList))) := hid_intro (fun h => has_of (sB_iff.1 h))
  generalize (decide (pos es id < es.length) && ((es.getD (pos es id) N.zero).i.toList == id.toList)) = b at *
  generalize sB es = r at *
  generalize hasB es id = q at *
  generalize sight es id = S at *
  generalize es.length = len at *
  clear hI hS
  cases r
  · go_enter Try.func12, Try.ntmps12
    go_wp2_with (go_at_call 14; refine (H1.out).mono ?_; rintro e w1 ⟨rfl, hb1⟩)
    go_ret
    exact ⟨rfl, hb1⟩
  · have HQ := hid_intro (HH.out rfl)
    clear HH
    go_enter Try.func12, Try.ntmps12
    go_wp2_with fail
    refine (H1.out).mono ?_
    rintro e w1 ⟨rfl, hb1⟩
    have HB1 := hid_intro hb1
    clear hb1
    go_wp2_with fail
    refine (H2.out _ HB1.out).mono ?_
    rintro e w2 ⟨rfl, hb2⟩
    have HB2 := hid_intro (HB1.out.trans (hb2.mono HB1.out.size))
    clear hb2
    go_wp2_with fail
    refine (H3.out _).mono ?_
    rintro e w3 ⟨rfl, hb3⟩
    have HB3 := hid_intro (HB2.out.trans (hb3.mono HB2.out.size))
    clear hb3
    go_wp2_with fail
    go_ret
    exact ⟨by rw [HQ.out]; rfl, HB3.out⟩
theorem has_no {es : List N} {id : ByteArray} (h : ∀ i, i < es.length → (es.getD i N.zero).i ≠ id) : hasB es id = false := by
  cases hb : hasB es id
  · rfl
  · obtain ⟨i, hi, e⟩ := has_iff.1 hb
    exact absurd e (h i hi)
theorem has_big {es : List N} {id : ByteArray} (h : 20 < id.size) : (sB es && hasB es id) = false := by
  cases hs : sB es
  · rfl
  · rw [Bool.true_and]
    refine has_no (fun i hi e => ?_)
    have h1 := ((sB_iff.1 hs).2 i hi).2
    unfold eOk EvtR.idB at h1
    rw [e] at h1
    simp at h1
    omega
set_option maxRecDepth 100000 in
set_option maxHeartbeats 4000000 in
theorem spec_has (ao : Option Addr) (cap : Nat) (es : List N) (id : ByteArray) (w : World) (hlen : es.length ≤ 1048576) (hS : ∀ e ∈ es, e.i.size ≤ 1048576) (hid : id.size ≤ 1048576) (hI : Ens ao es w) :
    Calls Try.prog 13 #[.slice ao es.length cap, .string id] w fun e w' => e = .returned (.bool (sB es && hasB es id)) ∧ Below w.heap.size w w' := by
  have H1 := hid_intro (spec_seen ao cap es w hlen hS hI)
  have HB0 := hid_intro (has_big (es := es) (id := id))
  have HY := hid_intro (fun i (hi : i < es.length) (e : (es.getD i N.zero).i = id) => has_iff.2 ⟨i, hi, e⟩)
  have HN := hid_intro (has_no (es := es) (id := id))
  have HLB : Hid (sB es = true → es.length ≤ 40) := hid_intro (fun h => (sB_iff.1 h).1)
  have HLC : Hid (40 < es.length → sB es = false) := hid_intro sB_long
  have HI := hid_intro hI
  obtain ⟨len, hl⟩ : ∃ len, len = es.length := ⟨_, rfl⟩
  rw [← hl] at hlen H1 HLB HLC ⊢
  have HL := hid_intro hl
  generalize sB es = r at *
  generalize hasB es id = q at *
  clear hI hS hl
  by_cases g1 : (400 : Int) < (len : Int)
  · have HR : Hid (r = false) := hid_intro (HLC.out (by omega))
    go_enter Try.func13, Try.ntmps13
    go_wp2_with fail
    go_ret
    exact ⟨by rw [HR.out]; rfl, Below.refl _ _⟩
  by_cases g2 : (8000 : Int) < (id.size : Int)
  · have HR := hid_intro (HB0.out (by omega))
    go_enter Try.func13, Try.ntmps13
    go_wp2_with fail
    go_ret
    exact ⟨by rw [HR.out]; rfl, Below.refl _ _⟩
  cases r
  · go_enter Try.func13, Try.ntmps13
    go_wp2_with (go_at_call 15; refine (H1.out).mono ?_; rintro e w1 ⟨rfl, hb1⟩)
    go_ret
    exact ⟨rfl, hb1⟩
  · clear HB0 HLB HLC
    go_enter Try.func13, Try.ntmps13
    go_wp2_with (go_at_call 15; refine (H1.out).mono ?_; rintro e w1 ⟨rfl, hb1⟩)
    have HB1 := hid_intro hb1
    clear hb1
    go_loopw [5] (fun z wr => ∃ k : Nat, k ≤ len ∧ z = .int .i64 k ∧ Hid (∀ i, i < k → (es.getD i N.zero).i ≠ id) ∧ Hid (Below w.heap.size w wr)) (fun z _ => len - (intOf z).toNat)
    case atStart => exact ⟨0, by omega, rfl, hid_intro (fun i h => absurd h (by omega)), HB1⟩
    case round =>
      obtain ⟨k, hk, rfl, HK, HB⟩ := hrel
      by_cases hlt : k < len
      · have hlt2 : (k : Int) < (len : Int) := by omega
        obtain ⟨b, off, rfl, hbl, c0, c1, c2⟩ := (HI.out.below HB.out).at k (by have := HL.out; omega)
        by_cases he : (es.getD k N.zero).i = id
        · have HQ : Hid (q = true) := hid_intro (HY.out k (by have := HL.out; omega) he)
          rw [he] at c0
          clear he
          generalize es.getD k N.zero = X at *
          go_wp2_with fail
          go_ret
          exact ⟨by rw [HQ.out]; rfl, HB.out⟩
        · have HK2 : Hid (∀ i, i < k + 1 → (es.getD i N.zero).i ≠ id) := hid_intro (fun i hi => by
            by_cases e : i = k
            · subst e; exact he
            · exact HK.out i (by omega))
          have hne : (es.getD k N.zero).i.toList ≠ id.toList := fun h => he (toList_inj h)
          have hne2 : ((es.getD k N.zero).i.toList == id.toList) = false := by simpa using hne
          clear he
          generalize es.getD k N.zero = X at *
          obtain ⟨xi, xn, xs⟩ := X
          dsimp only at hne hne2 c0 c1 c2
          go_wp2_with fail
          go_roundw
          case rel => exact ⟨k + 1, by omega, by go_num, HK2, HB⟩
          case measure => simp [intOf]; omega
      · have hlt2 : ¬ (k : Int) < (len : Int) := by omega
        obtain rfl : k = len := by omega
        have HQ : Hid (q = false) := hid_intro (HN.out (fun i hi => HK.out i (by have := HL.out; omega)))
        go_wp2_with fail
        go_ret
        exact ⟨by rw [HQ.out]; rfl, HB.out⟩
end SeenR
end Go.Proofs.Ytbhabplchcigfaa
