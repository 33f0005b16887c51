/-
  What either side hands back of a batch's text: a list of its own and a code. The condition: the text has at most 1048576 bytes.
-/
import Derived.Test.YtmilejcpdfhmmaaRowPt
import Derived.Test.YtmilejcpdfhmmaaBatEq
namespace Go.Proofs.Ytmilejcpdfhmmaa
open Go.ChangeShapes Go.WideShapes Go.ChangeAt Go.RowKit
set_option linter.unusedVariables false
namespace EvtR
open GetR NumsR
theorem bat_len {s : ByteArray} {l : List E} (h : batS s = some l) : l.length ≤ 20 := by
  unfold batS at h
  by_cases hc : 0 ≤ rN s (some 0) ∧ rN s (some 0) ≤ 20
  · rw [if_pos hc] at h
    obtain ⟨C, hC⟩ : ∃ C : Nat, rN s (some 0) = C := ⟨(rN s (some 0)).toNat, by omega⟩
    rw [hC, Int.toNat_natCast] at h
    obtain ⟨l', o, hS⟩ : ∃ l o, evsS s (pN s (some 0)) C = (l, o) := ⟨_, _, rfl⟩
    rw [hS] at h
    simp only at h
    cases o with
    | none => simp at h
    | some q =>
      obtain ⟨_, _, _, _, hl, _⟩ := whole s C l' q hC hS
      split at h
      · obtain rfl : l' = l := by simpa using h
        omega
      · simp at h
  · rw [if_neg hc] at h
    simp at h
/-- A list of events that a call has made. -/
structure Made (base : Nat) (ao : Option Addr) (l : List E) (w : World) : Prop where
  evs : Evs ao l.length l w
  own : l = [] ∨ ∃ g, ao = some ⟨g, 0, none⟩ ∧ base ≤ g ∧ Pt g (l.length * 6) w
def Res (w : World) (l : List E) (c : Int) (e : Ending) (w' : World) : Prop := ∃ ao cap, e = .returned (.agg #[.slice ao l.length cap, .int .i64 c]) ∧ Made w.heap.size ao l w' ∧ Below w.heap.size w w'
theorem nil_made (base : Nat) (ao : Option Addr) (w : World) : Made base ao [] w := ⟨⟨rfl, .inl rfl⟩, .inl rfl⟩
theorem own_made {w : World} {base : Nat} {v : Value} {l : List E} (h : w.ownsRow base 31 6 v l.length (cellsOf l)) : ∃ ao cap, v = .slice ao l.length cap ∧ Made base ao l w := by
  rcases h.2 with ⟨h0, h1⟩ | ⟨g, cap, cur, hv, hg, hh, hc, _, hz, _⟩
  · obtain rfl : l = [] := List.length_eq_zero_iff.1 h1
    exact ⟨none, 0, h0, nil_made _ _ _⟩
  · obtain ⟨g', cap', hv', hE⟩ := own_evs rfl h (by rw [hv]; simp)
    rw [hv] at hv'
    obtain ⟨rfl, rfl⟩ : g = g' ∧ cap = cap' := by simpa using hv'
    have hm : l.length * 6 ≤ cur.size := by rw [hz]; exact Nat.mul_le_mul_right _ hc
    refine ⟨_, _, hv, hE, .inr ⟨g, rfl, hg, (h.lt g (by rw [hv]; rfl)).2, fun o ho => ?_, fun o ho => ?_⟩⟩
    · have : o < cur.size := by omega
      refine ⟨cur[o], ?_⟩
      simp [World.cell?, hh, this]
    · simp [World.frozen?, hh]
theorem res_of {w w' : World} {r : Option (List E)} {e : Ending} (h : BOut w r e w') : Res w (r.getD []) (if r.isSome then 0 else 3) e w' := by
  cases r with
  | none => exact ⟨none, 0, h.1, nil_made _ _ _, h.2⟩
  | some l =>
    obtain ⟨⟨v, he, ho⟩, hb⟩ := h
    obtain ⟨ao, cap, rfl, hm⟩ := own_made ho
    exact ⟨ao, cap, he, hm, hb⟩
theorem impl_big (s : ByteArray) (w : World) (h : 8000 < s.size) (h2 : s.size ≤ 1048576) : Calls Try.prog 9 #[.string s] w fun e w' => e = .returned (.agg #[.slice none 0 0, .int .i64 2]) ∧ Below w.heap.size w w' := by
  have h' : (8000 : Int) < (s.size : Int) := by omega
  go_enter Try.func9, Try.ntmps9
  go_wp2_with fail
  refine bodyPost_ret (v := .agg #[.slice none 0 0, .int .i64 2]) (by simp [results, Try.results9, go_sem]) rfl ⟨rfl, ?_⟩
  repeat' first | exact Below.refl _ _ | apply Below.setCell | apply Below.alloc
  all_goals first | omega | (simp; done) | (simp; omega)
theorem spec_big (s : ByteArray) (w : World) (h : 8000 < s.size) (h2 : s.size ≤ 1048576) : Calls Try.prog 13 #[.string s] w fun e w' => e = .returned (.agg #[.slice none 0 0, .int .i64 2]) ∧ Below w.heap.size w w' := by
  have h' : (8000 : Int) < (s.size : Int) := by omega
  go_enter Try.func13, Try.ntmps13
  go_wp2_with fail
  refine bodyPost_ret (v := .agg #[.slice none 0 0, .int .i64 2]) (by simp [results, Try.results13, go_sem]) rfl ⟨rfl, ?_⟩
  repeat' first | exact Below.refl _ _ | apply Below.setCell | apply Below.alloc
  all_goals first | omega | (simp; done) | (simp; omega)
/-- What either side hands back. -/
theorem both (s : ByteArray) (h : s.size ≤ 1048576) : ∃ l c, l.length ≤ 20 ∧ (∀ w, Calls Try.prog 13 #[.string s] w fun e w' => Res w l c e w') ∧ ∀ w, Calls Try.prog 9 #[.string s] w fun e w' => Res w l c e w' := by
  by_cases h8 : 8000 < s.size
  · exact ⟨[], 2, by simp, fun w => (spec_big s w h8 h).mono fun e w' h => ⟨none, 0, h.1, nil_made _ _ _, h.2⟩, fun w => (impl_big s w h8 h).mono fun e w' h => ⟨none, 0, h.1, nil_made _ _ _, h.2⟩⟩
  · refine ⟨(batS s).getD [], if (batS s).isSome then 0 else 3, ?_, fun w => (spec_bread s w (by omega)).mono fun e w' h => res_of h, fun w => (impl_bread s w (by omega)).mono fun e w' h => ?_⟩
    · cases hb : batS s with
      | none => simp
      | some l => exact bat_len hb
    · rw [← bat_eq] at h
      exact res_of h
end EvtR
end Go.Proofs.Ytmilejcpdfhmmaa
