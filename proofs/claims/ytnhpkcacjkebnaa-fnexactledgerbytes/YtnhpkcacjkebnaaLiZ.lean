/-
  What a list of lines that the law does not pass by is like. No condition.
-/
import Derived.Test.YtnhpkcacjkebnaaLiR
import Derived.Test.YtnhpkcacjkebnaaLiIn
namespace Go.Proofs.Ytnhpkcacjkebnaa
open Go.RowKit
namespace LinR
open RowG
theorem szL_mem {es : List N} {e : N} (h : e ∈ es) : (e.i.size : Int) ≤ szL es := by
  induction es with
  | nil => cases h
  | cons x es ih =>
    have hn := szL_nn es
    have hx : szL (x :: es) = (x.i.size : Int) + szL es := by simp [szL]
    rcases List.mem_cons.1 h with rfl | h
    · omega
    · have := ih h; omega
theorem sz_small {es : List N} (h : ¬ szR es < 0) : es.length ≤ 1048576 ∧ (∀ e ∈ es, e.i.size ≤ 1048576) ∧ 0 ≤ szR es ∧ szR es ≤ 1048576 := by
  unfold szR at *
  have hn := szL_nn es
  by_cases q : (es.length : Int) + szL es ≤ 1048576
  · rw [if_pos q]
    exact ⟨by omega, fun e he => by have := szL_mem he; omega, by omega, by omega⟩
  · rw [if_neg q] at h
    exact absurd (by omega) h
end LinR
end Go.Proofs.Ytnhpkcacjkebnaa
