/-
  The law's own helpers over tiers and meters: their sizes, copies, and two held against each other. The condition: the tiers are at most 1048576.
-/
import Derived.Test.YtlhghjjgpdkekaaDoorTiS
import Derived.Test.YtlhghjjgpdkekaaDoorRowPt
import Derived.OwnWalk
import Derived.Deep.RegionWith
namespace Go.Proofs.YtlhghjjgpdkekaaDoor
open Go.ChangeShapes Go.WideShapes Go.ChangeAt Go.RowKit
set_option linter.unusedVariables false
namespace CatR
open EvtR (Pt cell_put cell_far)
theorem infoT : (Tryd.prog.info? 57).map (fun i => (i.zero, i.size, i.bytes)) = some (some (.agg #[.int .i64 0, .int .i64 0]), 2, 16) := by kernel_rfl
theorem pt_row {w : World} {g m : Nat} {cs : List Value} {T : TypeId} (hh : w.heap[g]? = some (.cells cs.toArray T (0, 0))) (hl : cs.length = m) : Pt g m w where
  lt := (Array.getElem?_eq_some_iff.1 hh).1
  has := fun o ho => ⟨cs[o]'(by omega), by simp [World.cell?, hh, hl, ho]⟩
  free := fun o ho => by simp [World.frozen?, hh]
theorem row_full {w : World} {base e g n s : Nat} {xs : List Value} (h : w.ownsRow base e s (.slice (some ⟨g, 0, none⟩) n n) n xs) : Pt g (n * s) w := by
  rcases h.2 with ⟨h1, _⟩ | ⟨g', cap, cur, h1, _, hg, _, _, hs, _⟩
  · simp at h1
  · simp at h1
    obtain ⟨rfl, rfl⟩ := h1
    exact pt_row (cs := cur.toList) (by simpa using hg) (by simpa using hs)
theorem tis_set {w wr : World} {g n k : Nat} {ts : List Ti} (hp : Pt g (n * 2) wr) (hk : k < n) (ha : ∀ i, i < k → TiAt wr g (i * 2) (ts.getD i Ti.zero)) :
    Pt g (n * 2) ((wr.setCell ⟨g, k * 2, none⟩ (.int .i64 (ts.getD k Ti.zero).u)).setCell ⟨g, k * 2 + 1, none⟩ (.int .i64 (ts.getD k Ti.zero).p)) ∧ ∀ i, i < k + 1 → TiAt ((wr.setCell ⟨g, k * 2, none⟩ (.int .i64 (ts.getD k Ti.zero).u)).setCell ⟨g, k * 2 + 1, none⟩ (.int .i64 (ts.getD k Ti.zero).p)) g (i * 2) (ts.getD i Ti.zero) := by
  refine ⟨(hp.set _ _).set _ _, fun i hi => ?_⟩
  by_cases e : i = k
  · subst e
    exact ⟨(cell_far _ _ (by omega) _).trans (cell_put hp _ (by omega) _), cell_put (hp.set _ _) _ (by omega) _⟩
  · have h := ha i (by omega)
    exact ⟨((cell_far _ _ (by omega) _).trans (cell_far _ _ (by omega) _)).trans h.1, ((cell_far _ _ (by omega) _).trans (cell_far _ _ (by omega) _)).trans h.2⟩
end CatR
end Go.Proofs.YtlhghjjgpdkekaaDoor
