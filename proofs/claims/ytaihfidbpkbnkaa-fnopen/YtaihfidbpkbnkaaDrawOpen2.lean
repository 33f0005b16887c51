/-
  A drawn day and list: what DrawNextOpen hands back. The condition: the bytes are at most 1048576.
-/
import Derived.Test.YtaihfidbpkbnkaaDrawOpen
namespace Go.Proofs.Ytaihfidbpkbnkaa
open Go.ChangeShapes Go.WideShapes Go.ChangeAt Go.RowKit
set_option linter.unusedVariables false
namespace DrawR
theorem below_own {w w1 w2 : World} (hb : Below w.heap.size w w1) (hg : w1.grownBy w2 (some w.heap.size)) : Below w.heap.size w w2 :=
  hb.grown hg hb.size (fun k e => by cases e; exact Nat.le_refl _)
/-- A day and a list. -/
def OpenOut (w : World) (e : Ending) (w' : World) : Prop := (∃ (d : Int) (b n c : Nat) (xs : List Int), e = .returned (.tuple #[.int .i64 d, .slice (some ⟨b, 0, none⟩) n c]) ∧ n ≤ 100 ∧ DateR.Ints (some ⟨b, 0, none⟩) n xs w') ∧ Below w.heap.size w w'
set_option maxRecDepth 100000 in
set_option maxHeartbeats 4000000 in
theorem dfree_any (ao : Option Addr) (len cap : Nat) (w : World) (hlen : len ≤ 1048576) (hB : Bytes ao len w) :
    Calls Try.prog 9 #[.slice ao len cap] w fun e w' => OpenOut w e w' := by
  have h1 := source_any ao len cap w hlen hB
  clear hB
  go_enter Try.func9, Try.ntmps9
  go_wp2_with fail
  refine h1.mono ?_
  rintro e w1 ⟨rfl, hS1, hb1⟩
  have HS1 := hid_intro hS1
  have HB1 := hid_intro hb1
  clear hS1 hb1 h1
  go_wp2_with fail
  refine (day_any ao len cap w.heap.size _ HS1.out).mono ?_
  rintro e w2 ⟨⟨d, rfl, hd1, hd2⟩, hS, hg⟩
  have HS2 := hid_intro hS
  have HB2 := hid_intro (below_own HB1.out hg)
  clear hS hg
  go_wp2_with fail
  refine (one_any ao len cap w.heap.size 2 _ (by omega) HS2.out).mono ?_
  rintro e w3 ⟨⟨q, rfl⟩, hS, hg⟩
  have HS3 := hid_intro hS
  have HB3 := hid_intro (below_own HB2.out hg)
  clear hS hg
  cases q
  · go_wp2_with fail
    refine (free_any ao len cap w.heap.size _ HS3.out).mono ?_
    rintro e w4 ⟨⟨b, n, c, xs, rfl, hn, hI⟩, hS, hg⟩
    have HI := hid_intro hI
    have HB4 := hid_intro (below_own HB3.out hg)
    clear hS hg hI
    go_wp2
    go_ret2
    exact ⟨⟨_, b, n, c, xs, rfl, hn, HI.out⟩, HB4.out⟩
  · go_wp2_with fail
    refine (n_any ao len cap w.heap.size 30 _ (by omega) HS3.out).mono ?_
    rintro e w4 ⟨x, rfl, hx0, hx1, hx2, hS, hg⟩
    have hx3 : x < 30 := hx2 (by omega)
    have HS4 := hid_intro hS
    have HB4 := hid_intro (below_own HB3.out hg)
    clear hx1 hx2 hS hg
    go_wp2_with fail
    refine (free_any ao len cap w.heap.size _ HS4.out).mono ?_
    rintro e w5 ⟨⟨b, n, c, xs, rfl, hn, hI⟩, hS, hg⟩
    have HI := hid_intro hI
    have HB5 := hid_intro (below_own HB4.out hg)
    clear hS hg hI
    go_wp2
    go_ret2
    exact ⟨⟨_, b, n, c, xs, rfl, hn, HI.out⟩, HB5.out⟩
theorem dopen_any (ao : Option Addr) (len cap : Nat) (w : World) (hlen : len ≤ 1048576) (hB : Bytes ao len w) :
    Calls Try.prog 4 #[.slice ao len cap] w fun e w' => OpenOut w e w' := by
  have h1 := dfree_any ao len cap w hlen hB
  clear hB
  go_enter Try.func4, Try.ntmps4
  go_wp2_with (go_at_call 9; refine h1.mono ?_; rintro e w1 ⟨⟨d, b, n, c, xs, rfl, hn, hI⟩, hb⟩)
  go_ret2
  exact ⟨⟨_, b, n, c, xs, rfl, hn, hI⟩, hb⟩
end DrawR
end Go.Proofs.Ytaihfidbpkbnkaa
