/-
  What the desk sells, as the program and the model lay it. No condition.
-/
import Derived.Test.YtlhghjjgpdkekaaDoorCatW
import Derived.Test.YtlhghjjgpdkekaaDoorBlk
import Derived.Test.YtlhghjjgpdkekaaDoorCaC
namespace Go.Proofs.YtlhghjjgpdkekaaDoor
open Go.ChangeShapes Go.WideShapes Go.ChangeAt Go.RowKit
set_option linter.unusedVariables false
set_option linter.unusedSimpArgs false
namespace DeskC
open CatR
def cpu : Me := ⟨⟨#[99, 112, 117]⟩, 1, false, 10, 0, [⟨100, 50⟩, ⟨1000000000000, 20⟩]⟩
def disk : Me := ⟨⟨#[100, 105, 115, 107]⟩, 2, true, 0, 500, [⟨50, 9⟩, ⟨200, 7⟩, ⟨1000000000000, 5⟩]⟩
def users : Me := ⟨⟨#[117, 115, 101, 114, 115]⟩, 3, false, 0, 0, [⟨1000000000000, 1000⟩]⟩
def deskCa : Ca := ⟨[cpu, disk, users], [⟨⟨#[97, 110, 110]⟩, 3000⟩]⟩
theorem desk_small : deskCa.Small := by
  refine ⟨by simp [deskCa], fun i hi => ?_, by simp [deskCa], fun i hi => ?_⟩
  · have h3 : i < 3 := by simpa [deskCa] using hi
    rcases (show i = 0 ∨ i = 1 ∨ i = 2 by omega) with rfl | rfl | rfl
    all_goals exact ⟨by show ByteArray.size _ ≤ _; decide, by show List.length _ ≤ _; decide⟩
  · have h1 : i = 0 := by have : i < 1 := by simpa [deskCa] using hi
                          omega
    subst h1
    show ByteArray.size _ ≤ _
    decide
/-- What the desk sells, as it was laid: three meters, their tiers, a credit. -/
def Lay (w : World) (a b p q r : Nat) (W : World) : Prop := Blk a [.string ⟨#[99, 112, 117]⟩, .int .i64 1, .bool false, .int .i64 10, .int .i64 0, .slice (some ⟨p, 0, none⟩) 2 2, .string ⟨#[100, 105, 115, 107]⟩, .int .i64 2, .bool true, .int .i64 0, .int .i64 500, .slice (some ⟨q, 0, none⟩) 3 3, .string ⟨#[117, 115, 101, 114, 115]⟩, .int .i64 3, .bool false, .int .i64 0, .int .i64 0, .slice (some ⟨r, 0, none⟩) 1 1] W ∧ Blk p [.int .i64 100, .int .i64 50, .int .i64 1000000000000, .int .i64 20] W ∧ Blk q [.int .i64 50, .int .i64 9, .int .i64 200, .int .i64 7, .int .i64 1000000000000, .int .i64 5] W ∧ Blk r [.int .i64 1000000000000, .int .i64 1000] W ∧ Blk b [.string ⟨#[97, 110, 110]⟩, .int .i64 3000] W ∧ Below w.heap.size w W
theorem Lay.mes {w W : World} {a b p q r : Nat} (h : Lay w a b p q r W) : Mes (some ⟨a, 0, none⟩) 3 deskCa.ms W ∧ Crs (some ⟨b, 0, none⟩) 1 deskCa.cs W := by
  obtain ⟨⟨a1, a2⟩, ⟨p1, p2⟩, ⟨q1, q2⟩, ⟨r1, r2⟩, ⟨b1, b2⟩, _⟩ := h
  refine ⟨⟨rfl, .inr ⟨a, 0, rfl, a1, fun j hj => ?_⟩⟩, ⟨rfl, .inr ⟨b, 0, rfl, b1, fun j hj => ?_⟩⟩⟩
  · rcases (show j = 0 ∨ j = 1 ∨ j = 2 by omega) with rfl | rfl | rfl
    · refine ⟨some ⟨p, 0, none⟩, 2, a2 0 (by simp), a2 1 (by simp), a2 2 (by simp), a2 3 (by simp), a2 4 (by simp), a2 5 (by simp), rfl, .inr ⟨p, 0, rfl, p1, fun k hk => ?_⟩⟩
      have hk2 : k < 2 := hk
      rcases (show k = 0 ∨ k = 1 by omega) with rfl | rfl
      · exact ⟨p2 0 (by simp), p2 1 (by simp)⟩
      · exact ⟨p2 2 (by simp), p2 3 (by simp)⟩
    · refine ⟨some ⟨q, 0, none⟩, 3, a2 6 (by simp), a2 7 (by simp), a2 8 (by simp), a2 9 (by simp), a2 10 (by simp), a2 11 (by simp), rfl, .inr ⟨q, 0, rfl, q1, fun k hk => ?_⟩⟩
      have hk2 : k < 3 := hk
      rcases (show k = 0 ∨ k = 1 ∨ k = 2 by omega) with rfl | rfl | rfl
      · exact ⟨q2 0 (by simp), q2 1 (by simp)⟩
      · exact ⟨q2 2 (by simp), q2 3 (by simp)⟩
      · exact ⟨q2 4 (by simp), q2 5 (by simp)⟩
    · refine ⟨some ⟨r, 0, none⟩, 1, a2 12 (by simp), a2 13 (by simp), a2 14 (by simp), a2 15 (by simp), a2 16 (by simp), a2 17 (by simp), rfl, .inr ⟨r, 0, rfl, r1, fun k hk => ?_⟩⟩
      have hk2 : k < 1 := hk
      obtain rfl : k = 0 := by omega
      exact ⟨r2 0 (by simp), r2 1 (by simp)⟩
  · obtain rfl : j = 0 := by omega
    exact ⟨b2 0 (by simp), b2 1 (by simp)⟩
theorem blk_at {w : World} {b : Nat} {cs : List Value} {T : TypeId} (h : w.heap.size = b) : Blk b cs (w.alloc (.cells cs.toArray T)) := by subst h; exact Blk.new w cs T
theorem al1 {w W : World} (h : Below w.heap.size w W) (o : Obj) : Below w.heap.size w (W.alloc o) := h.alloc h.size o
set_option maxRecDepth 100000 in
set_option maxHeartbeats 8000000 in
theorem idesk (w : World) : Calls Tryd.prog 12 #[] w fun e w' => ∃ a b p q r : Nat, e = .returned (.agg #[.slice (some ⟨a, 0, none⟩) 3 3, .slice (some ⟨b, 0, none⟩) 1 1]) ∧ Lay w a b p q r w' := by
  go_enter Tryd.func12, Tryd.ntmps12
  go_wp2_with fail
  refine bodyPost_ret (v := .agg #[.slice (some ⟨w.heap.size + 1 + 1 + 1 + 1 + 1 + 1 + 1, 0, none⟩) 3 3, .slice (some ⟨w.heap.size + 1 + 1 + 1 + 1 + 1 + 1 + 1 + 1, 0, none⟩) 1 1]) (by simp [results, Tryd.results12, go_sem]) rfl ⟨_, _, w.heap.size + 1, w.heap.size + 1 + 1 + 1, w.heap.size + 1 + 1 + 1 + 1 + 1, rfl, ?_⟩
  obtain ⟨k0, h0⟩ : ∃ z, z = w.alloc (.cells #[.slice (some ⟨w.heap.size + 1 + 1 + 1 + 1 + 1 + 1 + 1, 0, none⟩) 3 3, .slice (some ⟨w.heap.size + 1 + 1 + 1 + 1 + 1 + 1 + 1 + 1, 0, none⟩) 1 1] 25) := ⟨_, rfl⟩
  have z0 : k0.heap.size = w.heap.size + 1 := by rw [h0]; simp
  obtain ⟨k1, h1⟩ : ∃ z, z = k0.alloc (.cells #[.int .i64 100, .int .i64 50, .int .i64 1000000000000, .int .i64 20] 57) := ⟨_, rfl⟩
  have z1 : k1.heap.size = w.heap.size + 1 + 1 := by rw [h1]; simp [z0]
  obtain ⟨k2, h2⟩ : ∃ z, z = k1.alloc (.cells #[.string ⟨#[99, 112, 117]⟩, .int .i64 1, .bool false, .int .i64 10, .int .i64 0, .slice (some ⟨w.heap.size + 1, 0, none⟩) 2 2] 39) := ⟨_, rfl⟩
  have z2 : k2.heap.size = w.heap.size + 1 + 1 + 1 := by rw [h2]; simp [z1]
  obtain ⟨k3, h3⟩ : ∃ z, z = k2.alloc (.cells #[.int .i64 50, .int .i64 9, .int .i64 200, .int .i64 7, .int .i64 1000000000000, .int .i64 5] 57) := ⟨_, rfl⟩
  have z3 : k3.heap.size = w.heap.size + 1 + 1 + 1 + 1 := by rw [h3]; simp [z2]
  obtain ⟨k4, h4⟩ : ∃ z, z = k3.alloc (.cells #[.string ⟨#[100, 105, 115, 107]⟩, .int .i64 2, .bool true, .int .i64 0, .int .i64 500, .slice (some ⟨w.heap.size + 1 + 1 + 1, 0, none⟩) 3 3] 39) := ⟨_, rfl⟩
  have z4 : k4.heap.size = w.heap.size + 1 + 1 + 1 + 1 + 1 := by rw [h4]; simp [z3]
  obtain ⟨k5, h5⟩ : ∃ z, z = k4.alloc (.cells #[.int .i64 1000000000000, .int .i64 1000] 57) := ⟨_, rfl⟩
  have z5 : k5.heap.size = w.heap.size + 1 + 1 + 1 + 1 + 1 + 1 := by rw [h5]; simp [z4]
  obtain ⟨k6, h6⟩ : ∃ z, z = k5.alloc (.cells #[.string ⟨#[117, 115, 101, 114, 115]⟩, .int .i64 3, .bool false, .int .i64 0, .int .i64 0, .slice (some ⟨w.heap.size + 1 + 1 + 1 + 1 + 1, 0, none⟩) 1 1] 39) := ⟨_, rfl⟩
  have z6 : k6.heap.size = w.heap.size + 1 + 1 + 1 + 1 + 1 + 1 + 1 := by rw [h6]; simp [z5]
  obtain ⟨k7, h7⟩ : ∃ z, z = k6.alloc (.cells #[.string ⟨#[99, 112, 117]⟩, .int .i64 1, .bool false, .int .i64 10, .int .i64 0, .slice (some ⟨w.heap.size + 1, 0, none⟩) 2 2, .string ⟨#[100, 105, 115, 107]⟩, .int .i64 2, .bool true, .int .i64 0, .int .i64 500, .slice (some ⟨w.heap.size + 1 + 1 + 1, 0, none⟩) 3 3, .string ⟨#[117, 115, 101, 114, 115]⟩, .int .i64 3, .bool false, .int .i64 0, .int .i64 0, .slice (some ⟨w.heap.size + 1 + 1 + 1 + 1 + 1, 0, none⟩) 1 1] 39) := ⟨_, rfl⟩
  have z7 : k7.heap.size = w.heap.size + 1 + 1 + 1 + 1 + 1 + 1 + 1 + 1 := by rw [h7]; simp [z6]
  obtain ⟨k8, h8⟩ : ∃ z, z = k7.alloc (.cells #[.string ⟨#[97, 110, 110]⟩, .int .i64 3000] 59) := ⟨_, rfl⟩
  have z8 : k8.heap.size = w.heap.size + 1 + 1 + 1 + 1 + 1 + 1 + 1 + 1 + 1 := by rw [h8]; simp [z7]
  have b1 : Blk (w.heap.size + 1) [.int .i64 100, .int .i64 50, .int .i64 1000000000000, .int .i64 20] k8 := by
    rw [h8, h7, h6, h5, h4, h3, h2, h1]
    exact ((((((((blk_at z0)).alloc _).alloc _).alloc _).alloc _).alloc _).alloc _).alloc _
  have b3 : Blk (w.heap.size + 1 + 1 + 1) [.int .i64 50, .int .i64 9, .int .i64 200, .int .i64 7, .int .i64 1000000000000, .int .i64 5] k8 := by
    rw [h8, h7, h6, h5, h4, h3]
    exact ((((((blk_at z2)).alloc _).alloc _).alloc _).alloc _).alloc _
  have b5 : Blk (w.heap.size + 1 + 1 + 1 + 1 + 1) [.int .i64 1000000000000, .int .i64 1000] k8 := by
    rw [h8, h7, h6, h5]
    exact ((((blk_at z4)).alloc _).alloc _).alloc _
  have b7 : Blk (w.heap.size + 1 + 1 + 1 + 1 + 1 + 1 + 1) [.string ⟨#[99, 112, 117]⟩, .int .i64 1, .bool false, .int .i64 10, .int .i64 0, .slice (some ⟨w.heap.size + 1, 0, none⟩) 2 2, .string ⟨#[100, 105, 115, 107]⟩, .int .i64 2, .bool true, .int .i64 0, .int .i64 500, .slice (some ⟨w.heap.size + 1 + 1 + 1, 0, none⟩) 3 3, .string ⟨#[117, 115, 101, 114, 115]⟩, .int .i64 3, .bool false, .int .i64 0, .int .i64 0, .slice (some ⟨w.heap.size + 1 + 1 + 1 + 1 + 1, 0, none⟩) 1 1] k8 := by
    rw [h8, h7]
    exact ((blk_at z6)).alloc _
  have b8 : Blk (w.heap.size + 1 + 1 + 1 + 1 + 1 + 1 + 1 + 1) [.string ⟨#[97, 110, 110]⟩, .int .i64 3000] k8 := by
    rw [h8]
    exact (blk_at z7)
  have bb : Below w.heap.size w k8 := by
    rw [h8, h7, h6, h5, h4, h3, h2, h1, h0]
    exact al1 (al1 (al1 (al1 (al1 (al1 (al1 (al1 (al1 ((Below.refl _ _)) _) _) _) _) _) _) _) _) _
  rw [← h0, ← h1, ← h2, ← h3, ← h4, ← h5, ← h6, ← h7, ← h8]
  exact ⟨b7, b1, b3, b5, b8, bb⟩
set_option maxRecDepth 100000 in
set_option maxHeartbeats 8000000 in
theorem splain (w : World) : Calls Tryd.prog 9 #[] w fun e w' => ∃ a b p q n r : Nat, e = .returned (.agg #[.slice (some ⟨a, 0, none⟩) 4 4, .slice (some ⟨b, 0, none⟩) 1 1]) ∧ Blk a [.string ⟨#[99, 112, 117]⟩, .int .i64 1, .bool false, .int .i64 10, .int .i64 0, .slice (some ⟨p, 0, none⟩) 2 2, .string ⟨#[100, 105, 115, 107]⟩, .int .i64 2, .bool true, .int .i64 0, .int .i64 500, .slice (some ⟨q, 0, none⟩) 3 3, .string ⟨#[110, 101, 116]⟩, .int .i64 4, .bool false, .int .i64 0, .int .i64 0, .slice (some ⟨n, 0, none⟩) 1 1, .string ⟨#[117, 115, 101, 114, 115]⟩, .int .i64 3, .bool false, .int .i64 0, .int .i64 0, .slice (some ⟨r, 0, none⟩) 1 1] w' ∧ Blk p [.int .i64 100, .int .i64 50, .int .i64 1000000000000, .int .i64 20] w' ∧ Blk q [.int .i64 50, .int .i64 9, .int .i64 200, .int .i64 7, .int .i64 1000000000000, .int .i64 5] w' ∧ Blk r [.int .i64 1000000000000, .int .i64 1000] w' ∧ Blk b [.string ⟨#[97, 110, 110]⟩, .int .i64 3000] w' ∧ Below w.heap.size w w' := by
  go_enter Tryd.func9, Tryd.ntmps9
  go_wp2_with fail
  refine bodyPost_ret (v := .agg #[.slice (some ⟨w.heap.size + 1 + 1 + 1 + 1 + 1, 0, none⟩) 4 4, .slice (some ⟨w.heap.size + 1 + 1 + 1 + 1 + 1 + 1, 0, none⟩) 1 1]) (by simp [results, Tryd.results9, go_sem]) rfl ⟨_, _, w.heap.size + 1, w.heap.size + 1 + 1, w.heap.size + 1 + 1 + 1, w.heap.size + 1 + 1 + 1 + 1, rfl, ?_⟩
  obtain ⟨k0, h0⟩ : ∃ z, z = w.alloc (.cells #[.slice (some ⟨w.heap.size + 1 + 1 + 1 + 1 + 1, 0, none⟩) 4 4, .slice (some ⟨w.heap.size + 1 + 1 + 1 + 1 + 1 + 1, 0, none⟩) 1 1] 25) := ⟨_, rfl⟩
  have z0 : k0.heap.size = w.heap.size + 1 := by rw [h0]; simp
  obtain ⟨k1, h1⟩ : ∃ z, z = k0.alloc (.cells #[.int .i64 100, .int .i64 50, .int .i64 1000000000000, .int .i64 20] 57) := ⟨_, rfl⟩
  have z1 : k1.heap.size = w.heap.size + 1 + 1 := by rw [h1]; simp [z0]
  obtain ⟨k2, h2⟩ : ∃ z, z = k1.alloc (.cells #[.int .i64 50, .int .i64 9, .int .i64 200, .int .i64 7, .int .i64 1000000000000, .int .i64 5] 57) := ⟨_, rfl⟩
  have z2 : k2.heap.size = w.heap.size + 1 + 1 + 1 := by rw [h2]; simp [z1]
  obtain ⟨k3, h3⟩ : ∃ z, z = k2.alloc (.cells #[.int .i64 1000000000000, .int .i64 3] 57) := ⟨_, rfl⟩
  have z3 : k3.heap.size = w.heap.size + 1 + 1 + 1 + 1 := by rw [h3]; simp [z2]
  obtain ⟨k4, h4⟩ : ∃ z, z = k3.alloc (.cells #[.int .i64 1000000000000, .int .i64 1000] 57) := ⟨_, rfl⟩
  have z4 : k4.heap.size = w.heap.size + 1 + 1 + 1 + 1 + 1 := by rw [h4]; simp [z3]
  obtain ⟨k5, h5⟩ : ∃ z, z = k4.alloc (.cells #[.string ⟨#[99, 112, 117]⟩, .int .i64 1, .bool false, .int .i64 10, .int .i64 0, .slice (some ⟨w.heap.size + 1, 0, none⟩) 2 2, .string ⟨#[100, 105, 115, 107]⟩, .int .i64 2, .bool true, .int .i64 0, .int .i64 500, .slice (some ⟨w.heap.size + 1 + 1, 0, none⟩) 3 3, .string ⟨#[110, 101, 116]⟩, .int .i64 4, .bool false, .int .i64 0, .int .i64 0, .slice (some ⟨w.heap.size + 1 + 1 + 1, 0, none⟩) 1 1, .string ⟨#[117, 115, 101, 114, 115]⟩, .int .i64 3, .bool false, .int .i64 0, .int .i64 0, .slice (some ⟨w.heap.size + 1 + 1 + 1 + 1, 0, none⟩) 1 1] 39) := ⟨_, rfl⟩
  have z5 : k5.heap.size = w.heap.size + 1 + 1 + 1 + 1 + 1 + 1 := by rw [h5]; simp [z4]
  obtain ⟨k6, h6⟩ : ∃ z, z = k5.alloc (.cells #[.string ⟨#[97, 110, 110]⟩, .int .i64 3000] 59) := ⟨_, rfl⟩
  have z6 : k6.heap.size = w.heap.size + 1 + 1 + 1 + 1 + 1 + 1 + 1 := by rw [h6]; simp [z5]
  have b1 : Blk (w.heap.size + 1) [.int .i64 100, .int .i64 50, .int .i64 1000000000000, .int .i64 20] k6 := by
    rw [h6, h5, h4, h3, h2, h1]
    exact ((((((blk_at z0)).alloc _).alloc _).alloc _).alloc _).alloc _
  have b2 : Blk (w.heap.size + 1 + 1) [.int .i64 50, .int .i64 9, .int .i64 200, .int .i64 7, .int .i64 1000000000000, .int .i64 5] k6 := by
    rw [h6, h5, h4, h3, h2]
    exact (((((blk_at z1)).alloc _).alloc _).alloc _).alloc _
  have b4 : Blk (w.heap.size + 1 + 1 + 1 + 1) [.int .i64 1000000000000, .int .i64 1000] k6 := by
    rw [h6, h5, h4]
    exact (((blk_at z3)).alloc _).alloc _
  have b5 : Blk (w.heap.size + 1 + 1 + 1 + 1 + 1) [.string ⟨#[99, 112, 117]⟩, .int .i64 1, .bool false, .int .i64 10, .int .i64 0, .slice (some ⟨w.heap.size + 1, 0, none⟩) 2 2, .string ⟨#[100, 105, 115, 107]⟩, .int .i64 2, .bool true, .int .i64 0, .int .i64 500, .slice (some ⟨w.heap.size + 1 + 1, 0, none⟩) 3 3, .string ⟨#[110, 101, 116]⟩, .int .i64 4, .bool false, .int .i64 0, .int .i64 0, .slice (some ⟨w.heap.size + 1 + 1 + 1, 0, none⟩) 1 1, .string ⟨#[117, 115, 101, 114, 115]⟩, .int .i64 3, .bool false, .int .i64 0, .int .i64 0, .slice (some ⟨w.heap.size + 1 + 1 + 1 + 1, 0, none⟩) 1 1] k6 := by
    rw [h6, h5]
    exact ((blk_at z4)).alloc _
  have b6 : Blk (w.heap.size + 1 + 1 + 1 + 1 + 1 + 1) [.string ⟨#[97, 110, 110]⟩, .int .i64 3000] k6 := by
    rw [h6]
    exact (blk_at z5)
  have bb : Below w.heap.size w k6 := by
    rw [h6, h5, h4, h3, h2, h1, h0]
    exact al1 (al1 (al1 (al1 (al1 (al1 (al1 ((Below.refl _ _)) _) _) _) _) _) _) _
  rw [← h0, ← h1, ← h2, ← h3, ← h4, ← h5, ← h6]
  exact ⟨b5, b1, b2, b4, b6, bb⟩
end DeskC
end Go.Proofs.YtlhghjjgpdkekaaDoor
