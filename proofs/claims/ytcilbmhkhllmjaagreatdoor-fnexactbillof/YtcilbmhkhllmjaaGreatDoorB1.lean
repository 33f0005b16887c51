/-
  Small facts that the other texts use: what a call hands back, read as one equation. No condition.
  A row of cells that may be written. No condition.
  Rows of things of so many cells each, read, written cell by cell, made by append. No condition.
  Arithmetic alone: leap years, the days of months and years, and which year and month a day lies in. No condition.
  Arithmetic alone: the first day of a month that is counted from January 1970, and which month a right date lies in. No condition.
  What the program calls a name is what the model calls one, of every text of at most 1048576 bytes. No condition.
  A text of seen bytes alone (33 to 126): what the program says rune by rune and what the model says byte by byte. No condition but the length.
  What a right Id and a minute are: both sides say the same. No condition but the lengths.
  What a right event is: both sides say the same. No condition but the lengths.
  The order of texts. No condition.
-/
import Derived.Test.YtcilbmhkhllmjaaGreatDoorRows
import Derived.WalkKit
import Derived.ProofKit
import Derived.OpenShut
import Derived.ShutString
import Derived.Below
import Derived.WalkSpells
import Derived.WalkLawsBesides
import Derived.OwnWalk
import Derived.Laws.RangeAny
import Derived.Deep.RegionHeld3
namespace Go.Proofs.YtcilbmhkhllmjaaGreatDoor
open Go.RowKit
theorem ret_bool {a b : Bool} (h : a = b) : Ending.returned (.bool a) = .returned (.bool b) := by rw [h]
theorem ret_int {k : IntKind} {a b : Int} (h : a = b) : Ending.returned (.int k a) = .returned (.int k b) := by rw [h]
theorem ret_str {a b : ByteArray} (h : a = b) : Ending.returned (.string a) = .returned (.string b) := by rw [h]
theorem bcell {W w1 : World} (hb : Below W.heap.size W w1) : (∀ b o, b < W.heap.size → w1.cell? ⟨b, o, none⟩ = W.cell? ⟨b, o, none⟩) ∧ (∀ b o, b < W.heap.size → w1.frozen? ⟨b, o, none⟩ = W.frozen? ⟨b, o, none⟩) :=
  ⟨fun b o h => hb.cell (p := ⟨b, o, none⟩) h, fun b o h => hb.frozen (p := ⟨b, o, none⟩) h⟩
theorem bel_alloc {w w1 : World} {o : Obj} (h : Below (w.alloc o).heap.size (w.alloc o) w1) : Below w.heap.size w w1 :=
  ((Below.refl _ _).alloc (Nat.le_refl _) _).trans (h.mono (by simp))
theorem bel_alloc_drew {w w1 : World} {o : Obj} (h : Below (w.alloc o).drew.heap.size (w.alloc o).drew w1) : Below w.heap.size w w1 :=
  (((Below.refl _ _).alloc (Nat.le_refl _) _).drew).trans (h.mono (by simp))
end Go.Proofs.YtcilbmhkhllmjaaGreatDoor
namespace Go.Proofs.YtcilbmhkhllmjaaGreatDoor
open Go.ChangeShapes Go.WideShapes Go.ChangeAt Go.RowKit
set_option linter.unusedVariables false
namespace EvtR
/-- Cells that may be written. -/
structure Pt (g m : Nat) (w : World) : Prop where
  lt : g < w.heap.size
  has : ∀ o, o < m → ∃ v, w.cell? ⟨g, o, none⟩ = some v
  free : ∀ o, o < m → w.frozen? ⟨g, o, none⟩ = false
theorem Pt.below {g m : Nat} {w w' : World} (h : Pt g m w) (hb : Below w.heap.size w w') : Pt g m w' :=
  ⟨by have := hb.size; have := h.lt; omega, fun o ho => by obtain ⟨v, hv⟩ := h.has o ho; exact ⟨v, (hb.cell (p := ⟨g, o, none⟩) h.lt).trans hv⟩, fun o ho => (hb.frozen (p := ⟨g, o, none⟩) h.lt).trans (h.free o ho)⟩
theorem cell_put {g m : Nat} {w : World} (h : Pt g m w) (o : Nat) (ho : o < m) (v : Value) : (w.setCell ⟨g, o, none⟩ v).cell? ⟨g, o, none⟩ = some v := by
  obtain ⟨u, hu⟩ := h.has o ho
  simp [go_sem, hu]
theorem cell_far {g : Nat} {w : World} (o o' : Nat) (ho : o ≠ o') (v : Value) : (w.setCell ⟨g, o, none⟩ v).cell? ⟨g, o', none⟩ = w.cell? ⟨g, o', none⟩ := by
  simp [go_sem]
theorem Pt.set {g m : Nat} {w : World} (h : Pt g m w) (o : Nat) (v : Value) : Pt g m (w.setCell ⟨g, o, none⟩ v) := by
  refine ⟨by simpa using h.lt, fun x hx => ?_, fun x hx => ?_⟩
  · by_cases e : o = x
    · subst e; exact ⟨v, cell_put h o hx v⟩
    · obtain ⟨u, hu⟩ := h.has x hx
      exact ⟨u, (cell_far o x e v).trans hu⟩
  · have := h.free x hx
    simp [go_sem, this]
end EvtR
end Go.Proofs.YtcilbmhkhllmjaaGreatDoor
namespace Go.Proofs.YtcilbmhkhllmjaaGreatDoor
open Go.ChangeShapes Go.WideShapes Go.ChangeAt Go.RowKit
set_option linter.unusedVariables false
namespace RowG
open EvtR (Pt cell_put cell_far)
theorem hid_intro {p : Prop} (h : p) : Hid p := h
section
variable {α : Type} (k : Nat) (cells : α → List Value) (z : α)
/-- The cells of a thing stand at a place. -/
def AtG (w : World) (b o : Nat) (x : α) : Prop := ∀ j, j < k → w.cell? ⟨b, o + j, none⟩ = (cells x)[j]?
/-- The row holds these things. -/
def Rws (ao : Option Addr) (xs : List α) (w : World) : Prop := xs.length = 0 ∨ ∃ b off, ao = some ⟨b, off, none⟩ ∧ b < w.heap.size ∧ ∀ j, j < xs.length → AtG k cells w b (off + j * k) (xs.getD j z)
/-- The cell that stands at a place of a row of things. -/
def cellAt (xs : List α) (o : Nat) : Option Value := (cells (xs.getD (o / k) z))[o % k]?
/-- The first cells are written. -/
def Wr (f : Nat → Option Value) (j g : Nat) (w : World) : Prop := ∀ o, o < j → w.cell? ⟨g, o, none⟩ = f o
end
section
variable {α : Type} {k : Nat} {cells : α → List Value} {z : α}
theorem AtG.below {w w' : World} {b o : Nat} {x : α} (h : AtG k cells w b o x) (hl : b < w.heap.size) (hb : Below w.heap.size w w') : AtG k cells w' b o x :=
  fun j hj => (hb.cell (p := ⟨b, o + j, none⟩) hl).trans (h j hj)
theorem Rws.below {ao : Option Addr} {xs : List α} {w w' : World} (h : Rws k cells z ao xs w) (hb : Below w.heap.size w w') : Rws k cells z ao xs w' := by
  rcases h with h0 | ⟨b, off, rfl, hlt, hc⟩
  · exact .inl h0
  · exact .inr ⟨b, off, rfl, by have := hb.size; omega, fun j hj => (hc j hj).below hlt hb⟩
theorem Rws.grown {ao : Option Addr} {xs : List α} {w w' : World} {row : Option Nat} (h : Rws k cells z ao xs w) (hg : w.grownBy w' row) (hne : xs.length = 0 ∨ ∀ b off, ao = some ⟨b, off, none⟩ → some b ≠ row) : Rws k cells z ao xs w' := by
  rcases h with h0 | ⟨b, off, rfl, hlt, hc⟩
  · exact .inl h0
  · rcases hne with h0 | hne
    · exact .inl h0
    have e := hg.block b hlt (hne b off rfl)
    exact .inr ⟨b, off, rfl, by have := hg.size; omega, fun j hj i hi => (World.cell?_of_block (a := ⟨b, off + j * k + i, none⟩) e).trans (hc j hj i hi)⟩
theorem Rws.at {ao : Option Addr} {xs : List α} {w : World} (h : Rws k cells z ao xs w) (j : Nat) (hj : j < xs.length) : ∃ b off, ao = some ⟨b, off, none⟩ ∧ b < w.heap.size ∧ AtG k cells w b (off + j * k) (xs.getD j z) := by
  rcases h with h0 | ⟨b, off, rfl, hlt, hc⟩
  · omega
  · exact ⟨b, off, rfl, hlt, hc j hj⟩
theorem rws_nil (ao : Option Addr) (w : World) : Rws k cells z ao [] w := .inl rfl
theorem getD_mem (xs : List α) (j : Nat) (h : j < xs.length) : xs.getD j z ∈ xs := by
  have : xs.getD j z = xs[j] := by simp [List.getD, h]
  rw [this]; exact List.getElem_mem h
theorem take_more (xs : List α) (j : Nat) (h : j < xs.length) : xs.take (j + 1) = xs.take j ++ [xs.getD j z] := by
  rw [List.take_add_one, List.getElem?_eq_getElem h]
  simp [List.getD, h]
theorem Wr.below {f : Nat → Option Value} {j g m : Nat} {w w' : World} (h : Wr f j g w) (hp : Pt g m w) (hb : Below w.heap.size w w') : Wr f j g w' :=
  fun o ho => (hb.cell (p := ⟨g, o, none⟩) hp.lt).trans (h o ho)
theorem Wr.more {f : Nat → Option Value} {j g m : Nat} {w : World} (h : Wr f j g w) (hp : Pt g m w) (hj : j < m) (v : Value) (hv : f j = some v) : Wr f (j + 1) g (w.setCell ⟨g, j, none⟩ v) := by
  intro o ho
  by_cases e : j = o
  · subst e; rw [cell_put hp j hj v, hv]
  · rw [cell_far j o e v]; exact h o (by omega)
theorem Wr.at {xs : List α} {n g : Nat} {w : World} (h : Wr (cellAt k cells z xs) (n * k) g w) (i : Nat) (hi : i < n) (x : Nat) (hx : x < k) : w.cell? ⟨g, i * k + x, none⟩ = (cells (xs.getD i z))[x]? := by
  have hlt : i * k + x < n * k := by
    have : (i + 1) * k ≤ n * k := Nat.mul_le_mul_right _ hi
    rw [Nat.add_mul, Nat.one_mul] at this
    omega
  rw [h _ hlt]
  unfold cellAt
  rw [show i * k + x = x + k * i by rw [Nat.mul_comm]; omega, Nat.add_mul_div_left _ _ (by omega), Nat.div_eq_of_lt hx, Nat.zero_add, Nat.add_mul_mod_self_left, Nat.mod_eq_of_lt hx]
theorem Wr.rws {xs : List α} {g : Nat} {w : World} (h : Wr (cellAt k cells z xs) (xs.length * k) g w) (hl : g < w.heap.size) : Rws k cells z (some ⟨g, 0, none⟩) xs w :=
  .inr ⟨g, 0, rfl, hl, fun j hj i hi => by rw [Nat.zero_add]; exact h.at j hj i hi⟩
theorem cellAt_of {xs : List α} (i x : Nat) (hx : x < k) : cellAt k cells z xs (i * k + x) = (cells (xs.getD i z))[x]? := by
  unfold cellAt
  rw [show i * k + x = x + k * i by rw [Nat.mul_comm]; omega, Nat.add_mul_div_left _ _ (by omega), Nat.div_eq_of_lt hx, Nat.zero_add, Nat.add_mul_mod_self_left, Nat.mod_eq_of_lt hx]
/-- The cells of a list of things. -/
def cellsAll (cells : α → List Value) (xs : List α) : List Value := xs.flatMap cells
theorem cellsAll_app (xs : List α) (x : α) : cellsAll cells (xs ++ [x]) = cellsAll cells xs ++ cells x := by simp [cellsAll]
theorem cellsAll_len (hk : ∀ x, (cells x).length = k) (xs : List α) : (cellsAll cells xs).length = xs.length * k := by
  induction xs with
  | nil => simp [cellsAll]
  | cons x xs ih => simp only [cellsAll, List.flatMap_cons, List.length_append, hk, List.length_cons] at *; rw [ih, Nat.add_mul]; omega
theorem cellsAll_get (hk : ∀ x, (cells x).length = k) (xs : List α) (i x : Nat) (hi : i < xs.length) (hx : x < k) : (cellsAll cells xs)[i * k + x]? = (cells (xs.getD i z))[x]? := by
  induction xs generalizing i with
  | nil => simp at hi
  | cons a xs ih =>
    simp only [cellsAll, List.flatMap_cons]
    cases i with
    | zero =>
      rw [Nat.zero_mul, Nat.zero_add, List.getElem?_append_left (by rw [hk]; exact hx)]
      rfl
    | succ i =>
      rw [List.getElem?_append_right (by rw [hk, Nat.add_mul]; omega), hk, show (i + 1) * k + x - k = i * k + x by rw [Nat.add_mul]; omega]
      simp only [List.length_cons] at hi
      exact ih i (by omega)
/-- A list that a call has made. -/
structure MadeG (k : Nat) (cells : α → List Value) (z : α) (base : Nat) (ao : Option Addr) (xs : List α) (w : World) : Prop where
  rws : Rws k cells z ao xs w
  own : xs.length = 0 ∨ ∃ g, ao = some ⟨g, 0, none⟩ ∧ base ≤ g ∧ Pt g (xs.length * k) w
theorem made_nil (base : Nat) (ao : Option Addr) (w : World) : MadeG k cells z base ao [] w := ⟨.inl rfl, .inl rfl⟩
theorem MadeG.below {base : Nat} {ao : Option Addr} {xs : List α} {w w' : World} (h : MadeG k cells z base ao xs w) (hb : Below w.heap.size w w') : MadeG k cells z base ao xs w' :=
  ⟨h.rws.below hb, h.own.imp id (fun ⟨g, h1, h2, h3⟩ => ⟨g, h1, h2, h3.below hb⟩)⟩
theorem MadeG.low {base base' : Nat} {ao : Option Addr} {xs : List α} {w : World} (h : MadeG k cells z base ao xs w) (hb : base' ≤ base) : MadeG k cells z base' ao xs w :=
  ⟨h.rws, h.own.imp id (fun ⟨g, h1, h2, h3⟩ => ⟨g, h1, by omega, h3⟩)⟩
theorem own_made (hk : ∀ x, (cells x).length = k) {w : World} {base T : Nat} {v : Value} {xs : List α} (h : w.ownsRow base T k v xs.length (cellsAll cells xs)) : ∃ ao cap, v = .slice ao xs.length cap ∧ MadeG k cells z base ao xs w := by
  rcases h.2 with ⟨h0, h1⟩ | ⟨g, cap, cur, hv, hg, hh, hc, _, hz, hcur⟩
  · obtain rfl : xs = [] := List.length_eq_zero_iff.1 h1
    exact ⟨none, 0, h0, made_nil _ _ _⟩
  · have hm : xs.length * k ≤ cur.size := by rw [hz]; exact Nat.mul_le_mul_right _ hc
    have hl := (h.lt g (by rw [hv]; rfl)).2
    refine ⟨_, _, hv, .inr ⟨g, 0, rfl, hl, fun j hj i hi => ?_⟩, .inr ⟨g, rfl, hg, hl, fun o ho => ?_, fun o ho => ?_⟩⟩
    · rw [Nat.zero_add, ← cellsAll_get hk xs j i hj hi, ← hcur]
      have hlt : j * k + i < xs.length * k := by
        have : (j + 1) * k ≤ xs.length * k := Nat.mul_le_mul_right _ hj
        rw [Nat.add_mul, Nat.one_mul] at this
        omega
      rw [List.getElem?_take, if_pos hlt]
      simp [World.cell?, hh]
    · have : o < cur.size := by omega
      refine ⟨cur[o], ?_⟩
      simp [World.cell?, hh, this]
    · simp [World.frozen?, hh]
end
theorem own_below {w w' : World} {base e size n : Nat} {v : Value} {xs : List Value} (h : w.ownsRow base e size v n xs) (hb : Below w.heap.size w w') : w'.ownsRow base e size v n xs := by
  refine h.kept (row := none) ⟨hb.os, hb.tape, hb.output, hb.size, fun k hk _ => hb.block k hk⟩ ?_
  rcases hob : v.ownBlock with _ | b
  · exact .inl rfl
  · exact .inr (by simp)
theorem grown_set (w : World) (b o : Nat) (v : Value) : w.grownBy (w.setCell ⟨b, o, none⟩ v) (some b) := by
  refine ⟨rfl, rfl, rfl, by simp, fun k hk hne => ?_⟩
  simp only [World.setCell]
  rw [Array.getElem?_modify, if_neg (fun e => hne (by rw [e]))]
theorem own_set {w : World} {base e size n : Nat} {v : Value} {xs : List Value} (h : w.ownsRow base e size v n xs) (g o : Nat) (u : Value) (hg : ∀ b, v.ownBlock = some b → b ≠ g) : (w.setCell ⟨g, o, none⟩ u).ownsRow base e size v n xs := by
  refine h.kept (grown_set w g o u) ?_
  rcases hob : v.ownBlock with _ | b
  · exact .inl rfl
  · exact .inr (fun e => hg b hob (by simpa using e))
end RowG
end Go.Proofs.YtcilbmhkhllmjaaGreatDoor
namespace Go.Proofs.YtcilbmhkhllmjaaGreatDoor
namespace DateM
/-- Has the year a leap day? -/
def leapB (y : Int) : Bool := decide (y % 4 = 0 ∧ (y % 100 ≠ 0 ∨ y % 400 = 0))
/-- How many days a year has. -/
def yd (y : Int) : Int := if leapB y = true then 366 else 365
/-- How many days a month has, of a year and month within their limits. -/
def md (y m : Int) : Int := if m = 2 then (if leapB y = true then 29 else 28) else if m = 4 ∨ m = 6 ∨ m = 9 ∨ m = 11 then 30 else 31
/-- The same, 0 beyond the limits. -/
def mdays (y m : Int) : Int := if 1970 ≤ y ∧ y ≤ 2200 ∧ 1 ≤ m ∧ m ≤ 12 then md y m else 0
/-- The days of the years ahead. -/
def ys : Nat → Int
  | 0 => 0
  | k + 1 => ys k + yd (1970 + (k : Int))
/-- The days of the months ahead. -/
def ms (y : Int) : Nat → Int
  | 0 => 0
  | k + 1 => ms y k + md y ((k : Int) + 1)
theorem yd_bd (y : Int) : 365 ≤ yd y ∧ yd y ≤ 366 := by unfold yd; split <;> omega
theorem md_bd (y m : Int) : 28 ≤ md y m ∧ md y m ≤ 31 := by unfold md; split <;> (try split) <;> (try split) <;> omega
theorem mdays_bd (y m : Int) : 0 ≤ mdays y m ∧ mdays y m ≤ 31 := by unfold mdays; have := md_bd y m; split <;> omega
theorem ys_succ (k : Nat) : ys (k + 1) = ys k + yd (1970 + (k : Int)) := rfl
theorem ms_succ (y : Int) (k : Nat) : ms y (k + 1) = ms y k + md y ((k : Int) + 1) := rfl
theorem ys_bd (k : Nat) : 365 * (k : Int) ≤ ys k ∧ ys k ≤ 366 * (k : Int) := by
  induction k with
  | zero => simp [ys]
  | succ k ih => have := yd_bd (1970 + (k : Int)); rw [ys_succ]; omega
theorem ms_bd (y : Int) (k : Nat) : 28 * (k : Int) ≤ ms y k ∧ ms y k ≤ 31 * (k : Int) := by
  induction k with
  | zero => simp [ms]
  | succ k ih => have := md_bd y ((k : Int) + 1); rw [ms_succ]; omega
theorem ms_all (y : Int) : ms y 12 = yd y := by
  simp only [ms, md, yd]
  cases leapB y <;> decide
theorem ys_mono {j k : Nat} (h : j ≤ k) : ys j + 365 * ((k : Int) - j) ≤ ys k := by
  induction k with
  | zero =>
    obtain rfl : j = 0 := by omega
    simp
  | succ k ih =>
    by_cases e : j = k + 1
    · subst e; simp
    · have := ih (by omega)
      have := yd_bd (1970 + (k : Int))
      rw [ys_succ]; omega
theorem ms_mono (y : Int) {j k : Nat} (h : j ≤ k) : ms y j + 28 * ((k : Int) - j) ≤ ms y k := by
  induction k with
  | zero =>
    obtain rfl : j = 0 := by omega
    simp
  | succ k ih =>
    by_cases e : j = k + 1
    · subst e; simp
    · have := ih (by omega)
      have := md_bd y ((k : Int) + 1)
      rw [ms_succ]; omega
/-- Each day lies in one year. -/
theorem year_is (d : Int) (h : 0 ≤ d) : ∃ k : Nat, ys k ≤ d ∧ d < ys (k + 1) := by
  obtain ⟨n, rfl⟩ : ∃ n : Nat, d = n := ⟨d.toNat, by omega⟩
  induction n with
  | zero => exact ⟨0, by simp [ys], by have := ys_bd 1; simp at this ⊢; omega⟩
  | succ n ih =>
    obtain ⟨k, h1, h2⟩ := ih (by omega)
    by_cases e : ((n + 1 : Nat) : Int) < ys (k + 1)
    · exact ⟨k, by omega, e⟩
    · refine ⟨k + 1, by omega, ?_⟩
      have := yd_bd (1970 + ((k + 1 : Nat) : Int))
      rw [ys_succ (k + 1)]; omega
/-- Each day of a year lies in one month. -/
theorem month_is (y d : Int) (h : 0 ≤ d) (h2 : d < yd y) : ∃ k : Nat, k < 12 ∧ ms y k ≤ d ∧ d < ms y (k + 1) := by
  have key : ∀ j : Nat, j ≤ 12 → ms y j ≤ d ∨ ∃ k : Nat, k < 12 ∧ ms y k ≤ d ∧ d < ms y (k + 1) := by
    intro j
    induction j with
    | zero => intro _; left; simp [ms]; exact h
    | succ j ih =>
      intro hj
      rcases ih (by omega) with h1 | h1
      · by_cases e : d < ms y (j + 1)
        · exact .inr ⟨j, by omega, h1, e⟩
        · exact .inl (by omega)
      · exact .inr h1
  rcases key 12 (Nat.le_refl _) with h1 | h1
  · rw [ms_all] at h1; omega
  · exact h1
theorem year_one {d : Int} {j k : Nat} (h1 : ys j ≤ d) (h2 : d < ys (k + 1)) : j ≤ k := by
  apply Nat.le_of_not_lt
  intro h
  have := ys_mono (show k + 1 ≤ j from h)
  omega
theorem month_one {y d : Int} {j k : Nat} (h1 : ms y j ≤ d) (h2 : d < ms y (k + 1)) : j ≤ k := by
  apply Nat.le_of_not_lt
  intro h
  have := ms_mono y (show k + 1 ≤ j from h)
  omega
/-- Is it a right date? -/
def rightB (y m d : Int) : Bool := decide (1 ≤ d ∧ d ≤ mdays y m)
theorem right_iff (y m d : Int) : rightB y m d = true ↔ 1970 ≤ y ∧ y ≤ 2200 ∧ 1 ≤ m ∧ m ≤ 12 ∧ 1 ≤ d ∧ d ≤ md y m := by
  unfold rightB mdays
  simp only [decide_eq_true_eq]
  split <;> omega
/-- A right date's day. -/
def num (y m d : Int) : Int := d - 1 + ys (y - 1970).toNat + ms y (m - 1).toNat
end DateM
end Go.Proofs.YtcilbmhkhllmjaaGreatDoor
namespace Go.Proofs.YtcilbmhkhllmjaaGreatDoor
namespace DateM
/-- The first day of a month. -/
def fd (k : Nat) : Int := ys (k / 12) + ms (1970 + ((k / 12 : Nat) : Int)) (k % 12)
theorem fd_num (k : Nat) : num (1970 + (k : Int) / 12) ((k : Int) % 12 + 1) 1 = fd k := by
  unfold num fd
  rw [show (1970 + (k : Int) / 12 - 1970).toNat = k / 12 by omega, show ((k : Int) % 12 + 1 - 1).toNat = k % 12 by omega, show ((k / 12 : Nat) : Int) = (k : Int) / 12 by omega]
  omega
theorem fd_succ (k : Nat) : fd (k + 1) = fd k + md (1970 + ((k / 12 : Nat) : Int)) (((k % 12 : Nat) : Int) + 1) := by
  unfold fd
  by_cases h : k % 12 = 11
  · rw [show (k + 1) / 12 = k / 12 + 1 by omega, show (k + 1) % 12 = 0 by omega, ys_succ, ← ms_all, h, ms_succ]
    simp only [ms]
    omega
  · rw [show (k + 1) / 12 = k / 12 by omega, show (k + 1) % 12 = k % 12 + 1 by omega, ms_succ]
    omega
theorem fd_step (k : Nat) : fd k + 28 ≤ fd (k + 1) ∧ fd (k + 1) ≤ fd k + 31 := by
  rw [fd_succ]
  have := md_bd (1970 + ((k / 12 : Nat) : Int)) (((k % 12 : Nat) : Int) + 1)
  omega
theorem fd_zero : fd 0 = 0 := by simp [fd, ys, ms]
theorem fd_mono {j k : Nat} (h : j ≤ k) : fd j + 28 * ((k : Int) - j) ≤ fd k := by
  induction k with
  | zero =>
    obtain rfl : j = 0 := by omega
    simp
  | succ k ih =>
    by_cases e : j = k + 1
    · subst e; simp
    · have := ih (by omega)
      have := fd_step k
      omega
theorem fd_bd (k : Nat) : 0 ≤ fd k ∧ fd k ≤ 31 * (k : Int) := by
  induction k with
  | zero => simp [fd_zero]
  | succ k ih => have := fd_step k; omega
theorem fd_one {d : Int} {j k : Nat} (h1 : fd j ≤ d) (h2 : d < fd (k + 1)) : j ≤ k := by
  apply Nat.le_of_not_lt
  intro h
  have := fd_mono (show k + 1 ≤ j from h)
  omega
/-- A right date lies in its month. -/
theorem num_fd (y m d : Int) (h : rightB y m d = true) : ∃ k : Nat, k ≤ 2771 ∧ 12 * (y - 1970) + (m - 1) = (k : Int) ∧ fd k ≤ num y m d ∧ num y m d < fd (k + 1) := by
  obtain ⟨y1, y2, m1, m2, d1, d2⟩ := (right_iff y m d).1 h
  refine ⟨(12 * (y - 1970) + (m - 1)).toNat, by omega, by omega, ?_⟩
  have e1 : (12 * (y - 1970) + (m - 1)).toNat / 12 = (y - 1970).toNat := by omega
  have e2 : (12 * (y - 1970) + (m - 1)).toNat % 12 = (m - 1).toNat := by omega
  rw [fd_succ]
  unfold fd num
  rw [e1, e2, show 1970 + (((y - 1970).toNat : Nat) : Int) = y by omega, show (((m - 1).toNat : Nat) : Int) + 1 = m by omega]
  omega
theorem ys_nat : ∀ k : Nat, k ≤ 231 → ys k = ((List.range k).foldl (fun (a : Int) (j : Nat) => a + yd (1970 + (j : Int))) 0) := by
  intro k _
  induction k with
  | zero => rfl
  | succ k ih => rw [List.range_succ, List.foldl_append, ← ih (by omega)]; rfl
theorem ys_231 : 84028 ≤ ys 231 := by rw [ys_nat 231 (by omega)]; decide +kernel
theorem fd_2760 : fd 2760 = 84006 := by
  unfold fd
  show ys 230 + ms _ 0 = _
  rw [ys_nat 230 (by omega)]
  decide +kernel
/-- The first day's date is right. -/
theorem right_first (k : Nat) (h : k ≤ 2760) : rightB (1970 + (k : Int) / 12) ((k : Int) % 12 + 1) 1 = true := by
  have := md_bd (1970 + (k : Int) / 12) ((k : Int) % 12 + 1)
  exact (right_iff _ _ _).2 ⟨by omega, by omega, by omega, by omega, by omega, by omega⟩
end DateM
end Go.Proofs.YtcilbmhkhllmjaaGreatDoor
namespace Go.Proofs.YtcilbmhkhllmjaaGreatDoor
open Go.ChangeShapes Go.WideShapes Go.ChangeAt Go.RowKit
open Go.ChangeMaps (open_string shut_string)
namespace NameR
/-- May this byte stand at this place of a name? -/
def okAt (i : Nat) (c : Int) : Bool := decide ((97 ≤ c ∧ c ≤ 122) ∨ (i ≠ 0 ∧ ((48 ≤ c ∧ c ≤ 57) ∨ c = 95)))
def upTo (s : ByteArray) (k : Nat) : Prop := ∀ i (h : i < s.size), i < k → okAt i (s[i].toNat : Int) = true
def upToDec (s : ByteArray) (k : Nat) : Decidable (upTo s k) := inferInstanceAs (Decidable (∀ i (h : i < s.size), i < k → okAt i (s[i].toNat : Int) = true))
def nameB (s : ByteArray) : Bool := @decide (1 ≤ s.size ∧ s.size ≤ 20 ∧ upTo s s.size) (@instDecidableAnd _ _ _ (@instDecidableAnd _ _ _ (upToDec s s.size)))
theorem name_size {s : ByteArray} (h : s.size < 1 ∨ 20 < s.size) : nameB s = false := by
  unfold nameB; simp; intro h1 h2; omega
theorem name_no {s : ByteArray} {k : Nat} (h : k < s.size) (hb : okAt k (s[k].toNat : Int) = false) : nameB s = false := by
  unfold nameB; simp; intro _ _ hu; have := hu k h h; simp [hb] at this
theorem name_yes {s : ByteArray} (h1 : 1 ≤ s.size) (h2 : s.size ≤ 20) (hu : upTo s s.size) : nameB s = true := by
  unfold nameB; simp; exact ⟨h1, h2, hu⟩
theorem upTo_zero (s : ByteArray) : upTo s 0 := fun _ _ h => absurd h (by omega)
theorem upTo_succ {s : ByteArray} {k : Nat} (hu : upTo s k) (h : k < s.size) (hb : okAt k (s[k].toNat : Int) = true) : upTo s (k + 1) := by
  intro i hi hk
  by_cases e : i = k
  · subst e; exact hb
  · exact hu i hi (by omega)

set_option maxHeartbeats 2000000 in
theorem spec_any (s : ByteArray) (w : World) (hs : s.size ≤ 1048576) :
    Calls Tryz.prog 35 #[.string s] w fun e w' => e = .returned (.bool (nameB s)) ∧ w' = w := by
  by_cases h1 : s.size < 1
  · have hn := name_size (s := s) (.inl h1)
    rw [hn]
    go_enter Tryz.func35, Tryz.ntmps35
    go_wp2
    go_ret
    exact ⟨rfl, rfl⟩
  by_cases h2 : 20 < s.size
  · have hn := name_size (s := s) (.inr h2)
    rw [hn]
    go_enter Tryz.func35, Tryz.ntmps35
    go_wp2
    go_ret
    exact ⟨rfl, rfl⟩
  go_enter Tryz.func35, Tryz.ntmps35
  go_wp2
  go_loop [3, 4] (fun i _ => ∃ k : Nat, k ≤ s.size ∧ i = .int .i64 k ∧ upTo s k) (fun i _ => s.size - (intOf i).toNat)
  case atStart => exact ⟨0, Nat.zero_le _, rfl, upTo_zero s⟩
  case round =>
    obtain ⟨k, hk, rfl, hu⟩ := hrel
    by_cases hlt : k < s.size
    · have hno := name_no (s := s) hlt
      have hyes := upTo_succ hu hlt
      have HN : Hid (okAt k (s[k].toNat : Int) = false → nameB s = false) := hno
      have HY : Hid (okAt k (s[k].toNat : Int) = true → upTo s (k + 1)) := hyes
      clear hno hyes hu
      by_cases hk0 : k = 0
      · subst hk0
        rcases (show ((s[0].toNat : Int) < 48) ∨ (48 ≤ (s[0].toNat : Int) ∧ (s[0].toNat : Int) ≤ 57) ∨ (57 < (s[0].toNat : Int) ∧ (s[0].toNat : Int) < 95) ∨ (95 ≤ (s[0].toNat : Int) ∧ (s[0].toNat : Int) ≤ 95) ∨ (95 < (s[0].toNat : Int) ∧ (s[0].toNat : Int) < 97) ∨ (97 ≤ (s[0].toNat : Int) ∧ (s[0].toNat : Int) ≤ 122) ∨ 122 < (s[0].toNat : Int) from by omega) with hc | hc | hc | hc | hc | hc | hc
        all_goals
          (first | have a0 : (97 : Int) ≤ (s[0].toNat : Int) := by omega | have a0 : ¬ (97 : Int) ≤ (s[0].toNat : Int) := by omega)
          (first | have a1 : (s[0].toNat : Int) ≤ 122 := by omega | have a1 : ¬ (s[0].toNat : Int) ≤ 122 := by omega)
          (first | have a2 : (48 : Int) ≤ (s[0].toNat : Int) := by omega | have a2 : ¬ (48 : Int) ≤ (s[0].toNat : Int) := by omega)
          (first | have a3 : (s[0].toNat : Int) ≤ 57 := by omega | have a3 : ¬ (s[0].toNat : Int) ≤ 57 := by omega)
          (first | have a5 : ((s[0].toNat : Int) != 95) = true := by simp; omega | have a5 : ((s[0].toNat : Int) != 95) = false := by simp; omega)
          (first | have a6 : ((s[0].toNat : Int) == 95) = true := by simp; omega | have a6 : ((s[0].toNat : Int) == 95) = false := by simp; omega)
          go_wp2
          first
            | (go_ret; exact ⟨ret_bool (HN.out (by unfold okAt; simp; omega)).symm, rfl⟩)
            | (go_round
               case rel => exact ⟨1, by omega, by go_num, HY.out (by unfold okAt; simp; omega)⟩
               case measure => simp [intOf]; omega)
      · rcases (show ((s[k].toNat : Int) < 48) ∨ (48 ≤ (s[k].toNat : Int) ∧ (s[k].toNat : Int) ≤ 57) ∨ (57 < (s[k].toNat : Int) ∧ (s[k].toNat : Int) < 95) ∨ (95 ≤ (s[k].toNat : Int) ∧ (s[k].toNat : Int) ≤ 95) ∨ (95 < (s[k].toNat : Int) ∧ (s[k].toNat : Int) < 97) ∨ (97 ≤ (s[k].toNat : Int) ∧ (s[k].toNat : Int) ≤ 122) ∨ 122 < (s[k].toNat : Int) from by omega) with hc | hc | hc | hc | hc | hc | hc
        all_goals
          (first | have a0 : (97 : Int) ≤ (s[k].toNat : Int) := by omega | have a0 : ¬ (97 : Int) ≤ (s[k].toNat : Int) := by omega)
          (first | have a1 : (s[k].toNat : Int) ≤ 122 := by omega | have a1 : ¬ (s[k].toNat : Int) ≤ 122 := by omega)
          (first | have a2 : (48 : Int) ≤ (s[k].toNat : Int) := by omega | have a2 : ¬ (48 : Int) ≤ (s[k].toNat : Int) := by omega)
          (first | have a3 : (s[k].toNat : Int) ≤ 57 := by omega | have a3 : ¬ (s[k].toNat : Int) ≤ 57 := by omega)
          (first | have a5 : ((s[k].toNat : Int) != 95) = true := by simp; omega | have a5 : ((s[k].toNat : Int) != 95) = false := by simp; omega)
          (first | have a6 : ((s[k].toNat : Int) == 95) = true := by simp; omega | have a6 : ((s[k].toNat : Int) == 95) = false := by simp; omega)
          have a7 : ((k : Int) == 0) = false := by simp; omega
          go_wp2
          first
            | (go_ret; exact ⟨ret_bool (HN.out (by unfold okAt; simp; omega)).symm, rfl⟩)
            | (go_round
               case rel => exact ⟨k + 1, by omega, by go_num, HY.out (by unfold okAt; simp; omega)⟩
               case measure => simp [intOf]; omega)
    · go_wp2
      go_ret
      have : k = s.size := by omega
      subst this
      exact ⟨ret_bool (name_yes (by omega) (by omega) hu).symm, rfl⟩

set_option maxHeartbeats 2000000 in
theorem impl_any (s : ByteArray) (w : World) (hs : s.size ≤ 1048576) :
    Calls Tryz.prog 42 #[.string s] w fun e w' => e = .returned (.bool (nameB s)) ∧ w' = w := by
  by_cases h1 : s.size < 1
  · have hn := name_size (s := s) (.inl h1)
    rw [hn]
    go_enter Tryz.func42, Tryz.ntmps42
    go_wp2
    go_ret
    exact ⟨rfl, rfl⟩
  by_cases h2 : 20 < s.size
  · have hn := name_size (s := s) (.inr h2)
    rw [hn]
    go_enter Tryz.func42, Tryz.ntmps42
    go_wp2
    go_ret
    exact ⟨rfl, rfl⟩
  go_enter Tryz.func42, Tryz.ntmps42
  go_wp2
  go_loop [3, 4, 5] (fun i _ _ => ∃ k : Nat, k ≤ s.size ∧ i = .int .i64 k ∧ upTo s k) (fun i _ _ => s.size - (intOf i).toNat)
  case atStart => exact ⟨0, Nat.zero_le _, rfl, upTo_zero s⟩
  case round =>
    obtain ⟨k, hk, rfl, hu⟩ := hrel
    by_cases hlt : k < s.size
    · have hno := name_no (s := s) hlt
      have hyes := upTo_succ hu hlt
      have HN : Hid (okAt k (s[k].toNat : Int) = false → nameB s = false) := hno
      have HY : Hid (okAt k (s[k].toNat : Int) = true → upTo s (k + 1)) := hyes
      clear hno hyes hu
      by_cases hk0 : k = 0
      · subst hk0
        rcases (show ((s[0].toNat : Int) < 48) ∨ (48 ≤ (s[0].toNat : Int) ∧ (s[0].toNat : Int) ≤ 57) ∨ (57 < (s[0].toNat : Int) ∧ (s[0].toNat : Int) < 95) ∨ (95 ≤ (s[0].toNat : Int) ∧ (s[0].toNat : Int) ≤ 95) ∨ (95 < (s[0].toNat : Int) ∧ (s[0].toNat : Int) < 97) ∨ (97 ≤ (s[0].toNat : Int) ∧ (s[0].toNat : Int) ≤ 122) ∨ 122 < (s[0].toNat : Int) from by omega) with hc | hc | hc | hc | hc | hc | hc
        all_goals
          (first | have a0 : (97 : Int) ≤ (s[0].toNat : Int) := by omega | have a0 : ¬ (97 : Int) ≤ (s[0].toNat : Int) := by omega)
          (first | have a1 : (s[0].toNat : Int) ≤ 122 := by omega | have a1 : ¬ (s[0].toNat : Int) ≤ 122 := by omega)
          (first | have a2 : (48 : Int) ≤ (s[0].toNat : Int) := by omega | have a2 : ¬ (48 : Int) ≤ (s[0].toNat : Int) := by omega)
          (first | have a3 : (s[0].toNat : Int) ≤ 57 := by omega | have a3 : ¬ (s[0].toNat : Int) ≤ 57 := by omega)
          (first | have a5 : ((s[0].toNat : Int) != 95) = true := by simp; omega | have a5 : ((s[0].toNat : Int) != 95) = false := by simp; omega)
          (first | have a6 : ((s[0].toNat : Int) == 95) = true := by simp; omega | have a6 : ((s[0].toNat : Int) == 95) = false := by simp; omega)
          go_wp2
          first
            | (go_ret; exact ⟨ret_bool (HN.out (by unfold okAt; simp; omega)).symm, rfl⟩)
            | (go_round
               case rel => exact ⟨1, by omega, by go_num, HY.out (by unfold okAt; simp; omega)⟩
               case measure => simp [intOf]; omega)
      · rcases (show ((s[k].toNat : Int) < 48) ∨ (48 ≤ (s[k].toNat : Int) ∧ (s[k].toNat : Int) ≤ 57) ∨ (57 < (s[k].toNat : Int) ∧ (s[k].toNat : Int) < 95) ∨ (95 ≤ (s[k].toNat : Int) ∧ (s[k].toNat : Int) ≤ 95) ∨ (95 < (s[k].toNat : Int) ∧ (s[k].toNat : Int) < 97) ∨ (97 ≤ (s[k].toNat : Int) ∧ (s[k].toNat : Int) ≤ 122) ∨ 122 < (s[k].toNat : Int) from by omega) with hc | hc | hc | hc | hc | hc | hc
        all_goals
          (first | have a0 : (97 : Int) ≤ (s[k].toNat : Int) := by omega | have a0 : ¬ (97 : Int) ≤ (s[k].toNat : Int) := by omega)
          (first | have a1 : (s[k].toNat : Int) ≤ 122 := by omega | have a1 : ¬ (s[k].toNat : Int) ≤ 122 := by omega)
          (first | have a2 : (48 : Int) ≤ (s[k].toNat : Int) := by omega | have a2 : ¬ (48 : Int) ≤ (s[k].toNat : Int) := by omega)
          (first | have a3 : (s[k].toNat : Int) ≤ 57 := by omega | have a3 : ¬ (s[k].toNat : Int) ≤ 57 := by omega)
          (first | have a5 : ((s[k].toNat : Int) != 95) = true := by simp; omega | have a5 : ((s[k].toNat : Int) != 95) = false := by simp; omega)
          (first | have a6 : ((s[k].toNat : Int) == 95) = true := by simp; omega | have a6 : ((s[k].toNat : Int) == 95) = false := by simp; omega)
          have a7 : ((k : Int) == 0) = false := by simp; omega
          go_wp2
          first
            | (go_ret; exact ⟨ret_bool (HN.out (by unfold okAt; simp; omega)).symm, rfl⟩)
            | (go_round
               case rel => exact ⟨k + 1, by omega, by go_num, HY.out (by unfold okAt; simp; omega)⟩
               case measure => simp [intOf]; omega)
    · go_wp2
      go_ret
      have : k = s.size := by omega
      subst this
      exact ⟨ret_bool (name_yes (by omega) (by omega) hu).symm, rfl⟩
end NameR
end Go.Proofs.YtcilbmhkhllmjaaGreatDoor
namespace Go.Proofs.YtcilbmhkhllmjaaGreatDoor
open Go.ChangeShapes Go.WideShapes Go.ChangeAt Go.RowKit
set_option linter.unusedVariables false
namespace WordR
def seen (c : Int) : Bool := decide (33 ≤ c ∧ c ≤ 126)
def upTo (s : ByteArray) (k : Nat) : Prop := ∀ i (h : i < s.size), i < k → seen (s[i].toNat : Int) = true
def upToDec (s : ByteArray) (k : Nat) : Decidable (upTo s k) := inferInstanceAs (Decidable (∀ i (h : i < s.size), i < k → seen (s[i].toNat : Int) = true))
/-- Are all bytes seen ones? -/
def printB (s : ByteArray) : Bool := @decide (upTo s s.size) (upToDec s s.size)
theorem print_no {s : ByteArray} {k : Nat} (h : k < s.size) (hb : seen (s[k].toNat : Int) = false) : printB s = false := by
  unfold printB; simp; intro hu; have := hu k h h; simp [hb] at this
theorem print_yes {s : ByteArray} (hu : upTo s s.size) : printB s = true := by unfold printB; simpa using hu
theorem upTo_zero (s : ByteArray) : upTo s 0 := fun _ _ h => absurd h (by omega)
theorem upTo_succ {s : ByteArray} {k : Nat} (hu : upTo s k) (h : k < s.size) (hb : seen (s[k].toNat : Int) = true) : upTo s (k + 1) := by
  intro i hi hk
  by_cases e : i = k
  · subst e; exact hb
  · exact hu i hi (by omega)
theorem hid_intro' {p : Prop} (h : p) : Hid p := h
theorem byte_lt (s : ByteArray) (k : Nat) (h : k < s.size) : (s[k].toNat : Int) < 256 := by
  have := s[k].toNat_lt; omega
set_option maxRecDepth 100000 in
set_option maxHeartbeats 2000000 in
theorem impl_printed (s : ByteArray) (w : World) (hs : s.size ≤ 1048576) :
    Calls Tryz.prog 203 #[.string s] w fun e w' => e = .returned (.bool (printB s)) ∧ Below w.heap.size w w' := by
  have HB : ∀ pos, Hid (Below w.heap.size w (w.iter s pos)) := fun pos => (Below.refl w.heap.size w).alloc (Nat.le_refl _) _
  go_enter Tryz.func203, Tryz.ntmps203
  go_wp2
  go_loopw [2] (fun _ w' => ∃ pos : Nat, w' = w.iter s pos ∧ upTo s pos ∧ pos ≤ s.size) (fun _ w' => s.size - w'.iterPos w.heap.size)
  case atStart => exact ⟨0, rfl, upTo_zero s, Nat.zero_le _⟩
  case round =>
    obtain ⟨pos, rfl, hu, hle⟩ := hrel
    by_cases hp : pos < s.size
    · have HN := print_no (s := s) hp
      have HY := upTo_succ hu hp
      by_cases ha : (s[pos]'hp).toNat < 128
      · have hnx : ∀ ty, (Instr.next (.pointer (some ⟨w.heap.size, 0, none⟩)) true ty).run Tryz.prog (w.iter s pos) = _ := fun ty => run_next_ascii w s pos ty hp ha
        obtain ⟨c, hc⟩ : ∃ c, c = (s[pos]'hp).toNat := ⟨_, rfl⟩
        rw [← hc] at HN HY ha hnx
        have HN' := hid_intro' HN
        have HY' := hid_intro' HY
        clear HN HY hc hu
        rcases (show ((c : Int) < 33) ∨ (33 ≤ (c : Int) ∧ (c : Int) ≤ 126) ∨ (126 < (c : Int)) by omega) with h | ⟨h1, h2⟩ | h
        · have h' : ¬ 33 ≤ (c : Int) := by omega
          go_wp2
          go_ret
          exact ⟨ret_bool (HN'.out (by unfold seen; simp; omega)).symm, (HB _).out⟩
        · go_wp2
          go_roundw
          case rel => exact ⟨pos + 1, rfl, HY'.out (by unfold seen; simp; omega), by omega⟩
          case measure => simp; omega
        · have h' : ¬ (c : Int) ≤ 126 := by omega
          have h'' : 33 ≤ (c : Int) := by omega
          go_wp2
          go_ret
          exact ⟨ret_bool (HN'.out (by unfold seen; simp; omega)).symm, (HB _).out⟩
      · have hnx : ∀ ty, (Instr.next (.pointer (some ⟨w.heap.size, 0, none⟩)) true ty).run Tryz.prog (w.iter s pos) = _ := fun ty => run_next_any w s pos ty hp
        obtain ⟨d1, d2⟩ := decode_high s pos hp (by omega)
        have HN' := hid_intro' (HN (by unfold seen; simp; omega))
        clear HN HY hu
        generalize (Utf8.decode s pos).1 = c at *
        generalize (Utf8.decode s pos).2 = k at *
        have h' : ¬ (c : Int) ≤ 126 := by omega
        have h'' : 33 ≤ (c : Int) := by omega
        go_wp2
        go_ret
        exact ⟨ret_bool HN'.out.symm, (HB _).out⟩
    · have hnx : ∀ ty, (Instr.next (.pointer (some ⟨w.heap.size, 0, none⟩)) true ty).run Tryz.prog (w.iter s pos) = _ := fun ty => run_next_end w s pos ty hp
      go_wp2
      go_ret
      obtain rfl : pos = s.size := by omega
      exact ⟨ret_bool (print_yes hu).symm, (HB _).out⟩
set_option maxHeartbeats 2000000 in
theorem spec_word (s : ByteArray) (most : Int) (w : World) (hs : s.size ≤ 1048576) :
    Calls Tryz.prog 113 #[.string s, .int .i64 most] w fun e w' => e = .returned (.bool (printB s && decide ((s.size : Int) ≤ most))) ∧ w' = w := by
  go_enter Tryz.func113, Tryz.ntmps113
  go_wp2
  go_loop [5] (fun i => ∃ k : Nat, k ≤ s.size ∧ i = .int .i64 k ∧ upTo s k) (fun i => s.size - (intOf i).toNat)
  case atStart => exact ⟨0, Nat.zero_le _, rfl, upTo_zero s⟩
  case round =>
    obtain ⟨k, hk, rfl, hu⟩ := hrel
    by_cases hlt : k < s.size
    · have HN := hid_intro' (print_no (s := s) hlt)
      have HY := hid_intro' (upTo_succ hu hlt)
      clear hu
      rcases (show ((s[k].toNat : Int) < 33) ∨ (¬ (s[k].toNat : Int) < 33 ∧ (s[k].toNat : Int) ≤ 126) ∨ (¬ (s[k].toNat : Int) < 33 ∧ 126 < (s[k].toNat : Int)) by omega) with h | ⟨h1, h2⟩ | ⟨h1, h2⟩
      · go_wp2
        go_ret
        exact ⟨ret_bool (by rw [HN.out (by unfold seen; simp; omega)]; rfl), rfl⟩
      · have h3 : ¬ 126 < (s[k].toNat : Int) := by omega
        go_wp2
        go_round
        case rel => exact ⟨k + 1, by omega, by go_num, HY.out (by unfold seen; simp; omega)⟩
        case measure => simp [intOf]; omega
      · go_wp2
        go_ret
        exact ⟨ret_bool (by rw [HN.out (by unfold seen; simp; omega)]; rfl), rfl⟩
    · obtain rfl : k = s.size := by omega
      have HP := hid_intro' (print_yes hu)
      clear hu
      by_cases hm : (s.size : Int) ≤ most
      all_goals
        go_wp2
        go_ret
        exact ⟨ret_bool (by simp [HP.out, hm]), rfl⟩
end WordR
end Go.Proofs.YtcilbmhkhllmjaaGreatDoor
namespace Go.Proofs.YtcilbmhkhllmjaaGreatDoor
open Go.ChangeShapes Go.WideShapes Go.ChangeAt Go.RowKit
set_option linter.unusedVariables false
namespace EvtR
open WordR
theorem hid_intro {p : Prop} (h : p) : Hid p := h
def idB (s : ByteArray) : Bool := decide (1 ≤ s.size ∧ s.size ≤ 20) && printB s
theorem within_any (n low high : Int) (w : World) :
    Calls Tryz.prog 66 #[.int .i64 n, .int .i64 low, .int .i64 high] w fun e w' => e = .returned (.bool (decide (low ≤ n ∧ n ≤ high))) ∧ w' = w := by
  rcases (show (¬ low ≤ n) ∨ (low ≤ n ∧ ¬ n ≤ high) ∨ (low ≤ n ∧ n ≤ high) by omega) with h | ⟨h1, h2⟩ | ⟨h1, h2⟩
  all_goals
    go_enter Tryz.func66, Tryz.ntmps66
    go_wp2
    go_ret
    exact ⟨ret_bool (by first | (simp [*]; done) | (simp; omega)), rfl⟩
theorem minute_any (n : Int) (w : World) : Calls Tryz.prog 209 #[.int .i64 n] w fun e w' => e = .returned (.bool (decide (0 ≤ n ∧ n ≤ 121000000))) ∧ w' = w := by
  have H := within_any n 0 121000000
  generalize decide (0 ≤ n ∧ n ≤ 121000000) = b at *
  go_enter Tryz.func209, Tryz.ntmps209
  go_wp2_with (go_at_call 66; refine (H _).mono ?_; rintro e w' ⟨rfl, rfl⟩)
  go_ret
  exact ⟨rfl, rfl⟩
theorem is_any (n low high : Int) (w : World) :
    Calls Tryz.prog 69 #[.int .i64 n, .int .i64 low, .int .i64 high] w fun e w' => e = .returned (.bool (decide (low ≤ n ∧ n ≤ high))) ∧ w' = w := by
  rcases (show (¬ low ≤ n) ∨ (low ≤ n ∧ ¬ n ≤ high) ∨ (low ≤ n ∧ n ≤ high) by omega) with h | ⟨h1, h2⟩ | ⟨h1, h2⟩
  all_goals
    go_enter Tryz.func69, Tryz.ntmps69
    go_wp2
    go_ret
    exact ⟨ret_bool (by first | (simp [*]; done) | (simp; omega)), rfl⟩
theorem sminute_any (n : Int) (w : World) : Calls Tryz.prog 198 #[.int .i64 n] w fun e w' => e = .returned (.bool (decide (0 ≤ n ∧ n ≤ 121000000))) ∧ w' = w := by
  have H := is_any n 0 121000000
  generalize decide (0 ≤ n ∧ n ≤ 121000000) = b at *
  go_enter Tryz.func198, Tryz.ntmps198
  go_wp2_with (go_at_call 69; refine (H _).mono ?_; rintro e w' ⟨rfl, rfl⟩)
  go_ret
  exact ⟨rfl, rfl⟩
theorem empty_of (i : ByteArray) (h : i.size = 0) : i.toList = [] := by
  rw [ByteArray.toList_eq]
  exact List.eq_nil_of_length_eq_zero h
theorem full_of (i : ByteArray) (h : i.size ≠ 0) : i.toList ≠ [] ∧ i.toList.isEmpty = false := by
  have a : i.toList ≠ [] := by
    rw [ByteArray.toList_eq]
    intro e
    exact h (show i.data.toList.length = 0 by rw [e]; rfl)
  exact ⟨a, by cases hl : i.toList with
    | nil => exact absurd hl a
    | cons x l => rfl⟩
end EvtR
end Go.Proofs.YtcilbmhkhllmjaaGreatDoor
namespace Go.Proofs.YtcilbmhkhllmjaaGreatDoor
open Go.ChangeShapes Go.WideShapes Go.ChangeAt Go.RowKit
set_option linter.unusedVariables false
namespace EvtR
open NameR WordR
/-- An event, as a value. -/
def ev (i a m : ByteArray) (n k : Int) (t : ByteArray) : Value := .agg #[.string i, .string a, .string m, .int .i64 n, .int .i64 k, .string t]
def tagB (s : ByteArray) : Bool := decide (s.size ≤ 10) && printB s
def evB (i a m : ByteArray) (n k : Int) (t : ByteArray) : Bool := idB i && (nameB a && (nameB m && (decide (0 ≤ n ∧ n ≤ 121000000) && (decide (0 ≤ k ∧ k ≤ 1000000000) && tagB t))))
/-- Six that are asked one by one: the first that is false, or none. -/
theorem six (b1 b2 b3 b4 b5 b6 : Bool) : (b1 = false) ∨ (b1 = true ∧ b2 = false) ∨ (b1 = true ∧ b2 = true ∧ b3 = false) ∨ (b1 = true ∧ b2 = true ∧ b3 = true ∧ b4 = false) ∨ (b1 = true ∧ b2 = true ∧ b3 = true ∧ b4 = true ∧ b5 = false) ∨ (b1 = true ∧ b2 = true ∧ b3 = true ∧ b4 = true ∧ b5 = true ∧ b6 = false) ∨ (b1 = true ∧ b2 = true ∧ b3 = true ∧ b4 = true ∧ b5 = true ∧ b6 = true) := by
  cases b1 <;> cases b2 <;> cases b3 <;> cases b4 <;> cases b5 <;> cases b6 <;> simp
theorem impl_tag (s : ByteArray) (w : World) (hs : s.size ≤ 1048576) : Calls Tryz.prog 189 #[.string s] w fun e w' => e = .returned (.bool (tagB s)) ∧ Below w.heap.size w w' := by
  have HP := hid_intro (fun w => impl_printed s w hs)
  unfold tagB
  generalize printB s = p at *
  by_cases h : s.size ≤ 10
  · have h' : (s.size : Int) ≤ 10 := by omega
    go_enter Tryz.func189, Tryz.ntmps189
    go_wp2_with (go_at_call 203; refine (HP.out _).mono ?_; rintro e w1 ⟨rfl, hb1⟩)
    go_ret
    exact ⟨ret_bool (by simp [h]), hb1⟩
  · have h' : ¬ (s.size : Int) ≤ 10 := by omega
    go_enter Tryz.func189, Tryz.ntmps189
    go_wp2_with fail
    go_ret
    exact ⟨ret_bool (by first | (simp; done) | (simp; omega)), Below.refl _ _⟩
set_option maxRecDepth 100000 in
set_option maxHeartbeats 4000000 in
theorem spec_event (i a m : ByteArray) (n k : Int) (t : ByteArray) (h1 : i.size ≤ 1048576) (h2 : a.size ≤ 1048576) (h3 : m.size ≤ 1048576) (h6 : t.size ≤ 1048576) (w : World) :
    Calls Tryz.prog 172 #[ev i a m n k t] w fun e w' => e = .returned (.bool (evB i a m n k t)) ∧ Below w.heap.size w w' := by
  by_cases hi : i.size = 0
  · have he := empty_of i hi
    have hv : evB i a m n k t = false := by
      unfold evB idB
      simp [hi]
    rw [hv]
    unfold ev
    clear hi
    go_enter Tryz.func172, Tryz.ntmps172
    go_wp2_with fail
    go_ret
    exact ⟨rfl, (Below.refl _ _).alloc (Nat.le_refl _) _⟩
  · obtain ⟨he, he2⟩ := full_of i hi
    have H1 := hid_intro (fun w => spec_word i 20 w h1)
    have H6 := hid_intro (fun w => spec_word t 10 w h6)
    have H2 := hid_intro (fun w => NameR.spec_any a w h2)
    have H3 := hid_intro (fun w => NameR.spec_any m w h3)
    have H4 := hid_intro (fun w => sminute_any n w)
    have H5 := hid_intro (fun w => is_any k 0 1000000000 w)
    rw [show (printB i && decide ((i.size : Int) ≤ 20)) = idB i by unfold idB; rw [Bool.and_comm]; congr 1; exact decide_eq_decide.2 (by omega)] at H1
    rw [show (printB t && decide ((t.size : Int) ≤ 10)) = tagB t by unfold tagB; rw [Bool.and_comm]; congr 1; exact decide_eq_decide.2 (by omega)] at H6
    unfold evB ev
    generalize idB i = b1 at *
    generalize nameB a = b2 at *
    generalize nameB m = b3 at *
    generalize decide (0 ≤ n ∧ n ≤ 121000000) = b4 at *
    generalize decide (0 ≤ k ∧ k ≤ 1000000000) = b5 at *
    generalize tagB t = b6 at *
    clear hi
    rcases six b1 b2 b3 b4 b5 b6 with rfl | ⟨rfl, rfl⟩ | ⟨rfl, rfl, rfl⟩ | ⟨rfl, rfl, rfl, rfl⟩ | ⟨rfl, rfl, rfl, rfl, rfl⟩ | ⟨rfl, rfl, rfl, rfl, rfl, rfl⟩ | ⟨rfl, rfl, rfl, rfl, rfl, rfl⟩
    all_goals
      go_enter Tryz.func172, Tryz.ntmps172
      go_wp2_with (first | (go_at_call_of 113 (Value.string i); refine (H1.out _).mono ?_; rintro e w' ⟨rfl, rfl⟩) | (go_at_call_of 35 (Value.string a); refine (H2.out _).mono ?_; rintro e w' ⟨rfl, rfl⟩) | (go_at_call_of 35 (Value.string m); refine (H3.out _).mono ?_; rintro e w' ⟨rfl, rfl⟩) | (go_at_call 198; refine (H4.out _).mono ?_; rintro e w' ⟨rfl, rfl⟩) | (go_at_call 69; refine (H5.out _).mono ?_; rintro e w' ⟨rfl, rfl⟩) | (go_at_call_of 113 (Value.string t); refine (H6.out _).mono ?_; rintro e w' ⟨rfl, rfl⟩))
      go_ret
      exact ⟨by first | rfl | (simp only [he2]; rfl), (Below.refl _ _).alloc (Nat.le_refl _) _⟩
end EvtR
end Go.Proofs.YtcilbmhkhllmjaaGreatDoor
namespace Go.Proofs.YtcilbmhkhllmjaaGreatDoor
open Go.RowKit
namespace LtR
open Op (bytesLess)
theorem bl_irrefl : ∀ x : List UInt8, bytesLess x x = false
  | [] => rfl
  | a :: x => by
    rw [bytesLess, bl_irrefl x]
    simp
theorem bl_trans : ∀ {x y z : List UInt8}, bytesLess x y = true → bytesLess y z = true → bytesLess x z = true
  | _, [], _, h, _ => by simp [bytesLess] at h
  | _, _ :: _, [], _, h => by simp [bytesLess] at h
  | [], _ :: _, _ :: _, _, _ => rfl
  | a :: x, b :: y, c :: z, h1, h2 => by
    rw [bytesLess] at *
    simp only [Bool.or_eq_true, Bool.and_eq_true, decide_eq_true_eq, beq_iff_eq] at *
    rcases h1 with h1 | ⟨rfl, h1⟩
    · rcases h2 with h2 | ⟨rfl, h2⟩
      · exact .inl (UInt8.lt_trans h1 h2)
      · exact .inl h1
    · rcases h2 with h2 | ⟨rfl, h2⟩
      · exact .inl h2
      · exact .inr ⟨rfl, bl_trans h1 h2⟩
theorem bl_total : ∀ {x y : List UInt8}, bytesLess x y = false → bytesLess y x = false → x = y
  | [], [], _, _ => rfl
  | [], _ :: _, h, _ => by simp [bytesLess] at h
  | _ :: _, [], _, h => by simp [bytesLess] at h
  | a :: x, b :: y, h1, h2 => by
    rw [bytesLess] at *
    simp only [Bool.or_eq_false_iff, Bool.and_eq_false_iff, decide_eq_false_iff_not, beq_eq_false_iff_ne] at *
    have e : a = b := by
      have p1 := h1.1
      have p2 := h2.1
      rw [UInt8.lt_iff_toNat_lt] at p1 p2
      exact UInt8.toNat.inj (by omega)
    subst e
    rw [bl_total (h1.2.resolve_left (fun h => h rfl)) (h2.2.resolve_left (fun h => h rfl))]
/-- One text is ahead of another. -/
def lt (a b : ByteArray) : Bool := bytesLess a.toList b.toList
theorem toList_inj {a b : ByteArray} (h : a.toList = b.toList) : a = b := by
  rw [ByteArray.toList_eq, ByteArray.toList_eq] at h
  exact ByteArray.ext (Array.ext' h)
theorem lt_irrefl (a : ByteArray) : lt a a = false := bl_irrefl _
theorem lt_trans {a b c : ByteArray} (h1 : lt a b = true) (h2 : lt b c = true) : lt a c = true := bl_trans h1 h2
theorem lt_total {a b : ByteArray} (h1 : lt a b = false) (h2 : lt b a = false) : a = b := toList_inj (bl_total h1 h2)
theorem lt_asymm {a b : ByteArray} (h : lt a b = true) : lt b a = false := by
  cases h2 : lt b a
  · rfl
  · have := lt_trans h h2
    rw [lt_irrefl] at this
    cases this
theorem lt_empty {b : ByteArray} (h : 1 ≤ b.size) : lt ⟨#[]⟩ b = true := by
  unfold lt
  have h1 : (⟨#[]⟩ : ByteArray).toList = [] := by rw [ByteArray.toList_eq]
  rw [h1]
  cases hb : b.toList with
  | nil =>
    rw [ByteArray.toList_eq] at hb
    have : b.data.toList.length = 0 := by rw [hb]; rfl
    have h2 : b.data.toList.length = b.size := rfl
    omega
  | cons x l => rfl
end LtR
end Go.Proofs.YtcilbmhkhllmjaaGreatDoor
