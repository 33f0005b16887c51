/-
  Small facts that the other texts use: what a call hands back, read as one equation. No condition.
  A row of cells that may be written. No condition.
  Rows of things of so many cells each, read, written cell by cell, made by append. No condition.
  Arithmetic alone: leap years, the days of months and years, and which year and month a day lies in. No condition.
  Arithmetic alone: the first day of a month that is counted from January 1970, and which month a right date lies in. No condition.
  What the program calls a name is what the model calls one, of every text of at most 1048576 bytes. No condition.
  A text of seen bytes alone (33 to 126): what the program says rune by rune and what the model says byte by byte. No condition but the length.
  What a right Id and a minute are: both sides say the same. No condition but the lengths.
  What a right event is: both sides say the same. No condition but the lengths.
  The order of texts. No condition.
  Windows: their tags and hours as rows of cells, and what is right of them, in numbers. No condition.
  A block of cells that stays. No condition.
  The program's rising lists: whether tags, hours rise. The condition: at most 1048576 of them.
  Windows that the law is given: how many letters, the law's own copies, and windows held against each other. The condition: at most 1048576 of each.
  Windows that the law is given: the law's own copies, and windows held against each other. The condition: at most 1048576 of each.
  Windows that the law is given: the law's own copies, and windows held against each other. The condition: at most 1048576 of each.
  The zero window. No condition.
  A window handed back with its code. No condition.
  The law's own mark, a text. The condition: its number is 1 to 99999999.
  The law's own marks in a window's lists: written, and found again. The conditions: lists of at most 1048576, marks from 1 to 10000000 on.
  What WindowJoin and WindowAdd hand back: held against each other, marked, looked at. The condition: lists of at most 1048576.
  Two lists that rise, laid into one: two at a time, or one by one; the same list. The conditions are named: what is smaller is so of what comes behind, too.
  The program's rising lists: whether hours rise. The condition: at most 1048576 of them.
  Leap years, and the days of the week: either side tells the same. No condition.
  The days of a month, and whether a date is right: either side tells the same. The condition: the program's table stands in its variable.
  Whether a date is right: either side tells the same. The condition: the program's table stands in its variable.
  A date's day: either side tells the same. The condition: the program's table stands in its variable.
  A day's date, the program's side. The condition: the program's table stands in its variable.
  A day's date, the model's side. No condition.
  A day's date: both sides hand back the same; of a day within the years it is a right date, whose day is that one. The condition: the program's table stands in its variable.
  A right minute's month: both sides hand back the same; whether an hour lies in a month. The condition: the program's table stands in its variable.
  What the program calls a right window. The conditions: texts of at most 1048576 bytes, lists of at most 1048576; the program's table stands in its variable.
  What the program calls a window's right tags. The conditions: texts of at most 1048576 bytes, lists of at most 1048576.
-/
import Derived.Test.YtnlmpejgiakepaaDoorRows
import Derived.WalkKit
import Derived.ProofKit
import Derived.OpenShut
import Derived.ShutString
import Derived.Below
import Derived.WalkSpells
import Derived.WalkLawsBesides
import Derived.OwnWalk
import Derived.Laws.RangeAny
import Derived.Deep.RegionHeld3
import Derived.BigQuiet
import Derived.Deep.QuietTactic
import Derived.Deep.RegionWith
import Derived.Lib.ConvBytes
import Derived.Laws.BytesArg
import Derived.Deep.DrawnRows
namespace Go.Proofs.YtnlmpejgiakepaaDoor
theorem SL {α : Type} : (∀ (l : List α) (i : Nat) (x : α), l.toArray.setIfInBounds i x = (l.set i x).toArray) ∧ (∀ (x : α) (xs : List α) (b : α), (x :: xs).set 0 b = b :: xs) ∧ (∀ (x : α) (xs : List α) (n : Nat) (b : α), (x :: xs).set (n + 1) b = x :: xs.set n b) :=
  ⟨fun _ _ _ => List.setIfInBounds_toArray .., fun _ _ _ => List.set_cons_zero .., fun _ _ _ _ => List.set_cons_succ ..⟩
theorem tk {P : Program} {ops : Array Oper} {Q : Exit → Act → World → Prop} {md : Region.Mode} {S : World → Prop} {i : Nat} {oi : Oper} {v : Value} {fuel : Nat} {listed : Array Bool} {a : Act} {w : World}
    (hy : ∀ w, S w → (execOp a.eval oi).run P w = .ok (.value v) w) (h : wpAnyH P md ops Q S fuel (listed.setIfInBounds i true) (a.put oi.dst v) w)
    (hi : ops[i]? = some oi := by exact rfl) (hs : Region.noSelect ops = true := by kernel_rfl) (hf : Region.free md ops listed i = true := by kernel_rfl) (hr : (Region.ready md ops listed).contains i = true := by kernel_rfl)
    (hQ : ∀ c a w, Q (.panic c) (a.put oi.dst v) w → Q (.panic c) a w := by exact fun _ _ _ h => h) (hw : Region.wanted oi (yielded ops a.tmps) = true := by rfl) (hS : S w := by assumption) : wpAnyH P md ops Q S (fuel + 1) listed a w :=
  wpAnyH_take hi hs hf hr hQ (.inl ⟨hw, hy⟩) hS h
end Go.Proofs.YtnlmpejgiakepaaDoor
namespace Go.Proofs.YtnlmpejgiakepaaDoor
open Go.RowKit
theorem ret_bool {a b : Bool} (h : a = b) : Ending.returned (.bool a) = .returned (.bool b) := by rw [h]
theorem ret_int {k : IntKind} {a b : Int} (h : a = b) : Ending.returned (.int k a) = .returned (.int k b) := by rw [h]
theorem ret_str {a b : ByteArray} (h : a = b) : Ending.returned (.string a) = .returned (.string b) := by rw [h]
theorem bcell {W w1 : World} (hb : Below W.heap.size W w1) : (∀ b o, b < W.heap.size → w1.cell? ⟨b, o, none⟩ = W.cell? ⟨b, o, none⟩) ∧ (∀ b o, b < W.heap.size → w1.frozen? ⟨b, o, none⟩ = W.frozen? ⟨b, o, none⟩) :=
 ⟨fun b o h => hb.cell (p := ⟨b, o, none⟩) h, fun b o h => hb.frozen (p := ⟨b, o, none⟩) h⟩
theorem bel_alloc {w w1 : World} {o : Obj} (h : Below (w.alloc o).heap.size (w.alloc o) w1) : Below w.heap.size w w1 :=
 ((Below.refl _ _).alloc (Nat.le_refl _) _).trans (h.mono (by simp))
theorem bel_alloc_drew {w w1 : World} {o : Obj} (h : Below (w.alloc o).drew.heap.size (w.alloc o).drew w1) : Below w.heap.size w w1 :=
 (((Below.refl _ _).alloc (Nat.le_refl _) _).drew).trans (h.mono (by simp))
end Go.Proofs.YtnlmpejgiakepaaDoor
namespace Go.Proofs.YtnlmpejgiakepaaDoor
open Go.ChangeShapes Go.WideShapes Go.ChangeAt Go.RowKit
set_option linter.unusedVariables false
namespace EvtR
/-- Cells that may be written. -/
structure Pt (g m : Nat) (w : World) : Prop where
 lt : g < w.heap.size
 has : ∀ o, o < m → ∃ v, w.cell? ⟨g, o, none⟩ = some v
 free : ∀ o, o < m → w.frozen? ⟨g, o, none⟩ = false
theorem Pt.below {g m : Nat} {w w' : World} (h : Pt g m w) (hb : Below w.heap.size w w') : Pt g m w' :=
 ⟨by have := hb.size; have := h.lt; omega, fun o ho => by obtain ⟨v, hv⟩ := h.has o ho; exact ⟨v, (hb.cell (p := ⟨g, o, none⟩) h.lt).trans hv⟩, fun o ho => (hb.frozen (p := ⟨g, o, none⟩) h.lt).trans (h.free o ho)⟩
theorem cell_put {g m : Nat} {w : World} (h : Pt g m w) (o : Nat) (ho : o < m) (v : Value) : (w.setCell ⟨g, o, none⟩ v).cell? ⟨g, o, none⟩ = some v := by
 obtain ⟨u, hu⟩ := h.has o ho
 simp [go_sem, hu]
theorem cell_far {g : Nat} {w : World} (o o' : Nat) (ho : o ≠ o') (v : Value) : (w.setCell ⟨g, o, none⟩ v).cell? ⟨g, o', none⟩ = w.cell? ⟨g, o', none⟩ := by
 simp [go_sem]
theorem Pt.set {g m : Nat} {w : World} (h : Pt g m w) (o : Nat) (v : Value) : Pt g m (w.setCell ⟨g, o, none⟩ v) := by
 refine ⟨by simpa using h.lt, fun x hx => ?_, fun x hx => ?_⟩
 ·by_cases e : o = x
  ·subst e; exact ⟨v, cell_put h o hx v⟩
  ·obtain ⟨u, hu⟩ := h.has x hx
   exact ⟨u, (cell_far o x e v).trans hu⟩
 ·have := h.free x hx
  simp [go_sem, this]
end EvtR
end Go.Proofs.YtnlmpejgiakepaaDoor
namespace Go.Proofs.YtnlmpejgiakepaaDoor
open Go.ChangeShapes Go.WideShapes Go.ChangeAt Go.RowKit
set_option linter.unusedVariables false
namespace RowG
open EvtR (Pt cell_put cell_far)
theorem hid_intro {p : Prop} (h : p) : Hid p := h
section
variable {α : Type} (k : Nat) (cells : α → List Value) (z : α)
/-- The cells of a thing stand at a place. -/
def AtG (w : World) (b o : Nat) (x : α) : Prop := ∀ j, j < k → w.cell? ⟨b, o + j, none⟩ = (cells x)[j]?
/-- The row holds these things. -/
def Rws (ao : Option Addr) (xs : List α) (w : World) : Prop := xs.length = 0 ∨ ∃ b off, ao = some ⟨b, off, none⟩ ∧ b < w.heap.size ∧ ∀ j, j < xs.length → AtG k cells w b (off + j * k) (xs.getD j z)
/-- The cell that stands at a place of a row of things. -/
def cellAt (xs : List α) (o : Nat) : Option Value := (cells (xs.getD (o / k) z))[o % k]?
/-- The first cells are written. -/
def Wr (f : Nat → Option Value) (j g : Nat) (w : World) : Prop := ∀ o, o < j → w.cell? ⟨g, o, none⟩ = f o
end
section
variable {α : Type} {k : Nat} {cells : α → List Value} {z : α}
theorem AtG.below {w w' : World} {b o : Nat} {x : α} (h : AtG k cells w b o x) (hl : b < w.heap.size) (hb : Below w.heap.size w w') : AtG k cells w' b o x :=
 fun j hj => (hb.cell (p := ⟨b, o + j, none⟩) hl).trans (h j hj)
theorem Rws.below {ao : Option Addr} {xs : List α} {w w' : World} (h : Rws k cells z ao xs w) (hb : Below w.heap.size w w') : Rws k cells z ao xs w' := by
 rcases h with h0 | ⟨b, off, rfl, hlt, hc⟩
 ·exact .inl h0
 ·exact .inr ⟨b, off, rfl, by have := hb.size; omega, fun j hj => (hc j hj).below hlt hb⟩
theorem Rws.grown {ao : Option Addr} {xs : List α} {w w' : World} {row : Option Nat} (h : Rws k cells z ao xs w) (hg : w.grownBy w' row) (hne : xs.length = 0 ∨ ∀ b off, ao = some ⟨b, off, none⟩ → some b ≠ row) : Rws k cells z ao xs w' := by
 rcases h with h0 | ⟨b, off, rfl, hlt, hc⟩
 ·exact .inl h0
 ·rcases hne with h0 | hne
  ·exact .inl h0
  have e := hg.block b hlt (hne b off rfl)
  exact .inr ⟨b, off, rfl, by have := hg.size; omega, fun j hj i hi => (World.cell?_of_block (a := ⟨b, off + j * k + i, none⟩) e).trans (hc j hj i hi)⟩
theorem Rws.at {ao : Option Addr} {xs : List α} {w : World} (h : Rws k cells z ao xs w) (j : Nat) (hj : j < xs.length) : ∃ b off, ao = some ⟨b, off, none⟩ ∧ b < w.heap.size ∧ AtG k cells w b (off + j * k) (xs.getD j z) := by
 rcases h with h0 | ⟨b, off, rfl, hlt, hc⟩
 ·omega
 ·exact ⟨b, off, rfl, hlt, hc j hj⟩
theorem rws_nil (ao : Option Addr) (w : World) : Rws k cells z ao [] w := .inl rfl
theorem getD_mem (xs : List α) (j : Nat) (h : j < xs.length) : xs.getD j z ∈ xs := by
 have : xs.getD j z = xs[j] := by simp [List.getD, h]
 rw [this]; exact List.getElem_mem h
theorem take_more (xs : List α) (j : Nat) (h : j < xs.length) : xs.take (j + 1) = xs.take j ++ [xs.getD j z] := by
 rw [List.take_add_one, List.getElem?_eq_getElem h]
 simp [List.getD, h]
theorem Wr.below {f : Nat → Option Value} {j g m : Nat} {w w' : World} (h : Wr f j g w) (hp : Pt g m w) (hb : Below w.heap.size w w') : Wr f j g w' :=
 fun o ho => (hb.cell (p := ⟨g, o, none⟩) hp.lt).trans (h o ho)
theorem Wr.more {f : Nat → Option Value} {j g m : Nat} {w : World} (h : Wr f j g w) (hp : Pt g m w) (hj : j < m) (v : Value) (hv : f j = some v) : Wr f (j + 1) g (w.setCell ⟨g, j, none⟩ v) := by
 intro o ho
 by_cases e : j = o
 ·subst e; rw [cell_put hp j hj v, hv]
 ·rw [cell_far j o e v]; exact h o (by omega)
theorem Wr.at {xs : List α} {n g : Nat} {w : World} (h : Wr (cellAt k cells z xs) (n * k) g w) (i : Nat) (hi : i < n) (x : Nat) (hx : x < k) : w.cell? ⟨g, i * k + x, none⟩ = (cells (xs.getD i z))[x]? := by
 have hlt : i * k + x < n * k := by
  have : (i + 1) * k ≤ n * k := Nat.mul_le_mul_right _ hi
  rw [Nat.add_mul, Nat.one_mul] at this
  omega
 rw [h _ hlt]
 unfold cellAt
 rw [show i * k + x = x + k * i by rw [Nat.mul_comm]; omega, Nat.add_mul_div_left _ _ (by omega), Nat.div_eq_of_lt hx, Nat.zero_add, Nat.add_mul_mod_self_left, Nat.mod_eq_of_lt hx]
theorem Wr.rws {xs : List α} {g : Nat} {w : World} (h : Wr (cellAt k cells z xs) (xs.length * k) g w) (hl : g < w.heap.size) : Rws k cells z (some ⟨g, 0, none⟩) xs w :=
 .inr ⟨g, 0, rfl, hl, fun j hj i hi => by rw [Nat.zero_add]; exact h.at j hj i hi⟩
theorem cellAt_of {xs : List α} (i x : Nat) (hx : x < k) : cellAt k cells z xs (i * k + x) = (cells (xs.getD i z))[x]? := by
 unfold cellAt
 rw [show i * k + x = x + k * i by rw [Nat.mul_comm]; omega, Nat.add_mul_div_left _ _ (by omega), Nat.div_eq_of_lt hx, Nat.zero_add, Nat.add_mul_mod_self_left, Nat.mod_eq_of_lt hx]
/-- The cells of a list of things. -/
def cellsAll (cells : α → List Value) (xs : List α) : List Value := xs.flatMap cells
theorem cellsAll_app (xs : List α) (x : α) : cellsAll cells (xs ++ [x]) = cellsAll cells xs ++ cells x := by simp [cellsAll]
theorem cellsAll_len (hk : ∀ x, (cells x).length = k) (xs : List α) : (cellsAll cells xs).length = xs.length * k := by
 induction xs with
 | nil => simp [cellsAll]
 | cons x xs ih => simp only [cellsAll, List.flatMap_cons, List.length_append, hk, List.length_cons] at *; rw [ih, Nat.add_mul]; omega
theorem cellsAll_get (hk : ∀ x, (cells x).length = k) (xs : List α) (i x : Nat) (hi : i < xs.length) (hx : x < k) : (cellsAll cells xs)[i * k + x]? = (cells (xs.getD i z))[x]? := by
 induction xs generalizing i with
 | nil => simp at hi
 | cons a xs ih =>
  simp only [cellsAll, List.flatMap_cons]
  cases i with
  | zero =>
   rw [Nat.zero_mul, Nat.zero_add, List.getElem?_append_left (by rw [hk]; exact hx)]
   rfl
  | succ i =>
   rw [List.getElem?_append_right (by rw [hk, Nat.add_mul]; omega), hk, show (i + 1) * k + x - k = i * k + x by rw [Nat.add_mul]; omega]
   simp only [List.length_cons] at hi
   exact ih i (by omega)
/-- A list that a call has made. -/
structure MadeG (k : Nat) (cells : α → List Value) (z : α) (base : Nat) (ao : Option Addr) (xs : List α) (w : World) : Prop where
 rws : Rws k cells z ao xs w
 own : xs.length = 0 ∨ ∃ g, ao = some ⟨g, 0, none⟩ ∧ base ≤ g ∧ Pt g (xs.length * k) w
theorem made_nil (base : Nat) (ao : Option Addr) (w : World) : MadeG k cells z base ao [] w := ⟨.inl rfl, .inl rfl⟩
theorem MadeG.below {base : Nat} {ao : Option Addr} {xs : List α} {w w' : World} (h : MadeG k cells z base ao xs w) (hb : Below w.heap.size w w') : MadeG k cells z base ao xs w' :=
 ⟨h.rws.below hb, h.own.imp id (fun ⟨g, h1, h2, h3⟩ => ⟨g, h1, h2, h3.below hb⟩)⟩
theorem MadeG.low {base base' : Nat} {ao : Option Addr} {xs : List α} {w : World} (h : MadeG k cells z base ao xs w) (hb : base' ≤ base) : MadeG k cells z base' ao xs w :=
 ⟨h.rws, h.own.imp id (fun ⟨g, h1, h2, h3⟩ => ⟨g, h1, by omega, h3⟩)⟩
theorem own_made (hk : ∀ x, (cells x).length = k) {w : World} {base T : Nat} {v : Value} {xs : List α} (h : w.ownsRow base T k v xs.length (cellsAll cells xs)) : ∃ ao cap, v = .slice ao xs.length cap ∧ MadeG k cells z base ao xs w := by
 rcases h.2 with ⟨h0, h1⟩ | ⟨g, cap, cur, hv, hg, hh, hc, _, hz, hcur⟩
 ·obtain rfl : xs = [] := List.length_eq_zero_iff.1 h1
  exact ⟨none, 0, h0, made_nil _ _ _⟩
 ·have hm : xs.length * k ≤ cur.size := by rw [hz]; exact Nat.mul_le_mul_right _ hc
  have hl := (h.lt g (by rw [hv]; rfl)).2
  refine ⟨_, _, hv, .inr ⟨g, 0, rfl, hl, fun j hj i hi => ?_⟩, .inr ⟨g, rfl, hg, hl, fun o ho => ?_, fun o ho => ?_⟩⟩
  ·rw [Nat.zero_add, ← cellsAll_get hk xs j i hj hi, ← hcur]
   have hlt : j * k + i < xs.length * k := by
    have : (j + 1) * k ≤ xs.length * k := Nat.mul_le_mul_right _ hj
    rw [Nat.add_mul, Nat.one_mul] at this
    omega
   rw [List.getElem?_take, if_pos hlt]
   simp [World.cell?, hh]
  ·have : o < cur.size := by omega
   refine ⟨cur[o], ?_⟩
   simp [World.cell?, hh, this]
  ·simp [World.frozen?, hh]
end
theorem own_below {w w' : World} {base e size n : Nat} {v : Value} {xs : List Value} (h : w.ownsRow base e size v n xs) (hb : Below w.heap.size w w') : w'.ownsRow base e size v n xs := by
 refine h.kept (row := none) ⟨hb.os, hb.tape, hb.output, hb.size, fun k hk _ => hb.block k hk⟩ ?_
 rcases hob : v.ownBlock with _ | b
 ·exact .inl rfl
 ·exact .inr (by simp)
theorem grown_set (w : World) (b o : Nat) (v : Value) : w.grownBy (w.setCell ⟨b, o, none⟩ v) (some b) := by
 refine ⟨rfl, rfl, rfl, by simp, fun k hk hne => ?_⟩
 simp only [World.setCell]
 rw [Array.getElem?_modify, if_neg (fun e => hne (by rw [e]))]
theorem own_set {w : World} {base e size n : Nat} {v : Value} {xs : List Value} (h : w.ownsRow base e size v n xs) (g o : Nat) (u : Value) (hg : ∀ b, v.ownBlock = some b → b ≠ g) : (w.setCell ⟨g, o, none⟩ u).ownsRow base e size v n xs := by
 refine h.kept (grown_set w g o u) ?_
 rcases hob : v.ownBlock with _ | b
 ·exact .inl rfl
 ·exact .inr (fun e => hg b hob (by simpa using e))
end RowG
end Go.Proofs.YtnlmpejgiakepaaDoor
namespace Go.Proofs.YtnlmpejgiakepaaDoor
namespace DateM
/-- Has the year a leap day? -/
def leapB (y : Int) : Bool := decide (y % 4 = 0 ∧ (y % 100 ≠ 0 ∨ y % 400 = 0))
/-- How many days a year has. -/
def yd (y : Int) : Int := if leapB y = true then 366 else 365
/-- How many days a month has, of a year and month within their limits. -/
def md (y m : Int) : Int := if m = 2 then (if leapB y = true then 29 else 28) else if m = 4 ∨ m = 6 ∨ m = 9 ∨ m = 11 then 30 else 31
/-- The same, 0 beyond the limits. -/
def mdays (y m : Int) : Int := if 1970 ≤ y ∧ y ≤ 2200 ∧ 1 ≤ m ∧ m ≤ 12 then md y m else 0
/-- The days of the years ahead. -/
def ys : Nat → Int
 | 0 => 0
 | k + 1 => ys k + yd (1970 + (k : Int))
/-- The days of the months ahead. -/
def ms (y : Int) : Nat → Int
 | 0 => 0
 | k + 1 => ms y k + md y ((k : Int) + 1)
theorem yd_bd (y : Int) : 365 ≤ yd y ∧ yd y ≤ 366 := by unfold yd; split <;> omega
theorem md_bd (y m : Int) : 28 ≤ md y m ∧ md y m ≤ 31 := by unfold md; split <;> (try split) <;> (try split) <;> omega
theorem mdays_bd (y m : Int) : 0 ≤ mdays y m ∧ mdays y m ≤ 31 := by unfold mdays; have := md_bd y m; split <;> omega
theorem ys_succ (k : Nat) : ys (k + 1) = ys k + yd (1970 + (k : Int)) := rfl
theorem ms_succ (y : Int) (k : Nat) : ms y (k + 1) = ms y k + md y ((k : Int) + 1) := rfl
theorem ys_bd (k : Nat) : 365 * (k : Int) ≤ ys k ∧ ys k ≤ 366 * (k : Int) := by
 induction k with
 | zero => simp [ys]
 | succ k ih => have := yd_bd (1970 + (k : Int)); rw [ys_succ]; omega
theorem ms_bd (y : Int) (k : Nat) : 28 * (k : Int) ≤ ms y k ∧ ms y k ≤ 31 * (k : Int) := by
 induction k with
 | zero => simp [ms]
 | succ k ih => have := md_bd y ((k : Int) + 1); rw [ms_succ]; omega
theorem ms_all (y : Int) : ms y 12 = yd y := by
 simp only [ms, md, yd]
 cases leapB y <;> decide
theorem ys_mono {j k : Nat} (h : j ≤ k) : ys j + 365 * ((k : Int) - j) ≤ ys k := by
 induction k with
 | zero =>
  obtain rfl : j = 0 := by omega
  simp
 | succ k ih =>
  by_cases e : j = k + 1
  ·subst e; simp
  ·have := ih (by omega)
   have := yd_bd (1970 + (k : Int))
   rw [ys_succ]; omega
theorem ms_mono (y : Int) {j k : Nat} (h : j ≤ k) : ms y j + 28 * ((k : Int) - j) ≤ ms y k := by
 induction k with
 | zero =>
  obtain rfl : j = 0 := by omega
  simp
 | succ k ih =>
  by_cases e : j = k + 1
  ·subst e; simp
  ·have := ih (by omega)
   have := md_bd y ((k : Int) + 1)
   rw [ms_succ]; omega
/-- Each day lies in one year. -/
theorem year_is (d : Int) (h : 0 ≤ d) : ∃ k : Nat, ys k ≤ d ∧ d < ys (k + 1) := by
 obtain ⟨n, rfl⟩ : ∃ n : Nat, d = n := ⟨d.toNat, by omega⟩
 induction n with
 | zero => exact ⟨0, by simp [ys], by have := ys_bd 1; simp at this ⊢; omega⟩
 | succ n ih =>
  obtain ⟨k, h1, h2⟩ := ih (by omega)
  by_cases e : ((n + 1 : Nat) : Int) < ys (k + 1)
  ·exact ⟨k, by omega, e⟩
  ·refine ⟨k + 1, by omega, ?_⟩
   have := yd_bd (1970 + ((k + 1 : Nat) : Int))
   rw [ys_succ (k + 1)]; omega
/-- Each day of a year lies in one month. -/
theorem month_is (y d : Int) (h : 0 ≤ d) (h2 : d < yd y) : ∃ k : Nat, k < 12 ∧ ms y k ≤ d ∧ d < ms y (k + 1) := by
 have key : ∀ j : Nat, j ≤ 12 → ms y j ≤ d ∨ ∃ k : Nat, k < 12 ∧ ms y k ≤ d ∧ d < ms y (k + 1) := by
  intro j
  induction j with
  | zero => intro _; left; simp [ms]; exact h
  | succ j ih =>
   intro hj
   rcases ih (by omega) with h1 | h1
   ·by_cases e : d < ms y (j + 1)
    ·exact .inr ⟨j, by omega, h1, e⟩
    ·exact .inl (by omega)
   ·exact .inr h1
 rcases key 12 (Nat.le_refl _) with h1 | h1
 ·rw [ms_all] at h1; omega
 ·exact h1
theorem year_one {d : Int} {j k : Nat} (h1 : ys j ≤ d) (h2 : d < ys (k + 1)) : j ≤ k := by
 apply Nat.le_of_not_lt
 intro h
 have := ys_mono (show k + 1 ≤ j from h)
 omega
theorem month_one {y d : Int} {j k : Nat} (h1 : ms y j ≤ d) (h2 : d < ms y (k + 1)) : j ≤ k := by
 apply Nat.le_of_not_lt
 intro h
 have := ms_mono y (show k + 1 ≤ j from h)
 omega
/-- Is it a right date? -/
def rightB (y m d : Int) : Bool := decide (1 ≤ d ∧ d ≤ mdays y m)
theorem right_iff (y m d : Int) : rightB y m d = true ↔ 1970 ≤ y ∧ y ≤ 2200 ∧ 1 ≤ m ∧ m ≤ 12 ∧ 1 ≤ d ∧ d ≤ md y m := by
 unfold rightB mdays
 simp only [decide_eq_true_eq]
 split <;> omega
/-- A right date's day. -/
def num (y m d : Int) : Int := d - 1 + ys (y - 1970).toNat + ms y (m - 1).toNat
end DateM
end Go.Proofs.YtnlmpejgiakepaaDoor
namespace Go.Proofs.YtnlmpejgiakepaaDoor
namespace DateM
/-- The first day of a month. -/
def fd (k : Nat) : Int := ys (k / 12) + ms (1970 + ((k / 12 : Nat) : Int)) (k % 12)
theorem fd_num (k : Nat) : num (1970 + (k : Int) / 12) ((k : Int) % 12 + 1) 1 = fd k := by
 unfold num fd
 rw [show (1970 + (k : Int) / 12 - 1970).toNat = k / 12 by omega, show ((k : Int) % 12 + 1 - 1).toNat = k % 12 by omega, show ((k / 12 : Nat) : Int) = (k : Int) / 12 by omega]
 omega
theorem fd_succ (k : Nat) : fd (k + 1) = fd k + md (1970 + ((k / 12 : Nat) : Int)) (((k % 12 : Nat) : Int) + 1) := by
 unfold fd
 by_cases h : k % 12 = 11
 ·rw [show (k + 1) / 12 = k / 12 + 1 by omega, show (k + 1) % 12 = 0 by omega, ys_succ, ← ms_all, h, ms_succ]
  simp only [ms]
  omega
 ·rw [show (k + 1) / 12 = k / 12 by omega, show (k + 1) % 12 = k % 12 + 1 by omega, ms_succ]
  omega
theorem fd_step (k : Nat) : fd k + 28 ≤ fd (k + 1) ∧ fd (k + 1) ≤ fd k + 31 := by
 rw [fd_succ]
 have := md_bd (1970 + ((k / 12 : Nat) : Int)) (((k % 12 : Nat) : Int) + 1)
 omega
theorem fd_zero : fd 0 = 0 := by simp [fd, ys, ms]
theorem fd_mono {j k : Nat} (h : j ≤ k) : fd j + 28 * ((k : Int) - j) ≤ fd k := by
 induction k with
 | zero =>
  obtain rfl : j = 0 := by omega
  simp
 | succ k ih =>
  by_cases e : j = k + 1
  ·subst e; simp
  ·have := ih (by omega)
   have := fd_step k
   omega
theorem fd_bd (k : Nat) : 0 ≤ fd k ∧ fd k ≤ 31 * (k : Int) := by
 induction k with
 | zero => simp [fd_zero]
 | succ k ih => have := fd_step k; omega
theorem fd_one {d : Int} {j k : Nat} (h1 : fd j ≤ d) (h2 : d < fd (k + 1)) : j ≤ k := by
 apply Nat.le_of_not_lt
 intro h
 have := fd_mono (show k + 1 ≤ j from h)
 omega
/-- A right date lies in its month. -/
theorem num_fd (y m d : Int) (h : rightB y m d = true) : ∃ k : Nat, k ≤ 2771 ∧ 12 * (y - 1970) + (m - 1) = (k : Int) ∧ fd k ≤ num y m d ∧ num y m d < fd (k + 1) := by
 obtain ⟨y1, y2, m1, m2, d1, d2⟩ := (right_iff y m d).1 h
 refine ⟨(12 * (y - 1970) + (m - 1)).toNat, by omega, by omega, ?_⟩
 have e1 : (12 * (y - 1970) + (m - 1)).toNat / 12 = (y - 1970).toNat := by omega
 have e2 : (12 * (y - 1970) + (m - 1)).toNat % 12 = (m - 1).toNat := by omega
 rw [fd_succ]
 unfold fd num
 rw [e1, e2, show 1970 + (((y - 1970).toNat : Nat) : Int) = y by omega, show (((m - 1).toNat : Nat) : Int) + 1 = m by omega]
 omega
theorem ys_nat : ∀ k : Nat, k ≤ 231 → ys k = ((List.range k).foldl (fun (a : Int) (j : Nat) => a + yd (1970 + (j : Int))) 0) := by
 intro k _
 induction k with
 | zero => rfl
 | succ k ih => rw [List.range_succ, List.foldl_append, ← ih (by omega)]; rfl
theorem ys_231 : 84028 ≤ ys 231 := by rw [ys_nat 231 (by omega)]; decide +kernel
theorem fd_2760 : fd 2760 = 84006 := by
 unfold fd
 show ys 230 + ms _ 0 = _
 rw [ys_nat 230 (by omega)]
 decide +kernel
/-- The first day's date is right. -/
theorem right_first (k : Nat) (h : k ≤ 2760) : rightB (1970 + (k : Int) / 12) ((k : Int) % 12 + 1) 1 = true := by
 have := md_bd (1970 + (k : Int) / 12) ((k : Int) % 12 + 1)
 exact (right_iff _ _ _).2 ⟨by omega, by omega, by omega, by omega, by omega, by omega⟩
end DateM
end Go.Proofs.YtnlmpejgiakepaaDoor
namespace Go.Proofs.YtnlmpejgiakepaaDoor
open Go.ChangeShapes Go.WideShapes Go.ChangeAt Go.RowKit
open Go.ChangeMaps (open_string shut_string)
namespace NameR
/-- May this byte stand at this place of a name? -/
def okAt (i : Nat) (c : Int) : Bool := decide ((97 ≤ c ∧ c ≤ 122) ∨ (i ≠ 0 ∧ ((48 ≤ c ∧ c ≤ 57) ∨ c = 95)))
def upTo (s : ByteArray) (k : Nat) : Prop := ∀ i (h : i < s.size), i < k → okAt i (s[i].toNat : Int) = true
def upToDec (s : ByteArray) (k : Nat) : Decidable (upTo s k) := inferInstanceAs (Decidable (∀ i (h : i < s.size), i < k → okAt i (s[i].toNat : Int) = true))
def nameB (s : ByteArray) : Bool := @decide (1 ≤ s.size ∧ s.size ≤ 20 ∧ upTo s s.size) (@instDecidableAnd _ _ _ (@instDecidableAnd _ _ _ (upToDec s s.size)))
theorem name_size {s : ByteArray} (h : s.size < 1 ∨ 20 < s.size) : nameB s = false := by
  unfold nameB; simp; intro h1 h2; omega
theorem name_no {s : ByteArray} {k : Nat} (h : k < s.size) (hb : okAt k (s[k].toNat : Int) = false) : nameB s = false := by
  unfold nameB; simp; intro _ _ hu; have := hu k h h; simp [hb] at this
theorem name_yes {s : ByteArray} (h1 : 1 ≤ s.size) (h2 : s.size ≤ 20) (hu : upTo s s.size) : nameB s = true := by
  unfold nameB; simp; exact ⟨h1, h2, hu⟩
theorem upTo_zero (s : ByteArray) : upTo s 0 := fun _ _ h => absurd h (by omega)
theorem upTo_succ {s : ByteArray} {k : Nat} (hu : upTo s k) (h : k < s.size) (hb : okAt k (s[k].toNat : Int) = true) : upTo s (k + 1) := by
  intro i hi hk
  by_cases e : i = k
  · subst e; exact hb
  · exact hu i hi (by omega)

set_option maxHeartbeats 2000000 in
theorem spec_any (s : ByteArray) (w : World) (hs : s.size ≤ 1048576) :
    Calls Tryd.prog 41 #[.string s] w fun e w' => e = .returned (.bool (nameB s)) ∧ w' = w := by
  by_cases h1 : s.size < 1
  · have hn := name_size (s := s) (.inl h1)
    rw [hn]
    go_enter Tryd.func41, Tryd.ntmps41
    go_wp2
    go_ret
    exact ⟨rfl, rfl⟩
  by_cases h2 : 20 < s.size
  · have hn := name_size (s := s) (.inr h2)
    rw [hn]
    go_enter Tryd.func41, Tryd.ntmps41
    go_wp2
    go_ret
    exact ⟨rfl, rfl⟩
  go_enter Tryd.func41, Tryd.ntmps41
  go_wp2
  go_loop [3, 4] (fun i _ => ∃ k : Nat, k ≤ s.size ∧ i = .int .i64 k ∧ upTo s k) (fun i _ => s.size - (intOf i).toNat)
  case atStart => exact ⟨0, Nat.zero_le _, rfl, upTo_zero s⟩
  case round =>
    obtain ⟨k, hk, rfl, hu⟩ := hrel
    by_cases hlt : k < s.size
    · have hno := name_no (s := s) hlt
      have hyes := upTo_succ hu hlt
      have HN : Hid (okAt k (s[k].toNat : Int) = false → nameB s = false) := hno
      have HY : Hid (okAt k (s[k].toNat : Int) = true → upTo s (k + 1)) := hyes
      clear hno hyes hu
      by_cases hk0 : k = 0
      · subst hk0
        rcases (show ((s[0].toNat : Int) < 48) ∨ (48 ≤ (s[0].toNat : Int) ∧ (s[0].toNat : Int) ≤ 57) ∨ (57 < (s[0].toNat : Int) ∧ (s[0].toNat : Int) < 95) ∨ (95 ≤ (s[0].toNat : Int) ∧ (s[0].toNat : Int) ≤ 95) ∨ (95 < (s[0].toNat : Int) ∧ (s[0].toNat : Int) < 97) ∨ (97 ≤ (s[0].toNat : Int) ∧ (s[0].toNat : Int) ≤ 122) ∨ 122 < (s[0].toNat : Int) from by omega) with hc | hc | hc | hc | hc | hc | hc
        all_goals
          (first | have a0 : (97 : Int) ≤ (s[0].toNat : Int) := by omega | have a0 : ¬ (97 : Int) ≤ (s[0].toNat : Int) := by omega)
          (first | have a1 : (s[0].toNat : Int) ≤ 122 := by omega | have a1 : ¬ (s[0].toNat : Int) ≤ 122 := by omega)
          (first | have a2 : (48 : Int) ≤ (s[0].toNat : Int) := by omega | have a2 : ¬ (48 : Int) ≤ (s[0].toNat : Int) := by omega)
          (first | have a3 : (s[0].toNat : Int) ≤ 57 := by omega | have a3 : ¬ (s[0].toNat : Int) ≤ 57 := by omega)
          (first | have a5 : ((s[0].toNat : Int) != 95) = true := by simp; omega | have a5 : ((s[0].toNat : Int) != 95) = false := by simp; omega)
          (first | have a6 : ((s[0].toNat : Int) == 95) = true := by simp; omega | have a6 : ((s[0].toNat : Int) == 95) = false := by simp; omega)
          go_wp2
          first
            | (go_ret; exact ⟨ret_bool (HN.out (by unfold okAt; simp; omega)).symm, rfl⟩)
            | (go_round
               case rel => exact ⟨1, by omega, by go_num, HY.out (by unfold okAt; simp; omega)⟩
               case measure => simp [intOf]; omega)
      · rcases (show ((s[k].toNat : Int) < 48) ∨ (48 ≤ (s[k].toNat : Int) ∧ (s[k].toNat : Int) ≤ 57) ∨ (57 < (s[k].toNat : Int) ∧ (s[k].toNat : Int) < 95) ∨ (95 ≤ (s[k].toNat : Int) ∧ (s[k].toNat : Int) ≤ 95) ∨ (95 < (s[k].toNat : Int) ∧ (s[k].toNat : Int) < 97) ∨ (97 ≤ (s[k].toNat : Int) ∧ (s[k].toNat : Int) ≤ 122) ∨ 122 < (s[k].toNat : Int) from by omega) with hc | hc | hc | hc | hc | hc | hc
        all_goals
          (first | have a0 : (97 : Int) ≤ (s[k].toNat : Int) := by omega | have a0 : ¬ (97 : Int) ≤ (s[k].toNat : Int) := by omega)
          (first | have a1 : (s[k].toNat : Int) ≤ 122 := by omega | have a1 : ¬ (s[k].toNat : Int) ≤ 122 := by omega)
          (first | have a2 : (48 : Int) ≤ (s[k].toNat : Int) := by omega | have a2 : ¬ (48 : Int) ≤ (s[k].toNat : Int) := by omega)
          (first | have a3 : (s[k].toNat : Int) ≤ 57 := by omega | have a3 : ¬ (s[k].toNat : Int) ≤ 57 := by omega)
          (first | have a5 : ((s[k].toNat : Int) != 95) = true := by simp; omega | have a5 : ((s[k].toNat : Int) != 95) = false := by simp; omega)
          (first | have a6 : ((s[k].toNat : Int) == 95) = true := by simp; omega | have a6 : ((s[k].toNat : Int) == 95) = false := by simp; omega)
          have a7 : ((k : Int) == 0) = false := by simp; omega
          go_wp2
          first
            | (go_ret; exact ⟨ret_bool (HN.out (by unfold okAt; simp; omega)).symm, rfl⟩)
            | (go_round
               case rel => exact ⟨k + 1, by omega, by go_num, HY.out (by unfold okAt; simp; omega)⟩
               case measure => simp [intOf]; omega)
    · go_wp2
      go_ret
      have : k = s.size := by omega
      subst this
      exact ⟨ret_bool (name_yes (by omega) (by omega) hu).symm, rfl⟩

set_option maxHeartbeats 2000000 in
theorem impl_any (s : ByteArray) (w : World) (hs : s.size ≤ 1048576) :
    Calls Tryd.prog 83 #[.string s] w fun e w' => e = .returned (.bool (nameB s)) ∧ w' = w := by
  by_cases h1 : s.size < 1
  · have hn := name_size (s := s) (.inl h1)
    rw [hn]
    go_enter Tryd.func83, Tryd.ntmps83
    go_wp2
    go_ret
    exact ⟨rfl, rfl⟩
  by_cases h2 : 20 < s.size
  · have hn := name_size (s := s) (.inr h2)
    rw [hn]
    go_enter Tryd.func83, Tryd.ntmps83
    go_wp2
    go_ret
    exact ⟨rfl, rfl⟩
  go_enter Tryd.func83, Tryd.ntmps83
  go_wp2
  go_loop [3, 4, 5] (fun i _ _ => ∃ k : Nat, k ≤ s.size ∧ i = .int .i64 k ∧ upTo s k) (fun i _ _ => s.size - (intOf i).toNat)
  case atStart => exact ⟨0, Nat.zero_le _, rfl, upTo_zero s⟩
  case round =>
    obtain ⟨k, hk, rfl, hu⟩ := hrel
    by_cases hlt : k < s.size
    · have hno := name_no (s := s) hlt
      have hyes := upTo_succ hu hlt
      have HN : Hid (okAt k (s[k].toNat : Int) = false → nameB s = false) := hno
      have HY : Hid (okAt k (s[k].toNat : Int) = true → upTo s (k + 1)) := hyes
      clear hno hyes hu
      by_cases hk0 : k = 0
      · subst hk0
        rcases (show ((s[0].toNat : Int) < 48) ∨ (48 ≤ (s[0].toNat : Int) ∧ (s[0].toNat : Int) ≤ 57) ∨ (57 < (s[0].toNat : Int) ∧ (s[0].toNat : Int) < 95) ∨ (95 ≤ (s[0].toNat : Int) ∧ (s[0].toNat : Int) ≤ 95) ∨ (95 < (s[0].toNat : Int) ∧ (s[0].toNat : Int) < 97) ∨ (97 ≤ (s[0].toNat : Int) ∧ (s[0].toNat : Int) ≤ 122) ∨ 122 < (s[0].toNat : Int) from by omega) with hc | hc | hc | hc | hc | hc | hc
        all_goals
          (first | have a0 : (97 : Int) ≤ (s[0].toNat : Int) := by omega | have a0 : ¬ (97 : Int) ≤ (s[0].toNat : Int) := by omega)
          (first | have a1 : (s[0].toNat : Int) ≤ 122 := by omega | have a1 : ¬ (s[0].toNat : Int) ≤ 122 := by omega)
          (first | have a2 : (48 : Int) ≤ (s[0].toNat : Int) := by omega | have a2 : ¬ (48 : Int) ≤ (s[0].toNat : Int) := by omega)
          (first | have a3 : (s[0].toNat : Int) ≤ 57 := by omega | have a3 : ¬ (s[0].toNat : Int) ≤ 57 := by omega)
          (first | have a5 : ((s[0].toNat : Int) != 95) = true := by simp; omega | have a5 : ((s[0].toNat : Int) != 95) = false := by simp; omega)
          (first | have a6 : ((s[0].toNat : Int) == 95) = true := by simp; omega | have a6 : ((s[0].toNat : Int) == 95) = false := by simp; omega)
          go_wp2
          first
            | (go_ret; exact ⟨ret_bool (HN.out (by unfold okAt; simp; omega)).symm, rfl⟩)
            | (go_round
               case rel => exact ⟨1, by omega, by go_num, HY.out (by unfold okAt; simp; omega)⟩
               case measure => simp [intOf]; omega)
      · rcases (show ((s[k].toNat : Int) < 48) ∨ (48 ≤ (s[k].toNat : Int) ∧ (s[k].toNat : Int) ≤ 57) ∨ (57 < (s[k].toNat : Int) ∧ (s[k].toNat : Int) < 95) ∨ (95 ≤ (s[k].toNat : Int) ∧ (s[k].toNat : Int) ≤ 95) ∨ (95 < (s[k].toNat : Int) ∧ (s[k].toNat : Int) < 97) ∨ (97 ≤ (s[k].toNat : Int) ∧ (s[k].toNat : Int) ≤ 122) ∨ 122 < (s[k].toNat : Int) from by omega) with hc | hc | hc | hc | hc | hc | hc
        all_goals
          (first | have a0 : (97 : Int) ≤ (s[k].toNat : Int) := by omega | have a0 : ¬ (97 : Int) ≤ (s[k].toNat : Int) := by omega)
          (first | have a1 : (s[k].toNat : Int) ≤ 122 := by omega | have a1 : ¬ (s[k].toNat : Int) ≤ 122 := by omega)
          (first | have a2 : (48 : Int) ≤ (s[k].toNat : Int) := by omega | have a2 : ¬ (48 : Int) ≤ (s[k].toNat : Int) := by omega)
          (first | have a3 : (s[k].toNat : Int) ≤ 57 := by omega | have a3 : ¬ (s[k].toNat : Int) ≤ 57 := by omega)
          (first | have a5 : ((s[k].toNat : Int) != 95) = true := by simp; omega | have a5 : ((s[k].toNat : Int) != 95) = false := by simp; omega)
          (first | have a6 : ((s[k].toNat : Int) == 95) = true := by simp; omega | have a6 : ((s[k].toNat : Int) == 95) = false := by simp; omega)
          have a7 : ((k : Int) == 0) = false := by simp; omega
          go_wp2
          first
            | (go_ret; exact ⟨ret_bool (HN.out (by unfold okAt; simp; omega)).symm, rfl⟩)
            | (go_round
               case rel => exact ⟨k + 1, by omega, by go_num, HY.out (by unfold okAt; simp; omega)⟩
               case measure => simp [intOf]; omega)
    · go_wp2
      go_ret
      have : k = s.size := by omega
      subst this
      exact ⟨ret_bool (name_yes (by omega) (by omega) hu).symm, rfl⟩
end NameR
end Go.Proofs.YtnlmpejgiakepaaDoor
namespace Go.Proofs.YtnlmpejgiakepaaDoor
open Go.ChangeShapes Go.WideShapes Go.ChangeAt Go.RowKit
set_option linter.unusedVariables false
namespace WordR
def seen (c : Int) : Bool := decide (33 ≤ c ∧ c ≤ 126)
def upTo (s : ByteArray) (k : Nat) : Prop := ∀ i (h : i < s.size), i < k → seen (s[i].toNat : Int) = true
def upToDec (s : ByteArray) (k : Nat) : Decidable (upTo s k) := inferInstanceAs (Decidable (∀ i (h : i < s.size), i < k → seen (s[i].toNat : Int) = true))
/-- Are all bytes seen ones? -/
def printB (s : ByteArray) : Bool := @decide (upTo s s.size) (upToDec s s.size)
theorem print_no {s : ByteArray} {k : Nat} (h : k < s.size) (hb : seen (s[k].toNat : Int) = false) : printB s = false := by
 unfold printB; simp; intro hu; have := hu k h h; simp [hb] at this
theorem print_yes {s : ByteArray} (hu : upTo s s.size) : printB s = true := by unfold printB; simpa using hu
theorem upTo_zero (s : ByteArray) : upTo s 0 := fun _ _ h => absurd h (by omega)
theorem upTo_succ {s : ByteArray} {k : Nat} (hu : upTo s k) (h : k < s.size) (hb : seen (s[k].toNat : Int) = true) : upTo s (k + 1) := by
 intro i hi hk
 by_cases e : i = k
 ·subst e; exact hb
 ·exact hu i hi (by omega)
theorem hid_intro' {p : Prop} (h : p) : Hid p := h
theorem byte_lt (s : ByteArray) (k : Nat) (h : k < s.size) : (s[k].toNat : Int) < 256 := by
 have := s[k].toNat_lt; omega
set_option maxRecDepth 100000 in
set_option maxHeartbeats 2000000 in
theorem impl_printed (s : ByteArray) (w : World) (hs : s.size ≤ 1048576) :
  Calls Tryd.prog 108 #[.string s] w fun e w' => e = .returned (.bool (printB s)) ∧ Below w.heap.size w w' := by
 have HB : ∀ pos, Hid (Below w.heap.size w (w.iter s pos)) := fun pos => (Below.refl w.heap.size w).alloc (Nat.le_refl _) _
 go_enter Tryd.func108, Tryd.ntmps108
 go_wp2
 go_loopw [2] (fun _ w' => ∃ pos : Nat, w' = w.iter s pos ∧ upTo s pos ∧ pos ≤ s.size) (fun _ w' => s.size - w'.iterPos w.heap.size)
 case atStart => exact ⟨0, rfl, upTo_zero s, Nat.zero_le _⟩
 case round =>
  obtain ⟨pos, rfl, hu, hle⟩ := hrel
  by_cases hp : pos < s.size
  ·have HN := print_no (s := s) hp
   have HY := upTo_succ hu hp
   by_cases ha : (s[pos]'hp).toNat < 128
   ·have hnx : ∀ ty, (Instr.next (.pointer (some ⟨w.heap.size, 0, none⟩)) true ty).run Tryd.prog (w.iter s pos) = _ := fun ty => run_next_ascii w s pos ty hp ha
    obtain ⟨c, hc⟩ : ∃ c, c = (s[pos]'hp).toNat := ⟨_, rfl⟩
    rw [← hc] at HN HY ha hnx
    have HN' := hid_intro' HN
    have HY' := hid_intro' HY
    clear HN HY hc hu
    rcases (show ((c : Int) < 33) ∨ (33 ≤ (c : Int) ∧ (c : Int) ≤ 126) ∨ (126 < (c : Int)) by omega) with h | ⟨h1, h2⟩ | h
    ·have h' : ¬ 33 ≤ (c : Int) := by omega
     go_wp2
     go_ret
     exact ⟨ret_bool (HN'.out (by unfold seen; simp; omega)).symm, (HB _).out⟩
    ·go_wp2
     go_roundw
     case rel => exact ⟨pos + 1, rfl, HY'.out (by unfold seen; simp; omega), by omega⟩
     case measure => simp; omega
    ·have h' : ¬ (c : Int) ≤ 126 := by omega
     have h'' : 33 ≤ (c : Int) := by omega
     go_wp2
     go_ret
     exact ⟨ret_bool (HN'.out (by unfold seen; simp; omega)).symm, (HB _).out⟩
   ·have hnx : ∀ ty, (Instr.next (.pointer (some ⟨w.heap.size, 0, none⟩)) true ty).run Tryd.prog (w.iter s pos) = _ := fun ty => run_next_any w s pos ty hp
    obtain ⟨d1, d2⟩ := decode_high s pos hp (by omega)
    have HN' := hid_intro' (HN (by unfold seen; simp; omega))
    clear HN HY hu
    generalize (Utf8.decode s pos).1 = c at *
    generalize (Utf8.decode s pos).2 = k at *
    have h' : ¬ (c : Int) ≤ 126 := by omega
    have h'' : 33 ≤ (c : Int) := by omega
    go_wp2
    go_ret
    exact ⟨ret_bool HN'.out.symm, (HB _).out⟩
  ·have hnx : ∀ ty, (Instr.next (.pointer (some ⟨w.heap.size, 0, none⟩)) true ty).run Tryd.prog (w.iter s pos) = _ := fun ty => run_next_end w s pos ty hp
   go_wp2
   go_ret
   obtain rfl : pos = s.size := by omega
   exact ⟨ret_bool (print_yes hu).symm, (HB _).out⟩
set_option maxHeartbeats 2000000 in
theorem spec_word (s : ByteArray) (most : Int) (w : World) (hs : s.size ≤ 1048576) :
  Calls Tryd.prog 46 #[.string s, .int .i64 most] w fun e w' => e = .returned (.bool (printB s && decide ((s.size : Int) ≤ most))) ∧ w' = w := by
 go_enter Tryd.func46, Tryd.ntmps46
 go_wp2
 go_loop [5] (fun i => ∃ k : Nat, k ≤ s.size ∧ i = .int .i64 k ∧ upTo s k) (fun i => s.size - (intOf i).toNat)
 case atStart => exact ⟨0, Nat.zero_le _, rfl, upTo_zero s⟩
 case round =>
  obtain ⟨k, hk, rfl, hu⟩ := hrel
  by_cases hlt : k < s.size
  ·have HN := hid_intro' (print_no (s := s) hlt)
   have HY := hid_intro' (upTo_succ hu hlt)
   clear hu
   rcases (show ((s[k].toNat : Int) < 33) ∨ (¬ (s[k].toNat : Int) < 33 ∧ (s[k].toNat : Int) ≤ 126) ∨ (¬ (s[k].toNat : Int) < 33 ∧ 126 < (s[k].toNat : Int)) by omega) with h | ⟨h1, h2⟩ | ⟨h1, h2⟩
   ·go_wp2
    go_ret
    exact ⟨ret_bool (by rw [HN.out (by unfold seen; simp; omega)]; rfl), rfl⟩
   ·have h3 : ¬ 126 < (s[k].toNat : Int) := by omega
    go_wp2
    go_round
    case rel => exact ⟨k + 1, by omega, by go_num, HY.out (by unfold seen; simp; omega)⟩
    case measure => simp [intOf]; omega
   ·go_wp2
    go_ret
    exact ⟨ret_bool (by rw [HN.out (by unfold seen; simp; omega)]; rfl), rfl⟩
  ·obtain rfl : k = s.size := by omega
   have HP := hid_intro' (print_yes hu)
   clear hu
   by_cases hm : (s.size : Int) ≤ most
   all_goals
    go_wp2
    go_ret
    exact ⟨ret_bool (by simp [HP.out, hm]), rfl⟩
end WordR
end Go.Proofs.YtnlmpejgiakepaaDoor
namespace Go.Proofs.YtnlmpejgiakepaaDoor
open Go.ChangeShapes Go.WideShapes Go.ChangeAt Go.RowKit
set_option linter.unusedVariables false
namespace EvtR
open WordR
theorem hid_intro {p : Prop} (h : p) : Hid p := h
def idB (s : ByteArray) : Bool := decide (1 ≤ s.size ∧ s.size ≤ 20) && printB s
theorem impl_id (s : ByteArray) (w : World) (hs : s.size ≤ 1048576) : Calls Tryd.prog 82 #[.string s] w fun e w' => e = .returned (.bool (idB s)) ∧ Below w.heap.size w w' := by
 have HP := hid_intro (fun w => impl_printed s w hs)
 unfold idB
 generalize printB s = p at *
 rcases (show (¬ 1 ≤ s.size) ∨ (1 ≤ s.size ∧ ¬ s.size ≤ 20) ∨ (1 ≤ s.size ∧ s.size ≤ 20) by omega) with h | ⟨h1, h2⟩ | ⟨h1, h2⟩
 ·have h' : ¬ (1 : Int) ≤ (s.size : Int) := by omega
  go_enter Tryd.func82, Tryd.ntmps82
  go_wp2_with (go_at_call 102; go_in)
  go_ret
  exact ⟨ret_bool (by first | (simp; done) | (simp; omega)), Below.refl _ _⟩
 ·have h' : (1 : Int) ≤ (s.size : Int) := by omega
  have h'' : ¬ (s.size : Int) ≤ 20 := by omega
  go_enter Tryd.func82, Tryd.ntmps82
  go_wp2_with (go_at_call 102; go_in)
  go_ret
  exact ⟨ret_bool (by first | (simp; done) | (simp; omega)), Below.refl _ _⟩
 ·have h' : (1 : Int) ≤ (s.size : Int) := by omega
  have h'' : (s.size : Int) ≤ 20 := by omega
  go_enter Tryd.func82, Tryd.ntmps82
  go_wp2_with (first | (go_at_call 102; go_in) | (go_at_call 108; refine (HP.out _).mono ?_; rintro e w1 ⟨rfl, hb1⟩))
  go_ret
  exact ⟨ret_bool (by simp [h1, h2]), hb1⟩
theorem within_any (n low high : Int) (w : World) :
  Calls Tryd.prog 85 #[.int .i64 n, .int .i64 low, .int .i64 high] w fun e w' => e = .returned (.bool (decide (low ≤ n ∧ n ≤ high))) ∧ w' = w := by
 rcases (show (¬ low ≤ n) ∨ (low ≤ n ∧ ¬ n ≤ high) ∨ (low ≤ n ∧ n ≤ high) by omega) with h | ⟨h1, h2⟩ | ⟨h1, h2⟩
 all_goals
  go_enter Tryd.func85, Tryd.ntmps85
  go_wp2
  go_ret
  exact ⟨ret_bool (by first | (simp [*]; done) | (simp; omega)), rfl⟩
theorem minute_any (n : Int) (w : World) : Calls Tryd.prog 84 #[.int .i64 n] w fun e w' => e = .returned (.bool (decide (0 ≤ n ∧ n ≤ 121000000))) ∧ w' = w := by
 have H := within_any n 0 121000000
 generalize decide (0 ≤ n ∧ n ≤ 121000000) = b at *
 go_enter Tryd.func84, Tryd.ntmps84
 go_wp2_with (go_at_call 85; refine (H _).mono ?_; rintro e w' ⟨rfl, rfl⟩)
 go_ret
 exact ⟨rfl, rfl⟩
theorem is_any (n low high : Int) (w : World) :
  Calls Tryd.prog 43 #[.int .i64 n, .int .i64 low, .int .i64 high] w fun e w' => e = .returned (.bool (decide (low ≤ n ∧ n ≤ high))) ∧ w' = w := by
 rcases (show (¬ low ≤ n) ∨ (low ≤ n ∧ ¬ n ≤ high) ∨ (low ≤ n ∧ n ≤ high) by omega) with h | ⟨h1, h2⟩ | ⟨h1, h2⟩
 all_goals
  go_enter Tryd.func43, Tryd.ntmps43
  go_wp2
  go_ret
  exact ⟨ret_bool (by first | (simp [*]; done) | (simp; omega)), rfl⟩
theorem sminute_any (n : Int) (w : World) : Calls Tryd.prog 47 #[.int .i64 n] w fun e w' => e = .returned (.bool (decide (0 ≤ n ∧ n ≤ 121000000))) ∧ w' = w := by
 have H := is_any n 0 121000000
 generalize decide (0 ≤ n ∧ n ≤ 121000000) = b at *
 go_enter Tryd.func47, Tryd.ntmps47
 go_wp2_with (go_at_call 43; refine (H _).mono ?_; rintro e w' ⟨rfl, rfl⟩)
 go_ret
 exact ⟨rfl, rfl⟩
theorem empty_of (i : ByteArray) (h : i.size = 0) : i.toList = [] := by
 rw [ByteArray.toList_eq]
 exact List.eq_nil_of_length_eq_zero h
theorem full_of (i : ByteArray) (h : i.size ≠ 0) : i.toList ≠ [] ∧ i.toList.isEmpty = false := by
 have a : i.toList ≠ [] := by
  rw [ByteArray.toList_eq]
  intro e
  exact h (show i.data.toList.length = 0 by rw [e]; rfl)
 exact ⟨a, by cases hl : i.toList with
  | nil => exact absurd hl a
  | cons x l => rfl⟩
end EvtR
end Go.Proofs.YtnlmpejgiakepaaDoor
namespace Go.Proofs.YtnlmpejgiakepaaDoor
open Go.ChangeShapes Go.WideShapes Go.ChangeAt Go.RowKit
set_option linter.unusedVariables false
namespace EvtR
open NameR WordR
/-- An event, as a value. -/
def ev (i a m : ByteArray) (n k : Int) (t : ByteArray) : Value := .agg #[.string i, .string a, .string m, .int .i64 n, .int .i64 k, .string t]
def tagB (s : ByteArray) : Bool := decide (s.size ≤ 10) && printB s
def evB (i a m : ByteArray) (n k : Int) (t : ByteArray) : Bool := idB i && (nameB a && (nameB m && (decide (0 ≤ n ∧ n ≤ 121000000) && (decide (0 ≤ k ∧ k ≤ 1000000000) && tagB t))))
/-- Six that are asked one by one: the first that is false, or none. -/
theorem six (b1 b2 b3 b4 b5 b6 : Bool) : (b1 = false) ∨ (b1 = true ∧ b2 = false) ∨ (b1 = true ∧ b2 = true ∧ b3 = false) ∨ (b1 = true ∧ b2 = true ∧ b3 = true ∧ b4 = false) ∨ (b1 = true ∧ b2 = true ∧ b3 = true ∧ b4 = true ∧ b5 = false) ∨ (b1 = true ∧ b2 = true ∧ b3 = true ∧ b4 = true ∧ b5 = true ∧ b6 = false) ∨ (b1 = true ∧ b2 = true ∧ b3 = true ∧ b4 = true ∧ b5 = true ∧ b6 = true) := by
 cases b1 <;> cases b2 <;> cases b3 <;> cases b4 <;> cases b5 <;> cases b6 <;> simp
theorem impl_tag (s : ByteArray) (w : World) (hs : s.size ≤ 1048576) : Calls Tryd.prog 86 #[.string s] w fun e w' => e = .returned (.bool (tagB s)) ∧ Below w.heap.size w w' := by
 have HP := hid_intro (fun w => impl_printed s w hs)
 unfold tagB
 generalize printB s = p at *
 by_cases h : s.size ≤ 10
 ·have h' : (s.size : Int) ≤ 10 := by omega
  go_enter Tryd.func86, Tryd.ntmps86
  go_wp2_with (go_at_call 108; refine (HP.out _).mono ?_; rintro e w1 ⟨rfl, hb1⟩)
  go_ret
  exact ⟨ret_bool (by simp [h]), hb1⟩
 ·have h' : ¬ (s.size : Int) ≤ 10 := by omega
  go_enter Tryd.func86, Tryd.ntmps86
  go_wp2_with fail
  go_ret
  exact ⟨ret_bool (by first | (simp; done) | (simp; omega)), Below.refl _ _⟩
set_option maxRecDepth 100000 in
set_option maxHeartbeats 4000000 in
theorem impl_event (i a m : ByteArray) (n k : Int) (t : ByteArray) (h1 : i.size ≤ 1048576) (h2 : a.size ≤ 1048576) (h3 : m.size ≤ 1048576) (h6 : t.size ≤ 1048576) (w : World) :
  Calls Tryd.prog 57 #[ev i a m n k t] w fun e w' => e = .returned (.bool (evB i a m n k t)) ∧ Below w.heap.size w w' := by
 have H1 := hid_intro (fun w => impl_id i w h1)
 have H2 := hid_intro (fun w => NameR.impl_any a w h2)
 have H3 := hid_intro (fun w => NameR.impl_any m w h3)
 have H4 := hid_intro (fun w => minute_any n w)
 have H5 := hid_intro (fun w => within_any k 0 1000000000 w)
 have H6 := hid_intro (fun w => impl_tag t w h6)
 unfold evB ev
 generalize idB i = b1 at *
 generalize nameB a = b2 at *
 generalize nameB m = b3 at *
 generalize decide (0 ≤ n ∧ n ≤ 121000000) = b4 at *
 generalize decide (0 ≤ k ∧ k ≤ 1000000000) = b5 at *
 generalize tagB t = b6 at *
 rcases six b1 b2 b3 b4 b5 b6 with rfl | ⟨rfl, rfl⟩ | ⟨rfl, rfl, rfl⟩ | ⟨rfl, rfl, rfl, rfl⟩ | ⟨rfl, rfl, rfl, rfl, rfl⟩ | ⟨rfl, rfl, rfl, rfl, rfl, rfl⟩ | ⟨rfl, rfl, rfl, rfl, rfl, rfl⟩
 all_goals
  go_enter Tryd.func57, Tryd.ntmps57
  go_wp2_with (first | (go_at_call 82; refine (H1.out _).mono ?_; rintro e w1 ⟨rfl, hb1⟩; obtain ⟨hc, hz⟩ := bcell hb1) | (go_at_call_of 83 (Value.string a); refine (H2.out _).mono ?_; rintro e w' ⟨rfl, rfl⟩) | (go_at_call_of 83 (Value.string m); refine (H3.out _).mono ?_; rintro e w' ⟨rfl, rfl⟩) | (go_at_call 84; refine (H4.out _).mono ?_; rintro e w' ⟨rfl, rfl⟩) | (go_at_call 85; refine (H5.out _).mono ?_; rintro e w' ⟨rfl, rfl⟩) | (go_at_call 86; refine (H6.out _).mono ?_; rintro e w2 ⟨rfl, hb2⟩))
  go_ret
  exact ⟨rfl, by first | exact bel_alloc (hb1.trans (hb2.mono hb1.size)) | exact bel_alloc hb1⟩
set_option maxRecDepth 100000 in
set_option maxHeartbeats 4000000 in
theorem spec_event (i a m : ByteArray) (n k : Int) (t : ByteArray) (h1 : i.size ≤ 1048576) (h2 : a.size ≤ 1048576) (h3 : m.size ≤ 1048576) (h6 : t.size ≤ 1048576) (w : World) :
  Calls Tryd.prog 21 #[ev i a m n k t] w fun e w' => e = .returned (.bool (evB i a m n k t)) ∧ Below w.heap.size w w' := by
 by_cases hi : i.size = 0
 ·have he := empty_of i hi
  have hv : evB i a m n k t = false := by
   unfold evB idB
   simp [hi]
  rw [hv]
  unfold ev
  clear hi
  go_enter Tryd.func21, Tryd.ntmps21
  go_wp2_with fail
  go_ret
  exact ⟨rfl, (Below.refl _ _).alloc (Nat.le_refl _) _⟩
 ·obtain ⟨he, he2⟩ := full_of i hi
  have H1 := hid_intro (fun w => spec_word i 20 w h1)
  have H6 := hid_intro (fun w => spec_word t 10 w h6)
  have H2 := hid_intro (fun w => NameR.spec_any a w h2)
  have H3 := hid_intro (fun w => NameR.spec_any m w h3)
  have H4 := hid_intro (fun w => sminute_any n w)
  have H5 := hid_intro (fun w => is_any k 0 1000000000 w)
  rw [show (printB i && decide ((i.size : Int) ≤ 20)) = idB i by unfold idB; rw [Bool.and_comm]; congr 1; exact decide_eq_decide.2 (by omega)] at H1
  rw [show (printB t && decide ((t.size : Int) ≤ 10)) = tagB t by unfold tagB; rw [Bool.and_comm]; congr 1; exact decide_eq_decide.2 (by omega)] at H6
  unfold evB ev
  generalize idB i = b1 at *
  generalize nameB a = b2 at *
  generalize nameB m = b3 at *
  generalize decide (0 ≤ n ∧ n ≤ 121000000) = b4 at *
  generalize decide (0 ≤ k ∧ k ≤ 1000000000) = b5 at *
  generalize tagB t = b6 at *
  clear hi
  rcases six b1 b2 b3 b4 b5 b6 with rfl | ⟨rfl, rfl⟩ | ⟨rfl, rfl, rfl⟩ | ⟨rfl, rfl, rfl, rfl⟩ | ⟨rfl, rfl, rfl, rfl, rfl⟩ | ⟨rfl, rfl, rfl, rfl, rfl, rfl⟩ | ⟨rfl, rfl, rfl, rfl, rfl, rfl⟩
  all_goals
   go_enter Tryd.func21, Tryd.ntmps21
   go_wp2_with (first | (go_at_call_of 46 (Value.string i); refine (H1.out _).mono ?_; rintro e w' ⟨rfl, rfl⟩) | (go_at_call_of 41 (Value.string a); refine (H2.out _).mono ?_; rintro e w' ⟨rfl, rfl⟩) | (go_at_call_of 41 (Value.string m); refine (H3.out _).mono ?_; rintro e w' ⟨rfl, rfl⟩) | (go_at_call 47; refine (H4.out _).mono ?_; rintro e w' ⟨rfl, rfl⟩) | (go_at_call 43; refine (H5.out _).mono ?_; rintro e w' ⟨rfl, rfl⟩) | (go_at_call_of 46 (Value.string t); refine (H6.out _).mono ?_; rintro e w' ⟨rfl, rfl⟩))
   go_ret
   exact ⟨by first | rfl | (simp only [he2]; rfl), (Below.refl _ _).alloc (Nat.le_refl _) _⟩
end EvtR
end Go.Proofs.YtnlmpejgiakepaaDoor
namespace Go.Proofs.YtnlmpejgiakepaaDoor
open Go.RowKit
namespace LtR
open Op (bytesLess)
theorem bl_irrefl : ∀ x : List UInt8, bytesLess x x = false
 | [] => rfl
 | a :: x => by
  rw [bytesLess, bl_irrefl x]
  simp
theorem bl_trans : ∀ {x y z : List UInt8}, bytesLess x y = true → bytesLess y z = true → bytesLess x z = true
 | _, [], _, h, _ => by simp [bytesLess] at h
 | _, _ :: _, [], _, h => by simp [bytesLess] at h
 | [], _ :: _, _ :: _, _, _ => rfl
 | a :: x, b :: y, c :: z, h1, h2 => by
  rw [bytesLess] at *
  simp only [Bool.or_eq_true, Bool.and_eq_true, decide_eq_true_eq, beq_iff_eq] at *
  rcases h1 with h1 | ⟨rfl, h1⟩
  ·rcases h2 with h2 | ⟨rfl, h2⟩
   ·exact .inl (UInt8.lt_trans h1 h2)
   ·exact .inl h1
  ·rcases h2 with h2 | ⟨rfl, h2⟩
   ·exact .inl h2
   ·exact .inr ⟨rfl, bl_trans h1 h2⟩
theorem bl_total : ∀ {x y : List UInt8}, bytesLess x y = false → bytesLess y x = false → x = y
 | [], [], _, _ => rfl
 | [], _ :: _, h, _ => by simp [bytesLess] at h
 | _ :: _, [], _, h => by simp [bytesLess] at h
 | a :: x, b :: y, h1, h2 => by
  rw [bytesLess] at *
  simp only [Bool.or_eq_false_iff, Bool.and_eq_false_iff, decide_eq_false_iff_not, beq_eq_false_iff_ne] at *
  have e : a = b := by
   have p1 := h1.1
   have p2 := h2.1
   rw [UInt8.lt_iff_toNat_lt] at p1 p2
   exact UInt8.toNat.inj (by omega)
  subst e
  rw [bl_total (h1.2.resolve_left (fun h => h rfl)) (h2.2.resolve_left (fun h => h rfl))]
/-- One text is ahead of another. -/
def lt (a b : ByteArray) : Bool := bytesLess a.toList b.toList
theorem toList_inj {a b : ByteArray} (h : a.toList = b.toList) : a = b := by
 rw [ByteArray.toList_eq, ByteArray.toList_eq] at h
 exact ByteArray.ext (Array.ext' h)
theorem lt_irrefl (a : ByteArray) : lt a a = false := bl_irrefl _
theorem lt_trans {a b c : ByteArray} (h1 : lt a b = true) (h2 : lt b c = true) : lt a c = true := bl_trans h1 h2
theorem lt_total {a b : ByteArray} (h1 : lt a b = false) (h2 : lt b a = false) : a = b := toList_inj (bl_total h1 h2)
theorem lt_asymm {a b : ByteArray} (h : lt a b = true) : lt b a = false := by
 cases h2 : lt b a
 ·rfl
 ·have := lt_trans h h2
  rw [lt_irrefl] at this
  cases this
theorem lt_empty {b : ByteArray} (h : 1 ≤ b.size) : lt ⟨#[]⟩ b = true := by
 unfold lt
 have h1 : (⟨#[]⟩ : ByteArray).toList = [] := by rw [ByteArray.toList_eq]
 rw [h1]
 cases hb : b.toList with
 | nil =>
  rw [ByteArray.toList_eq] at hb
  have : b.data.toList.length = 0 := by rw [hb]; rfl
  have h2 : b.data.toList.length = b.size := rfl
  omega
 | cons x l => rfl
end LtR
end Go.Proofs.YtnlmpejgiakepaaDoor
namespace Go.Proofs.YtnlmpejgiakepaaDoor
open Go.ChangeShapes Go.WideShapes Go.ChangeAt Go.RowKit
set_option linter.unusedVariables false
namespace WinR
open RowG LtR DateM
theorem hid_intro {p : Prop} (h : p) : Hid p := h
/-- An hour and what was used in it; a window. -/
structure H where
 h : Int
 s : Int
structure Wd where
 a : ByteArray
 m : ByteArray
 mo : Int
 ev : Int
 su : Int
 mx : Int
 ts : List ByteArray
 hs : List H
def H.zero : H := ⟨0, 0⟩
def H.cells (x : H) : List Value := [.int .i64 x.h, .int .i64 x.s]
def tz : ByteArray := ⟨#[]⟩
def tcells (t : ByteArray) : List Value := [.string t]
theorem H.len (x : H) : x.cells.length = 2 := rfl
theorem t_len (t : ByteArray) : (tcells t).length = 1 := rfl
/-- The row holds these tags, these hours. -/
def Tgs (ao : Option Addr) (ts : List ByteArray) (w : World) : Prop := Rws 1 tcells tz ao ts w
def Hrs (ao : Option Addr) (hs : List H) (w : World) : Prop := Rws 2 H.cells H.zero ao hs w
theorem Tgs.below {ao : Option Addr} {ts : List ByteArray} {w w' : World} (h : Tgs ao ts w) (hb : Below w.heap.size w w') : Tgs ao ts w' := Rws.below h hb
theorem Hrs.below {ao : Option Addr} {hs : List H} {w w' : World} (h : Hrs ao hs w) (hb : Below w.heap.size w w') : Hrs ao hs w' := Rws.below h hb
theorem Tgs.at {ao : Option Addr} {ts : List ByteArray} {w : World} (h : Tgs ao ts w) (j : Nat) (hj : j < ts.length) : ∃ b off, ao = some ⟨b, off, none⟩ ∧ b < w.heap.size ∧ w.cell? ⟨b, off + j, none⟩ = some (.string (ts.getD j tz)) := by
 obtain ⟨b, off, h1, h2, h3⟩ := Rws.at h j hj
 have := h3 0 (by omega)
 rw [Nat.mul_one] at this
 exact ⟨b, off, h1, h2, this⟩
theorem Hrs.at {ao : Option Addr} {hs : List H} {w : World} (h : Hrs ao hs w) (j : Nat) (hj : j < hs.length) : ∃ b off, ao = some ⟨b, off, none⟩ ∧ b < w.heap.size ∧ w.cell? ⟨b, off + j * 2, none⟩ = some (.int .i64 (hs.getD j H.zero).h) ∧ w.cell? ⟨b, off + j * 2 + 1, none⟩ = some (.int .i64 (hs.getD j H.zero).s) := by
 obtain ⟨b, off, h1, h2, h3⟩ := Rws.at h j hj
 exact ⟨b, off, h1, h2, h3 0 (by omega), h3 1 (by omega)⟩
/-- A window's cells. -/
def wcells (x : Wd) (ta : Option Addr) (tc : Nat) (ha : Option Addr) (hc : Nat) : Array Value := #[.string x.a, .string x.m, .int .i64 x.mo, .int .i64 x.ev, .int .i64 x.su, .int .i64 x.mx, .slice ta x.ts.length tc, .slice ha x.hs.length hc]
/-- A window's value. -/
def IsWd (v : Value) (x : Wd) (w : World) : Prop := ∃ ta tc ha hc, v = .agg (wcells x ta tc ha hc) ∧ Tgs ta x.ts w ∧ Hrs ha x.hs w
theorem IsWd.below {v : Value} {x : Wd} {w w' : World} (h : IsWd v x w) (hb : Below w.heap.size w w') : IsWd v x w' := by
 obtain ⟨ta, tc, ha, hc, hv, h1, h2⟩ := h
 exact ⟨ta, tc, ha, hc, hv, h1.below hb, h2.below hb⟩
/-- The first items rise. -/
def RiseTo {α : Type} (r : α → α → Bool) (z : α) (xs : List α) (k : Nat) : Prop := ∀ i, i < k → 0 < i → r (xs.getD (i - 1) z) (xs.getD i z) = true
def RiseDec {α : Type} (r : α → α → Bool) (z : α) (xs : List α) (k : Nat) : Decidable (RiseTo r z xs k) := inferInstanceAs (Decidable (∀ i, i < k → 0 < i → r (xs.getD (i - 1) z) (xs.getD i z) = true))
def riseB {α : Type} (r : α → α → Bool) (z : α) (xs : List α) : Bool := @decide (RiseTo r z xs xs.length) (RiseDec r z xs xs.length)
section
variable {α : Type} {r : α → α → Bool} {z : α} {xs : List α}
theorem rise_yes (h : RiseTo r z xs xs.length) : riseB r z xs = true := by unfold riseB; exact @decide_eq_true _ (RiseDec r z xs xs.length) h
theorem rise_iff : riseB r z xs = true ↔ RiseTo r z xs xs.length := by unfold riseB; exact @decide_eq_true_iff _ (RiseDec r z xs xs.length)
theorem rise_no {k : Nat} (hk : k < xs.length) (h0 : 0 < k) (h : r (xs.getD (k - 1) z) (xs.getD k z) = false) : riseB r z xs = false := by
 unfold riseB
 exact @decide_eq_false _ (RiseDec r z xs xs.length) (fun hr => by rw [hr k hk h0] at h; cases h)
theorem rise_one (k : Nat) (hk : k ≤ 1) : RiseTo r z xs k := fun i h1 h2 => absurd h1 (by omega)
theorem RiseTo.more {k : Nat} (h : RiseTo r z xs k) (h1 : 0 < k → r (xs.getD (k - 1) z) (xs.getD k z) = true) : RiseTo r z xs (k + 1) := by
 intro i hi h0
 by_cases e : i = k
 ·subst e; exact h1 h0
 ·exact h i (by omega) h0
theorem RiseTo.pairs (tr : ∀ a b c, r a b = true → r b c = true → r a c = true) {n : Nat} (h : RiseTo r z xs n) : ∀ j, j < n → ∀ i, i < j → r (xs.getD i z) (xs.getD j z) = true := by
 intro j
 induction j with
 | zero => intro _ i hi; omega
 | succ j ih =>
  intro hj i hi
  have h1 := h (j + 1) hj (by omega)
  rw [Nat.add_sub_cancel] at h1
  by_cases e : i = j
  ·subst e; exact h1
  ·exact tr _ _ _ (ih (by omega) i (by omega)) h1
theorem all_take (p : α → Bool) (k : Nat) (h : k < xs.length) : (xs.take (k + 1)).all p = ((xs.take k).all p && p (xs.getD k z)) := by
 rw [take_more (z := z) xs k h, List.all_append]
 simp
theorem all_no (p : α → Bool) {k : Nat} (h : k < xs.length) (hp : p (xs.getD k z) = false) : xs.all p = false := by
 rw [List.all_eq_false]
 exact ⟨_, getD_mem xs k h, by rw [hp]; simp⟩
theorem all_get (p : α → Bool) (h : xs.all p = true) {k : Nat} (hk : k < xs.length) : p (xs.getD k z) = true := List.all_eq_true.1 h _ (getD_mem xs k hk)
end
/-- A right tag. -/
def tagOk (t : ByteArray) : Bool := decide (1 ≤ t.size) && EvtR.tagB t
def tagsB (ts : List ByteArray) : Bool := decide (ts.length ≤ 12) && (riseB lt tz ts && ts.all tagOk)
/-- An hour lies in a month. -/
def hourIn (h mo : Int) : Bool := decide (0 ≤ h ∧ h ≤ 2016666 ∧ 0 ≤ mo ∧ fd mo.toNat ≤ 60 * h / 1440 ∧ 60 * h / 1440 < fd (mo.toNat + 1))
def hlt (x y : H) : Bool := decide (x.h < y.h)
def hOk (mo su : Int) (x : H) : Bool := hourIn x.h mo && decide (0 ≤ x.s ∧ x.s ≤ su)
def hsum (hs : List H) : Int := (hs.map H.s).sum
def hoursB (hs : List H) (mo su : Int) : Bool := riseB hlt H.zero hs && (hs.all (hOk mo su) && decide (hsum hs = su))
def timedB (hs : List H) (mo su : Int) : Bool := decide (1 ≤ hs.length ∧ hs.length ≤ 12) && hoursB hs mo su
def namedB (a m : ByteArray) (mo : Int) : Bool := NameR.nameB a && (NameR.nameB m && decide (0 ≤ mo ∧ mo ≤ 2760))
def countedB (ev su mx : Int) : Bool := decide (1 ≤ ev ∧ ev ≤ 1000) && (decide (0 ≤ su ∧ su ≤ 1000000000000) && decide (0 ≤ mx ∧ mx ≤ su))
/-- A right window. -/
def wB (x : Wd) : Bool := namedB x.a x.m x.mo && (countedB x.ev x.su x.mx && (tagsB x.ts && timedB x.hs x.mo x.su))
theorem hsum_take (hs : List H) (k : Nat) (h : k < hs.length) : hsum (hs.take (k + 1)) = hsum (hs.take k) + (hs.getD k H.zero).s := by
 unfold hsum
 rw [take_more (z := H.zero) hs k h, List.map_append, List.sum_append]
 simp
theorem hsum_nn {hs : List H} {mo su : Int} (h : hs.all (hOk mo su) = true) : 0 ≤ hsum hs := by
 unfold hsum
 induction hs with
 | nil => simp
 | cons x l ih =>
  simp only [List.all_cons, Bool.and_eq_true] at h
  have := ih h.2
  have h1 := h.1
  unfold hOk at h1
  simp only [Bool.and_eq_true, decide_eq_true_eq] at h1
  simp only [List.map_cons, List.sum_cons]
  omega
theorem hsum_le {hs : List H} {mo su : Int} (h : hs.all (hOk mo su) = true) (k : Nat) : hsum (hs.take k) ≤ hsum hs := by
 have h2 : (hs.drop k).all (hOk mo su) = true := by
  rw [List.all_eq_true] at *
  exact fun x hx => h x (List.mem_of_mem_drop hx)
 have := hsum_nn h2
 have e : hsum hs = hsum (hs.take k) + hsum (hs.drop k) := by
  unfold hsum
  rw [← List.sum_append, ← List.map_append, List.take_append_drop]
 omega
/-- The hours are taken from the sum one by one. -/
def HUp (hs : List H) (mo su : Int) (k : Nat) : Prop := ∀ i, i < k → hourIn (hs.getD i H.zero).h mo = true ∧ 0 ≤ (hs.getD i H.zero).s ∧ (hs.getD i H.zero).s ≤ su - hsum (hs.take i)
theorem HUp.zero (hs : List H) (mo su : Int) : HUp hs mo su 0 := fun i h => absurd h (by omega)
theorem HUp.more {hs : List H} {mo su : Int} {k : Nat} (h : HUp hs mo su k) (h1 : hourIn (hs.getD k H.zero).h mo = true) (h2 : 0 ≤ (hs.getD k H.zero).s) (h3 : (hs.getD k H.zero).s ≤ su - hsum (hs.take k)) : HUp hs mo su (k + 1) := by
 intro i hi
 by_cases e : i = k
 ·subst e; exact ⟨h1, h2, h3⟩
 ·exact h i (by omega)
theorem HUp.nn {hs : List H} {mo su : Int} {k : Nat} (h : HUp hs mo su k) (hk : k ≤ hs.length) : 0 ≤ hsum (hs.take k) := by
 induction k with
 | zero => simp [hsum]
 | succ k ih =>
  have h1 := h k (by omega)
  have := ih (fun i hi => h i (by omega)) (by omega)
  rw [hsum_take hs k (by omega)]
  omega
theorem HUp.all {hs : List H} {mo su : Int} (h : HUp hs mo su hs.length) : hs.all (hOk mo su) = true := by
 rw [List.all_eq_true]
 intro x hx
 obtain ⟨k, hk, rfl⟩ := List.getElem_of_mem hx
 have h1 := h k hk
 have h2 := HUp.nn (k := k) (fun i hi => h i (by omega)) (by omega)
 have e : hs.getD k H.zero = hs[k] := by simp [List.getD, hk]
 rw [e] at h1
 unfold hOk
 simp only [Bool.and_eq_true, decide_eq_true_eq]
 exact ⟨h1.1, h1.2.1, by omega⟩
theorem hours_rise {hs : List H} {mo su : Int} (h : riseB hlt H.zero hs = false) : hoursB hs mo su = false := by unfold hoursB; rw [h, Bool.false_and]
theorem hours_end {hs : List H} {mo su : Int} (hr : riseB hlt H.zero hs = true) (h : HUp hs mo su hs.length) : hoursB hs mo su = decide (su - hsum hs = 0) := by
 unfold hoursB
 rw [hr, h.all, Bool.true_and, Bool.true_and]
 exact decide_eq_decide.2 ⟨fun e => by omega, fun e => by omega⟩
theorem hours_no {hs : List H} {mo su : Int} {k : Nat} (hk : k < hs.length) (h : ¬ (hourIn (hs.getD k H.zero).h mo = true ∧ 0 ≤ (hs.getD k H.zero).s ∧ (hs.getD k H.zero).s ≤ su - hsum (hs.take k))) : hoursB hs mo su = false := by
 cases hb : hoursB hs mo su
 ·rfl
 ·exfalso
  unfold hoursB at hb
  simp only [Bool.and_eq_true, decide_eq_true_eq] at hb
  obtain ⟨_, h1, h2⟩ := hb
  have h3 := all_get (z := H.zero) _ h1 hk
  have h4 := hsum_le h1 (k + 1)
  rw [hsum_take hs k hk] at h4
  unfold hOk at h3
  simp only [Bool.and_eq_true, decide_eq_true_eq] at h3
  exact h ⟨h3.1, h3.2.1, by omega⟩
/-- The model's way: one loop asks all. -/
def SUp (hs : List H) (mo su : Int) (k : Nat) : Prop := RiseTo hlt H.zero hs k ∧ (hs.take k).all (hOk mo su) = true
theorem SUp.zero (hs : List H) (mo su : Int) : SUp hs mo su 0 := ⟨rise_one 0 (by omega), by simp⟩
theorem SUp.more {hs : List H} {mo su : Int} {k : Nat} (h : SUp hs mo su k) (hk : k < hs.length) (h1 : hOk mo su (hs.getD k H.zero) = true) (h2 : 0 < k → hlt (hs.getD (k - 1) H.zero) (hs.getD k H.zero) = true) : SUp hs mo su (k + 1) :=
 ⟨h.1.more h2, by rw [all_take (z := H.zero) _ k hk, h.2, h1]; rfl⟩
theorem SUp.sum {hs : List H} {mo su : Int} {k : Nat} (h : SUp hs mo su k) (hsu : 0 ≤ su) (hk : k ≤ hs.length) : 0 ≤ hsum (hs.take k) ∧ hsum (hs.take k) ≤ su * k := by
 have hn := hsum_nn h.2
 refine ⟨hn, ?_⟩
 have h2 := h.2
 clear h hn
 induction k with
 | zero => simp [hsum]
 | succ k ih =>
  rw [all_take (z := H.zero) _ k (by omega), Bool.and_eq_true] at h2
  have := ih (by omega) h2.1
  have h3 := h2.2
  unfold hOk at h3
  simp only [Bool.and_eq_true, decide_eq_true_eq] at h3
  rw [hsum_take hs k (by omega)]
  have e : su * ((k + 1 : Nat) : Int) = su * k + su := by rw [Int.natCast_add, Int.mul_add]; simp
  omega
theorem hours_bad {hs : List H} {mo su : Int} {k : Nat} (hk : k < hs.length) (h : hOk mo su (hs.getD k H.zero) = false ∨ (0 < k ∧ hlt (hs.getD (k - 1) H.zero) (hs.getD k H.zero) = false)) : hoursB hs mo su = false := by
 unfold hoursB
 rcases h with h | ⟨h0, h⟩
 ·rw [all_no _ hk h]; simp
 ·rw [rise_no hk h0 h]; simp
theorem hours_done {hs : List H} {mo su : Int} (h : SUp hs mo su hs.length) : hoursB hs mo su = decide (hsum hs = su) := by
 unfold hoursB
 have h2 := h.2
 rw [List.take_length] at h2
 rw [rise_yes h.1, h2, Bool.true_and, Bool.true_and]
/-- Tags by one loop. -/
def TUp (ts : List ByteArray) (k : Nat) : Prop := RiseTo lt tz ts k ∧ (ts.take k).all tagOk = true
theorem TUp.zero (ts : List ByteArray) : TUp ts 0 := ⟨rise_one 0 (by omega), by simp⟩
theorem TUp.more {ts : List ByteArray} {k : Nat} (h : TUp ts k) (hk : k < ts.length) (h1 : tagOk (ts.getD k tz) = true) (h2 : 0 < k → lt (ts.getD (k - 1) tz) (ts.getD k tz) = true) : TUp ts (k + 1) :=
 ⟨h.1.more h2, by rw [all_take (z := tz) _ k hk, h.2, h1]; rfl⟩
theorem tags_bad {ts : List ByteArray} {k : Nat} (hk : k < ts.length) (h : tagOk (ts.getD k tz) = false ∨ (0 < k ∧ lt (ts.getD (k - 1) tz) (ts.getD k tz) = false)) : tagsB ts = false := by
 unfold tagsB
 rcases h with h | ⟨h0, h⟩
 ·rw [all_no _ hk h]; simp
 ·rw [rise_no hk h0 h]; simp
theorem tags_done {ts : List ByteArray} (h : TUp ts ts.length) : tagsB ts = decide (ts.length ≤ 12) := by
 unfold tagsB
 have h2 := h.2
 rw [List.take_length] at h2
 rw [rise_yes h.1, h2, Bool.true_and, Bool.and_true]
theorem tags_long {ts : List ByteArray} (h : 12 < ts.length) : tagsB ts = false := by
 unfold tagsB
 rw [decide_eq_false (by omega), Bool.false_and]
theorem tags_rise {ts : List ByteArray} (h : riseB lt tz ts = false) : tagsB ts = false := by
 unfold tagsB
 rw [h]; simp
theorem tags_end {ts : List ByteArray} (h12 : ts.length ≤ 12) (hr : riseB lt tz ts = true) : tagsB ts = ts.all tagOk := by
 unfold tagsB
 rw [hr, decide_eq_true h12, Bool.true_and, Bool.true_and]
/-- Which month a minute is of, and whether an hour lies in it. -/
theorem hour_month {h mo v : Int} (h1 : 0 ≤ h) (h2 : h ≤ 2016666) (k : Nat) (hv : v = (k : Int)) (f1 : fd k ≤ 60 * h / 1440) (f2 : 60 * h / 1440 < fd (k + 1)) : hourIn h mo = decide (v = mo) := by
 unfold hourIn
 subst hv
 apply decide_eq_decide.2
 constructor
 ·rintro ⟨_, _, c, d, e⟩
  have g1 := fd_one f1 e
  have g2 := fd_one d f2
  omega
 ·rintro rfl
  exact ⟨h1, h2, by omega, by simpa using f1, by simpa using f2⟩
theorem hour_far {h mo : Int} (hx : ¬ (0 ≤ h ∧ h ≤ 2016666)) : hourIn h mo = false := by
 unfold hourIn
 exact decide_eq_false (fun q => hx ⟨q.1, q.2.1⟩)
end WinR
end Go.Proofs.YtnlmpejgiakepaaDoor
namespace Go.Proofs.YtnlmpejgiakepaaDoor
open Go.ChangeShapes Go.WideShapes Go.ChangeAt Go.RowKit
set_option linter.unusedVariables false
namespace CatR
def Blk (b : Nat) (cs : List Value) (w : World) : Prop := b < w.heap.size ∧ ∀ i, i < cs.length → w.cell? ⟨b, i, none⟩ = cs[i]?
theorem Blk.below {b : Nat} {cs : List Value} {w w' : World} (h : Blk b cs w) (hb : Below w.heap.size w w') : Blk b cs w' :=
 ⟨by have := hb.size; have := h.1; omega, fun i hi => (hb.cell (p := ⟨b, i, none⟩) h.1).trans (h.2 i hi)⟩
theorem Blk.new (w : World) (cs : List Value) (T : TypeId) : Blk w.heap.size cs (w.alloc (.cells cs.toArray T)) :=
 ⟨by simp, fun i hi => by simp [go_sem]⟩
theorem Blk.alloc {b : Nat} {cs : List Value} {w : World} (h : Blk b cs w) (o : Obj) : Blk b cs (w.alloc o) := h.below ((Below.refl _ _).alloc (Nat.le_refl _) _)
theorem Blk.drew {b : Nat} {cs : List Value} {w : World} (h : Blk b cs w) : Blk b cs w.drew := h
theorem Blk.drewN {b : Nat} {cs : List Value} {w : World} (h : Blk b cs w) (n : Nat) : Blk b cs (w.drewN n) := h
end CatR
end Go.Proofs.YtnlmpejgiakepaaDoor
namespace Go.Proofs.YtnlmpejgiakepaaDoor
open Go.ChangeShapes Go.WideShapes Go.ChangeAt Go.RowKit
set_option linter.unusedVariables false
namespace WinR
open RowG LtR
open CatR (Blk Blk.new)
theorem bdN {B : Nat} {a w : World} (h : Below B a w) (n : Nat) : Below B a (w.drewN n) := ⟨h.os, h.tape, h.output, h.size, h.block⟩
theorem leq_yes {a p : ByteArray} (h : (Op.bytesLess a.toList p.toList || (a.toList == p.toList)) = true) : lt p a = false := by
 rw [Bool.or_eq_true] at h
 rcases h with h | h
 ·exact lt_asymm h
 ·rw [toList_inj (beq_iff_eq.1 h)]; exact lt_irrefl _
theorem leq_no {a p : ByteArray} (h : (Op.bytesLess a.toList p.toList || (a.toList == p.toList)) = false) : lt p a = true := by
 rw [Bool.or_eq_false_iff] at h
 cases h2 : lt p a
 ·have := lt_total h2 h.1
  rw [this] at h
  simp at h
 ·rfl
theorem tkey (t : ByteArray) (w : World) : Calls Tryd.prog 88 #[.string t] w fun e w' => e = .returned (.string t) ∧ w' = w := by
 go_enter Tryd.func88, Tryd.ntmps88
 go_wp2
 go_ret
 exact ⟨rfl, rfl⟩
theorem hkey (h s : Int) (w : World) : Calls Tryd.prog 90 #[.agg #[.int .i64 h, .int .i64 s]] w fun e w' => e = .returned (.int .i64 h) ∧ Below w.heap.size w w' := by
 go_enter Tryd.func90, Tryd.ntmps90
 go_wp2
 go_ret
 exact ⟨rfl, (Below.refl _ _).alloc (Nat.le_refl _) _⟩
set_option maxRecDepth 100000 in
set_option maxHeartbeats 4000000 in
theorem tags_rises (ao : Option Addr) (cap : Nat) (ts : List ByteArray) (w : World) (hlen : ts.length ≤ 1048576) (hI : Tgs ao ts w) :
  Calls Tryd.prog 101 #[.agg #[.slice ao ts.length cap, .func (.func 88) #[] #[], .func (.func 89) #[] #[]]] w fun e w' => e = .returned (.bool (riseB lt tz ts)) ∧ Below w.heap.size w w' := by
 have HI := hid_intro hI
 have HNO := hid_intro (fun k => rise_no (r := lt) (z := tz) (xs := ts) (k := k))
 have HYES : Hid (RiseTo lt tz ts ts.length → riseB lt tz ts = true) := hid_intro rise_yes
 generalize riseB lt tz ts = R at *
 obtain ⟨len, hl⟩ : ∃ len, len = ts.length := ⟨_, rfl⟩
 rw [← hl] at hlen HYES ⊢
 have HL := hid_intro hl
 have HK := hid_intro tkey
 clear hI hl
 have HB0 : Hid (Below w.heap.size w (w.alloc (.cells #[.slice ao len cap, .func (.func 88) #[] #[], .func (.func 89) #[] #[]] 91))) := hid_intro ((Below.refl _ _).alloc (Nat.le_refl _) _)
 have HX0 : Hid (Blk w.heap.size [.slice ao len cap, .func (.func 88) #[] #[], .func (.func 89) #[] #[]] (w.alloc (.cells #[.slice ao len cap, .func (.func 88) #[] #[], .func (.func 89) #[] #[]] 91))) := hid_intro (Blk.new w _ _)
 go_enter Tryd.func101, Tryd.ntmps101
 go_wp2_with fail
 go_loopw [3] (fun z wr => ∃ j : Nat, (j = 0 ∨ j + 1 ≤ len) ∧ z = .int .i64 ((j : Int) + 1) ∧ Hid (RiseTo lt tz ts (j + 1)) ∧ Hid (Below w.heap.size w wr) ∧ Hid (Blk w.heap.size [.slice ao len cap, .func (.func 88) #[] #[], .func (.func 89) #[] #[]] wr)) (fun z _ => len - (intOf z).toNat)
 case atStart => exact ⟨0, by omega, rfl, hid_intro (rise_one _ (by omega)), HB0, HX0⟩
 case round =>
  obtain ⟨j, hj, rfl, HR, HB, HX⟩ := hrel
  obtain ⟨xl, xc⟩ := HX.out
  have x0 : wr.cell? ⟨w.heap.size, 0, none⟩ = some (.slice ao len cap) := xc 0 (by simp)
  have x1 : wr.cell? ⟨w.heap.size, 1, none⟩ = some (.func (.func 88) #[] #[]) := xc 1 (by simp)
  clear xc
  by_cases hlt : j + 1 < len
  ·have hlt2 : (j : Int) + 1 < (len : Int) := by omega
   obtain ⟨b, off, rfl, hbl, c1⟩ := (HI.out.below HB.out).at (j + 1) (by have := HL.out; omega)
   obtain ⟨b', off', he, _, c0⟩ := (HI.out.below HB.out).at j (by have := HL.out; omega)
   obtain ⟨rfl, rfl⟩ : b = b' ∧ off = off' := by simpa using he
   have HN := hid_intro (HNO.out (j + 1) (by have := HL.out; omega) (by omega))
   have HM := hid_intro (fun h => HR.out.more (k := j + 1) h)
   rw [Nat.add_sub_cancel] at HN HM
   generalize ts.getD (j + 1) tz = X at *
   generalize ts.getD j tz = Y at *
   cases hle : (Op.bytesLess X.toList Y.toList || (X.toList == Y.toList))
   ·have HM2 := hid_intro (HM.out (fun _ => leq_no hle))
    go_wp2_with fail
    go_quiet ((go_at_call 88; exact Calls.quiet_of_same (HK.out _ _)))
    go_wp2_with fail
    go_roundw
    case rel => exact ⟨j + 1, by omega, by go_num, HM2, hid_intro (bdN HB.out _), hid_intro (HX.out.drewN _)⟩
    case measure => simp [intOf]; omega
   ·have HF : Hid (R = false) := hid_intro (HN.out (leq_yes hle))
    go_wp2_with fail
    go_quiet ((go_at_call 88; exact Calls.quiet_of_same (HK.out _ _)))
    go_wp2_with fail
    go_ret
    exact ⟨ret_bool HF.out.symm, bdN HB.out _⟩
  ·have hlt2 : ¬ (j : Int) + 1 < (len : Int) := by omega
   have HF : Hid (R = true) := hid_intro (HYES.out (fun i h1 h2 => HR.out i (by omega) h2))
   go_wp2_with fail
   go_ret
   exact ⟨ret_bool HF.out.symm, HB.out⟩
end WinR
end Go.Proofs.YtnlmpejgiakepaaDoor
namespace Go.Proofs.YtnlmpejgiakepaaDoor
open Go.ChangeShapes Go.WideShapes Go.ChangeAt Go.RowKit
set_option linter.unusedVariables false
namespace WinR
open RowG
open EvtR (Pt)
/-- How many letters tags hold. -/
def tsz (ts : List ByteArray) : Int := (ts.map (fun t => (t.size : Int))).sum
theorem tsz_nn (ts : List ByteArray) : 0 ≤ tsz ts := by
 unfold tsz
 induction ts with
 | nil => simp
 | cons e es ih => simp only [List.map_cons, List.sum_cons]; omega
theorem tsz_take (ts : List ByteArray) (k : Nat) (h : k < ts.length) : tsz (ts.take (k + 1)) = tsz (ts.take k) + ((ts.getD k tz).size : Int) := by
 unfold tsz
 rw [take_more (z := tz) ts k h, List.map_append, List.sum_append]
 simp
theorem tsz_le (ts : List ByteArray) (k : Nat) : tsz (ts.take k) ≤ tsz ts := by
 have := tsz_nn (ts.drop k)
 have e : tsz ts = tsz (ts.take k) + tsz (ts.drop k) := by
  unfold tsz
  rw [← List.sum_append, ← List.map_append, List.take_append_drop]
 omega
theorem tsz_mem {ts : List ByteArray} {t : ByteArray} (h : t ∈ ts) : (t.size : Int) ≤ tsz ts := by
 unfold tsz
 induction ts with
 | nil => simp at h
 | cons e es ih =>
  have := tsz_nn es
  unfold tsz at this
  simp only [List.map_cons, List.sum_cons]
  rcases List.mem_cons.1 h with rfl | h
  ·omega
  ·have := ih h; omega
/-- What is left of the law's size behind tags. -/
def tszR (ts : List ByteArray) (left : Int) : Int := if (ts.length : Int) + tsz ts ≤ left then left - (ts.length : Int) - tsz ts else -1
set_option maxHeartbeats 4000000 in
theorem szT_any (ao : Option Addr) (cap : Nat) (ts : List ByteArray) (left : Int) (w : World) (hm : ts.length ≤ maxLen) (h0 : 0 ≤ left) (h1 : left ≤ 1048576) (hI : Tgs ao ts w) (hw : ∀ t ∈ ts, t.size ≤ maxLen) :
  Calls Tryd.prog 18 #[.slice ao ts.length cap, .int .i64 left] w fun e w' => e = .returned (.int .i64 (tszR ts left)) ∧ Below w.heap.size w w' := by
 obtain ⟨len, hlen⟩ : ∃ len, len = ts.length := ⟨_, rfl⟩
 rw [← hlen] at hm ⊢
 have HZ := hid_intro hlen
 have HI := hid_intro hI
 have HW := hid_intro hw
 have HR : Hid (tszR ts left = if (ts.length : Int) + tsz ts ≤ left then left - (ts.length : Int) - tsz ts else -1) := rfl
 generalize tszR ts left = R at *
 unfold maxLen at hm
 clear hI hw hlen
 by_cases hbig : left < (len : Int)
 ·have hl2 : left - (len : Int) < 0 := by omega
  have HN : Hid (R = -1) := hid_intro (by rw [HR.out, if_neg]; have := tsz_nn ts; have := HZ.out; omega)
  go_enter Tryd.func18, Tryd.ntmps18
  go_wp2_with fail
  go_ret
  exact ⟨ret_int HN.out.symm, Below.refl _ _⟩
 have hl : (len : Int) ≤ 1048576 := by omega
 have hl2 : ¬ left - (len : Int) < 0 := by omega
 go_enter Tryd.func18, Tryd.ntmps18
 go_wp2_with fail
 go_loopw [5, 1] (fun x y w' => ∃ (j : Nat) (L : Int), j ≤ len ∧ x = .int .i64 j ∧ y = .int .i64 L ∧ 0 ≤ L ∧ L ≤ 1048576 ∧ Hid (L = left - (len : Int) - tsz (ts.take j)) ∧ Hid (Below w.heap.size w w')) (fun x y w' => len - (intOf x).toNat)
 case atStart => exact ⟨0, left - (len : Int), Nat.zero_le _, rfl, rfl, by omega, by omega, hid_intro (by simp [tsz]), hid_intro (Below.refl _ _)⟩
 case round =>
  obtain ⟨j, L, hj, rfl, rfl, l0, l1, HL, HB⟩ := hrel
  by_cases hlt : j < len
  ·obtain ⟨b, off, rfl, hbl, c0⟩ := (HI.out.below HB.out).at j (by have := HZ.out; omega)
   have HS := hid_intro (tsz_take ts j (by have := HZ.out; omega))
   have q1 := HW.out _ (getD_mem (z := tz) ts j (by have := HZ.out; omega))
   unfold maxLen at q1
   generalize ts.getD j tz = X at *
   have hlt2 : (j : Int) < (len : Int) := by omega
   by_cases hs : (X.size : Int) ≤ L
   ·have HN : Hid (L - (X.size : Int) = left - (len : Int) - tsz (ts.take (j + 1))) := hid_intro (by rw [HS.out, HL.out]; omega)
    have r2 : ¬ L - (X.size : Int) < 0 := by omega
    go_wp2_with fail
    go_roundw
    case rel => exact ⟨j + 1, _, by omega, by go_num, rfl, by omega, by omega, HN, HB⟩
    case measure => simp [intOf]; omega
   ·have HN : Hid (R = -1) := hid_intro (by rw [HR.out, if_neg]; have := tsz_le ts (j + 1); have := HS.out; have := HL.out; have := HZ.out; omega)
    have r2 : L - (X.size : Int) < 0 := by omega
    go_wp2_with fail
    go_ret
    exact ⟨ret_int HN.out.symm, HB.out⟩
  ·obtain rfl : j = len := by omega
   have hlt2 : ¬ (j : Int) < (j : Int) := by omega
   have HN : Hid (R = L) := hid_intro (by
    have e := HL.out
    rw [List.take_of_length_le (by have := HZ.out; omega)] at e
    rw [HR.out, if_pos (by have := HZ.out; omega)]; have := HZ.out; omega)
   go_wp2_with fail
   go_ret
   exact ⟨ret_int HN.out.symm, HB.out⟩
theorem szH_any (ao : Option Addr) (cap len : Nat) (left : Int) (w : World) (hm : len ≤ maxLen) (h0 : 0 ≤ left) (h1 : left ≤ 1048576) :
  Calls Tryd.prog 19 #[.slice ao len cap, .int .i64 left] w fun e w' => e = .returned (.int .i64 (if (len : Int) ≤ left then left - (len : Int) else -1)) ∧ w' = w := by
 unfold maxLen at hm
 by_cases h : (len : Int) ≤ left
 ·rw [if_pos h]
  have h2 : ¬ left - (len : Int) < 0 := by omega
  go_enter Tryd.func19, Tryd.ntmps19
  go_wp2_with fail
  go_ret
  exact ⟨rfl, rfl⟩
 ·rw [if_neg h]
  have h2 : left - (len : Int) < 0 := by omega
  go_enter Tryd.func19, Tryd.ntmps19
  go_wp2_with fail
  go_ret
  exact ⟨rfl, rfl⟩
/-- What is left of the law's size behind a window. -/
def wszR (x : Wd) (left : Int) : Int := if (x.a.size : Int) + x.m.size + x.ts.length + tsz x.ts + x.hs.length ≤ left then left - ((x.a.size : Int) + x.m.size + x.ts.length + tsz x.ts + x.hs.length) else -1
/-- All in it is small. -/
def Wd.Small (x : Wd) : Prop := x.a.size ≤ 1048576 ∧ x.m.size ≤ 1048576 ∧ x.ts.length ≤ 1048576 ∧ (∀ t ∈ x.ts, t.size ≤ 1048576) ∧ x.hs.length ≤ 1048576
theorem wsz_small {x : Wd} {left : Int} (h1 : left ≤ 1048576) (h : ¬ wszR x left < 0) : x.Small ∧ 0 ≤ wszR x left ∧ wszR x left ≤ 1048576 := by
 unfold wszR at *
 have := tsz_nn x.ts
 split at h
 ·rename_i q
  rw [if_pos q]
  refine ⟨⟨by omega, by omega, by omega, fun t ht => ?_, by omega⟩, by omega, by omega⟩
  have := tsz_mem ht
  omega
 ·omega
/-- A window that came in. -/
def Wd.In (x : Wd) : Prop := x.a.size ≤ maxLen ∧ x.m.size ≤ maxLen ∧ x.ts.length ≤ maxLen ∧ (∀ t ∈ x.ts, t.size ≤ maxLen) ∧ x.hs.length ≤ maxLen
set_option maxHeartbeats 4000000 in
theorem szW_in (a m : ByteArray) (mo ev su mx : Int) (ta : Option Addr) (tl tc : Nat) (ha : Option Addr) (hl hc : Nat) (left T r1 r2 r3 r4 : Int) (w : World) (la : a.size ≤ maxLen) (lm : m.size ≤ maxLen) (h0 : 0 ≤ left) (h1 : left ≤ 1048576)
  (e1 : r1 = left - a.size) (e2 : r2 = r1 - m.size)
  (hT : 0 ≤ r1 → 0 ≤ r2 → ∀ W, Below w.heap.size w W → Calls Tryd.prog 18 #[.slice ta tl tc, .int .i64 r2] W fun e w' => e = .returned (.int .i64 r3) ∧ Below W.heap.size W w')
  (hH : 0 ≤ r3 → ∀ W, Calls Tryd.prog 19 #[.slice ha hl hc, .int .i64 r3] W fun e w' => e = .returned (.int .i64 r4) ∧ w' = W)
  (hR : T = if r1 < 0 then -1 else if r2 < 0 then -1 else if r3 < 0 then -1 else if r4 < 0 then -1 else r4) :
  Calls Tryd.prog 5 #[.agg #[.string a, .string m, .int .i64 mo, .int .i64 ev, .int .i64 su, .int .i64 mx, .slice ta tl tc, .slice ha hl hc], .int .i64 left] w fun e w' => e = .returned (.int .i64 T) ∧ Below w.heap.size w w' := by
 unfold maxLen at *
 have HT := hid_intro hT
 have HH := hid_intro hH
 have HB0 : Hid (Below w.heap.size w (w.alloc (.cells #[.string a, .string m, .int .i64 mo, .int .i64 ev, .int .i64 su, .int .i64 mx, .slice ta tl tc, .slice ha hl hc] 25))) := hid_intro ((Below.refl _ _).alloc (Nat.le_refl _) _)
 clear hT hH
 by_cases q1 : r1 < 0
 ·rw [if_pos q1] at hR
  have q1' : left - (a.size : Int) < 0 := by omega
  clear e1 e2
  go_enter Tryd.func5, Tryd.ntmps5
  go_wp2_with fail
  go_ret
  exact ⟨ret_int (by first | rfl | exact hR.symm | omega), HB0.out⟩
 ·rw [if_neg q1] at hR
  have q1' : ¬ left - (a.size : Int) < 0 := by omega
  by_cases q2 : r2 < 0
  ·rw [if_pos q2] at hR
   have q2' : left - (a.size : Int) - (m.size : Int) < 0 := by omega
   clear e1 e2
   go_enter Tryd.func5, Tryd.ntmps5
   go_wp2_with fail
   go_ret
   exact ⟨ret_int (by first | rfl | exact hR.symm | omega), HB0.out⟩
  ·rw [if_neg q2] at hR
   have q2' : ¬ left - (a.size : Int) - (m.size : Int) < 0 := by omega
   have HT2 := hid_intro (HT.out (by omega) (by omega))
   have e3 : left - (a.size : Int) - (m.size : Int) = r2 := by omega
   have HX0 := hid_intro (CatR.Blk.new w [.string a, .string m, .int .i64 mo, .int .i64 ev, .int .i64 su, .int .i64 mx, .slice ta tl tc, .slice ha hl hc] 25)
   clear e1 e2 HT
   go_enter Tryd.func5, Tryd.ntmps5
   go_wp2_with fail
   first | rw [e3] | skip
   refine (HT2.out _ HB0.out).mono ?_
   rintro e w2 ⟨rfl, hb2⟩
   have HB2 := hid_intro (HB0.out.trans (hb2.mono HB0.out.size))
   have HX2 := hid_intro (HX0.out.below hb2)
   obtain ⟨xl, xc⟩ := HX2.out
   have y7 : w2.cell? ⟨w.heap.size, 7, none⟩ = some (.slice ha hl hc) := xc 7 (by simp)
   clear xc hb2
   by_cases q3 : r3 < 0
   ·rw [if_pos q3] at hR
    go_wp2_with fail
    go_ret
    exact ⟨ret_int (by first | rfl | exact hR.symm | omega), HB2.out⟩
   ·rw [if_neg q3] at hR
    have HH2 := hid_intro (HH.out (by omega))
    go_wp2_with fail
    refine (HH2.out _).mono ?_
    rintro e w3 ⟨rfl, rfl⟩
    by_cases q4 : r4 < 0
    ·rw [if_pos q4] at hR
     go_wp2_with fail
     go_ret
     exact ⟨ret_int (by first | rfl | exact hR.symm | omega), HB2.out⟩
    ·rw [if_neg q4] at hR
     go_wp2_with fail
     go_ret
     exact ⟨ret_int (by first | rfl | exact hR.symm | omega), HB2.out⟩
theorem szW_any (x : Wd) (ta : Option Addr) (tc : Nat) (ha : Option Addr) (hc : Nat) (left : Int) (w : World) (h0 : 0 ≤ left) (h1 : left ≤ 1048576) (hI : x.In) (hT : Tgs ta x.ts w) :
  Calls Tryd.prog 5 #[.agg (wcells x ta tc ha hc), .int .i64 left] w fun e w' => e = .returned (.int .i64 (wszR x left)) ∧ Below w.heap.size w w' := by
 obtain ⟨i1, i2, i3, i4, i5⟩ := hI
 have n0 := tsz_nn x.ts
 refine szW_in x.a x.m x.mo x.ev x.su x.mx ta x.ts.length tc ha x.hs.length hc left _ (left - x.a.size) (left - x.a.size - x.m.size) (tszR x.ts (left - x.a.size - x.m.size)) (if (x.hs.length : Int) ≤ tszR x.ts (left - x.a.size - x.m.size) then tszR x.ts (left - x.a.size - x.m.size) - (x.hs.length : Int) else -1) w i1 i2 h0 h1 rfl rfl (fun q1 q2 W hW => szT_any ta tc x.ts _ W i3 (by omega) (by omega) (hT.below hW) i4) (fun q3 W => szH_any ha hc x.hs.length _ W i5 (by omega) ?_) ?_
 ·unfold tszR; split <;> omega
 ·unfold wszR tszR
  repeat' split
  all_goals omega
end WinR
end Go.Proofs.YtnlmpejgiakepaaDoor
namespace Go.Proofs.YtnlmpejgiakepaaDoor
open Go.ChangeShapes Go.WideShapes Go.ChangeAt Go.RowKit
set_option linter.unusedVariables false
namespace WinR
open RowG
open EvtR (Pt)
theorem infoT : (Tryd.prog.info? 9).map (fun i => (i.zero, i.size, i.bytes)) = some (some (.string ⟨#[]⟩), 1, 16) := by kernel_rfl
theorem infoH : (Tryd.prog.info? 65).map (fun i => (i.zero, i.size, i.bytes)) = some (some (.agg #[.int .i64 0, .int .i64 0]), 2, 16) := by kernel_rfl
theorem row_full {w : World} {base e g n s : Nat} {xs : List Value} (h : w.ownsRow base e s (.slice (some ⟨g, 0, none⟩) n n) n xs) : Pt g (n * s) w := by
 rcases h.2 with ⟨h1, _⟩ | ⟨g', cap, cur, h1, _, hg, _, _, hs, _⟩
 ·simp at h1
 ·simp at h1
  obtain ⟨rfl, rfl⟩ := h1
  refine ⟨(Array.getElem?_eq_some_iff.1 hg).1, fun o ho => ⟨cur[o]'(by omega), ?_⟩, fun o ho => ?_⟩
  ·have : o < cur.size := by omega
   simp [World.cell?, hg, this]
  ·simp [World.frozen?, hg]
theorem fill_step {f : Nat → Option Value} {w wr : World} {m j : Nat} (hb : Below w.heap.size w wr) (hp : Pt w.heap.size m wr) (hw : Wr f j w.heap.size wr) (hj : j < m) (v : Value) (hv : f j = some v) :
  Below w.heap.size w (wr.setCell ⟨w.heap.size, j, none⟩ v) ∧ Pt w.heap.size m (wr.setCell ⟨w.heap.size, j, none⟩ v) ∧ Wr f (j + 1) w.heap.size (wr.setCell ⟨w.heap.size, j, none⟩ v) :=
 ⟨hb.setCell (Nat.le_refl _) _, hp.set _ _, hw.more hp hj v hv⟩
theorem cellT (ts : List ByteArray) (o : Nat) : cellAt 1 tcells tz ts o = some (.string (ts.getD o tz)) := by
 unfold cellAt
 rw [Nat.div_one, Nat.mod_one]
 rfl
set_option maxRecDepth 100000 in
set_option maxHeartbeats 4000000 in
theorem toTs_any (ao : Option Addr) (cap : Nat) (ts : List ByteArray) (w : World) (hlen : ts.length ≤ 1048576) (hI : Tgs ao ts w) :
  Calls Tryd.prog 25 #[.slice ao ts.length cap] w fun e w' => e = .returned (.slice (some ⟨w.heap.size, 0, none⟩) ts.length ts.length) ∧ Tgs (some ⟨w.heap.size, 0, none⟩) ts w' ∧ Pt w.heap.size ts.length w' ∧ Below w.heap.size w w' := by
 obtain ⟨i0, hi, hz0, hz1, hz2⟩ := info_parts infoT
 have HI := hid_intro hI
 have HWS : Hid (∀ wr, Wr (cellAt 1 tcells tz ts) (ts.length * 1) w.heap.size wr → w.heap.size < wr.heap.size → Tgs (some ⟨w.heap.size, 0, none⟩) ts wr) := hid_intro (fun wr h hl => Wr.rws h hl)
 obtain ⟨len, hl⟩ : ∃ len, len = ts.length := ⟨_, rfl⟩
 rw [← hl] at hlen HWS ⊢
 have HL := hid_intro hl
 clear hI hl
 go_enter Tryd.func25, Tryd.ntmps25
 go_wp2_with (at_make; refine wpList_make_full _ rfl _ _ 22 rfl w.heap.size 9 i0 (.string ⟨#[]⟩) 1 Tryd.underlying22 hi hz0 hz1 .i64 .i64 _ _ len rfl rfl rfl rfl ?b2 ?b3 ?b4 ?_)
 case b2 => rw [hz2]; omega
 case b3 => unfold maxLen; omega
 case b4 => exact Nat.le_refl _
 intro wm hown hgrow
 have HB0 : Hid (Below w.heap.size w wm) := hid_intro ((Below.refl _ _).grown hgrow (Nat.le_refl _) (fun k e => by cases e))
 have HP0 := hid_intro (row_full hown)
 clear hown hgrow hi hz0 hz1 hz2
 go_wp2_with fail
 go_loopw [4] (fun z wr => ∃ k : Nat, k ≤ len ∧ z = .int .i64 k ∧ Hid (Below w.heap.size w wr) ∧ Hid (Pt w.heap.size (len * 1) wr) ∧ Hid (Wr (cellAt 1 tcells tz ts) k w.heap.size wr)) (fun z _ => len - (intOf z).toNat)
 case atStart => exact ⟨0, by omega, rfl, HB0, HP0, hid_intro (fun o ho => absurd ho (by omega))⟩
 case round =>
  obtain ⟨k, hk, rfl, HB, HP, HW⟩ := hrel
  by_cases hlt : k < len
  ·have hlt2 : (k : Int) < (len : Int) := by omega
   obtain ⟨b, off, rfl, hbl, c0⟩ := (HI.out.below HB.out).at k (by have := HL.out; omega)
   have HS0 := hid_intro (fill_step HB.out HP.out HW.out (by omega) (.string (ts.getD k tz)) (cellT ts k))
   generalize ts.getD k tz = X at *
   obtain ⟨v0, d0⟩ := HP.out.has k (by omega)
   have z0 := HP.out.free k (by omega)
   go_wp2_with fail
   go_roundw
   case rel => exact ⟨k + 1, by omega, by go_num, hid_intro HS0.out.1, hid_intro HS0.out.2.1, hid_intro HS0.out.2.2⟩
   case measure => simp [intOf]; omega
  ·have hlt2 : ¬ (k : Int) < (len : Int) := by omega
   obtain rfl : k = len := by omega
   go_wp2_with fail
   go_ret
   exact ⟨rfl, HWS.out _ (by rw [Nat.mul_one]; exact HW.out) HP.out.lt, (by have h := HP.out; rwa [Nat.mul_one] at h), HB.out⟩
theorem toHour_any (h s : Int) (w : World) :
  Calls Tryd.prog 52 #[.agg #[.int .i64 h, .int .i64 s]] w fun e w' => e = .returned (.agg #[.int .i64 h, .int .i64 s]) ∧ Below w.heap.size w w' := by
 go_enter Tryd.func52, Tryd.ntmps52
 go_wp2_with fail
 refine bodyPost_ret (v := .agg #[.int .i64 h, .int .i64 s]) (by simp [results, Tryd.results52, go_sem]) rfl ⟨rfl, ?_⟩
 repeat' first | exact Below.refl _ _ | apply Below.setCell | apply Below.alloc
 all_goals first | omega | (simp; done) | (simp; omega)
set_option maxRecDepth 100000 in
set_option maxHeartbeats 4000000 in
theorem toHs_any (ao : Option Addr) (cap : Nat) (hs : List H) (w : World) (hlen : hs.length ≤ 1048576) (hI : Hrs ao hs w) :
  Calls Tryd.prog 26 #[.slice ao hs.length cap] w fun e w' => e = .returned (.slice (some ⟨w.heap.size, 0, none⟩) hs.length hs.length) ∧ Hrs (some ⟨w.heap.size, 0, none⟩) hs w' ∧ Pt w.heap.size (hs.length * 2) w' ∧ Below w.heap.size w w' := by
 obtain ⟨i0, hi, hz0, hz1, hz2⟩ := info_parts infoH
 have HI := hid_intro hI
 have HWS : Hid (∀ wr, Wr (cellAt 2 H.cells H.zero hs) (hs.length * 2) w.heap.size wr → w.heap.size < wr.heap.size → Hrs (some ⟨w.heap.size, 0, none⟩) hs wr) := hid_intro (fun wr h hl => Wr.rws h hl)
 obtain ⟨len, hl⟩ : ∃ len, len = hs.length := ⟨_, rfl⟩
 rw [← hl] at hlen HWS ⊢
 have HL := hid_intro hl
 clear hI hl
 go_enter Tryd.func26, Tryd.ntmps26
 go_wp2_with (at_make; refine wpList_make_full _ rfl _ _ 30 rfl w.heap.size 65 i0 (.agg #[.int .i64 0, .int .i64 0]) 2 Tryd.underlying30 hi hz0 hz1 .i64 .i64 _ _ len rfl rfl rfl rfl ?b2 ?b3 ?b4 ?_)
 case b2 => rw [hz2]; omega
 case b3 => unfold maxLen; omega
 case b4 => exact Nat.le_refl _
 intro wm hown hgrow
 have HB0 : Hid (Below w.heap.size w wm) := hid_intro ((Below.refl _ _).grown hgrow (Nat.le_refl _) (fun k e => by cases e))
 have HP0 := hid_intro (row_full hown)
 clear hown hgrow hi hz0 hz1 hz2
 go_wp2_with fail
 go_loopw [4] (fun z wr => ∃ k : Nat, k ≤ len ∧ z = .int .i64 k ∧ Hid (Below w.heap.size w wr) ∧ Hid (Pt w.heap.size (len * 2) wr) ∧ Hid (Wr (cellAt 2 H.cells H.zero hs) (k * 2) w.heap.size wr)) (fun z _ => len - (intOf z).toNat)
 case atStart => exact ⟨0, by omega, rfl, HB0, HP0, hid_intro (fun o ho => absurd ho (by omega))⟩
 case round =>
  obtain ⟨k, hk, rfl, HB, HP, HW⟩ := hrel
  by_cases hlt : k < len
  ·have hlt2 : (k : Int) < (len : Int) := by omega
   obtain ⟨b, off, rfl, hbl, c0, c1⟩ := (HI.out.below HB.out).at k (by have := HL.out; omega)
   have HX := hid_intro (cellAt_of (k := 2) (cells := H.cells) (z := H.zero) (xs := hs) k)
   generalize hs.getD k H.zero = X at *
   obtain ⟨xh, xs⟩ := X
   have HC := hid_intro (fun w => toHour_any xh xs w)
   go_wp2_with fail
   refine (HC.out _).mono ?_
   rintro e w1 ⟨rfl, hb⟩
   replace HW := hid_intro (HW.out.below HP.out hb)
   replace HP := hid_intro (HP.out.below hb)
   replace HB := hid_intro (HB.out.trans (hb.mono HB.out.size))
   have HS0 := hid_intro (fill_step HB.out HP.out HW.out (by omega) (.int .i64 xh) (HX.out 0 (by omega)))
   have HS1 := hid_intro (fill_step HS0.out.1 HS0.out.2.1 HS0.out.2.2 (by omega) (.int .i64 xs) (HX.out 1 (by omega)))
   obtain ⟨v0, d0⟩ := HP.out.has (k * 2) (by omega)
   obtain ⟨v1, d1⟩ := HP.out.has (k * 2 + 1) (by omega)
   have z0 := HP.out.free (k * 2) (by omega)
   have z1 := HP.out.free (k * 2 + 1) (by omega)
   clear hb c0 c1 HX HS0
   go_wp2_with fail
   go_roundw
   case rel => exact ⟨k + 1, by omega, by go_num, hid_intro HS1.out.1, hid_intro HS1.out.2.1, hid_intro (by rw [show (k + 1) * 2 = k * 2 + 1 + 1 by omega]; exact HS1.out.2.2)⟩
   case measure => simp [intOf]; omega
  ·have hlt2 : ¬ (k : Int) < (len : Int) := by omega
   obtain rfl : k = len := by omega
   go_wp2_with fail
   go_ret
   exact ⟨rfl, HWS.out _ HW.out HP.out.lt, HP.out, HB.out⟩
set_option maxHeartbeats 4000000 in
theorem eqTs_any (ao bo : Option Addr) (cap cap' : Nat) (ts : List ByteArray) (w : World) (hlen : ts.length ≤ 1048576) (hI : Tgs ao ts w) (hJ : Tgs bo ts w) :
  Calls Tryd.prog 29 #[.slice ao ts.length cap, .slice bo ts.length cap'] w fun e w' => e = .returned (.bool true) ∧ Below w.heap.size w w' := by
 have HI := hid_intro hI
 have HJ := hid_intro hJ
 obtain ⟨len, hl⟩ : ∃ len, len = ts.length := ⟨_, rfl⟩
 rw [← hl] at hlen ⊢
 have HL := hid_intro hl
 clear hI hJ hl
 go_enter Tryd.func29, Tryd.ntmps29
 go_wp2_with fail
 go_loopw [5] (fun z wr => ∃ k : Nat, k ≤ len ∧ z = .int .i64 k ∧ Hid (Below w.heap.size w wr)) (fun z _ => len - (intOf z).toNat)
 case atStart => exact ⟨0, by omega, rfl, hid_intro (Below.refl _ _)⟩
 case round =>
  obtain ⟨k, hk, rfl, HW⟩ := hrel
  by_cases hlt : k < len
  ·have hlt2 : (k : Int) < (len : Int) := by omega
   obtain ⟨b, off, rfl, _, c0⟩ := (HI.out.below HW.out).at k (by have := HL.out; omega)
   obtain ⟨b', off', rfl, _, e0⟩ := (HJ.out.below HW.out).at k (by have := HL.out; omega)
   generalize ts.getD k tz = X at *
   go_wp2_with fail
   try (go_quiet (fail); go_wp2_with fail)
   go_roundw
   case rel => exact ⟨k + 1, by omega, by go_num, hid_intro (by first | exact HW.out | exact bdN HW.out _)⟩
   case measure => simp [intOf]; omega
  ·have hlt2 : ¬ (k : Int) < (len : Int) := by omega
   go_wp2_with fail
   go_ret
   exact ⟨rfl, HW.out⟩
theorem eqHour_any (h s : Int) (w : World) : Calls Tryd.prog 62 #[.agg #[.int .i64 h, .int .i64 s], .agg #[.int .i64 h, .int .i64 s]] w fun e w' => e = .returned (.bool true) ∧ Below w.heap.size w w' := by
 go_enter Tryd.func62, Tryd.ntmps62
 go_wp2
 go_ret
 refine ⟨rfl, ?_⟩
 repeat' first | exact Below.refl _ _ | apply Below.setCell | apply Below.alloc
 all_goals first | omega | (simp; done) | (simp; omega)
set_option maxHeartbeats 4000000 in
theorem eqHs_any (ao bo : Option Addr) (cap cap' : Nat) (hs : List H) (w : World) (hlen : hs.length ≤ 1048576) (hI : Hrs ao hs w) (hJ : Hrs bo hs w) :
  Calls Tryd.prog 30 #[.slice ao hs.length cap, .slice bo hs.length cap'] w fun e w' => e = .returned (.bool true) ∧ Below w.heap.size w w' := by
 have HI := hid_intro hI
 have HJ := hid_intro hJ
 obtain ⟨len, hl⟩ : ∃ len, len = hs.length := ⟨_, rfl⟩
 rw [← hl] at hlen ⊢
 have HL := hid_intro hl
 clear hI hJ hl
 go_enter Tryd.func30, Tryd.ntmps30
 go_wp2_with fail
 go_loopw [5] (fun z wr => ∃ k : Nat, k ≤ len ∧ z = .int .i64 k ∧ Hid (Below w.heap.size w wr)) (fun z _ => len - (intOf z).toNat)
 case atStart => exact ⟨0, by omega, rfl, hid_intro (Below.refl _ _)⟩
 case round =>
  obtain ⟨k, hk, rfl, HW⟩ := hrel
  by_cases hlt : k < len
  ·have hlt2 : (k : Int) < (len : Int) := by omega
   obtain ⟨b, off, rfl, _, c0, c1⟩ := (HI.out.below HW.out).at k (by have := HL.out; omega)
   obtain ⟨b', off', rfl, _, e0, e1⟩ := (HJ.out.below HW.out).at k (by have := HL.out; omega)
   generalize hs.getD k H.zero = X at *
   obtain ⟨xh, xs⟩ := X
   have HC := hid_intro (fun w => eqHour_any xh xs w)
   go_wp2_with fail
   go_region_with (go_at_call 62; refine (HC.out _).mono ?_; rintro e w1 ⟨rfl, hb⟩)
   all_goals (
    have HB1 := hid_intro (HW.out.drew.trans (hb.mono HW.out.drew.size))
    clear hb c0 c1 e0 e1
    go_wp2_with fail
    go_roundw
    case rel => exact ⟨k + 1, by omega, by go_num, HB1⟩
    case measure => simp [intOf]; omega)
  ·have hlt2 : ¬ (k : Int) < (len : Int) := by omega
   go_wp2_with fail
   go_ret
   exact ⟨rfl, HW.out⟩
end WinR
end Go.Proofs.YtnlmpejgiakepaaDoor
namespace Go.Proofs.YtnlmpejgiakepaaDoor
open Go.ChangeShapes Go.WideShapes Go.ChangeAt Go.RowKit
set_option linter.unusedVariables false
namespace WinR
open RowG
open EvtR (Pt)
open CatR (Blk Blk.new)
/-- A block that may be written. -/
def BlkW (b : Nat) (cs : List Value) (w : World) : Prop := Blk b cs w ∧ ∀ i, i < cs.length → w.frozen? ⟨b, i, none⟩ = false
theorem BlkW.below {b : Nat} {cs : List Value} {w w' : World} (h : BlkW b cs w) (hb : Below w.heap.size w w') : BlkW b cs w' :=
 ⟨h.1.below hb, fun i hi => (hb.frozen (p := ⟨b, i, none⟩) h.1.1).trans (h.2 i hi)⟩
theorem BlkW.new (w : World) (cs : List Value) (T : TypeId) : BlkW w.heap.size cs (w.alloc (.cells cs.toArray T)) :=
 ⟨Blk.new w cs T, fun i hi => by simp [go_sem]⟩
theorem BlkW.set {b : Nat} {cs : List Value} {w : World} (h : BlkW b cs w) (o : Nat) (v : Value) (ho : o < cs.length) : BlkW b (cs.set o v) (w.setCell ⟨b, o, none⟩ v) := by
 obtain ⟨⟨hl, hc⟩, hf⟩ := h
 refine ⟨⟨by simpa using hl, fun i hi => ?_⟩, fun i hi => ?_⟩
 ·rw [List.length_set] at hi
  by_cases e : o = i
  ·subst e
   have := hc o hi
   rw [List.getElem?_eq_getElem hi] at this
   rw [List.getElem?_set_self ho]
   simp [go_sem, this]
  ·rw [List.getElem?_set_ne e, ← hc i hi]
   simp [go_sem]
 ·rw [List.length_set] at hi
  have := hf i hi
  simp [go_sem, this]
theorem BlkW.other {b : Nat} {cs : List Value} {w : World} (h : BlkW b cs w) (g o : Nat) (v : Value) (hg : g ≠ b) : BlkW b cs (w.setCell ⟨g, o, none⟩ v) := by
 have e := (grown_set w g o v).block b h.1.1 (by simp; exact fun q => hg q.symm)
 exact ⟨⟨by simpa using h.1.1, fun i hi => (World.cell?_of_block (a := ⟨b, i, none⟩) e).trans (h.1.2 i hi)⟩, fun i hi => (World.frozen?_of_block (a := ⟨b, i, none⟩) e).trans (h.2 i hi)⟩
theorem Rws.put {α : Type} {k : Nat} {cells : α → List Value} {z : α} {ao : Option Addr} {xs : List α} {w : World} (h : Rws k cells z ao xs w) (g o : Nat) (v : Value) (hne : xs.length = 0 ∨ ∀ b off, ao = some ⟨b, off, none⟩ → b ≠ g) : Rws k cells z ao xs (w.setCell ⟨g, o, none⟩ v) :=
 h.grown (grown_set w g o v) (hne.imp id (fun hn b off e q => hn b off e (by simpa using q)))
theorem MadeG.put {α : Type} {k : Nat} {cells : α → List Value} {z : α} {base : Nat} {ao : Option Addr} {xs : List α} {w : World} (h : MadeG k cells z base ao xs w) (g o : Nat) (v : Value) (hne : xs.length = 0 ∨ ∀ b off, ao = some ⟨b, off, none⟩ → b ≠ g) : MadeG k cells z base ao xs (w.setCell ⟨g, o, none⟩ v) := by
 refine ⟨Rws.put h.rws g o v hne, ?_⟩
 rcases h.own with h0 | ⟨b, e1, e2, e3⟩
 ·exact .inl h0
 ·rcases hne with h0 | hn
  ·exact .inl h0
  have e := (grown_set w g o v).block b e3.lt (by simp; exact fun q => hn b 0 e1 q)
  exact .inr ⟨b, e1, e2, by simpa using e3.lt, fun x hx => by obtain ⟨u, hu⟩ := e3.has x hx; exact ⟨u, (World.cell?_of_block (a := ⟨b, x, none⟩) e).trans hu⟩, fun x hx => (World.frozen?_of_block (a := ⟨b, x, none⟩) e).trans (e3.free x hx)⟩
/-- Two lists lie apart. -/
def Apart (ta ha : Option Addr) (tl hl : Nat) : Prop := tl = 0 ∨ hl = 0 ∨ ∀ b o b' o', ta = some ⟨b, o, none⟩ → ha = some ⟨b', o', none⟩ → b ≠ b'
/-- A window that a call has made. -/
def MadeW (base : Nat) (x : Wd) (v : Value) (w : World) : Prop := ∃ ta tc ha hc, v = .agg (wcells x ta tc ha hc) ∧ MadeG 1 tcells tz base ta x.ts w ∧ MadeG 2 H.cells H.zero base ha x.hs w ∧ Apart ta ha x.ts.length x.hs.length
theorem MadeW.below {base : Nat} {x : Wd} {v : Value} {w w' : World} (h : MadeW base x v w) (hb : Below w.heap.size w w') : MadeW base x v w' := by
 obtain ⟨ta, tc, ha, hc, hv, h1, h2, h3⟩ := h
 exact ⟨ta, tc, ha, hc, hv, h1.below hb, h2.below hb, h3⟩
theorem MadeW.low {base base' : Nat} {x : Wd} {v : Value} {w : World} (h : MadeW base x v w) (hb : base' ≤ base) : MadeW base' x v w := by
 obtain ⟨ta, tc, ha, hc, hv, h1, h2, h3⟩ := h
 exact ⟨ta, tc, ha, hc, hv, h1.low hb, h2.low hb, h3⟩
theorem MadeW.is {base : Nat} {x : Wd} {v : Value} {w : World} (h : MadeW base x v w) : IsWd v x w := by
 obtain ⟨ta, tc, ha, hc, hv, h1, h2, h3⟩ := h
 exact ⟨ta, tc, ha, hc, hv, h1.rws, h2.rws⟩
set_option maxRecDepth 100000 in
set_option maxHeartbeats 8000000 in
theorem toW_in (a m : ByteArray) (mo ev su mx : Int) (ta : Option Addr) (ts : List ByteArray) (tc : Nat) (ha : Option Addr) (hs : List H) (hc : Nat) (w : World) (ht : ts.length ≤ 1048576) (hh : hs.length ≤ 1048576) (hT : Tgs ta ts w) (hH : Hrs ha hs w) :
  Calls Tryd.prog 8 #[.agg #[.string a, .string m, .int .i64 mo, .int .i64 ev, .int .i64 su, .int .i64 mx, .slice ta ts.length tc, .slice ha hs.length hc]] w fun e w' => ∃ v, e = .returned v ∧ MadeW w.heap.size ⟨a, m, mo, ev, su, mx, ts, hs⟩ v w' ∧ Below w.heap.size w w' := by
 have H1 := hid_intro (fun W (hW : Below w.heap.size w W) => toTs_any ta tc ts W ht (hT.below hW))
 have H2 := hid_intro (fun W (hW : Below w.heap.size w W) => toHs_any ha hc hs W hh (hH.below hW))
 have HF : Hid (∀ W g1 g2, w.heap.size ≤ g1 → w.heap.size ≤ g2 → g1 ≠ g2 → MadeG 1 tcells tz g1 (some ⟨g1, 0, none⟩) ts W → MadeG 2 H.cells H.zero g2 (some ⟨g2, 0, none⟩) hs W → MadeW w.heap.size ⟨a, m, mo, ev, su, mx, ts, hs⟩ (.agg #[.string a, .string m, .int .i64 mo, .int .i64 ev, .int .i64 su, .int .i64 mx, .slice (some ⟨g1, 0, none⟩) ts.length ts.length, .slice (some ⟨g2, 0, none⟩) hs.length hs.length]) W) := hid_intro (fun W g1 g2 l1 l2 hn m1 m2 =>
  ⟨_, _, _, _, rfl, m1.low l1, m2.low l2, .inr (.inr (fun b o b' o' e1 e2 => by simp at e1 e2; omega))⟩)
 generalize MadeW w.heap.size ⟨a, m, mo, ev, su, mx, ts, hs⟩ = M at *
 obtain ⟨tl, htl⟩ : ∃ tl, tl = ts.length := ⟨_, rfl⟩
 obtain ⟨hl, hhl⟩ : ∃ hl, hl = hs.length := ⟨_, rfl⟩
 have HTL := hid_intro htl
 have HHL := hid_intro hhl
 rw [← htl] at ht H1 HF ⊢
 rw [← hhl] at hh H2 HF ⊢
 clear hT hH htl hhl
 have HB0 : Hid (Below w.heap.size w (((w.alloc (.cells #[.string a, .string m, .int .i64 mo, .int .i64 ev, .int .i64 su, .int .i64 mx, .slice ta tl tc, .slice ha hl hc] 25)).alloc (.cells #[.string ⟨#[]⟩, .string ⟨#[]⟩, .int .i64 0, .int .i64 0, .int .i64 0, .int .i64 0, .slice none 0 0, .slice none 0 0] 32)).alloc (.cells #[.string a, .string m, .int .i64 mo, .int .i64 ev, .int .i64 su, .int .i64 mx, .slice none 0 0, .slice none 0 0] 32))) := hid_intro ((((Below.refl _ _).alloc (Nat.le_refl _) _).alloc (by simp) _).alloc (by simp; omega) _)
 have HX0 := hid_intro (((BlkW.new w [.string a, .string m, .int .i64 mo, .int .i64 ev, .int .i64 su, .int .i64 mx, .slice ta tl tc, .slice ha hl hc] 25).below ((Below.refl _ _).alloc (Nat.le_refl _) (Obj.cells #[.string ⟨#[]⟩, .string ⟨#[]⟩, .int .i64 0, .int .i64 0, .int .i64 0, .int .i64 0, .slice none 0 0, .slice none 0 0] 32))).below ((Below.refl _ _).alloc (Nat.le_refl _) (Obj.cells #[.string a, .string m, .int .i64 mo, .int .i64 ev, .int .i64 su, .int .i64 mx, .slice none 0 0, .slice none 0 0] 32)))
 have HY0 := hid_intro ((BlkW.new (w.alloc (.cells #[.string a, .string m, .int .i64 mo, .int .i64 ev, .int .i64 su, .int .i64 mx, .slice ta tl tc, .slice ha hl hc] 25)) [.string ⟨#[]⟩, .string ⟨#[]⟩, .int .i64 0, .int .i64 0, .int .i64 0, .int .i64 0, .slice none 0 0, .slice none 0 0] 32).below ((Below.refl _ _).alloc (Nat.le_refl _) (Obj.cells #[.string a, .string m, .int .i64 mo, .int .i64 ev, .int .i64 su, .int .i64 mx, .slice none 0 0, .slice none 0 0] 32)))
 have HZ0 := hid_intro (BlkW.new ((w.alloc (.cells #[.string a, .string m, .int .i64 mo, .int .i64 ev, .int .i64 su, .int .i64 mx, .slice ta tl tc, .slice ha hl hc] 25)).alloc (.cells #[.string ⟨#[]⟩, .string ⟨#[]⟩, .int .i64 0, .int .i64 0, .int .i64 0, .int .i64 0, .slice none 0 0, .slice none 0 0] 32)) [.string a, .string m, .int .i64 mo, .int .i64 ev, .int .i64 su, .int .i64 mx, .slice none 0 0, .slice none 0 0] 32)
 have e1 : (w.alloc (.cells #[.string a, .string m, .int .i64 mo, .int .i64 ev, .int .i64 su, .int .i64 mx, .slice ta tl tc, .slice ha hl hc] 25)).heap.size = w.heap.size + 1 := by simp
 have e2 : ((w.alloc (.cells #[.string a, .string m, .int .i64 mo, .int .i64 ev, .int .i64 su, .int .i64 mx, .slice ta tl tc, .slice ha hl hc] 25)).alloc (.cells #[.string ⟨#[]⟩, .string ⟨#[]⟩, .int .i64 0, .int .i64 0, .int .i64 0, .int .i64 0, .slice none 0 0, .slice none 0 0] 32)).heap.size = w.heap.size + 1 + 1 := by simp
 rw [e1] at HY0
 rw [e2] at HZ0
 clear e1 e2
 go_enter Tryd.func8, Tryd.ntmps8
 go_wp2_with fail
 refine (H1.out _ HB0.out).mono ?_
 rintro e w1 ⟨rfl, hT1, hP1, hb1⟩
 have HM1 := hid_intro (show MadeG 1 tcells tz _ _ ts w1 from ⟨hT1, .inr ⟨_, rfl, Nat.le_refl _, by rw [Nat.mul_one]; exact HTL.out ▸ hP1⟩⟩)
 obtain ⟨g1, hg1⟩ : ∃ g1, g1 = (((w.alloc (.cells #[.string a, .string m, .int .i64 mo, .int .i64 ev, .int .i64 su, .int .i64 mx, .slice ta tl tc, .slice ha hl hc] 25)).alloc (.cells #[.string ⟨#[]⟩, .string ⟨#[]⟩, .int .i64 0, .int .i64 0, .int .i64 0, .int .i64 0, .slice none 0 0, .slice none 0 0] 32)).alloc (.cells #[.string a, .string m, .int .i64 mo, .int .i64 ev, .int .i64 su, .int .i64 mx, .slice none 0 0, .slice none 0 0] 32)).heap.size := ⟨_, rfl⟩
 have HG1 : Hid (w.heap.size + 3 = g1) := hid_intro (by rw [hg1]; simp)
 have HG1b : Hid (g1 < w1.heap.size) := hid_intro (by rw [hg1]; exact hP1.lt)
 rw [← hg1] at HM1 ⊢
 clear hg1
 have HX1 := hid_intro (HX0.out.below hb1)
 have HY1 := hid_intro ((HY0.out.below hb1).other (w.heap.size + 1 + 1) 6 (.slice (some ⟨g1, 0, none⟩) tl tl) (by omega))
 have HZ1 := hid_intro ((HZ0.out.below hb1).set 6 (.slice (some ⟨g1, 0, none⟩) tl tl) (by simp))
 have HZ1' := hid_intro (HZ0.out.below hb1)
 have HB1 : Hid (Below w.heap.size w (w1.setCell ⟨w.heap.size + 1 + 1, 6, none⟩ (.slice (some ⟨g1, 0, none⟩) tl tl))) := hid_intro ((HB0.out.trans (hb1.mono HB0.out.size)).setCell (by simp; omega) _)
 obtain ⟨⟨xl, xc⟩, _⟩ := HX1.out
 have x7 : w1.cell? ⟨w.heap.size, 7, none⟩ = some (.slice ha hl hc) := xc 7 (by simp)
 obtain ⟨⟨zl, zk⟩, zf⟩ := HZ1'.out
 have z6 : w1.cell? ⟨w.heap.size + 1 + 1, 6, none⟩ = some (.slice none 0 0) := zk 6 (by simp)
 have f6 : w1.frozen? ⟨w.heap.size + 1 + 1, 6, none⟩ = false := zf 6 (by simp)
 clear xc zk zf hT1 hP1 hb1 HZ1' HX0 HY0 HZ0 HX1
 replace HM1 := hid_intro (MadeG.put HM1.out (w.heap.size + 1 + 1) 6 (.slice (some ⟨g1, 0, none⟩) tl tl) (.inr (fun b off e => by simp at e; have := HG1.out; omega)))
 go_wp2_with fail
 refine (H2.out _ HB1.out).mono ?_
 rintro e w2 ⟨rfl, hT2, hP2, hb2⟩
 have HM2 := hid_intro (show MadeG 2 H.cells H.zero _ _ hs w2 from ⟨hT2, .inr ⟨_, rfl, Nat.le_refl _, HHL.out ▸ hP2⟩⟩)
 obtain ⟨g2, hg2⟩ : ∃ g2, g2 = (w1.setCell ⟨w.heap.size + 1 + 1, 6, none⟩ (.slice (some ⟨g1, 0, none⟩) tl tl)).heap.size := ⟨_, rfl⟩
 have HG2 : Hid (g1 < g2) := hid_intro (by rw [hg2]; simpa using HG1b.out)
 rw [← hg2] at HM2 ⊢
 clear hg2
 replace HM1 := hid_intro (HM1.out.below hb2)
 replace HY1 := hid_intro (HY1.out.below hb2)
 replace HZ1 := hid_intro (HZ1.out.below hb2)
 replace HB1 := hid_intro (HB1.out.trans (hb2.mono HB1.out.size))
 clear hT2 hP2 hb2 x7 z6 f6 xl zl
 obtain ⟨⟨zl, zk⟩, zf⟩ := HZ1.out
 have z0 : w2.cell? ⟨w.heap.size + 1 + 1, 0, none⟩ = some (.string a) := zk 0 (by simp)
 have z1 : w2.cell? ⟨w.heap.size + 1 + 1, 1, none⟩ = some (.string m) := zk 1 (by simp)
 have z2 : w2.cell? ⟨w.heap.size + 1 + 1, 2, none⟩ = some (.int .i64 mo) := zk 2 (by simp)
 have z3 : w2.cell? ⟨w.heap.size + 1 + 1, 3, none⟩ = some (.int .i64 ev) := zk 3 (by simp)
 have z4 : w2.cell? ⟨w.heap.size + 1 + 1, 4, none⟩ = some (.int .i64 su) := zk 4 (by simp)
 have z5 : w2.cell? ⟨w.heap.size + 1 + 1, 5, none⟩ = some (.int .i64 mx) := zk 5 (by simp)
 have z6 : w2.cell? ⟨w.heap.size + 1 + 1, 6, none⟩ = some (.slice (some ⟨g1, 0, none⟩) tl tl) := zk 6 (by simp)
 have z7 : w2.cell? ⟨w.heap.size + 1 + 1, 7, none⟩ = some (.slice none 0 0) := zk 7 (by simp)
 have f7 : w2.frozen? ⟨w.heap.size + 1 + 1, 7, none⟩ = false := zf 7 (by simp)
 obtain ⟨⟨yl, yk⟩, yf⟩ := HY1.out
 have y0 : w2.cell? ⟨w.heap.size + 1, 0, none⟩ = some (.string ⟨#[]⟩) := yk 0 (by simp)
 have q0 : w2.frozen? ⟨w.heap.size + 1, 0, none⟩ = false := yf 0 (by simp)
 have y1 : w2.cell? ⟨w.heap.size + 1, 1, none⟩ = some (.string ⟨#[]⟩) := yk 1 (by simp)
 have q1 : w2.frozen? ⟨w.heap.size + 1, 1, none⟩ = false := yf 1 (by simp)
 have y2 : w2.cell? ⟨w.heap.size + 1, 2, none⟩ = some (.int .i64 0) := yk 2 (by simp)
 have q2 : w2.frozen? ⟨w.heap.size + 1, 2, none⟩ = false := yf 2 (by simp)
 have y3 : w2.cell? ⟨w.heap.size + 1, 3, none⟩ = some (.int .i64 0) := yk 3 (by simp)
 have q3 : w2.frozen? ⟨w.heap.size + 1, 3, none⟩ = false := yf 3 (by simp)
 have y4 : w2.cell? ⟨w.heap.size + 1, 4, none⟩ = some (.int .i64 0) := yk 4 (by simp)
 have q4 : w2.frozen? ⟨w.heap.size + 1, 4, none⟩ = false := yf 4 (by simp)
 have y5 : w2.cell? ⟨w.heap.size + 1, 5, none⟩ = some (.int .i64 0) := yk 5 (by simp)
 have q5 : w2.frozen? ⟨w.heap.size + 1, 5, none⟩ = false := yf 5 (by simp)
 have y6 : w2.cell? ⟨w.heap.size + 1, 6, none⟩ = some (.slice none 0 0) := yk 6 (by simp)
 have q6 : w2.frozen? ⟨w.heap.size + 1, 6, none⟩ = false := yf 6 (by simp)
 have y7 : w2.cell? ⟨w.heap.size + 1, 7, none⟩ = some (.slice none 0 0) := yk 7 (by simp)
 have q7 : w2.frozen? ⟨w.heap.size + 1, 7, none⟩ = false := yf 7 (by simp)
 clear zk zf yk yf HY1 HZ1
 have HN1 : Hid (∀ b off, (some ⟨g1, 0, none⟩ : Option Addr) = some ⟨b, off, none⟩ → ∀ g, g ≤ w.heap.size + 1 + 1 → b ≠ g) := hid_intro (fun b off e g hg => by simp at e; have := HG1.out; omega)
 have HN2 : Hid (∀ b off, (some ⟨g2, 0, none⟩ : Option Addr) = some ⟨b, off, none⟩ → ∀ g, g ≤ w.heap.size + 1 + 1 → b ≠ g) := hid_intro (fun b off e g hg => by simp at e; have := HG1.out; have := HG2.out; omega)
 go_wp2_with fail
 refine bodyPost_ret (v := .agg #[.string a, .string m, .int .i64 mo, .int .i64 ev, .int .i64 su, .int .i64 mx, .slice (some ⟨g1, 0, none⟩) tl tl, .slice (some ⟨g2, 0, none⟩) hl hl]) (by simp [results, Tryd.results8, go_sem, y0, y1, y2, y3, y4, y5, y6, y7]) rfl ⟨_, rfl, HF.out _ g1 g2 (by have := HG1.out; omega) (by have := HG1.out; have := HG2.out; omega) (by have := HG2.out; omega) ?_ ?_, ?_⟩
 ·exact (MadeG.put (MadeG.put (MadeG.put (MadeG.put (MadeG.put (MadeG.put (MadeG.put (MadeG.put (MadeG.put HM1.out _ _ _ (.inr (fun b off e => HN1.out b off e _ (by omega)))) _ _ _ (.inr (fun b off e => HN1.out b off e _ (by omega)))) _ _ _ (.inr (fun b off e => HN1.out b off e _ (by omega)))) _ _ _ (.inr (fun b off e => HN1.out b off e _ (by omega)))) _ _ _ (.inr (fun b off e => HN1.out b off e _ (by omega)))) _ _ _ (.inr (fun b off e => HN1.out b off e _ (by omega)))) _ _ _ (.inr (fun b off e => HN1.out b off e _ (by omega)))) _ _ _ (.inr (fun b off e => HN1.out b off e _ (by omega)))) _ _ _ (.inr (fun b off e => HN1.out b off e _ (by omega))))
 ·exact (MadeG.put (MadeG.put (MadeG.put (MadeG.put (MadeG.put (MadeG.put (MadeG.put (MadeG.put (MadeG.put HM2.out _ _ _ (.inr (fun b off e => HN2.out b off e _ (by omega)))) _ _ _ (.inr (fun b off e => HN2.out b off e _ (by omega)))) _ _ _ (.inr (fun b off e => HN2.out b off e _ (by omega)))) _ _ _ (.inr (fun b off e => HN2.out b off e _ (by omega)))) _ _ _ (.inr (fun b off e => HN2.out b off e _ (by omega)))) _ _ _ (.inr (fun b off e => HN2.out b off e _ (by omega)))) _ _ _ (.inr (fun b off e => HN2.out b off e _ (by omega)))) _ _ _ (.inr (fun b off e => HN2.out b off e _ (by omega)))) _ _ _ (.inr (fun b off e => HN2.out b off e _ (by omega))))
 ·exact (((((((((HB1.out.setCell (by simp; omega) _).setCell (by simp) _).setCell (by simp) _).setCell (by simp) _).setCell (by simp) _).setCell (by simp) _).setCell (by simp) _).setCell (by simp) _).setCell (by simp) _)
theorem toW_any (v : Value) (x : Wd) (w : World) (ht : x.ts.length ≤ 1048576) (hh : x.hs.length ≤ 1048576) (h : IsWd v x w) :
  Calls Tryd.prog 8 #[v] w fun e w' => ∃ v', e = .returned v' ∧ MadeW w.heap.size x v' w' ∧ Below w.heap.size w w' := by
 obtain ⟨ta, tc, ha, hc, rfl, hT, hH⟩ := h
 exact toW_in x.a x.m x.mo x.ev x.su x.mx ta x.ts tc ha x.hs hc w ht hh hT hH
set_option maxRecDepth 100000 in
set_option maxHeartbeats 8000000 in
theorem eqW_in (a m : ByteArray) (mo ev su mx : Int) (ta : Option Addr) (tl tc : Nat) (ha : Option Addr) (hl hc : Nat) (ta' : Option Addr) (tc' : Nat) (ha' : Option Addr) (hc' : Nat) (w : World)
  (h1 : ∀ W, Below w.heap.size w W → Calls Tryd.prog 29 #[.slice ta tl tc, .slice ta' tl tc'] W fun e w' => e = .returned (.bool true) ∧ Below W.heap.size W w')
  (h2 : ∀ W, Below w.heap.size w W → Calls Tryd.prog 30 #[.slice ha hl hc, .slice ha' hl hc'] W fun e w' => e = .returned (.bool true) ∧ Below W.heap.size W w') :
  Calls Tryd.prog 12 #[.agg #[.string a, .string m, .int .i64 mo, .int .i64 ev, .int .i64 su, .int .i64 mx, .slice ta tl tc, .slice ha hl hc], .agg #[.string a, .string m, .int .i64 mo, .int .i64 ev, .int .i64 su, .int .i64 mx, .slice ta' tl tc', .slice ha' hl hc']] w fun e w' => e = .returned (.bool true) ∧ Below w.heap.size w w' := by
 have H1 := hid_intro h1
 have H2 := hid_intro h2
 have HB0 : Hid (Below w.heap.size w ((w.alloc (.cells #[.string a, .string m, .int .i64 mo, .int .i64 ev, .int .i64 su, .int .i64 mx, .slice ta tl tc, .slice ha hl hc] 32)).alloc (.cells #[.string a, .string m, .int .i64 mo, .int .i64 ev, .int .i64 su, .int .i64 mx, .slice ta' tl tc', .slice ha' hl hc'] 32))) := hid_intro (((Below.refl _ _).alloc (Nat.le_refl _) _).alloc (by simp) _)
 have HX0 := hid_intro ((Blk.new w [.string a, .string m, .int .i64 mo, .int .i64 ev, .int .i64 su, .int .i64 mx, .slice ta tl tc, .slice ha hl hc] 32).below ((Below.refl _ _).alloc (Nat.le_refl _) (Obj.cells #[.string a, .string m, .int .i64 mo, .int .i64 ev, .int .i64 su, .int .i64 mx, .slice ta' tl tc', .slice ha' hl hc'] 32)))
 have HY0 := hid_intro (Blk.new (w.alloc (.cells #[.string a, .string m, .int .i64 mo, .int .i64 ev, .int .i64 su, .int .i64 mx, .slice ta tl tc, .slice ha hl hc] 32)) [.string a, .string m, .int .i64 mo, .int .i64 ev, .int .i64 su, .int .i64 mx, .slice ta' tl tc', .slice ha' hl hc'] 32)
 have e1 : (w.alloc (.cells #[.string a, .string m, .int .i64 mo, .int .i64 ev, .int .i64 su, .int .i64 mx, .slice ta tl tc, .slice ha hl hc] 32)).heap.size = w.heap.size + 1 := by simp
 rw [e1] at HY0
 clear e1 h1 h2
 go_enter Tryd.func12, Tryd.ntmps12
 go_wp2_with fail
 refine (H1.out _ HB0.out).mono ?_
 rintro e w1 ⟨rfl, hb1⟩
 have HB1 := hid_intro (HB0.out.trans (hb1.mono HB0.out.size))
 have HX1 := hid_intro (HX0.out.below hb1)
 have HY1 := hid_intro (HY0.out.below hb1)
 obtain ⟨xl, xc⟩ := HX1.out
 have x7 : w1.cell? ⟨w.heap.size, 7, none⟩ = some (.slice ha hl hc) := xc 7 (by simp)
 obtain ⟨yl, yc⟩ := HY1.out
 have y7 : w1.cell? ⟨w.heap.size + 1, 7, none⟩ = some (.slice ha' hl hc') := yc 7 (by simp)
 clear xc yc hb1
 go_wp2_with fail
 refine (H2.out _ HB1.out).mono ?_
 rintro e w2 ⟨rfl, hb2⟩
 have HB2 := hid_intro (HB1.out.trans (hb2.mono HB1.out.size))
 clear hb2
 go_wp2_with fail
 go_ret
 exact ⟨rfl, HB2.out⟩
theorem eqW_any (v v' : Value) (x : Wd) (w : World) (ht : x.ts.length ≤ 1048576) (hh : x.hs.length ≤ 1048576) (h : IsWd v x w) (h' : IsWd v' x w) :
  Calls Tryd.prog 12 #[v, v'] w fun e w' => e = .returned (.bool true) ∧ Below w.heap.size w w' := by
 obtain ⟨ta, tc, ha, hc, rfl, hT, hH⟩ := h
 obtain ⟨ta', tc', ha', hc', rfl, hT', hH'⟩ := h'
 exact eqW_in x.a x.m x.mo x.ev x.su x.mx ta x.ts.length tc ha x.hs.length hc ta' tc' ha' hc' w (fun W hW => eqTs_any ta ta' tc tc' x.ts W ht (hT.below hW) (hT'.below hW)) (fun W hW => eqHs_any ha ha' hc hc' x.hs W hh (hH.below hW) (hH'.below hW))
end WinR
end Go.Proofs.YtnlmpejgiakepaaDoor
namespace Go.Proofs.YtnlmpejgiakepaaDoor
namespace WinR
def wz : Wd := ⟨⟨#[]⟩, ⟨#[]⟩, 0, 0, 0, 0, [], []⟩
end WinR
end Go.Proofs.YtnlmpejgiakepaaDoor
namespace Go.Proofs.YtnlmpejgiakepaaDoor
open Go.ChangeShapes Go.WideShapes Go.ChangeAt Go.RowKit
set_option linter.unusedVariables false
namespace WinR
open RowG (MadeG Rws)
/-- What is handed back, as cells. -/
def ocells (z : Wd) (ta : Option Addr) (tc : Nat) (ha : Option Addr) (hc : Nat) (cd : Int) : Array Value := #[.string z.a, .string z.m, .int .i64 z.mo, .int .i64 z.ev, .int .i64 z.su, .int .i64 z.mx, .slice ta z.ts.length tc, .slice ha z.hs.length hc, .int .i64 cd]
/-- An answer whose lists lie in blocks from base on. -/
def NewO (base : Nat) (z : Wd) (cd : Int) (v : Value) (w : World) : Prop := ∃ ta tc ha hc, v = .agg (ocells z ta tc ha hc cd) ∧ Tgs ta z.ts w ∧ Hrs ha z.hs w ∧ (z.ts.length = 0 ∨ ∀ b off, ta = some ⟨b, off, none⟩ → base ≤ b) ∧ (z.hs.length = 0 ∨ ∀ b off, ha = some ⟨b, off, none⟩ → base ≤ b)
/-- An answer of one's own. -/
def MadeO (base : Nat) (z : Wd) (cd : Int) (v : Value) (w : World) : Prop := ∃ ta tc ha hc, v = .agg (ocells z ta tc ha hc cd) ∧ MadeG 1 tcells tz base ta z.ts w ∧ MadeG 2 H.cells H.zero base ha z.hs w ∧ Apart ta ha z.ts.length z.hs.length
theorem wz_new_o (base : Nat) (cd : Int) (w : World) : NewO base wz cd (.agg #[.string ⟨#[]⟩, .string ⟨#[]⟩, .int .i64 0, .int .i64 0, .int .i64 0, .int .i64 0, .slice none 0 0, .slice none 0 0, .int .i64 cd]) w :=
 ⟨none, 0, none, 0, rfl, .inl rfl, .inl rfl, .inl rfl, .inl rfl⟩
theorem wz_made_o (base : Nat) (cd : Int) (w : World) : MadeO base wz cd (.agg #[.string ⟨#[]⟩, .string ⟨#[]⟩, .int .i64 0, .int .i64 0, .int .i64 0, .int .i64 0, .slice none 0 0, .slice none 0 0, .int .i64 cd]) w :=
 ⟨none, 0, none, 0, rfl, ⟨.inl rfl, .inl rfl⟩, ⟨.inl rfl, .inl rfl⟩, .inl rfl⟩
end WinR
end Go.Proofs.YtnlmpejgiakepaaDoor
namespace Go.Proofs.YtnlmpejgiakepaaDoor
open Go.ChangeShapes Go.WideShapes Go.ChangeAt Go.RowKit
set_option linter.unusedVariables false
namespace MarkR
theorem hid_intro {p : Prop} (h : p) : Hid p := h
theorem conv_m (w : World) (z : Int) : (convert 118 9 (.slice (some ⟨w.heap.size, 0, none⟩) 1 1)).run Tryd.prog (w.alloc (Obj.cells #[.int .u8 z] 5)) = .ok (.string (strOfNums [z])) (w.alloc (Obj.cells #[.int .u8 z] 5)) := by
 refine run_convert_bytes_arg _ 118 5 Tryd.underlying118 Tryd.underlying5 w.heap.size 0 1 1 _ rfl ?_ 9 Tryd.underlying9
 intro i hi
 match i, hi with
 | 0, _ => simp [go_sem]
/-- The digits put ahead of a text. -/
def mk : Nat → Nat → ByteArray → ByteArray
 | 0, _, out => out
 | f + 1, k, out => if k = 0 then out else mk f (k / 10) (strOfNums [48 + ((k % 10 : Nat) : Int)] ++ out)
def mT (k : Nat) : ByteArray := (⟨#[109]⟩ : ByteArray) ++ mk 9 k ⟨#[]⟩
set_option maxRecDepth 100000 in
set_option maxHeartbeats 4000000 in
theorem mark_any (K : Nat) (h0 : 1 ≤ K) (h : K < 100000000) (w : World) : Calls Tryd.prog 63 #[.int .i64 K] w fun e w' => e = .returned (.string (mT K)) ∧ Below w.heap.size w w' := by
 have h1 : ¬ (K : Int) ≤ 0 := by omega
 have HT : Hid (mT K = (⟨#[109]⟩ : ByteArray) ++ mk 9 K ⟨#[]⟩) := rfl
 generalize mT K = R at *
 go_enter Tryd.func63, Tryd.ntmps63
 go_wp2_with fail
 go_loopw [0, 3] (fun x z wr => ∃ (f k : Nat) (out : ByteArray), x = .int .i64 (k : Int) ∧ z = .string out ∧ k < 10 ^ f ∧ f ≤ 9 ∧ Hid (mk 9 K ⟨#[]⟩ = mk f k out) ∧ out.size + f = 9 ∧ Hid (Below w.heap.size w wr)) (fun x _ _ => (intOf x).toNat)
 case atStart => exact ⟨9, K, ⟨#[]⟩, rfl, rfl, by omega, by omega, rfl, rfl, hid_intro (Below.refl _ _)⟩
 case round =>
  obtain ⟨f, k, out, rfl, rfl, hk, hf, HD, hz, HB⟩ := hrel
  by_cases hk0 : k = 0
  ·subst hk0
   have HO : Hid (R = (⟨#[109]⟩ : ByteArray) ++ out) := hid_intro (by rw [HT.out, HD.out]; cases f <;> simp [mk])
   have q1 : ¬ 9223372036854775807 < 1 + out.size := by omega
   go_wp2_with fail
   go_ret
   exact ⟨ret_str HO.out.symm, HB.out⟩
  ·obtain ⟨g, rfl⟩ : ∃ g, f = g + 1 := ⟨f - 1, by rcases f with _ | f; simp at hk; omega; omega⟩
   have hk2 : k / 10 < 10 ^ g := by rw [Nat.pow_succ] at hk; omega
   have HD2 : Hid (mk 9 K ⟨#[]⟩ = mk g (k / 10) (strOfNums [48 + ((k % 10 : Nat) : Int)] ++ out)) := hid_intro (by rw [HD.out, mk, if_neg hk0])
   have hkb : k < 1000000000 := by
    have : 10 ^ (g + 1) ≤ 10 ^ 9 := Nat.pow_le_pow_right (by omega) hf
    omega
   have k1 : (0 : Int) < (k : Int) := by omega
   have e1 : (k : Int) % 10 = ((k % 10 : Nat) : Int) := by omega
   have e2 : (k : Int) / 10 = ((k / 10 : Nat) : Int) := by omega
   have e3 : (k : Int).tmod 10 = ((k % 10 : Nat) : Int) := by rw [Int.tmod_eq_emod_of_nonneg (by omega)]; omega
   have e4 : (k : Int).tdiv 10 = ((k / 10 : Nat) : Int) := by rw [Int.tdiv_eq_ediv_of_nonneg (by omega)]; omega
   have d10 : k % 10 < 10 := by omega
   have dk : k / 10 < k := by omega
   have hC : (strOfNums [48 + ((k % 10 : Nat) : Int)]).size = 1 := strOfNums_size _
   have hcv := conv_m wr (48 + ((k % 10 : Nat) : Int))
   generalize k % 10 = d at *
   generalize k / 10 = q at *
   generalize strOfNums [48 + (d : Int)] = T at *
   have q1 : ¬ 9223372036854775807 < T.size + out.size := by omega
   have HDk := hid_intro dk
   clear dk hk HD
   go_wp2_with fail
   go_roundw
   case rel => exact ⟨g, q, T ++ out, rfl, rfl, hk2, by omega, HD2, by rw [ByteArray.size_append]; omega, hid_intro (HB.out.alloc HB.out.size _)⟩
   case measure => simp [intOf]; have := HDk.out; omega
end MarkR
end Go.Proofs.YtnlmpejgiakepaaDoor
namespace Go.Proofs.YtnlmpejgiakepaaDoor
open Go.ChangeShapes Go.WideShapes Go.ChangeAt Go.RowKit
set_option linter.unusedVariables false
namespace WinR
open RowG (Wr MadeG grown_set)
open EvtR (Pt)
open CatR (Blk Blk.new)
open MarkR (mk mT mark_any)
/-- Only blocks between two numbers are written. -/
structure Outs (base top : Nat) (w w' : World) : Prop where
 os : w'.os = w.os
 tape : w'.tape = w.tape
 output : w'.output = w.output
 size : w.heap.size ≤ w'.heap.size
 block : ∀ k, k < w.heap.size → k < base ∨ top ≤ k → w'.heap[k]? = w.heap[k]?
theorem Outs.refl (base top : Nat) (w : World) : Outs base top w w := ⟨rfl, rfl, rfl, Nat.le_refl _, fun _ _ _ => rfl⟩
theorem Outs.trans {base top : Nat} {w w1 w2 : World} (h : Outs base top w w1) (h2 : Outs base top w1 w2) : Outs base top w w2 :=
 ⟨h2.os.trans h.os, h2.tape.trans h.tape, h2.output.trans h.output, Nat.le_trans h.size h2.size, fun k hk hn => (h2.block k (Nat.lt_of_lt_of_le hk h.size) hn).trans (h.block k hk hn)⟩
theorem Outs.below {base top : Nat} {w w1 w2 : World} (h : Outs base top w w1) (hb : Below w1.heap.size w1 w2) : Outs base top w w2 :=
 h.trans ⟨hb.os, hb.tape, hb.output, hb.size, fun k hk _ => hb.block k hk⟩
theorem Outs.grown {base top : Nat} {w w1 w2 : World} {g : Nat} (h : Outs base top w w1) (hg : w1.grownBy w2 (some g)) (h1 : base ≤ g) (h2 : g < top) : Outs base top w w2 :=
 h.trans ⟨hg.os, hg.tape, hg.output, hg.size, fun k hk hn => hg.block k hk (by simp; omega)⟩
theorem Outs.bel {base top : Nat} {w w' : World} (h : Outs base top w w') {B : Nat} (hB : B ≤ base) (hw : B ≤ w.heap.size) : Below B w w' :=
 ⟨h.os, h.tape, h.output, by have := h.size; omega, fun k hk => h.block k (by omega) (.inl (by omega))⟩
theorem Outs.blkw {base top b : Nat} {cs : List Value} {w w' : World} (h : Outs base top w w') (hp : BlkW b cs w) (hg : b < base ∨ top ≤ b) : BlkW b cs w' := by
 have e := h.block b hp.1.1 hg
 exact ⟨⟨Nat.lt_of_lt_of_le hp.1.1 h.size, fun i hi => (World.cell?_of_block (a := ⟨b, i, none⟩) e).trans (hp.1.2 i hi)⟩, fun i hi => (World.frozen?_of_block (a := ⟨b, i, none⟩) e).trans (hp.2 i hi)⟩
theorem Outs.blk {base top b : Nat} {cs : List Value} {w w' : World} (h : Outs base top w w') (hp : Blk b cs w) (hg : b < base ∨ top ≤ b) : Blk b cs w' := by
 have e := h.block b hp.1 hg
 exact ⟨Nat.lt_of_lt_of_le hp.1 h.size, fun i hi => (World.cell?_of_block (a := ⟨b, i, none⟩) e).trans (hp.2 i hi)⟩
theorem gtrans {w w1 w2 : World} {g : Option Nat} (h1 : w.grownBy w1 g) (h2 : w1.grownBy w2 g) : w.grownBy w2 g :=
 ⟨h2.os.trans h1.os, h2.tape.trans h1.tape, h2.output.trans h1.output, Nat.le_trans h1.size h2.size, fun k hk hne => (h2.block k (by have := h1.size; omega) hne).trans (h1.block k hk hne)⟩
theorem rgrown {w w' : World} (hb : Below w.heap.size w w') (row : Option Nat) : w.grownBy w' row := ⟨hb.os, hb.tape, hb.output, hb.size, fun k hk _ => hb.block k hk⟩
/-- The cells of marked tags, of marked hours. -/
def mtC (K o : Nat) : Option Value := some (.string (mT (K + o)))
def mhC (K o : Nat) : Option Value := some (.int .i64 ((K + o : Nat) : Int))
theorem mark_st {f : Nat → Option Value} {g m j : Nat} {w0 w : World} (hp : Pt g m w) (hm : Wr f j g w) (hg : w0.grownBy w (some g)) (hj : j < m) (v : Value) (hv : f j = some v) :
  Pt g m (w.setCell ⟨g, j, none⟩ v) ∧ Wr f (j + 1) g (w.setCell ⟨g, j, none⟩ v) ∧ w0.grownBy (w.setCell ⟨g, j, none⟩ v) (some g) :=
 ⟨hp.set _ _, hm.more hp hj v hv, gtrans hg (grown_set _ g _ _)⟩
set_option maxRecDepth 100000 in
set_option maxHeartbeats 4000000 in
theorem markT (g n cap K : Nat) (w : World) (hn : n ≤ 1048576) (hK : 1 ≤ K ∧ K ≤ 10000000) (h0 : Pt g n w) :
  Calls Tryd.prog 31 #[.slice (some ⟨g, 0, none⟩) n cap, .int .i64 K] w fun e w' => e = .returned (.int .i64 (K + n : Nat)) ∧ Pt g n w' ∧ Wr (mtC K) n g w' ∧ w.grownBy w' (some g) := by
 have HP := hid_intro h0
 obtain ⟨k1, k2⟩ := hK
 have HT : Hid (∀ (z : Int) (L : Nat), z = L → 1 ≤ L → L < 100000000 → ∀ w, Calls Tryd.prog 63 #[.int .i64 z] w fun e w' => e = .returned (.string (mT L)) ∧ Below w.heap.size w w') := hid_intro (fun z L e h0 h w => by subst e; exact mark_any L h0 h w)
 clear h0
 go_enter Tryd.func31, Tryd.ntmps31
 go_wp2_with fail
 go_loopw [5, 1] (fun x z wr => ∃ i : Nat, x = .int .i64 (i : Int) ∧ z = .int .i64 ((K : Int) + (i : Int)) ∧ i ≤ n ∧ Hid (Pt g n wr) ∧ Hid (Wr (mtC K) i g wr) ∧ Hid (w.grownBy wr (some g))) (fun x _ _ => n - (intOf x).toNat)
 case atStart => exact ⟨0, rfl, by simp, by omega, HP, hid_intro (fun o ho => absurd ho (by omega)), hid_intro ⟨rfl, rfl, rfl, Nat.le_refl _, fun _ _ _ => rfl⟩⟩
 case round =>
  obtain ⟨i, rfl, rfl, hi, HP, HM, HG⟩ := hrel
  by_cases hin : i = n
  ·subst hin
   go_wp2_with fail
   go_ret
   exact ⟨by go_num, HP.out, HM.out, HG.out⟩
  ·have h1 : (i : Int) < (n : Int) := by omega
   go_wp2_with fail
   refine (HT.out _ (K + i) (by push_cast; omega) (by omega) (by omega) _).mono ?_
   rintro e w1 ⟨rfl, hb⟩
   have HP1 := hid_intro (HP.out.below hb)
   have HM1 := hid_intro (HM.out.below HP.out hb)
   have HG1 := hid_intro (gtrans HG.out (rgrown hb _))
   obtain ⟨v0, c0⟩ := HP1.out.has i (by omega)
   have f0 := HP1.out.free i (by omega)
   have HS := hid_intro (mark_st HP1.out HM1.out HG1.out (by omega) (.string (mT (K + i))) rfl)
   clear hb HP HM HG HP1 HM1 HG1
   go_wp2_with fail
   go_roundw
   case rel => exact ⟨i + 1, by go_num, by (congr 1) <;> omega, by omega, hid_intro HS.out.1, hid_intro HS.out.2.1, hid_intro HS.out.2.2⟩
   case measure => simp [intOf]; omega
set_option maxRecDepth 100000 in
set_option maxHeartbeats 4000000 in
theorem markH (g n cap K : Nat) (w : World) (hn : n ≤ 1048576) (hK : 1 ≤ K ∧ K ≤ 20000000) (h0 : Pt g (n * 2) w) :
  Calls Tryd.prog 32 #[.slice (some ⟨g, 0, none⟩) n cap, .int .i64 K] w fun e w' => e = .returned (.int .i64 (K + 2 * n : Nat)) ∧ Pt g (n * 2) w' ∧ Wr (mhC K) (n * 2) g w' ∧ w.grownBy w' (some g) := by
 have HP := hid_intro h0
 obtain ⟨k1, k2⟩ := hK
 clear h0
 go_enter Tryd.func32, Tryd.ntmps32
 go_wp2_with fail
 go_loopw [5, 1] (fun x z wr => ∃ i : Nat, x = .int .i64 (i : Int) ∧ z = .int .i64 ((K : Int) + 2 * (i : Int)) ∧ i ≤ n ∧ Hid (Pt g (n * 2) wr) ∧ Hid (Wr (mhC K) (i * 2) g wr) ∧ Hid (w.grownBy wr (some g))) (fun x _ _ => n - (intOf x).toNat)
 case atStart => exact ⟨0, rfl, by simp, by omega, HP, hid_intro (fun o ho => absurd ho (by omega)), hid_intro ⟨rfl, rfl, rfl, Nat.le_refl _, fun _ _ _ => rfl⟩⟩
 case round =>
  obtain ⟨i, rfl, rfl, hi, HP, HM, HG⟩ := hrel
  by_cases hin : i = n
  ·subst hin
   go_wp2_with fail
   go_ret
   exact ⟨by go_num, HP.out, HM.out, HG.out⟩
  ·have h1 : (i : Int) < (n : Int) := by omega
   obtain ⟨v0, c0⟩ := HP.out.has (i * 2) (by omega)
   have f0 := HP.out.free (i * 2) (by omega)
   obtain ⟨v1, c1⟩ := HP.out.has (i * 2 + 1) (by omega)
   have f1 := HP.out.free (i * 2 + 1) (by omega)
   have HS := hid_intro (mark_st HP.out HM.out HG.out (by omega) (.int .i64 ((K : Int) + 2 * (i : Int))) (by unfold mhC; congr 2; push_cast; omega))
   have HS2 := hid_intro (mark_st HS.out.1 HS.out.2.1 HS.out.2.2 (by omega) (.int .i64 ((K : Int) + 2 * (i : Int) + 1)) (by unfold mhC; congr 2; push_cast; omega))
   clear HP HM HG HS
   go_wp2_with fail
   go_roundw
   case rel => exact ⟨i + 1, by go_num, by (congr 1) <;> omega, by omega, hid_intro HS2.out.1, hid_intro (by rw [show (i + 1) * 2 = i * 2 + 1 + 1 by omega]; exact HS2.out.2.1), hid_intro HS2.out.2.2⟩
   case measure => simp [intOf]; omega
/-- What a round of the marked tags reads. -/
def MTx (w : World) (g o : Nat) (t0 : ByteArray) (W : World) : Prop := Below w.heap.size w W ∧ g < W.heap.size ∧ W.cell? ⟨g, o, none⟩ = some (.string t0)
theorem MTx.below {w w1 w2 : World} {g o : Nat} {t0 : ByteArray} (h : MTx w g o t0 w1) (hb : Below w1.heap.size w1 w2) : MTx w g o t0 w2 :=
 ⟨h.1.trans (hb.mono h.1.size), Nat.lt_of_lt_of_le h.2.1 hb.size, (hb.cell (p := ⟨g, o, none⟩) h.2.1).trans h.2.2⟩
set_option maxRecDepth 100000 in
set_option maxHeartbeats 4000000 in
theorem heldT (g n cap K : Nat) (w : World) (hn : n ≤ 1048576) (hK : 1 ≤ K ∧ K ≤ 10000000) (h0 : g < w.heap.size) (hm : Wr (mtC K) n g w) :
  Calls Tryd.prog 64 #[.slice (some ⟨g, 0, none⟩) n cap, .int .i64 K] w fun e w' => e = .returned (.int .i64 (K + n : Nat)) ∧ Below w.heap.size w w' := by
 have HP := hid_intro h0
 have HM := hid_intro hm
 obtain ⟨k1, k2⟩ := hK
 clear h0 hm
 go_enter Tryd.func64, Tryd.ntmps64
 go_wp2_with fail
 go_loopw [5, 1] (fun x z wr => ∃ i : Nat, x = .int .i64 (i : Int) ∧ z = .int .i64 ((K : Int) + (i : Int)) ∧ i ≤ n ∧ Hid (Below w.heap.size w wr)) (fun x _ _ => n - (intOf x).toNat)
 case atStart => exact ⟨0, rfl, by simp, by omega, hid_intro (Below.refl _ _)⟩
 case round =>
  obtain ⟨i, rfl, rfl, hi, HB⟩ := hrel
  by_cases hin : i = n
  ·subst hin
   go_wp2_with fail
   go_ret
   exact ⟨by go_num, HB.out⟩
  ·have h1 : (i : Int) < (n : Int) := by omega
   have q0 : wr.cell? ⟨g, i, none⟩ = some (.string (mT (K + i))) := (HB.out.cell (p := ⟨g, i, none⟩) HP.out).trans (HM.out i (by omega))
   have HT0 : Hid (∀ w, Calls Tryd.prog 63 #[.int .i64 ((K : Int) + (i : Int))] w fun e w' => e = .returned (.string (mT (K + i))) ∧ Below w.heap.size w w') := hid_intro (fun w => by have := mark_any (K + i) (by omega) (by omega) w; rw [show ((K + i : Nat) : Int) = (K : Int) + (i : Int) by omega] at this; exact this)
   generalize mT (K + i) = T0 at *
   have hgl : g < wr.heap.size := Nat.lt_of_lt_of_le HP.out HB.out.size
   have HS0 : Hid (MTx w g i T0 wr.drew) := hid_intro (MTx.below ⟨HB.out, hgl, q0⟩ (Below.refl _ _).drew)
   go_wp2_with fail
   go_region_held3 (fun w' => Below w.heap.size w w' ∧ g < w'.heap.size ∧ w'.cell? ⟨g, i, none⟩ = some (.string T0)) (first | assumption | (exact HS0.out) | (exact MTx.below (w := w) (g := g) (o := i) (t0 := T0) (by assumption) hb))
    (first | (go_at_call 63; refine (HT0.out _).mono ?_; rintro e w' ⟨rfl, hb⟩))
   rename_i hS
   have HB2 := hid_intro hS.1
   clear hS HS0 q0
   go_wp2_with fail
   go_roundw
   case rel => exact ⟨i + 1, by go_num, by (congr 1) <;> omega, by omega, HB2⟩
   case measure => simp [intOf]; omega
set_option maxRecDepth 100000 in
set_option maxHeartbeats 4000000 in
theorem heldH (g n cap K : Nat) (w : World) (hn : n ≤ 1048576) (hK : 1 ≤ K ∧ K ≤ 20000000) (h0 : g < w.heap.size) (hm : Wr (mhC K) (n * 2) g w) :
  Calls Tryd.prog 65 #[.slice (some ⟨g, 0, none⟩) n cap, .int .i64 K] w fun e w' => e = .returned (.int .i64 (K + 2 * n : Nat)) ∧ Below w.heap.size w w' := by
 have HP := hid_intro h0
 have HM := hid_intro hm
 obtain ⟨k1, k2⟩ := hK
 clear h0 hm
 go_enter Tryd.func65, Tryd.ntmps65
 go_wp2_with fail
 go_loopw [5, 1] (fun x z wr => ∃ i : Nat, x = .int .i64 (i : Int) ∧ z = .int .i64 ((K : Int) + 2 * (i : Int)) ∧ i ≤ n ∧ Hid (Below w.heap.size w wr)) (fun x _ _ => n - (intOf x).toNat)
 case atStart => exact ⟨0, rfl, by simp, by omega, hid_intro (Below.refl _ _)⟩
 case round =>
  obtain ⟨i, rfl, rfl, hi, HB⟩ := hrel
  by_cases hin : i = n
  ·subst hin
   go_wp2_with fail
   go_ret
   exact ⟨by go_num, HB.out⟩
  ·have h1 : (i : Int) < (n : Int) := by omega
   have q0 : wr.cell? ⟨g, i * 2, none⟩ = some (.int .i64 ((K : Int) + 2 * (i : Int))) := ((HB.out.cell (p := ⟨g, i * 2, none⟩) HP.out).trans (HM.out (i * 2) (by omega))).trans (by unfold mhC; congr 2; push_cast; omega)
   have q1 : wr.cell? ⟨g, i * 2 + 1, none⟩ = some (.int .i64 ((K : Int) + 2 * (i : Int) + 1)) := ((HB.out.cell (p := ⟨g, i * 2 + 1, none⟩) HP.out).trans (HM.out (i * 2 + 1) (by omega))).trans (by unfold mhC; congr 2; push_cast; omega)
   go_wp2_with fail
   try (go_quiet (fail); go_wp2_with fail)
   go_roundw
   case rel => exact ⟨i + 1, by go_num, by (congr 1) <;> omega, by omega, hid_intro (by first | exact HB.out | exact bdN HB.out _)⟩
   case measure => simp [intOf]; omega
set_option maxHeartbeats 4000000 in
theorem nil_any (f : Nat) (hf : f = 31 ∨ f = 32 ∨ f = 64 ∨ f = 65) (ao : Option Addr) (cap K : Nat) (w : World) (hK : K ≤ 20000000) : Calls Tryd.prog f #[.slice ao 0 cap, .int .i64 K] w fun e w' => e = .returned (.int .i64 K) ∧ Below w.heap.size w w' := by
 rcases hf with rfl | rfl | rfl | rfl
 ·go_enter Tryd.func31, Tryd.ntmps31
  go_wp2_with fail
  go_loopw [5, 1] (fun x z wr => x = .int .i64 0 ∧ z = .int .i64 (K : Int) ∧ Hid (Below w.heap.size w wr)) (fun x _ _ => 0)
  case atStart => exact ⟨rfl, rfl, hid_intro (Below.refl _ _)⟩
  case round =>
   obtain ⟨rfl, rfl, HB⟩ := hrel
   go_wp2_with fail
   go_ret
   exact ⟨rfl, HB.out⟩
 ·go_enter Tryd.func32, Tryd.ntmps32
  go_wp2_with fail
  go_loopw [5, 1] (fun x z wr => x = .int .i64 0 ∧ z = .int .i64 (K : Int) ∧ Hid (Below w.heap.size w wr)) (fun x _ _ => 0)
  case atStart => exact ⟨rfl, rfl, hid_intro (Below.refl _ _)⟩
  case round =>
   obtain ⟨rfl, rfl, HB⟩ := hrel
   go_wp2_with fail
   go_ret
   exact ⟨rfl, HB.out⟩
 ·go_enter Tryd.func64, Tryd.ntmps64
  go_wp2_with fail
  go_loopw [5, 1] (fun x z wr => x = .int .i64 0 ∧ z = .int .i64 (K : Int) ∧ Hid (Below w.heap.size w wr)) (fun x _ _ => 0)
  case atStart => exact ⟨rfl, rfl, hid_intro (Below.refl _ _)⟩
  case round =>
   obtain ⟨rfl, rfl, HB⟩ := hrel
   go_wp2_with fail
   go_ret
   exact ⟨rfl, HB.out⟩
 ·go_enter Tryd.func65, Tryd.ntmps65
  go_wp2_with fail
  go_loopw [5, 1] (fun x z wr => x = .int .i64 0 ∧ z = .int .i64 (K : Int) ∧ Hid (Below w.heap.size w wr)) (fun x _ _ => 0)
  case atStart => exact ⟨rfl, rfl, hid_intro (Below.refl _ _)⟩
  case round =>
   obtain ⟨rfl, rfl, HB⟩ := hrel
   go_wp2_with fail
   go_ret
   exact ⟨rfl, HB.out⟩
/-- The marks stand in the window's lists. -/
def MkdW (ta ha : Option Addr) (tl hl K : Nat) (w : World) : Prop := (tl = 0 ∨ ∃ g, ta = some ⟨g, 0, none⟩ ∧ Pt g tl w ∧ Wr (mtC K) tl g w) ∧ (hl = 0 ∨ ∃ g, ha = some ⟨g, 0, none⟩ ∧ Pt g (hl * 2) w ∧ Wr (mhC (K + tl)) (hl * 2) g w)
theorem MkdW.below {ta ha : Option Addr} {tl hl K : Nat} {w w' : World} (h : MkdW ta ha tl hl K w) (hb : Below w.heap.size w w') : MkdW ta ha tl hl K w' :=
 ⟨h.1.imp id (fun ⟨g, e, p, q⟩ => ⟨g, e, p.below hb, q.below p hb⟩), h.2.imp id (fun ⟨g, e, p, q⟩ => ⟨g, e, p.below hb, q.below p hb⟩)⟩
theorem pt_out {base top g m : Nat} {w w' : World} (h : Outs base top w w') (hp : Pt g m w) (hg : g < base ∨ top ≤ g) : Pt g m w' := by
 have e := h.block g hp.lt hg
 exact ⟨Nat.lt_of_lt_of_le hp.lt h.size, fun o ho => by obtain ⟨v, hv⟩ := hp.has o ho; exact ⟨v, (World.cell?_of_block (a := ⟨g, o, none⟩) e).trans hv⟩, fun o ho => (World.frozen?_of_block (a := ⟨g, o, none⟩) e).trans (hp.free o ho)⟩
theorem wr_grown {f : Nat → Option Value} {n g m x : Nat} {w w' : World} (h : Wr f n g w) (hp : Pt g m w) (hg : w.grownBy w' (some x)) (hx : g ≠ x) : Wr f n g w' :=
 fun o ho => (World.cell?_of_block (a := ⟨g, o, none⟩) (hg.block g hp.lt (by simp; exact hx))).trans (h o ho)
theorem pt_grown {g m x : Nat} {w w' : World} (hp : Pt g m w) (hg : w.grownBy w' (some x)) (hx : g ≠ x) : Pt g m w' := by
 have e := hg.block g hp.lt (by simp; exact hx)
 exact ⟨Nat.lt_of_lt_of_le hp.lt hg.size, fun o ho => by obtain ⟨v, hv⟩ := hp.has o ho; exact ⟨v, (World.cell?_of_block (a := ⟨g, o, none⟩) e).trans hv⟩, fun o ho => (World.frozen?_of_block (a := ⟨g, o, none⟩) e).trans (hp.free o ho)⟩
set_option maxRecDepth 100000 in
set_option maxHeartbeats 4000000 in
theorem markW_in (a m : ByteArray) (mo ev su mx : Int) (ta : Option Addr) (tl tc : Nat) (ha : Option Addr) (hl hc K base top : Nat) (w : World) (lt : tl ≤ 1048576) (lh : hl ≤ 1048576) (hK : 1 ≤ K ∧ K ≤ 10000000) (htop : top ≤ w.heap.size)
  (hT : tl = 0 ∨ ∃ g, ta = some ⟨g, 0, none⟩ ∧ base ≤ g ∧ g < top ∧ Pt g tl w) (hH : hl = 0 ∨ ∃ g, ha = some ⟨g, 0, none⟩ ∧ base ≤ g ∧ g < top ∧ Pt g (hl * 2) w) (hA : Apart ta ha tl hl) :
  Calls Tryd.prog 13 #[.agg #[.string a, .string m, .int .i64 mo, .int .i64 ev, .int .i64 su, .int .i64 mx, .slice ta tl tc, .slice ha hl hc], .int .i64 K] w fun e w' => e = .returned (.int .i64 (K + tl + 2 * hl : Nat)) ∧ MkdW ta ha tl hl K w' ∧ Outs base top w w' := by
 have HT : Hid (∀ W, Below w.heap.size w W → Calls Tryd.prog 31 #[.slice ta tl tc, .int .i64 K] W fun e w' => e = .returned (.int .i64 (K + tl : Nat)) ∧ (tl = 0 ∨ ∃ g, ta = some ⟨g, 0, none⟩ ∧ Pt g tl w' ∧ Wr (mtC K) tl g w') ∧ (hl = 0 ∨ ∃ g, ha = some ⟨g, 0, none⟩ ∧ base ≤ g ∧ g < top ∧ Pt g (hl * 2) w') ∧ Outs base top w w' ∧ ∀ b cs, Blk b cs W → b < base ∨ top ≤ b → Blk b cs w') := hid_intro (fun W hW => by
  have O0 := (Outs.refl base top w).below hW
  rcases Nat.eq_zero_or_pos tl with rfl | hpos
  ·exact (nil_any _ (.inl rfl) ta tc K W (by omega)).mono fun e w' ⟨e1, e2⟩ => ⟨e1, .inl rfl, hH.imp id (fun ⟨g, q1, q2, q3, q4⟩ => ⟨g, q1, q2, q3, (q4.below hW).below e2⟩), O0.below e2, fun b cs hb _ => hb.below e2⟩
  ·obtain ⟨g, rfl, g1, g2, hp⟩ := hT.resolve_left (by omega)
   refine (markT g tl tc K W lt hK (hp.below hW)).mono fun e w' ⟨e1, e2, e3, e4⟩ => ⟨e1, .inr ⟨g, rfl, e2, e3⟩, ?_, O0.grown e4 g1 g2, fun b cs hb hn => ?_⟩
   ·rcases Nat.eq_zero_or_pos hl with rfl | hpos2
    ·exact .inl rfl
    ·obtain ⟨g', rfl, q2, q3, q4⟩ := hH.resolve_left (by omega)
     have := (hA.resolve_left (by omega)).resolve_left (by omega) g 0 g' 0 rfl rfl
     exact .inr ⟨g', rfl, q2, q3, pt_grown (q4.below hW) e4 (fun e => this e.symm)⟩
   ·have e := e4.block b hb.1 (by simp; omega)
    exact ⟨Nat.lt_of_lt_of_le hb.1 e4.size, fun i hi => (World.cell?_of_block (a := ⟨b, i, none⟩) e).trans (hb.2 i hi)⟩)
 have HH : Hid (∀ W, Outs base top w W → (tl = 0 ∨ ∃ g, ta = some ⟨g, 0, none⟩ ∧ Pt g tl W ∧ Wr (mtC K) tl g W) → (hl = 0 ∨ ∃ g, ha = some ⟨g, 0, none⟩ ∧ base ≤ g ∧ g < top ∧ Pt g (hl * 2) W) → Calls Tryd.prog 32 #[.slice ha hl hc, .int .i64 (K + tl : Nat)] W fun e w' => e = .returned (.int .i64 (K + tl + 2 * hl : Nat)) ∧ MkdW ta ha tl hl K w' ∧ Outs base top w w') := hid_intro (fun W O0 hm hh => by
  rcases Nat.eq_zero_or_pos hl with rfl | hpos
  ·exact (nil_any _ (.inr (.inl rfl)) ha hc (K + tl) W (by omega)).mono fun e w' ⟨e1, e2⟩ => ⟨e1, ⟨hm.imp id (fun ⟨g, q1, q2, q3⟩ => ⟨g, q1, q2.below e2, q3.below q2 e2⟩), .inl rfl⟩, O0.below e2⟩
  ·obtain ⟨g, rfl, g1, g2, hp⟩ := hh.resolve_left (by omega)
   refine (markH g hl hc (K + tl) W lh (by omega) hp).mono fun e w' ⟨e1, e2, e3, e4⟩ => ⟨e1, ⟨?_, .inr ⟨g, rfl, e2, e3⟩⟩, O0.grown e4 g1 g2⟩
   rcases Nat.eq_zero_or_pos tl with rfl | hpos2
   ·exact .inl rfl
   ·obtain ⟨g', rfl, q2, q3⟩ := hm.resolve_left (by omega)
    have := (hA.resolve_left (by omega)).resolve_left (by omega) g' 0 g 0 rfl rfl
    exact .inr ⟨g', rfl, pt_grown q2 e4 this, wr_grown q3 q2 e4 this⟩)
 have HB0 : Hid (Below w.heap.size w (w.alloc (.cells #[.string a, .string m, .int .i64 mo, .int .i64 ev, .int .i64 su, .int .i64 mx, .slice ta tl tc, .slice ha hl hc] 32))) := hid_intro ((Below.refl _ _).alloc (Nat.le_refl _) _)
 have HX0 := hid_intro (Blk.new w [.string a, .string m, .int .i64 mo, .int .i64 ev, .int .i64 su, .int .i64 mx, .slice ta tl tc, .slice ha hl hc] 32)
 have HTP := hid_intro htop
 generalize MkdW ta ha tl hl K = MM at *
 clear hT hH hA htop
 go_enter Tryd.func13, Tryd.ntmps13
 go_wp2_with fail
 refine (HT.out _ HB0.out).mono ?_
 rintro e w1 ⟨rfl, ht1, hh1, ho1, hbk⟩
 have HX1 := hid_intro (hbk _ _ HX0.out (.inr HTP.out))
 have HT1 := hid_intro ht1
 have HH1 := hid_intro hh1
 have HO1 := hid_intro ho1
 clear ht1 hh1 ho1 hbk
 obtain ⟨xl, xc⟩ := HX1.out
 have x7 : w1.cell? ⟨w.heap.size, 7, none⟩ = some (.slice ha hl hc) := xc 7 (by simp)
 clear xc
 go_wp2_with fail
 refine (HH.out _ HO1.out HT1.out HH1.out).mono ?_
 rintro e w2 ⟨rfl, hm2, ho2⟩
 have HM2 := hid_intro hm2
 have HO2 := hid_intro ho2
 clear hm2 ho2
 go_wp2_with fail
 go_ret
 exact ⟨rfl, HM2.out, HO2.out⟩
set_option maxRecDepth 100000 in
set_option maxHeartbeats 4000000 in
theorem heldW_in (a m : ByteArray) (mo ev su mx : Int) (ta : Option Addr) (tl tc : Nat) (ha : Option Addr) (hl hc K : Nat) (w : World) (lt : tl ≤ 1048576) (lh : hl ≤ 1048576) (hK : 1 ≤ K ∧ K ≤ 10000000) (hM : MkdW ta ha tl hl K w) :
  Calls Tryd.prog 33 #[.agg #[.string a, .string m, .int .i64 mo, .int .i64 ev, .int .i64 su, .int .i64 mx, .slice ta tl tc, .slice ha hl hc], .int .i64 K] w fun e w' => e = .returned (.int .i64 (K + tl + 2 * hl : Nat)) ∧ Below w.heap.size w w' := by
 have HT : Hid (∀ W, Below w.heap.size w W → Calls Tryd.prog 64 #[.slice ta tl tc, .int .i64 K] W fun e w' => e = .returned (.int .i64 (K + tl : Nat)) ∧ Below W.heap.size W w') := hid_intro (fun W hW => by
  rcases Nat.eq_zero_or_pos tl with rfl | hpos
  ·exact nil_any _ (.inr (.inr (.inl rfl))) ta tc K W (by omega)
  ·obtain ⟨g, rfl, q2, q3⟩ := (hM.below hW).1.resolve_left (by omega)
   exact heldT g tl tc K W lt hK q2.lt q3)
 have HH : Hid (∀ W, Below w.heap.size w W → Calls Tryd.prog 65 #[.slice ha hl hc, .int .i64 (K + tl : Nat)] W fun e w' => e = .returned (.int .i64 (K + tl + 2 * hl : Nat)) ∧ Below W.heap.size W w') := hid_intro (fun W hW => by
  rcases Nat.eq_zero_or_pos hl with rfl | hpos
  ·exact nil_any _ (.inr (.inr (.inr rfl))) ha hc (K + tl) W (by omega)
  ·obtain ⟨g, rfl, q2, q3⟩ := (hM.below hW).2.resolve_left (by omega)
   exact heldH g hl hc (K + tl) W lh (by omega) q2.lt q3)
 have HB0 : Hid (Below w.heap.size w (w.alloc (.cells #[.string a, .string m, .int .i64 mo, .int .i64 ev, .int .i64 su, .int .i64 mx, .slice ta tl tc, .slice ha hl hc] 32))) := hid_intro ((Below.refl _ _).alloc (Nat.le_refl _) _)
 have HX0 := hid_intro (Blk.new w [.string a, .string m, .int .i64 mo, .int .i64 ev, .int .i64 su, .int .i64 mx, .slice ta tl tc, .slice ha hl hc] 32)
 have n1 : ¬ (((K + tl : Nat) : Int) < 0) := by omega
 have n2 : ¬ (((K + tl + 2 * hl : Nat) : Int) < 0) := by omega
 generalize K + tl + 2 * hl = K2 at *
 generalize hK1 : K + tl = K1 at *
 clear hM
 go_enter Tryd.func33, Tryd.ntmps33
 go_wp2_with fail
 refine (HT.out _ HB0.out).mono ?_
 rintro e w1 ⟨rfl, hb1⟩
 have HB1 := hid_intro (HB0.out.trans (hb1.mono HB0.out.size))
 have HX1 := hid_intro (HX0.out.below hb1)
 clear hb1
 obtain ⟨xl, xc⟩ := HX1.out
 have x7 : w1.cell? ⟨w.heap.size, 7, none⟩ = some (.slice ha hl hc) := xc 7 (by simp)
 clear xc
 go_wp2_with fail
 refine (HH.out _ HB1.out).mono ?_
 rintro e w2 ⟨rfl, hb2⟩
 have HB2 := hid_intro (HB1.out.trans (hb2.mono HB1.out.size))
 clear hb2
 go_wp2_with fail
 go_ret
 exact ⟨rfl, HB2.out⟩
/-- A window that was made is marked. -/
theorem markW (base top K : Nat) (x : Wd) (ta : Option Addr) (tc : Nat) (ha : Option Addr) (hc : Nat) (w : World) (lt : x.ts.length ≤ 1048576) (lh : x.hs.length ≤ 1048576) (hK : 1 ≤ K ∧ K ≤ 10000000) (htop : top ≤ w.heap.size)
  (h1 : MadeG 1 tcells tz base ta x.ts w) (h2 : MadeG 2 H.cells H.zero base ha x.hs w) (h3 : Apart ta ha x.ts.length x.hs.length) (t1 : ∀ g, ta = some ⟨g, 0, none⟩ → g < top) (t2 : ∀ g, ha = some ⟨g, 0, none⟩ → g < top) :
  Calls Tryd.prog 13 #[.agg (wcells x ta tc ha hc), .int .i64 K] w fun e w' => e = .returned (.int .i64 (K + x.ts.length + 2 * x.hs.length : Nat)) ∧ MkdW ta ha x.ts.length x.hs.length K w' ∧ Outs base top w w' :=
 markW_in x.a x.m x.mo x.ev x.su x.mx ta x.ts.length tc ha x.hs.length hc K base top w lt lh hK htop (h1.own.imp id (fun ⟨g, e1, e2, e3⟩ => ⟨g, e1, e2, t1 g e1, by rw [Nat.mul_one] at e3; exact e3⟩)) (h2.own.imp id (fun ⟨g, e1, e2, e3⟩ => ⟨g, e1, e2, t2 g e1, e3⟩)) h3
end WinR
end Go.Proofs.YtnlmpejgiakepaaDoor
namespace Go.Proofs.YtnlmpejgiakepaaDoor
open Go.ChangeShapes Go.WideShapes Go.ChangeAt Go.RowKit
set_option linter.unusedVariables false
namespace WinR
open RowG (MadeG Rws)
open EvtR (Pt)
open CatR (Blk Blk.new)
def IsO (v : Value) (z : Wd) (cd : Int) (w : World) : Prop := ∃ ta tc ha hc, v = .agg (ocells z ta tc ha hc cd) ∧ Tgs ta z.ts w ∧ Hrs ha z.hs w
theorem IsO.below {v : Value} {z : Wd} {cd : Int} {w w' : World} (h : IsO v z cd w) (hb : Below w.heap.size w w') : IsO v z cd w' := by
 obtain ⟨ta, tc, ha, hc, e, h1, h2⟩ := h
 exact ⟨ta, tc, ha, hc, e, h1.below hb, h2.below hb⟩
theorem NewO.is {base : Nat} {z : Wd} {cd : Int} {v : Value} {w : World} (h : NewO base z cd v w) : IsO v z cd w := by
 obtain ⟨ta, tc, ha, hc, e, h1, h2, _⟩ := h
 exact ⟨ta, tc, ha, hc, e, h1, h2⟩
theorem MadeO.is {base : Nat} {z : Wd} {cd : Int} {v : Value} {w : World} (h : MadeO base z cd v w) : IsO v z cd w := by
 obtain ⟨ta, tc, ha, hc, e, h1, h2, _⟩ := h
 exact ⟨ta, tc, ha, hc, e, h1.rws, h2.rws⟩
set_option maxRecDepth 100000 in
set_option maxHeartbeats 8000000 in
theorem eqO_in (a m : ByteArray) (mo ev su mx cd : Int) (ta : Option Addr) (tl tc : Nat) (ha : Option Addr) (hl hc : Nat) (ta' : Option Addr) (tc' : Nat) (ha' : Option Addr) (hc' : Nat) (w : World)
  (hE : ∀ W, Below w.heap.size w W → Calls Tryd.prog 12 #[.agg #[.string a, .string m, .int .i64 mo, .int .i64 ev, .int .i64 su, .int .i64 mx, .slice ta tl tc, .slice ha hl hc], .agg #[.string a, .string m, .int .i64 mo, .int .i64 ev, .int .i64 su, .int .i64 mx, .slice ta' tl tc', .slice ha' hl hc']] W fun e w' => e = .returned (.bool true) ∧ Below W.heap.size W w') :
  Calls Tryd.prog 11 #[.agg #[.string a, .string m, .int .i64 mo, .int .i64 ev, .int .i64 su, .int .i64 mx, .slice ta tl tc, .slice ha hl hc, .int .i64 cd], .agg #[.string a, .string m, .int .i64 mo, .int .i64 ev, .int .i64 su, .int .i64 mx, .slice ta' tl tc', .slice ha' hl hc', .int .i64 cd]] w fun e w' => e = .returned (.bool true) ∧ Below w.heap.size w w' := by
 have HE := hid_intro hE
 clear hE
 have HA0 : Hid (Below w.heap.size w ((w.alloc (.cells #[.string a, .string m, .int .i64 mo, .int .i64 ev, .int .i64 su, .int .i64 mx, .slice ta tl tc, .slice ha hl hc, .int .i64 cd] 34)).alloc (.cells #[.string a, .string m, .int .i64 mo, .int .i64 ev, .int .i64 su, .int .i64 mx, .slice ta' tl tc', .slice ha' hl hc', .int .i64 cd] 34))) := hid_intro (((Below.refl _ _).alloc (by simp; try omega) _).alloc (by simp; try omega) _)
 have HX0 := hid_intro ((Blk.new w [.string a, .string m, .int .i64 mo, .int .i64 ev, .int .i64 su, .int .i64 mx, .slice ta tl tc, .slice ha hl hc, .int .i64 cd] 34).below ((Below.refl _ _).alloc (Nat.le_refl _) (.cells #[.string a, .string m, .int .i64 mo, .int .i64 ev, .int .i64 su, .int .i64 mx, .slice ta' tl tc', .slice ha' hl hc', .int .i64 cd] 34)))
 have HY0 := hid_intro (Blk.new (w.alloc (.cells #[.string a, .string m, .int .i64 mo, .int .i64 ev, .int .i64 su, .int .i64 mx, .slice ta tl tc, .slice ha hl hc, .int .i64 cd] 34)) [.string a, .string m, .int .i64 mo, .int .i64 ev, .int .i64 su, .int .i64 mx, .slice ta' tl tc', .slice ha' hl hc', .int .i64 cd] 34)
 have e1 : (w.alloc (.cells #[.string a, .string m, .int .i64 mo, .int .i64 ev, .int .i64 su, .int .i64 mx, .slice ta tl tc, .slice ha hl hc, .int .i64 cd] 34)).heap.size = w.heap.size + 1 := by simp
 rw [e1] at HY0
 clear e1
 go_enter Tryd.func11, Tryd.ntmps11
 go_wp2_with fail
 refine (HE.out _ HA0.out).mono ?_
 rintro e w1 ⟨rfl, hb1⟩
 have HB1 := hid_intro (HA0.out.trans (hb1.mono HA0.out.size))
 have hx := HX0.out.below hb1
 have hy := HY0.out.below hb1
 have x8 : w1.cell? ⟨w.heap.size, 8, none⟩ = some (.int .i64 cd) := hx.2 8 (by simp)
 have y8 : w1.cell? ⟨w.heap.size + 1, 8, none⟩ = some (.int .i64 cd) := hy.2 8 (by simp)
 have xl := hx.1
 have yl := hy.1
 clear hx hy hb1 HX0 HY0 HA0
 go_wp2_with fail
 go_ret
 exact ⟨rfl, HB1.out⟩
theorem eqO_any (v v' : Value) (z : Wd) (cd : Int) (w : World) (lt : z.ts.length ≤ 1048576) (lh : z.hs.length ≤ 1048576) (h : IsO v z cd w) (h' : IsO v' z cd w) :
  Calls Tryd.prog 11 #[v, v'] w fun e w' => e = .returned (.bool true) ∧ Below w.heap.size w w' := by
 obtain ⟨ta, tc, ha, hc, rfl, h1, h2⟩ := h
 obtain ⟨ta', tc', ha', hc', rfl, h1', h2'⟩ := h'
 exact eqO_in z.a z.m z.mo z.ev z.su z.mx cd ta z.ts.length tc ha z.hs.length hc ta' tc' ha' hc' w (fun W hW => eqW_any _ _ z W lt lh ⟨ta, tc, ha, hc, rfl, h1.below hW, h2.below hW⟩ ⟨ta', tc', ha', hc', rfl, h1'.below hW, h2'.below hW⟩)
set_option maxRecDepth 100000 in
set_option maxHeartbeats 8000000 in
theorem markO_in (D : World → Prop) (a m : ByteArray) (mo ev su mx cd Q : Int) (ta : Option Addr) (tl tc : Nat) (ha : Option Addr) (hl hc base top : Nat) (w : World)
  (hG : ∀ W, Below w.heap.size w W → Calls Tryd.prog 13 #[.agg #[.string a, .string m, .int .i64 mo, .int .i64 ev, .int .i64 su, .int .i64 mx, .slice ta tl tc, .slice ha hl hc], .int .i64 1] W fun e w' => e = .returned (.int .i64 Q) ∧ D w' ∧ Outs base top W w') :
  Calls Tryd.prog 14 #[.agg #[.string a, .string m, .int .i64 mo, .int .i64 ev, .int .i64 su, .int .i64 mx, .slice ta tl tc, .slice ha hl hc, .int .i64 cd], .int .i64 1] w fun e w' => e = .returned (.int .i64 Q) ∧ D w' ∧ Outs base top w w' := by
 have HG := hid_intro hG
 clear hG
 have HA0 : Hid (Below w.heap.size w (w.alloc (.cells #[.string a, .string m, .int .i64 mo, .int .i64 ev, .int .i64 su, .int .i64 mx, .slice ta tl tc, .slice ha hl hc, .int .i64 cd] 34))) := hid_intro ((Below.refl _ _).alloc (Nat.le_refl _) _)
 go_enter Tryd.func14, Tryd.ntmps14
 go_wp2_with fail
 refine (HG.out _ HA0.out).mono ?_
 rintro e w1 ⟨rfl, hD, ho⟩
 have HD := hid_intro hD
 have HO := hid_intro (((Outs.refl base top w).below HA0.out).trans ho)
 clear hD ho
 go_wp2_with fail
 go_ret
 exact ⟨rfl, HD.out, HO.out⟩
set_option maxRecDepth 100000 in
set_option maxHeartbeats 8000000 in
theorem heldO_in (a m : ByteArray) (mo ev su mx cd Q : Int) (hQ : ¬ Q < 0) (ta : Option Addr) (tl tc : Nat) (ha : Option Addr) (hl hc : Nat) (w : World)
  (hG : ∀ W, Below w.heap.size w W → Calls Tryd.prog 33 #[.agg #[.string a, .string m, .int .i64 mo, .int .i64 ev, .int .i64 su, .int .i64 mx, .slice ta tl tc, .slice ha hl hc], .int .i64 1] W fun e w' => e = .returned (.int .i64 Q) ∧ Below W.heap.size W w') :
  Calls Tryd.prog 15 #[.agg #[.string a, .string m, .int .i64 mo, .int .i64 ev, .int .i64 su, .int .i64 mx, .slice ta tl tc, .slice ha hl hc, .int .i64 cd], .int .i64 1] w fun e w' => e = .returned (.int .i64 Q) ∧ Below w.heap.size w w' := by
 have HG := hid_intro hG
 clear hG
 have HA0 : Hid (Below w.heap.size w (w.alloc (.cells #[.string a, .string m, .int .i64 mo, .int .i64 ev, .int .i64 su, .int .i64 mx, .slice ta tl tc, .slice ha hl hc, .int .i64 cd] 34))) := hid_intro ((Below.refl _ _).alloc (Nat.le_refl _) _)
 go_enter Tryd.func15, Tryd.ntmps15
 go_wp2_with fail
 refine (HG.out _ HA0.out).mono ?_
 rintro e w1 ⟨rfl, hb⟩
 have HO := hid_intro (HA0.out.trans (hb.mono HA0.out.size))
 clear hb
 go_wp2_with fail
 go_ret
 exact ⟨rfl, HO.out⟩
end WinR
end Go.Proofs.YtnlmpejgiakepaaDoor
namespace Go.Proofs.YtnlmpejgiakepaaDoor
open Go.ChangeShapes Go.WideShapes Go.ChangeAt Go.RowKit
set_option linter.unusedVariables false
namespace WinR
section
variable {α : Type} (lt : α → α → Bool) (f : α → α → α)
/-- Two at a time. -/
def mrg : List α → List α → List α
 | [], ys => ys
 | x :: xs, [] => x :: xs
 | x :: xs, y :: ys => if lt x y then x :: mrg xs (y :: ys) else if lt y x then y :: mrg (x :: xs) ys else f x y :: mrg xs ys
termination_by a b => a.length + b.length
/-- One put in its place. -/
def ins : List α → α → List α
 | [], y => [y]
 | x :: xs, y => if lt x y then x :: ins xs y else if lt y x then y :: x :: xs else f x y :: xs
/-- Each is smaller than the next. -/
def Rs : List α → Prop
 | [] => True
 | [_] => True
 | x :: y :: l => lt x y = true ∧ Rs (y :: l)
theorem mrg_nil (a : List α) : mrg lt f a [] = a := by cases a <;> simp [mrg]
theorem mrg_head (x : α) (xs ys : List α) (h : ∀ y ∈ ys.head?, lt x y = true) : mrg lt f (x :: xs) ys = x :: mrg lt f xs ys := by
 cases ys with
 | nil => simp [mrg_nil]
 | cons y l =>
  have := h y (by simp)
  rw [mrg, if_pos this]
variable (tr : ∀ x y z, lt x y = true → lt y z = true → lt x z = true) (te : ∀ x y z, lt x y = false → lt y x = false → lt y z = true → lt (f x y) z = true)
include tr te
theorem mrg_ins (a : List α) (y : α) (ys : List α) (h : ∀ z ∈ ys.head?, lt y z = true) : mrg lt f a (y :: ys) = mrg lt f (ins lt f a y) ys := by
 induction a with
 | nil => rw [mrg, ins, mrg_head lt f y [] ys h, mrg]
 | cons x xs ih =>
  rw [mrg, ins]
  by_cases h1 : lt x y = true
  ·rw [if_pos h1, if_pos h1, ih, mrg_head lt f x _ ys (fun z hz => tr _ _ _ h1 (h z hz))]
  ·rw [if_neg h1, if_neg h1]
   by_cases h2 : lt y x = true
   ·rw [if_pos h2, if_pos h2, mrg_head lt f y _ ys h]
   ·rw [if_neg h2, if_neg h2, mrg_head lt f (f x y) xs ys (fun z hz => te _ _ _ (by simpa using h1) (by simpa using h2) (h z hz))]
theorem mrg_fold (a b : List α) (h : Rs lt b) : mrg lt f a b = b.foldl (ins lt f) a := by
 induction b generalizing a with
 | nil => rw [mrg_nil]; rfl
 | cons y ys ih =>
  have hy : ∀ z ∈ ys.head?, lt y z = true := by
   intro z hz
   cases ys with
   | nil => simp at hz
   | cons z' l => simp at hz; subst hz; exact h.1
  have hr : Rs lt ys := by
   cases ys with
   | nil => trivial
   | cons z' l => exact h.2
  rw [mrg_ins lt f tr te a y ys hy, ih _ hr]
  rfl
end
end WinR
end Go.Proofs.YtnlmpejgiakepaaDoor
namespace Go.Proofs.YtnlmpejgiakepaaDoor
open Go.ChangeShapes Go.WideShapes Go.ChangeAt Go.RowKit
set_option linter.unusedVariables false
namespace WinR
open RowG LtR
open CatR (Blk Blk.new)
/-- What the round reads. -/
def HSt (w : World) (ao : Option Addr) (len cap : Nat) (b o1 o2 : Nat) (x y : H) (W : World) : Prop := Below w.heap.size w W ∧ w.heap.size < W.heap.size ∧ b < W.heap.size ∧ W.cell? ⟨w.heap.size, 0, none⟩ = some (.slice ao len cap) ∧ W.cell? ⟨w.heap.size, 1, none⟩ = some (.func (.func 90) #[] #[]) ∧ W.cell? ⟨w.heap.size, 2, none⟩ = some (.func (.func 91) #[] #[]) ∧ W.cell? ⟨b, o1, none⟩ = some (.int .i64 x.h) ∧ W.cell? ⟨b, o1 + 1, none⟩ = some (.int .i64 x.s) ∧ W.cell? ⟨b, o2, none⟩ = some (.int .i64 y.h) ∧ W.cell? ⟨b, o2 + 1, none⟩ = some (.int .i64 y.s)
theorem HSt.below {w : World} {ao : Option Addr} {len cap b o1 o2 : Nat} {x y : H} {W W' : World} (h : HSt w ao len cap b o1 o2 x y W) (hb : Below W.heap.size W W') : HSt w ao len cap b o1 o2 x y W' := by
 obtain ⟨h0, h1, h2, c0, c1, c2, d0, d1, d2, d3⟩ := h
 have c := fun o => hb.cell (p := ⟨w.heap.size, o, none⟩) h1
 have d := fun o => hb.cell (p := ⟨b, o, none⟩) h2
 have := hb.size
 exact ⟨h0.trans (hb.mono h0.size), by omega, by omega, (c 0).trans c0, (c 1).trans c1, (c 2).trans c2, (d _).trans d0, (d _).trans d1, (d _).trans d2, (d _).trans d3⟩
set_option maxRecDepth 100000 in
set_option maxHeartbeats 4000000 in
theorem hours_rises (ao : Option Addr) (cap : Nat) (hs : List H) (w : World) (hlen : hs.length ≤ 1048576) (hI : Hrs ao hs w) :
  Calls Tryd.prog 103 #[.agg #[.slice ao hs.length cap, .func (.func 90) #[] #[], .func (.func 91) #[] #[]]] w fun e w' => e = .returned (.bool (riseB hlt H.zero hs)) ∧ Below w.heap.size w w' := by
 have HI := hid_intro hI
 have HNO := hid_intro (fun k => rise_no (r := hlt) (z := H.zero) (xs := hs) (k := k))
 have HYES : Hid (RiseTo hlt H.zero hs hs.length → riseB hlt H.zero hs = true) := hid_intro rise_yes
 generalize riseB hlt H.zero hs = R at *
 obtain ⟨len, hl⟩ : ∃ len, len = hs.length := ⟨_, rfl⟩
 rw [← hl] at hlen HYES ⊢
 have HL := hid_intro hl
 clear hI hl
 have HB0 : Hid (Below w.heap.size w (w.alloc (.cells #[.slice ao len cap, .func (.func 90) #[] #[], .func (.func 91) #[] #[]] 95))) := hid_intro ((Below.refl _ _).alloc (Nat.le_refl _) _)
 have HX0 : Hid (Blk w.heap.size [.slice ao len cap, .func (.func 90) #[] #[], .func (.func 91) #[] #[]] (w.alloc (.cells #[.slice ao len cap, .func (.func 90) #[] #[], .func (.func 91) #[] #[]] 95))) := hid_intro (Blk.new w _ _)
 go_enter Tryd.func103, Tryd.ntmps103
 go_wp2_with fail
 go_loopw [3] (fun z wr => ∃ k : Nat, 1 ≤ k ∧ (k = 1 ∨ k ≤ len) ∧ z = .int .i64 (k : Int) ∧ Hid (RiseTo hlt H.zero hs k) ∧ Hid (Below w.heap.size w wr) ∧ Hid (Blk w.heap.size [.slice ao len cap, .func (.func 90) #[] #[], .func (.func 91) #[] #[]] wr)) (fun z _ => len - (intOf z).toNat)
 case atStart => exact ⟨1, by omega, by omega, rfl, hid_intro (rise_one _ (by omega)), HB0, HX0⟩
 case round =>
  obtain ⟨k, hk1, hk2, rfl, HR, HB, HX⟩ := hrel
  obtain ⟨xl, xc⟩ := HX.out
  have x0 : wr.cell? ⟨w.heap.size, 0, none⟩ = some (.slice ao len cap) := xc 0 (by simp)
  have x1 : wr.cell? ⟨w.heap.size, 1, none⟩ = some (.func (.func 90) #[] #[]) := xc 1 (by simp)
  have x2 : wr.cell? ⟨w.heap.size, 2, none⟩ = some (.func (.func 91) #[] #[]) := xc 2 (by simp)
  clear xc
  by_cases hlt1 : k < len
  ·have hlt2 : (k : Int) < (len : Int) := by omega
   have hk0 : (0 : Int) ≤ (k : Int) := by omega
   obtain ⟨j, hj⟩ : ∃ j, j = k - 1 := ⟨_, rfl⟩
   have hj0 : (0 : Int) ≤ (j : Int) := by omega
   have hj1 : (j : Int) < (len : Int) := by omega
   have hwr : IntKind.i64.wrap ((k : Int) - 1) = (j : Int) := by rw [IntKind.wrap_i64]; omega
   obtain ⟨b, off, rfl, hbl, c1, c2⟩ := (HI.out.below HB.out).at k (by have := HL.out; omega)
   obtain ⟨b', off', he, _, d1, d2⟩ := (HI.out.below HB.out).at j (by have := HL.out; omega)
   obtain ⟨rfl, rfl⟩ : b = b' ∧ off = off' := by simpa using he
   have HN := hid_intro (HNO.out k (by have := HL.out; omega) (by omega))
   have HM := hid_intro (fun h => HR.out.more (k := k) h)
   rw [← hj] at HN HM
   generalize hs.getD k H.zero = X at *
   generalize hs.getD j H.zero = Y at *
   have HS0 : Hid (HSt w (some ⟨b, off, none⟩) len cap b (off + k * 2) (off + j * 2) X Y wr.drew) := hid_intro (HSt.below ⟨HB.out, xl, hbl, x0, x1, x2, c1, c2, d1, d2⟩ (Below.refl _ _).drew)
   obtain ⟨xh, xs⟩ := X
   obtain ⟨yh, ys⟩ := Y
   dsimp only at c1 c2 d1 d2
   clear hj
   by_cases hle : xh ≤ yh
   ·have HF : Hid (R = false) := hid_intro (HN.out (by unfold hlt; exact decide_eq_false (by show ¬ yh < xh; omega)))
    go_wp2_with fail
    go_region_held3 (fun W => Below w.heap.size w W ∧ w.heap.size < W.heap.size ∧ b < W.heap.size ∧ W.cell? ⟨w.heap.size, 0, none⟩ = some (.slice (some ⟨b, off, none⟩) len cap) ∧ W.cell? ⟨w.heap.size, 1, none⟩ = some (.func (.func 90) #[] #[]) ∧ W.cell? ⟨w.heap.size, 2, none⟩ = some (.func (.func 91) #[] #[]) ∧ W.cell? ⟨b, off + k * 2, none⟩ = some (.int .i64 xh) ∧ W.cell? ⟨b, off + k * 2 + 1, none⟩ = some (.int .i64 xs) ∧ W.cell? ⟨b, off + j * 2, none⟩ = some (.int .i64 yh) ∧ W.cell? ⟨b, off + j * 2 + 1, none⟩ = some (.int .i64 ys)) (first | assumption | (exact HS0.out) | (exact HSt.below (x := ⟨xh, xs⟩) (y := ⟨yh, ys⟩) (by assumption) hb))
     (first | (go_at_call 90; refine (hkey _ _ _).mono ?_; rintro e w' ⟨rfl, hb⟩))
    rename_i hSz
    have HSz := hid_intro hSz.1
    clear hSz
    go_wp2_with fail
    go_ret
    exact ⟨ret_bool HF.out.symm, HSz.out⟩
   ·have hle2 : yh < xh := by omega
    have HM2 := hid_intro (HM.out (fun _ => by unfold hlt; exact decide_eq_true (by show yh < xh; omega)))
    go_wp2_with fail
    go_region_held3 (fun W => Below w.heap.size w W ∧ w.heap.size < W.heap.size ∧ b < W.heap.size ∧ W.cell? ⟨w.heap.size, 0, none⟩ = some (.slice (some ⟨b, off, none⟩) len cap) ∧ W.cell? ⟨w.heap.size, 1, none⟩ = some (.func (.func 90) #[] #[]) ∧ W.cell? ⟨w.heap.size, 2, none⟩ = some (.func (.func 91) #[] #[]) ∧ W.cell? ⟨b, off + k * 2, none⟩ = some (.int .i64 xh) ∧ W.cell? ⟨b, off + k * 2 + 1, none⟩ = some (.int .i64 xs) ∧ W.cell? ⟨b, off + j * 2, none⟩ = some (.int .i64 yh) ∧ W.cell? ⟨b, off + j * 2 + 1, none⟩ = some (.int .i64 ys)) (first | assumption | (exact HS0.out) | (exact HSt.below (x := ⟨xh, xs⟩) (y := ⟨yh, ys⟩) (by assumption) hb))
     (first | (go_at_call 90; refine (hkey _ _ _).mono ?_; rintro e w' ⟨rfl, hb⟩))
    rename_i hSz
    have HSz := hid_intro hSz.1
    have HSy : Hid (Blk w.heap.size [.slice (some ⟨b, off, none⟩) len cap, .func (.func 90) #[] #[], .func (.func 91) #[] #[]] w') := hid_intro ⟨hSz.2.1, fun i hi => by
     match i, hi with
     | 0, _ => exact hSz.2.2.2.1
     | 1, _ => exact hSz.2.2.2.2.1
     | 2, _ => exact hSz.2.2.2.2.2.1⟩
    clear hSz
    go_wp2_with fail
    go_roundw
    case rel => exact ⟨k + 1, by omega, by omega, by go_num, HM2, HSz, HSy⟩
    case measure => simp [intOf]; omega
  ·have hlt2 : ¬ (k : Int) < (len : Int) := by omega
   have HF : Hid (R = true) := hid_intro (HYES.out (fun i h1 h2 => HR.out i (by omega) h2))
   go_wp2_with fail
   go_ret
   exact ⟨ret_bool HF.out.symm, HB.out⟩
end WinR
end Go.Proofs.YtnlmpejgiakepaaDoor
namespace Go.Proofs.YtnlmpejgiakepaaDoor
open Go.ChangeShapes Go.WideShapes Go.ChangeAt Go.RowKit
set_option linter.unusedVariables false
namespace DateR
open DateM
theorem hid_intro {p : Prop} (h : p) : Hid p := h
theorem tmod_iff (y k : Int) : y.tmod k = 0 ↔ y % k = 0 := ⟨fun h => Int.emod_eq_zero_of_dvd (Int.dvd_of_tmod_eq_zero h), fun h => Int.tmod_eq_zero_of_dvd (Int.dvd_of_emod_eq_zero h)⟩
theorem leap_a (y : Int) (h1 : y.tmod 4 = 0) (h2 : y.tmod 100 = 0) : (y.tmod 400 == 0) = leapB y := by
 rw [tmod_iff] at h1 h2
 unfold leapB
 rw [Bool.eq_iff_iff, beq_iff_eq, decide_eq_true_eq, tmod_iff]
 omega
theorem leap_b (y : Int) (h1 : y.tmod 4 = 0) (h2 : ¬ y.tmod 100 = 0) : true = leapB y := by
 rw [tmod_iff] at h1 h2
 exact (decide_eq_true ⟨h1, .inl h2⟩).symm
theorem leap_c (y : Int) (h1 : ¬ y.tmod 4 = 0) : false = leapB y := by
 rw [tmod_iff] at h1
 exact (decide_eq_false fun h => h1 h.1).symm
theorem leap_d (y : Int) (h1 : ¬ y.tmod 4 = 0) : (y.tmod 400 == 0) = leapB y := by
 rw [tmod_iff] at h1
 unfold leapB
 rw [Bool.eq_iff_iff, beq_iff_eq, decide_eq_true_eq, tmod_iff]
 omega
theorem impl_leap (y : Int) (w : World) : Calls Tryd.prog 119 #[.int .i64 y] w fun e w' => e = .returned (.bool (leapB y)) ∧ w' = w := by
 go_enter Tryd.func119, Tryd.ntmps119
 go_wp2
 ·go_ret
  exact ⟨ret_bool (leap_a y ‹_› ‹_›), rfl⟩
 ·go_ret
  exact ⟨ret_bool (leap_b y ‹_› ‹_›), rfl⟩
 ·go_ret
  exact ⟨ret_bool (leap_d y ‹_›), rfl⟩
theorem spec_leap (y : Int) (w : World) : Calls Tryd.prog 115 #[.int .i64 y] w fun e w' => e = .returned (.bool (leapB y)) ∧ w' = w := by
 go_enter Tryd.func115, Tryd.ntmps115
 go_wp2
 ·go_ret
  exact ⟨ret_bool (leap_a y ‹_› ‹_›), rfl⟩
 ·go_ret
  exact ⟨ret_bool (leap_b y ‹_› ‹_›), rfl⟩
 ·go_ret
  exact ⟨ret_bool (leap_c y ‹_›), rfl⟩
/-- The day of the week. -/
def wd (d : Int) : Int := if 0 ≤ d ∧ d ≤ 100000 then (d + 3) % 7 else -1
end DateR
end Go.Proofs.YtnlmpejgiakepaaDoor
namespace Go.Proofs.YtnlmpejgiakepaaDoor
open Go.ChangeShapes Go.WideShapes Go.ChangeAt Go.RowKit
set_option linter.unusedVariables false
namespace DateR
open DateM
/-- The table of the months' days. -/
def tab : List Int := [31, 28, 31, 30, 31, 30, 31, 31, 30, 31, 30, 31]
/-- The variable holds the table. -/
def Laid (w : World) : Prop := 0 < w.heap.size ∧ ∀ k : Nat, k < 12 → w.cell? ⟨0, k, none⟩ = some (.int .i64 (tab.getD k 0))
theorem Laid.below {w w' : World} (h : Laid w) (hb : Below w.heap.size w w') : Laid w' :=
 ⟨by have := hb.size; have := h.1; omega, fun k hk => by rw [hb.cell (p := ⟨0, k, none⟩) h.1]; exact h.2 k hk⟩
theorem bel_drewN {B : Nat} {a w : World} (h : Below B a w) (n : Nat) : Below B a (w.drewN n) := ⟨h.os, h.tape, h.output, h.size, h.block⟩
theorem Laid.drewN {w : World} (h : Laid w) (n : Nat) : Laid (w.drewN n) := ⟨by simpa using h.1, fun k hk => by simpa using h.2 k hk⟩
theorem within_any (n low high : Int) (w : World) :
  Calls Tryd.prog 85 #[.int .i64 n, .int .i64 low, .int .i64 high] w fun e w' => e = .returned (.bool (decide (low ≤ n ∧ n ≤ high))) ∧ w' = w := by
 by_cases h1 : low ≤ n
 ·go_enter Tryd.func85, Tryd.ntmps85
  go_wp2
  go_ret
  exact ⟨ret_bool (by simp [h1]), rfl⟩
 ·go_enter Tryd.func85, Tryd.ntmps85
  go_wp2
  go_ret
  exact ⟨ret_bool (by rw [decide_eq_false (show ¬ low ≤ n by omega)]; rfl), rfl⟩
theorem tab_md (y : Int) (k : Nat) (h : k < 12) (h2 : k = 1 → leapB y = false) : tab.getD k 0 = md y ((k : Int) + 1) := by
 match k, h, h2 with
 | 0, _, _ => rfl
 | 1, _, h2 => unfold md; rw [h2 rfl]; rfl
 | 2, _, _ => rfl
 | 3, _, _ => rfl
 | 4, _, _ => rfl
 | 5, _, _ => rfl
 | 6, _, _ => rfl
 | 7, _, _ => rfl
 | 8, _, _ => rfl
 | 9, _, _ => rfl
 | 10, _, _ => rfl
 | 11, _, _ => rfl
theorem tab_name (w : World) (k : Nat) (hk : k < 12) (hL : Laid w) : ∃ X : Int, w.cell? ⟨0, k, none⟩ = some (.int .i64 X) ∧ Hid (X = tab.getD k 0) := ⟨_, hL.2 k hk, rfl⟩
theorem md_2 (y : Int) : md y 2 = if leapB y = true then 29 else 28 := rfl
theorem impl_md_in (y : Int) (k : Nat) (hk : k < 12) (y1 : 1970 ≤ y) (y2 : y ≤ 2200) (w : World) (hL : Laid w) :
  Calls Tryd.prog 120 #[.int .i64 y, .int .i64 ((k : Int) + 1)] w fun e w' => e = .returned (.int .i64 (md y ((k : Int) + 1))) ∧ w' = w := by
 obtain ⟨X, hc, HX⟩ := tab_name w k hk hL
 have h0 := hL.1
 have k1 : (1 : Int) ≤ (k : Int) + 1 := by omega
 have k2 : (k : Int) + 1 ≤ 12 := by omega
 have HK := hid_intro hk
 clear hL
 by_cases e : k = 1
 ·subst e
  cases hl : leapB y
  ·have hi := fun w => impl_leap y w
   rw [hl] at hi
   have HM : Hid (X = md y 2) := by
    show X = md y 2
    rw [HX.out, md_2, hl]; rfl
   clear hl
   go_enter Tryd.func120, Tryd.ntmps120
   go_wp2_with (first | (go_at_call 85; go_in) | (go_at_call 119; refine (hi _).mono ?_; rintro e w' ⟨rfl, rfl⟩))
   go_ret
   exact ⟨ret_int HM.out, rfl⟩
  ·have hi := fun w => impl_leap y w
   rw [hl] at hi
   have HM : Hid (29 = md y 2) := by
    show 29 = md y 2
    rw [md_2, hl]; rfl
   clear hl
   go_enter Tryd.func120, Tryd.ntmps120
   go_wp2_with (first | (go_at_call 85; go_in) | (go_at_call 119; refine (hi _).mono ?_; rintro e w' ⟨rfl, rfl⟩))
   go_ret
   exact ⟨ret_int HM.out, rfl⟩
 ·have ne : ¬ (k : Int) + 1 = 2 := by omega
  have nf : ((k : Int) + 1 == 2) = false := by simpa using ne
  have HM := hid_intro (HX.out.trans (tab_md y k hk fun h => absurd h e))
  clear e hk
  go_enter Tryd.func120, Tryd.ntmps120
  go_wp2_with (first | (go_at_call 85; go_in) | (go_at_call 119; refine (impl_leap y _).mono ?_; rintro e w' ⟨rfl, rfl⟩))
  go_ret
  exact ⟨ret_int HM.out, rfl⟩
theorem md_key (y m : Int) (h : ¬ (1970 ≤ y ∧ y ≤ 2200 ∧ 1 ≤ m ∧ m ≤ 12)) : (¬ 1970 ≤ y) ∨ (1970 ≤ y ∧ ¬ y ≤ 2200) ∨ (1970 ≤ y ∧ y ≤ 2200 ∧ ((¬ 1 ≤ m) ∨ (1 ≤ m ∧ ¬ m ≤ 12))) := by omega
theorem impl_md_out (y m : Int) (h : ¬ (1970 ≤ y ∧ y ≤ 2200 ∧ 1 ≤ m ∧ m ≤ 12)) (w : World) :
  Calls Tryd.prog 120 #[.int .i64 y, .int .i64 m] w fun e w' => e = .returned (.int .i64 0) ∧ w' = w := by
 rcases md_key y m h with h1 | ⟨h1, h2⟩ | ⟨h1, h2, h3 | ⟨h3, h4⟩⟩
 all_goals
  clear h
  go_enter Tryd.func120, Tryd.ntmps120
  go_wp2
  go_ret
  exact ⟨rfl, rfl⟩
theorem impl_md (y m : Int) (w : World) (hL : Laid w) :
  Calls Tryd.prog 120 #[.int .i64 y, .int .i64 m] w fun e w' => e = .returned (.int .i64 (mdays y m)) ∧ w' = w := by
 unfold mdays
 by_cases h : 1970 ≤ y ∧ y ≤ 2200 ∧ 1 ≤ m ∧ m ≤ 12
 ·rw [if_pos h]
  obtain ⟨k, rfl⟩ : ∃ k : Nat, m = (k : Int) + 1 := ⟨(m - 1).toNat, by omega⟩
  exact impl_md_in y k (by omega) h.1 h.2.1 w hL
 ·rw [if_neg h]
  exact impl_md_out y m h w
theorem tab_at (k : Nat) (h : k < 12) : ([Value.int IntKind.i64 31, Value.int IntKind.i64 28, Value.int IntKind.i64 31, Value.int IntKind.i64 30, Value.int IntKind.i64 31, Value.int IntKind.i64 30, Value.int IntKind.i64 31, Value.int IntKind.i64 31, Value.int IntKind.i64 30, Value.int IntKind.i64 31, Value.int IntKind.i64 30, Value.int IntKind.i64 31] : List Value)[k] = .int .i64 (tab.getD k 0) := by
 match k, h with
 | 0, _ => rfl
 | 1, _ => rfl
 | 2, _ => rfl
 | 3, _ => rfl
 | 4, _ => rfl
 | 5, _ => rfl
 | 6, _ => rfl
 | 7, _ => rfl
 | 8, _ => rfl
 | 9, _ => rfl
 | 10, _ => rfl
 | 11, _ => rfl
theorem spec_md_in (y : Int) (k : Nat) (hk : k < 12) (y1 : 1970 ≤ y) (y2 : y ≤ 2200) (w : World) :
  Calls Tryd.prog 99 #[.int .i64 y, .int .i64 ((k : Int) + 1)] w fun e w' => e = .returned (.int .i64 (md y ((k : Int) + 1))) ∧ Below w.heap.size w w' := by
 have k1 : (1 : Int) ≤ (k : Int) + 1 := by omega
 have k2 : (k : Int) + 1 ≤ 12 := by omega
 by_cases e : k = 1
 ·subst e
  cases hl : leapB y
  ·have hi := fun w => spec_leap y w
   rw [hl] at hi
   have HM : Hid (28 = md y 2) := by
    show 28 = md y 2
    rw [md_2, hl]; rfl
   clear hl
   go_enter Tryd.func99, Tryd.ntmps99
   go_wp2_with (first | (go_at_call 98; go_in) | (go_at_call 43; go_in) | (go_at_call 115; refine (hi _).mono ?_; rintro e w' ⟨rfl, rfl⟩))
   go_ret
   exact ⟨ret_int HM.out, (Below.refl _ _).alloc (Nat.le_refl _) _⟩
  ·have hi := fun w => spec_leap y w
   rw [hl] at hi
   have HM : Hid (29 = md y 2) := by
    show 29 = md y 2
    rw [md_2, hl]; rfl
   clear hl
   go_enter Tryd.func99, Tryd.ntmps99
   go_wp2_with (first | (go_at_call 98; go_in) | (go_at_call 43; go_in) | (go_at_call 115; refine (hi _).mono ?_; rintro e w' ⟨rfl, rfl⟩))
   go_ret
   exact ⟨ret_int HM.out, Below.refl _ _⟩
 ·have ne : ¬ (k : Int) + 1 = 2 := by omega
  have nf : ((k : Int) + 1 == 2) = false := by simpa using ne
  have HM := hid_intro (tab_md y k hk fun h => absurd h e)
  have HK := hid_intro hk
  clear e
  go_enter Tryd.func99, Tryd.ntmps99
  go_wp2_with (first | (go_at_call 98; go_in) | (go_at_call 43; go_in) | (go_at_call 115; refine (spec_leap y _).mono ?_; rintro e w' ⟨rfl, rfl⟩))
  go_ret
  exact ⟨(congrArg Ending.returned (tab_at k HK.out)).trans (ret_int HM.out), (Below.refl _ _).alloc (Nat.le_refl _) _⟩
theorem spec_md_out (y m : Int) (h : ¬ (1970 ≤ y ∧ y ≤ 2200 ∧ 1 ≤ m ∧ m ≤ 12)) (w : World) :
  Calls Tryd.prog 99 #[.int .i64 y, .int .i64 m] w fun e w' => e = .returned (.int .i64 0) ∧ w' = w := by
 rcases md_key y m h with h1 | ⟨h1, h2⟩ | ⟨h1, h2, h3 | ⟨h3, h4⟩⟩
 all_goals
  clear h
  go_enter Tryd.func99, Tryd.ntmps99
  go_wp2
  go_ret
  exact ⟨rfl, rfl⟩
theorem spec_md (y m : Int) (w : World) :
  Calls Tryd.prog 99 #[.int .i64 y, .int .i64 m] w fun e w' => e = .returned (.int .i64 (mdays y m)) ∧ Below w.heap.size w w' := by
 unfold mdays
 by_cases h : 1970 ≤ y ∧ y ≤ 2200 ∧ 1 ≤ m ∧ m ≤ 12
 ·rw [if_pos h]
  obtain ⟨k, rfl⟩ : ∃ k : Nat, m = (k : Int) + 1 := ⟨(m - 1).toNat, by omega⟩
  exact spec_md_in y k (by omega) h.1 h.2.1 w
 ·rw [if_neg h]
  exact (spec_md_out y m h w).mono fun e w' ⟨h1, h2⟩ => ⟨h1, h2 ▸ Below.refl _ _⟩
/-- A date as the program has it. -/
def date (y m d : Int) : Value := .agg #[.int .i64 y, .int .i64 m, .int .i64 d]
end DateR
end Go.Proofs.YtnlmpejgiakepaaDoor
namespace Go.Proofs.YtnlmpejgiakepaaDoor
open Go.ChangeShapes Go.WideShapes Go.ChangeAt Go.RowKit
set_option linter.unusedVariables false
namespace DateR
open DateM
theorem is_any (n low high : Int) (w : World) :
  Calls Tryd.prog 43 #[.int .i64 n, .int .i64 low, .int .i64 high] w fun e w' => e = .returned (.bool (decide (low ≤ n ∧ n ≤ high))) ∧ w' = w := by
 by_cases h1 : low ≤ n
 ·go_enter Tryd.func43, Tryd.ntmps43
  go_wp2
  go_ret
  exact ⟨ret_bool (by simp [h1]), rfl⟩
 ·go_enter Tryd.func43, Tryd.ntmps43
  go_wp2
  go_ret
  exact ⟨ret_bool (by rw [decide_eq_false (show ¬ low ≤ n by omega)]; rfl), rfl⟩
theorem year_any (n : Int) (w : World) :
  Calls Tryd.prog 98 #[.int .i64 n] w fun e w' => e = .returned (.bool (decide (1970 ≤ n ∧ n ≤ 2200))) ∧ w' = w := by
 go_enter Tryd.func98, Tryd.ntmps98
 go_wp2_with (go_at_call 43; refine (is_any _ _ _ _).mono ?_; rintro e w' ⟨rfl, rfl⟩)
 go_ret
 exact ⟨ret_bool (by simp), rfl⟩
end DateR
end Go.Proofs.YtnlmpejgiakepaaDoor
namespace Go.Proofs.YtnlmpejgiakepaaDoor
open Go.ChangeShapes Go.WideShapes Go.ChangeAt Go.RowKit
set_option linter.unusedVariables false
namespace DateR
open DateM
theorem impl_yd (y : Int) (w : World) : Calls Tryd.prog 110 #[.int .i64 y] w fun e w' => e = .returned (.int .i64 (yd y)) ∧ w' = w := by
 have hi := fun w => impl_leap y w
 unfold yd
 cases hl : leapB y
 all_goals
  rw [hl] at hi
  clear hl
  go_enter Tryd.func110, Tryd.ntmps110
  go_wp2_with (go_at_call 119; refine (hi _).mono ?_; rintro e w' ⟨rfl, rfl⟩)
  go_ret
  exact ⟨rfl, rfl⟩
theorem spec_yd (y : Int) (w : World) : Calls Tryd.prog 97 #[.int .i64 y] w fun e w' => e = .returned (.int .i64 (yd y)) ∧ w' = w := by
 have hi := fun w => spec_leap y w
 unfold yd
 cases hl : leapB y
 all_goals
  rw [hl] at hi
  clear hl
  go_enter Tryd.func97, Tryd.ntmps97
  go_wp2_with (go_at_call 115; refine (hi _).mono ?_; rintro e w' ⟨rfl, rfl⟩)
  go_ret
  exact ⟨rfl, rfl⟩
theorem add_year (D : Int) (k : Nat) (h1 : 0 ≤ D) (h2 : D ≤ 30) (hk : k ≤ 230) : wrap64 (D + ys k + yd (1970 + (k : Int))) = D + ys (k + 1) := by
 have a := ys_bd k
 have b := yd_bd (1970 + (k : Int))
 rw [ys_succ]
 unfold wrap64
 omega
theorem add_month (E y : Int) (k : Nat) (h1 : 0 ≤ E) (h2 : E ≤ 90000) (hk : k < 12) (y1 : 1970 ≤ y) (y2 : y ≤ 2200) : wrap64 (E + ms y k + mdays y ((k : Int) + 1)) = E + ms y (k + 1) := by
 have a := ms_bd y k
 have b := md_bd y ((k : Int) + 1)
 have c : mdays y ((k : Int) + 1) = md y ((k : Int) + 1) := if_pos (by omega)
 rw [c, ms_succ]
 unfold wrap64
 omega
theorem day_parts (y m d : Int) (h : rightB y m d = true) : ∃ K M : Nat, K ≤ 230 ∧ M ≤ 11 ∧ y - 1970 = (K : Int) ∧ m - 1 = (M : Int) ∧ 1 ≤ d ∧ d ≤ 31 ∧ Hid (num y m d = d - 1 + ys K + ms y M) ∧ 1970 ≤ y ∧ y ≤ 2200 ∧ 1 ≤ m ∧ m ≤ 12 := by
 obtain ⟨y1, y2, m1, m2, d1, d2⟩ := (right_iff y m d).1 h
 have b := md_bd y m
 refine ⟨(y - 1970).toNat, (m - 1).toNat, by omega, by omega, by omega, by omega, d1, by omega, rfl, y1, y2, m1, m2⟩
end DateR
end Go.Proofs.YtnlmpejgiakepaaDoor
namespace Go.Proofs.YtnlmpejgiakepaaDoor
open Go.ChangeShapes Go.WideShapes Go.ChangeAt Go.RowKit
set_option linter.unusedVariables false
namespace DateR
open DateM
theorem less_month (y left : Int) (j J : Nat) (h1 : ms y J ≤ left) (h2 : left < ms y (J + 1)) (hj : j ≤ J) (hJ : J < 12) (y1 : 1970 ≤ y) (y2 : y ≤ 2200) :
  ∃ L X : Int, L = left - ms y j ∧ X = mdays y ((j : Int) + 1) ∧ 0 ≤ L ∧ L ≤ 400 ∧ 28 ≤ X ∧ X ≤ 31 ∧ (j < J → ¬ L < X) ∧ (j = J → L < X) ∧ L - X = left - ms y (j + 1) := by
 have a := ms_mono y hj
 have b := ms_bd y (J + 1)
 have b2 := ms_bd y j
 have c : mdays y ((j : Int) + 1) = md y ((j : Int) + 1) := if_pos (by omega)
 have d := md_bd y ((j : Int) + 1)
 have e := ms_succ y j
 refine ⟨_, _, rfl, rfl, by omega, by omega, by omega, by omega, fun h => ?_, fun h => ?_, by omega⟩
 ·have := ms_mono y (show j + 1 ≤ J from h)
  omega
 ·subst h; omega
set_option maxRecDepth 100000 in
set_option maxHeartbeats 4000000 in
theorem iny (y left : Int) (J : Nat) (h1 : ms y J ≤ left) (h2 : left < ms y (J + 1)) (hJ : J < 12) (y1 : 1970 ≤ y) (y2 : y ≤ 2200) (w : World) (hL : Laid w) :
  Calls Tryd.prog 111 #[.int .i64 y, .int .i64 left] w fun e w' => e = .returned (date y ((J : Int) + 1) (left - ms y J + 1)) ∧ Below w.heap.size w w' := by
 have HB0 := hid_intro ((Below.refl w.heap.size w).alloc (Nat.le_refl _) (Obj.cells #[.int .i64 0, .int .i64 0, .int .i64 0] 112))
 have HL := hid_intro (hL.below HB0.out)
 have H := fun j hj => less_month y left j J h1 h2 hj hJ y1 y2
 have HH := hid_intro H
 clear H hL h1 h2
 go_enter Tryd.func111, Tryd.ntmps111
 go_wp2_with fail
 go_loop [1, 7] (fun x z => ∃ j : Nat, j ≤ J ∧ z = .int .i64 j ∧ x = .int .i64 (left - ms y j)) (fun _ z => J + 1 - (intOf z).toNat)
 case atStart => exact ⟨0, by omega, rfl, by simp [ms]⟩
 case round =>
  obtain ⟨j, hj, rfl, rfl⟩ := hrel
  obtain ⟨L, X, hLe, hX, l0, l1, x0, x1, f1, f2, f3⟩ := HH.out j hj
  have HI := hid_intro (impl_md y ((j : Int) + 1) _ HL.out)
  rw [← hX] at HI
  rw [← hLe]
  have HF := hid_intro f3
  have j2 : (j : Int) < 12 := by omega
  have HLe := hid_intro hLe
  clear hLe hX f3
  by_cases hlt : j < J
  ·have hn := f1 hlt
   clear f1 f2
   go_wp2_with (go_at_call 120; refine HI.out.mono ?_; rintro e w' ⟨rfl, rfl⟩)
   go_round
   case rel => exact ⟨j + 1, by omega, by go_num, by rw [HF.out]⟩
   case measure => simp [intOf]; omega
  ·obtain rfl : j = J := by omega
   have hn := f2 rfl
   clear f1 f2
   go_wp2_with (go_at_call 120; refine HI.out.mono ?_; rintro e w' ⟨rfl, rfl⟩)
   rw [← HLe.out]
   refine bodyPost_ret (v := date y ((j : Int) + 1) (L + 1)) (by simp [date, results, Tryd.results111, go_sem]) rfl ⟨rfl, ?_⟩
   repeat' first | exact HB0.out | apply Below.setCell
   all_goals first | exact Nat.le_refl _ | exact (Below.refl _ _).alloc (Nat.le_refl _) _
theorem less_year (day : Int) (j K : Nat) (h1 : ys K ≤ day) (h2 : day < ys (K + 1)) (hj : j ≤ K) (hd : day ≤ 100000) :
  ∃ L X : Int, L = day - ys j ∧ X = yd (1970 + (j : Int)) ∧ 0 ≤ L ∧ L ≤ 100000 ∧ 365 ≤ X ∧ X ≤ 366 ∧ (j < K → ¬ L < X) ∧ (j = K → L < X) ∧ L - X = day - ys (j + 1) := by
 have a := ys_mono hj
 have b2 := ys_bd j
 have d := yd_bd (1970 + (j : Int))
 have e := ys_succ j
 refine ⟨_, _, rfl, rfl, by omega, by omega, by omega, by omega, fun h => ?_, fun h => ?_, by omega⟩
 ·have := ys_mono (show j + 1 ≤ K from h)
  omega
 ·subst h; omega
set_option maxRecDepth 100000 in
set_option maxHeartbeats 4000000 in
theorem impl_dateof_in (day : Int) (K J : Nat) (d0 : 0 ≤ day) (d1 : day ≤ 100000) (h1 : ys K ≤ day) (h2 : day < ys (K + 1)) (hK : K ≤ 230) (m1 : ms (1970 + (K : Int)) J ≤ day - ys K) (m2 : day - ys K < ms (1970 + (K : Int)) (J + 1)) (hJ : J < 12) (w : World) (hL : Laid w) :
  Calls Tryd.prog 87 #[.int .i64 day] w fun e w' => e = .returned (date (1970 + (K : Int)) ((J : Int) + 1) (day - ys K - ms (1970 + (K : Int)) J + 1)) ∧ Below w.heap.size w w' := by
 have HB0 := hid_intro ((Below.refl w.heap.size w).alloc (Nat.le_refl _) (Obj.cells #[.int .i64 0, .int .i64 0, .int .i64 0] 112))
 have HL := hid_intro (hL.below HB0.out)
 have HH := hid_intro (fun j hj => less_year day j K h1 h2 hj d1)
 have HY := hid_intro (fun w hL => iny (1970 + (K : Int)) (day - ys K) J m1 m2 hJ (by omega) (by omega) w hL)
 clear hL h1 h2 m1 m2
 go_enter Tryd.func87, Tryd.ntmps87
 go_wp2_with (first | (go_at_call 109; go_in) | (go_at_call 85; go_in))
 go_loop [3, 11] (fun x z => ∃ j : Nat, j ≤ K ∧ z = .int .i64 j ∧ x = .int .i64 (day - ys j)) (fun _ z => K + 1 - (intOf z).toNat)
 case atStart => exact ⟨0, by omega, rfl, by simp [ys]⟩
 case round =>
  obtain ⟨j, hj, rfl, rfl⟩ := hrel
  obtain ⟨L, X, hLe, hX, l0, l1, x0, x1, f1, f2, f3⟩ := HH.out j hj
  have HI := hid_intro (fun w => impl_yd (1970 + (j : Int)) w)
  rw [← hX] at HI
  rw [← hLe]
  have HF := hid_intro f3
  have j2 : (j : Int) < 231 := by omega
  have HLe := hid_intro hLe
  clear hLe hX f3
  by_cases hlt : j < K
  ·have hn := f1 hlt
   clear f1 f2
   go_wp2_with (go_at_call 110; refine (HI.out _).mono ?_; rintro e w' ⟨rfl, rfl⟩)
   go_round
   case rel => exact ⟨j + 1, by omega, by go_num, by rw [HF.out]⟩
   case measure => simp [intOf]; omega
  ·obtain rfl : j = K := by omega
   have hn := f2 rfl
   rw [← HLe.out] at HY
   obtain ⟨D, hD⟩ : ∃ D, D = L - ms (1970 + (j : Int)) J + 1 := ⟨_, rfl⟩
   rw [← hD] at HY
   have HD := hid_intro hD
   clear f1 f2 hD HH
   unfold date at *
   go_wp2_with (first | (go_at_call 110; refine (HI.out _).mono ?_; rintro e w' ⟨rfl, rfl⟩) | (go_at_call 111; refine (HY.out _ HL.out).mono ?_; rintro e w2 ⟨rfl, hb⟩; obtain ⟨hc, hz⟩ := bcell hb))
   refine bodyPost_ret (v := date (1970 + (j : Int)) ((J : Int) + 1) D) (by simp [date, results, Tryd.results87, go_sem, hc]) rfl ⟨by rw [HD.out, HLe.out], ?_⟩
   exact (((bel_alloc hb).setCell (by simp) _).setCell (by simp) _).setCell (by simp) _
theorem past_year (day : Int) (j K : Nat) (h1 : ys K ≤ day) (hK : 231 ≤ K) (hj : j ≤ 231) (hd : day ≤ 100000) (d0 : 0 ≤ day) :
  ∃ L X : Int, L = day - ys j ∧ X = yd (1970 + (j : Int)) ∧ 0 ≤ L ∧ L ≤ 100000 ∧ 365 ≤ X ∧ X ≤ 366 ∧ (j < 231 → ¬ L < X) ∧ L - X = day - ys (j + 1) := by
 have a := ys_mono (show j ≤ K by omega)
 have b2 := ys_bd j
 have d := yd_bd (1970 + (j : Int))
 have e := ys_succ j
 refine ⟨_, _, rfl, rfl, by omega, by omega, by omega, by omega, fun h => ?_, by omega⟩
 have := ys_mono (show j + 1 ≤ K by omega)
 omega
set_option maxRecDepth 100000 in
set_option maxHeartbeats 4000000 in
theorem impl_dateof_past (day : Int) (K : Nat) (d0 : 0 ≤ day) (d1 : day ≤ 100000) (h1 : ys K ≤ day) (hK : 231 ≤ K) (w : World) :
  Calls Tryd.prog 87 #[.int .i64 day] w fun e w' => e = .returned (date 0 0 0) ∧ Below w.heap.size w w' := by
 have HB0 := hid_intro ((Below.refl w.heap.size w).alloc (Nat.le_refl _) (Obj.cells #[.int .i64 0, .int .i64 0, .int .i64 0] 112))
 have HH := hid_intro (fun j hj => past_year day j K h1 hK hj d1 d0)
 clear h1 hK
 go_enter Tryd.func87, Tryd.ntmps87
 go_wp2_with (first | (go_at_call 109; go_in) | (go_at_call 85; go_in))
 go_loop [3, 11] (fun x z => ∃ j : Nat, j ≤ 231 ∧ z = .int .i64 j ∧ x = .int .i64 (day - ys j)) (fun _ z => 232 - (intOf z).toNat)
 case atStart => exact ⟨0, by omega, rfl, by simp [ys]⟩
 case round =>
  obtain ⟨j, hj, rfl, rfl⟩ := hrel
  obtain ⟨L, X, hLe, hX, l0, l1, x0, x1, f1, f3⟩ := HH.out j hj
  have HI := hid_intro (fun w => impl_yd (1970 + (j : Int)) w)
  rw [← hX] at HI
  rw [← hLe]
  have HF := hid_intro f3
  clear hLe hX f3
  by_cases hlt : j < 231
  ·have hn := f1 hlt
   have j2 : (j : Int) < 231 := by omega
   clear f1
   go_wp2_with (go_at_call 110; refine (HI.out _).mono ?_; rintro e w' ⟨rfl, rfl⟩)
   go_round
   case rel => exact ⟨j + 1, by omega, by go_num, by rw [HF.out]⟩
   case measure => simp [intOf]; omega
  ·have j2 : ¬ (j : Int) < 231 := by omega
   clear f1
   go_wp2_with fail
   refine bodyPost_ret (v := date 0 0 0) (by simp [date, results, Tryd.results87, go_sem]) rfl ⟨rfl, ?_⟩
   repeat' first | exact HB0.out | apply Below.setCell
   all_goals first | exact Nat.le_refl _ | exact (Below.refl _ _).alloc (Nat.le_refl _) _
theorem impl_dateof_none (day : Int) (h : day < 0 ∨ 100000 < day) (w : World) :
  Calls Tryd.prog 87 #[.int .i64 day] w fun e w' => e = .returned (date 0 0 0) ∧ Below w.heap.size w w' := by
 have key : (¬ 0 ≤ day) ∨ (0 ≤ day ∧ ¬ day ≤ 100000) := by omega
 clear h
 rcases key with h1 | ⟨h1, h2⟩
 all_goals
  go_enter Tryd.func87, Tryd.ntmps87
  go_wp2
  refine bodyPost_ret (v := date 0 0 0) (by simp [date, results, Tryd.results87, go_sem]) rfl ⟨rfl, ?_⟩
  repeat' first | exact Below.refl _ _ | apply Below.setCell | apply Below.alloc
  all_goals first | omega | (simp; done) | (simp; omega)
end DateR
end Go.Proofs.YtnlmpejgiakepaaDoor
namespace Go.Proofs.YtnlmpejgiakepaaDoor
open Go.ChangeShapes Go.WideShapes Go.ChangeAt Go.RowKit
set_option linter.unusedVariables false
namespace DateR
open DateM
/-- The model's two blocks: what is handed back, and the date that is reckoned. -/
structure Two (w wr : World) (y m : Int) : Prop where
 bel : Below w.heap.size w wr
 lt : w.heap.size + 1 < wr.heap.size
 r0 : wr.cell? ⟨w.heap.size, 0, none⟩ = some (.int .i64 0)
 r1 : wr.cell? ⟨w.heap.size, 1, none⟩ = some (.int .i64 0)
 r2 : wr.cell? ⟨w.heap.size, 2, none⟩ = some (.int .i64 0)
 c0 : wr.cell? ⟨w.heap.size + 1, 0, none⟩ = some (.int .i64 y)
 c1 : wr.cell? ⟨w.heap.size + 1, 1, none⟩ = some (.int .i64 m)
 c2 : wr.cell? ⟨w.heap.size + 1, 2, none⟩ = some (.int .i64 0)
 f0 : wr.frozen? ⟨w.heap.size, 0, none⟩ = false
 f1 : wr.frozen? ⟨w.heap.size, 1, none⟩ = false
 f2 : wr.frozen? ⟨w.heap.size, 2, none⟩ = false
 g0 : wr.frozen? ⟨w.heap.size + 1, 0, none⟩ = false
 g1 : wr.frozen? ⟨w.heap.size + 1, 1, none⟩ = false
 g2 : wr.frozen? ⟨w.heap.size + 1, 2, none⟩ = false
theorem Two.start (w : World) : Two w ((w.alloc (Obj.cells #[.int .i64 0, .int .i64 0, .int .i64 0] 112)).alloc (Obj.cells #[.int .i64 1970, .int .i64 1, .int .i64 0] 112)) 1970 1 where
 bel := ((Below.refl _ _).alloc (Nat.le_refl _) _).alloc (by simp) _
 lt := by simp
 r0 := by simp [go_sem]
 r1 := by simp [go_sem]
 r2 := by simp [go_sem]
 c0 := by simp [go_sem]
 c1 := by simp [go_sem]
 c2 := by simp [go_sem]
 f0 := by simp [go_sem]
 f1 := by simp [go_sem]
 f2 := by simp [go_sem]
 g0 := by simp [go_sem]
 g1 := by simp [go_sem]
 g2 := by simp [go_sem]
theorem Two.below {w w1 w2 : World} {y m : Int} (h : Two w w1 y m) (hb : Below w1.heap.size w1 w2) : Two w w2 y m where
 bel := h.bel.trans (hb.mono h.bel.size)
 lt := by have := hb.size; have := h.lt; omega
 r0 := (hb.cell (p := ⟨w.heap.size, 0, none⟩) (by have := h.lt; simp only; omega)).trans h.r0
 r1 := (hb.cell (p := ⟨w.heap.size, 1, none⟩) (by have := h.lt; simp only; omega)).trans h.r1
 r2 := (hb.cell (p := ⟨w.heap.size, 2, none⟩) (by have := h.lt; simp only; omega)).trans h.r2
 c0 := (hb.cell (p := ⟨w.heap.size + 1, 0, none⟩) h.lt).trans h.c0
 c1 := (hb.cell (p := ⟨w.heap.size + 1, 1, none⟩) h.lt).trans h.c1
 c2 := (hb.cell (p := ⟨w.heap.size + 1, 2, none⟩) h.lt).trans h.c2
 f0 := (hb.frozen (p := ⟨w.heap.size, 0, none⟩) (by have := h.lt; simp only; omega)).trans h.f0
 f1 := (hb.frozen (p := ⟨w.heap.size, 1, none⟩) (by have := h.lt; simp only; omega)).trans h.f1
 f2 := (hb.frozen (p := ⟨w.heap.size, 2, none⟩) (by have := h.lt; simp only; omega)).trans h.f2
 g0 := (hb.frozen (p := ⟨w.heap.size + 1, 0, none⟩) h.lt).trans h.g0
 g1 := (hb.frozen (p := ⟨w.heap.size + 1, 1, none⟩) h.lt).trans h.g1
 g2 := (hb.frozen (p := ⟨w.heap.size + 1, 2, none⟩) h.lt).trans h.g2
theorem Two.year {w wr : World} {y m : Int} (h : Two w wr y m) (v : Int) : Two w (wr.setCell ⟨w.heap.size + 1, 0, none⟩ (.int .i64 v)) v m where
 bel := h.bel.setCell (by simp) _
 lt := by have := h.lt; simpa using this
 r0 := by simp [go_sem, h.r0]
 r1 := by simp [go_sem, h.r1]
 r2 := by simp [go_sem, h.r2]
 c0 := by simp [go_sem, h.c0]
 c1 := by simp [go_sem, h.c1]
 c2 := by simp [go_sem, h.c2]
 f0 := by simp [go_sem, h.f0]
 f1 := by simp [go_sem, h.f1]
 f2 := by simp [go_sem, h.f2]
 g0 := by simp [go_sem, h.g0]
 g1 := by simp [go_sem, h.g1]
 g2 := by simp [go_sem, h.g2]
theorem Two.month {w wr : World} {y m : Int} (h : Two w wr y m) (v : Int) : Two w (wr.setCell ⟨w.heap.size + 1, 1, none⟩ (.int .i64 v)) y v where
 bel := h.bel.setCell (by simp) _
 lt := by have := h.lt; simpa using this
 r0 := by simp [go_sem, h.r0]
 r1 := by simp [go_sem, h.r1]
 r2 := by simp [go_sem, h.r2]
 c0 := by simp [go_sem, h.c0]
 c1 := by simp [go_sem, h.c1]
 c2 := by simp [go_sem, h.c2]
 f0 := by simp [go_sem, h.f0]
 f1 := by simp [go_sem, h.f1]
 f2 := by simp [go_sem, h.f2]
 g0 := by simp [go_sem, h.g0]
 g1 := by simp [go_sem, h.g1]
 g2 := by simp [go_sem, h.g2]
/-- What the model hands back of a day. -/
def outOf (day : Int) (K J : Nat) : Value := if K ≤ 230 then date (1970 + (K : Int)) ((J : Int) + 1) (day - ys K - ms (1970 + (K : Int)) J + 1) else date 0 0 0
set_option maxRecDepth 100000 in
set_option maxHeartbeats 4000000 in
theorem spec_dateof_in (day : Int) (K J : Nat) (d0 : 0 ≤ day) (d1 : day ≤ 100000) (h1 : ys K ≤ day) (h2 : day < ys (K + 1)) (hm1 : ms (1970 + (K : Int)) J ≤ day - ys K) (hm2 : day - ys K < ms (1970 + (K : Int)) (J + 1)) (hJ : J < 12) (w : World) :
  Calls Tryd.prog 72 #[.int .i64 day] w fun e w' => e = .returned (outOf day K J) ∧ Below w.heap.size w w' := by
 have HH := hid_intro (fun j hj => less_year day j K h1 h2 hj d1)
 have hK : K ≤ 300 := by have := ys_bd K; omega
 have HM : Hid (K ≤ 230 → ∀ j, j ≤ J → _) := hid_intro (fun hK j hj => less_month (1970 + (K : Int)) (day - ys K) j J hm1 hm2 hj hJ (by omega) (by omega))
 clear h1 h2 hm1 hm2
 have hT := Two.start w
 obtain ⟨W, hW⟩ : ∃ W, W = (w.alloc (Obj.cells #[.int .i64 0, .int .i64 0, .int .i64 0] 112)).alloc (Obj.cells #[.int .i64 1970, .int .i64 1, .int .i64 0] 112) := ⟨_, rfl⟩
 rw [← hW] at hT
 have HT := hid_intro hT
 have HW := hid_intro hW
 clear hT hW
 go_enter Tryd.func72, Tryd.ntmps72
 go_wp2_with (first | (go_at_call 96; go_in) | (go_at_call 43; go_in))
 rw [← HW.out]
 go_loopw [0] (fun x wr => ∃ j : Nat, j ≤ K ∧ x = .int .i64 (day - ys j) ∧ Hid (Two w wr (1970 + (j : Int)) 1)) (fun x _ => (intOf x).toNat)
 case atStart => exact ⟨0, by omega, by simp [ys], HT⟩
 case round =>
  obtain ⟨j, hj, rfl, HR⟩ := hrel
  obtain ⟨L, X, hLe, hX, l0, l1, x0, x1, f1, f2, f3⟩ := HH.out j hj
  have hc0 := HR.out.c0
  have hg0 := HR.out.g0
  have HI := hid_intro (fun w => spec_yd (1970 + (j : Int)) w)
  rw [← hX] at HI
  rw [← hLe]
  have HF := hid_intro f3
  have HLe := hid_intro hLe
  have j2 : (j : Int) ≤ 300 := by omega
  clear hLe hX f3
  by_cases hlt : j < K
  ·have hn := f1 hlt
   have hn2 : X ≤ L := by omega
   clear f1 f2
   go_wp2_with (go_at_call 97; refine (HI.out _).mono ?_; rintro e w' ⟨rfl, rfl⟩)
   go_roundw
   case rel => exact ⟨j + 1, by omega, by rw [HF.out], hid_intro (by have := HR.out.year (1970 + (j : Int) + 1); rw [show (1970 + ((j + 1 : Nat) : Int)) = 1970 + (j : Int) + 1 by omega]; exact this)⟩
   case measure => simp [intOf]; omega
  ·obtain rfl : j = K := by omega
   have hn := f2 rfl
   have hn2 : ¬ X ≤ L := by omega
   clear f1 f2
   by_cases hp : j ≤ 230
   ·have q1 : (1970 : Int) ≤ 1970 + (j : Int) := by omega
    have q2 : (1970 : Int) + (j : Int) ≤ 2200 := by omega
    go_wp2_with (first | (go_at_call 97; refine (HI.out _).mono ?_; rintro e w' ⟨rfl, rfl⟩) | (go_at_call 98; refine (year_any _ _).mono ?_; rintro e w' ⟨rfl, rfl⟩))
    have HMJ := hid_intro (HM.out hp)
    rw [← HLe.out] at HMJ
    have HO : Hid (date (1970 + (j : Int)) ((J : Int) + 1) (L - ms (1970 + (j : Int)) J + 1) = outOf day j J) := hid_intro (by rw [HLe.out]; exact (if_pos hp).symm)
    clear HM HLe HF HH hn hn2 hc0 hg0
    go_loopw [0] (fun x wr => ∃ i : Nat, i ≤ J ∧ x = .int .i64 (L - ms (1970 + (j : Int)) i) ∧ Hid (Two w wr (1970 + (j : Int)) ((i : Int) + 1))) (fun x _ => (intOf x).toNat)
    case atStart => exact ⟨0, by omega, by simp [ms], HR⟩
    case round =>
     obtain ⟨i, hi, rfl, HR2⟩ := hrel
     obtain ⟨Z, Y, hZe, hY, z0, z1, y0, y1, f1, f2, f3⟩ := HMJ.out i hi
     have hc0 := HR2.out.c0
     have hc1 := HR2.out.c1
     have hg1 := HR2.out.g1
     have HMD := hid_intro (fun w => spec_md (1970 + (j : Int)) ((i : Int) + 1) w)
     rw [← hY] at HMD
     rw [← hZe]
     have HF := hid_intro f3
     have HZe := hid_intro hZe
     have i2 : (i : Int) < 12 := by omega
     clear hZe hY f3
     by_cases hlt2 : i < J
     ·have hn := f1 hlt2
      have hn2 : Y ≤ Z := by omega
      have i3 : (i : Int) + 1 < 12 := by omega
      clear f1 f2
      go_wp2_with fail
      refine (HMD.out _).mono ?_
      rintro e w2 ⟨rfl, hb2⟩
      have HR3 := hid_intro (HR2.out.below hb2)
      have hc0 := HR3.out.c0
      have hc1 := HR3.out.c1
      have hg1 := HR3.out.g1
      clear hb2
      go_wp2_with fail
      refine (HMD.out _).mono ?_
      rintro e w3 ⟨rfl, hb3⟩
      have HR4 := hid_intro (HR3.out.below hb3)
      have hc0 := HR4.out.c0
      have hc1 := HR4.out.c1
      have hg1 := HR4.out.g1
      clear hb3
      go_wp2_with fail
      go_roundw
      case rel => exact ⟨i + 1, by omega, by rw [HF.out], hid_intro (by have := HR4.out.month ((i : Int) + 1 + 1); rw [show (((i + 1 : Nat) : Int) + 1) = (i : Int) + 1 + 1 by omega]; exact this)⟩
      case measure => simp [intOf]; omega
     ·obtain rfl : i = J := by omega
      have hn := f2 rfl
      have hn2 : ¬ Y ≤ Z := by omega
      clear f1 f2
      rw [← HZe.out] at HO
      by_cases hl : i = 11
      ·subst hl
       have hc2 := HR2.out.c2
       have hg2 := HR2.out.g2
       have r0 := HR2.out.r0
       have r1 := HR2.out.r1
       have r2 := HR2.out.r2
       have e0 := HR2.out.f0
       have e1 := HR2.out.f1
       have e2 := HR2.out.f2
       go_wp2_with fail
       refine bodyPost_ret (v := date (1970 + (j : Int)) 12 (Z + 1)) (by simp [date, results, Tryd.results72, go_sem, r0, r1, r2]) rfl ⟨by rw [← HO.out]; rfl, ?_⟩
       repeat' first | exact HR2.out.bel | apply Below.setCell
       all_goals simp
      ·have i3 : (i : Int) + 1 < 12 := by omega
       go_wp2_with fail
       refine (HMD.out _).mono ?_
       rintro e w2 ⟨rfl, hb2⟩
       have HR3 := hid_intro (HR2.out.below hb2)
       have hc0 := HR3.out.c0
       have hc1 := HR3.out.c1
       have hc2 := HR3.out.c2
       have hg2 := HR3.out.g2
       have r0 := HR3.out.r0
       have r1 := HR3.out.r1
       have r2 := HR3.out.r2
       have e0 := HR3.out.f0
       have e1 := HR3.out.f1
       have e2 := HR3.out.f2
       clear hb2
       go_wp2_with fail
       refine bodyPost_ret (v := date (1970 + (j : Int)) ((i : Int) + 1) (Z + 1)) (by simp [date, results, Tryd.results72, go_sem, r0, r1, r2]) rfl ⟨by rw [← HO.out], ?_⟩
       repeat' first | exact HR3.out.bel | apply Below.setCell
       all_goals simp
   ·have q1 : (1970 : Int) ≤ 1970 + (j : Int) := by omega
    have q2 : ¬ (1970 : Int) + (j : Int) ≤ 2200 := by omega
    have q3 : decide ((1970 : Int) + (j : Int) ≤ 2200) = false := decide_eq_false q2
    have r0 := HR.out.r0
    have r1 := HR.out.r1
    have r2 := HR.out.r2
    have e0 := HR.out.f0
    have e1 := HR.out.f1
    have e2 := HR.out.f2
    have HO : Hid (date 0 0 0 = outOf day j J) := hid_intro (if_neg hp).symm
    go_wp2_with (first | (go_at_call 97; refine (HI.out _).mono ?_; rintro e w' ⟨rfl, rfl⟩) | (go_at_call 98; refine (year_any _ _).mono ?_; rintro e w' ⟨rfl, rfl⟩))
    refine bodyPost_ret (v := date 0 0 0) (by simp [date, results, Tryd.results72, go_sem, r0, r1, r2]) rfl ⟨by rw [HO.out], ?_⟩
    repeat' first | exact HR.out.bel | apply Below.setCell
    all_goals exact Nat.le_refl _
end DateR
end Go.Proofs.YtnlmpejgiakepaaDoor
namespace Go.Proofs.YtnlmpejgiakepaaDoor
open Go.ChangeShapes Go.WideShapes Go.ChangeAt Go.RowKit
set_option linter.unusedVariables false
namespace DateR
open DateM
theorem spec_dateof_none (day : Int) (h : day < 0 ∨ 100000 < day) (w : World) :
  Calls Tryd.prog 72 #[.int .i64 day] w fun e w' => e = .returned (date 0 0 0) ∧ Below w.heap.size w w' := by
 have key : (¬ 0 ≤ day) ∨ (0 ≤ day ∧ ¬ day ≤ 100000) := by omega
 clear h
 rcases key with h1 | ⟨h1, h2⟩
 all_goals
  go_enter Tryd.func72, Tryd.ntmps72
  go_wp2
  refine bodyPost_ret (v := date 0 0 0) (by simp [date, results, Tryd.results72, go_sem]) rfl ⟨rfl, ?_⟩
  repeat' first | exact Below.refl _ _ | apply Below.setCell | apply Below.alloc
  all_goals first | omega | (simp; done) | (simp; omega)
theorem num_of (day : Int) (K J : Nat) (hK : K ≤ 230) (hJ : J < 12) (m1 : ms (1970 + (K : Int)) J ≤ day - ys K) (m2 : day - ys K < ms (1970 + (K : Int)) (J + 1)) :
  rightB (1970 + (K : Int)) ((J : Int) + 1) (day - ys K - ms (1970 + (K : Int)) J + 1) = true ∧ num (1970 + (K : Int)) ((J : Int) + 1) (day - ys K - ms (1970 + (K : Int)) J + 1) = day := by
 have e := ms_succ (1970 + (K : Int)) J
 refine ⟨(right_iff _ _ _).2 ⟨by omega, by omega, by omega, by omega, by omega, by omega⟩, ?_⟩
 unfold num
 rw [show (1970 + (K : Int) - 1970).toNat = K by omega, show ((J : Int) + 1 - 1).toNat = J by omega]
 omega
/-- What is known of a day's date. -/
def DateOfIs (day y m d : Int) : Prop := (0 ≤ day ∧ day < ys 231 ∧ rightB y m d = true ∧ num y m d = day) ∨ (¬ (0 ≤ day ∧ day < ys 231) ∧ y = 0 ∧ m = 0 ∧ d = 0)
theorem ys231 : ys 231 ≤ 100000 := by have := ys_bd 231; omega
theorem dateof_both (day : Int) : ∃ y m d : Int, DateOfIs day y m d ∧ (∀ w, Laid w → Calls Tryd.prog 87 #[.int .i64 day] w fun e w' => e = .returned (date y m d) ∧ Below w.heap.size w w') ∧ (∀ w, Calls Tryd.prog 72 #[.int .i64 day] w fun e w' => e = .returned (date y m d) ∧ Below w.heap.size w w') := by
 by_cases h : day < 0 ∨ 100000 < day
 ·have := ys231
  exact ⟨0, 0, 0, .inr ⟨by omega, rfl, rfl, rfl⟩, fun w _ => impl_dateof_none day h w, fun w => spec_dateof_none day h w⟩
 ·have d0 : 0 ≤ day := by omega
  have d1 : day ≤ 100000 := by omega
  obtain ⟨K, h1, h2⟩ := year_is day d0
  obtain ⟨J, hJ, m1, m2⟩ := month_is (1970 + (K : Int)) (day - ys K) (by omega) (by have := ys_succ K; omega)
  have hs := fun w => spec_dateof_in day K J d0 d1 h1 h2 m1 m2 hJ w
  unfold outOf at hs
  by_cases hK : K ≤ 230
  ·rw [if_pos hK] at hs
   obtain ⟨n1, n2⟩ := num_of day K J hK hJ m1 m2
   have := ys_mono (show K + 1 ≤ 231 by omega)
   exact ⟨_, _, _, .inl ⟨d0, by omega, n1, n2⟩, fun w hL => impl_dateof_in day K J d0 d1 h1 h2 hK m1 m2 hJ w hL, hs⟩
  ·rw [if_neg hK] at hs
   have := ys_mono (show 231 ≤ K by omega)
   exact ⟨0, 0, 0, .inr ⟨by omega, rfl, rfl, rfl⟩, fun w _ => impl_dateof_past day K d0 d1 h1 (by omega) w, hs⟩
end DateR
end Go.Proofs.YtnlmpejgiakepaaDoor
namespace Go.Proofs.YtnlmpejgiakepaaDoor
open Go.ChangeShapes Go.WideShapes Go.ChangeAt Go.RowKit
set_option linter.unusedVariables false
namespace WinR
open DateM DateR
theorem impl_month_in (n y m d : Int) (h1 : 0 ≤ n) (h2 : n ≤ 121000000) (hy1 : 1970 ≤ y) (hy2 : y ≤ 2200) (hm1 : 1 ≤ m) (hm2 : m ≤ 12) (w : World) (hL : Laid w)
  (hd : ∀ w, Laid w → Calls Tryd.prog 87 #[.int .i64 (n.tdiv 1440)] w fun e w' => e = .returned (date y m d) ∧ Below w.heap.size w w') :
  Calls Tryd.prog 58 #[.int .i64 n] w fun e w' => e = .returned (.int .i64 (12 * (y - 1970) + (m - 1))) ∧ Below w.heap.size w w' := by
 have hb : 0 ≤ n.tdiv 1440 ∧ n.tdiv 1440 ≤ 121000000 := by rw [Int.tdiv_eq_ediv_of_nonneg h1]; omega
 obtain ⟨b1, b2⟩ := hb
 generalize hq : n.tdiv 1440 = q at *
 have HD := hid_intro hd
 have HL := hid_intro hL
 clear hd hL
 unfold date at *
 go_enter Tryd.func58, Tryd.ntmps58
 go_wp2_with (first | (go_at_call 84; go_in) | (go_at_call 85; go_in) | (go_at_call 87; (try rw [hq]); refine (HD.out _ HL.out).mono ?_; rintro e w1 ⟨rfl, hb1⟩))
 go_ret
 exact ⟨ret_int (by omega), hb1.alloc hb1.size _⟩
theorem spec_month_in (n y m d : Int) (h1 : 0 ≤ n) (h2 : n ≤ 121000000) (hy1 : 1970 ≤ y) (hy2 : y ≤ 2200) (hm1 : 1 ≤ m) (hm2 : m ≤ 12) (w : World)
  (hd : ∀ w, Calls Tryd.prog 72 #[.int .i64 (n.tdiv 1440)] w fun e w' => e = .returned (date y m d) ∧ Below w.heap.size w w') :
  Calls Tryd.prog 51 #[.int .i64 n] w fun e w' => e = .returned (.int .i64 (12 * (y - 1970) + (m - 1))) ∧ Below w.heap.size w w' := by
 have hb : 0 ≤ n.tdiv 1440 ∧ n.tdiv 1440 ≤ 121000000 := by rw [Int.tdiv_eq_ediv_of_nonneg h1]; omega
 obtain ⟨b1, b2⟩ := hb
 generalize hq : n.tdiv 1440 = q at *
 have HD := hid_intro hd
 clear hd
 unfold date at *
 go_enter Tryd.func51, Tryd.ntmps51
 go_wp2_with (first | (go_at_call 72; (try rw [hq]); refine (HD.out _).mono ?_; rintro e w1 ⟨rfl, hb1⟩))
 go_ret
 exact ⟨ret_int (by omega), hb1.alloc hb1.size _⟩
theorem month_two (n : Int) (h1 : 0 ≤ n) (h2 : n ≤ 121000000) : ∃ k : Nat, k ≤ 2771 ∧ fd k ≤ n / 1440 ∧ n / 1440 < fd (k + 1) ∧ (∀ w, Laid w → Calls Tryd.prog 58 #[.int .i64 n] w fun e w' => e = .returned (.int .i64 (k : Int)) ∧ Below w.heap.size w w') ∧ (∀ w, Calls Tryd.prog 51 #[.int .i64 n] w fun e w' => e = .returned (.int .i64 (k : Int)) ∧ Below w.heap.size w w') := by
 obtain ⟨y, m, d, hd, hi, hs⟩ := dateof_both (n.tdiv 1440)
 have e : n.tdiv 1440 = n / 1440 := Int.tdiv_eq_ediv_of_nonneg h1
 have := ys_231
 rcases hd with ⟨_, _, hr, hn⟩ | ⟨hx, _⟩
 ·obtain ⟨k, k1, k2, k3, k4⟩ := num_fd y m d hr
  obtain ⟨y1, y2, m1, m2, _, _⟩ := (right_iff y m d).1 hr
  exact ⟨k, k1, by omega, by omega, fun w hL => by rw [← k2]; exact impl_month_in n y m d h1 h2 y1 y2 m1 m2 w hL hi, fun w => by rw [← k2]; exact spec_month_in n y m d h1 h2 y1 y2 m1 m2 w hs⟩
 ·omega
/-- Whether an hour lies in a month, the program's way. -/
theorem impl_hour_of (h mo : Int) (w : World) (hL : Laid w) :
  Calls Tryd.prog 104 #[.int .i64 h, .int .i64 mo] w fun e w' => e = .returned (.bool (hourIn h mo)) ∧ Below w.heap.size w w' := by
 rcases (show (¬ 0 ≤ h) ∨ (0 ≤ h ∧ ¬ h ≤ 2016666) ∨ (0 ≤ h ∧ h ≤ 2016666) by omega) with q | ⟨q, q2⟩ | ⟨q, q2⟩
 ·rw [hour_far (fun x => q x.1)]
  clear hL
  go_enter Tryd.func104, Tryd.ntmps104
  go_wp2_with (go_at_call 85; go_in)
  go_ret
  exact ⟨rfl, Below.refl _ _⟩
 ·rw [hour_far (fun x => q2 x.2)]
  clear hL
  go_enter Tryd.func104, Tryd.ntmps104
  go_wp2_with (go_at_call 85; go_in)
  go_ret
  exact ⟨rfl, Below.refl _ _⟩
 ·obtain ⟨k, k1, f1, f2, hi, hs⟩ := month_two (60 * h) (by omega) (by omega)
  rw [hour_month q q2 k rfl f1 f2]
  have HI := hid_intro (hi w hL)
  clear hL hi hs f1 f2
  have hm : h * 60 = 60 * h := by omega
  generalize hq : 60 * h = n at *
  by_cases he : (k : Int) = mo
  ·subst he
   rw [decide_eq_true rfl]
   go_enter Tryd.func104, Tryd.ntmps104
   go_wp2_with (first | (go_at_call 85; go_in) | (go_at_call 58; (try rw [hm]); refine HI.out.mono ?_; rintro e w1 ⟨rfl, hb1⟩))
   go_ret
   exact ⟨rfl, hb1⟩
  ·rw [decide_eq_false he]
   have he2 : ((k : Int) == mo) = false := by simpa using he
   go_enter Tryd.func104, Tryd.ntmps104
   go_wp2_with (first | (go_at_call 85; go_in) | (go_at_call 58; (try rw [hm]); refine HI.out.mono ?_; rintro e w1 ⟨rfl, hb1⟩))
   go_ret
   exact ⟨ret_bool (by first | rfl | simpa using he), hb1⟩
end WinR
end Go.Proofs.YtnlmpejgiakepaaDoor
namespace Go.Proofs.YtnlmpejgiakepaaDoor
open Go.ChangeShapes Go.WideShapes Go.ChangeAt Go.RowKit
set_option linter.unusedVariables false
namespace WinR
open RowG LtR
open CatR (Blk Blk.new)
open DateR (Laid)
theorem withinI (n low high : Int) (w : World) :
  Calls Tryd.prog 102 #[.int .i64 n, .int .i64 low, .int .i64 high] w fun e w' => e = .returned (.bool (decide (low ≤ n ∧ n ≤ high))) ∧ w' = w := by
 rcases (show (¬ low ≤ n) ∨ (low ≤ n ∧ ¬ n ≤ high) ∨ (low ≤ n ∧ n ≤ high) by omega) with h | ⟨h1, h2⟩ | ⟨h1, h2⟩
 all_goals
  go_enter Tryd.func102, Tryd.ntmps102
  go_wp2
  go_ret
  exact ⟨ret_bool (by first | (simp [*]; done) | (simp; omega)), rfl⟩
theorem three (b1 b2 b3 : Bool) : (b1 = false) ∨ (b1 = true ∧ b2 = false) ∨ (b1 = true ∧ b2 = true ∧ b3 = false) ∨ (b1 = true ∧ b2 = true ∧ b3 = true) := by
 cases b1 <;> cases b2 <;> cases b3 <;> simp
theorem four (b1 b2 b3 b4 : Bool) : (b1 = false) ∨ (b1 = true ∧ b2 = false) ∨ (b1 = true ∧ b2 = true ∧ b3 = false) ∨ (b1 = true ∧ b2 = true ∧ b3 = true ∧ b4 = false) ∨ (b1 = true ∧ b2 = true ∧ b3 = true ∧ b4 = true) := by
 cases b1 <;> cases b2 <;> cases b3 <;> cases b4 <;> simp
theorem isMonth_any (n : Int) (w : World) : Calls Tryd.prog 100 #[.int .i64 n] w fun e w' => e = .returned (.bool (decide (0 ≤ n ∧ n ≤ 2760))) ∧ w' = w := by
 have H := EvtR.within_any n 0 2760
 generalize decide (0 ≤ n ∧ n ≤ 2760) = b at *
 go_enter Tryd.func100, Tryd.ntmps100
 go_wp2_with (go_at_call 85; refine (H _).mono ?_; rintro e w' ⟨rfl, rfl⟩)
 go_ret
 exact ⟨rfl, rfl⟩
set_option maxHeartbeats 4000000 in
theorem impl_named (a m : ByteArray) (mo : Int) (w : World) (ha : a.size ≤ 1048576) (hm : m.size ≤ 1048576) :
  Calls Tryd.prog 73 #[.agg #[.string a, .string m, .int .i64 mo]] w fun e w' => e = .returned (.bool (namedB a m mo)) ∧ Below w.heap.size w w' := by
 unfold namedB
 have H1 := hid_intro (fun w => NameR.impl_any a w ha)
 have H2 := hid_intro (fun w => NameR.impl_any m w hm)
 have H3 := hid_intro (fun w => isMonth_any mo w)
 have HB : Hid (Below w.heap.size w (w.alloc (.cells #[.string a, .string m, .int .i64 mo] 85))) := hid_intro ((Below.refl _ _).alloc (Nat.le_refl _) _)
 have HX : Hid (∀ W, W = w.alloc (.cells #[.string a, .string m, .int .i64 mo] 85) → W.cell? ⟨w.heap.size, 0, none⟩ = some (.string a) ∧ W.cell? ⟨w.heap.size, 1, none⟩ = some (.string m) ∧ W.cell? ⟨w.heap.size, 2, none⟩ = some (.int .i64 mo)) := hid_intro (fun W h => by subst h; simp [go_sem])
 generalize NameR.nameB a = b1 at *
 generalize NameR.nameB m = b2 at *
 generalize decide (0 ≤ mo ∧ mo ≤ 2760) = b3 at *
 rcases three b1 b2 b3 with rfl | ⟨rfl, rfl⟩ | ⟨rfl, rfl, rfl⟩ | ⟨rfl, rfl, rfl⟩
 ·go_enter Tryd.func73, Tryd.ntmps73
  go_wp2_with fail
  refine (H1.out _).mono ?_
  rintro e w1 ⟨rfl, rfl⟩
  go_wp2_with fail
  go_ret
  exact ⟨rfl, HB.out⟩
 ·go_enter Tryd.func73, Tryd.ntmps73
  go_wp2_with fail
  refine (H1.out _).mono ?_
  rintro e w1 ⟨rfl, rfl⟩
  go_wp2_with fail
  refine (H2.out _).mono ?_
  rintro e w1 ⟨rfl, rfl⟩
  go_wp2_with fail
  go_ret
  exact ⟨rfl, HB.out⟩
 ·go_enter Tryd.func73, Tryd.ntmps73
  go_wp2_with fail
  refine (H1.out _).mono ?_
  rintro e w1 ⟨rfl, rfl⟩
  go_wp2_with fail
  refine (H2.out _).mono ?_
  rintro e w1 ⟨rfl, rfl⟩
  go_wp2_with fail
  refine (H3.out _).mono ?_
  rintro e w1 ⟨rfl, rfl⟩
  go_wp2_with fail
  go_ret
  exact ⟨rfl, HB.out⟩
 ·go_enter Tryd.func73, Tryd.ntmps73
  go_wp2_with fail
  refine (H1.out _).mono ?_
  rintro e w1 ⟨rfl, rfl⟩
  go_wp2_with fail
  refine (H2.out _).mono ?_
  rintro e w1 ⟨rfl, rfl⟩
  go_wp2_with fail
  refine (H3.out _).mono ?_
  rintro e w1 ⟨rfl, rfl⟩
  go_wp2_with fail
  go_ret
  exact ⟨rfl, HB.out⟩
set_option maxHeartbeats 4000000 in
theorem impl_counted (ev su mx : Int) (w : World) :
  Calls Tryd.prog 74 #[.agg #[.int .i64 ev, .int .i64 su, .int .i64 mx]] w fun e w' => e = .returned (.bool (countedB ev su mx)) ∧ Below w.heap.size w w' := by
 unfold countedB
 have H1 := hid_intro (fun w => EvtR.within_any ev 1 1000 w)
 have H2 := hid_intro (fun w => EvtR.within_any su 0 1000000000000 w)
 have H3 := hid_intro (fun w => EvtR.within_any mx 0 su w)
 have HB : Hid (Below w.heap.size w (w.alloc (.cells #[.int .i64 ev, .int .i64 su, .int .i64 mx] 87))) := hid_intro ((Below.refl _ _).alloc (Nat.le_refl _) _)
 generalize decide (1 ≤ ev ∧ ev ≤ 1000) = b1 at *
 generalize decide (0 ≤ su ∧ su ≤ 1000000000000) = b2 at *
 generalize decide (0 ≤ mx ∧ mx ≤ su) = b3 at *
 rcases three b1 b2 b3 with rfl | ⟨rfl, rfl⟩ | ⟨rfl, rfl, rfl⟩ | ⟨rfl, rfl, rfl⟩
 ·go_enter Tryd.func74, Tryd.ntmps74
  go_wp2_with fail
  refine (H1.out _).mono ?_
  rintro e w1 ⟨rfl, rfl⟩
  go_wp2_with fail
  go_ret
  exact ⟨rfl, HB.out⟩
 ·go_enter Tryd.func74, Tryd.ntmps74
  go_wp2_with fail
  refine (H1.out _).mono ?_
  rintro e w1 ⟨rfl, rfl⟩
  go_wp2_with fail
  refine (H2.out _).mono ?_
  rintro e w1 ⟨rfl, rfl⟩
  go_wp2_with fail
  go_ret
  exact ⟨rfl, HB.out⟩
 ·go_enter Tryd.func74, Tryd.ntmps74
  go_wp2_with fail
  refine (H1.out _).mono ?_
  rintro e w1 ⟨rfl, rfl⟩
  go_wp2_with fail
  refine (H2.out _).mono ?_
  rintro e w1 ⟨rfl, rfl⟩
  go_wp2_with fail
  refine (H3.out _).mono ?_
  rintro e w1 ⟨rfl, rfl⟩
  go_wp2_with fail
  go_ret
  exact ⟨rfl, HB.out⟩
 ·go_enter Tryd.func74, Tryd.ntmps74
  go_wp2_with fail
  refine (H1.out _).mono ?_
  rintro e w1 ⟨rfl, rfl⟩
  go_wp2_with fail
  refine (H2.out _).mono ?_
  rintro e w1 ⟨rfl, rfl⟩
  go_wp2_with fail
  refine (H3.out _).mono ?_
  rintro e w1 ⟨rfl, rfl⟩
  go_wp2_with fail
  go_ret
  exact ⟨rfl, HB.out⟩
end WinR
end Go.Proofs.YtnlmpejgiakepaaDoor
namespace Go.Proofs.YtnlmpejgiakepaaDoor
open Go.ChangeShapes Go.WideShapes Go.ChangeAt Go.RowKit
set_option linter.unusedVariables false
namespace WinR
open RowG LtR
open CatR (Blk Blk.new)
open DateR (Laid)
set_option maxRecDepth 100000 in
set_option maxHeartbeats 4000000 in
theorem impl_tagged (a m : ByteArray) (mo ev su mx : Int) (ts : List ByteArray) (ta : Option Addr) (tc : Nat) (hv : Value) (w : World) (hlen : ts.length ≤ 1048576) (hS : ∀ t ∈ ts, t.size ≤ 1048576) (hI : Tgs ta ts w) :
  Calls Tryd.prog 75 #[.agg #[.string a, .string m, .int .i64 mo, .int .i64 ev, .int .i64 su, .int .i64 mx, .slice ta ts.length tc, .func (.func 88) #[] #[], .func (.func 89) #[] #[], hv, .func (.func 90) #[] #[], .func (.func 91) #[] #[]]] w fun e w' => e = .returned (.bool (tagsB ts)) ∧ Below w.heap.size w w' := by
 have HI := hid_intro hI
 have HS := hid_intro hS
 have HLO := hid_intro (tags_long (ts := ts))
 have HRI := hid_intro (tags_rise (ts := ts))
 have HEN := hid_intro (tags_end (ts := ts))
 have HC := hid_intro (fun W (hW : Below w.heap.size w W) => tags_rises ta tc ts W hlen (hI.below hW))
 generalize tagsB ts = R at *
 generalize riseB lt tz ts = r at *
 obtain ⟨len, hl⟩ : ∃ len, len = ts.length := ⟨_, rfl⟩
 rw [← hl] at hlen HLO HEN HC ⊢
 have HL := hid_intro hl
 clear hI hl hS
 have HB0 : Hid (Below w.heap.size w (w.alloc (.cells #[.string a, .string m, .int .i64 mo, .int .i64 ev, .int .i64 su, .int .i64 mx, .slice ta len tc, .func (.func 88) #[] #[], .func (.func 89) #[] #[], hv, .func (.func 90) #[] #[], .func (.func 91) #[] #[]] 97))) := hid_intro ((Below.refl _ _).alloc (Nat.le_refl _) _)
 have HX0 := hid_intro (Blk.new w [.string a, .string m, .int .i64 mo, .int .i64 ev, .int .i64 su, .int .i64 mx, .slice ta len tc, .func (.func 88) #[] #[], .func (.func 89) #[] #[], hv, .func (.func 90) #[] #[], .func (.func 91) #[] #[]] 97)
 by_cases h12 : 12 < len
 ·have h12' : (12 : Int) < (len : Int) := by omega
  have HF := hid_intro (HLO.out h12)
  clear HX0 HC HRI HEN HLO
  go_enter Tryd.func75, Tryd.ntmps75
  go_wp2_with fail
  go_ret
  exact ⟨ret_bool HF.out.symm, HB0.out⟩
 ·have h12' : ¬ (12 : Int) < (len : Int) := by omega
  cases r
  ·have HF := hid_intro (HRI.out rfl)
   clear HX0 HRI HEN HLO
   go_enter Tryd.func75, Tryd.ntmps75
   go_wp2_with fail
   refine (HC.out _ HB0.out).mono ?_
   rintro e w1 ⟨rfl, hb1⟩
   have HB1 := hid_intro (HB0.out.trans (hb1.mono HB0.out.size))
   clear hb1
   go_wp2_with fail
   go_ret
   exact ⟨ret_bool HF.out.symm, HB1.out⟩
  ·have HE := hid_intro (HEN.out (by omega) rfl)
   clear HRI HEN HLO
   go_enter Tryd.func75, Tryd.ntmps75
   go_wp2_with fail
   refine (HC.out _ HB0.out).mono ?_
   rintro e w1 ⟨rfl, hb1⟩
   have HB1 := hid_intro (HB0.out.trans (hb1.mono HB0.out.size))
   have HX1 := hid_intro (HX0.out.below hb1)
   clear hb1 HB0 HX0
   obtain ⟨xl, xc⟩ := HX1.out
   have x6 : w1.cell? ⟨w.heap.size, 6, none⟩ = some (.slice ta len tc) := xc 6 (by simp)
   clear xc
   go_wp2_with fail
   go_loopw [20] (fun z wr => ∃ k : Nat, k ≤ len ∧ z = .int .i64 k ∧ Hid ((ts.take k).all tagOk = true) ∧ Hid (Below w.heap.size w wr)) (fun z _ => len - (intOf z).toNat)
   case atStart => exact ⟨0, by omega, rfl, hid_intro (by simp), HB1⟩
   case round =>
    obtain ⟨k, hk, rfl, HK, HB⟩ := hrel
    by_cases hlt : k < len
    ·have hlt2 : (k : Int) < (len : Int) := by omega
     have hkl : k < ts.length := by have := HL.out; omega
     obtain ⟨b, off, rfl, hbl, c0⟩ := (HI.out.below HB.out).at k hkl
     have hsz := HS.out _ (getD_mem (z := tz) ts k hkl)
     have HT := hid_intro (fun w => EvtR.impl_tag (ts.getD k tz) w hsz)
     have HNO := hid_intro (fun h => all_no (z := tz) (xs := ts) tagOk hkl h)
     have HGO : Hid (tagOk (ts.getD k tz) = true → (ts.take (k + 1)).all tagOk = true) := hid_intro (fun h => by rw [all_take (z := tz) _ k hkl, HK.out, h]; rfl)
     have HTO : Hid (tagOk (ts.getD k tz) = (decide (1 ≤ (ts.getD k tz).size) && EvtR.tagB (ts.getD k tz))) := rfl
     generalize tagOk (ts.getD k tz) = q at *
     generalize ts.getD k tz = X at *
     by_cases hi : X.size = 0
     ·have he := EvtR.empty_of X hi
      have HF : Hid (R = false) := hid_intro (by rw [HE.out]; exact HNO.out (by rw [HTO.out, decide_eq_false (by omega), Bool.false_and]))
      go_wp2_with fail
      go_ret
      exact ⟨ret_bool HF.out.symm, HB.out⟩
     ·obtain ⟨he, he2⟩ := EvtR.full_of X hi
      have HTO2 : Hid (q = EvtR.tagB X) := hid_intro (by rw [HTO.out, decide_eq_true (by omega), Bool.true_and])
      generalize EvtR.tagB X = g at *
      cases g
      ·have HF : Hid (R = false) := hid_intro (by rw [HE.out]; exact HNO.out HTO2.out)
       go_wp2_with fail
       refine (HT.out _).mono ?_
       rintro e w2 ⟨rfl, hb2⟩
       have HB2 := hid_intro (HB.out.trans (hb2.mono HB.out.size))
       clear hb2 c0
       go_wp2_with fail
       go_ret
       exact ⟨ret_bool HF.out.symm, HB2.out⟩
      ·have HG := hid_intro (HGO.out HTO2.out)
       go_wp2_with fail
       refine (HT.out _).mono ?_
       rintro e w2 ⟨rfl, hb2⟩
       have HB2 := hid_intro (HB.out.trans (hb2.mono HB.out.size))
       clear hb2 c0
       go_wp2_with fail
       go_roundw
       case rel => exact ⟨k + 1, by omega, by go_num, HG, HB2⟩
       case measure => simp [intOf]; omega
    ·have hlt2 : ¬ (k : Int) < (len : Int) := by omega
     obtain rfl : k = len := by omega
     have HF : Hid (R = true) := hid_intro (by
      rw [HE.out]
      have h := HK.out
      rwa [List.take_of_length_le (by have := HL.out; omega)] at h)
     go_wp2_with fail
     go_ret
     exact ⟨ret_bool HF.out.symm, HB.out⟩
end WinR
end Go.Proofs.YtnlmpejgiakepaaDoor
