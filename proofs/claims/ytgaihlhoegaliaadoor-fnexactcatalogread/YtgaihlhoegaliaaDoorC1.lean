/-
  Small facts that the other texts use: what a call hands back, read as one equation. No condition.
  A row of cells that may be written. No condition.
  Rows of things of so many cells each, read, written cell by cell, made by append. No condition.
  A block of cells that stays. No condition.
  Blocks that may be written, and rows beside them. No condition.
  Cells of a block written one behind another. No condition.
  joinTexts: called with a list of texts (at least one) it hands back the texts one behind the other, in new memory; nothing that was there is written. The condition: they have together at most 2^40 bytes, and the list at most 1000 texts.
  Lists of texts of one's own that grow by append, and texts that are joined. No condition.
  A scope in which the run jumps to several labels: what holds at each label's jumps ('J'), and a measure that every pass from a label lowers. No condition. (The library's law is for one label.)
  What is read of a text at a place as a number: the plain function ('rd': its code, the folded number, how many bytes), and its steps. No condition.
  The program's reading of a number at a place ('readNum', by goto): what it hands back is 'rd'. The condition: the text has at most 8000 bytes.
  The model's reading of a number at a place: what it hands back is 'rd'. The condition: the text has at most 8000 bytes.
  PutNum: what the model and the program hand back is one text, the digits of the folded number. No condition but that the number is of int64.
  What is put is got: the digits of a number, read where they stand, are the number; of digits that end too early nothing is got. No condition.
  What is got was put: a number that is read is spelled by just its bytes, and so is a text. Arithmetic and bytes alone. No condition.
  What a number's and a text's reading come to, as functions of the bytes: what is read is spelled by just its bytes, and what is spelled is read. Arithmetic and bytes alone. No condition.
  A text's bytes. No condition.
  What texts come to when they are read: what is read is spelled by just its bytes, and what is spelled is read. Bytes alone. No condition.
  A number and a text read at a place, either side: what is handed back is what the bytes spell there. The condition: the text has at most 8000 bytes.
  Small facts on worlds in which one block alone was written. No condition.
  The program's reader: a number and a text read at its place, behind a fault nothing. The condition: the text has at most 8000 bytes.
  The model's reader: a number and a text read at its place, behind a fault nothing. The condition: the text has at most 8000 bytes.
  A text of seen bytes alone (33 to 126): what the program says rune by rune and what the model says byte by byte. No condition but the length.
  What a right Id and a minute are: both sides say the same. No condition but the lengths.
  The readers of both sides: texts, numbers and counts. The condition: the text has at most 8000 bytes.
  Memory of one's own that is kept while other memory grows or is written. No condition.
  Tiers, meters, credits and catalogs as rows of cells. No condition.
  Lists of meters of one's own. No condition.
  Worlds that differ in some blocks alone. No condition.
  The law's own mark, a text. The condition: its number is 1 to 99999999.
  Marks upon lists of tiers and of credits, from any number on, and their reading. The condition: at most 1048576 of them.
-/
import Derived.Test.YtgaihlhoegaliaaDoorRows
import Derived.WalkKit
import Derived.ProofKit
import Derived.OpenShut
import Derived.ShutString
import Derived.Below
import Derived.WalkSpells
import Derived.WalkLawsBesides
import Derived.OwnWalk
import Derived.Laws.CopyOwn
import Derived.Lib.BufferRead
import Derived.WalkMore
import Derived.ScopeJumps
import Derived.Deep.QuietTactic
import Derived.BigQuiet
import Derived.Laws.BytesArg
import Derived.BigRegion
import Derived.Deep.RegionWith
import Derived.Laws.RangeAny
import Derived.Deep.CutRange
import Derived.Deep.DeepCutAuto
import Derived.Lib.ConvBytes
import Derived.Deep.RegionHeld3
namespace Go.Proofs.YtgaihlhoegaliaaDoor
open Go.RowKit
theorem ret_bool {a b : Bool} (h : a = b) : Ending.returned (.bool a) = .returned (.bool b) := by rw [h]
theorem ret_int {k : IntKind} {a b : Int} (h : a = b) : Ending.returned (.int k a) = .returned (.int k b) := by rw [h]
theorem ret_str {a b : ByteArray} (h : a = b) : Ending.returned (.string a) = .returned (.string b) := by rw [h]
theorem bcell {W w1 : World} (hb : Below W.heap.size W w1) : (∀ b o, b < W.heap.size → w1.cell? ⟨b, o, none⟩ = W.cell? ⟨b, o, none⟩) ∧ (∀ b o, b < W.heap.size → w1.frozen? ⟨b, o, none⟩ = W.frozen? ⟨b, o, none⟩) :=
  ⟨fun b o h => hb.cell (p := ⟨b, o, none⟩) h, fun b o h => hb.frozen (p := ⟨b, o, none⟩) h⟩
theorem bel_alloc {w w1 : World} {o : Obj} (h : Below (w.alloc o).heap.size (w.alloc o) w1) : Below w.heap.size w w1 :=
  ((Below.refl _ _).alloc (Nat.le_refl _) _).trans (h.mono (by simp))
theorem bel_alloc_drew {w w1 : World} {o : Obj} (h : Below (w.alloc o).drew.heap.size (w.alloc o).drew w1) : Below w.heap.size w w1 :=
  (((Below.refl _ _).alloc (Nat.le_refl _) _).drew).trans (h.mono (by simp))
end Go.Proofs.YtgaihlhoegaliaaDoor
namespace Go.Proofs.YtgaihlhoegaliaaDoor
open Go.ChangeShapes Go.WideShapes Go.ChangeAt Go.RowKit
set_option linter.unusedVariables false
namespace EvtR
/-- Cells that may be written. -/
structure Pt (g m : Nat) (w : World) : Prop where
  lt : g < w.heap.size
  has : ∀ o, o < m → ∃ v, w.cell? ⟨g, o, none⟩ = some v
  free : ∀ o, o < m → w.frozen? ⟨g, o, none⟩ = false
theorem Pt.below {g m : Nat} {w w' : World} (h : Pt g m w) (hb : Below w.heap.size w w') : Pt g m w' :=
  ⟨by have := hb.size; have := h.lt; omega, fun o ho => by obtain ⟨v, hv⟩ := h.has o ho; exact ⟨v, (hb.cell (p := ⟨g, o, none⟩) h.lt).trans hv⟩, fun o ho => (hb.frozen (p := ⟨g, o, none⟩) h.lt).trans (h.free o ho)⟩
theorem cell_put {g m : Nat} {w : World} (h : Pt g m w) (o : Nat) (ho : o < m) (v : Value) : (w.setCell ⟨g, o, none⟩ v).cell? ⟨g, o, none⟩ = some v := by
  obtain ⟨u, hu⟩ := h.has o ho
  simp [go_sem, hu]
theorem cell_far {g : Nat} {w : World} (o o' : Nat) (ho : o ≠ o') (v : Value) : (w.setCell ⟨g, o, none⟩ v).cell? ⟨g, o', none⟩ = w.cell? ⟨g, o', none⟩ := by
  simp [go_sem]
theorem Pt.set {g m : Nat} {w : World} (h : Pt g m w) (o : Nat) (v : Value) : Pt g m (w.setCell ⟨g, o, none⟩ v) := by
  refine ⟨by simpa using h.lt, fun x hx => ?_, fun x hx => ?_⟩
  · by_cases e : o = x
    · subst e; exact ⟨v, cell_put h o hx v⟩
    · obtain ⟨u, hu⟩ := h.has x hx
      exact ⟨u, (cell_far o x e v).trans hu⟩
  · have := h.free x hx
    simp [go_sem, this]
end EvtR
end Go.Proofs.YtgaihlhoegaliaaDoor
namespace Go.Proofs.YtgaihlhoegaliaaDoor
open Go.ChangeShapes Go.WideShapes Go.ChangeAt Go.RowKit
set_option linter.unusedVariables false
namespace RowG
open EvtR (Pt cell_put cell_far)
theorem hid_intro {p : Prop} (h : p) : Hid p := h
section
variable {α : Type} (k : Nat) (cells : α → List Value) (z : α)
/-- The cells of a thing stand at a place. -/
def AtG (w : World) (b o : Nat) (x : α) : Prop := ∀ j, j < k → w.cell? ⟨b, o + j, none⟩ = (cells x)[j]?
/-- The row holds these things. -/
def Rws (ao : Option Addr) (xs : List α) (w : World) : Prop := xs.length = 0 ∨ ∃ b off, ao = some ⟨b, off, none⟩ ∧ b < w.heap.size ∧ ∀ j, j < xs.length → AtG k cells w b (off + j * k) (xs.getD j z)
/-- The cell that stands at a place of a row of things. -/
def cellAt (xs : List α) (o : Nat) : Option Value := (cells (xs.getD (o / k) z))[o % k]?
/-- The first cells are written. -/
def Wr (f : Nat → Option Value) (j g : Nat) (w : World) : Prop := ∀ o, o < j → w.cell? ⟨g, o, none⟩ = f o
end
section
variable {α : Type} {k : Nat} {cells : α → List Value} {z : α}
theorem AtG.below {w w' : World} {b o : Nat} {x : α} (h : AtG k cells w b o x) (hl : b < w.heap.size) (hb : Below w.heap.size w w') : AtG k cells w' b o x :=
  fun j hj => (hb.cell (p := ⟨b, o + j, none⟩) hl).trans (h j hj)
theorem Rws.below {ao : Option Addr} {xs : List α} {w w' : World} (h : Rws k cells z ao xs w) (hb : Below w.heap.size w w') : Rws k cells z ao xs w' := by
  rcases h with h0 | ⟨b, off, rfl, hlt, hc⟩
  · exact .inl h0
  · exact .inr ⟨b, off, rfl, by have := hb.size; omega, fun j hj => (hc j hj).below hlt hb⟩
theorem Rws.grown {ao : Option Addr} {xs : List α} {w w' : World} {row : Option Nat} (h : Rws k cells z ao xs w) (hg : w.grownBy w' row) (hne : xs.length = 0 ∨ ∀ b off, ao = some ⟨b, off, none⟩ → some b ≠ row) : Rws k cells z ao xs w' := by
  rcases h with h0 | ⟨b, off, rfl, hlt, hc⟩
  · exact .inl h0
  · rcases hne with h0 | hne
    · exact .inl h0
    have e := hg.block b hlt (hne b off rfl)
    exact .inr ⟨b, off, rfl, by have := hg.size; omega, fun j hj i hi => (World.cell?_of_block (a := ⟨b, off + j * k + i, none⟩) e).trans (hc j hj i hi)⟩
theorem Rws.at {ao : Option Addr} {xs : List α} {w : World} (h : Rws k cells z ao xs w) (j : Nat) (hj : j < xs.length) : ∃ b off, ao = some ⟨b, off, none⟩ ∧ b < w.heap.size ∧ AtG k cells w b (off + j * k) (xs.getD j z) := by
  rcases h with h0 | ⟨b, off, rfl, hlt, hc⟩
  · omega
  · exact ⟨b, off, rfl, hlt, hc j hj⟩
theorem rws_nil (ao : Option Addr) (w : World) : Rws k cells z ao [] w := .inl rfl
theorem getD_mem (xs : List α) (j : Nat) (h : j < xs.length) : xs.getD j z ∈ xs := by
  have : xs.getD j z = xs[j] := by simp [List.getD, h]
  rw [this]; exact List.getElem_mem h
theorem take_more (xs : List α) (j : Nat) (h : j < xs.length) : xs.take (j + 1) = xs.take j ++ [xs.getD j z] := by
  rw [List.take_add_one, List.getElem?_eq_getElem h]
  simp [List.getD, h]
theorem Wr.below {f : Nat → Option Value} {j g m : Nat} {w w' : World} (h : Wr f j g w) (hp : Pt g m w) (hb : Below w.heap.size w w') : Wr f j g w' :=
  fun o ho => (hb.cell (p := ⟨g, o, none⟩) hp.lt).trans (h o ho)
theorem Wr.more {f : Nat → Option Value} {j g m : Nat} {w : World} (h : Wr f j g w) (hp : Pt g m w) (hj : j < m) (v : Value) (hv : f j = some v) : Wr f (j + 1) g (w.setCell ⟨g, j, none⟩ v) := by
  intro o ho
  by_cases e : j = o
  · subst e; rw [cell_put hp j hj v, hv]
  · rw [cell_far j o e v]; exact h o (by omega)
theorem Wr.at {xs : List α} {n g : Nat} {w : World} (h : Wr (cellAt k cells z xs) (n * k) g w) (i : Nat) (hi : i < n) (x : Nat) (hx : x < k) : w.cell? ⟨g, i * k + x, none⟩ = (cells (xs.getD i z))[x]? := by
  have hlt : i * k + x < n * k := by
    have : (i + 1) * k ≤ n * k := Nat.mul_le_mul_right _ hi
    rw [Nat.add_mul, Nat.one_mul] at this
    omega
  rw [h _ hlt]
  unfold cellAt
  rw [show i * k + x = x + k * i by rw [Nat.mul_comm]; omega, Nat.add_mul_div_left _ _ (by omega), Nat.div_eq_of_lt hx, Nat.zero_add, Nat.add_mul_mod_self_left, Nat.mod_eq_of_lt hx]
theorem Wr.rws {xs : List α} {g : Nat} {w : World} (h : Wr (cellAt k cells z xs) (xs.length * k) g w) (hl : g < w.heap.size) : Rws k cells z (some ⟨g, 0, none⟩) xs w :=
  .inr ⟨g, 0, rfl, hl, fun j hj i hi => by rw [Nat.zero_add]; exact h.at j hj i hi⟩
theorem cellAt_of {xs : List α} (i x : Nat) (hx : x < k) : cellAt k cells z xs (i * k + x) = (cells (xs.getD i z))[x]? := by
  unfold cellAt
  rw [show i * k + x = x + k * i by rw [Nat.mul_comm]; omega, Nat.add_mul_div_left _ _ (by omega), Nat.div_eq_of_lt hx, Nat.zero_add, Nat.add_mul_mod_self_left, Nat.mod_eq_of_lt hx]
/-- The cells of a list of things. -/
def cellsAll (cells : α → List Value) (xs : List α) : List Value := xs.flatMap cells
theorem cellsAll_app (xs : List α) (x : α) : cellsAll cells (xs ++ [x]) = cellsAll cells xs ++ cells x := by simp [cellsAll]
theorem cellsAll_len (hk : ∀ x, (cells x).length = k) (xs : List α) : (cellsAll cells xs).length = xs.length * k := by
  induction xs with
  | nil => simp [cellsAll]
  | cons x xs ih => simp only [cellsAll, List.flatMap_cons, List.length_append, hk, List.length_cons] at *; rw [ih, Nat.add_mul]; omega
theorem cellsAll_get (hk : ∀ x, (cells x).length = k) (xs : List α) (i x : Nat) (hi : i < xs.length) (hx : x < k) : (cellsAll cells xs)[i * k + x]? = (cells (xs.getD i z))[x]? := by
  induction xs generalizing i with
  | nil => simp at hi
  | cons a xs ih =>
    simp only [cellsAll, List.flatMap_cons]
    cases i with
    | zero =>
      rw [Nat.zero_mul, Nat.zero_add, List.getElem?_append_left (by rw [hk]; exact hx)]
      rfl
    | succ i =>
      rw [List.getElem?_append_right (by rw [hk, Nat.add_mul]; omega), hk, show (i + 1) * k + x - k = i * k + x by rw [Nat.add_mul]; omega]
      simp only [List.length_cons] at hi
      exact ih i (by omega)
/-- A list that a call has made. -/
structure MadeG (k : Nat) (cells : α → List Value) (z : α) (base : Nat) (ao : Option Addr) (xs : List α) (w : World) : Prop where
  rws : Rws k cells z ao xs w
  own : xs.length = 0 ∨ ∃ g, ao = some ⟨g, 0, none⟩ ∧ base ≤ g ∧ Pt g (xs.length * k) w
theorem made_nil (base : Nat) (ao : Option Addr) (w : World) : MadeG k cells z base ao [] w := ⟨.inl rfl, .inl rfl⟩
theorem MadeG.below {base : Nat} {ao : Option Addr} {xs : List α} {w w' : World} (h : MadeG k cells z base ao xs w) (hb : Below w.heap.size w w') : MadeG k cells z base ao xs w' :=
  ⟨h.rws.below hb, h.own.imp id (fun ⟨g, h1, h2, h3⟩ => ⟨g, h1, h2, h3.below hb⟩)⟩
theorem MadeG.low {base base' : Nat} {ao : Option Addr} {xs : List α} {w : World} (h : MadeG k cells z base ao xs w) (hb : base' ≤ base) : MadeG k cells z base' ao xs w :=
  ⟨h.rws, h.own.imp id (fun ⟨g, h1, h2, h3⟩ => ⟨g, h1, by omega, h3⟩)⟩
theorem own_made (hk : ∀ x, (cells x).length = k) {w : World} {base T : Nat} {v : Value} {xs : List α} (h : w.ownsRow base T k v xs.length (cellsAll cells xs)) : ∃ ao cap, v = .slice ao xs.length cap ∧ MadeG k cells z base ao xs w := by
  rcases h.2 with ⟨h0, h1⟩ | ⟨g, cap, cur, hv, hg, hh, hc, _, hz, hcur⟩
  · obtain rfl : xs = [] := List.length_eq_zero_iff.1 h1
    exact ⟨none, 0, h0, made_nil _ _ _⟩
  · have hm : xs.length * k ≤ cur.size := by rw [hz]; exact Nat.mul_le_mul_right _ hc
    have hl := (h.lt g (by rw [hv]; rfl)).2
    refine ⟨_, _, hv, .inr ⟨g, 0, rfl, hl, fun j hj i hi => ?_⟩, .inr ⟨g, rfl, hg, hl, fun o ho => ?_, fun o ho => ?_⟩⟩
    · rw [Nat.zero_add, ← cellsAll_get hk xs j i hj hi, ← hcur]
      have hlt : j * k + i < xs.length * k := by
        have : (j + 1) * k ≤ xs.length * k := Nat.mul_le_mul_right _ hj
        rw [Nat.add_mul, Nat.one_mul] at this
        omega
      rw [List.getElem?_take, if_pos hlt]
      simp [World.cell?, hh]
    · have : o < cur.size := by omega
      refine ⟨cur[o], ?_⟩
      simp [World.cell?, hh, this]
    · simp [World.frozen?, hh]
end
theorem own_below {w w' : World} {base e size n : Nat} {v : Value} {xs : List Value} (h : w.ownsRow base e size v n xs) (hb : Below w.heap.size w w') : w'.ownsRow base e size v n xs := by
  refine h.kept (row := none) ⟨hb.os, hb.tape, hb.output, hb.size, fun k hk _ => hb.block k hk⟩ ?_
  rcases hob : v.ownBlock with _ | b
  · exact .inl rfl
  · exact .inr (by simp)
theorem grown_set (w : World) (b o : Nat) (v : Value) : w.grownBy (w.setCell ⟨b, o, none⟩ v) (some b) := by
  refine ⟨rfl, rfl, rfl, by simp, fun k hk hne => ?_⟩
  simp only [World.setCell]
  rw [Array.getElem?_modify, if_neg (fun e => hne (by rw [e]))]
theorem own_set {w : World} {base e size n : Nat} {v : Value} {xs : List Value} (h : w.ownsRow base e size v n xs) (g o : Nat) (u : Value) (hg : ∀ b, v.ownBlock = some b → b ≠ g) : (w.setCell ⟨g, o, none⟩ u).ownsRow base e size v n xs := by
  refine h.kept (grown_set w g o u) ?_
  rcases hob : v.ownBlock with _ | b
  · exact .inl rfl
  · exact .inr (fun e => hg b hob (by simpa using e))
end RowG
end Go.Proofs.YtgaihlhoegaliaaDoor
namespace Go.Proofs.YtgaihlhoegaliaaDoor
open Go.ChangeShapes Go.WideShapes Go.ChangeAt Go.RowKit
set_option linter.unusedVariables false
namespace CatR
def Blk (b : Nat) (cs : List Value) (w : World) : Prop := b < w.heap.size ∧ ∀ i, i < cs.length → w.cell? ⟨b, i, none⟩ = cs[i]?
theorem Blk.below {b : Nat} {cs : List Value} {w w' : World} (h : Blk b cs w) (hb : Below w.heap.size w w') : Blk b cs w' :=
  ⟨by have := hb.size; have := h.1; omega, fun i hi => (hb.cell (p := ⟨b, i, none⟩) h.1).trans (h.2 i hi)⟩
theorem Blk.new (w : World) (cs : List Value) (T : TypeId) : Blk w.heap.size cs (w.alloc (.cells cs.toArray T)) :=
  ⟨by simp, fun i hi => by simp [go_sem]⟩
theorem Blk.alloc {b : Nat} {cs : List Value} {w : World} (h : Blk b cs w) (o : Obj) : Blk b cs (w.alloc o) := h.below ((Below.refl _ _).alloc (Nat.le_refl _) _)
theorem Blk.drew {b : Nat} {cs : List Value} {w : World} (h : Blk b cs w) : Blk b cs w.drew := h
theorem Blk.drewN {b : Nat} {cs : List Value} {w : World} (h : Blk b cs w) (n : Nat) : Blk b cs (w.drewN n) := h
end CatR
end Go.Proofs.YtgaihlhoegaliaaDoor
namespace Go.Proofs.YtgaihlhoegaliaaDoor
open Go.ChangeShapes Go.WideShapes Go.ChangeAt Go.RowKit
set_option linter.unusedVariables false
namespace DocR
open RowG
open EvtR (Pt)
open CatR (Blk Blk.new)
/-- A block that may be written. -/
def BlkW (b : Nat) (cs : List Value) (w : World) : Prop := Blk b cs w ∧ ∀ i, i < cs.length → w.frozen? ⟨b, i, none⟩ = false
theorem BlkW.below {b : Nat} {cs : List Value} {w w' : World} (h : BlkW b cs w) (hb : Below w.heap.size w w') : BlkW b cs w' :=
  ⟨h.1.below hb, fun i hi => (hb.frozen (p := ⟨b, i, none⟩) h.1.1).trans (h.2 i hi)⟩
theorem BlkW.new (w : World) (cs : List Value) (T : TypeId) : BlkW w.heap.size cs (w.alloc (.cells cs.toArray T)) :=
  ⟨Blk.new w cs T, fun i hi => by simp [go_sem]⟩
theorem BlkW.set {b : Nat} {cs : List Value} {w : World} (h : BlkW b cs w) (o : Nat) (v : Value) (ho : o < cs.length) : BlkW b (cs.set o v) (w.setCell ⟨b, o, none⟩ v) := by
  obtain ⟨⟨hl, hc⟩, hf⟩ := h
  refine ⟨⟨by simpa using hl, fun i hi => ?_⟩, fun i hi => ?_⟩
  · rw [List.length_set] at hi
    by_cases e : o = i
    · subst e
      have := hc o hi
      rw [List.getElem?_eq_getElem hi] at this
      rw [List.getElem?_set_self ho]
      simp [go_sem, this]
    · rw [List.getElem?_set_ne e, ← hc i hi]
      simp [go_sem]
  · rw [List.length_set] at hi
    have := hf i hi
    simp [go_sem, this]
theorem BlkW.other {b : Nat} {cs : List Value} {w : World} (h : BlkW b cs w) (g o : Nat) (v : Value) (hg : g ≠ b) : BlkW b cs (w.setCell ⟨g, o, none⟩ v) := by
  have e := (grown_set w g o v).block b h.1.1 (by simp; exact fun q => hg q.symm)
  exact ⟨⟨by simpa using h.1.1, fun i hi => (World.cell?_of_block (a := ⟨b, i, none⟩) e).trans (h.1.2 i hi)⟩, fun i hi => (World.frozen?_of_block (a := ⟨b, i, none⟩) e).trans (h.2 i hi)⟩
theorem Rws.put {α : Type} {k : Nat} {cells : α → List Value} {z : α} {ao : Option Addr} {xs : List α} {w : World} (h : Rws k cells z ao xs w) (g o : Nat) (v : Value) (hne : xs.length = 0 ∨ ∀ b off, ao = some ⟨b, off, none⟩ → b ≠ g) : Rws k cells z ao xs (w.setCell ⟨g, o, none⟩ v) :=
  h.grown (grown_set w g o v) (hne.imp id (fun hn b off e q => hn b off e (by simpa using q)))
theorem MadeG.put {α : Type} {k : Nat} {cells : α → List Value} {z : α} {base : Nat} {ao : Option Addr} {xs : List α} {w : World} (h : MadeG k cells z base ao xs w) (g o : Nat) (v : Value) (hne : xs.length = 0 ∨ ∀ b off, ao = some ⟨b, off, none⟩ → b ≠ g) : MadeG k cells z base ao xs (w.setCell ⟨g, o, none⟩ v) := by
  refine ⟨Rws.put h.rws g o v hne, ?_⟩
  rcases h.own with h0 | ⟨b, e1, e2, e3⟩
  · exact .inl h0
  · rcases hne with h0 | hn
    · exact .inl h0
    have e := (grown_set w g o v).block b e3.lt (by simp; exact fun q => hn b 0 e1 q)
    exact .inr ⟨b, e1, e2, by simpa using e3.lt, fun x hx => by obtain ⟨u, hu⟩ := e3.has x hx; exact ⟨u, (World.cell?_of_block (a := ⟨b, x, none⟩) e).trans hu⟩, fun x hx => (World.frozen?_of_block (a := ⟨b, x, none⟩) e).trans (e3.free x hx)⟩
end DocR
end Go.Proofs.YtgaihlhoegaliaaDoor
namespace Go.Proofs.YtgaihlhoegaliaaDoor
open Go.ChangeShapes Go.WideShapes Go.ChangeAt Go.RowKit
set_option linter.unusedVariables false
namespace StR
open EvtR (Pt cell_put cell_far)
open CatR (Blk)
/-- The cells from a place on are written. -/
def stL (W : World) (p : Nat) : Nat → List Value → World
  | _, [] => W
  | o, v :: vs => stL (W.setCell ⟨p, o, none⟩ v) p (o + 1) vs
theorem gtr {w w1 w2 : World} {g : Option Nat} (h1 : w.grownBy w1 g) (h2 : w1.grownBy w2 g) : w.grownBy w2 g :=
  ⟨h2.os.trans h1.os, h2.tape.trans h1.tape, h2.output.trans h1.output, Nat.le_trans h1.size h2.size, fun k hk hne => (h2.block k (by have := h1.size; omega) hne).trans (h1.block k hk hne)⟩
theorem stL_grown (p : Nat) : ∀ (vs : List Value) (o : Nat) (W : World), W.grownBy (stL W p o vs) (some p)
  | [], _, W => ⟨rfl, rfl, rfl, Nat.le_refl _, fun _ _ _ => rfl⟩
  | v :: vs, o, W => gtr (RowG.grown_set W p o v) (stL_grown p vs (o + 1) _)
theorem stL_pt {p n : Nat} : ∀ (vs : List Value) (o : Nat) (W : World), Pt p n W → Pt p n (stL W p o vs)
  | [], _, _, h => h
  | v :: vs, o, W, h => stL_pt vs (o + 1) _ (h.set o v)
theorem stL_old {p : Nat} : ∀ (vs : List Value) (o : Nat) (W : World) (j : Nat), j < o → (stL W p o vs).cell? ⟨p, j, none⟩ = W.cell? ⟨p, j, none⟩
  | [], _, _, _, _ => rfl
  | v :: vs, o, W, j, hj => (stL_old vs (o + 1) _ j (by omega)).trans (cell_far o j (by omega) v)
theorem stL_cells {p n : Nat} : ∀ (vs : List Value) (o : Nat) (W : World), Pt p n W → o + vs.length ≤ n → ∀ i, i < vs.length → (stL W p o vs).cell? ⟨p, o + i, none⟩ = vs[i]?
  | [], _, _, _, _, i, hi => absurd hi (by simp)
  | v :: vs, o, W, hp, hn, i, hi => by
    simp only [List.length_cons] at hn hi
    cases i with
    | zero =>
      rw [Nat.add_zero]
      exact (stL_old vs (o + 1) _ o (by omega)).trans ((cell_put hp o (by omega) v).trans rfl)
    | succ i =>
      have := stL_cells vs (o + 1) (W.setCell ⟨p, o, none⟩ v) (hp.set o v) (by omega) i (by omega)
      rw [show o + 1 + i = o + (i + 1) by omega] at this
      exact this.trans rfl
theorem stL_blk {p n : Nat} {vs : List Value} {W : World} (hp : Pt p n W) (hn : vs.length ≤ n) : Blk p vs (stL W p 0 vs) :=
  ⟨(stL_pt vs 0 W hp).lt, fun i hi => by have := stL_cells vs 0 W hp (by omega) i hi; rw [Nat.zero_add] at this; exact this⟩
theorem pt_far {p q n : Nat} {W W' : World} (h : Pt p n W) (hg : W.grownBy W' (some q)) (hne : p ≠ q) : Pt p n W' := by
  have e := hg.block p h.lt (by simpa using hne)
  exact ⟨by have := hg.size; have := h.lt; omega, fun o ho => by obtain ⟨v, hv⟩ := h.has o ho; exact ⟨v, (World.cell?_of_block (a := ⟨p, o, none⟩) e).trans hv⟩, fun o ho => (World.frozen?_of_block (a := ⟨p, o, none⟩) e).trans (h.free o ho)⟩
theorem blk_far {p q : Nat} {cs : List Value} {W W' : World} (h : Blk p cs W) (hg : W.grownBy W' (some q)) (hne : p ≠ q) : Blk p cs W' := by
  have e := hg.block p h.1 (by simpa using hne)
  exact ⟨by have := hg.size; have := h.1; omega, fun i hi => (World.cell?_of_block (a := ⟨p, i, none⟩) e).trans (h.2 i hi)⟩
/-- A new block of cells may be written. -/
theorem pt_new (w : World) (cs : List Value) (T : TypeId) : Pt w.heap.size cs.length (w.alloc (.cells cs.toArray T)) :=
  ⟨by simp, fun o ho => ⟨cs[o], by simp [go_sem, ho]⟩, fun o ho => by simp [go_sem]⟩
end StR
end Go.Proofs.YtgaihlhoegaliaaDoor
namespace Go.Proofs.YtgaihlhoegaliaaDoor
open Go.ChangeShapes Go.WideShapes Go.ChangeAt Go.RowKit
set_option linter.unusedVariables false
theorem hid_intro {p : Prop} (h : p) : Hid p := h
namespace JoinR
open Go.Lib (byteCells byteCells_length byteCells_append byteCells_one)
def jl (parts : List ByteArray) (k : Nat) : List UInt8 := (parts.take k).flatMap (fun p => p.data.toList)
def joinB (parts : List ByteArray) : ByteArray := ⟨(parts.flatMap (fun p => p.data.toList)).toArray⟩
theorem jl_zero (parts : List ByteArray) : jl parts 0 = [] := rfl
theorem jl_succ (parts : List ByteArray) (k : Nat) (h : k < parts.length) : jl parts (k + 1) = jl parts k ++ (parts[k]).data.toList := by
  unfold jl; rw [List.take_succ_eq_append_getElem h, List.flatMap_append]; simp only [List.flatMap_cons, List.flatMap_nil, List.append_nil]
theorem jl_all (parts : List ByteArray) : jl parts parts.length = parts.flatMap (fun p => p.data.toList) := by
  unfold jl; rw [List.take_of_length_le (Nat.le_refl _)]
theorem jl_le (parts : List ByteArray) (k : Nat) : (jl parts k).length ≤ (jl parts parts.length).length := by
  rw [jl_all]; unfold jl
  conv => rhs; rw [← List.take_append_drop k parts, List.flatMap_append, List.length_append]
  omega
theorem jl_len (parts : List ByteArray) (k : Nat) (h : k < parts.length) : (jl parts (k + 1)).length = (jl parts k).length + (parts[k]).size := by
  rw [jl_succ parts k h, List.length_append]; rfl

/-- 'copy(dst, s)', s a text: the run, and what it leaves of the row. -/
theorem copy_text_run {P : Program} {w : World} (dT sT ty : TypeId) (elem : TypeId) (hu : P.underlying dT = some (.slice elem)) (hsz : (P.info? elem).map (·.size) = some 1)
    (dp : Option Addr) (dLen dCap : Nat) (str : ByteArray)
    (g off : Nat) (cur : List Value) (t : TypeId) (hg : w.heap[g]? = some (.cells cur.toArray t (0, 0))) (hle : str.size ≤ dLen)
    (hpos : 0 < str.size → dp = some ⟨g, off, none⟩) (hfit : off + str.size ≤ cur.length) (B : Nat) (w0 : World) (hb : Below B w0 w) (hBg : B ≤ g) :
    ∃ w', (Builtin.copy_ #[dT, sT] ty #[.slice dp dLen dCap, .string str]).run P w = .ok (.int .i64 str.size) w' ∧ Hid (w'.heap[g]? = some (.cells (splice cur off (byteCells str.data.toList)).toArray t (0, 0))) ∧ Below B w0 w' := by
  have hlen : (byteCells str.data.toList).length = str.size := by rw [byteCells_length]; rfl
  by_cases h0 : str.size = 0
  · have hrun := Go.Lib.run_copy_empty_string (P := P) w dT sT ty elem dp dLen dCap str hu (by cases hq : P.info? elem <;> simp [hq] at hsz ⊢) h0
    have hnil : byteCells str.data.toList = [] := List.eq_nil_of_length_eq_zero (by omega)
    refine ⟨w, by rw [hrun, h0]; rfl, show _ = _ from ?_, hb⟩
    rw [hnil]
    simpa [splice] using hg
  · have hd' := hpos (by omega)
    subst hd'
    have hrun := Go.Lib.run_copy_row_string (P := P) w dT sT ty elem g off dLen dCap str cur.toArray t hu hsz hg hle (by simpa using hfit)
    refine ⟨_, hrun, show _ = _ from ?_, below_setRow hb hBg _⟩
    have := setRow_heap w g cur.toArray (List.take off cur ++ byteCells str.data.toList ++ List.drop (off + str.size) cur).toArray t (0, 0) hg
    simpa [splice, hlen] using this

theorem splice_next (pre cs rest : List Value) (h : cs.length ≤ rest.length) : splice (pre ++ rest) pre.length cs = (pre ++ cs) ++ rest.drop cs.length := by
  unfold splice
  simp [List.drop_append]

theorem row_of_full {w : World} {base e g n : Nat} {xs : List Value} (h : w.ownsRow base e 1 (.slice (some ⟨g, 0, none⟩) n n) n xs) :
    ∃ rest : List Value, w.heap[g]? = some (.cells rest.toArray e (0, 0)) ∧ rest.length = n := by
  rcases h.2 with ⟨h1, _⟩ | ⟨g', cap, cur, h1, _, hg, _, _, hs, _⟩
  · simp at h1
  · simp at h1
    obtain ⟨rfl, rfl⟩ := h1
    exact ⟨cur.toList, by simpa using hg, by simpa using hs⟩

theorem Trydinfo5 : (Tryd.prog.info? 5).map (fun i => (i.zero, i.size, i.bytes)) = some (some (.int .u8 0), 1, 1) := by kernel_rfl
theorem Trydsize5 : (Tryd.prog.info? 5).map (·.size) = some 1 := by kernel_rfl

set_option maxHeartbeats 2000000 in
theorem join_len (parts : List ByteArray) (b cap : Nat) (w : World) (hcap : parts.length ≤ cap) (hcm : parts.length ≤ 1000) (hb : b < w.heap.size)
    (hc : ∀ k (h : k < parts.length), w.cell? ⟨b, k, none⟩ = some (.string parts[k])) (htot : (jl parts parts.length).length ≤ 1099511627776) :
    Calls Tryd.prog 57 #[.slice (some ⟨b, 0, none⟩) parts.length cap] w fun e w' => e = .returned (.string (joinB parts)) ∧ Below w.heap.size w w' := by
  obtain ⟨i0, hi, hz0, hz1, hz2⟩ := info_parts Trydinfo5
  go_enter Tryd.func57, Tryd.ntmps57
  go_wp2
  go_loop [3, 12] (fun x i => ∃ k : Nat, k ≤ parts.length ∧ i = .int .i64 k ∧ x = .int .i64 ((jl parts k).length : Nat)) (fun _ i => parts.length - (intOf i).toNat)
  case atStart => exact ⟨0, by omega, rfl, rfl⟩
  case round =>
    obtain ⟨k, hk, rfl, rfl⟩ := hrel
    by_cases hlt : k < parts.length
    · have hcell := hc k hlt
      have h1 := jl_le parts (k + 1)
      have h2 := jl_len parts k hlt
      have HL : Hid ((jl parts (k + 1)).length = (jl parts k).length + (parts[k]).size) := h2
      have hbd : (jl parts k).length + (parts[k]).size ≤ 1099511627776 := by omega
      clear h1 h2
      go_wp2
      go_round
      case rel => exact ⟨k + 1, by omega, by go_num, by rw [HL.out]; go_num⟩
      case measure => simp [intOf]; omega
    · have : k = parts.length := by omega
      subst this
      obtain ⟨n, hn⟩ : ∃ n, n = (jl parts parts.length).length := ⟨_, rfl⟩
      rw [← hn] at htot ⊢
      have HN : Hid (n = (jl parts parts.length).length) := hn
      clear hn
      go_wp2_with (at_make; refine wpList_make_full _ rfl _ _ 94 rfl w.heap.size 5 i0 (.int .u8 0) 1 Tryd.underlying94 hi hz0 hz1 .i64 .i64 _ _ n rfl rfl rfl rfl ?b2 ?b3 ?b4 ?_)
      case b2 => omega
      case b3 => unfold maxLen; omega
      intro wm hown hgrow
      obtain ⟨rest0, hrow0, hrl0⟩ := row_of_full hown
      have hbm : Below w.heap.size w wm := (Below.refl _ _).grown hgrow (Nat.le_refl _) (fun _ h => by cases h)
      have HR0 : Hid (wm.heap[w.heap.size]? = some (.cells rest0.toArray 5 (0, 0))) := hrow0
      clear hown hgrow hrow0
      obtain ⟨G, hG⟩ : ∃ G, G = w.heap.size := ⟨_, rfl⟩
      have HG : Hid (G = w.heap.size) := hG
      rw [← hG] at hbm HR0 hb ⊢
      clear hG
      go_wp2
      go_loopw [7, 25] (fun x i wr => ∃ k : Nat, k ≤ parts.length ∧ i = .int .i64 k ∧ x = .int .i64 ((jl parts k).length : Nat) ∧ Below G w wr ∧ ∃ rest : List Value, Hid (wr.heap[G]? = some (.cells (byteCells (jl parts k) ++ rest).toArray 5 (0, 0))) ∧ rest.length = n - (jl parts k).length) (fun _ i _ => parts.length - (intOf i).toNat)
      case atStart => exact ⟨0, by omega, rfl, rfl, hbm, rest0, HR0, by rw [hrl0]; rfl⟩
      case round =>
        obtain ⟨k, hk, rfl, rfl, hbr, rest, HR, hrl⟩ := hrel
        by_cases hlt : k < parts.length
        · have hcell := hc k hlt
          have hcr : wr.cell? ⟨b, k, none⟩ = some (.string parts[k]) := (hbr.cell (p := ⟨b, k, none⟩) hb).trans hcell
          have h1 := jl_le parts (k + 1)
          have h2 := jl_len parts k hlt
          rw [← HN.out] at h1
          have HL : Hid ((jl parts (k + 1)).length = (jl parts k).length + (parts[k]).size) := h2
          have HB : Hid ((jl parts k).length + (parts[k]).size ≤ n) := hid_intro (by omega)
          have HC : Hid (jl parts (k + 1) = jl parts k ++ (parts[k]).data.toList) := jl_succ parts k hlt
          clear h1 h2 hcell
          obtain ⟨L, hL⟩ : ∃ L, L = jl parts k := ⟨_, rfl⟩
          rw [← hL] at HL HB HC HR hrl ⊢
          clear hL
          obtain ⟨m, hm⟩ : ∃ m, m = L.length := ⟨_, rfl⟩
          rw [← hm] at HL HB hrl ⊢
          have HM : Hid (m = L.length) := hm
          clear hm
          obtain ⟨q, hq⟩ : ∃ q, q = parts[k] := ⟨_, rfl⟩
          rw [← hq] at HL HB HC hcr
          clear hq
          have hqn : m + q.size ≤ n := HB.out
          have hfin : ∀ w', Hid (w'.heap[G]? = some (.cells (splice (byteCells L ++ rest) m (byteCells q.data.toList)).toArray 5 (0, 0))) → Below G w w' →
              ∃ k' : Nat, k' ≤ parts.length ∧ Value.int .i64 ((k : Int) + 1) = .int .i64 k' ∧ Value.int .i64 ((m : Int) + q.size) = .int .i64 ((jl parts k').length : Nat) ∧ Below G w w' ∧ ∃ rest : List Value, Hid (w'.heap[G]? = some (.cells (byteCells (jl parts k') ++ rest).toArray 5 (0, 0))) ∧ rest.length = n - (jl parts k').length := by
            intro w' hh hbb
            refine ⟨k + 1, by omega, by go_num, by rw [HL.out]; go_num, hbb, rest.drop (byteCells q.data.toList).length, ?_, ?_⟩
            · have hlen : (byteCells L).length = m := by rw [byteCells_length]; exact HM.out.symm
              have hq2 : (byteCells q.data.toList).length = q.size := byteCells_length _
              have := splice_next (byteCells L) (byteCells q.data.toList) rest (by rw [hq2, hrl]; omega)
              rw [hlen] at this
              rw [HC.out, byteCells_append, ← this]
              exact hh
            · have hq2 : (byteCells q.data.toList).length = q.size := byteCells_length _
              rw [List.length_drop, hq2, hrl, HL.out]; omega
          have HF := hid_intro hfin
          have hcur : (byteCells L ++ rest).length = n := by rw [List.length_append, byteCells_length, ← HM.out, hrl]; omega
          clear hfin HL HC HB
          by_cases hmn : m < n
          · obtain ⟨w4, hrun, hg4, hb4⟩ := copy_text_run (P := Tryd.prog) 94 9 3 5 Tryd.underlying94 Trydsize5 (some ⟨G, m, none⟩) (n - m) (n - m) q G m (byteCells L ++ rest) 5 HR.out (by omega) (fun _ => rfl) (by omega) G w hbr (Nat.le_refl _)
            clear HR
            go_wp2
            go_roundw
            case rel => exact HF.out _ hg4 hb4
            case measure => simp [intOf]; omega
          · obtain rfl : m = n := by omega
            have hq0 : q.size = 0 := by omega
            obtain ⟨w4, hrun, hg4, hb4⟩ := copy_text_run (P := Tryd.prog) 94 9 3 5 Tryd.underlying94 Trydsize5 (some ⟨G, 0, none⟩) 0 0 q G m (byteCells L ++ rest) 5 HR.out (by omega) (fun _ => by omega) (by omega) G w hbr (Nat.le_refl _)
            rw [hq0] at hrun
            clear HR
            go_wp2
            go_roundw
            case rel => have := HF.out _ hg4 hb4; simp only [hq0] at this; simpa using this
            case measure => simp [intOf]; omega
        · have : k = parts.length := by omega
          subst this
          have hall : (jl parts parts.length).length = n := HN.out.symm
          obtain rfl : rest = [] := List.eq_nil_of_length_eq_zero (by rw [hrl, hall]; omega)
          have hback := fun dst (hd : Tryd.prog.underlying dst = some .string) => run_convert_bytes_back (P := Tryd.prog) wr 94 dst 5 ⟨G, 0, none⟩ n (jl parts parts.length) Tryd.underlying94 Tryd.underlying5 hd (Go.Lib.bytes_of_row HR.out (by simp; rw [List.take_of_length_le (by simp [byteCells])]))
          have hb9 := hback 9 Tryd.underlying9
          rw [hall] at hb9
          clear hback hall HR
          go_wp2
          go_ret
          refine ⟨ret_str ?_, HG.out ▸ hbr⟩
          unfold joinB
          rw [← jl_all]
theorem join_any (parts : List ByteArray) (b cap : Nat) (w : World) (hcap : parts.length ≤ cap) (hcm : cap ≤ 1000) (hb : b < w.heap.size)
    (hc : ∀ k (h : k < parts.length), w.cell? ⟨b, k, none⟩ = some (.string parts[k])) (htot : (jl parts parts.length).length ≤ 1099511627776) :
    Calls Tryd.prog 57 #[.slice (some ⟨b, 0, none⟩) parts.length cap] w fun e w' => e = .returned (.string (joinB parts)) ∧ Below w.heap.size w w' :=
  join_len parts b cap w hcap (by omega) hb hc htot
theorem cell_new {w : World} {C : Array Value} {T : TypeId} {k : Nat} {v : Value} (h : C[k]? = some v) : (w.alloc (.cells C T)).cell? ⟨w.heap.size, k, none⟩ = some v := by
  rw [World.cell?_alloc_mark]; exact h
theorem join1 (a : ByteArray) (w : World) (ht : a.size ≤ 1099511627776) :
    Calls Tryd.prog 57 #[.slice (some ⟨w.heap.size, 0, none⟩) 1 1] (w.alloc (.cells #[.string a] 9)) fun e w' => e = .returned (.string a) ∧ Below w.heap.size w w' := by
  refine (join_any [a] w.heap.size 1 _ (Nat.le_refl _) (by omega) (by simp) (fun k h => cell_new (by match k, h with | 0, _ => rfl)) (by simp [jl]; exact ht)).mono ?_
  rintro e w' ⟨rfl, hb⟩
  refine ⟨ret_str (by unfold joinB; simp), ((Below.refl _ _).alloc (Nat.le_refl _) _).trans (hb.mono (by simp))⟩
theorem join2 (a b : ByteArray) (w : World) (ht : a.size + b.size ≤ 1099511627776) :
    Calls Tryd.prog 57 #[.slice (some ⟨w.heap.size, 0, none⟩) 2 2] (w.alloc (.cells #[.string a, .string b] 9)) fun e w' => e = .returned (.string (a ++ b)) ∧ Below w.heap.size w w' := by
  refine (join_any [a, b] w.heap.size 2 _ (Nat.le_refl _) (by omega) (by simp) (fun k h => cell_new (by match k, h with | 0, _ => rfl | 1, _ => rfl)) (by simp [jl]; exact ht)).mono ?_
  rintro e w' ⟨rfl, hb⟩
  refine ⟨ret_str (ByteArray.ext (by unfold joinB; simp)), ((Below.refl _ _).alloc (Nat.le_refl _) _).trans (hb.mono (by simp))⟩
end JoinR
end Go.Proofs.YtgaihlhoegaliaaDoor
namespace Go.Proofs.YtgaihlhoegaliaaDoor
open Go.ChangeShapes Go.WideShapes Go.ChangeAt Go.RowKit
set_option linter.unusedVariables false
namespace DocR
open JoinR (joinB jl)
open CatR (Blk)
theorem own_drew {w : World} {base e size n : Nat} {v : Value} {xs : List Value} (h : w.ownsRow base e size v n xs) : w.drew.ownsRow base e size v n xs := h
theorem step_append_own {P : Program} {w : World} {ops : Array Oper} {o : Oper} {a : Act} {K : Act → World → Prop} {Q : Exit → Act → World → Prop} {E : Prop} (hgd : o.guard = none) (s x : Operand) (t : TypeId)
    (ho : o.op = .call { callee := .builtin .append, args := #[s, x], argTypes := #[t, t] })
    (base : Nat) (e : TypeId) (i : TypeInfo) (z : Value) (size bytes : Nat) (ht : P.underlying t = some (.slice e)) (hi : P.info? e = some i) (hz : i.zero = some z)
    (hsize : i.size = size) (hby : i.bytes = bytes) (hzs : z.cells.size = size) (hsz : 0 < size)
    (v : Value) (n : Nat) (xs : List Value) (hs : a.eval s = v) (hown : w.ownsRow base e size v n xs)
    (ad : Addr) (m c : Nat) (news : List Value) (hx : a.eval x = .slice (some ad) m c) (hl : news.length = m * size) (hnews : ∀ j u, news[j]? = some u → w.cell? (ad.add j) = some u) (h1 : ∀ u ∈ news, u.oneCell' = true)
    (h63 : n + m ≤ maxLen) (hbytes : (n + m) * bytes ≤ 140737488355328) (hbase : base ≤ w.heap.size)
    (h : ∀ v' w', w'.ownsRow base e size v' (n + m) (xs ++ news) → w.grownBy w' v.ownBlock → (v' = .slice none 0 0 ↔ v = .slice none 0 0 ∧ m = 0) → K (a.put o.dst v') w') : if Region.wanted o (yielded ops a.tmps) = true then Oper.wp P o a w K Q else E := by
  have hw : Region.wanted o (yielded ops a.tmps) = true := by simp [Region.wanted, hgd]
  rw [if_pos hw]
  exact wp_append_own w s x t ho base e i z size bytes ht hi hz hsize hby hzs hsz v n xs hs hown ad m c news hx hl hnews h1 h63 hbytes hbase h
theorem own_base {w : World} {base e size n : Nat} {v : Value} {xs : List Value} (h : w.ownsRow base e size v n xs) (hv : v ≠ .slice none 0 0) : base ≤ w.heap.size := by
  rcases h.2 with ⟨h0, _⟩ | ⟨g, cap, cur, h1, h2, hg, _⟩
  · exact absurd h0 hv
  · have := (Array.getElem?_eq_some_iff.1 hg).1
    omega
theorem two_cells (w : World) (x y : ByteArray) (T : TypeId) : ∀ j u, [Value.string x, Value.string y][j]? = some u → (w.alloc (.cells #[.string x, .string y] T)).cell? ((⟨w.heap.size, 0, none⟩ : Addr).add j) = some u := by
  intro j u hj
  match j, hj with
  | 0, hj => simp at hj; subst hj; simp [Addr.add]
  | 1, hj => simp at hj; subst hj; simp [Addr.add, go_sem]
theorem two_one (x y : ByteArray) : ∀ u ∈ [Value.string x, Value.string y], u.oneCell' = true := by
  intro u hu
  simp at hu
  rcases hu with rfl | rfl <;> rfl
theorem one_cell (w : World) (x : ByteArray) (T : TypeId) : ∀ j u, [Value.string x][j]? = some u → (w.alloc (.cells #[.string x] T)).cell? ((⟨w.heap.size, 0, none⟩ : Addr).add j) = some u := by
  intro j u hj
  match j, hj with
  | 0, hj => simp at hj; subst hj; simp [Addr.add]
theorem one_one (x : ByteArray) : ∀ u ∈ [Value.string x], u.oneCell' = true := by
  intro u hu
  simp at hu
  subst hu; rfl
theorem blk_grown {b : Nat} {cs : List Value} {w w' : World} {row : Option Nat} (h : Blk b cs w) (hg : w.grownBy w' row) (hne : some b ≠ row) : Blk b cs w' := by
  have e := hg.block b h.1 hne
  exact ⟨by have := hg.size; have := h.1; omega, fun i hi => (World.cell?_of_block (a := ⟨b, i, none⟩) e).trans (h.2 i hi)⟩
theorem four_cells (w : World) (x y z u : ByteArray) (T : TypeId) : ∀ j v, [Value.string x, Value.string y, Value.string z, Value.string u][j]? = some v → (w.alloc (.cells #[.string x, .string y, .string z, .string u] T)).cell? ((⟨w.heap.size, 0, none⟩ : Addr).add j) = some v := by
  intro j v hj
  match j, hj with
  | 0, hj => simp at hj; subst hj; simp [Addr.add]
  | 1, hj => simp at hj; subst hj; simp [Addr.add, go_sem]
  | 2, hj => simp at hj; subst hj; simp [Addr.add, go_sem]
  | 3, hj => simp at hj; subst hj; simp [Addr.add, go_sem]
theorem four_one (x y z u : ByteArray) : ∀ v ∈ [Value.string x, Value.string y, Value.string z, Value.string u], v.oneCell' = true := by
  intro v hv
  simp at hv
  rcases hv with rfl | rfl | rfl | rfl <;> rfl
theorem joinB_app (a b : List ByteArray) : joinB (a ++ b) = joinB a ++ joinB b := by
  apply ByteArray.ext
  simp [joinB]
theorem joinB_one (x : ByteArray) : joinB [x] = x := by
  apply ByteArray.ext
  simp [joinB]
theorem joinB_two (x y : ByteArray) : joinB [x, y] = x ++ y := by
  apply ByteArray.ext
  simp [joinB]
theorem jl_size (l : List ByteArray) : (jl l l.length).length = (joinB l).size := by
  rw [JoinR.jl_all]
  show _ = (List.toArray _).size
  rw [List.size_toArray]
theorem take_flat {α : Type} (l : List α) (f : α → List ByteArray) (d : α) (k : Nat) (h : k < l.length) : (l.take (k + 1)).flatMap f = (l.take k).flatMap f ++ f (l.getD k d) := by
  rw [List.take_add_one, List.getElem?_eq_getElem h, List.flatMap_append]
  simp [List.getD, h]
theorem take_map {α : Type} (l : List α) (f : α → ByteArray) (d : α) (k : Nat) (h : k < l.length) : (l.take (k + 1)).map f = (l.take k).map f ++ [f (l.getD k d)] := by
  rw [List.take_add_one, List.getElem?_eq_getElem h, List.map_append]
  simp [List.getD, h]
theorem join_size_le (K : Nat) : ∀ l : List ByteArray, (∀ x ∈ l, x.size ≤ K) → (joinB l).size ≤ l.length * K
  | [], _ => by show 0 ≤ _; exact Nat.zero_le _
  | x :: l, h => by
    have h1 := join_size_le K l (fun y hy => h y (List.mem_cons_of_mem _ hy))
    have h2 := h x (List.mem_cons_self ..)
    have e : joinB (x :: l) = x ++ joinB l := by
      have := joinB_app [x] l
      rw [joinB_one] at this
      exact this
    rw [e, ByteArray.size_append, List.length_cons, Nat.add_mul]
    omega
theorem infoS : (Tryd.prog.info? 9).map (fun i => (i.zero, i.size, i.bytes)) = some (some (.string ⟨#[]⟩), 1, 16) := by kernel_rfl
theorem own_below {w w' : World} {base e size n : Nat} {v : Value} {xs : List Value} (h : w.ownsRow base e size v n xs) (hb : Below w.heap.size w w') : w'.ownsRow base e size v n xs := by
  refine ⟨h.1, ?_⟩
  rcases h.2 with hn | ⟨g, cap, cur, rfl, h1, hg, rest⟩
  · exact .inl hn
  · exact .inr ⟨g, cap, cur, rfl, h1, (hb.block g (Array.getElem?_eq_some_iff.1 hg).1).trans hg, rest⟩
theorem own_texts {w : World} {base n : Nat} {v : Value} {xs : List ByteArray} (h : w.ownsRow base 9 1 v n (xs.map Value.string)) (hne : v ≠ .slice none 0 0) :
    ∃ g cap, v = .slice (some ⟨g, 0, none⟩) n cap ∧ g < w.heap.size ∧ xs.length = n ∧ n ≤ cap ∧ ∀ k (hk : k < xs.length), w.cell? ⟨g, k, none⟩ = some (.string xs[k]) := by
  have hl := h.1
  have hlen : xs.length = n := by simpa using hl
  rcases h.2 with ⟨h0, _⟩ | ⟨g, cap, cur, hv, _, _, hc, _⟩
  · exact absurd h0 hne
  · refine ⟨g, cap, hv, (h.lt g (by rw [hv]; rfl)).2, hlen, hc, fun k hk => ?_⟩
    have := h.cells (g := g) (by rw [hv]; rfl) k (.string xs[k]) (by simp [List.getElem?_map, List.getElem?_eq_getElem hk])
    rw [← this]
    congr 1
    unfold Addr.add; split <;> simp_all
/-- What is held while a pair's fields are put. -/
def BM2 (w : World) (B : Nat) (a0 a1 : Value) (W : World) : Prop := Below w.heap.size w W ∧ B < W.heap.size ∧ W.cell? ⟨B, 0, none⟩ = some a0 ∧ W.cell? ⟨B, 1, none⟩ = some a1
theorem BM2.below {w : World} {B : Nat} {a0 a1 : Value} {W W' : World} (h : BM2 w B a0 a1 W) (hb : Below W.heap.size W W') : BM2 w B a0 a1 W' := by
  obtain ⟨h0, l1, p0, p1⟩ := h
  have f := fun o => hb.cell (p := ⟨B, o, none⟩) l1
  have hs := hb.size
  exact ⟨h0.trans (hb.mono h0.size), by omega, (f 0).trans p0, (f 1).trans p1⟩
theorem BM2.drew {w : World} {B : Nat} {a0 a1 : Value} {W : World} (h : BM2 w B a0 a1 W) : BM2 w B a0 a1 W.drew := ⟨h.1.drew, h.2⟩
theorem BM2.grown {w : World} {B : Nat} {a0 a1 : Value} {W W' : World} {v : Value} {wr : World} {base e size n : Nat} {xs : List Value} (h : BM2 w B a0 a1 W) (hg : W.grownBy W' v.ownBlock) (ho : wr.ownsRow base e size v n xs) (hB : B = wr.heap.size := by rfl) (hbase : w.heap.size ≤ base := by omega) : BM2 w B a0 a1 W' := by
  obtain ⟨h0, l1, p0, p1⟩ := h
  have hne : some B ≠ v.ownBlock := fun e => by have := (ho.lt B e.symm).2; omega
  have e := hg.block B l1 hne
  exact ⟨h0.grown hg h0.size (fun k e => by have := (ho.lt k e).1; omega), by have := hg.size; omega, (World.cell?_of_block (a := ⟨B, 0, none⟩) e).trans p0, (World.cell?_of_block (a := ⟨B, 1, none⟩) e).trans p1⟩
end DocR
end Go.Proofs.YtgaihlhoegaliaaDoor
namespace Go.Proofs.YtgaihlhoegaliaaDoor
open Go
/-- As Q; by a goto to a label l: J l. -/
def jumps (J : Nat → Act → World → Prop) (Q : Exit → Act → World → Prop) : Exit → Act → World → Prop
  | .goto l, a, w => J l a w
  | e, a, w => Q e a w
theorem jumps_ret {J : Nat → Act → World → Prop} {Q : Exit → Act → World → Prop} {a : Act} {w : World} : jumps J Q .ret a w = Q .ret a w := rfl
theorem jumps_goto {J : Nat → Act → World → Prop} {Q : Exit → Act → World → Prop} {a : Act} {w : World} {l : Nat} : jumps J Q (.goto l) a w = J l a w := rfl
theorem wp_scope_multi {P : Program} {a : Act} {w : World} {Q : Exit → Act → World → Prop} {c : Code} (J : Nat → Act → World → Prop) (μ : Nat → Act → World → Nat)
    (first : c.wp P (jumps J Q) a w)
    (pass : ∀ l a w, J l a w → ∃ rest, findLabel c l = some rest ∧ rest.wp P (jumps (fun l' a' w' => J l' a' w' ∧ μ l' a' w' < μ l a w) Q) a w) : (Code.scope c).wp P Q a w := by
  intro b k cs
  have key : ∀ n l a w, μ l a w = n → J l a w → ∃ rest, findLabel c l = some rest ∧ ∃ e a' w', Q e a' w' ∧ Arrives P (lone (b.at a (.code rest :: .inScope c :: k)) cs w) b k cs e a' w' := by
    intro n
    induction n using Nat.strongRecOn with
    | _ n ih =>
      intro l a w hn hJ
      obtain ⟨rest, hf, hp⟩ := pass l a w hJ
      refine ⟨rest, hf, ?_⟩
      obtain ⟨e, a₁, w₁, hq, harr⟩ := hp b (.inScope c :: k) cs
      cases e with
      | normal => exact ⟨.normal, a₁, w₁, hq, Steps.trans harr (.one step_inScope)⟩
      | exit id => exact ⟨.exit id, a₁, w₁, hq, fun k' hk => harr k' (by simp [exitTo, hk])⟩
      | goto l' =>
        obtain ⟨hJ', hlt⟩ := hq
        obtain ⟨rest', hf', e₂, a₂, w₂, hq₂, harr₂⟩ := ih _ (by omega) l' a₁ w₁ rfl hJ'
        have hg : gotoIn l' (.inScope c :: k) = some (.code rest' :: .inScope c :: k) := by simp [gotoIn, hf']
        exact ⟨e₂, a₂, w₂, hq₂, .of_steps (harr _ hg) harr₂⟩
      | ret => exact ⟨_, a₁, w₁, hq, harr⟩
      | panic ch => exact ⟨_, a₁, w₁, hq, harr⟩
      | outgrown => exact ⟨_, a₁, w₁, hq, harr⟩
  obtain ⟨e, a₁, w₁, hq, harr⟩ := first b (.inScope c :: k) cs
  cases e with
  | normal => exact ⟨.normal, a₁, w₁, hq, .head step_scope (Steps.trans harr (.one step_inScope))⟩
  | exit id => exact ⟨.exit id, a₁, w₁, hq, fun k' hk => .head step_scope (harr k' (by simp [exitTo, hk]))⟩
  | goto l' =>
    obtain ⟨rest', hf', e₂, a₂, w₂, hq₂, harr₂⟩ := key _ l' a₁ w₁ rfl hq
    have hg : gotoIn l' (.inScope c :: k) = some (.code rest' :: .inScope c :: k) := by simp [gotoIn, hf']
    exact ⟨e₂, a₂, w₂, hq₂, .of_steps (.head step_scope (harr _ hg)) harr₂⟩
  | ret => exact ⟨_, a₁, w₁, hq, .of_steps (.one step_scope) harr⟩
  | panic ch => exact ⟨_, a₁, w₁, hq, .of_steps (.one step_scope) harr⟩
  | outgrown => exact ⟨_, a₁, w₁, hq, .of_steps (.one step_scope) harr⟩
end Go.Proofs.YtgaihlhoegaliaaDoor
namespace Go.Proofs.YtgaihlhoegaliaaDoor
open Go.RowKit
namespace GetR
theorem hid_intro {p : Prop} (h : p) : Hid p := h
def rd (s : ByteArray) (p : Nat) : Nat → Nat → Nat → Nat × Nat × Nat
  | 0, _, _ => (3, 0, 0)
  | f + 1, i, u =>
    if h : p + i < s.size then
      if i = 9 ∧ 1 < s[p + i].toNat then (3, 0, 0)
      else if s[p + i].toNat < 128 then (if s[p + i].toNat = 0 ∧ 0 < i then (3, 0, 0) else (0, u + s[p + i].toNat % 128 * 2 ^ (7 * i), i + 1))
      else rd s p f (i + 1) (u + s[p + i].toNat % 128 * 2 ^ (7 * i))
    else (4, 0, 0)
theorem rd_short {s : ByteArray} {p f i u : Nat} (h : s.size ≤ p + i) : rd s p (f + 1) i u = (4, 0, 0) := by
  rw [rd, dif_neg (by omega)]
theorem rd_nine {s : ByteArray} {p f i u : Nat} (h : p + i < s.size) (h9 : i = 9) (hc : 1 < s[p + i].toNat) : rd s p (f + 1) i u = (3, 0, 0) := by
  rw [rd, dif_pos h, if_pos ⟨h9, hc⟩]
theorem rd_zero {s : ByteArray} {p f i u : Nat} (h : p + i < s.size) (hc : s[p + i].toNat = 0) (hi : 0 < i) : rd s p (f + 1) i u = (3, 0, 0) := by
  rw [rd, dif_pos h, if_neg (by omega), if_pos (by omega), if_pos ⟨hc, hi⟩]
theorem rd_last {s : ByteArray} {p f i u : Nat} (h : p + i < s.size) (h9 : ¬ (i = 9 ∧ 1 < s[p + i].toNat)) (hc : s[p + i].toNat < 128) (hz : ¬ (s[p + i].toNat = 0 ∧ 0 < i)) :
    rd s p (f + 1) i u = (0, u + s[p + i].toNat % 128 * 2 ^ (7 * i), i + 1) := by
  rw [rd, dif_pos h, if_neg h9, if_pos hc, if_neg hz]
theorem rd_more {s : ByteArray} {p f i u : Nat} (h : p + i < s.size) (h9 : i ≠ 9) (hc : 128 ≤ s[p + i].toNat) :
    rd s p (f + 1) i u = rd s p f (i + 1) (u + s[p + i].toNat % 128 * 2 ^ (7 * i)) := by
  rw [rd, dif_pos h, if_neg (by omega), if_neg (by omega)]
/-- What is read in all, and what is still to be read behind k bytes, are one. -/
def RdI (s : ByteArray) (p k u : Nat) : Prop := k ≤ 9 ∧ u < 2 ^ (7 * k) ∧ rd s p 10 0 0 = rd s p (9 - k + 1) k u
theorem rdI_zero (s : ByteArray) (p : Nat) : RdI s p 0 0 := ⟨by omega, by simp, rfl⟩
theorem grow7 {u k c : Nat} (h : u < 2 ^ (7 * k)) (hc : c ≤ 127) : u + c * 2 ^ (7 * k) < 2 ^ (7 * (k + 1)) := by
  have e : 2 ^ (7 * (k + 1)) = 128 * 2 ^ (7 * k) := by rw [show 7 * (k + 1) = 7 * k + 7 from by omega, Nat.pow_add, Nat.mul_comm]
  have : c * 2 ^ (7 * k) ≤ 127 * 2 ^ (7 * k) := Nat.mul_le_mul_right _ hc
  omega
theorem pow7 {k : Nat} (h : k ≤ 9) : 2 ^ (7 * k) ≤ 9223372036854775808 := by
  have := Nat.pow_le_pow_right (show 0 < 2 by omega) (show 7 * k ≤ 63 by omega)
  exact this
theorem rdI_more {s : ByteArray} {p k u : Nat} (h : RdI s p k u) (hp : p + k < s.size) (h9 : k ≠ 9) (hc : 128 ≤ s[p + k].toNat) : RdI s p (k + 1) (u + s[p + k].toNat % 128 * 2 ^ (7 * k)) := by
  refine ⟨by have := h.1; omega, grow7 h.2.1 (by omega), ?_⟩
  rw [h.2.2, rd_more hp h9 hc]
  congr 1
  have := h.1
  omega
theorem top64 {s : ByteArray} {p k u : Nat} (h : RdI s p k u) (hp : p + k < s.size) (h9 : ¬ (k = 9 ∧ 1 < s[p + k].toNat)) : u + s[p + k].toNat % 128 * 2 ^ (7 * k) < 18446744073709551616 := by
  by_cases e : k = 9
  · subst e
    have h1 : u < 9223372036854775808 := h.2.1
    have h2 : s[p + 9].toNat % 128 * 2 ^ (7 * 9) ≤ 1 * 9223372036854775808 := Nat.mul_le_mul (by omega) (Nat.le_refl _)
    omega
  · have := grow7 h.2.1 (show s[p + k].toNat % 128 ≤ 127 by omega)
    have := pow7 (show k + 1 ≤ 9 by have := h.1; omega)
    omega
/-- A folded number, unfolded. -/
def unz (u : Nat) : Int := if u % 2 = 1 then -((u / 2 : Nat) : Int) - 1 else ((u / 2 : Nat) : Int)
theorem unz_odd {u : Nat} (h : u % 2 = 1) : unz u = -((u / 2 : Nat) : Int) - 1 := if_pos h
theorem unz_even {u : Nat} (h : u % 2 = 0) : unz u = ((u / 2 : Nat) : Int) := if_neg (by omega)
theorem u64wrap (n : Int) : IntKind.u64.wrap n = n % 18446744073709551616 := by simp [IntKind.wrap, IntKind.bits, IntKind.signed]
theorem xor_ones (x : Int) (h0 : 0 ≤ x) (h1 : x ≤ 18446744073709551615) : bits .xor .u64 IntKind.u64.max x = 18446744073709551615 - x := by
  have hm : BitVec.ofInt 64 IntKind.u64.max = BitVec.allOnes 64 := by decide
  have hx : (BitVec.ofInt 64 x).toNat = x.toNat := by
    rw [BitVec.toNat_ofInt]; congr 1; exact Int.emod_eq_of_lt h0 (by omega)
  show IntKind.u64.wrap ((BitVec.ofInt 64 IntKind.u64.max ^^^ BitVec.ofInt 64 x).toNat : Int) = _
  rw [hm, BitVec.allOnes_xor, BitVec.toNat_not, hx, u64wrap]
  omega
theorem and127 (c : Nat) (h : c < 256) : bits .and .u8 (c : Int) 127 = ((c % 128 : Nat) : Int) := by
  have := u8_and_nat c 127 (by omega) (by omega)
  rw [show ((127 : Nat) : Int) = 127 from rfl] at this
  rw [this]
  congr 1
  exact Nat.and_two_pow_sub_one_eq_mod c 7
/-- What the program's round adds: its 'or' is a plus. -/
theorem or_plus {s : ByteArray} {p k u : Nat} (h : RdI s p k u) (hp : p + k < s.size) (h9 : ¬ (k = 9 ∧ 1 < s[p + k].toNat)) :
    bits .or .u64 (u : Int) (IntKind.u64.wrap (IntKind.u64.wrap (bits .and .u8 (s[p + k].toNat : Int) 127) * 2 ^ (7 * k))) = ((u + s[p + k].toNat % 128 * 2 ^ (7 * k) : Nat) : Int) := by
  have ht := top64 h hp h9
  have hc : s[p + k].toNat < 256 := UInt8.toNat_lt s[p + k]
  obtain ⟨c, hcc⟩ : ∃ c, c = s[p + k].toNat := ⟨_, rfl⟩
  rw [← hcc] at ht hc ⊢
  rw [and127 c hc]
  obtain ⟨q, hq⟩ : ∃ q, q = 2 ^ (7 * k) := ⟨_, rfl⟩
  have e2 : ((2 : Int) ^ (7 * k)) = ((2 ^ (7 * k) : Nat) : Int) := by simp
  have hu := h.2.1
  rw [e2]
  rw [← hq] at ht ⊢
  have e3 : IntKind.u64.wrap ((c % 128 : Nat) : Int) = ((c % 128 : Nat) : Int) := by rw [u64wrap]; omega
  have e4 : ((c % 128 : Nat) : Int) * ((q : Nat) : Int) = ((c % 128 * q : Nat) : Int) := by simp
  have e5 : IntKind.u64.wrap ((c % 128 * q : Nat) : Int) = ((c % 128 * q : Nat) : Int) := by rw [u64wrap]; omega
  rw [e3, e4, e5]
  rw [u64_or_nat u (c % 128 * q) (by omega) (by omega)]
  congr 1
  rw [Nat.or_comm, nat_join (7 * k) (c % 128 * q) u (by rw [← hq]; exact Nat.mul_mod_left _ _) hu]
  omega
theorem or_plus9 {s : ByteArray} {p u : Nat} (h : RdI s p 9 u) (hp : p + 9 < s.size) (h9 : ¬ (1 < s[p + 9].toNat)) :
    bits .or .u64 (u : Int) (IntKind.u64.wrap (IntKind.u64.wrap (bits .and .u8 (s[p + 9].toNat : Int) 127) * 9223372036854775808)) = ((u + s[p + 9].toNat % 128 * 2 ^ (7 * 9) : Nat) : Int) :=
  or_plus h hp (by omega)
end GetR
end Go.Proofs.YtgaihlhoegaliaaDoor
namespace Go.Proofs.YtgaihlhoegaliaaDoor
open Go.ChangeShapes Go.WideShapes Go.ChangeAt Go.RowKit
open Go.ChangeMaps (open_string shut_string)
set_option linter.unusedVariables false
namespace GetR
theorem and1 (u : Nat) (h : u < 18446744073709551616) : bits .and .u64 (u : Int) 1 = ((u % 2 : Nat) : Int) := by
  have := u64_and_nat u 1 h (by omega)
  rw [show ((1 : Nat) : Int) = 1 from rfl] at this
  rw [this]
  congr 1
  exact Nat.and_two_pow_sub_one_eq_mod u 1
theorem neg_bits (u : Nat) (h : u < 18446744073709551616) : wrap64 (bits .xor .u64 IntKind.u64.max ((u : Int) / 2)) = -((u / 2 : Nat) : Int) - 1 := by
  rw [xor_ones _ (by omega) (by omega)]; simp only [wrap64]; omega
theorem unfold_any (u : Nat) (w : World) (h : u < 18446744073709551616) :
    Calls Tryd.prog 58 #[.int .u64 u] w fun e w' => e = .returned (.int .i64 (unz u)) ∧ w' = w := by
  have h1 := and1 u h
  by_cases ho : u % 2 = 1
  · have hq : (bits .and .u64 (u : Int) 1 == 1) = true := by rw [h1, ho]; rfl
    have HN : Hid (wrap64 (bits .xor .u64 IntKind.u64.max ((u : Int) / 2)) = unz u) := (show _ = _ by rw [unz_odd ho]; exact neg_bits u h)
    have hu : (u : Int) ≤ 18446744073709551615 := by omega
    clear h1 ho h
    go_enter Tryd.func58, Tryd.ntmps58
    go_wp2
    go_ret
    exact ⟨ret_int HN.out, rfl⟩
  · have hq : (bits .and .u64 (u : Int) 1 == 1) = false := by rw [h1, show u % 2 = 0 by omega]; rfl
    have HN : Hid ((u : Int) / 2 = unz u) := (show _ = _ by rw [unz_even (by omega)]; omega)
    have hu : (u : Int) ≤ 18446744073709551615 := by omega
    clear h1 ho h
    go_enter Tryd.func58, Tryd.ntmps58
    go_wp2
    go_ret
    exact ⟨ret_int HN.out, rfl⟩
/-- What holds at the jumps: 0 'wrong', 1 'more', 2 'last'. -/
def Jmp (s : ByteArray) (p : Nat) (w : World) (l : Nat) (a : Act) (w' : World) : Prop :=
  (l = 0 ∧ ∃ (c : Nat) (x1 x7 x8 x9 u11 u12 u13 u14 u15 u16 u17 u18 u19 u20 u21 u22 u23 u24 u25 u26 u27 u28 u29 u30 u31 u32 u33 u34 u35 u36 u37 u38 u39 u40 u41 u42 u43 u44 u45 u46 u47 u48 u49 u50 u51 u52 : Value), a = { tmps := #[Value.string s, x1, undef, undef, Value.int .i64 0, Value.int .i64 0, Value.nilIface, x7, x8, x9, Value.pointer (some ⟨w.heap.size, 0, none⟩), u11, u12, u13, u14, u15, u16, u17, u18, u19, u20, u21, u22, u23, u24, u25, u26, u27, u28, u29, u30, u31, u32, u33, u34, u35, u36, u37, u38, u39, u40, u41, u42, u43, u44, u45, u46, u47, u48, u49, u50, u51, u52], defers := [] } ∧ w' = w.alloc (.cells #[.int .i64 c] 78) ∧ Hid (rd s p 10 0 0 = (c, 0, 0) ∧ c ≠ 0)) ∨
  (l = 1 ∧ ∃ (k u : Nat) (x1 xu x9 : Int) (x8 u11 u12 u13 u14 u15 u16 u17 u18 u19 u20 u21 u22 u23 u24 u25 u26 u27 u28 u29 u30 u31 u32 u33 u34 u35 u36 u37 u38 u39 u40 u41 u42 u43 u44 u45 u46 u47 u48 u49 u50 u51 u52 : Value), a = { tmps := #[Value.string s, Value.int .i64 x1, undef, undef, Value.int .i64 0, Value.int .i64 0, Value.nilIface, Value.int .u64 xu, x8, Value.int .i64 x9, Value.pointer (some ⟨w.heap.size, 0, none⟩), u11, u12, u13, u14, u15, u16, u17, u18, u19, u20, u21, u22, u23, u24, u25, u26, u27, u28, u29, u30, u31, u32, u33, u34, u35, u36, u37, u38, u39, u40, u41, u42, u43, u44, u45, u46, u47, u48, u49, u50, u51, u52], defers := [] } ∧ w' = w.alloc (.cells #[.int .i64 3] 78) ∧ Hid (RdI s p k u) ∧ k ≤ 9 ∧ p + k ≤ s.size ∧ x1 = (p : Int) + k ∧ xu = u ∧ x9 = 7 * (k : Int)) ∨
  (l = 2 ∧ ∃ (k u c : Nat) (x1 xu xc x9 : Int) (u11 u12 u13 u14 u15 u16 u17 u18 u19 u20 u21 u22 u23 u24 u25 u26 u27 u28 u29 u30 u31 u32 u33 u34 u35 u36 u37 u38 u39 u40 u41 u42 u43 u44 u45 u46 u47 u48 u49 u50 u51 u52 : Value), a = { tmps := #[Value.string s, Value.int .i64 x1, undef, undef, Value.int .i64 0, Value.int .i64 0, Value.nilIface, Value.int .u64 xu, Value.int .u8 xc, Value.int .i64 x9, Value.pointer (some ⟨w.heap.size, 0, none⟩), u11, u12, u13, u14, u15, u16, u17, u18, u19, u20, u21, u22, u23, u24, u25, u26, u27, u28, u29, u30, u31, u32, u33, u34, u35, u36, u37, u38, u39, u40, u41, u42, u43, u44, u45, u46, u47, u48, u49, u50, u51, u52], defers := [] } ∧ w' = w.alloc (.cells #[.int .i64 3] 78) ∧ Hid (rd s p 10 0 0 = if c = 0 ∧ 0 < k then (3, 0, 0) else (0, u, k + 1)) ∧ k ≤ 9 ∧ p + k < s.size ∧ c < 128 ∧ u < 18446744073709551616 ∧ x1 = (p : Int) + k + 1 ∧ xu = u ∧ xc = c ∧ x9 = 7 * (k : Int))
theorem rd_step {s : ByteArray} {p k u : Nat} (h : RdI s p k u) (hp : p + k < s.size) (h9 : ¬ (k = 9 ∧ 1 < s[p + k].toNat)) (hc : s[p + k].toNat < 128) :
    rd s p 10 0 0 = if s[p + k].toNat = 0 ∧ 0 < k then (3, 0, 0) else (0, u + s[p + k].toNat % 128 * 2 ^ (7 * k), k + 1) := by
  rw [h.2.2]
  split
  · next hz => exact rd_zero hp hz.1 hz.2
  · next hz => exact rd_last hp h9 hc hz
theorem or_plus0 {s : ByteArray} {p : Nat} (hp : p < s.size) :
    bits .or .u64 0 (IntKind.u64.wrap (IntKind.u64.wrap (bits .and .u8 (s[p].toNat : Int) 127))) = ((0 + s[p + 0].toNat % 128 * 2 ^ (7 * 0) : Nat) : Int) := by
  have := or_plus (rdI_zero s p) (show p + 0 < s.size from hp) (by omega)
  simpa using this
theorem ret_fault {a b : Int} {T : TypeId} (h : a = b) : Ending.returned (.tuple #[.int .i64 0, .int .i64 0, .iface T (.agg #[.int .i64 a])]) = .returned (.tuple #[.int .i64 0, .int .i64 0, .iface T (.agg #[.int .i64 b])]) := by rw [h]
theorem ret_got {a b c d : Int} (h1 : a = b) (h2 : c = d) : Ending.returned (.tuple #[.int .i64 a, .int .i64 c, .nilIface]) = .returned (.tuple #[.int .i64 b, .int .i64 d, .nilIface]) := by rw [h1, h2]
def lab (l : Nat) (a : Act) (_ : World) : Nat := match l with | 0 => 0 | 1 => 100 - (intOf (a.tmps.getD 9 undef)).toNat | _ => 1
/-- What the call hands back, of what is read. -/
def Told (w : World) (p : Nat) (r : Nat × Nat × Nat) (e : Ending) (w' : World) : Prop :=
  (r.1 = 0 → e = .returned (.tuple #[.int .i64 (unz r.2.1), .int .i64 ((p : Int) + r.2.2), .nilIface])) ∧
  (r.1 ≠ 0 → e = .returned (.tuple #[.int .i64 0, .int .i64 0, .iface 78 (.agg #[.int .i64 r.1])])) ∧ Below w.heap.size w w'
set_option maxRecDepth 100000 in
set_option maxHeartbeats 4000000 in
theorem read_any (s : ByteArray) (p : Nat) (w : World) (hs : s.size ≤ 8000) (hm : (p : Int) ≤ 9223372036854775807) :
    Calls Tryd.prog 44 #[.string s, .int .i64 p] w fun e w' => Told w p (rd s p 10 0 0) e w' := by
  go_enter Tryd.func44, Tryd.ntmps44
  go_wp2
  refine wp_scope_multi (Jmp s p w) lab ?_ ?_
  · go_wp2
    go_step3
    by_cases hp : (p : Int) < s.size
    · have hb : 0 ≤ (s[p].toNat : Int) := by omega
      have hb2 : (s[p].toNat : Int) ≤ 255 := by have := UInt8.toNat_lt s[p]; omega
      have hp0 : p + 0 < s.size := by omega
      have HO : Hid (bits .or .u64 0 (IntKind.u64.wrap (IntKind.u64.wrap (bits .and .u8 (s[p].toNat : Int) 127))) = ((0 + s[p + 0].toNat % 128 * 2 ^ (7 * 0) : Nat) : Int)) := or_plus0 (by omega)
      have HT : Hid (0 + s[p + 0].toNat % 128 * 2 ^ (7 * 0) < 18446744073709551616) := top64 (rdI_zero s p) hp0 (by omega)
      by_cases hc : (s[p].toNat : Int) < 128
      · have HR : Hid (rd s p 10 0 0 = if s[p + 0].toNat = 0 ∧ 0 < 0 then (3, 0, 0) else (0, 0 + s[p + 0].toNat % 128 * 2 ^ (7 * 0), 0 + 1)) := rd_step (rdI_zero s p) hp0 (by omega) (show s[p + 0].toNat < 128 by have : s[p + 0].toNat = s[p].toNat := rfl; omega)
        go_wp2
        go_step3
        refine .inr (.inr ⟨rfl, 0, _, s[p + 0].toNat, _, _, _, _, _, _, _, _, _, _, _, _, _, _, _, _, _, _, _, _, _, _, _, _, _, _, _, _, _, _, _, _, _, _, _, _, _, _, _, _, _, _, _, _, _, _, rfl, rfl, HR, by omega, by omega, ?_, HT.out, ?_, ?_, ?_, ?_⟩)
        · have : s[p + 0].toNat = s[p].toNat := rfl
          omega
        · omega
        · exact HO.out
        · rfl
        · rfl
      · have HI : Hid (RdI s p (0 + 1) (0 + s[p + 0].toNat % 128 * 2 ^ (7 * 0))) := rdI_more (rdI_zero s p) hp0 (by omega) (show 128 ≤ s[p + 0].toNat by have : s[p + 0].toNat = s[p].toNat := rfl; omega)
        go_wp2
        go_step3
        refine .inr (.inl ⟨rfl, 0 + 1, _, _, _, _, _, _, _, _, _, _, _, _, _, _, _, _, _, _, _, _, _, _, _, _, _, _, _, _, _, _, _, _, _, _, _, _, _, _, _, _, _, _, _, _, _, _, _, rfl, rfl, HI, by omega, by omega, ?_, ?_, ?_⟩)
        · omega
        · exact HO.out
        · rfl
    · go_wp2
      go_step3
      refine .inl ⟨rfl, 4, _, _, _, _, _, _, _, _, _, _, _, _, _, _, _, _, _, _, _, _, _, _, _, _, _, _, _, _, _, _, _, _, _, _, _, _, _, _, _, _, _, _, _, _, _, _, rfl, rfl, ?_⟩
      exact hid_intro ⟨rd_short (by omega), by omega⟩
  · rintro l a' w' (⟨rfl, c, x1, x7, x8, x9, u11, u12, u13, u14, u15, u16, u17, u18, u19, u20, u21, u22, u23, u24, u25, u26, u27, u28, u29, u30, u31, u32, u33, u34, u35, u36, u37, u38, u39, u40, u41, u42, u43, u44, u45, u46, u47, u48, u49, u50, u51, u52, rfl, rfl, HR⟩ | ⟨rfl, k, u, x1, xu, x9, x8, u11, u12, u13, u14, u15, u16, u17, u18, u19, u20, u21, u22, u23, u24, u25, u26, u27, u28, u29, u30, u31, u32, u33, u34, u35, u36, u37, u38, u39, u40, u41, u42, u43, u44, u45, u46, u47, u48, u49, u50, u51, u52, rfl, rfl, HR, hk, hpk, rfl, rfl, rfl⟩ | ⟨rfl, k, u, c, x1, xu, xc, x9, u11, u12, u13, u14, u15, u16, u17, u18, u19, u20, u21, u22, u23, u24, u25, u26, u27, u28, u29, u30, u31, u32, u33, u34, u35, u36, u37, u38, u39, u40, u41, u42, u43, u44, u45, u46, u47, u48, u49, u50, u51, u52, rfl, rfl, HR, hk, hpk, hc, hu, rfl, rfl, rfl, rfl⟩)
    · refine ⟨_, rfl, ?_⟩
      go_wp2
      go_quiet (fail)
      go_wp2
      rw [jumps_ret]
      go_ret3
      refine ⟨fun h => absurd h (by rw [HR.out.1]; exact HR.out.2), fun _ => ret_fault (by rw [HR.out.1]), ?_⟩
      exact below_drewN ((Below.refl _ _).alloc (Nat.le_refl _) _) _
    · refine ⟨_, rfl, ?_⟩
      by_cases hp : (p : Int) + k < s.size
      · have hpN : p + k < s.size := by omega
        have hb2 : (s[p + k].toNat : Int) ≤ 255 := by have := UInt8.toNat_lt s[p + k]; omega
        by_cases h9 : k = 9
        · have HK : Hid (k = 9) := h9
          have h63 : (7 * (k : Int) == 63) = true := by simp; omega
          clear h9
          by_cases hc1 : 1 < (s[p + k].toNat : Int)
          · have HS : Hid (rd s p 10 0 0 = (3, 0, 0)) := (show _ = _ by rw [HR.out.2.2]; exact rd_nine hpN HK.out (by omega))
            clear HR
            go_wp2
            go_step3
            refine ⟨.inl ⟨rfl, 3, _, _, _, _, _, _, _, _, _, _, _, _, _, _, _, _, _, _, _, _, _, _, _, _, _, _, _, _, _, _, _, _, _, _, _, _, _, _, _, _, _, _, _, _, _, _, rfl, rfl, hid_intro ⟨HS.out, by omega⟩⟩, ?_⟩
            simp [lab, intOf]; omega
          · have HO : Hid (bits .or .u64 (u : Int) (IntKind.u64.wrap (IntKind.u64.wrap (bits .and .u8 (s[p + k].toNat : Int) 127) * 2 ^ (7 * k))) = ((u + s[p + k].toNat % 128 * 2 ^ (7 * k) : Nat) : Int)) := or_plus HR.out hpN (by omega)
            have HT : Hid (u + s[p + k].toNat % 128 * 2 ^ (7 * k) < 18446744073709551616) := top64 HR.out hpN (by omega)
            have HR2 : Hid (rd s p 10 0 0 = if s[p + k].toNat = 0 ∧ 0 < k then (3, 0, 0) else (0, u + s[p + k].toNat % 128 * 2 ^ (7 * k), k + 1)) := rd_step HR.out hpN (by omega) (by omega)
            clear HR
            have hc : (s[p + k].toNat : Int) < 128 := by omega
            go_wp2
            go_step3
            refine ⟨.inr (.inr ⟨rfl, k, _, s[p + k].toNat, _, _, _, _, _, _, _, _, _, _, _, _, _, _, _, _, _, _, _, _, _, _, _, _, _, _, _, _, _, _, _, _, _, _, _, _, _, _, _, _, _, _, _, _, _, _, rfl, rfl, HR2, hk, hpN, by omega, HT.out, ?_, HO.out, rfl, rfl⟩), ?_⟩
            · omega
            · simp [lab, intOf]; omega
        · have HO : Hid (bits .or .u64 (u : Int) (IntKind.u64.wrap (IntKind.u64.wrap (bits .and .u8 (s[p + k].toNat : Int) 127) * 2 ^ (7 * k))) = ((u + s[p + k].toNat % 128 * 2 ^ (7 * k) : Nat) : Int)) := or_plus HR.out hpN (by omega)
          have HT : Hid (u + s[p + k].toNat % 128 * 2 ^ (7 * k) < 18446744073709551616) := top64 HR.out hpN (by omega)
          have h63 : (7 * (k : Int) == 63) = false := by simp; omega
          by_cases hc : (s[p + k].toNat : Int) < 128
          · have HR2 : Hid (rd s p 10 0 0 = if s[p + k].toNat = 0 ∧ 0 < k then (3, 0, 0) else (0, u + s[p + k].toNat % 128 * 2 ^ (7 * k), k + 1)) := rd_step HR.out hpN (by omega) (by omega)
            clear HR
            go_wp2
            go_step3
            refine ⟨.inr (.inr ⟨rfl, k, _, s[p + k].toNat, _, _, _, _, _, _, _, _, _, _, _, _, _, _, _, _, _, _, _, _, _, _, _, _, _, _, _, _, _, _, _, _, _, _, _, _, _, _, _, _, _, _, _, _, _, _, rfl, rfl, HR2, hk, hpN, by omega, HT.out, ?_, HO.out, rfl, rfl⟩), ?_⟩
            · omega
            · simp [lab, intOf]; omega
          · have HI : Hid (RdI s p (k + 1) (u + s[p + k].toNat % 128 * 2 ^ (7 * k))) := rdI_more HR.out hpN h9 (by omega)
            clear HR
            go_wp2
            go_step3
            refine ⟨.inr (.inl ⟨rfl, k + 1, _, _, _, _, _, _, _, _, _, _, _, _, _, _, _, _, _, _, _, _, _, _, _, _, _, _, _, _, _, _, _, _, _, _, _, _, _, _, _, _, _, _, _, _, _, _, _, rfl, rfl, HI, by omega, by omega, ?_, HO.out, ?_⟩), ?_⟩
            · omega
            · omega
            · simp [lab, intOf]; omega
      · have HS : Hid (rd s p 10 0 0 = (4, 0, 0)) := (show _ = _ by rw [HR.out.2.2]; exact rd_short (by omega))
        clear HR
        go_wp2
        go_step3
        refine ⟨.inl ⟨rfl, 4, _, _, _, _, _, _, _, _, _, _, _, _, _, _, _, _, _, _, _, _, _, _, _, _, _, _, _, _, _, _, _, _, _, _, _, _, _, _, _, _, _, _, _, _, _, _, rfl, rfl, hid_intro ⟨HS.out, by omega⟩⟩, ?_⟩
        simp [lab, intOf]; omega
    · refine ⟨_, rfl, ?_⟩
      have hu2 : (u : Int) ≤ 18446744073709551615 := by omega
      have h7 : 7 * (k : Int) ≤ 63 := by omega
      have h8 : (0 : Int) ≤ 7 * (k : Int) := by omega
      by_cases hc0 : c = 0
      · have q0 : ((c : Int) == 0) = true := by simp; omega
        by_cases hk0 : 0 < k
        · have q1 : (0 : Int) < 7 * (k : Int) := by omega
          have HS : Hid (rd s p 10 0 0 = (3, 0, 0)) := (show _ = _ by rw [HR.out, if_pos ⟨hc0, hk0⟩])
          clear HR hc0
          go_wp2
          go_step3
          refine ⟨.inl ⟨rfl, 3, _, _, _, _, _, _, _, _, _, _, _, _, _, _, _, _, _, _, _, _, _, _, _, _, _, _, _, _, _, _, _, _, _, _, _, _, _, _, _, _, _, _, _, _, _, _, rfl, rfl, hid_intro ⟨HS.out, by omega⟩⟩, ?_⟩
          simp [lab]
        · have q1 : ¬ (0 : Int) < 7 * (k : Int) := by omega
          have HS : Hid (rd s p 10 0 0 = (0, u, k + 1)) := (show _ = _ by rw [HR.out, if_neg (by omega)])
          clear HR hc0
          go_wp2_with (go_at_call 58; refine (unfold_any u _ (by omega)).mono ?_; rintro e w' ⟨rfl, rfl⟩)
          rw [jumps_ret]
          go_ret3
          exact ⟨fun _ => ret_got (by rw [HS.out]) (by rw [HS.out]; show _ = (p : Int) + ((k + 1 : Nat) : Int); omega), fun h => absurd (by rw [HS.out]) h, (Below.refl _ _).alloc (Nat.le_refl _) _⟩
      · have q0 : ((c : Int) == 0) = false := by simp; omega
        have HS : Hid (rd s p 10 0 0 = (0, u, k + 1)) := (show _ = _ by rw [HR.out, if_neg (by omega)])
        clear HR hc0
        go_wp2_with (go_at_call 58; refine (unfold_any u _ (by omega)).mono ?_; rintro e w' ⟨rfl, rfl⟩)
        rw [jumps_ret]
        go_ret3
        exact ⟨fun _ => ret_got (by rw [HS.out]) (by rw [HS.out]; show _ = (p : Int) + ((k + 1 : Nat) : Int); omega), fun h => absurd (by rw [HS.out]) h, (Below.refl _ _).alloc (Nat.le_refl _) _⟩
set_option maxRecDepth 100000 in
theorem read_neg (s : ByteArray) (x : Int) (w : World) (hx : x < 0) (hm : -9223372036854775808 ≤ x) :
    Calls Tryd.prog 44 #[.string s, .int .i64 x] w fun e w' => e = .returned (.tuple #[.int .i64 0, .int .i64 0, .iface 78 (.agg #[.int .i64 1])]) ∧ Below w.heap.size w w' := by
  go_enter Tryd.func44, Tryd.ntmps44
  go_wp2
  refine wp_scope_multi (fun l a' w' => l = 0 ∧ ∃ (x1 x7 x8 x9 u11 u12 u13 u14 u15 u16 u17 u18 u19 u20 u21 u22 u23 u24 u25 u26 u27 u28 u29 u30 u31 u32 u33 u34 u35 u36 u37 u38 u39 u40 u41 u42 u43 u44 u45 u46 u47 u48 u49 u50 u51 u52 : Value), a' = { tmps := #[Value.string s, x1, undef, undef, Value.int .i64 0, Value.int .i64 0, Value.nilIface, x7, x8, x9, Value.pointer (some ⟨w.heap.size, 0, none⟩), u11, u12, u13, u14, u15, u16, u17, u18, u19, u20, u21, u22, u23, u24, u25, u26, u27, u28, u29, u30, u31, u32, u33, u34, u35, u36, u37, u38, u39, u40, u41, u42, u43, u44, u45, u46, u47, u48, u49, u50, u51, u52], defers := [] } ∧ w' = w.alloc (.cells #[.int .i64 1] 78)) (fun _ _ _ => 0) ?_ ?_
  · go_wp2
    go_step3
    exact ⟨rfl, _, _, _, _, _, _, _, _, _, _, _, _, _, _, _, _, _, _, _, _, _, _, _, _, _, _, _, _, _, _, _, _, _, _, _, _, _, _, _, _, _, _, _, _, _, _, rfl, rfl⟩
  · rintro l a' w' ⟨rfl, x1, x7, x8, x9, u11, u12, u13, u14, u15, u16, u17, u18, u19, u20, u21, u22, u23, u24, u25, u26, u27, u28, u29, u30, u31, u32, u33, u34, u35, u36, u37, u38, u39, u40, u41, u42, u43, u44, u45, u46, u47, u48, u49, u50, u51, u52, rfl, rfl⟩
    refine ⟨_, rfl, ?_⟩
    go_wp2
    go_quiet (fail)
    go_wp2
    rw [jumps_ret]
    go_ret3
    exact ⟨rfl, below_drewN ((Below.refl _ _).alloc (Nat.le_refl _) _) _⟩
end GetR
end Go.Proofs.YtgaihlhoegaliaaDoor
namespace Go.Proofs.YtgaihlhoegaliaaDoor
open Go.ChangeShapes Go.WideShapes Go.ChangeAt Go.RowKit
open Go.ChangeMaps (open_string shut_string)
set_option linter.unusedVariables false
namespace GetR
/-- The answer, of what is read. -/
def outN (p : Nat) (r : Nat × Nat × Nat) : Value := if r.1 = 0 then .agg #[.int .i64 (unz r.2.1), .int .i64 ((p : Int) + r.2.2), .int .i64 0] else .agg #[.int .i64 0, .int .i64 0, .int .i64 r.1]
theorem outN_bad {p : Nat} {r : Nat × Nat × Nat} {c : Nat} (h : r = (c, 0, 0)) (hc : c ≠ 0) : outN p r = .agg #[.int .i64 0, .int .i64 0, .int .i64 c] := by
  rw [h]; exact if_neg hc
theorem outN_got {p : Nat} {r : Nat × Nat × Nat} {u n : Nat} (h : r = (0, u, n)) : outN p r = .agg #[.int .i64 (unz u), .int .i64 ((p : Int) + n), .int .i64 0] := by
  rw [h]; exact if_pos rfl
/-- What the model's round adds. -/
theorem add_plus {s : ByteArray} {p k u : Nat} (h : RdI s p k u) (hp : p + k < s.size) (h9 : ¬ (k = 9 ∧ 1 < s[p + k].toNat)) :
    IntKind.u64.wrap ((u : Int) + IntKind.u64.wrap ((s[p + k].toNat : Int) % 128 * 2 ^ (7 * k))) = ((u + s[p + k].toNat % 128 * 2 ^ (7 * k) : Nat) : Int) := by
  have ht := top64 h hp h9
  obtain ⟨c, hcc⟩ : ∃ c, c = s[p + k].toNat := ⟨_, rfl⟩
  rw [← hcc] at ht ⊢
  obtain ⟨q, hq⟩ : ∃ q, q = 2 ^ (7 * k) := ⟨_, rfl⟩
  have e2 : ((2 : Int) ^ (7 * k)) = ((2 ^ (7 * k) : Nat) : Int) := by simp
  rw [e2]
  rw [← hq] at ht ⊢
  have e4 : (c : Int) % 128 * ((q : Nat) : Int) = ((c % 128 * q : Nat) : Int) := by simp
  rw [e4]
  obtain ⟨m, hm⟩ : ∃ m, m = c % 128 * q := ⟨_, rfl⟩
  rw [← hm] at ht ⊢
  rw [u64wrap, u64wrap]
  omega
theorem ret_v {a b : Value} (h : a = b) : Ending.returned a = .returned b := by rw [h]
theorem odd_form (v : Nat) (h : (v : Int) ≤ 18446744073709551615) : wrap64 (-((v : Int) / 2) - 1) = -((v / 2 : Nat) : Int) - 1 := by simp only [wrap64]; omega
set_option maxRecDepth 100000 in
set_option maxHeartbeats 4000000 in
theorem spec_any (s : ByteArray) (p : Nat) (w : World) (hs : s.size ≤ 8000) (hm : (p : Int) ≤ 9223372036854775807) :
    Calls Tryd.prog 22 #[.string s, .int .i64 p] w fun e w' => e = .returned (outN p (rd s p 10 0 0)) ∧ Below w.heap.size w w' := by
  go_enter Tryd.func22, Tryd.ntmps22
  go_wp2
  go_loop [5, 6, 7, 8] (fun x i _ _ => ∃ (k u : Nat) (xi xu : Int), i = .int .i64 xi ∧ x = .int .u64 xu ∧ Hid (RdI s p k u) ∧ k ≤ 9 ∧ xi = k ∧ xu = u) (fun _ i _ _ => 10 - (intOf i).toNat)
  case atStart => exact ⟨0, 0, 0, 0, rfl, rfl, rdI_zero s p, by omega, rfl, rfl⟩
  case round =>
    obtain ⟨k, u, xi, xu, rfl, rfl, HR, hk, rfl, rfl⟩ := hrel
    by_cases hp : (p : Int) + k < s.size
    · have hpN : p + k < s.size := by omega
      have hp2 : ¬ (s.size : Int) - k ≤ p := by omega
      have hb2 : (s[p + k].toNat : Int) ≤ 255 := by have := UInt8.toNat_lt s[p + k]; omega
      by_cases hbad : k = 9 ∧ 1 < s[p + k].toNat
      · have h63 : ((k : Int) == 9) = true := by simp; omega
        have hc1 : (1 : Int) < (s[p + k].toNat : Int) := by omega
        have HS : Hid (rd s p 10 0 0 = (3, 0, 0)) := (show _ = _ by rw [HR.out.2.2]; exact rd_nine hpN hbad.1 hbad.2)
        clear HR hbad
        go_wp2
        refine bodyPost_ret (v := .agg #[.int .i64 0, .int .i64 0, .int .i64 3]) (by simp [results, Tryd.results22, go_sem]) rfl ⟨ret_v (outN_bad HS.out (by omega)).symm, (Below.refl _ _).alloc (Nat.le_refl _) _⟩
      · obtain ⟨v, hv⟩ : ∃ v, v = u + s[p + k].toNat % 128 * 2 ^ (7 * k) := ⟨_, rfl⟩
        have hV := add_plus HR.out hpN hbad
        have ht := top64 HR.out hpN hbad
        rw [← hv] at hV ht
        have hv2 : (v : Int) ≤ 18446744073709551615 := by omega
        have HV : Hid (v = u + s[p + k].toNat % 128 * 2 ^ (7 * k)) := hv
        have HB : Hid (¬ (k = 9 ∧ 1 < s[p + k].toNat)) := hbad
        clear hv hbad
        have key : ((k : Int) == 9) = false ∨ (((k : Int) == 9) = true ∧ ¬ (1 : Int) < (s[p + k].toNat : Int)) := by
          by_cases h9 : k = 9
          · refine .inr ⟨by simp; omega, ?_⟩
            have := HB.out
            omega
          · exact .inl (by simp; omega)
        by_cases hc : (s[p + k].toNat : Int) < 128
        · by_cases hz : s[p + k].toNat = 0 ∧ 0 < k
          · have q0 : ((s[p + k].toNat : Int) == 0) = true := by simp; omega
            have q1 : (0 : Int) < (k : Int) := by omega
            have HS : Hid (rd s p 10 0 0 = (3, 0, 0)) := (show _ = _ by rw [HR.out.2.2]; exact rd_zero hpN hz.1 hz.2)
            clear HR hz
            rcases key with h63 | ⟨h63, hc1⟩
            all_goals
              go_wp2
              refine bodyPost_ret (v := .agg #[.int .i64 0, .int .i64 0, .int .i64 3]) (by simp [results, Tryd.results22, go_sem]) rfl ⟨ret_v (outN_bad HS.out (by omega)).symm, (Below.refl _ _).alloc (Nat.le_refl _) _⟩
          · have HS : Hid (rd s p 10 0 0 = (0, v, k + 1)) := (show _ = _ by rw [HR.out.2.2, HV.out]; exact rd_last hpN HB.out (by omega) hz)
            have hz2 : (((s[p + k].toNat : Int) == 0) = false) ∨ (((s[p + k].toNat : Int) == 0) = true ∧ ¬ (0 : Int) < (k : Int)) := by
              by_cases h0 : s[p + k].toNat = 0
              · exact .inr ⟨by simp; omega, by omega⟩
              · exact .inl (by simp; omega)
            have HO := hid_intro (odd_form v hv2)
            clear HR hz
            by_cases hpar : v % 2 = 1
            · have q2 : ((v : Int) % 2 == 1) = true := by simp; omega
              have HF : Hid (outN p (rd s p 10 0 0) = .agg #[.int .i64 (-((v : Int) / 2) - 1), .int .i64 ((p : Int) + k + 1), .int .i64 0]) := (show _ = _ by rw [outN_got HS.out, unz_odd hpar]; congr 4)
              clear hpar HS HO
              rcases key with h63 | ⟨h63, hc1⟩
              all_goals
                rcases hz2 with q0 | ⟨q0, q1⟩
                all_goals
                  go_wp2
                  refine bodyPost_ret (v := .agg #[.int .i64 (-((v : Int) / 2) - 1), .int .i64 ((p : Int) + k + 1), .int .i64 0]) (by simp [results, Tryd.results22, go_sem]) rfl ⟨ret_v HF.out.symm, (Below.refl _ _).alloc (Nat.le_refl _) _⟩
            · have q2 : ((v : Int) % 2 == 1) = false := by simp; omega
              have HF : Hid (outN p (rd s p 10 0 0) = .agg #[.int .i64 ((v : Int) / 2), .int .i64 ((p : Int) + k + 1), .int .i64 0]) := (show _ = _ by rw [outN_got HS.out, unz_even (by omega)]; congr 4)
              clear hpar HS HO
              rcases key with h63 | ⟨h63, hc1⟩
              all_goals
                rcases hz2 with q0 | ⟨q0, q1⟩
                all_goals
                  go_wp2
                  refine bodyPost_ret (v := .agg #[.int .i64 ((v : Int) / 2), .int .i64 ((p : Int) + k + 1), .int .i64 0]) (by simp [results, Tryd.results22, go_sem]) rfl ⟨ret_v HF.out.symm, (Below.refl _ _).alloc (Nat.le_refl _) _⟩
        · rcases key with h63 | ⟨h63, hc1⟩
          · have HI : Hid (RdI s p (k + 1) v) := (show RdI _ _ _ _ by rw [HV.out]; exact rdI_more HR.out hpN (by intro e; subst e; simp at h63) (by omega))
            clear HR
            have hk8 : k + 1 ≤ 9 := HI.out.1
            go_wp2
            go_round
            case rel => exact ⟨k + 1, v, _, _, rfl, rfl, HI, hk8, by omega, rfl⟩
            case measure => simp [intOf]; omega
          · exfalso; omega
    · have HS : Hid (rd s p 10 0 0 = (4, 0, 0)) := (show _ = _ by rw [HR.out.2.2]; exact rd_short (by omega))
      have hp2 : (s.size : Int) - k ≤ p := by omega
      clear HR
      go_wp2
      refine bodyPost_ret (v := .agg #[.int .i64 0, .int .i64 0, .int .i64 4]) (by simp [results, Tryd.results22, go_sem]) rfl ⟨ret_v (outN_bad HS.out (by omega)).symm, (Below.refl _ _).alloc (Nat.le_refl _) _⟩
end GetR
end Go.Proofs.YtgaihlhoegaliaaDoor
namespace Go.Proofs.YtgaihlhoegaliaaDoor
open Go.ChangeShapes Go.WideShapes Go.ChangeAt Go.RowKit
open Go.ChangeMaps (open_string shut_string)
set_option linter.unusedVariables false
namespace NumR
theorem hid_intro {p : Prop} (h : p) : Hid p := h
def foldN (n : Int) : Int := if n < 0 then 2 * -(n + 1) + 1 else 2 * n
theorem fold_bd {n : Int} (hn : -9223372036854775808 ≤ n ∧ n ≤ 9223372036854775807) : 0 ≤ foldN n ∧ foldN n ≤ 18446744073709551615 := by
  unfold foldN; split <;> omega
theorem fold_neg {n : Int} (h : n < 0) : foldN n = 2 * -(n + 1) + 1 := if_pos h
theorem fold_pos {n : Int} (h : 0 ≤ n) : foldN n = 2 * n := if_neg (by omega)
theorem u64wrap (n : Int) : IntKind.u64.wrap n = n % 18446744073709551616 := by simp [IntKind.wrap, IntKind.bits, IntKind.signed]
theorem xor_ones (x : Int) (h0 : 0 ≤ x) (h1 : x ≤ 18446744073709551615) : bits .xor .u64 IntKind.u64.max x = 18446744073709551615 - x := by
  have hm : BitVec.ofInt 64 IntKind.u64.max = BitVec.allOnes 64 := by decide
  have hx : (BitVec.ofInt 64 x).toNat = x.toNat := by
    rw [BitVec.toNat_ofInt]; congr 1; exact Int.emod_eq_of_lt h0 (by omega)
  show IntKind.u64.wrap ((BitVec.ofInt 64 IntKind.u64.max ^^^ BitVec.ofInt 64 x).toNat : Int) = _
  rw [hm, BitVec.allOnes_xor, BitVec.toNat_not, hx, u64wrap]
  omega
theorem fold_bits {n : Int} (h : n < 0) (hn : -9223372036854775808 ≤ n) : bits .xor .u64 IntKind.u64.max (IntKind.u64.wrap (IntKind.u64.wrap n * 2)) = foldN n := by
  have e : IntKind.u64.wrap (IntKind.u64.wrap n * 2) = 2 * n + 18446744073709551616 := by rw [u64wrap, u64wrap]; omega
  rw [e, xor_ones _ (by omega) (by omega), fold_neg h]; omega
theorem spec_fold (n : Int) (w : World) (hn : -9223372036854775808 ≤ n ∧ n ≤ 9223372036854775807) :
    Calls Tryd.prog 56 #[.int .i64 n] w fun e w' => e = .returned (.int .u64 (foldN n)) ∧ w' = w := by
  by_cases h : n < 0
  · rw [fold_neg h]
    go_enter Tryd.func56, Tryd.ntmps56
    go_wp2
    go_ret
    exact ⟨rfl, rfl⟩
  · rw [fold_pos (by omega)]
    go_enter Tryd.func56, Tryd.ntmps56
    go_wp2
    go_ret
    exact ⟨rfl, rfl⟩
/-- A number's digits of seven bits, the lowest first, 128 more in all but the last. -/
def digs (v : Nat) : List Int := if v < 128 then [(v : Int)] else ((v : Int) % 128 + 128) :: digs (v / 128)
  termination_by v
  decreasing_by omega
theorem digs_last {v : Nat} (h : v < 128) : digs v = [(v : Int)] := by rw [digs, if_pos h]
theorem digs_more {v : Nat} (h : 128 ≤ v) : digs v = ((v : Int) % 128 + 128) :: digs (v / 128) := by rw [digs, if_neg (by omega)]
/-- What stands of the digits behind some rounds. -/
def Sofar (U : Nat) (acc : List Int) (v : Nat) : Prop := digs U = acc ++ digs v ∧ v * 128 ^ acc.length ≤ U ∧ (acc = [] ∨ 1 ≤ v)
theorem sofar_zero (U : Nat) : Sofar U [] U := ⟨rfl, by simp, .inl rfl⟩
theorem sofar_more {U v : Nat} {acc : List Int} (h : Sofar U acc v) (hv : 128 ≤ v) : Sofar U (acc ++ [((v : Int) % 128 + 128)]) (v / 128) := by
  refine ⟨by rw [h.1, digs_more hv]; simp, ?_, .inr (by omega)⟩
  have h2 := h.2.1
  have : v / 128 * 128 ≤ v := Nat.div_mul_le_self v 128
  simp only [List.length_append, List.length_cons, List.length_nil, Nat.zero_add, Nat.pow_succ]
  calc v / 128 * (128 ^ acc.length * 128) = (v / 128 * 128) * 128 ^ acc.length := by rw [Nat.mul_comm (128 ^ acc.length) 128, Nat.mul_assoc]
    _ ≤ v * 128 ^ acc.length := Nat.mul_le_mul_right _ this
    _ ≤ U := h2
theorem sofar_end {U v : Nat} {acc : List Int} (h : Sofar U acc v) (hv : v < 128) : digs U = acc ++ [(v : Int)] := by rw [h.1, digs_last hv]
theorem pow_le_pow {a b : Nat} (h : a ≤ b) : 128 ^ a ≤ 128 ^ b := Nat.pow_le_pow_right (by omega) h
theorem sofar_len {U v : Nat} {acc : List Int} (h : Sofar U acc v) (hU : U ≤ 18446744073709551615) (hv : 128 ≤ v) : acc.length ≤ 8 := by
  refine Nat.le_of_not_lt fun hlt => ?_
  have h1 := pow_le_pow (show 9 ≤ acc.length by omega)
  have h2 : 128 * 128 ^ 9 ≤ v * 128 ^ acc.length := Nat.mul_le_mul hv h1
  have := Nat.le_trans h2 h.2.1
  omega
theorem sofar_len9 {U v : Nat} {acc : List Int} (h : Sofar U acc v) (hU : U ≤ 18446744073709551615) : acc.length ≤ 9 := by
  refine Nat.le_of_not_lt fun hlt => ?_
  rcases h.2.2 with h0 | h0
  · rw [h0] at hlt; simp at hlt
  · have h1 := pow_le_pow (show 10 ≤ acc.length by omega)
    have h2 : 1 * 128 ^ 10 ≤ v * 128 ^ acc.length := Nat.mul_le_mul h0 h1
    have := Nat.le_trans h2 h.2.1
    omega
theorem sofar_le {U v : Nat} {acc : List Int} (h : Sofar U acc v) : v ≤ U := by
  have : 1 ≤ 128 ^ acc.length := Nat.pos_of_ne_zero (by simp)
  calc v = v * 1 := by omega
    _ ≤ v * 128 ^ acc.length := Nat.mul_le_mul_left _ this
    _ ≤ U := h.2.1
theorem low7 (k : Nat) (h : (k : Int) ≤ 18446744073709551615) : bits .or .u8 (bits .and .u64 (k : Int) 127 % 256) 128 = (k : Int) % 128 + 128 := by
  have h1 : bits .and .u64 (k : Int) 127 = ((k % 128 : Nat) : Int) := by
    have := u64_and_nat k 127 (by omega) (by omega)
    rw [show ((127 : Nat) : Int) = 127 from rfl] at this
    rw [this]
    congr 1
    exact Nat.and_two_pow_sub_one_eq_mod k 7
  rw [h1]
  have h2 : ((k % 128 : Nat) : Int) % 256 = ((k % 128 : Nat) : Int) := by omega
  rw [h2]
  have h3 := u8_or_nat (k % 128) 128 (by omega) (by omega)
  rw [show ((128 : Nat) : Int) = 128 from rfl] at h3
  rw [h3, Nat.or_comm, nat_join 7 128 (k % 128) (by decide) (by omega)]
  omega
theorem take_set {C : List Value} {m : Nat} {x : Value} (h : m < C.length) : (C.set m x).take (m + 1) = C.take m ++ [x] := by
  rw [List.take_succ_eq_append_getElem (by simpa using h), List.take_set_of_le (Nat.le_refl _)]
  simp
def numB (n : Int) : ByteArray := strOfNums (digs (foldN n).toNat)

theorem own_string {w : World} {base n : Nat} {v : Value} {xs : List Int} (h : w.ownsRow base 5 1 v n (xs.map (Value.int .u8))) (hn : 0 < n) :
    ∃ g cap, v = .slice (some ⟨g, 0, none⟩) n cap ∧ (convert 94 9 (.slice (some ⟨g, 0, none⟩) n cap)).run Tryd.prog w = .ok (.string (strOfNums xs)) w := by
  have hl := h.1
  rcases h.2 with ⟨_, h0⟩ | ⟨g, cap, cur, hv, _⟩
  · omega
  · refine ⟨g, cap, hv, ?_⟩
    have hlen : xs.length = n := by simpa using hl
    refine run_convert_bytes_arg w 94 5 Tryd.underlying94 Tryd.underlying5 g 0 n cap xs hlen ?_ 9 Tryd.underlying9
    intro i hi
    have := h.cells (g := g) (by rw [hv]; rfl) i (.int .u8 (xs.getD i 0)) (by simp [List.getElem?_map, List.getD, List.getElem?_eq_getElem (show i < xs.length by omega)])
    rw [← this]
    congr 1
    unfold Addr.add; split <;> simp_all
theorem Trydinfo5 : (Tryd.prog.info? 5).map (fun i => (i.zero, i.size, i.bytes)) = some (some (.int .u8 0), 1, 1) := by kernel_rfl
set_option maxRecDepth 100000 in
set_option maxHeartbeats 1000000 in
theorem spec_put (n : Int) (w : World) (hn : -9223372036854775808 ≤ n ∧ n ≤ 9223372036854775807) :
    Calls Tryd.prog 39 #[.int .i64 n] w fun e w' => e = .returned (.string (numB n)) ∧ Below w.heap.size w w' := by
  obtain ⟨U, hU⟩ : ∃ U : Nat, (U : Int) = foldN n := ⟨(foldN n).toNat, by have := fold_bd hn; omega⟩
  have hbd := fold_bd hn
  have h1 := fun w => spec_fold n w hn
  have HE : Hid (numB n = strOfNums (digs U)) := (show _ = _ by unfold numB; rw [← hU]; rfl)
  rw [← hU] at h1 hbd
  clear hU
  obtain ⟨i0, hi, hz0, hz1, hz2⟩ := info_parts Trydinfo5
  go_enter Tryd.func39, Tryd.ntmps39
  go_wp2_with (first | (go_at_call 56; refine (h1 _).mono ?_; rintro e w ⟨rfl, rfl⟩))
  clear h1
  have HU : Hid (U ≤ 18446744073709551615) := hid_intro (by omega)
  clear hbd hn
  have hown0 := World.ownsRow_made (base := w.heap.size) (e := 5) (size := 1) w #[] 0 (Nat.le_refl _) (by unfold maxLen; omega) rfl
  have hbel0 : Below w.heap.size w (w.alloc (Obj.cells #[] 5)) := (Below.refl _ _).alloc (Nat.le_refl _) _
  go_loopw [3, 4] (fun x v wr => ∃ (k : Nat) (acc : List Int), x = .int .u64 k ∧ Hid (Sofar U acc k) ∧ k ≤ U ∧ wr.ownsRow w.heap.size 5 1 v acc.length (acc.map (Value.int .u8)) ∧ Below w.heap.size w wr) (fun x _ _ => (intOf x).toNat)
  case atStart => exact ⟨U, [], rfl, sofar_zero U, Nat.le_refl _, hown0, hbel0⟩
  case round =>
    obtain ⟨k, acc, rfl, HS, hkU, hown, hnx⟩ := hrel
    clear hown0 hbel0
    by_cases hk : 128 ≤ k
    · have hlen := sofar_len HS.out HU.out hk
      have hk64 : (k : Int) ≤ 18446744073709551615 := by have := HU.out; omega
      have HS2 : Hid (Sofar U (acc ++ [((k : Int) % 128 + 128)]) (k / 128)) := sofar_more HS.out hk
      clear HS
      go_wp2_with (at_builtin; refine wpList_append_own _ rfl _ _ 94 rfl w.heap.size 5 i0 (.int .u8 0) 1 1 Tryd.underlying94 hi hz0 hz1 hz2 rfl (by decide) _ _ _ rfl (hown.alloc _) ⟨wr.heap.size, 0, none⟩ 1 1 [.int .u8 ((k : Int) % 128 + 128)] rfl rfl ?c1 ?c2 ?c3 ?c4 ?c5 ?_)
      case c1 =>
        intro j u hj
        match j, hj with
        | 0, hj => simp at hj; subst hj; simp [Addr.add]
      case c2 => intro u hu; simp at hu; subst hu; rfl
      case c3 => unfold maxLen; omega
      case c4 => omega
      case c5 => have := hnx.size; simp; omega
      intro v' w1 hown' hgrow hne
      have hb1 : Below w.heap.size w w1 := (hnx.alloc hnx.size _).grown hgrow (by have := hnx.size; simp; omega) (fun g hg => (hown.lt g hg).1)
      have hown2 : w1.ownsRow w.heap.size 5 1 v' (acc ++ [((k : Int) % 128 + 128)]).length ((acc ++ [((k : Int) % 128 + 128)]).map (Value.int .u8)) := by
        simpa using hown'
      clear hown' hgrow hown hnx hne
      go_wp2
      go_roundw
      case rel => exact ⟨k / 128, _, by go_num, HS2, by omega, hown2, hb1⟩
      case measure => simp [intOf]; omega
    · have hk2 : (k : Int) < 128 := by omega
      have HD : Hid (digs U = acc ++ [(k : Int)]) := sofar_end HS.out (by omega)
      have hlen : acc.length ≤ 9 := sofar_len9 HS.out HU.out
      clear HS
      go_wp2_with (at_builtin; refine wpList_append_own _ rfl _ _ 94 rfl w.heap.size 5 i0 (.int .u8 0) 1 1 Tryd.underlying94 hi hz0 hz1 hz2 rfl (by decide) _ _ _ rfl (hown.alloc _) ⟨wr.heap.size, 0, none⟩ 1 1 [.int .u8 (k : Int)] rfl rfl ?d1 ?d2 ?d3 ?d4 ?d5 ?_)
      case d1 =>
        intro j u hj
        match j, hj with
        | 0, hj => simp at hj; subst hj; simp [Addr.add]
      case d2 => intro u hu; simp at hu; subst hu; rfl
      case d3 => unfold maxLen; omega
      case d4 => omega
      case d5 => have := hnx.size; simp; omega
      intro v' w1 hown' hgrow hne
      have hb1 : Below w.heap.size w w1 := (hnx.alloc hnx.size _).grown hgrow (by have := hnx.size; simp; omega) (fun g hg => (hown.lt g hg).1)
      have hown2 : w1.ownsRow w.heap.size 5 1 v' (acc.length + 1) ((acc ++ [(k : Int)]).map (Value.int .u8)) := by
        simpa using hown'
      obtain ⟨g, cap, hv, hconv⟩ := own_string hown2 (by omega)
      clear hown' hgrow hown hnx hne hown2
      rw [hv]
      clear hv
      go_wp2
      go_ret
      exact ⟨ret_str (by rw [HE.out, HD.out]), hb1⟩
theorem digs_len : ∀ (m v : Nat), v < 128 ^ (m + 1) → (digs v).length ≤ m + 1
  | 0, v, h => by rw [digs_last (by simpa using h)]; simp
  | m + 1, v, h => by
    by_cases hv : v < 128
    · rw [digs_last hv]; simp
    · rw [digs_more (by omega)]
      have : v / 128 < 128 ^ (m + 1) := by rw [Nat.div_lt_iff_lt_mul (by omega)]; rw [Nat.pow_succ] at h; exact h
      have := digs_len m (v / 128) this
      simp; omega
theorem numB_size {n : Int} (hn : -9223372036854775808 ≤ n ∧ n ≤ 9223372036854775807) : (numB n).size ≤ 10 := by
  unfold numB
  rw [strOfNums_size]
  have := fold_bd hn
  exact digs_len 9 _ (Nat.lt_of_le_of_lt (show (foldN n).toNat ≤ 18446744073709551615 by omega) (by decide))
end NumR
end Go.Proofs.YtgaihlhoegaliaaDoor
namespace Go.Proofs.YtgaihlhoegaliaaDoor
open Go.RowKit
set_option linter.unusedVariables false
namespace NumsR
open GetR NumR
theorem digs_pos (v : Nat) : 1 ≤ (digs v).length := by
  by_cases h : v < 128
  · rw [digs_last h]; simp
  · rw [digs_more (by omega)]; simp
/-- The bytes at a place are some numbers. -/
def At (s : ByteArray) (b : Nat) (l : List Int) : Prop := ∀ k, k < l.length → ∃ h : b + k < s.size, (s[b + k].toNat : Int) = l.getD k 0
theorem At.tail {s : ByteArray} {b : Nat} {x : Int} {l : List Int} (h : At s b (x :: l)) : At s (b + 1) l := by
  intro k hk
  obtain ⟨h1, h2⟩ := h (k + 1) (by simpa using hk)
  have e : b + 1 + k = b + (k + 1) := by omega
  refine ⟨by omega, ?_⟩
  simp only [e]
  rw [h2]
  simp [List.getD]
theorem At.head {s : ByteArray} {b : Nat} {x : Int} {l : List Int} (h : At s b (x :: l)) : ∃ h : b < s.size, (s[b].toNat : Int) = x := by
  obtain ⟨h1, h2⟩ := h 0 (by simp)
  exact ⟨h1, by simpa using h2⟩
theorem pow_bd {v i : Nat} (h : v * 2 ^ (7 * i) < 18446744073709551616) (hi : i = 9) : v < 2 := by
  subst hi
  refine Nat.lt_of_not_le fun h2 => ?_
  have : 2 * 2 ^ (7 * 9) ≤ v * 2 ^ (7 * 9) := Nat.mul_le_mul_right _ h2
  omega
theorem step_sum (u v i : Nat) : u + v % 128 * 2 ^ (7 * i) + v / 128 * 2 ^ (7 * (i + 1)) = u + v * 2 ^ (7 * i) := by
  have e : 2 ^ (7 * (i + 1)) = 128 * 2 ^ (7 * i) := by rw [show 7 * (i + 1) = 7 * i + 7 from by omega, Nat.pow_add, Nat.mul_comm]
  rw [e]
  obtain ⟨q, hq⟩ : ∃ q, q = 2 ^ (7 * i) := ⟨_, rfl⟩
  rw [← hq]
  have h1 : v / 128 * (128 * q) = (128 * (v / 128)) * q := by rw [← Nat.mul_assoc, Nat.mul_comm (v / 128) 128]
  rw [h1, Nat.add_assoc, ← Nat.add_mul]
  congr 2
  omega
theorem step_le (v i : Nat) (h : v * 2 ^ (7 * i) < 18446744073709551616) : v / 128 * 2 ^ (7 * (i + 1)) < 18446744073709551616 := by
  have := step_sum 0 v i
  omega
theorem rd_digs (s : ByteArray) (p : Nat) : ∀ (f v i u : Nat), At s (p + i) (digs v) → (digs v).length ≤ f → i + f = 10 → (0 < i → 0 < v) → v * 2 ^ (7 * i) < 18446744073709551616 → rd s p f i u = (0, u + v * 2 ^ (7 * i), i + (digs v).length)
  | 0, v, i, u, _, hl, _, _, _ => by have := digs_pos v; omega
  | f + 1, v, i, u, hA, hl, hf, hi, hv => by
    by_cases h : v < 128
    · rw [digs_last h] at hA ⊢
      obtain ⟨h1, h2⟩ := hA.head
      have hc : s[p + i].toNat = v := by omega
      rw [rd_last h1 (fun ⟨e, h3⟩ => by have := pow_bd hv e; omega) (by omega) (fun ⟨e, h3⟩ => by have := hi h3; omega), hc, Nat.mod_eq_of_lt h]
      rfl
    · have h128 : 128 ≤ v := by omega
      rw [digs_more h128] at hA hl ⊢
      obtain ⟨h1, h2⟩ := hA.head
      have hc : s[p + i].toNat = v % 128 + 128 := by omega
      have h9 : i ≠ 9 := fun e => by have := pow_bd hv e; omega
      rw [rd_more h1 h9 (by omega), hc]
      have hm : (v % 128 + 128) % 128 = v % 128 := by omega
      rw [hm]
      have ih := rd_digs s p f (v / 128) (i + 1) (u + v % 128 * 2 ^ (7 * i)) hA.tail (by simpa using hl) (by omega) (fun _ => by omega) (step_le v i hv)
      rw [ih, step_sum]
      simp only [List.length_cons, Prod.mk.injEq, true_and]
      omega
/-- All digits but the last one. -/
theorem rd_cut (s : ByteArray) (p : Nat) : ∀ (f v i u : Nat), At s (p + i) ((digs v).take ((digs v).length - 1)) → s.size = p + i + ((digs v).length - 1) → (digs v).length ≤ f → i + f = 10 → v * 2 ^ (7 * i) < 18446744073709551616 → rd s p f i u = (4, 0, 0)
  | 0, v, i, u, _, _, hl, _, _ => by have := digs_pos v; omega
  | f + 1, v, i, u, hA, hs, hl, hf, hv => by
    by_cases h : v < 128
    · rw [digs_last h] at hs
      exact rd_short (by simp at hs; omega)
    · have h128 : 128 ≤ v := by omega
      have hp := digs_pos (v / 128)
      rw [digs_more h128] at hA hl hs
      simp only [List.length_cons, Nat.add_sub_cancel] at hA hl hs
      obtain ⟨n, hn⟩ : ∃ n, (digs (v / 128)).length = n + 1 := ⟨(digs (v / 128)).length - 1, by omega⟩
      rw [hn, List.take_succ_cons] at hA
      obtain ⟨h1, h2⟩ := hA.head
      have hc : s[p + i].toNat = v % 128 + 128 := by omega
      have h9 : i ≠ 9 := fun e => by have := pow_bd hv e; omega
      rw [rd_more h1 h9 (by omega)]
      refine rd_cut s p f (v / 128) (i + 1) _ ?_ (by omega) (by omega) (by omega) (step_le v i hv)
      have e : (digs (v / 128)).length - 1 = n := by omega
      rw [e]
      exact hA.tail
theorem unz_fold {n : Int} (hn : -9223372036854775808 ≤ n ∧ n ≤ 9223372036854775807) : unz (foldN n).toNat = n := by
  by_cases h : n < 0
  · rw [fold_neg h, unz_odd (by omega)]; omega
  · rw [fold_pos (by omega), unz_even (by omega)]; omega
end NumsR
end Go.Proofs.YtgaihlhoegaliaaDoor
namespace Go.Proofs.YtgaihlhoegaliaaDoor
open Go.RowKit
set_option linter.unusedVariables false
namespace NumsR
open GetR NumR
theorem rd_back (s : ByteArray) (p : Nat) : ∀ (f i u U n : Nat), rd s p f i u = (0, U, n) → ∃ v : Nat, U = u + v * 2 ^ (7 * i) ∧ n = i + (digs v).length ∧ At s (p + i) (digs v) ∧ (0 < i → 0 < v)
  | 0, i, u, U, n, h => by simp [rd] at h
  | f + 1, i, u, U, n, h => by
    rw [rd] at h
    split at h
    · rename_i hp
      split at h
      · simp at h
      · split at h
        · rename_i h9 hc
          split at h
          · simp at h
          · rename_i hz
            simp only [Prod.mk.injEq, true_and] at h
            obtain ⟨h1, h2⟩ := h
            have hm : s[p + i].toNat % 128 = s[p + i].toNat := Nat.mod_eq_of_lt hc
            refine ⟨s[p + i].toNat, by rw [← h1, hm], by rw [digs_last hc]; simp; omega, ?_, fun hi => by omega⟩
            rw [digs_last hc]
            intro k hk
            obtain rfl : k = 0 := by simpa using hk
            exact ⟨by omega, by simp⟩
        · rename_i h9 hc
          obtain ⟨v, h1, h2, h3, h4⟩ := rd_back s p f (i + 1) _ U n h
          have hv := h4 (by omega)
          have hlt := s[p + i].toNat_lt
          refine ⟨s[p + i].toNat % 128 + 128 * v, ?_, ?_, ?_, fun _ => by omega⟩
          · rw [h1, ← step_sum u (s[p + i].toNat % 128 + 128 * v) i]
            rw [show (s[p + i].toNat % 128 + 128 * v) % 128 = s[p + i].toNat % 128 by omega, show (s[p + i].toNat % 128 + 128 * v) / 128 = v by omega]
          · rw [digs_more (by omega), show (s[p + i].toNat % 128 + 128 * v) / 128 = v by omega, h2]
            simp only [List.length_cons]
            omega
          · rw [digs_more (by omega), show (s[p + i].toNat % 128 + 128 * v) / 128 = v by omega]
            intro k hk
            cases k with
            | zero =>
              refine ⟨by omega, ?_⟩
              simp
              omega
            | succ k =>
              obtain ⟨g1, g2⟩ := h3 k (by simpa using hk)
              have e : p + i + (k + 1) = p + (i + 1) + k := by omega
              refine ⟨by omega, ?_⟩
              simp only [e, g2]
              simp [List.getD]
    · simp at h
theorem fold_unz {u : Nat} (h : u < 18446744073709551616) : (foldN (unz u)).toNat = u := by
  by_cases h1 : u % 2 = 1
  · rw [unz_odd h1, fold_neg (by omega)]; omega
  · rw [unz_even (by omega), fold_pos (by omega)]; omega
/-- Bytes at a place, as a text. -/
theorem at_extract (s : ByteArray) (p : Nat) (l : List Int) (hl : ∀ x ∈ l, 0 ≤ x ∧ x < 256) (h : At s p l) : s.extract p (p + l.length) = strOfNums l := by
  have hsz : p + l.length ≤ s.data.size ∨ l.length = 0 := by
    cases hn : l.length with
    | zero => exact .inr rfl
    | succ n =>
      obtain ⟨h1, _⟩ := h n (by omega)
      have e : s.data.size = s.size := rfl
      exact .inl (by omega)
  apply ByteArray.ext
  apply Array.toList_inj.1
  rw [strOfNums_data]
  apply List.ext_getElem
  · simp only [ByteArray.data_extract, Array.length_toList, Array.size_extract, List.length_map]
    omega
  · intro i h1 h2
    have hi : i < l.length := by simpa using h2
    obtain ⟨g1, g2⟩ := h i hi
    simp only [ByteArray.data_extract, Array.getElem_toList, Array.getElem_extract, List.getElem_map]
    have hx : l.getD i 0 = l[i] := by simp [List.getD, hi]
    have hb := hl l[i] (List.getElem_mem hi)
    apply UInt8.toNat_inj.1
    have e1 : ((s.data[p + i]'g1).toNat : Int) = l[i] := by rw [← hx]; exact g2
    rw [UInt8.toNat_ofNat']
    omega
end NumsR
end Go.Proofs.YtgaihlhoegaliaaDoor
namespace Go.Proofs.YtgaihlhoegaliaaDoor
open Go.RowKit
set_option linter.unusedVariables false
namespace NumsR
open GetR NumR
theorem rd_bd (s : ByteArray) (p : Nat) : ∀ f i u v n, i + f = 10 → u < 2 ^ (7 * i) → rd s p f i u = (0, v, n) → p + n ≤ s.size ∧ v < 18446744073709551616
  | 0, i, u, v, n, _, _, h => by simp [rd] at h
  | f + 1, i, u, v, n, hf, hu, h => by
    rw [rd] at h
    split at h
    · next hp =>
      split at h
      · simp at h
      · next h9 =>
        split at h
        · split at h
          · simp at h
          · simp only [Prod.mk.injEq, true_and] at h
            obtain ⟨rfl, rfl⟩ := h
            refine ⟨by omega, ?_⟩
            have hc : s[p + i].toNat % 128 ≤ 127 := by omega
            by_cases e : i = 9
            · subst e
              have h1 : u < 9223372036854775808 := hu
              have h2 : s[p + 9].toNat % 128 * 2 ^ (7 * 9) ≤ 1 * 9223372036854775808 := Nat.mul_le_mul (by omega) (Nat.le_refl _)
              omega
            · have := grow7 hu hc
              have := pow7 (show i + 1 ≤ 9 by omega)
              omega
        · exact rd_bd s p f _ _ v n (by omega) (grow7 hu (by omega)) h
    · simp at h
theorem unz_bd {u : Nat} (h : u < 18446744073709551616) : -9223372036854775808 ≤ unz u ∧ unz u ≤ 9223372036854775807 := by
  unfold unz; split <;> omega
theorem digs_bd (v : Nat) : ∀ x ∈ digs v, 0 ≤ x ∧ x < 256 := by
  induction v using Nat.strongRecOn with
  | _ v ih =>
    by_cases h : v < 128
    · rw [digs_last h]; intro x hx; simp at hx; omega
    · rw [digs_more (by omega)]
      intro x hx
      rcases List.mem_cons.1 hx with rfl | hx
      · omega
      · exact ih (v / 128) (by omega) x hx
/-- What is read as a number: it, and the place behind it. -/
def numAt (s : ByteArray) (p : Nat) : Option (Int × Nat) := if (rd s p 10 0 0).1 = 0 then some (unz (rd s p 10 0 0).2.1, p + (rd s p 10 0 0).2.2) else none
def I64 (n : Int) : Prop := -9223372036854775808 ≤ n ∧ n ≤ 9223372036854775807
theorem numAt_back {s : ByteArray} {p : Nat} {n : Int} {q : Nat} (h : numAt s p = some (n, q)) : I64 n ∧ p < q ∧ q ≤ s.size ∧ s.extract p q = numB n := by
  unfold numAt at h
  split at h
  · rename_i h0
    obtain ⟨U, k, hr⟩ : ∃ U k, rd s p 10 0 0 = (0, U, k) := ⟨(rd s p 10 0 0).2.1, (rd s p 10 0 0).2.2, Prod.ext h0 rfl⟩
    rw [hr] at h
    simp only [Option.some.injEq, Prod.mk.injEq] at h
    obtain ⟨rfl, rfl⟩ := h
    obtain ⟨b1, b2⟩ := rd_bd s p 10 0 0 U k rfl (by simp) hr
    obtain ⟨v, h1, h2, h3, _⟩ := rd_back s p 10 0 0 U k hr
    simp only [Nat.mul_zero, Nat.pow_zero, Nat.mul_one, Nat.zero_add] at h1 h2
    subst h1 h2
    have hd := digs_pos U
    refine ⟨unz_bd b2, by omega, b1, ?_⟩
    have := at_extract s p (digs U) (digs_bd U) h3
    rw [this]
    unfold numB
    rw [fold_unz b2]
  · simp at h
theorem at_of (s : ByteArray) (p : Nat) (l : List Int) (hl : ∀ x ∈ l, 0 ≤ x ∧ x < 256) (hs : p + l.length ≤ s.size) (h : s.extract p (p + l.length) = strOfNums l) : At s p l := by
  intro k hk
  refine ⟨by omega, ?_⟩
  have e := congrArg (fun b : ByteArray => b.data.toList[k]?) h
  simp only [strOfNums_data] at e
  have hsz : s.data.size = s.size := rfl
  rw [List.getElem?_eq_getElem (by simp [ByteArray.data_extract]; omega), List.getElem?_eq_getElem (by simpa using hk)] at e
  simp only [ByteArray.data_extract, Array.getElem_toList, Array.getElem_extract, List.getElem_map, Option.some.injEq] at e
  have hx : l.getD k 0 = l[k] := by simp [List.getD, hk]
  have hb := hl l[k] (List.getElem_mem hk)
  have e2 : (s[p + k]'(by omega)).toNat = (l[k]).toNat := by
    have e3 : s[p + k]'(by omega) = s.data[p + k]'(by omega) := rfl
    rw [e3, e, UInt8.toNat_ofNat']
    omega
  rw [hx, e2]
  omega
theorem numB_len (n : Int) : (numB n).size = (digs (foldN n).toNat).length := strOfNums_size _
theorem numAt_put {s : ByteArray} {p : Nat} {n : Int} (hn : I64 n) (hs : p + (numB n).size ≤ s.size) (h : s.extract p (p + (numB n).size) = numB n) : numAt s p = some (n, p + (numB n).size) := by
  have hz := numB_size hn
  rw [numB_len] at hs h hz
  have hb := fold_bd hn
  have hA := at_of s p _ (digs_bd _) hs h
  have hr := rd_digs s p 10 (foldN n).toNat 0 0 hA hz rfl (fun h => absurd h (by omega)) (by simp; omega)
  simp only [Nat.mul_zero, Nat.pow_zero, Nat.mul_one, Nat.zero_add] at hr
  unfold numAt
  rw [hr, if_pos rfl, numB_len, unz_fold hn]
end NumsR
end Go.Proofs.YtgaihlhoegaliaaDoor
namespace Go.Proofs.YtgaihlhoegaliaaDoor
open Go.RowKit
namespace EvtR
open NumR (numB)
/-- A text's bytes. -/
def txtB (t : ByteArray) : ByteArray := numB t.size ++ t
end EvtR
end Go.Proofs.YtgaihlhoegaliaaDoor
namespace Go.Proofs.YtgaihlhoegaliaaDoor
open Go.RowKit
set_option linter.unusedVariables false
namespace EvtR
open NumsR NumR
theorem cut_two (s : ByteArray) (a b c : Nat) (h1 : a ≤ b) (h2 : b ≤ c) : s.extract a c = s.extract a b ++ s.extract b c := by
  apply ByteArray.ext
  simp only [ByteArray.data_extract, ByteArray.data_append]
  rw [Array.extract_append_extract, Nat.min_eq_left h1, Nat.max_eq_right h2]
theorem cut_size (s : ByteArray) (a b : Nat) (h : b ≤ s.size) : (s.extract a b).size = b - a := by rw [ByteArray.size_extract]; omega
/-- What two texts one behind the other are. -/
theorem cut_split {s x y : ByteArray} {p : Nat} (hs : p + (x.size + y.size) ≤ s.size) (h : s.extract p (p + (x.size + y.size)) = x ++ y) : s.extract p (p + x.size) = x ∧ s.extract (p + x.size) (p + x.size + y.size) = y := by
  rw [cut_two s p (p + x.size) (p + (x.size + y.size)) (by omega) (by omega)] at h
  have e := congrArg ByteArray.data h
  simp only [ByteArray.data_append] at e
  have hl : (s.extract p (p + x.size)).data.size = x.data.size := by
    have := cut_size s p (p + x.size) (by omega)
    have e1 : (s.extract p (p + x.size)).data.size = (s.extract p (p + x.size)).size := rfl
    have e2 : x.data.size = x.size := rfl
    omega
  obtain ⟨e1, e2⟩ := Array.append_inj e hl
  refine ⟨ByteArray.ext e1, ?_⟩
  rw [Nat.add_assoc]
  exact ByteArray.ext e2
/-- What is read as a text: it, and the place behind it. -/
def txtAt (s : ByteArray) (p : Nat) : Option (ByteArray × Nat) := (numAt s p).bind fun x => if 0 ≤ x.1 ∧ x.1 ≤ 8000 ∧ x.2 + x.1.toNat ≤ s.size then some (s.extract x.2 (x.2 + x.1.toNat), x.2 + x.1.toNat) else none
theorem txtAt_back {s : ByteArray} {p : Nat} {t : ByteArray} {q : Nat} (h : txtAt s p = some (t, q)) : t.size ≤ 8000 ∧ p < q ∧ q ≤ s.size ∧ s.extract p q = txtB t := by
  unfold txtAt at h
  cases hn : numAt s p with
  | none => rw [hn] at h; simp at h
  | some x =>
    obtain ⟨n, r⟩ := x
    rw [hn] at h
    simp only [Option.bind_some] at h
    split at h
    · rename_i hc
      obtain ⟨c1, c2, c3⟩ := hc
      simp only [Option.some.injEq, Prod.mk.injEq] at h
      obtain ⟨rfl, rfl⟩ := h
      obtain ⟨_, b1, b2, b3⟩ := numAt_back hn
      have hz : (s.extract r (r + n.toNat)).size = n.toNat := by rw [cut_size s _ _ c3]; omega
      refine ⟨by omega, by omega, c3, ?_⟩
      unfold txtB
      rw [hz, cut_two s p r (r + n.toNat) (by omega) (by omega), b3, show ((n.toNat : Nat) : Int) = n by omega]
    · simp at h
theorem txtAt_put {s : ByteArray} {p : Nat} {t : ByteArray} (ht : t.size ≤ 8000) (hs : p + (txtB t).size ≤ s.size) (h : s.extract p (p + (txtB t).size) = txtB t) : txtAt s p = some (t, p + (txtB t).size) := by
  unfold txtB at hs h ⊢
  rw [ByteArray.size_append] at hs h ⊢
  obtain ⟨h1, h2⟩ := cut_split hs h
  unfold txtAt
  rw [numAt_put ⟨by omega, by omega⟩ (by omega) h1]
  simp only [Option.bind_some]
  rw [if_pos ⟨by omega, by omega, by rw [Int.toNat_natCast]; omega⟩, Int.toNat_natCast, h2]
  congr 2
  omega
end EvtR
end Go.Proofs.YtgaihlhoegaliaaDoor
namespace Go.Proofs.YtgaihlhoegaliaaDoor
open Go.ChangeShapes Go.WideShapes Go.ChangeAt Go.RowKit
set_option linter.unusedVariables false
namespace GetR
theorem read_got {s : ByteArray} {p : Nat} (hs : s.size ≤ 8000) (hm : (p : Int) ≤ 9223372036854775807) {u n : Nat} (h : rd s p 10 0 0 = (0, u, n)) (w : World) :
    Calls Tryd.prog 44 #[.string s, .int .i64 p] w fun e w' => e = .returned (.tuple #[.int .i64 (unz u), .int .i64 ((p : Int) + n), .nilIface]) ∧ Below w.heap.size w w' := by
  refine (read_any s p w hs hm).mono fun e w' ht => ?_
  rw [h] at ht
  exact ⟨ht.1 rfl, ht.2.2⟩
theorem read_bad {s : ByteArray} {p : Nat} (hs : s.size ≤ 8000) (hm : (p : Int) ≤ 9223372036854775807) {c : Nat} (hc : c ≠ 0) (h : rd s p 10 0 0 = (c, 0, 0)) (w : World) :
    Calls Tryd.prog 44 #[.string s, .int .i64 p] w fun e w' => e = .returned (.tuple #[.int .i64 0, .int .i64 0, .iface 78 (.agg #[.int .i64 c])]) ∧ Below w.heap.size w w' := by
  refine (read_any s p w hs hm).mono fun e w' ht => ?_
  rw [h] at ht
  exact ⟨ht.2.1 hc, ht.2.2⟩
/-- Either a number was got, or a code alone. -/
theorem rd_two (s : ByteArray) (p : Nat) : ∀ f i u, (∃ v n, rd s p f i u = (0, v, n)) ∨ ∃ c, c ≠ 0 ∧ rd s p f i u = (c, 0, 0)
  | 0, i, u => .inr ⟨3, by omega, rfl⟩
  | f + 1, i, u => by
    rw [rd]
    split
    · split
      · exact .inr ⟨3, by omega, rfl⟩
      · split
        · split
          · exact .inr ⟨3, by omega, rfl⟩
          · exact .inl ⟨_, _, rfl⟩
        · exact rd_two s p f _ _
    · exact .inr ⟨4, by omega, rfl⟩
theorem specT_bad (s : ByteArray) (x a b c : Int) (w : World) (hc : (c == 0) = false)
    (hs : ∀ w, Calls Tryd.prog 22 #[.string s, .int .i64 x] w fun e w' => e = .returned (.agg #[.int .i64 a, .int .i64 b, .int .i64 c]) ∧ Below w.heap.size w w') :
    Calls Tryd.prog 21 #[.string s, .int .i64 x] w fun e w' => e = .returned (.agg #[.string ⟨#[]⟩, .int .i64 0, .int .i64 c]) ∧ Below w.heap.size w w' := by
  have hcn : (c != 0) = true := by rw [bne, hc]; rfl
  go_enter Tryd.func21, Tryd.ntmps21
  go_wp2_with (go_at_call 22; refine (hs _).mono ?_; rintro e w1 ⟨rfl, hb1⟩; obtain ⟨hc1, hf1⟩ := bcell hb1; have hz1 : w.heap.size < w1.heap.size := by (have hz := hb1.size; simp at hz; omega))
  refine bodyPost_ret (v := .agg #[.string ⟨#[]⟩, .int .i64 0, .int .i64 c]) (by simp [results, Tryd.results21, go_sem, hc1, hz1]) rfl ⟨rfl, ?_⟩
  exact ((((bel_alloc hb1).setCell (by simp) _).setCell (by simp) _).setCell (by simp) _).alloc (by simp; omega) _
theorem specT_form (s : ByteArray) (x a b : Int) (w : World) (ha : a < 0 ∨ 8000 < a)
    (hs : ∀ w, Calls Tryd.prog 22 #[.string s, .int .i64 x] w fun e w' => e = .returned (.agg #[.int .i64 a, .int .i64 b, .int .i64 0]) ∧ Below w.heap.size w w') :
    Calls Tryd.prog 21 #[.string s, .int .i64 x] w fun e w' => e = .returned (.agg #[.string ⟨#[]⟩, .int .i64 0, .int .i64 3]) ∧ Below w.heap.size w w' := by
  have ha' : (a < 0) ∨ (¬ a < 0 ∧ 8000 < a) := by omega
  clear ha
  rcases ha' with h1 | ⟨h1, h2⟩
  all_goals
    go_enter Tryd.func21, Tryd.ntmps21
    go_wp2_with (go_at_call 22; refine (hs _).mono ?_; rintro e w1 ⟨rfl, hb1⟩; obtain ⟨hc1, hf1⟩ := bcell hb1; have hz1 : w.heap.size < w1.heap.size := by (have hz := hb1.size; simp at hz; omega))
    refine bodyPost_ret (v := .agg #[.string ⟨#[]⟩, .int .i64 0, .int .i64 3]) (by simp [results, Tryd.results21, go_sem, hc1, hz1]) rfl ⟨rfl, ?_⟩
    exact ((((bel_alloc hb1).setCell (by simp) _).setCell (by simp) _).setCell (by simp) _).alloc (by simp; omega) _
theorem specT_short (s : ByteArray) (x : Int) (m q : Nat) (w : World) (hm : m ≤ 8000) (hq : q ≤ s.size) (hs8 : s.size ≤ 8000) (hsh : s.size < q + m)
    (hs : ∀ w, Calls Tryd.prog 22 #[.string s, .int .i64 x] w fun e w' => e = .returned (.agg #[.int .i64 m, .int .i64 q, .int .i64 0]) ∧ Below w.heap.size w w') :
    Calls Tryd.prog 21 #[.string s, .int .i64 x] w fun e w' => e = .returned (.agg #[.string ⟨#[]⟩, .int .i64 0, .int .i64 4]) ∧ Below w.heap.size w w' := by
  have h1 : (s.size : Int) - m < q := by omega
  go_enter Tryd.func21, Tryd.ntmps21
  go_wp2_with (go_at_call 22; refine (hs _).mono ?_; rintro e w1 ⟨rfl, hb1⟩; obtain ⟨hc1, hf1⟩ := bcell hb1; have hz1 : w.heap.size < w1.heap.size := by (have hz := hb1.size; simp at hz; omega))
  refine bodyPost_ret (v := .agg #[.string ⟨#[]⟩, .int .i64 0, .int .i64 4]) (by simp [results, Tryd.results21, go_sem, hc1, hz1]) rfl ⟨rfl, ?_⟩
  exact ((((bel_alloc hb1).setCell (by simp) _).setCell (by simp) _).setCell (by simp) _).alloc (by simp; omega) _
set_option maxHeartbeats 2000000 in
theorem specT_got (s : ByteArray) (x : Int) (m q : Nat) (w : World) (hm : m ≤ 8000) (hs8 : s.size ≤ 8000) (hin : q + m ≤ s.size)
    (hs : ∀ w, Calls Tryd.prog 22 #[.string s, .int .i64 x] w fun e w' => e = .returned (.agg #[.int .i64 m, .int .i64 q, .int .i64 0]) ∧ Below w.heap.size w w') :
    Calls Tryd.prog 21 #[.string s, .int .i64 x] w fun e w' => e = .returned (.agg #[.string (s.extract q (q + m)), .int .i64 ((q : Int) + m), .int .i64 0]) ∧ Below w.heap.size w w' := by
  have h1 : ¬ (s.size : Int) - m < q := by omega
  have hwr : IntKind.i64.wrap ((q : Int) + m) = (q : Int) + m := by rw [IntKind.wrap_i64]; omega
  have hsl : ∀ wx, (Instr.slice 9 (.string s) (some (.int .i64 (q : Int))) (some (.int .i64 ((q : Int) + m))) none).run Tryd.prog wx = .ok (.string (s.extract q (q + m))) wx := by
    intro wx
    have := run_slice_string (P := Tryd.prog) (w := wx) 9 s .i64 .i64 (q : Int) ((q : Int) + m) Tryd.underlying9 (by omega) (by omega) (by omega)
    rw [this]
    congr 3
  go_enter Tryd.func21, Tryd.ntmps21
  go_wp2_with (go_at_call 22; refine (hs _).mono ?_; rintro e w1 ⟨rfl, hb1⟩; obtain ⟨hc1, hf1⟩ := bcell hb1; have hz1 : w.heap.size < w1.heap.size := by (have hz := hb1.size; simp at hz; omega))
  go_region
  go_wp2
  refine bodyPost_ret (v := .agg #[.string (s.extract q (q + m)), .int .i64 ((q : Int) + m), .int .i64 0]) (by simp [results, Tryd.results21, go_sem, hc1, hz1]) rfl ⟨rfl, ?_⟩
  exact (((((bel_alloc hb1).setCell (by simp) _).setCell (by simp) _).setCell (by simp) _).alloc (by simp; omega) _).drew
/-- The program's reading of a text. -/
theorem readT_bad (s : ByteArray) (x c : Int) (w : World)
    (hr : ∀ w, Calls Tryd.prog 44 #[.string s, .int .i64 x] w fun e w' => e = .returned (.tuple #[.int .i64 0, .int .i64 0, .iface 78 (.agg #[.int .i64 c])]) ∧ Below w.heap.size w w') :
    Calls Tryd.prog 43 #[.string s, .int .i64 x] w fun e w' => e = .returned (.tuple #[.string ⟨#[]⟩, .int .i64 0, .iface 78 (.agg #[.int .i64 c])]) ∧ Below w.heap.size w w' := by
  go_enter Tryd.func43, Tryd.ntmps43
  go_wp2_with (go_at_call 44; refine (hr _).mono ?_; rintro e w1 ⟨rfl, hb1⟩)
  go_ret3
  exact ⟨rfl, hb1⟩
theorem readT_form (s : ByteArray) (x a b : Int) (w : World) (ha : a < 0 ∨ 8000 < a)
    (hr : ∀ w, Calls Tryd.prog 44 #[.string s, .int .i64 x] w fun e w' => e = .returned (.tuple #[.int .i64 a, .int .i64 b, .nilIface]) ∧ Below w.heap.size w w') :
    Calls Tryd.prog 43 #[.string s, .int .i64 x] w fun e w' => e = .returned (.tuple #[.string ⟨#[]⟩, .int .i64 0, .iface 78 (.agg #[.int .i64 3])]) ∧ Below w.heap.size w w' := by
  have ha' : (a < 0) ∨ (¬ a < 0 ∧ 8000 < a) := by omega
  clear ha
  rcases ha' with h1 | ⟨h1, h2⟩
  all_goals
    go_enter Tryd.func43, Tryd.ntmps43
    go_wp2_with (go_at_call 44; refine (hr _).mono ?_; rintro e w1 ⟨rfl, hb1⟩)
    go_ret3
    exact ⟨rfl, hb1⟩
theorem readT_short (s : ByteArray) (x : Int) (m q : Nat) (w : World) (hm : m ≤ 8000) (hq : q ≤ s.size) (hs8 : s.size ≤ 8000) (hsh : s.size < q + m)
    (hr : ∀ w, Calls Tryd.prog 44 #[.string s, .int .i64 x] w fun e w' => e = .returned (.tuple #[.int .i64 m, .int .i64 q, .nilIface]) ∧ Below w.heap.size w w') :
    Calls Tryd.prog 43 #[.string s, .int .i64 x] w fun e w' => e = .returned (.tuple #[.string ⟨#[]⟩, .int .i64 0, .iface 78 (.agg #[.int .i64 4])]) ∧ Below w.heap.size w w' := by
  have h1 : (s.size : Int) - q < m := by omega
  go_enter Tryd.func43, Tryd.ntmps43
  go_wp2_with (go_at_call 44; refine (hr _).mono ?_; rintro e w1 ⟨rfl, hb1⟩)
  go_ret3
  exact ⟨rfl, hb1⟩
theorem readT_got (s : ByteArray) (x : Int) (m q : Nat) (w : World) (hm : m ≤ 8000) (hs8 : s.size ≤ 8000) (hin : q + m ≤ s.size)
    (hr : ∀ w, Calls Tryd.prog 44 #[.string s, .int .i64 x] w fun e w' => e = .returned (.tuple #[.int .i64 m, .int .i64 q, .nilIface]) ∧ Below w.heap.size w w') :
    Calls Tryd.prog 43 #[.string s, .int .i64 x] w fun e w' => e = .returned (.tuple #[.string (s.extract q (q + m)), .int .i64 ((q : Int) + m), .nilIface]) ∧ Below w.heap.size w w' := by
  have h1 : ¬ (s.size : Int) - q < m := by omega
  have hsl : ∀ wx, (Instr.slice 9 (.string s) (some (.int .i64 (q : Int))) (some (.int .i64 ((q : Int) + m))) none).run Tryd.prog wx = .ok (.string (s.extract q (q + m))) wx := by
    intro wx
    have := run_slice_string (P := Tryd.prog) (w := wx) 9 s .i64 .i64 (q : Int) ((q : Int) + m) Tryd.underlying9 (by omega) (by omega) (by omega)
    rw [this]
    congr 3
  go_enter Tryd.func43, Tryd.ntmps43
  go_wp2_with (first | (go_at_call 44; refine (hr _).mono ?_; rintro e w1 ⟨rfl, hb1⟩) | (go_at_call 57; refine (JoinR.join1 _ _ (by simp; omega)).mono ?_; rintro e w2 ⟨rfl, hb2⟩))
  go_ret3
  exact ⟨rfl, hb1.trans (hb2.mono hb1.size)⟩
end GetR
namespace EvtR
open GetR NumsR
/-- A fault of the program's. -/
def flt (c : Int) : Value := .iface 78 (.agg #[.int .i64 c])
theorem num_impl (s : ByteArray) (p : Nat) (hs : s.size ≤ 8000) (hp : p ≤ 8000) : (∃ n q, numAt s p = some (n, q) ∧ I64 n ∧ q ≤ 8000 ∧ ∀ w, Calls Tryd.prog 44 #[.string s, .int .i64 p] w fun e w' => e = .returned (.tuple #[.int .i64 n, .int .i64 (q : Nat), .nilIface]) ∧ Below w.heap.size w w') ∨ (numAt s p = none ∧ ∃ c : Int, ∀ w, Calls Tryd.prog 44 #[.string s, .int .i64 p] w fun e w' => e = .returned (.tuple #[.int .i64 0, .int .i64 0, flt c]) ∧ Below w.heap.size w w') := by
  rcases rd_two s p 10 0 0 with ⟨u, n, h⟩ | ⟨c, hc, h⟩
  · have e : numAt s p = some (unz u, p + n) := by unfold numAt; rw [h]; rfl
    obtain ⟨b1, b2, b3, b4⟩ := numAt_back e
    refine .inl ⟨_, _, e, b1, by omega, fun w => ?_⟩
    have := read_got hs (show (p : Int) ≤ 9223372036854775807 by omega) h w
    rw [show ((p : Int) + (n : Int)) = ((p + n : Nat) : Int) by omega] at this
    exact this
  · exact .inr ⟨by unfold numAt; rw [h, if_neg hc], c, fun w => read_bad hs (by omega) hc h w⟩
theorem num_spec (s : ByteArray) (p : Nat) (hs : s.size ≤ 8000) (hp : p ≤ 8000) : (∃ n q, numAt s p = some (n, q) ∧ I64 n ∧ q ≤ 8000 ∧ ∀ w, Calls Tryd.prog 22 #[.string s, .int .i64 p] w fun e w' => e = .returned (.agg #[.int .i64 n, .int .i64 (q : Nat), .int .i64 0]) ∧ Below w.heap.size w w') ∨ (numAt s p = none ∧ ∃ c : Int, (c == 0) = false ∧ ∀ w, Calls Tryd.prog 22 #[.string s, .int .i64 p] w fun e w' => e = .returned (.agg #[.int .i64 0, .int .i64 0, .int .i64 c]) ∧ Below w.heap.size w w') := by
  rcases rd_two s p 10 0 0 with ⟨u, n, h⟩ | ⟨c, hc, h⟩
  · have e : numAt s p = some (unz u, p + n) := by unfold numAt; rw [h]; rfl
    obtain ⟨b1, b2, b3, b4⟩ := numAt_back e
    refine .inl ⟨_, _, e, b1, by omega, fun w => ?_⟩
    have := GetR.spec_any s p w hs (by omega)
    rw [outN_got h, show ((p : Int) + (n : Int)) = ((p + n : Nat) : Int) by omega] at this
    exact this
  · refine .inr ⟨by unfold numAt; rw [h, if_neg hc], c, by simp; omega, fun w => ?_⟩
    have := GetR.spec_any s p w hs (by omega)
    rw [outN_bad h hc] at this
    exact this
theorem txt_impl (s : ByteArray) (p : Nat) (hs : s.size ≤ 8000) (hp : p ≤ 8000) : (∃ t q, txtAt s p = some (t, q) ∧ t.size ≤ 8000 ∧ q ≤ 8000 ∧ ∀ w, Calls Tryd.prog 43 #[.string s, .int .i64 p] w fun e w' => e = .returned (.tuple #[.string t, .int .i64 (q : Nat), .nilIface]) ∧ Below w.heap.size w w') ∨ (txtAt s p = none ∧ ∃ c : Int, ∀ w, Calls Tryd.prog 43 #[.string s, .int .i64 p] w fun e w' => e = .returned (.tuple #[.string ⟨#[]⟩, .int .i64 0, flt c]) ∧ Below w.heap.size w w') := by
  rcases num_impl s p hs hp with ⟨n, q, h, hn, hq, hc⟩ | ⟨h, c, hc⟩
  · obtain ⟨_, _, b3, _⟩ := numAt_back h
    by_cases h1 : n < 0 ∨ 8000 < n
    · exact .inr ⟨by unfold txtAt; rw [h]; simp only [Option.bind_some]; rw [if_neg (by omega)], 3, fun w => readT_form s p n q w h1 hc⟩
    · obtain ⟨m, rfl⟩ : ∃ m : Nat, n = m := ⟨n.toNat, by omega⟩
      by_cases h2 : s.size < q + m
      · exact .inr ⟨by unfold txtAt; rw [h]; simp only [Option.bind_some]; rw [if_neg (by rw [Int.toNat_natCast]; omega)], 4, fun w => readT_short s p m q w (by omega) b3 hs h2 hc⟩
      · have e : txtAt s p = some (s.extract q (q + m), q + m) := by unfold txtAt; rw [h]; simp only [Option.bind_some]; rw [if_pos ⟨by omega, by omega, by rw [Int.toNat_natCast]; omega⟩, Int.toNat_natCast]
        refine .inl ⟨_, _, e, (txtAt_back e).1, by omega, fun w => ?_⟩
        have := readT_got s p m q w (by omega) hs (by omega) hc
        rw [show ((q : Int) + (m : Int)) = ((q + m : Nat) : Int) by omega] at this
        exact this
  · exact .inr ⟨by unfold txtAt; rw [h]; rfl, c, fun w => readT_bad s p c w hc⟩
theorem txt_spec (s : ByteArray) (p : Nat) (hs : s.size ≤ 8000) (hp : p ≤ 8000) : (∃ t q, txtAt s p = some (t, q) ∧ t.size ≤ 8000 ∧ q ≤ 8000 ∧ ∀ w, Calls Tryd.prog 21 #[.string s, .int .i64 p] w fun e w' => e = .returned (.agg #[.string t, .int .i64 (q : Nat), .int .i64 0]) ∧ Below w.heap.size w w') ∨ (txtAt s p = none ∧ ∃ c : Int, (c == 0) = false ∧ ∀ w, Calls Tryd.prog 21 #[.string s, .int .i64 p] w fun e w' => e = .returned (.agg #[.string ⟨#[]⟩, .int .i64 0, .int .i64 c]) ∧ Below w.heap.size w w') := by
  rcases num_spec s p hs hp with ⟨n, q, h, hn, hq, hc⟩ | ⟨h, c, hc0, hc⟩
  · obtain ⟨_, _, b3, _⟩ := numAt_back h
    by_cases h1 : n < 0 ∨ 8000 < n
    · exact .inr ⟨by unfold txtAt; rw [h]; simp only [Option.bind_some]; rw [if_neg (by omega)], 3, by decide, fun w => specT_form s p n q w h1 hc⟩
    · obtain ⟨m, rfl⟩ : ∃ m : Nat, n = m := ⟨n.toNat, by omega⟩
      by_cases h2 : s.size < q + m
      · exact .inr ⟨by unfold txtAt; rw [h]; simp only [Option.bind_some]; rw [if_neg (by rw [Int.toNat_natCast]; omega)], 4, by decide, fun w => specT_short s p m q w (by omega) b3 hs h2 hc⟩
      · have e : txtAt s p = some (s.extract q (q + m), q + m) := by unfold txtAt; rw [h]; simp only [Option.bind_some]; rw [if_pos ⟨by omega, by omega, by rw [Int.toNat_natCast]; omega⟩, Int.toNat_natCast]
        refine .inl ⟨_, _, e, (txtAt_back e).1, by omega, fun w => ?_⟩
        have := specT_got s p m q w (by omega) hs (by omega) hc
        rw [show ((q : Int) + (m : Int)) = ((q + m : Nat) : Int) by omega] at this
        exact this
  · exact .inr ⟨by unfold txtAt; rw [h]; rfl, c, hc0, fun w => specT_bad s p 0 0 c w hc0 hc⟩
end EvtR
end Go.Proofs.YtgaihlhoegaliaaDoor
namespace Go.Proofs.YtgaihlhoegaliaaDoor
open Go.ChangeShapes Go.WideShapes Go.ChangeAt Go.RowKit
namespace EvtR
theorem rset (w : World) (b o : Nat) (v : Value) : w.grownBy (w.setCell ⟨b, o, none⟩ v) (some b) := by
  refine ⟨rfl, rfl, rfl, by simp, fun k hk hne => ?_⟩
  simp only [World.setCell]
  rw [Array.getElem?_modify, if_neg (fun e => hne (by rw [e]))]
theorem rgrown {w w' : World} (hb : Below w.heap.size w w') (row : Option Nat) : w.grownBy w' row := ⟨hb.os, hb.tape, hb.output, hb.size, fun k hk _ => hb.block k hk⟩
theorem gtrans {w w1 w2 : World} {g : Nat} (h1 : w.grownBy w1 (some g)) (h2 : w1.grownBy w2 (some g)) : w.grownBy w2 (some g) :=
  ⟨h2.os.trans h1.os, h2.tape.trans h1.tape, h2.output.trans h1.output, Nat.le_trans h1.size h2.size, fun k hk hne => (h2.block k (by have := h1.size; omega) hne).trans (h1.block k hk hne)⟩
theorem undrew {w w1 : World} {r : Option Nat} (h : w.drew.grownBy w1 r) : w.grownBy w1 r := ⟨h.os, h.tape, h.output, h.size, h.block⟩
end EvtR
end Go.Proofs.YtgaihlhoegaliaaDoor
namespace Go.Proofs.YtgaihlhoegaliaaDoor
open Go.ChangeShapes Go.WideShapes Go.ChangeAt Go.RowKit
set_option linter.unusedVariables false
namespace EvtR
open GetR NumsR
/-- The reader's block. -/
def RdB (g : Nat) (s : ByteArray) (p : Nat) (f : Value) (w : World) : Prop := g < w.heap.size ∧ w.cell? ⟨g, 0, none⟩ = some (.string s) ∧ w.cell? ⟨g, 1, none⟩ = some (.int .i64 p) ∧ w.cell? ⟨g, 2, none⟩ = some f ∧ w.frozen? ⟨g, 0, none⟩ = false ∧ w.frozen? ⟨g, 1, none⟩ = false ∧ w.frozen? ⟨g, 2, none⟩ = false
theorem RdB.below {g : Nat} {s : ByteArray} {p : Nat} {f : Value} {w w' : World} (h : RdB g s p f w) (hb : Below w.heap.size w w') : RdB g s p f w' := by
  obtain ⟨hl, c0, c1, c2, f0, f1, f2⟩ := h
  have c := fun o => hb.cell (p := ⟨g, o, none⟩) hl
  have z := fun o => hb.frozen (p := ⟨g, o, none⟩) hl
  exact ⟨by have := hb.size; omega, (c 0).trans c0, (c 1).trans c1, (c 2).trans c2, (z 0).trans f0, (z 1).trans f1, (z 2).trans f2⟩
theorem RdB.set {g : Nat} {s : ByteArray} {p : Nat} {f : Value} {w : World} (h : RdB g s p f w) (q : Nat) (f' : Value) : RdB g s q f' ((w.setCell ⟨g, 1, none⟩ (.int .i64 q)).setCell ⟨g, 2, none⟩ f') := by
  obtain ⟨hl, c0, c1, c2, f0, f1, f2⟩ := h
  exact ⟨by simpa using hl, by simp [go_sem, c0], by simp [go_sem, c1], by simp [go_sem, c2], by simp [go_sem, f0], by simp [go_sem, f1], by simp [go_sem, f2]⟩
set_option maxHeartbeats 4000000 in
theorem num_got (g : Nat) (s : ByteArray) (p q : Nat) (n : Int) (w : World) (hR : RdB g s p .nilIface w)
    (hr : ∀ w, Calls Tryd.prog 44 #[.string s, .int .i64 p] w fun e w' => e = .returned (.tuple #[.int .i64 n, .int .i64 (q : Nat), .nilIface]) ∧ Below w.heap.size w w') :
    Calls Tryd.prog 28 #[.pointer (some ⟨g, 0, none⟩)] w fun e w' => e = .returned (.int .i64 n) ∧ RdB g s q (.nilIface) w' ∧ w.grownBy w' (some g) := by
  have HR := hid_intro hR
  have HH := hid_intro hr
  obtain ⟨hl, c0, c1, c2, f0, f1, f2⟩ := hR
  clear hr
  go_enter Tryd.func28, Tryd.ntmps28
  go_wp2_with fail
  go_region_with (go_at_call 44; refine (HH.out _).mono ?_; rintro e w1 ⟨rfl, hb⟩; have HB := hid_intro hb; have HR1 := hid_intro (RdB.below (show RdB g s p .nilIface w.drew from HR.out) hb); obtain ⟨hl1, d0, d1, d2, e0, e1, e2⟩ := HR1.out; clear hb)
  all_goals (
    go_wp2_with fail
    go_ret
    exact ⟨rfl, HR1.out.set q _, gtrans (gtrans (undrew (rgrown HB.out _)) (rset _ g 1 _)) (rset _ g 2 _)⟩)
set_option maxHeartbeats 4000000 in
theorem num_bad (g : Nat) (s : ByteArray) (p q : Nat) (c : Int) (w : World) (hR : RdB g s p .nilIface w)
    (hr : ∀ w, Calls Tryd.prog 44 #[.string s, .int .i64 p] w fun e w' => e = .returned (.tuple #[.int .i64 0, .int .i64 (q : Nat), flt c]) ∧ Below w.heap.size w w') :
    Calls Tryd.prog 28 #[.pointer (some ⟨g, 0, none⟩)] w fun e w' => e = .returned (.int .i64 0) ∧ RdB g s q (flt c) w' ∧ w.grownBy w' (some g) := by
  unfold flt at *
  have HR := hid_intro hR
  have HH := hid_intro hr
  obtain ⟨hl, c0, c1, c2, f0, f1, f2⟩ := hR
  clear hr
  go_enter Tryd.func28, Tryd.ntmps28
  go_wp2_with fail
  go_region_with (go_at_call 44; refine (HH.out _).mono ?_; rintro e w1 ⟨rfl, hb⟩; have HB := hid_intro hb; have HR1 := hid_intro (RdB.below (show RdB g s p .nilIface w.drew from HR.out) hb); obtain ⟨hl1, d0, d1, d2, e0, e1, e2⟩ := HR1.out; clear hb)
  all_goals (
    go_wp2_with fail
    go_ret
    exact ⟨rfl, HR1.out.set q _, gtrans (gtrans (undrew (rgrown HB.out _)) (rset _ g 1 _)) (rset _ g 2 _)⟩)
theorem num_flt (g : Nat) (s : ByteArray) (p : Nat) (c : Int) (w : World) (hR : RdB g s p (flt c) w) :
    Calls Tryd.prog 28 #[.pointer (some ⟨g, 0, none⟩)] w fun e w' => e = .returned (.int .i64 0) ∧ w' = w := by
  unfold flt at hR
  obtain ⟨hl, c0, c1, c2, f0, f1, f2⟩ := hR
  go_enter Tryd.func28, Tryd.ntmps28
  go_wp2_with fail
  go_ret
  exact ⟨rfl, rfl⟩
set_option maxHeartbeats 4000000 in
theorem word_got (g : Nat) (s : ByteArray) (p q : Nat) (t : ByteArray) (w : World) (hR : RdB g s p .nilIface w)
    (hr : ∀ w, Calls Tryd.prog 43 #[.string s, .int .i64 p] w fun e w' => e = .returned (.tuple #[.string t, .int .i64 (q : Nat), .nilIface]) ∧ Below w.heap.size w w') :
    Calls Tryd.prog 27 #[.pointer (some ⟨g, 0, none⟩)] w fun e w' => e = .returned (.string t) ∧ RdB g s q (.nilIface) w' ∧ w.grownBy w' (some g) := by
  have HR := hid_intro hR
  have HH := hid_intro hr
  obtain ⟨hl, c0, c1, c2, f0, f1, f2⟩ := hR
  clear hr
  go_enter Tryd.func27, Tryd.ntmps27
  go_wp2_with fail
  go_region_with (go_at_call 43; refine (HH.out _).mono ?_; rintro e w1 ⟨rfl, hb⟩; have HB := hid_intro hb; have HR1 := hid_intro (RdB.below (show RdB g s p .nilIface w.drew from HR.out) hb); obtain ⟨hl1, d0, d1, d2, e0, e1, e2⟩ := HR1.out; clear hb)
  all_goals (
    go_wp2_with fail
    go_ret
    exact ⟨rfl, HR1.out.set q _, gtrans (gtrans (undrew (rgrown HB.out _)) (rset _ g 1 _)) (rset _ g 2 _)⟩)
set_option maxHeartbeats 4000000 in
theorem word_bad (g : Nat) (s : ByteArray) (p q : Nat) (c : Int) (w : World) (hR : RdB g s p .nilIface w)
    (hr : ∀ w, Calls Tryd.prog 43 #[.string s, .int .i64 p] w fun e w' => e = .returned (.tuple #[.string ⟨#[]⟩, .int .i64 (q : Nat), flt c]) ∧ Below w.heap.size w w') :
    Calls Tryd.prog 27 #[.pointer (some ⟨g, 0, none⟩)] w fun e w' => e = .returned (.string ⟨#[]⟩) ∧ RdB g s q (flt c) w' ∧ w.grownBy w' (some g) := by
  unfold flt at *
  have HR := hid_intro hR
  have HH := hid_intro hr
  obtain ⟨hl, c0, c1, c2, f0, f1, f2⟩ := hR
  clear hr
  go_enter Tryd.func27, Tryd.ntmps27
  go_wp2_with fail
  go_region_with (go_at_call 43; refine (HH.out _).mono ?_; rintro e w1 ⟨rfl, hb⟩; have HB := hid_intro hb; have HR1 := hid_intro (RdB.below (show RdB g s p .nilIface w.drew from HR.out) hb); obtain ⟨hl1, d0, d1, d2, e0, e1, e2⟩ := HR1.out; clear hb)
  all_goals (
    go_wp2_with fail
    go_ret
    exact ⟨rfl, HR1.out.set q _, gtrans (gtrans (undrew (rgrown HB.out _)) (rset _ g 1 _)) (rset _ g 2 _)⟩)
theorem word_flt (g : Nat) (s : ByteArray) (p : Nat) (c : Int) (w : World) (hR : RdB g s p (flt c) w) :
    Calls Tryd.prog 27 #[.pointer (some ⟨g, 0, none⟩)] w fun e w' => e = .returned (.string ⟨#[]⟩) ∧ w' = w := by
  unfold flt at hR
  obtain ⟨hl, c0, c1, c2, f0, f1, f2⟩ := hR
  go_enter Tryd.func27, Tryd.ntmps27
  go_wp2_with fail
  go_ret
  exact ⟨rfl, rfl⟩
/-- What a read leaves: the reader behind it, with or without a fault. -/
def After (g : Nat) (s : ByteArray) (o : Option Nat) (w : World) : Prop := match o with
  | some p => p ≤ 8000 ∧ RdB g s p .nilIface w
  | none => ∃ p c, RdB g s p (flt c) w
/-- A number read by the reader. -/
theorem rnum (g : Nat) (s : ByteArray) (o : Option Nat) (w : World) (hs : s.size ≤ 8000) (h : After g s o w) :
    Calls Tryd.prog 28 #[.pointer (some ⟨g, 0, none⟩)] w fun e w' => e = .returned (.int .i64 (((o.bind (numAt s)).map (·.1)).getD 0)) ∧ After g s ((o.bind (numAt s)).map (·.2)) w' ∧ w.grownBy w' (some g) := by
  cases o with
  | none =>
    obtain ⟨p, c, h⟩ := h
    exact (num_flt g s p c w h).mono fun e w' ⟨h1, h2⟩ => by subst h2; exact ⟨h1, ⟨p, c, h⟩, ⟨rfl, rfl, rfl, Nat.le_refl _, fun _ _ _ => rfl⟩⟩
  | some p =>
    rcases num_impl s p hs h.1 with ⟨n, q, hn, _, hq, hc⟩ | ⟨hn, c, hc⟩
    · refine (num_got g s p q n w h.2 hc).mono fun e w' ⟨h1, h2, h3⟩ => ?_
      simp only [Option.bind_some, hn]
      exact ⟨h1, ⟨hq, h2⟩, h3⟩
    · refine (num_bad g s p 0 c w h.2 hc).mono fun e w' ⟨h1, h2, h3⟩ => ?_
      simp only [Option.bind_some, hn]
      exact ⟨h1, ⟨0, c, h2⟩, h3⟩
/-- A text read by the reader. -/
theorem rword (g : Nat) (s : ByteArray) (o : Option Nat) (w : World) (hs : s.size ≤ 8000) (h : After g s o w) :
    Calls Tryd.prog 27 #[.pointer (some ⟨g, 0, none⟩)] w fun e w' => e = .returned (.string (((o.bind (txtAt s)).map (·.1)).getD ⟨#[]⟩)) ∧ After g s ((o.bind (txtAt s)).map (·.2)) w' ∧ w.grownBy w' (some g) := by
  cases o with
  | none =>
    obtain ⟨p, c, h⟩ := h
    exact (word_flt g s p c w h).mono fun e w' ⟨h1, h2⟩ => by subst h2; exact ⟨h1, ⟨p, c, h⟩, ⟨rfl, rfl, rfl, Nat.le_refl _, fun _ _ _ => rfl⟩⟩
  | some p =>
    rcases txt_impl s p hs h.1 with ⟨n, q, hn, _, hq, hc⟩ | ⟨hn, c, hc⟩
    · refine (word_got g s p q n w h.2 hc).mono fun e w' ⟨h1, h2, h3⟩ => ?_
      simp only [Option.bind_some, hn]
      exact ⟨h1, ⟨hq, h2⟩, h3⟩
    · refine (word_bad g s p 0 c w h.2 hc).mono fun e w' ⟨h1, h2, h3⟩ => ?_
      simp only [Option.bind_some, hn]
      exact ⟨h1, ⟨0, c, h2⟩, h3⟩
end EvtR
end Go.Proofs.YtgaihlhoegaliaaDoor
namespace Go.Proofs.YtgaihlhoegaliaaDoor
open Go.ChangeShapes Go.WideShapes Go.ChangeAt Go.RowKit
set_option linter.unusedVariables false
namespace EvtR
open GetR NumsR
/-- The model's reader's block. -/
def SRB (g : Nat) (s : ByteArray) (p : Nat) (b : Bool) (w : World) : Prop := g < w.heap.size ∧ w.cell? ⟨g, 0, none⟩ = some (.string s) ∧ w.cell? ⟨g, 1, none⟩ = some (.int .i64 p) ∧ w.cell? ⟨g, 2, none⟩ = some (.bool b) ∧ w.frozen? ⟨g, 0, none⟩ = false ∧ w.frozen? ⟨g, 1, none⟩ = false ∧ w.frozen? ⟨g, 2, none⟩ = false
theorem SRB.below {g : Nat} {s : ByteArray} {p : Nat} {b : Bool} {w w' : World} (h : SRB g s p b w) (hb : Below w.heap.size w w') : SRB g s p b w' := by
  obtain ⟨hl, c0, c1, c2, f0, f1, f2⟩ := h
  have c := fun o => hb.cell (p := ⟨g, o, none⟩) hl
  have z := fun o => hb.frozen (p := ⟨g, o, none⟩) hl
  exact ⟨by have := hb.size; omega, (c 0).trans c0, (c 1).trans c1, (c 2).trans c2, (z 0).trans f0, (z 1).trans f1, (z 2).trans f2⟩
theorem SRB.setAt {g : Nat} {s : ByteArray} {p : Nat} {b : Bool} {w : World} (h : SRB g s p b w) (q : Nat) : SRB g s q b (w.setCell ⟨g, 1, none⟩ (.int .i64 q)) := by
  obtain ⟨hl, c0, c1, c2, f0, f1, f2⟩ := h
  exact ⟨by simpa using hl, by simp [go_sem, c0], by simp [go_sem, c1], by simp [go_sem, c2], by simp [go_sem, f0], by simp [go_sem, f1], by simp [go_sem, f2]⟩
theorem SRB.setBad {g : Nat} {s : ByteArray} {p : Nat} {b : Bool} {w : World} (h : SRB g s p b w) : SRB g s p true (w.setCell ⟨g, 2, none⟩ (.bool true)) := by
  obtain ⟨hl, c0, c1, c2, f0, f1, f2⟩ := h
  exact ⟨by simpa using hl, by simp [go_sem, c0], by simp [go_sem, c1], by simp [go_sem, c2], by simp [go_sem, f0], by simp [go_sem, f1], by simp [go_sem, f2]⟩
/-- A new block of three cells. -/
def N3 (B : Nat) (a b c : Value) (w : World) : Prop := B < w.heap.size ∧ w.cell? ⟨B, 0, none⟩ = some a ∧ w.cell? ⟨B, 1, none⟩ = some b ∧ w.cell? ⟨B, 2, none⟩ = some c ∧ w.frozen? ⟨B, 0, none⟩ = false ∧ w.frozen? ⟨B, 1, none⟩ = false ∧ w.frozen? ⟨B, 2, none⟩ = false
theorem N3.new (W : World) (T : TypeId) (a b c : Value) : N3 W.heap.size a b c (W.alloc (.cells #[a, b, c] T)) :=
  ⟨by simp, by simp [go_sem], by simp [go_sem], by simp [go_sem], by simp [go_sem], by simp [go_sem], by simp [go_sem]⟩
theorem N3.below {B : Nat} {a b c : Value} {w w' : World} (h : N3 B a b c w) (hb : Below w.heap.size w w') : N3 B a b c w' := by
  obtain ⟨hl, c0, c1, c2, f0, f1, f2⟩ := h
  have c := fun o => hb.cell (p := ⟨B, o, none⟩) hl
  have z := fun o => hb.frozen (p := ⟨B, o, none⟩) hl
  exact ⟨by have := hb.size; omega, (c 0).trans c0, (c 1).trans c1, (c 2).trans c2, (z 0).trans f0, (z 1).trans f1, (z 2).trans f2⟩
theorem then2 {a b P : Prop} (ha : a) (hb : b) (k : a → b → P) : P := k ha hb
theorem then1 {a P : Prop} (ha : a) (k : a → P) : P := k ha
theorem SRB.other {g : Nat} {s : ByteArray} {p : Nat} {b : Bool} {w : World} (h : SRB g s p b w) {X : Nat} (hX : X ≠ g) (o : Nat) (v : Value) : SRB g s p b (w.setCell ⟨X, o, none⟩ v) := by
  obtain ⟨hl, c0, c1, c2, f0, f1, f2⟩ := h
  have e := (rset w X o v).block g hl (by simp; exact fun h => hX h.symm)
  have c := fun k => World.cell?_of_block (a := ⟨g, k, none⟩) e
  have z := fun k => World.frozen?_of_block (a := ⟨g, k, none⟩) e
  exact ⟨by simpa using hl, (c 0).trans c0, (c 1).trans c1, (c 2).trans c2, (z 0).trans f0, (z 1).trans f1, (z 2).trans f2⟩
theorem gnew {w wx : World} {g X o : Nat} {v : Value} (h : w.grownBy wx (some g)) (hX : w.heap.size ≤ X) : w.grownBy (wx.setCell ⟨X, o, none⟩ v) (some g) := by
  have hg := rset wx X o v
  refine ⟨hg.os.trans h.os, hg.tape.trans h.tape, hg.output.trans h.output, by have := h.size; have := hg.size; omega, fun k hk hne => ?_⟩
  have hs := h.size
  exact (hg.block k (by omega) (by intro e; cases e; omega)).trans (h.block k hk hne)
theorem galloc {w w1 : World} {g : Nat} (h : w.grownBy w1 (some g)) (o : Obj) : w.grownBy (w1.alloc o) (some g) := gtrans h (World.grownBy_alloc w1 o _)
set_option maxHeartbeats 4000000 in
theorem snum_got (g : Nat) (s : ByteArray) (p q : Nat) (n : Int) (w : World) (hR : SRB g s p false w)
    (hr : ∀ w, Calls Tryd.prog 22 #[.string s, .int .i64 p] w fun e w' => e = .returned (.agg #[.int .i64 n, .int .i64 (q : Nat), .int .i64 0]) ∧ Below w.heap.size w w') :
    Calls Tryd.prog 12 #[.pointer (some ⟨g, 0, none⟩)] w fun e w' => e = .returned (.int .i64 n) ∧ SRB g s q false w' ∧ w.grownBy w' (some g) := by
  have HR := hid_intro hR
  have HH := hid_intro hr
  obtain ⟨hl, c0, c1, c2, f0, f1, f2⟩ := hR
  have hne : w.heap.size ≠ g := by omega
  clear hr
  go_enter Tryd.func12, Tryd.ntmps12
  go_wp2_with fail
  go_region_with (go_at_call 22; refine (HH.out _).mono ?_; rintro e w1 ⟨rfl, hb⟩; have HB := hid_intro hb; first | (refine then2 (SRB.below (SRB.below (show SRB g s p false w.drew from HR.out) ((Below.refl _ _).alloc (Nat.le_refl _) _)) hb) (show N3 w.heap.size (.int .i64 0) (.int .i64 0) (.int .i64 0) w1 from N3.below (N3.new w.drew 62 (.int .i64 0) (.int .i64 0) (.int .i64 0)) hb) ?_; intro hX hZ; have HX := hid_intro hX; obtain ⟨zl, z0, z1, z2, y0, y1, y2⟩ := hZ; obtain ⟨hl1, d0, d1, d2, e0, e1, e2⟩ := hX) | (refine then1 (SRB.below (show SRB g s p false w.drew from HR.out) hb) ?_; intro hX; have HX := hid_intro hX; have hl0 : ¬ w1.heap.size = g := (by have := hX.1; omega); obtain ⟨hl1, d0, d1, d2, e0, e1, e2⟩ := hX); clear hb)
  all_goals (
    go_wp2_with fail
    go_ret
    first
      | (have hzl := zl; exact ⟨rfl, ((((HX.out.other hne 0 _).other hne 1 _).other hne 2 _).setAt q), gtrans (gnew (gnew (gnew (undrew (gtrans (World.grownBy_alloc _ _ _) (rgrown HB.out _))) (Nat.le_refl _)) (Nat.le_refl _)) (Nat.le_refl _)) (rset _ g 1 _)⟩)
      | exact ⟨rfl, (HX.out.setAt q).below ((Below.refl _ _).alloc (Nat.le_refl _) _), galloc (gtrans (undrew (rgrown HB.out _)) (rset _ g 1 _)) _⟩)
set_option maxHeartbeats 4000000 in
theorem snum_bad (g : Nat) (s : ByteArray) (p q : Nat) (n : Int) (c : Int) (hc : (c == 0) = false) (w : World) (hR : SRB g s p false w)
    (hr : ∀ w, Calls Tryd.prog 22 #[.string s, .int .i64 p] w fun e w' => e = .returned (.agg #[.int .i64 n, .int .i64 (q : Nat), .int .i64 c]) ∧ Below w.heap.size w w') :
    Calls Tryd.prog 12 #[.pointer (some ⟨g, 0, none⟩)] w fun e w' => e = .returned (.int .i64 0) ∧ SRB g s p true w' ∧ w.grownBy w' (some g) := by
  have HR := hid_intro hR
  have HH := hid_intro hr
  obtain ⟨hl, c0, c1, c2, f0, f1, f2⟩ := hR
  have hne : w.heap.size ≠ g := by omega
  have hcn : ¬ c = 0 := by simpa using hc
  have hcn2 : (c != 0) = true := by simp [hcn]
  clear hr
  go_enter Tryd.func12, Tryd.ntmps12
  go_wp2_with fail
  go_region_with (go_at_call 22; refine (HH.out _).mono ?_; rintro e w1 ⟨rfl, hb⟩; have HB := hid_intro hb; first | (refine then2 (SRB.below (SRB.below (show SRB g s p false w.drew from HR.out) ((Below.refl _ _).alloc (Nat.le_refl _) _)) hb) (show N3 w.heap.size (.int .i64 0) (.int .i64 0) (.int .i64 0) w1 from N3.below (N3.new w.drew 62 (.int .i64 0) (.int .i64 0) (.int .i64 0)) hb) ?_; intro hX hZ; have HX := hid_intro hX; obtain ⟨zl, z0, z1, z2, y0, y1, y2⟩ := hZ; obtain ⟨hl1, d0, d1, d2, e0, e1, e2⟩ := hX) | (refine then1 (SRB.below (show SRB g s p false w.drew from HR.out) hb) ?_; intro hX; have HX := hid_intro hX; have hl0 : ¬ w1.heap.size = g := (by have := hX.1; omega); obtain ⟨hl1, d0, d1, d2, e0, e1, e2⟩ := hX); clear hb)
  all_goals (
    go_wp2_with fail
    go_ret
    first
      | (have hzl := zl; exact ⟨rfl, ((((HX.out.other hne 0 _).other hne 1 _).other hne 2 _).setBad), gtrans (gnew (gnew (gnew (undrew (gtrans (World.grownBy_alloc _ _ _) (rgrown HB.out _))) (Nat.le_refl _)) (Nat.le_refl _)) (Nat.le_refl _)) (rset _ g 2 _)⟩)
      | exact ⟨rfl, HX.out.setBad.below ((Below.refl _ _).alloc (Nat.le_refl _) _), galloc (gtrans (undrew (rgrown HB.out _)) (rset _ g 2 _)) _⟩)
set_option maxHeartbeats 4000000 in
theorem snum_flt (g : Nat) (s : ByteArray) (p q : Nat) (n : Int) (c : Int) (w : World) (hR : SRB g s p true w)
    (hr : ∀ w, Calls Tryd.prog 22 #[.string s, .int .i64 p] w fun e w' => e = .returned (.agg #[.int .i64 n, .int .i64 (q : Nat), .int .i64 c]) ∧ Below w.heap.size w w') :
    Calls Tryd.prog 12 #[.pointer (some ⟨g, 0, none⟩)] w fun e w' => e = .returned (.int .i64 0) ∧ SRB g s p true w' ∧ w.grownBy w' (some g) := by
  have HR := hid_intro hR
  have HH := hid_intro hr
  obtain ⟨hl, c0, c1, c2, f0, f1, f2⟩ := hR
  have hne : w.heap.size ≠ g := by omega
  clear hr
  go_enter Tryd.func12, Tryd.ntmps12
  go_wp2_with fail
  go_region_with (go_at_call 22; refine (HH.out _).mono ?_; rintro e w1 ⟨rfl, hb⟩; have HB := hid_intro hb; first | (refine then2 (SRB.below (SRB.below (show SRB g s p true w.drew from HR.out) ((Below.refl _ _).alloc (Nat.le_refl _) _)) hb) (show N3 w.heap.size (.int .i64 0) (.int .i64 0) (.int .i64 0) w1 from N3.below (N3.new w.drew 62 (.int .i64 0) (.int .i64 0) (.int .i64 0)) hb) ?_; intro hX hZ; have HX := hid_intro hX; obtain ⟨zl, z0, z1, z2, y0, y1, y2⟩ := hZ; obtain ⟨hl1, d0, d1, d2, e0, e1, e2⟩ := hX) | (refine then1 (SRB.below (show SRB g s p true w.drew from HR.out) hb) ?_; intro hX; have HX := hid_intro hX; have hl0 : ¬ w1.heap.size = g := (by have := hX.1; omega); obtain ⟨hl1, d0, d1, d2, e0, e1, e2⟩ := hX); clear hb)
  all_goals (
    go_wp2_with fail
    go_ret
    first
      | (have hzl := zl; exact ⟨rfl, ((((HX.out.other hne 0 _).other hne 1 _).other hne 2 _).setBad), gtrans (gnew (gnew (gnew (undrew (gtrans (World.grownBy_alloc _ _ _) (rgrown HB.out _))) (Nat.le_refl _)) (Nat.le_refl _)) (Nat.le_refl _)) (rset _ g 2 _)⟩)
      | exact ⟨rfl, HX.out.setBad.below ((Below.refl _ _).alloc (Nat.le_refl _) _), galloc (gtrans (undrew (rgrown HB.out _)) (rset _ g 2 _)) _⟩)
set_option maxHeartbeats 4000000 in
theorem stext_got (g : Nat) (s : ByteArray) (p q : Nat) (t : ByteArray) (w : World) (hR : SRB g s p false w)
    (hr : ∀ w, Calls Tryd.prog 21 #[.string s, .int .i64 p] w fun e w' => e = .returned (.agg #[.string t, .int .i64 (q : Nat), .int .i64 0]) ∧ Below w.heap.size w w') :
    Calls Tryd.prog 11 #[.pointer (some ⟨g, 0, none⟩)] w fun e w' => e = .returned (.string t) ∧ SRB g s q false w' ∧ w.grownBy w' (some g) := by
  have HR := hid_intro hR
  have HH := hid_intro hr
  obtain ⟨hl, c0, c1, c2, f0, f1, f2⟩ := hR
  have hne : w.heap.size ≠ g := by omega
  clear hr
  go_enter Tryd.func11, Tryd.ntmps11
  go_wp2_with fail
  go_region_with (go_at_call 21; refine (HH.out _).mono ?_; rintro e w1 ⟨rfl, hb⟩; have HB := hid_intro hb; first | (refine then2 (SRB.below (SRB.below (show SRB g s p false w.drew from HR.out) ((Below.refl _ _).alloc (Nat.le_refl _) _)) hb) (show N3 w.heap.size (.string ⟨#[]⟩) (.int .i64 0) (.int .i64 0) w1 from N3.below (N3.new w.drew 59 (.string ⟨#[]⟩) (.int .i64 0) (.int .i64 0)) hb) ?_; intro hX hZ; have HX := hid_intro hX; obtain ⟨zl, z0, z1, z2, y0, y1, y2⟩ := hZ; obtain ⟨hl1, d0, d1, d2, e0, e1, e2⟩ := hX) | (refine then1 (SRB.below (show SRB g s p false w.drew from HR.out) hb) ?_; intro hX; have HX := hid_intro hX; have hl0 : ¬ w1.heap.size = g := (by have := hX.1; omega); obtain ⟨hl1, d0, d1, d2, e0, e1, e2⟩ := hX); clear hb)
  all_goals (
    go_wp2_with fail
    go_ret
    first
      | (have hzl := zl; exact ⟨rfl, ((((HX.out.other hne 0 _).other hne 1 _).other hne 2 _).setAt q), gtrans (gnew (gnew (gnew (undrew (gtrans (World.grownBy_alloc _ _ _) (rgrown HB.out _))) (Nat.le_refl _)) (Nat.le_refl _)) (Nat.le_refl _)) (rset _ g 1 _)⟩)
      | exact ⟨rfl, (HX.out.setAt q).below ((Below.refl _ _).alloc (Nat.le_refl _) _), galloc (gtrans (undrew (rgrown HB.out _)) (rset _ g 1 _)) _⟩)
set_option maxHeartbeats 4000000 in
theorem stext_bad (g : Nat) (s : ByteArray) (p q : Nat) (t : ByteArray) (c : Int) (hc : (c == 0) = false) (w : World) (hR : SRB g s p false w)
    (hr : ∀ w, Calls Tryd.prog 21 #[.string s, .int .i64 p] w fun e w' => e = .returned (.agg #[.string t, .int .i64 (q : Nat), .int .i64 c]) ∧ Below w.heap.size w w') :
    Calls Tryd.prog 11 #[.pointer (some ⟨g, 0, none⟩)] w fun e w' => e = .returned (.string ⟨#[]⟩) ∧ SRB g s p true w' ∧ w.grownBy w' (some g) := by
  have HR := hid_intro hR
  have HH := hid_intro hr
  obtain ⟨hl, c0, c1, c2, f0, f1, f2⟩ := hR
  have hne : w.heap.size ≠ g := by omega
  have hcn : ¬ c = 0 := by simpa using hc
  have hcn2 : (c != 0) = true := by simp [hcn]
  clear hr
  go_enter Tryd.func11, Tryd.ntmps11
  go_wp2_with fail
  go_region_with (go_at_call 21; refine (HH.out _).mono ?_; rintro e w1 ⟨rfl, hb⟩; have HB := hid_intro hb; first | (refine then2 (SRB.below (SRB.below (show SRB g s p false w.drew from HR.out) ((Below.refl _ _).alloc (Nat.le_refl _) _)) hb) (show N3 w.heap.size (.string ⟨#[]⟩) (.int .i64 0) (.int .i64 0) w1 from N3.below (N3.new w.drew 59 (.string ⟨#[]⟩) (.int .i64 0) (.int .i64 0)) hb) ?_; intro hX hZ; have HX := hid_intro hX; obtain ⟨zl, z0, z1, z2, y0, y1, y2⟩ := hZ; obtain ⟨hl1, d0, d1, d2, e0, e1, e2⟩ := hX) | (refine then1 (SRB.below (show SRB g s p false w.drew from HR.out) hb) ?_; intro hX; have HX := hid_intro hX; have hl0 : ¬ w1.heap.size = g := (by have := hX.1; omega); obtain ⟨hl1, d0, d1, d2, e0, e1, e2⟩ := hX); clear hb)
  all_goals (
    go_wp2_with fail
    go_ret
    first
      | (have hzl := zl; exact ⟨rfl, ((((HX.out.other hne 0 _).other hne 1 _).other hne 2 _).setBad), gtrans (gnew (gnew (gnew (undrew (gtrans (World.grownBy_alloc _ _ _) (rgrown HB.out _))) (Nat.le_refl _)) (Nat.le_refl _)) (Nat.le_refl _)) (rset _ g 2 _)⟩)
      | exact ⟨rfl, HX.out.setBad.below ((Below.refl _ _).alloc (Nat.le_refl _) _), galloc (gtrans (undrew (rgrown HB.out _)) (rset _ g 2 _)) _⟩)
set_option maxHeartbeats 4000000 in
theorem stext_flt (g : Nat) (s : ByteArray) (p q : Nat) (t : ByteArray) (c : Int) (w : World) (hR : SRB g s p true w)
    (hr : ∀ w, Calls Tryd.prog 21 #[.string s, .int .i64 p] w fun e w' => e = .returned (.agg #[.string t, .int .i64 (q : Nat), .int .i64 c]) ∧ Below w.heap.size w w') :
    Calls Tryd.prog 11 #[.pointer (some ⟨g, 0, none⟩)] w fun e w' => e = .returned (.string ⟨#[]⟩) ∧ SRB g s p true w' ∧ w.grownBy w' (some g) := by
  have HR := hid_intro hR
  have HH := hid_intro hr
  obtain ⟨hl, c0, c1, c2, f0, f1, f2⟩ := hR
  have hne : w.heap.size ≠ g := by omega
  clear hr
  go_enter Tryd.func11, Tryd.ntmps11
  go_wp2_with fail
  go_region_with (go_at_call 21; refine (HH.out _).mono ?_; rintro e w1 ⟨rfl, hb⟩; have HB := hid_intro hb; first | (refine then2 (SRB.below (SRB.below (show SRB g s p true w.drew from HR.out) ((Below.refl _ _).alloc (Nat.le_refl _) _)) hb) (show N3 w.heap.size (.string ⟨#[]⟩) (.int .i64 0) (.int .i64 0) w1 from N3.below (N3.new w.drew 59 (.string ⟨#[]⟩) (.int .i64 0) (.int .i64 0)) hb) ?_; intro hX hZ; have HX := hid_intro hX; obtain ⟨zl, z0, z1, z2, y0, y1, y2⟩ := hZ; obtain ⟨hl1, d0, d1, d2, e0, e1, e2⟩ := hX) | (refine then1 (SRB.below (show SRB g s p true w.drew from HR.out) hb) ?_; intro hX; have HX := hid_intro hX; have hl0 : ¬ w1.heap.size = g := (by have := hX.1; omega); obtain ⟨hl1, d0, d1, d2, e0, e1, e2⟩ := hX); clear hb)
  all_goals (
    go_wp2_with fail
    go_ret
    first
      | (have hzl := zl; exact ⟨rfl, ((((HX.out.other hne 0 _).other hne 1 _).other hne 2 _).setBad), gtrans (gnew (gnew (gnew (undrew (gtrans (World.grownBy_alloc _ _ _) (rgrown HB.out _))) (Nat.le_refl _)) (Nat.le_refl _)) (Nat.le_refl _)) (rset _ g 2 _)⟩)
      | exact ⟨rfl, HX.out.setBad.below ((Below.refl _ _).alloc (Nat.le_refl _) _), galloc (gtrans (undrew (rgrown HB.out _)) (rset _ g 2 _)) _⟩)
/-- What a read of the model's leaves: the reader behind it, with or without a fault. -/
def SAfter (g : Nat) (s : ByteArray) (o : Option Nat) (w : World) : Prop := match o with
  | some p => p ≤ 8000 ∧ SRB g s p false w
  | none => ∃ p, p ≤ 8000 ∧ SRB g s p true w
theorem srnum (g : Nat) (s : ByteArray) (o : Option Nat) (w : World) (hs : s.size ≤ 8000) (h : SAfter g s o w) :
    Calls Tryd.prog 12 #[.pointer (some ⟨g, 0, none⟩)] w fun e w' => e = .returned (.int .i64 (((o.bind (numAt s)).map (·.1)).getD 0)) ∧ SAfter g s ((o.bind (numAt s)).map (·.2)) w' ∧ w.grownBy w' (some g) := by
  cases o with
  | none =>
    obtain ⟨p, hp, h⟩ := h
    rcases num_spec s p hs hp with ⟨n, q, hn, _, hq, hc⟩ | ⟨hn, c, hc0, hc⟩
    · exact (snum_flt g s p q n 0 w h hc).mono fun e w' ⟨h1, h2, h3⟩ => ⟨h1, ⟨p, hp, h2⟩, h3⟩
    · exact (snum_flt g s p 0 0 c w h hc).mono fun e w' ⟨h1, h2, h3⟩ => ⟨h1, ⟨p, hp, h2⟩, h3⟩
  | some p =>
    rcases num_spec s p hs h.1 with ⟨n, q, hn, _, hq, hc⟩ | ⟨hn, c, hc0, hc⟩
    · refine (snum_got g s p q n w h.2 hc).mono fun e w' ⟨h1, h2, h3⟩ => ?_
      simp only [Option.bind_some, hn]
      exact ⟨h1, ⟨hq, h2⟩, h3⟩
    · refine (snum_bad g s p 0 0 c hc0 w h.2 hc).mono fun e w' ⟨h1, h2, h3⟩ => ?_
      simp only [Option.bind_some, hn]
      exact ⟨h1, ⟨p, h.1, h2⟩, h3⟩
theorem srtext (g : Nat) (s : ByteArray) (o : Option Nat) (w : World) (hs : s.size ≤ 8000) (h : SAfter g s o w) :
    Calls Tryd.prog 11 #[.pointer (some ⟨g, 0, none⟩)] w fun e w' => e = .returned (.string (((o.bind (txtAt s)).map (·.1)).getD ⟨#[]⟩)) ∧ SAfter g s ((o.bind (txtAt s)).map (·.2)) w' ∧ w.grownBy w' (some g) := by
  cases o with
  | none =>
    obtain ⟨p, hp, h⟩ := h
    rcases txt_spec s p hs hp with ⟨n, q, hn, _, hq, hc⟩ | ⟨hn, c, hc0, hc⟩
    · exact (stext_flt g s p q n 0 w h hc).mono fun e w' ⟨h1, h2, h3⟩ => ⟨h1, ⟨p, hp, h2⟩, h3⟩
    · exact (stext_flt g s p 0 ⟨#[]⟩ c w h hc).mono fun e w' ⟨h1, h2, h3⟩ => ⟨h1, ⟨p, hp, h2⟩, h3⟩
  | some p =>
    rcases txt_spec s p hs h.1 with ⟨n, q, hn, _, hq, hc⟩ | ⟨hn, c, hc0, hc⟩
    · refine (stext_got g s p q n w h.2 hc).mono fun e w' ⟨h1, h2, h3⟩ => ?_
      simp only [Option.bind_some, hn]
      exact ⟨h1, ⟨hq, h2⟩, h3⟩
    · refine (stext_bad g s p 0 ⟨#[]⟩ c hc0 w h.2 hc).mono fun e w' ⟨h1, h2, h3⟩ => ?_
      simp only [Option.bind_some, hn]
      exact ⟨h1, ⟨p, h.1, h2⟩, h3⟩
end EvtR
end Go.Proofs.YtgaihlhoegaliaaDoor
namespace Go.Proofs.YtgaihlhoegaliaaDoor
open Go.ChangeShapes Go.WideShapes Go.ChangeAt Go.RowKit
set_option linter.unusedVariables false
namespace WordR
def seen (c : Int) : Bool := decide (33 ≤ c ∧ c ≤ 126)
def upTo (s : ByteArray) (k : Nat) : Prop := ∀ i (h : i < s.size), i < k → seen (s[i].toNat : Int) = true
def upToDec (s : ByteArray) (k : Nat) : Decidable (upTo s k) := inferInstanceAs (Decidable (∀ i (h : i < s.size), i < k → seen (s[i].toNat : Int) = true))
/-- Are all bytes seen ones? -/
def printB (s : ByteArray) : Bool := @decide (upTo s s.size) (upToDec s s.size)
theorem print_no {s : ByteArray} {k : Nat} (h : k < s.size) (hb : seen (s[k].toNat : Int) = false) : printB s = false := by
  unfold printB; simp; intro hu; have := hu k h h; simp [hb] at this
theorem print_yes {s : ByteArray} (hu : upTo s s.size) : printB s = true := by unfold printB; simpa using hu
theorem upTo_zero (s : ByteArray) : upTo s 0 := fun _ _ h => absurd h (by omega)
theorem upTo_succ {s : ByteArray} {k : Nat} (hu : upTo s k) (h : k < s.size) (hb : seen (s[k].toNat : Int) = true) : upTo s (k + 1) := by
  intro i hi hk
  by_cases e : i = k
  · subst e; exact hb
  · exact hu i hi (by omega)
theorem hid_intro' {p : Prop} (h : p) : Hid p := h
theorem byte_lt (s : ByteArray) (k : Nat) (h : k < s.size) : (s[k].toNat : Int) < 256 := by
  have := s[k].toNat_lt; omega
end WordR
end Go.Proofs.YtgaihlhoegaliaaDoor
namespace Go.Proofs.YtgaihlhoegaliaaDoor
open Go.ChangeShapes Go.WideShapes Go.ChangeAt Go.RowKit
set_option linter.unusedVariables false
namespace EvtR
open WordR
theorem hid_intro {p : Prop} (h : p) : Hid p := h
def idB (s : ByteArray) : Bool := decide (1 ≤ s.size ∧ s.size ≤ 20) && printB s
theorem within_any (n low high : Int) (w : World) :
    Calls Tryd.prog 42 #[.int .i64 n, .int .i64 low, .int .i64 high] w fun e w' => e = .returned (.bool (decide (low ≤ n ∧ n ≤ high))) ∧ w' = w := by
  rcases (show (¬ low ≤ n) ∨ (low ≤ n ∧ ¬ n ≤ high) ∨ (low ≤ n ∧ n ≤ high) by omega) with h | ⟨h1, h2⟩ | ⟨h1, h2⟩
  all_goals
    go_enter Tryd.func42, Tryd.ntmps42
    go_wp2
    go_ret
    exact ⟨ret_bool (by first | (simp [*]; done) | (simp; omega)), rfl⟩
theorem is_any (n low high : Int) (w : World) :
    Calls Tryd.prog 20 #[.int .i64 n, .int .i64 low, .int .i64 high] w fun e w' => e = .returned (.bool (decide (low ≤ n ∧ n ≤ high))) ∧ w' = w := by
  rcases (show (¬ low ≤ n) ∨ (low ≤ n ∧ ¬ n ≤ high) ∨ (low ≤ n ∧ n ≤ high) by omega) with h | ⟨h1, h2⟩ | ⟨h1, h2⟩
  all_goals
    go_enter Tryd.func20, Tryd.ntmps20
    go_wp2
    go_ret
    exact ⟨ret_bool (by first | (simp [*]; done) | (simp; omega)), rfl⟩
theorem empty_of (i : ByteArray) (h : i.size = 0) : i.toList = [] := by
  rw [ByteArray.toList_eq]
  exact List.eq_nil_of_length_eq_zero h
theorem full_of (i : ByteArray) (h : i.size ≠ 0) : i.toList ≠ [] ∧ i.toList.isEmpty = false := by
  have a : i.toList ≠ [] := by
    rw [ByteArray.toList_eq]
    intro e
    exact h (show i.data.toList.length = 0 by rw [e]; rfl)
  exact ⟨a, by cases hl : i.toList with
    | nil => exact absurd hl a
    | cons x l => rfl⟩
end EvtR
end Go.Proofs.YtgaihlhoegaliaaDoor
namespace Go.Proofs.YtgaihlhoegaliaaDoor
open Go.ChangeShapes Go.WideShapes Go.ChangeAt Go.RowKit
set_option linter.unusedVariables false
namespace EvtR
open GetR NumsR
theorem rdrewN {B : Nat} {a w : World} (h : Below B a w) (n : Nat) : Below B a (w.drewN n) := ⟨h.os, h.tape, h.output, h.size, h.block⟩
theorem ended_any (g : Nat) (s : ByteArray) (o : Option Nat) (w : World) (hs : s.size ≤ 8000) (h : After g s o w) :
    Calls Tryd.prog 15 #[.pointer (some ⟨g, 0, none⟩)] w fun e w' => e = .returned (.bool (decide (o = some s.size))) ∧ Below w.heap.size w w' := by
  cases o with
  | none =>
    obtain ⟨p, c, hR⟩ := h
    unfold flt at hR
    obtain ⟨hl, c0, c1, c2, f0, f1, f2⟩ := hR
    go_enter Tryd.func15, Tryd.ntmps15
    go_wp2_with fail
    go_quiet (fail)
    go_wp2
    go_ret
    exact ⟨rfl, rdrewN (Below.refl _ _) _⟩
  | some p =>
    obtain ⟨hp, hl, c0, c1, c2, f0, f1, f2⟩ := h
    by_cases he : p = s.size
    · subst he
      go_enter Tryd.func15, Tryd.ntmps15
      go_wp2_with fail
      go_quiet (fail)
      go_wp2
      go_ret
      exact ⟨ret_bool (by simp), rdrewN (Below.refl _ _) _⟩
    · have he' : ¬ (p : Int) = (s.size : Int) := by omega
      go_enter Tryd.func15, Tryd.ntmps15
      go_wp2_with fail
      go_quiet (fail)
      go_wp2
      go_ret
      exact ⟨ret_bool (by simp [he]; exact he'), rdrewN (Below.refl _ _) _⟩
/-- A text read, with or without a fault ahead. -/
def rT (s : ByteArray) (o : Option Nat) : ByteArray := ((o.bind (txtAt s)).map (·.1)).getD ⟨#[]⟩
def pT (s : ByteArray) (o : Option Nat) : Option Nat := (o.bind (txtAt s)).map (·.2)
def rN (s : ByteArray) (o : Option Nat) : Int := ((o.bind (numAt s)).map (·.1)).getD 0
def pN (s : ByteArray) (o : Option Nat) : Option Nat := (o.bind (numAt s)).map (·.2)
theorem After.lt {g : Nat} {s : ByteArray} {o : Option Nat} {w : World} (h : After g s o w) : g < w.heap.size := by
  cases o with
  | none => obtain ⟨p, c, h⟩ := h; exact h.1
  | some p => exact h.2.1
theorem After.below {g : Nat} {s : ByteArray} {o : Option Nat} {w w' : World} (h : After g s o w) (hb : Below w.heap.size w w') : After g s o w' := by
  cases o with
  | none => obtain ⟨p, c, h⟩ := h; exact ⟨p, c, h.below hb⟩
  | some p => exact ⟨h.1, h.2.below hb⟩
theorem After.alloc {g : Nat} {s : ByteArray} {o : Option Nat} {w : World} (h : After g s o w) (x : Obj) : After g s o (w.alloc x) := h.below ((Below.refl _ _).alloc (Nat.le_refl _) x)
theorem gnew' {w wx : World} {g X o : Nat} {v : Value} (h : w.grownBy wx (some g)) (hX : w.heap.size ≤ X) : w.grownBy (wx.setCell ⟨X, o, none⟩ v) (some g) := by
  have hg := rset wx X o v
  refine ⟨hg.os.trans h.os, hg.tape.trans h.tape, hg.output.trans h.output, by have := h.size; have := hg.size; omega, fun k hk hne => ?_⟩
  have hs := h.size
  exact (hg.block k (by omega) (by intro e; cases e; omega)).trans (h.block k hk hne)
theorem After.other {g : Nat} {s : ByteArray} {o : Option Nat} {w : World} (h : After g s o w) {X : Nat} (hX : X ≠ g) (k : Nat) (v : Value) : After g s o (w.setCell ⟨X, k, none⟩ v) := by
  have key : ∀ p f, RdB g s p f w → RdB g s p f (w.setCell ⟨X, k, none⟩ v) := by
    intro p f hr
    obtain ⟨hl, c0, c1, c2, f0, f1, f2⟩ := hr
    have e := (rset w X k v).block g hl (by simp; exact fun h => hX h.symm)
    have c := fun j => World.cell?_of_block (a := ⟨g, j, none⟩) e
    have z := fun j => World.frozen?_of_block (a := ⟨g, j, none⟩) e
    exact ⟨by simpa using hl, (c 0).trans c0, (c 1).trans c1, (c 2).trans c2, (z 0).trans f0, (z 1).trans f1, (z 2).trans f2⟩
  cases o with
  | none => obtain ⟨p, c, h⟩ := h; exact ⟨p, c, key _ _ h⟩
  | some p => exact ⟨h.1, key _ _ h.2⟩
/-- What one call of a reader leaves. -/
abbrev Reads (f : Nat) (g : Nat) (s : ByteArray) (o o' : Option Nat) (v : Value) : Prop := ∀ w, After g s o w → Calls Tryd.prog f #[.pointer (some ⟨g, 0, none⟩)] w fun e w' => e = .returned v ∧ After g s o' w' ∧ w.grownBy w' (some g)
theorem rT_size (s : ByteArray) (o : Option Nat) : (rT s o).size ≤ 8000 := by
  unfold rT
  cases h : o.bind (txtAt s) with
  | none => exact Nat.zero_le _
  | some x =>
    obtain ⟨t, q⟩ := x
    obtain ⟨p, rfl, hp⟩ := Option.bind_eq_some_iff.1 h
    simpa using (txtAt_back hp).1
theorem After.rdb {g : Nat} {s : ByteArray} {o : Option Nat} {w : World} (h : After g s o w) : ∃ p f, RdB g s p f w := by
  cases o with
  | none => obtain ⟨p, c, h⟩ := h; exact ⟨p, _, h⟩
  | some p => exact ⟨p, _, h.2⟩
/-- How many, and the place or fault behind it. -/
def rC (s : ByteArray) (o : Option Nat) (m : Nat) : Nat := if 0 ≤ rN s o ∧ rN s o ≤ m then (rN s o).toNat else 0
def pC (s : ByteArray) (o : Option Nat) (m : Nat) : Option Nat := if 0 ≤ rN s o ∧ rN s o ≤ m then pN s o else none
theorem rC_le (s : ByteArray) (o : Option Nat) (m : Nat) : rC s o m ≤ m := by
  unfold rC
  split <;> omega
set_option maxHeartbeats 4000000 in
theorem rcount (g : Nat) (s : ByteArray) (o : Option Nat) (m : Nat) (w : World) (hs : s.size ≤ 8000) (h : After g s o w) :
    Calls Tryd.prog 25 #[.pointer (some ⟨g, 0, none⟩), .int .i64 m] w fun e w' => e = .returned (.int .i64 (rC s o m)) ∧ After g s (pC s o m) w' ∧ w.grownBy w' (some g) := by
  have H1 : Hid (∀ w1, After g s o w1 → Calls Tryd.prog 28 #[.pointer (some ⟨g, 0, none⟩)] w1 fun e w' => e = .returned (.int .i64 (rN s o)) ∧ After g s (pN s o) w' ∧ w1.grownBy w' (some g)) := hid_intro (fun w1 h => rnum _ s o w1 hs h)
  have HC : Hid (rC s o m = if 0 ≤ rN s o ∧ rN s o ≤ m then (rN s o).toNat else 0) := rfl
  have HP : Hid (pC s o m = if 0 ≤ rN s o ∧ rN s o ≤ m then pN s o else none) := rfl
  generalize rN s o = c at *
  generalize pN s o = o0 at *
  generalize rC s o m = C at *
  generalize pC s o m = o1 at *
  have HA := hid_intro h
  clear h
  go_enter Tryd.func25, Tryd.ntmps25
  go_wp2_with fail
  refine (H1.out _ HA.out).mono ?_
  rintro e w1 ⟨rfl, hA, hg⟩
  have HG := hid_intro hg
  have HWI := hid_intro (fun w => within_any c 0 m w)
  by_cases k : 0 ≤ c ∧ c ≤ m
  · rw [decide_eq_true k] at HWI
    have e1 : (C : Int) = c := by rw [HC.out, if_pos k]; omega
    have e2 : o1 = o0 := by rw [HP.out, if_pos k]
    clear HC HP hg
    subst e1
    subst e2
    go_wp2_with (go_at_call 42; refine (HWI.out _).mono ?_; rintro e w' ⟨rfl, rfl⟩)
    go_ret
    exact ⟨rfl, hA, HG.out⟩
  · rw [decide_eq_false k] at HWI
    have e1 : C = 0 := by rw [HC.out, if_neg k]
    have e2 : o1 = none := by rw [HP.out, if_neg k]
    obtain ⟨p, f, hR⟩ := hA.rdb
    have HR := hid_intro hR
    obtain ⟨hl, c0, c1, c2, f0, f1, f2⟩ := hR
    clear HC HP hg hA
    subst e1
    subst e2
    go_wp2_with (go_at_call 42; refine (HWI.out _).mono ?_; rintro e w' ⟨rfl, rfl⟩)
    go_ret
    refine ⟨rfl, ⟨p, 3, ?_⟩, ?_⟩
    · obtain ⟨hl, c0, c1, c2, f0, f1, f2⟩ := HR.out
      exact ⟨by simpa using hl, by simp [go_sem, c0], by simp [go_sem, c1], by simp [go_sem, c2, flt], by simp [go_sem, f0], by simp [go_sem, f1], by simp [go_sem, f2]⟩
    · refine gtrans HG.out ?_
      first | exact rset _ g 2 _ | exact gtrans (World.grownBy_alloc _ _ _) (rset _ g 2 _)
theorem SAfter.lt {g : Nat} {s : ByteArray} {o : Option Nat} {w : World} (h : SAfter g s o w) : g < w.heap.size := by
  cases o with
  | none => obtain ⟨p, hp, h⟩ := h; exact h.1
  | some p => exact h.2.1
theorem SAfter.grown {g : Nat} {s : ByteArray} {o : Option Nat} {w w' : World} {row : Option Nat} (h : SAfter g s o w) (hg : w.grownBy w' row) (hne : some g ≠ row) : SAfter g s o w' := by
  have key : ∀ p f, SRB g s p f w → SRB g s p f w' := by
    intro p f hr
    obtain ⟨hl, c0, c1, c2, f0, f1, f2⟩ := hr
    have e := hg.block g hl hne
    have c := fun j => World.cell?_of_block (a := ⟨g, j, none⟩) e
    have z := fun j => World.frozen?_of_block (a := ⟨g, j, none⟩) e
    exact ⟨by have := hg.size; omega, (c 0).trans c0, (c 1).trans c1, (c 2).trans c2, (z 0).trans f0, (z 1).trans f1, (z 2).trans f2⟩
  cases o with
  | none => obtain ⟨p, c, h⟩ := h; exact ⟨p, c, key _ _ h⟩
  | some p => exact ⟨h.1, key _ _ h.2⟩
theorem SAfter.open {g : Nat} {s : ByteArray} {o : Option Nat} {w : World} (h : SAfter g s o w) : ∃ p, SRB g s p (decide (o = none)) w := by
  cases o with
  | none => obtain ⟨p, hp, h⟩ := h; exact ⟨p, by simpa using h⟩
  | some p => exact ⟨p, by simpa using h.2⟩
theorem many_any (g : Nat) (s : ByteArray) (o0 : Option Nat) (M : Nat) (w : World) (hs : s.size ≤ 8000) (h : SAfter g s o0 w) :
    Calls Tryd.prog 9 #[.pointer (some ⟨g, 0, none⟩), .int .i64 M] w fun e w' => (if 0 ≤ rN s o0 ∧ rN s o0 ≤ (M : Int) then e = .returned (.int .i64 (rN s o0)) ∧ SAfter g s (pN s o0) w' else e = .returned (.int .i64 0) ∧ SAfter g s none w') ∧ w.grownBy w' (some g) := by
  have H1 : Hid (∀ w, SAfter g s o0 w → Calls Tryd.prog 12 #[.pointer (some ⟨g, 0, none⟩)] w fun e w' => e = .returned (.int .i64 (rN s o0)) ∧ SAfter g s (pN s o0) w' ∧ w.grownBy w' (some g)) := hid_intro (fun w h => srnum g s _ w hs h)
  have HI := hid_intro (fun w => is_any (rN s o0) 0 (M : Int) w)
  have HA := hid_intro h
  generalize rN s o0 = c at *
  generalize pN s o0 = o at *
  clear h
  by_cases hc : 0 ≤ c ∧ c ≤ (M : Int)
  · simp only [if_pos hc]
    rw [decide_eq_true hc] at HI
    go_enter Tryd.func9, Tryd.ntmps9
    go_wp2_with fail
    refine (H1.out _ HA.out).mono ?_
    rintro e w1 ⟨rfl, hA, hg⟩
    have HA1 := hid_intro hA
    have HG1 := hid_intro hg
    clear hA hg
    go_wp2_with (go_at_call 20; refine (HI.out _).mono ?_; rintro e w' ⟨rfl, rfl⟩)
    go_ret
    exact ⟨⟨rfl, HA1.out⟩, HG1.out⟩
  · simp only [if_neg hc]
    rw [decide_eq_false hc] at HI
    go_enter Tryd.func9, Tryd.ntmps9
    go_wp2_with fail
    refine (H1.out _ HA.out).mono ?_
    rintro e w1 ⟨rfl, hA, hg⟩
    have HG1 := hid_intro hg
    clear hg
    obtain ⟨p, b, hp, hR⟩ : ∃ p b, p ≤ 8000 ∧ SRB g s p b w1 := by
      cases o with
      | none => obtain ⟨p, hp, h⟩ := hA; exact ⟨p, _, hp, h⟩
      | some p => exact ⟨p, _, hA.1, hA.2⟩
    have HR := hid_intro hR
    obtain ⟨hl, c0, c1, c2, f0, f1, f2⟩ := hR
    clear hA
    go_wp2_with (go_at_call 20; refine (HI.out _).mono ?_; rintro e w' ⟨rfl, rfl⟩)
    go_ret
    exact ⟨⟨rfl, p, hp, HR.out.setBad⟩, gtrans HG1.out (rset _ g 2 _)⟩
end EvtR
end Go.Proofs.YtgaihlhoegaliaaDoor
namespace Go.Proofs.YtgaihlhoegaliaaDoor
open Go.ChangeShapes Go.WideShapes Go.ChangeAt Go.RowKit
set_option linter.unusedVariables false
namespace OwG
open RowG (MadeG Rws cellsAll)
open EvtR (Pt After SAfter gtrans)
open CatR (Blk Blk.new)
open DocR (BlkW)
theorem gnewG {w wx wy : World} {g X : Nat} (h : w.grownBy wx (some g)) (hg : wx.grownBy wy (some X)) (hX : w.heap.size ≤ X) : w.grownBy wy (some g) := by
  refine ⟨hg.os.trans h.os, hg.tape.trans h.tape, hg.output.trans h.output, Nat.le_trans h.size hg.size, fun k hk hne => ?_⟩
  have hs := h.size
  exact (hg.block k (by omega) (by intro e; cases e; omega)).trans (h.block k hk hne)
theorem gnewR {w wx wy : World} {g : Nat} {row : Option Nat} (h : w.grownBy wx (some g)) (hg : wx.grownBy wy row) (hX : ∀ X, row = some X → w.heap.size ≤ X) : w.grownBy wy (some g) := by
  refine ⟨hg.os.trans h.os, hg.tape.trans h.tape, hg.output.trans h.output, Nat.le_trans h.size hg.size, fun k hk hne => ?_⟩
  have hs := h.size
  exact (hg.block k (by omega) (by intro e; have := hX k e.symm; omega)).trans (h.block k hk hne)
theorem galloc {w wx : World} {g : Nat} (h : w.grownBy wx (some g)) (o : Obj) : w.grownBy (wx.alloc o) (some g) := gtrans h (World.grownBy_alloc wx o _)
theorem after_grown {g : Nat} {s : ByteArray} {o : Option Nat} {w w' : World} {row : Option Nat} (h : After g s o w) (hg : w.grownBy w' row) (hne : some g ≠ row) : After g s o w' := by
  have key : ∀ p f, EvtR.RdB g s p f w → EvtR.RdB g s p f w' := by
    intro p f hr
    obtain ⟨hl, c0, c1, c2, f0, f1, f2⟩ := hr
    have e := hg.block g hl hne
    have c := fun j => World.cell?_of_block (a := ⟨g, j, none⟩) e
    have z := fun j => World.frozen?_of_block (a := ⟨g, j, none⟩) e
    exact ⟨by have := hg.size; omega, (c 0).trans c0, (c 1).trans c1, (c 2).trans c2, (z 0).trans f0, (z 1).trans f1, (z 2).trans f2⟩
  cases o with
  | none => obtain ⟨p, c, h⟩ := h; exact ⟨p, c, key _ _ h⟩
  | some p => exact ⟨h.1, key _ _ h.2⟩
theorem satt {g : Nat} {s : ByteArray} {o : Option Nat} {w w' : World} (h : SAfter g s o w) (hb : Below w.heap.size w w') : SAfter g s o w' := h.grown (EvtR.rgrown hb none) (by simp)
theorem blkW_grown {b : Nat} {cs : List Value} {w w' : World} {row : Option Nat} (h : BlkW b cs w) (hg : w.grownBy w' row) (hne : some b ≠ row) : BlkW b cs w' := by
  have e := hg.block b h.1.1 hne
  exact ⟨⟨Nat.lt_of_lt_of_le h.1.1 hg.size, fun i hi => (World.cell?_of_block (a := ⟨b, i, none⟩) e).trans (h.1.2 i hi)⟩, fun i hi => (World.frozen?_of_block (a := ⟨b, i, none⟩) e).trans (h.2 i hi)⟩
theorem blkW_pt {b n : Nat} {cs : List Value} {w : World} (h : BlkW b cs w) (hn : cs.length = n) : Pt b n w := by
  subst hn
  exact ⟨h.1.1, fun o ho => ⟨cs[o], by rw [h.1.2 o ho]; simp [ho]⟩, h.2⟩
theorem stL_blkW {b : Nat} {cs vs : List Value} {w : World} (h : BlkW b cs w) (hn : cs.length = vs.length) : BlkW b vs (StR.stL w b 0 vs) := by
  have hp := blkW_pt h hn
  exact ⟨StR.stL_blk hp (Nat.le_refl _), fun i hi => (StR.stL_pt vs 0 w hp).free i hi⟩
theorem pt_row {p n : Nat} {W W' : World} {row : Option Nat} (h : Pt p n W) (hg : W.grownBy W' row) (hne : some p ≠ row) : Pt p n W' := by
  have e := hg.block p h.lt hne
  exact ⟨by have := hg.size; have := h.lt; omega, fun o ho => by obtain ⟨v, hv⟩ := h.has o ho; exact ⟨v, (World.cell?_of_block (a := ⟨p, o, none⟩) e).trans hv⟩, fun o ho => (World.frozen?_of_block (a := ⟨p, o, none⟩) e).trans (h.free o ho)⟩
theorem own_keepG {w w' : World} {base e size n : Nat} {v : Value} {xs : List Value} {g : Nat} (h : w.ownsRow base e size v n xs) (hg : w.grownBy w' (some g)) (hlt : g < base) : w'.ownsRow base e size v n xs := by
  refine h.kept hg ?_
  rcases hob : v.ownBlock with _ | b
  · exact .inl rfl
  · refine .inr (fun e => ?_)
    have := (h.lt b hob).1
    simp only [Option.some.injEq] at e
    omega
theorem own_apart {w : World} {base e size n base' e' size' n' : Nat} {v v' : Value} {xs xs' : List Value} (h : w.ownsRow base e size v n xs) (h' : w.ownsRow base' e' size' v' n' xs') (hT : e' ≠ e) : ∀ b, v.ownBlock = some b → some b ≠ v'.ownBlock := by
  intro b hb q
  rcases h.2 with ⟨h0, _⟩ | ⟨g, cap, cur, hv, _, hh, _⟩
  · rw [h0] at hb; simp [Value.ownBlock] at hb
  · rw [hv] at hb
    simp only [Value.ownBlock, Option.some.injEq] at hb
    rcases h'.2 with ⟨h0, _⟩ | ⟨g2, cap2, cur2, hv2, _, hh2, _⟩
    · rw [h0] at q; simp [Value.ownBlock] at q
    · rw [hv2] at q
      simp only [Value.ownBlock, Option.some.injEq] at q
      subst hb
      subst q
      rw [hh2] at hh
      simp at hh
      exact hT hh.2
theorem own_keepO {w w' : World} {base e size n : Nat} {v : Value} {xs : List Value} {row : Option Nat} (h : w.ownsRow base e size v n xs) (hg : w.grownBy w' row) (hne : ∀ b, v.ownBlock = some b → some b ≠ row) : w'.ownsRow base e size v n xs := by
  refine h.kept hg ?_
  rcases hob : v.ownBlock with _ | b
  · exact .inl rfl
  · exact .inr (hne b hob)
theorem own_low {w : World} {base base' e size n : Nat} {v : Value} {xs : List Value} (h : w.ownsRow base e size v n xs) (hb : base' ≤ base) : w.ownsRow base' e size v n xs := by
  refine ⟨h.1, ?_⟩
  rcases h.2 with hn | ⟨g, cap, cur, rfl, h1, rest⟩
  · exact .inl hn
  · exact .inr ⟨g, cap, cur, rfl, by omega, rest⟩
theorem own_form {w : World} {base e size n : Nat} {v : Value} {xs : List Value} (h : w.ownsRow base e size v (n + 1) xs) : ∃ b c, v = .slice (some ⟨b, 0, none⟩) (n + 1) c := by
  rcases h.2 with ⟨_, h0⟩ | ⟨g, cap, cur, hv, _⟩
  · omega
  · exact ⟨_, _, hv⟩
theorem cellsAll_snoc {α : Type} (cells : α → List Value) (l : List α) (x : α) : cellsAll cells (l ++ [x]) = cellsAll cells l ++ cells x := by simp [cellsAll]
theorem stay {P : Nat → Option Nat} (h : ∀ k, P k = none → P (k + 1) = none) {i : Nat} (hi : P i = none) : ∀ n, P (i + n) = none
  | 0 => hi
  | n + 1 => h _ (stay h hi n)
theorem s_nil {s : ByteArray} (h : s.size = 0) : s = ⟨#[]⟩ := by
  apply ByteArray.ext
  exact Array.eq_empty_of_size_eq_zero h
/-- The cells of a new block of cells. -/
theorem new_cells (w : World) (cs : List Value) (T : TypeId) : ∀ j u, cs[j]? = some u → (w.alloc (.cells cs.toArray T)).cell? ((⟨w.heap.size, 0, none⟩ : Addr).add j) = some u := by
  intro j u hj
  have hl := (List.getElem?_eq_some_iff.1 hj).1
  have := (Blk.new w cs T).2 j hl
  rw [hj] at this
  rw [← this]
  congr 1
  unfold Addr.add; split <;> simp_all
end OwG
end Go.Proofs.YtgaihlhoegaliaaDoor
namespace Go.Proofs.YtgaihlhoegaliaaDoor
open Go.ChangeShapes Go.WideShapes Go.ChangeAt Go.RowKit
set_option linter.unusedVariables false
namespace CatR
/-- A tier, a credit, a meter, a catalog. -/
structure Ti where
  u : Int
  p : Int
structure Cr where
  a : ByteArray
  m : Int
structure Me where
  n : ByteArray
  g : Int
  wh : Bool
  f : Int
  l : Int
  ts : List Ti
structure Ca where
  ms : List Me
  cs : List Cr
def Ti.zero : Ti := ⟨0, 0⟩
def Cr.zero : Cr := ⟨⟨#[]⟩, 0⟩
def Me.zero : Me := ⟨⟨#[]⟩, 0, false, 0, 0, []⟩
/-- The cells of a tier, of a credit stand at a place. -/
def TiAt (w : World) (b o : Nat) (t : Ti) : Prop := w.cell? ⟨b, o, none⟩ = some (.int .i64 t.u) ∧ w.cell? ⟨b, o + 1, none⟩ = some (.int .i64 t.p)
def CrAt (w : World) (b o : Nat) (t : Cr) : Prop := w.cell? ⟨b, o, none⟩ = some (.string t.a) ∧ w.cell? ⟨b, o + 1, none⟩ = some (.int .i64 t.m)
/-- The row holds these tiers, these credits; it lies in none of the shunned blocks. -/
def Tis (ao : Option Addr) (len : Nat) (ts : List Ti) (w : World) : Prop := ts.length = len ∧ (len = 0 ∨ ∃ b off, ao = some ⟨b, off, none⟩ ∧ b < w.heap.size ∧ ∀ j, j < len → TiAt w b (off + j * 2) (ts.getD j Ti.zero))
def Crs (ao : Option Addr) (len : Nat) (ts : List Cr) (w : World) : Prop := ts.length = len ∧ (len = 0 ∨ ∃ b off, ao = some ⟨b, off, none⟩ ∧ b < w.heap.size ∧ ∀ j, j < len → CrAt w b (off + j * 2) (ts.getD j Cr.zero))
/-- A meter's cells at a place, its tiers elsewhere. -/
def MeAt (w : World) (b o : Nat) (m : Me) : Prop := ∃ ta tc, w.cell? ⟨b, o, none⟩ = some (.string m.n) ∧ w.cell? ⟨b, o + 1, none⟩ = some (.int .i64 m.g) ∧ w.cell? ⟨b, o + 2, none⟩ = some (.bool m.wh) ∧ w.cell? ⟨b, o + 3, none⟩ = some (.int .i64 m.f) ∧ w.cell? ⟨b, o + 4, none⟩ = some (.int .i64 m.l) ∧ w.cell? ⟨b, o + 5, none⟩ = some (.slice ta m.ts.length tc) ∧ Tis ta m.ts.length m.ts w
def Mes (ao : Option Addr) (len : Nat) (ms : List Me) (w : World) : Prop := ms.length = len ∧ (len = 0 ∨ ∃ b off, ao = some ⟨b, off, none⟩ ∧ b < w.heap.size ∧ ∀ j, j < len → MeAt w b (off + j * 6) (ms.getD j Me.zero))
/-- A meter's value, a catalog's. -/
def IsMe (v : Value) (m : Me) (w : World) : Prop := ∃ ta tc, v = .agg #[.string m.n, .int .i64 m.g, .bool m.wh, .int .i64 m.f, .int .i64 m.l, .slice ta m.ts.length tc] ∧ Tis ta m.ts.length m.ts w
def IsCa (v : Value) (c : Ca) (w : World) : Prop := ∃ ma mc ca cc, v = .agg #[.slice ma c.ms.length mc, .slice ca c.cs.length cc] ∧ Mes ma c.ms.length c.ms w ∧ Crs ca c.cs.length c.cs w
theorem TiAt.below {w w' : World} {b o : Nat} {e : Ti} (h : TiAt w b o e) (hl : b < w.heap.size) (hb : Below w.heap.size w w') : TiAt w' b o e :=
  ⟨(hb.cell (p := ⟨b, o, none⟩) hl).trans h.1, (hb.cell (p := ⟨b, o + 1, none⟩) hl).trans h.2⟩
theorem CrAt.below {w w' : World} {b o : Nat} {e : Cr} (h : CrAt w b o e) (hl : b < w.heap.size) (hb : Below w.heap.size w w') : CrAt w' b o e :=
  ⟨(hb.cell (p := ⟨b, o, none⟩) hl).trans h.1, (hb.cell (p := ⟨b, o + 1, none⟩) hl).trans h.2⟩
theorem Tis.below {ao : Option Addr} {len : Nat} {es : List Ti} {w w' : World} (h : Tis ao len es w) (hb : Below w.heap.size w w') : Tis ao len es w' := by
  refine ⟨h.1, ?_⟩
  rcases h.2 with h0 | ⟨b, off, rfl, hlt, hc⟩
  · exact .inl h0
  · exact .inr ⟨b, off, rfl, by have := hb.size; omega, fun j hj => (hc j hj).below hlt hb⟩
theorem Crs.below {ao : Option Addr} {len : Nat} {es : List Cr} {w w' : World} (h : Crs ao len es w) (hb : Below w.heap.size w w') : Crs ao len es w' := by
  refine ⟨h.1, ?_⟩
  rcases h.2 with h0 | ⟨b, off, rfl, hlt, hc⟩
  · exact .inl h0
  · exact .inr ⟨b, off, rfl, by have := hb.size; omega, fun j hj => (hc j hj).below hlt hb⟩
theorem MeAt.below {w w' : World} {b o : Nat} {e : Me} (h : MeAt w b o e) (hl : b < w.heap.size) (hb : Below w.heap.size w w') : MeAt w' b o e := by
  obtain ⟨ta, tc, h0, h1, h2, h3, h4, h5, h6⟩ := h
  have f := fun k => hb.cell (p := ⟨b, k, none⟩) hl
  exact ⟨ta, tc, (f _).trans h0, (f _).trans h1, (f _).trans h2, (f _).trans h3, (f _).trans h4, (f _).trans h5, h6.below hb⟩
theorem Mes.below {ao : Option Addr} {len : Nat} {es : List Me} {w w' : World} (h : Mes ao len es w) (hb : Below w.heap.size w w') : Mes ao len es w' := by
  refine ⟨h.1, ?_⟩
  rcases h.2 with h0 | ⟨b, off, rfl, hlt, hc⟩
  · exact .inl h0
  · exact .inr ⟨b, off, rfl, by have := hb.size; omega, fun j hj => (hc j hj).below hlt hb⟩
theorem IsMe.below {v : Value} {m : Me} {w w' : World} (h : IsMe v m w) (hb : Below w.heap.size w w') : IsMe v m w' := by
  obtain ⟨ta, tc, hv, ht⟩ := h
  exact ⟨ta, tc, hv, ht.below hb⟩
theorem IsCa.below {v : Value} {m : Ca} {w w' : World} (h : IsCa v m w) (hb : Below w.heap.size w w') : IsCa v m w' := by
  obtain ⟨ma, mc, ca, cc, hv, h1, h2⟩ := h
  exact ⟨ma, mc, ca, cc, hv, h1.below hb, h2.below hb⟩
theorem tis_at {ao : Option Addr} {len : Nat} {es : List Ti} {w : World} (h : Tis ao len es w) (k : Nat) (hk : k < len) : ∃ b off, ao = some ⟨b, off, none⟩ ∧ b < w.heap.size ∧ TiAt w b (off + k * 2) (es.getD k Ti.zero) := by
  rcases h.2 with h0 | ⟨b, off, rfl, hlt, hc⟩
  · omega
  · exact ⟨b, off, rfl, hlt, hc k hk⟩
theorem crs_at {ao : Option Addr} {len : Nat} {es : List Cr} {w : World} (h : Crs ao len es w) (k : Nat) (hk : k < len) : ∃ b off, ao = some ⟨b, off, none⟩ ∧ b < w.heap.size ∧ CrAt w b (off + k * 2) (es.getD k Cr.zero) := by
  rcases h.2 with h0 | ⟨b, off, rfl, hlt, hc⟩
  · omega
  · exact ⟨b, off, rfl, hlt, hc k hk⟩
theorem mes_at {ao : Option Addr} {len : Nat} {es : List Me} {w : World} (h : Mes ao len es w) (k : Nat) (hk : k < len) : ∃ b off, ao = some ⟨b, off, none⟩ ∧ b < w.heap.size ∧ MeAt w b (off + k * 6) (es.getD k Me.zero) := by
  rcases h.2 with h0 | ⟨b, off, rfl, hlt, hc⟩
  · omega
  · exact ⟨b, off, rfl, hlt, hc k hk⟩
theorem getD_memG {α : Type} (es : List α) (d : α) (k : Nat) (h : k < es.length) : es.getD k d ∈ es := by
  have : es.getD k d = es[k] := by simp [List.getD, h]
  rw [this]; exact List.getElem_mem h
theorem Tis.nil (ao : Option Addr) (w : World) : Tis ao 0 [] w := ⟨rfl, .inl rfl⟩
end CatR
end Go.Proofs.YtgaihlhoegaliaaDoor
namespace Go.Proofs.YtgaihlhoegaliaaDoor
open Go.ChangeShapes Go.WideShapes Go.ChangeAt Go.RowKit
set_option linter.unusedVariables false
namespace CatR
open OwG
open RowG (MadeG Rws cellsAll hid_intro)
open EvtR (Pt After SAfter Reads gtrans)
open DocR (BlkW)
def Ti.cells (t : Ti) : List Value := [.int .i64 t.u, .int .i64 t.p]
theorem Ti.len (t : Ti) : t.cells.length = 2 := rfl
def Cr.cells (t : Cr) : List Value := [.string t.a, .int .i64 t.m]
theorem Cr.len (t : Cr) : t.cells.length = 2 := rfl
/-- A meter with the place of its tiers. -/
structure MA where
  m : Me
  ta : Option Addr
  tc : Nat
def MA.v (x : MA) : Value := .slice x.ta x.m.ts.length x.tc
def MA.cells (x : MA) : List Value := [.string x.m.n, .int .i64 x.m.g, .bool x.m.wh, .int .i64 x.m.f, .int .i64 x.m.l, x.v]
theorem MA.len (x : MA) : x.cells.length = 6 := rfl
def MA.zero : MA := ⟨Me.zero, none, 0⟩
/-- Its tiers are its own. -/
def TnO (base : Nat) (x : MA) (W : World) : Prop := W.ownsRow base 57 2 x.v x.m.ts.length (cellsAll Ti.cells x.m.ts)
def AptM (x y : MA) : Prop := ∀ b, x.v.ownBlock = some b → y.v.ownBlock ≠ some b
/-- A list of meters of one's own, the tiers' blocks below a limit. -/
def MsL (base lim : Nat) (v : Value) (ms : List Me) (W : World) : Prop := ∃ xs : List MA, xs.map MA.m = ms ∧ W.ownsRow base 38 6 v ms.length (cellsAll MA.cells xs) ∧ (∀ x ∈ xs, TnO base x W) ∧ xs.Pairwise AptM ∧ ∀ x ∈ xs, ∀ b, x.v.ownBlock = some b → b < lim
def MsO (base : Nat) (v : Value) (ms : List Me) (W : World) : Prop := ∃ lim, MsL base lim v ms W
theorem MsO.lim {base : Nat} {v : Value} {ms : List Me} {W : World} (h : MsO base v ms W) : MsL base W.heap.size v ms W := by
  obtain ⟨lim, xs, h1, h2, h3, h4, _⟩ := h
  exact ⟨xs, h1, h2, h3, h4, fun x hx b hb => ((h3 x hx).lt b hb).2⟩
theorem mso_nil (base : Nat) (W : World) : MsO base (.slice none 0 0) [] W := ⟨0, [], rfl, World.ownsRow_nil _ _ _ _, (fun x h => absurd h (by simp)), List.Pairwise.nil, fun x h => absurd h (by simp)⟩
theorem MsL.far {base lim g : Nat} {v : Value} {ms : List Me} {W W' : World} (h : MsL base lim v ms W) (hg : W.grownBy W' (some g)) (hlt : g < base) : MsL base lim v ms W' := by
  obtain ⟨xs, h1, h2, h3, h4, h5⟩ := h
  exact ⟨xs, h1, own_keepG h2 hg hlt, fun x hx => own_keepG (h3 x hx) hg hlt, h4, h5⟩
theorem MsL.below {base lim : Nat} {v : Value} {ms : List Me} {W W' : World} (h : MsL base lim v ms W) (hb : Below W.heap.size W W') : MsL base lim v ms W' := by
  obtain ⟨xs, h1, h2, h3, h4, h5⟩ := h
  exact ⟨xs, h1, RowG.own_below h2 hb, fun x hx => RowG.own_below (h3 x hx) hb, h4, h5⟩
theorem MsO.far {base g : Nat} {v : Value} {ms : List Me} {W W' : World} (h : MsO base v ms W) (hg : W.grownBy W' (some g)) (hlt : g < base) : MsO base v ms W' := h.imp fun _ h => h.far hg hlt
theorem MsO.below {base : Nat} {v : Value} {ms : List Me} {W W' : World} (h : MsO base v ms W) (hb : Below W.heap.size W W') : MsO base v ms W' := h.imp fun _ h => h.below hb
theorem MsO.low {base base' : Nat} {v : Value} {ms : List Me} {W : World} (h : MsO base v ms W) (hb : base' ≤ base) : MsO base' v ms W := by
  obtain ⟨lim, xs, h1, h2, h3, h4, h5⟩ := h
  exact ⟨lim, xs, h1, own_low h2 hb, fun x hx => own_low (h3 x hx) hb, h4, h5⟩
/-- Another list's append leaves it. -/
theorem MsO.other {base base' e size n : Nat} {v v' : Value} {ms : List Me} {xs' : List Value} {W W' : World} (h : MsO base v ms W) (ho : W.ownsRow base' e size v' n xs') (hg : W.grownBy W' v'.ownBlock) (h1 : e ≠ 38) (h2 : e ≠ 57) : MsO base v ms W' := by
  obtain ⟨lim, xs, q1, q2, q3, q4, q5⟩ := h
  exact ⟨lim, xs, q1, own_keepO q2 hg (own_apart q2 ho h1), fun x hx => own_keepO (q3 x hx) hg (own_apart (q3 x hx) ho h2), q4, q5⟩
theorem mso_snoc {base lim : Nat} {v v' : Value} {xs : List MA} {ms : List Me} {m : Me} {ta : Option Addr} {tc : Nat} {W W9 : World} (hms : xs.map MA.m = ms) (hLn : ∀ x ∈ xs, TnO base x W) (hPw : xs.Pairwise AptM) (hlim : ∀ x ∈ xs, ∀ b, x.v.ownBlock = some b → b < lim) (hbl : base ≤ lim)
    (hnew : W.ownsRow lim 57 2 (.slice ta m.ts.length tc) m.ts.length (cellsAll Ti.cells m.ts)) (hO : W.ownsRow base 38 6 v ms.length (cellsAll MA.cells xs)) (hgrow : W.grownBy W9 v.ownBlock)
    (hown : W9.ownsRow base 38 6 v' (ms.length + 1) (cellsAll MA.cells xs ++ [.string m.n, .int .i64 m.g, .bool m.wh, .int .i64 m.f, .int .i64 m.l, .slice ta m.ts.length tc])) : MsO base v' (ms ++ [m]) W9 := by
  have hk : ∀ x : MA, TnO base x W → TnO base x W9 := fun x hx => own_keepO hx hgrow (own_apart hx hO (by decide))
  have hn : TnO base ⟨m, ta, tc⟩ W9 := hk ⟨m, ta, tc⟩ (own_low hnew hbl)
  refine ⟨W9.heap.size, xs ++ [⟨m, ta, tc⟩], by rw [List.map_append, hms]; rfl, ?_, ?_, ?_, ?_⟩
  · rw [cellsAll_snoc, List.length_append]
    exact hown
  · intro x hx
    rcases List.mem_append.1 hx with h | h
    · exact hk x (hLn x h)
    · rw [List.mem_singleton] at h
      subst h
      exact hn
  · refine List.pairwise_append.2 ⟨hPw, List.pairwise_singleton _ _, fun x hx y hy => ?_⟩
    rw [List.mem_singleton] at hy
    subst hy
    intro b h1 h2
    have p1 := hlim x hx b h1
    have p2 := hnew.lt b h2
    omega
  · intro x hx b hb
    rcases List.mem_append.1 hx with h | h
    · exact ((hk x (hLn x h)).lt b hb).2
    · rw [List.mem_singleton] at h
      subst h
      exact (hn.lt b hb).2
theorem own_tis {w : World} {base n c : Nat} {ao : Option Addr} {ts : List Ti} (h : w.ownsRow base 57 2 (.slice ao n c) n (cellsAll Ti.cells ts)) (hn : n = ts.length) : Tis ao n ts w := by
  subst hn
  obtain ⟨ao', cap, e, hm⟩ := RowG.own_made (z := Ti.zero) Ti.len h
  cases e
  refine ⟨rfl, ?_⟩
  rcases hm.rws with h0 | ⟨b, off, rfl, hl, hc⟩
  · exact .inl h0
  · exact .inr ⟨b, off, rfl, hl, fun i hi => ⟨hc i hi 0 (by omega), hc i hi 1 (by omega)⟩⟩
theorem own_crs {w : World} {base n c : Nat} {ao : Option Addr} {ts : List Cr} (h : w.ownsRow base 42 2 (.slice ao n c) n (cellsAll Cr.cells ts)) (hn : n = ts.length) : Crs ao n ts w := by
  subst hn
  obtain ⟨ao', cap, e, hm⟩ := RowG.own_made (z := Cr.zero) Cr.len h
  cases e
  refine ⟨rfl, ?_⟩
  rcases hm.rws with h0 | ⟨b, off, rfl, hl, hc⟩
  · exact .inl h0
  · exact .inr ⟨b, off, rfl, hl, fun i hi => ⟨hc i hi 0 (by omega), hc i hi 1 (by omega)⟩⟩
theorem MsO.mes {base : Nat} {v : Value} {ms : List Me} {W : World} (h : MsO base v ms W) : ∃ ao cap, v = .slice ao ms.length cap ∧ Mes ao ms.length ms W := by
  obtain ⟨lim, xs, h1, h2, h3, _⟩ := h
  have hl : ms.length = xs.length := by rw [← h1]; simp
  rw [hl] at h2
  obtain ⟨ao, cap, rfl, hm⟩ := RowG.own_made (z := MA.zero) MA.len h2
  refine ⟨ao, cap, by rw [hl], rfl, ?_⟩
  rcases hm.rws with h0 | ⟨b, off, rfl, hb, hc⟩
  · exact .inl (by omega)
  · refine .inr ⟨b, off, rfl, hb, fun i hi => ?_⟩
    have hx : i < xs.length := by omega
    have e : ms.getD i Me.zero = (xs.getD i MA.zero).m := by
      rw [← h1]
      simp [List.getD, hx]
    have hmem := RowG.getD_mem (z := MA.zero) xs i hx
    have c := hc i hx
    rw [e]
    generalize xs.getD i MA.zero = X at *
    exact ⟨X.ta, X.tc, c 0 (by omega), c 1 (by omega), c 2 (by omega), c 3 (by omega), c 4 (by omega), c 5 (by omega), own_tis (h3 X hmem) rfl⟩
theorem me_one (m : Me) (ta : Option Addr) (tc : Nat) : ∀ u ∈ ([.string m.n, .int .i64 m.g, .bool m.wh, .int .i64 m.f, .int .i64 m.l, .slice ta m.ts.length tc] : List Value), u.oneCell' = true := by
  intro u hu
  simp at hu
  rcases hu with rfl | rfl | rfl | rfl | rfl | rfl <;> rfl
theorem ti_one (x y : Int) : ∀ u ∈ [Value.int .i64 x, Value.int .i64 y], u.oneCell' = true := by
  intro u hu
  simp at hu
  rcases hu with rfl | rfl <;> rfl
theorem cr_one (x : ByteArray) (y : Int) : ∀ u ∈ [Value.string x, Value.int .i64 y], u.oneCell' = true := by
  intro u hu
  simp at hu
  rcases hu with rfl | rfl <;> rfl
theorem infoTi : (Tryd.prog.info? 57).map (fun i => (i.zero, i.size, i.bytes)) = some (some (.agg #[.int .i64 0, .int .i64 0]), 2, 16) := by kernel_rfl
theorem infoCr : (Tryd.prog.info? 42).map (fun i => (i.zero, i.size, i.bytes)) = some (some (.agg #[.string ⟨#[]⟩, .int .i64 0]), 2, 24) := by kernel_rfl
theorem infoMe : (Tryd.prog.info? 38).map (fun i => (i.zero, i.size, i.bytes)) = some (some (.agg #[.string ⟨#[]⟩, .int .i64 0, .bool false, .int .i64 0, .int .i64 0, .slice none 0 0]), 6, 72) := by kernel_rfl
end CatR
end Go.Proofs.YtgaihlhoegaliaaDoor
namespace Go.Proofs.YtgaihlhoegaliaaDoor
open Go.ChangeShapes Go.WideShapes Go.ChangeAt Go.RowKit
set_option linter.unusedVariables false
namespace ChG
open EvtR (Pt)
/-- Only blocks of S have changed. -/
structure Chg (S : Nat → Prop) (w w' : World) : Prop where
  os : w'.os = w.os
  tape : w'.tape = w.tape
  output : w'.output = w.output
  size : w.heap.size ≤ w'.heap.size
  block : ∀ b, b < w.heap.size → ¬ S b → w'.heap[b]? = w.heap[b]?
theorem Chg.refl (S : Nat → Prop) (w : World) : Chg S w w := ⟨rfl, rfl, rfl, Nat.le_refl _, fun _ _ _ => rfl⟩
theorem Chg.below {S : Nat → Prop} {w w1 w2 : World} (h : Chg S w w1) (hb : Below w1.heap.size w1 w2) : Chg S w w2 :=
  ⟨hb.os.trans h.os, hb.tape.trans h.tape, hb.output.trans h.output, Nat.le_trans h.size hb.size, fun b h1 h2 => (hb.block b (by have := h.size; omega)).trans (h.block b h1 h2)⟩
theorem Chg.grown {S : Nat → Prop} {x : Nat} {w w1 w2 : World} (h : Chg S w w1) (hg : w1.grownBy w2 (some x)) (hx : S x) : Chg S w w2 :=
  ⟨hg.os.trans h.os, hg.tape.trans h.tape, hg.output.trans h.output, Nat.le_trans h.size hg.size, fun b h1 h2 => (hg.block b (by have := h.size; omega) (by intro e; simp only [Option.some.injEq] at e; subst e; exact h2 hx)).trans (h.block b h1 h2)⟩
theorem Chg.trans {S : Nat → Prop} {w w1 w2 : World} (h : Chg S w w1) (h2 : Chg S w1 w2) : Chg S w w2 :=
  ⟨h2.os.trans h.os, h2.tape.trans h.tape, h2.output.trans h.output, Nat.le_trans h.size h2.size, fun b h1 hs => (h2.block b (by have := h.size; omega) hs).trans (h.block b h1 hs)⟩
theorem Chg.wide {S S' : Nat → Prop} {w w' : World} (h : Chg S w w') (hs : ∀ b, S b → S' b) : Chg S' w w' :=
  ⟨h.os, h.tape, h.output, h.size, fun b h1 h2 => h.block b h1 (fun q => h2 (hs b q))⟩
theorem Chg.of_below {S : Nat → Prop} {w w' : World} (hb : Below w.heap.size w w') : Chg S w w' := (Chg.refl S w).below hb
/-- Nothing below the blocks of S has changed. -/
theorem Chg.out {S : Nat → Prop} {B : Nat} {a w w' : World} (h : Chg S w w') (hb : Below B a w) (hB : ∀ b, S b → B ≤ b) (ha : B ≤ a.heap.size) : Below B a w' :=
  ⟨h.os.trans hb.os, h.tape.trans hb.tape, h.output.trans hb.output, Nat.le_trans hb.size h.size, fun k hk => (h.block k (by have := hb.size; omega) (fun q => by have := hB k q; omega)).trans (hb.block k hk)⟩
theorem pt_block {p n : Nat} {W W' : World} (h : Pt p n W) (hs : W.heap.size ≤ W'.heap.size) (e : W'.heap[p]? = W.heap[p]?) : Pt p n W' :=
  ⟨by have := h.lt; omega, fun o ho => by obtain ⟨v, hv⟩ := h.has o ho; exact ⟨v, (World.cell?_of_block (a := ⟨p, o, none⟩) e).trans hv⟩, fun o ho => (World.frozen?_of_block (a := ⟨p, o, none⟩) e).trans (h.free o ho)⟩
theorem Chg.pt {S : Nat → Prop} {p n : Nat} {W W' : World} (h : Chg S W W') (hp : Pt p n W) (hn : ¬ S p) : Pt p n W' := pt_block hp h.size (h.block p hp.lt hn)
end ChG
end Go.Proofs.YtgaihlhoegaliaaDoor
namespace Go.Proofs.YtgaihlhoegaliaaDoor
open Go.ChangeShapes Go.WideShapes Go.ChangeAt Go.RowKit
set_option linter.unusedVariables false
namespace MarkR
theorem hid_intro {p : Prop} (h : p) : Hid p := h
theorem conv_m (w : World) (z : Int) : (convert 94 9 (.slice (some ⟨w.heap.size, 0, none⟩) 1 1)).run Tryd.prog (w.alloc (Obj.cells #[.int .u8 z] 5)) = .ok (.string (strOfNums [z])) (w.alloc (Obj.cells #[.int .u8 z] 5)) := by
  refine run_convert_bytes_arg _ 94 5 Tryd.underlying94 Tryd.underlying5 w.heap.size 0 1 1 _ rfl ?_ 9 Tryd.underlying9
  intro i hi
  match i, hi with
  | 0, _ => simp [go_sem]
/-- The digits put ahead of a text. -/
def mk : Nat → Nat → ByteArray → ByteArray
  | 0, _, out => out
  | f + 1, k, out => if k = 0 then out else mk f (k / 10) (strOfNums [48 + ((k % 10 : Nat) : Int)] ++ out)
def mT (k : Nat) : ByteArray := (⟨#[109]⟩ : ByteArray) ++ mk 9 k ⟨#[]⟩
set_option maxRecDepth 100000 in
set_option maxHeartbeats 4000000 in
theorem mark_any (K : Nat) (h0 : 1 ≤ K) (h : K < 100000000) (w : World) : Calls Tryd.prog 52 #[.int .i64 K] w fun e w' => e = .returned (.string (mT K)) ∧ Below w.heap.size w w' := by
  have h1 : ¬ (K : Int) ≤ 0 := by omega
  have HT : Hid (mT K = (⟨#[109]⟩ : ByteArray) ++ mk 9 K ⟨#[]⟩) := rfl
  generalize mT K = R at *
  go_enter Tryd.func52, Tryd.ntmps52
  go_wp2_with fail
  go_loopw [0, 3] (fun x z wr => ∃ (f k : Nat) (out : ByteArray), x = .int .i64 (k : Int) ∧ z = .string out ∧ k < 10 ^ f ∧ f ≤ 9 ∧ Hid (mk 9 K ⟨#[]⟩ = mk f k out) ∧ out.size + f = 9 ∧ Hid (Below w.heap.size w wr)) (fun x _ _ => (intOf x).toNat)
  case atStart => exact ⟨9, K, ⟨#[]⟩, rfl, rfl, by omega, by omega, rfl, rfl, hid_intro (Below.refl _ _)⟩
  case round =>
    obtain ⟨f, k, out, rfl, rfl, hk, hf, HD, hz, HB⟩ := hrel
    by_cases hk0 : k = 0
    · subst hk0
      have HO : Hid (R = (⟨#[109]⟩ : ByteArray) ++ out) := hid_intro (by rw [HT.out, HD.out]; cases f <;> simp [mk])
      have q1 : ¬ 9223372036854775807 < 1 + out.size := by omega
      go_wp2_with fail
      go_ret
      exact ⟨ret_str HO.out.symm, HB.out⟩
    · obtain ⟨g, rfl⟩ : ∃ g, f = g + 1 := ⟨f - 1, by rcases f with _ | f; simp at hk; omega; omega⟩
      have hk2 : k / 10 < 10 ^ g := by rw [Nat.pow_succ] at hk; omega
      have HD2 : Hid (mk 9 K ⟨#[]⟩ = mk g (k / 10) (strOfNums [48 + ((k % 10 : Nat) : Int)] ++ out)) := hid_intro (by rw [HD.out, mk, if_neg hk0])
      have hkb : k < 1000000000 := by
        have : 10 ^ (g + 1) ≤ 10 ^ 9 := Nat.pow_le_pow_right (by omega) hf
        omega
      have k1 : (0 : Int) < (k : Int) := by omega
      have e1 : (k : Int) % 10 = ((k % 10 : Nat) : Int) := by omega
      have e2 : (k : Int) / 10 = ((k / 10 : Nat) : Int) := by omega
      have e3 : (k : Int).tmod 10 = ((k % 10 : Nat) : Int) := by rw [Int.tmod_eq_emod_of_nonneg (by omega)]; omega
      have e4 : (k : Int).tdiv 10 = ((k / 10 : Nat) : Int) := by rw [Int.tdiv_eq_ediv_of_nonneg (by omega)]; omega
      have d10 : k % 10 < 10 := by omega
      have dk : k / 10 < k := by omega
      have hC : (strOfNums [48 + ((k % 10 : Nat) : Int)]).size = 1 := strOfNums_size _
      have hcv := conv_m wr (48 + ((k % 10 : Nat) : Int))
      generalize k % 10 = d at *
      generalize k / 10 = q at *
      generalize strOfNums [48 + (d : Int)] = T at *
      have q1 : ¬ 9223372036854775807 < T.size + out.size := by omega
      have HDk := hid_intro dk
      clear dk hk HD
      go_wp2_with fail
      go_roundw
      case rel => exact ⟨g, q, T ++ out, rfl, rfl, hk2, by omega, HD2, by rw [ByteArray.size_append]; omega, hid_intro (HB.out.alloc HB.out.size _)⟩
      case measure => simp [intOf]; have := HDk.out; omega
end MarkR
end Go.Proofs.YtgaihlhoegaliaaDoor
namespace Go.Proofs.YtgaihlhoegaliaaDoor
open Go.ChangeShapes Go.WideShapes Go.ChangeAt Go.RowKit
set_option linter.unusedVariables false
namespace CatR
open RowG (grown_set)
open EvtR (Pt cell_put cell_far gtrans rgrown)
open MarkR (mk mT mark_any hid_intro)
/-- The marks from K on stand in the first tiers of a block. -/
def TM (K n g : Nat) (w : World) : Prop := g < w.heap.size ∧ ∀ i, i < n → w.cell? ⟨g, i * 2, none⟩ = some (.int .i64 ((K : Int) + 2 * (i : Int))) ∧ w.cell? ⟨g, i * 2 + 1, none⟩ = some (.int .i64 ((K : Int) + 2 * (i : Int) + 1))
theorem TM.block {K n g : Nat} {w w' : World} (h : TM K n g w) (hs : w.heap.size ≤ w'.heap.size) (hb : w'.heap[g]? = w.heap[g]?) : TM K n g w' :=
  ⟨Nat.lt_of_lt_of_le h.1 hs, fun i hi => ⟨(World.cell?_of_block (a := ⟨g, i * 2, none⟩) hb).trans (h.2 i hi).1, (World.cell?_of_block (a := ⟨g, i * 2 + 1, none⟩) hb).trans (h.2 i hi).2⟩⟩
theorem TM.below {K n g : Nat} {w w' : World} (h : TM K n g w) (hb : Below w.heap.size w w') : TM K n g w' := h.block hb.size (hb.block g h.1)
theorem TM.more {K i g m : Nat} {w : World} (h : TM K i g w) (hp : Pt g m w) (hm : i * 2 + 1 < m) : TM K (i + 1) g ((w.setCell ⟨g, i * 2, none⟩ (.int .i64 ((K : Int) + 2 * (i : Int)))).setCell ⟨g, i * 2 + 1, none⟩ (.int .i64 ((K : Int) + 2 * (i : Int) + 1))) := by
  have p1 := hp.set (i * 2) (.int .i64 ((K : Int) + 2 * (i : Int)))
  refine ⟨by have := h.1; simpa using this, fun j hj => ?_⟩
  by_cases e : j = i
  · subst e
    exact ⟨by rw [cell_far _ _ (by omega), cell_put hp _ (by omega)], cell_put p1 _ hm _⟩
  · obtain ⟨h1, h2⟩ := h.2 j (by omega)
    exact ⟨by rw [cell_far _ _ (by omega), cell_far _ _ (by omega)]; exact h1, by rw [cell_far _ _ (by omega), cell_far _ _ (by omega)]; exact h2⟩
set_option maxRecDepth 100000 in
set_option maxHeartbeats 4000000 in
theorem tierM (K : Nat) (hK0 : 1 ≤ K) (hK : K ≤ 6000000) (g n cap : Nat) (w : World) (hn : n ≤ 1048576) (h0 : Pt g (n * 2) w) :
    Calls Tryd.prog 53 #[.slice (some ⟨g, 0, none⟩) n cap, .int .i64 K] w fun e w' => e = .returned (.int .i64 (K + 2 * n : Nat)) ∧ w.grownBy w' (some g) ∧ (∀ n', Pt g n' w → Pt g n' w') ∧ TM K n g w' := by
  have HP := hid_intro h0
  have HM0 : Hid (TM K 0 g w) := hid_intro ⟨h0.lt, fun i hi => absurd hi (by omega)⟩
  clear h0
  go_enter Tryd.func53, Tryd.ntmps53
  go_wp2_with fail
  go_loopw [5, 1] (fun x z wr => ∃ i : Nat, x = .int .i64 (i : Int) ∧ z = .int .i64 ((K : Int) + 2 * (i : Int)) ∧ i ≤ n ∧ Hid (Pt g (n * 2) wr) ∧ Hid (w.grownBy wr (some g)) ∧ Hid (∀ n', Pt g n' w → Pt g n' wr) ∧ Hid (TM K i g wr)) (fun x _ _ => n - (intOf x).toNat)
  case atStart => exact ⟨0, rfl, by go_num, by omega, HP, hid_intro ⟨rfl, rfl, rfl, Nat.le_refl _, fun _ _ _ => rfl⟩, hid_intro (fun _ h => h), HM0⟩
  case round =>
    clear HM0
    obtain ⟨i, rfl, rfl, hi, HP, HG, HA, HM⟩ := hrel
    by_cases hin : i = n
    · subst hin
      go_wp2_with fail
      go_ret
      exact ⟨by go_num, HG.out, HA.out, HM.out⟩
    · have h1 : (i : Int) < (n : Int) := by omega
      have HA2 : Hid (∀ n', Pt g n' w → Pt g n' ((wr.setCell ⟨g, i * 2, none⟩ (.int .i64 ((K : Int) + 2 * (i : Int)))).setCell ⟨g, i * 2 + 1, none⟩ (.int .i64 ((K : Int) + 2 * (i : Int) + 1)))) := hid_intro (fun n' h => ((HA.out n' h).set _ _).set _ _)
      have HM2 := hid_intro (HM.out.more HP.out (by omega))
      have hl := HP.out.lt
      obtain ⟨v0, c0⟩ := HP.out.has (i * 2) (by omega)
      have f0 := HP.out.free (i * 2) (by omega)
      obtain ⟨v1, c1⟩ := HP.out.has (i * 2 + 1) (by omega)
      have f1 := HP.out.free (i * 2 + 1) (by omega)
      have HS := hid_intro (gtrans (gtrans HG.out (grown_set _ g (i * 2) (.int .i64 ((K : Int) + 2 * (i : Int))))) (grown_set _ g (i * 2 + 1) (.int .i64 ((K : Int) + 2 * (i : Int) + 1))))
      have HP2 := hid_intro ((HP.out.set (i * 2) (.int .i64 ((K : Int) + 2 * (i : Int)))).set (i * 2 + 1) (.int .i64 ((K : Int) + 2 * (i : Int) + 1)))
      clear HP HG HA HM
      go_wp2_with fail
      go_roundw
      case rel => exact ⟨i + 1, by go_num, by go_num, by omega, HP2, HS, HA2, HM2⟩
      case measure => simp [intOf]; omega
set_option maxRecDepth 100000 in
set_option maxHeartbeats 4000000 in
theorem tierH (K : Nat) (hK0 : 1 ≤ K) (hK : K ≤ 6000000) (g n cap : Nat) (w : World) (hn : n ≤ 1048576) (hm : TM K n g w) :
    Calls Tryd.prog 54 #[.slice (some ⟨g, 0, none⟩) n cap, .int .i64 K] w fun e w' => e = .returned (.int .i64 (K + 2 * n : Nat)) ∧ Below w.heap.size w w' := by
  have HM := hid_intro hm
  clear hm
  go_enter Tryd.func54, Tryd.ntmps54
  go_wp2_with fail
  go_loopw [5, 1] (fun x z wr => ∃ i : Nat, x = .int .i64 (i : Int) ∧ z = .int .i64 ((K : Int) + 2 * (i : Int)) ∧ i ≤ n ∧ Hid (Below w.heap.size w wr)) (fun x _ _ => n - (intOf x).toNat)
  case atStart => exact ⟨0, rfl, by go_num, by omega, hid_intro (Below.refl _ _)⟩
  case round =>
    obtain ⟨i, rfl, rfl, hi, HB⟩ := hrel
    by_cases hin : i = n
    · subst hin
      go_wp2_with fail
      go_ret
      exact ⟨by go_num, HB.out⟩
    · have h1 : (i : Int) < (n : Int) := by omega
      obtain ⟨q0, q1⟩ := (HM.out.below HB.out).2 i (by omega)
      have hl := (HM.out.below HB.out).1
      go_wp2_with fail
      go_roundw
      case rel => exact ⟨i + 1, by go_num, by go_num, by omega, HB⟩
      case measure => simp [intOf]; omega
set_option maxHeartbeats 4000000 in
theorem tierM0 (K : Int) (ao : Option Addr) (cap : Nat) (w : World) : Calls Tryd.prog 53 #[.slice ao 0 cap, .int .i64 K] w fun e w' => e = .returned (.int .i64 K) ∧ Below w.heap.size w w' := by
  go_enter Tryd.func53, Tryd.ntmps53
  go_wp2_with fail
  go_loopw [5, 1] (fun x z wr => x = .int .i64 0 ∧ z = .int .i64 K ∧ Hid (Below w.heap.size w wr)) (fun x _ _ => 0)
  case atStart => exact ⟨rfl, rfl, hid_intro (Below.refl _ _)⟩
  case round =>
    obtain ⟨rfl, rfl, HB⟩ := hrel
    go_wp2_with fail
    go_ret
    exact ⟨rfl, HB.out⟩
set_option maxHeartbeats 4000000 in
theorem tierH0 (K : Int) (ao : Option Addr) (cap : Nat) (w : World) : Calls Tryd.prog 54 #[.slice ao 0 cap, .int .i64 K] w fun e w' => e = .returned (.int .i64 K) ∧ Below w.heap.size w w' := by
  go_enter Tryd.func54, Tryd.ntmps54
  go_wp2_with fail
  go_loopw [5, 1] (fun x z wr => x = .int .i64 0 ∧ z = .int .i64 K ∧ Hid (Below w.heap.size w wr)) (fun x _ _ => 0)
  case atStart => exact ⟨rfl, rfl, hid_intro (Below.refl _ _)⟩
  case round =>
    obtain ⟨rfl, rfl, HB⟩ := hrel
    go_wp2_with fail
    go_ret
    exact ⟨rfl, HB.out⟩
/-- One credit's marks, in a world grown. -/
def BoxC (w : World) (g o : Nat) (t0 : ByteArray) (n : Int) (w' : World) : Prop := Below w.heap.size w w' ∧ g < w'.heap.size ∧ w'.cell? ⟨g, o, none⟩ = some (.string t0) ∧ w'.cell? ⟨g, o + 1, none⟩ = some (.int .i64 n)
theorem BoxC.below {w w1 w2 : World} {g o : Nat} {t0 : ByteArray} {n : Int} (h : BoxC w g o t0 n w1) (hb : Below w1.heap.size w1 w2) : BoxC w g o t0 n w2 := by
  obtain ⟨h0, hl, c0, c1⟩ := h
  have c := fun x => hb.cell (p := ⟨g, x, none⟩) hl
  exact ⟨h0.trans (hb.mono h0.size), by have := hb.size; omega, (c _).trans c0, (c _).trans c1⟩
theorem BoxC.drew {w w1 : World} {g o : Nat} {t0 : ByteArray} {n : Int} (h : BoxC w g o t0 n w1) : BoxC w g o t0 n w1.drew := ⟨h.1.drew, h.2⟩
/-- The marks from K on stand in the first credits of a block. -/
def CM (K n g : Nat) (w : World) : Prop := g < w.heap.size ∧ ∀ i, i < n → w.cell? ⟨g, i * 2, none⟩ = some (.string (mT (K + 2 * i))) ∧ w.cell? ⟨g, i * 2 + 1, none⟩ = some (.int .i64 ((K : Int) + 2 * (i : Int) + 1))
theorem CM.block {K n g : Nat} {w w' : World} (h : CM K n g w) (hs : w.heap.size ≤ w'.heap.size) (hb : w'.heap[g]? = w.heap[g]?) : CM K n g w' :=
  ⟨Nat.lt_of_lt_of_le h.1 hs, fun i hi => ⟨(World.cell?_of_block (a := ⟨g, i * 2, none⟩) hb).trans (h.2 i hi).1, (World.cell?_of_block (a := ⟨g, i * 2 + 1, none⟩) hb).trans (h.2 i hi).2⟩⟩
theorem CM.below {K n g : Nat} {w w' : World} (h : CM K n g w) (hb : Below w.heap.size w w') : CM K n g w' := h.block hb.size (hb.block g h.1)
theorem CM.more {K i g m : Nat} {w : World} (h : CM K i g w) (hp : Pt g m w) (hm : i * 2 + 1 < m) : CM K (i + 1) g ((w.setCell ⟨g, i * 2, none⟩ (.string (mT (K + 2 * i)))).setCell ⟨g, i * 2 + 1, none⟩ (.int .i64 ((K : Int) + 2 * (i : Int) + 1))) := by
  have p1 := hp.set (i * 2) (.string (mT (K + 2 * i)))
  refine ⟨by have := h.1; simpa using this, fun j hj => ?_⟩
  by_cases e : j = i
  · subst e
    exact ⟨by rw [cell_far _ _ (by omega), cell_put hp _ (by omega)], cell_put p1 _ hm _⟩
  · obtain ⟨h1, h2⟩ := h.2 j (by omega)
    exact ⟨by rw [cell_far _ _ (by omega), cell_far _ _ (by omega)]; exact h1, by rw [cell_far _ _ (by omega), cell_far _ _ (by omega)]; exact h2⟩
set_option maxRecDepth 100000 in
set_option maxHeartbeats 4000000 in
theorem credM (K : Nat) (hK0 : 1 ≤ K) (hK : K ≤ 6000000) (g n cap : Nat) (w : World) (hn : n ≤ 1048576) (h0 : Pt g (n * 2) w) :
    Calls Tryd.prog 34 #[.slice (some ⟨g, 0, none⟩) n cap, .int .i64 K] w fun e w' => e = .returned (.int .i64 (K + 2 * n : Nat)) ∧ w.grownBy w' (some g) ∧ (∀ n', Pt g n' w → Pt g n' w') ∧ CM K n g w' := by
  have HP := hid_intro h0
  have HT : Hid (∀ (z : Int) (K : Nat), z = K → 1 ≤ K → K < 100000000 → ∀ w, Calls Tryd.prog 52 #[.int .i64 z] w fun e w' => e = .returned (.string (mT K)) ∧ Below w.heap.size w w') := hid_intro (fun z K e h0 h w => by subst e; exact mark_any K h0 h w)
  have HM0 : Hid (CM K 0 g w) := hid_intro ⟨h0.lt, fun i hi => absurd hi (by omega)⟩
  clear h0
  go_enter Tryd.func34, Tryd.ntmps34
  go_wp2_with fail
  go_loopw [5, 1] (fun x z wr => ∃ i : Nat, x = .int .i64 (i : Int) ∧ z = .int .i64 ((K : Int) + 2 * (i : Int)) ∧ i ≤ n ∧ Hid (Pt g (n * 2) wr) ∧ Hid (w.grownBy wr (some g)) ∧ Hid (∀ n', Pt g n' w → Pt g n' wr) ∧ Hid (CM K i g wr)) (fun x _ _ => n - (intOf x).toNat)
  case atStart => exact ⟨0, rfl, by go_num, by omega, HP, hid_intro ⟨rfl, rfl, rfl, Nat.le_refl _, fun _ _ _ => rfl⟩, hid_intro (fun _ h => h), HM0⟩
  case round =>
    clear HM0
    obtain ⟨i, rfl, rfl, hi, HP, HG, HA, HM⟩ := hrel
    by_cases hin : i = n
    · subst hin
      go_wp2_with fail
      go_ret
      exact ⟨by go_num, HG.out, HA.out, HM.out⟩
    · have h1 : (i : Int) < (n : Int) := by omega
      go_wp2_with fail
      refine (HT.out _ (K + 2 * i) (by push_cast; omega) (by omega) (by omega) _).mono ?_
      rintro e w1 ⟨rfl, hb⟩
      have HP1 := hid_intro (HP.out.below hb)
      have HG1 := hid_intro (gtrans HG.out (rgrown hb _))
      have HA2 : Hid (∀ n', Pt g n' w → Pt g n' ((w1.setCell ⟨g, i * 2, none⟩ (.string (mT (K + 2 * i)))).setCell ⟨g, i * 2 + 1, none⟩ (.int .i64 ((K : Int) + 2 * (i : Int) + 1)))) := hid_intro (fun n' h => (((HA.out n' h).below hb).set _ _).set _ _)
      have HM2 := hid_intro ((HM.out.below hb).more HP1.out (by omega))
      obtain ⟨v0, c0⟩ := HP1.out.has (i * 2) (by omega)
      have f0 := HP1.out.free (i * 2) (by omega)
      obtain ⟨v1, c1⟩ := HP1.out.has (i * 2 + 1) (by omega)
      have f1 := HP1.out.free (i * 2 + 1) (by omega)
      have HS := hid_intro (gtrans (gtrans HG1.out (grown_set _ g (i * 2) (.string (mT (K + 2 * i))))) (grown_set _ g (i * 2 + 1) (.int .i64 ((K : Int) + 2 * (i : Int) + 1))))
      have HP2 := hid_intro ((HP1.out.set (i * 2) (.string (mT (K + 2 * i)))).set (i * 2 + 1) (.int .i64 ((K : Int) + 2 * (i : Int) + 1)))
      clear hb HP HG HG1 HP1 HA HM
      go_wp2_with fail
      go_roundw
      case rel => exact ⟨i + 1, by go_num, by go_num, by omega, HP2, HS, HA2, HM2⟩
      case measure => simp [intOf]; omega
set_option maxRecDepth 100000 in
set_option maxHeartbeats 4000000 in
theorem credH (K : Nat) (hK0 : 1 ≤ K) (hK : K ≤ 6000000) (g n cap : Nat) (w : World) (hn : n ≤ 1048576) (hm : CM K n g w) :
    Calls Tryd.prog 36 #[.slice (some ⟨g, 0, none⟩) n cap, .int .i64 K] w fun e w' => e = .returned (.int .i64 (K + 2 * n : Nat)) ∧ Below w.heap.size w w' := by
  have HM := hid_intro hm
  have HT : Hid (∀ (z : Int) (K : Nat), z = K → 1 ≤ K → K < 100000000 → ∀ w, Calls Tryd.prog 52 #[.int .i64 z] w fun e w' => e = .returned (.string (mT K)) ∧ Below w.heap.size w w') := hid_intro (fun z K e h0 h w => by subst e; exact mark_any K h0 h w)
  clear hm
  go_enter Tryd.func36, Tryd.ntmps36
  go_wp2_with fail
  go_loopw [5, 1] (fun x z wr => ∃ i : Nat, x = .int .i64 (i : Int) ∧ z = .int .i64 ((K : Int) + 2 * (i : Int)) ∧ i ≤ n ∧ Hid (Below w.heap.size w wr)) (fun x _ _ => n - (intOf x).toNat)
  case atStart => exact ⟨0, rfl, by go_num, by omega, hid_intro (Below.refl _ _)⟩
  case round =>
    obtain ⟨i, rfl, rfl, hi, HB⟩ := hrel
    by_cases hin : i = n
    · subst hin
      go_wp2_with fail
      go_ret
      exact ⟨by go_num, HB.out⟩
    · have h1 : (i : Int) < (n : Int) := by omega
      obtain ⟨q0, q1⟩ := (HM.out.below HB.out).2 i (by omega)
      have HT0 := hid_intro (fun w => HT.out ((K : Int) + 2 * (i : Int)) (K + 2 * i) (by push_cast; omega) (by omega) (by omega) w)
      generalize mT (K + 2 * i) = T0 at *
      have HS0 : Hid (BoxC w g (i * 2) T0 ((K : Int) + 2 * (i : Int) + 1) wr) := hid_intro ⟨HB.out, by have := HB.out.size; have := HM.out.1; omega, q0, q1⟩
      have HS1 := hid_intro HS0.out.drew
      go_wp2_with fail
      go_region_held3 (fun w' => Below w.heap.size w w' ∧ g < w'.heap.size ∧ w'.cell? ⟨g, i * 2, none⟩ = some (.string T0) ∧ w'.cell? ⟨g, i * 2 + 1, none⟩ = some (.int .i64 ((K : Int) + 2 * (i : Int) + 1))) (first | assumption | (exact HS0.out) | (exact HS1.out) | (exact BoxC.below (w := w) (g := g) (o := i * 2) (t0 := T0) (n := (K : Int) + 2 * (i : Int) + 1) (by assumption) hb))
        (first | (go_at_call 52; refine (HT0.out _).mono ?_; rintro e w' ⟨rfl, hb⟩))
      rename_i hS
      replace HS0 := hid_intro hS
      have q0 := HS0.out.2.2.1
      have q1 := HS0.out.2.2.2
      clear hS HS1
      have HB2 := hid_intro HS0.out.1
      go_wp2_with fail
      go_roundw
      case rel => exact ⟨i + 1, by go_num, by go_num, by omega, HB2⟩
      case measure => simp [intOf]; omega
set_option maxHeartbeats 4000000 in
theorem credH0 (K : Int) (ao : Option Addr) (cap : Nat) (w : World) : Calls Tryd.prog 36 #[.slice ao 0 cap, .int .i64 K] w fun e w' => e = .returned (.int .i64 K) ∧ Below w.heap.size w w' := by
  go_enter Tryd.func36, Tryd.ntmps36
  go_wp2_with fail
  go_loopw [5, 1] (fun x z wr => x = .int .i64 0 ∧ z = .int .i64 K ∧ Hid (Below w.heap.size w wr)) (fun x _ _ => 0)
  case atStart => exact ⟨rfl, rfl, hid_intro (Below.refl _ _)⟩
  case round =>
    obtain ⟨rfl, rfl, HB⟩ := hrel
    go_wp2_with fail
    go_ret
    exact ⟨rfl, HB.out⟩
set_option maxHeartbeats 4000000 in
theorem credM0 (K : Int) (ao : Option Addr) (cap : Nat) (w : World) : Calls Tryd.prog 34 #[.slice ao 0 cap, .int .i64 K] w fun e w' => e = .returned (.int .i64 K) ∧ Below w.heap.size w w' := by
  go_enter Tryd.func34, Tryd.ntmps34
  go_wp2_with fail
  go_loopw [5, 1] (fun x z wr => x = .int .i64 0 ∧ z = .int .i64 K ∧ Hid (Below w.heap.size w wr)) (fun x _ _ => 0)
  case atStart => exact ⟨rfl, rfl, hid_intro (Below.refl _ _)⟩
  case round =>
    obtain ⟨rfl, rfl, HB⟩ := hrel
    go_wp2_with fail
    go_ret
    exact ⟨rfl, HB.out⟩
end CatR
end Go.Proofs.YtgaihlhoegaliaaDoor
