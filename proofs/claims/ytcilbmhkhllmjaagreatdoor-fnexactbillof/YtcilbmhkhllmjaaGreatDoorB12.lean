/-
  Answers that are lists of lines: read, of one's own, kept, marked. The conditions: at most 1048576 lines.
  Lists put into the order of a text of theirs, each in its place: one rising list of the same elements alone. No condition.
  What strings.Compare hands back.
  What strings.Compare hands back, against the order of texts. No condition.
  What slices.SortFunc hands back at structs. The kit's structure, laid over this program.
  Windows with the places of their lists; slices.SortFunc of windows by their meters. The condition: fewer than 4611686018427387904 of them.
  The program's rising lists: whether hours rise. The condition: at most 1048576 of them.
  Leap years, and the days of the week: either side tells the same. No condition.
  The days of a month, and whether a date is right: either side tells the same. The condition: the program's table stands in its variable.
-/
import Derived.Shelf.Small.Bits
import Derived.Shelf.Small.Strs
import Derived.Shelf.Strconv.Itoa0
import Derived.Test.YtcilbmhkhllmjaaGreatDoorProg
import Derived.Shelf.SlSortCmp.WholeK
import Derived.Ground.SlsfProg
import Derived.Deep.RegionHeld3
import Derived.Deep.QuietTactic
import Derived.BigQuiet
import Derived.Deep.DrawnRows
import Derived.Test.YtcilbmhkhllmjaaGreatDoorB11
namespace Go.Proofs.YtcilbmhkhllmjaaGreatDoor
open Go.ChangeShapes Go.WideShapes Go.ChangeAt Go.RowKit
set_option linter.unusedVariables false
namespace EngR
open LinR ChG
open RowG (MadeG)
open EvtR (Pt)
def LnR (D : List N) (v : Value) (W : World) : Prop := ∃ ao cap, v = .slice ao D.length cap ∧ Lis ao D W
def LnW (D : List N) (b : Nat) (v : Value) (W : World) : Prop := ∃ ao cap, v = .slice ao D.length cap ∧ MadeG 2 N.cells N.zero b ao D W
theorem LnR.below {D : List N} {v : Value} {W W' : World} (h : LnR D v W) (hb : Below W.heap.size W W') : LnR D v W' := by
  obtain ⟨ao, cap, e, h⟩ := h
  exact ⟨ao, cap, e, h.below hb⟩
theorem LnW.reads {D : List N} {b : Nat} {v : Value} {W : World} (h : LnW D b v W) : LnR D v W := by
  obtain ⟨ao, cap, e, h⟩ := h
  exact ⟨ao, cap, e, h.rws⟩
theorem made_kq {b : Nat} {ao : Option Addr} {D : List N} {W W' : World} (h : MadeG 2 N.cells N.zero b ao D W) (hk : Kq b W W') : MadeG 2 N.cells N.zero b ao D W' :=
  ⟨rws_kq h.rws hk (h.own.imp id (fun ⟨g, e, hg, _⟩ b' off e' => by rw [e] at e'; simp at e'; omega)), h.own.imp id (fun ⟨g, e, hg, hp⟩ => ⟨g, e, hg, hk.pt hp hg⟩)⟩
theorem LnW.kq {D : List N} {b : Nat} {v : Value} {W W' : World} (h : LnW D b v W) (hk : Kq b W W') : LnW D b v W' := by
  obtain ⟨ao, cap, e, h⟩ := h
  exact ⟨ao, cap, e, made_kq h hk⟩
theorem LnW.shape {D : List N} {b : Nat} {v : Value} {W : World} (h : LnW D b v W) : ∃ (a : Option Addr) (n c : Nat), v = .slice a n c := by
  obtain ⟨ao, cap, e, h⟩ := h
  exact ⟨ao, _, cap, e⟩
theorem eqLn {D : List N} (hn : D.length ≤ 1048576) {v v' : Value} {W : World} (h : LnR D v W) (h' : LnR D v' W) : Calls Tryz.prog 48 #[v, v'] W fun e w' => e = .returned (.bool true) ∧ Below W.heap.size W w' := by
  obtain ⟨ao, cap, rfl, h⟩ := h
  obtain ⟨ao', cap', rfl, h'⟩ := h'
  exact eqLis_any ao ao' cap cap' D W hn h h'
theorem markLn {D : List N} (hn : D.length ≤ 1048576) {b : Nat} {v : Value} {Wt W : World} (h : LnW D b v Wt) (hk : Kq b Wt W) :
    Calls Tryz.prog 57 #[v, .int .i64 1] W fun e w' => ∃ KK : Nat, e = .returned (.int .i64 KK) ∧ Chg (fun x => b ≤ x ∧ x < Wt.heap.size) W w' ∧
      ∀ w2, Below w'.heap.size w' w2 → Calls Tryz.prog 58 #[v, .int .i64 1] w2 fun e w3 => e = .returned (.int .i64 KK) ∧ Below w2.heap.size w2 w3 := by
  obtain ⟨ao, cap, rfl, h⟩ := h
  have ht : D.length = 0 ∨ ∀ g, ao = some ⟨g, 0, none⟩ → g < Wt.heap.size := h.own.imp id (fun ⟨g, e, _, hp⟩ g' e' => by
    have := hp.lt
    rw [e] at e'
    simp only [Option.some.injEq, Addr.mk.injEq, and_true] at e'
    omega)
  refine (markL b ao D cap W Wt.heap.size hn (made_kq h hk) ht).mono ?_
  rintro e w' ⟨rfl, hM, g, hg, hgt⟩
  exact ⟨_, rfl, ⟨hg.os, hg.tape, hg.output, hg.size, fun x hx hnx => hg.block x hx (fun e => hnx (hgt x e.symm))⟩, fun w2 hb => heldL ao D.length cap w2 hn (hM.below hb)⟩
end EngR
end Go.Proofs.YtcilbmhkhllmjaaGreatDoor
namespace Go.Proofs.YtcilbmhkhllmjaaGreatDoor
open Go.RowKit
set_option linter.unusedVariables false
namespace BilR
open LtR
section
variable {α β : Type} {f : α → ByteArray}
def insB (f : α → ByteArray) (x : α) : List α → List α
  | [] => [x]
  | y :: l => if lt (f y) (f x) = true then y :: insB f x l else x :: y :: l
def srt (f : α → ByteArray) (l : List α) : List α := l.foldl (fun acc x => insB f x acc) []
def Ris (f : α → ByteArray) (l : List α) : Prop := l.Pairwise (fun a b => lt (f a) (f b) = true)
theorem insB_perm (x : α) : ∀ l : List α, (insB f x l).Perm (x :: l)
  | [] => List.Perm.refl _
  | y :: l => by
    unfold insB
    split
    · exact ((insB_perm x l).cons y).trans (List.Perm.swap x y l)
    · exact List.Perm.refl _
theorem insB_mem {x z : α} {l : List α} (h : z ∈ insB f x l) : z = x ∨ z ∈ l := by
  have := (insB_perm x l).mem_iff.1 h
  simpa using this
theorem insB_ris {x : α} : ∀ {l : List α}, Ris f l → (∀ y ∈ l, f y ≠ f x) → Ris f (insB f x l)
  | [], _, _ => List.pairwise_singleton _ _
  | y :: l, h, hn => by
    obtain ⟨h1, h2⟩ := List.pairwise_cons.1 h
    unfold insB
    split
    · rename_i q
      refine List.pairwise_cons.2 ⟨fun z hz => ?_, insB_ris h2 (fun z hz => hn z (List.mem_cons_of_mem _ hz))⟩
      rcases insB_mem hz with rfl | hz
      · exact q
      · exact h1 z hz
    · rename_i q
      have q1 : lt (f x) (f y) = true := by
        cases q2 : lt (f x) (f y)
        · exact absurd (lt_total (by simpa using q) q2) (hn y (List.mem_cons_self ..))
        · rfl
      refine List.pairwise_cons.2 ⟨fun z hz => ?_, h⟩
      rcases List.mem_cons.1 hz with rfl | hz
      · exact q1
      · exact lt_trans q1 (h1 z hz)
theorem insB_map (g : β → α) (x : β) : ∀ l : List β, (insB (fun b => f (g b)) x l).map g = insB f (g x) (l.map g)
  | [] => rfl
  | y :: l => by
    simp only [insB, List.map_cons]
    split
    · rw [List.map_cons, insB_map g x l]
    · rfl
theorem srt_snoc (l : List α) (x : α) : srt f (l ++ [x]) = insB f x (srt f l) := by simp [srt, List.foldl_append]
theorem rev_ind {α : Type} {P : List α → Prop} (h0 : P []) (h1 : ∀ l x, P l → P (l ++ [x])) (l : List α) : P l := by
  have : ∀ l : List α, P l.reverse := fun l => by
    induction l with
    | nil => exact h0
    | cons x l ih => rw [List.reverse_cons]; exact h1 _ _ ih
  have q := this l.reverse
  rwa [List.reverse_reverse] at q
theorem srt_perm (l : List α) : (srt f l).Perm l := by
  refine rev_ind (P := fun l => (srt f l).Perm l) (List.Perm.refl _) (fun l x ih => ?_) l
  rw [srt_snoc]
  exact ((insB_perm x _).trans (ih.cons x)).trans (List.perm_append_singleton x l).symm
theorem srt_map (g : β → α) (l : List β) : (srt (fun b => f (g b)) l).map g = srt f (l.map g) := by
  refine rev_ind (P := fun l => (srt (fun b => f (g b)) l).map g = srt f (l.map g)) rfl (fun l x ih => ?_) l
  rw [srt_snoc, insB_map, ih, List.map_append, List.map_singleton, srt_snoc]
theorem srt_ris (l : List α) (h : (l.map f).Nodup) : Ris f (srt f l) := by
  revert h
  refine rev_ind (P := fun l => (l.map f).Nodup → Ris f (srt f l)) (fun _ => List.Pairwise.nil) (fun l x ih h => ?_) l
  rw [List.map_append, List.map_singleton] at h
  obtain ⟨h1, _, h3⟩ := List.nodup_append.1 h
  rw [srt_snoc]
  refine insB_ris (ih h1) (fun y hy e => ?_)
  exact h3 (f y) (List.mem_map_of_mem ((srt_perm l).mem_iff.1 hy)) (f x) (List.mem_singleton.2 rfl) e
theorem ris_nodup {l : List α} (h : Ris f l) : (l.map f).Nodup := by
  unfold List.Nodup
  rw [List.pairwise_map]
  exact h.imp (fun {a b} q e => by rw [e, lt_irrefl] at q; cases q)
/-- Two rising lists of the same elements are one. -/
theorem ris_eq : ∀ {a b : List α}, Ris f a → Ris f b → a.Perm b → a = b
  | [], b, _, _, h => (List.Perm.nil_eq h)
  | x :: a, [], _, _, h => by have := h.length_eq; simp at this
  | x :: a, y :: b, ha, hb, h => by
    obtain ⟨a1, a2⟩ := List.pairwise_cons.1 ha
    obtain ⟨b1, b2⟩ := List.pairwise_cons.1 hb
    have hx : x ∈ y :: b := h.mem_iff.1 (List.mem_cons_self ..)
    have hy : y ∈ x :: a := h.mem_iff.2 (List.mem_cons_self ..)
    have e : x = y := by
      rcases List.mem_cons.1 hx with q | q
      · exact q
      · rcases List.mem_cons.1 hy with p | p
        · exact p.symm
        · have q1 := b1 x q
          rw [lt_asymm (a1 y p)] at q1
          cases q1
    subst e
    rw [ris_eq a2 b2 (List.Perm.cons_inv h)]
theorem srt_eq {l d : List α} (hd : Ris f d) (hp : d.Perm l) : d = srt f l :=
  ris_eq hd (srt_ris l (by
    have := (hp.map f).nodup_iff.1 (ris_nodup hd)
    exact this)) (hp.trans (srt_perm l).symm)
end
end BilR
end Go.Proofs.YtcilbmhkhllmjaaGreatDoor
namespace Go.Proofs
open Go.Shelf
def Tryz.lays106_ren : Go.Shelf.Ren := ⟨fun | 106 => 99 | 213 => 132 | 265 => 170 | n => n, fun | 9 => 9 | 3 => 3 | n => n, fun | n => n⟩
theorem Tryz.lays106 : Go.Proofs.Lays.n106 Tryz.prog Tryz.lays106_ren := {
  mixed := by kernel_rfl
  f106 := Tryz.func99.trans (congrArg some (by kernel_rfl))
  f213 := Tryz.func132.trans (congrArg some (by kernel_rfl))
  f265 := Tryz.func170.trans (congrArg some (by kernel_rfl))
  t3 := Tryz.underlying3
  a3 := Tryz.isAgg3
  z3 := Tryz.sizeOf3
  v3 := Tryz.zeroValue3
  t9 := Tryz.underlying9
  a9 := Tryz.isAgg9
  z9 := Tryz.sizeOf9
  v9 := Tryz.zeroValue9 }
open Go.RowKit in
theorem Tryz.strings_Compare (a b : ByteArray) (w : World) :
    Calls Tryz.prog 99 #[.string a, .string b] w fun e w' => e = .returned (.int .i64 (Lib.compareBytes a.data.toList b.data.toList)) ∧ w' = w := Any.strings_Compare Tryz.lays106 a b w
end Go.Proofs
namespace Go.Proofs.YtcilbmhkhllmjaaGreatDoor
open Go.ChangeShapes Go.WideShapes Go.ChangeAt Go.RowKit
set_option linter.unusedVariables false
namespace WinR
open LtR
open Go.Op (bytesLess)
theorem cmp_cases : ∀ (a b : List UInt8), (Lib.compareBytes a b = -1 ∧ bytesLess a b = true ∧ a ≠ b) ∨ (Lib.compareBytes a b = 0 ∧ bytesLess a b = false ∧ a = b) ∨ (Lib.compareBytes a b = 1 ∧ bytesLess a b = false ∧ a ≠ b)
  | [], [] => .inr (.inl ⟨rfl, rfl, rfl⟩)
  | [], _ :: _ => .inl ⟨rfl, rfl, by simp⟩
  | _ :: _, [] => .inr (.inr ⟨rfl, rfl, by simp⟩)
  | a :: xs, b :: ys => by
    unfold Lib.compareBytes bytesLess
    by_cases h1 : a < b
    · have hne : a ≠ b := fun e => by subst e; exact absurd h1 (by simp)
      exact .inl ⟨by rw [if_pos h1], by simp [h1], by simp [hne]⟩
    · rw [if_neg h1]
      by_cases h2 : b < a
      · have hne : a ≠ b := fun e => by subst e; exact absurd h2 (by simp)
        exact .inr (.inr ⟨by rw [if_pos h2], by simp [h1, hne], by simp [hne]⟩)
      · rw [if_neg h2]
        obtain rfl : a = b := UInt8.le_antisymm (UInt8.not_lt.1 h2) (UInt8.not_lt.1 h1)
        rcases cmp_cases xs ys with ⟨c1, c2, c3⟩ | ⟨c1, c2, c3⟩ | ⟨c1, c2, c3⟩
        · exact .inl ⟨c1, by simp [c2], by simp [c3]⟩
        · exact .inr (.inl ⟨c1, by simp [c2], by simp [c3]⟩)
        · exact .inr (.inr ⟨c1, by simp [c2], by simp [c3]⟩)
def cb (x y : ByteArray) : Int := Lib.compareBytes x.data.toList y.data.toList
theorem cb_cases (x y : ByteArray) : (cb x y = -1 ∧ lt x y = true ∧ x ≠ y) ∨ (cb x y = 0 ∧ lt x y = false ∧ x = y) ∨ (cb x y = 1 ∧ lt x y = false ∧ x ≠ y) := by
  have e : ∀ z : ByteArray, z.toList = z.data.toList := fun z => by first | rfl | simp | exact ByteArray.toList_eq z
  unfold cb lt
  rw [e, e]
  rcases cmp_cases x.data.toList y.data.toList with ⟨c1, c2, c3⟩ | ⟨c1, c2, c3⟩ | ⟨c1, c2, c3⟩
  · exact .inl ⟨c1, c2, fun h => c3 (by rw [h])⟩
  · exact .inr (.inl ⟨c1, c2, ByteArray.ext (Array.toList_inj.1 c3)⟩)
  · exact .inr (.inr ⟨c1, c2, fun h => c3 (by rw [h])⟩)
theorem icb (x y : ByteArray) (w : World) : Calls Tryz.prog 99 #[.string x, .string y] w fun e w' => e = .returned (.int .i64 (cb x y)) ∧ w' = w := Tryz.strings_Compare x y w
end WinR
end Go.Proofs.YtcilbmhkhllmjaaGreatDoor
namespace Go.Proofs
open Go.Shelf
def Tryz.sortS_ren : Go.Shelf.Ren := ⟨fun | 6 => 97 | 15 => 131 | 14 => 130 | 28 => 168 | 29 => 169 | 20 => 160 | 21 => 161 | 22 => 162 | 23 => 163 | 24 => 164 | 25 => 165 | 26 => 166 | 27 => 167 | 46 => 193 | 47 => 194 | 48 => 195 | 49 => 196 | 50 => 197 | 57 => 206 | n => n, fun | 22 => 38 | 24 => 74 | 25 => 141 | 3 => 3 | 39 => 155 | 0 => 0 | 53 => 229 | 55 => 150 | 4 => 4 | 46 => 222 | 45 => 221 | 50 => 226 | 5 => 5 | 9 => 9 | 66 => 249 | 70 => 253 | 76 => 258 | 77 => 259 | n => n, fun | n => n⟩
theorem Tryz.sortS : Go.Proofs.SlLaysF0.n6 Tryz.prog Tryz.sortS_ren := {
  mixed := by kernel_rfl
  f6 := ⟨Tryz.f97.name, by decide, Tryz.func97.trans (congrArg some (by kernel_rfl))⟩
  f14 := ⟨Tryz.f130.name, by decide, Tryz.func130.trans (congrArg some (by kernel_rfl))⟩
  f15 := Tryz.func131.trans (congrArg some (by kernel_rfl))
  f20 := ⟨Tryz.f160.name, by decide, Tryz.func160.trans (congrArg some (by kernel_rfl))⟩
  f21 := ⟨Tryz.f161.name, by decide, Tryz.func161.trans (congrArg some (by kernel_rfl))⟩
  f22 := ⟨Tryz.f162.name, by decide, Tryz.func162.trans (congrArg some (by kernel_rfl))⟩
  f23 := ⟨Tryz.f163.name, by decide, Tryz.func163.trans (congrArg some (by kernel_rfl))⟩
  f24 := ⟨Tryz.f164.name, by decide, Tryz.func164.trans (congrArg some (by kernel_rfl))⟩
  f25 := ⟨Tryz.f165.name, by decide, Tryz.func165.trans (congrArg some (by kernel_rfl))⟩
  f26 := ⟨Tryz.f166.name, by decide, Tryz.func166.trans (congrArg some (by kernel_rfl))⟩
  f27 := ⟨Tryz.f167.name, by decide, Tryz.func167.trans (congrArg some (by kernel_rfl))⟩
  f28 := Tryz.func168.trans (congrArg some (by kernel_rfl))
  f29 := Tryz.func169.trans (congrArg some (by kernel_rfl))
  f46 := ⟨Tryz.f193.name, by decide, Tryz.func193.trans (congrArg some (by kernel_rfl))⟩
  f47 := Tryz.func194.trans (congrArg some (by kernel_rfl))
  f48 := Tryz.func195.trans (congrArg some (by kernel_rfl))
  f49 := ⟨Tryz.f196.name, by decide, Tryz.func196.trans (congrArg some (by kernel_rfl))⟩
  f50 := ⟨Tryz.f197.name, by decide, Tryz.func197.trans (congrArg some (by kernel_rfl))⟩
  f57 := ⟨Tryz.f206.name, by decide, Tryz.func206.trans (congrArg some (by kernel_rfl))⟩
  t0 := Tryz.underlying0
  a0 := Tryz.isAgg0
  z0 := Tryz.sizeOf0
  v0 := Tryz.zeroValue0
  t3 := Tryz.underlying3
  a3 := Tryz.isAgg3
  z3 := Tryz.sizeOf3
  v3 := Tryz.zeroValue3
  t4 := Tryz.underlying4
  a4 := Tryz.isAgg4
  z4 := Tryz.sizeOf4
  v4 := Tryz.zeroValue4
  t5 := Tryz.underlying5
  a5 := Tryz.isAgg5
  z5 := Tryz.sizeOf5
  v5 := Tryz.zeroValue5
  t9 := Tryz.underlying9
  a9 := Tryz.isAgg9
  z9 := Tryz.sizeOf9
  v9 := Tryz.zeroValue9
  t22 := Tryz.underlying38
  a22 := Tryz.isAgg38
  z22 := Tryz.sizeOf38
  v22 := Tryz.zeroValue38
  t25 := Tryz.underlying141
  a25 := Tryz.isAgg141
  z25 := Tryz.sizeOf141
  v25 := Tryz.zeroValue141
  t39 := Tryz.underlying155
  a39 := Tryz.isAgg155
  z39 := Tryz.sizeOf155
  v39 := Tryz.zeroValue155
  t45 := Tryz.underlying221
  a45 := Tryz.isAgg221
  z45 := Tryz.sizeOf221
  v45 := Tryz.zeroValue221
  t46 := Tryz.underlying222
  a46 := Tryz.isAgg222
  z46 := Tryz.sizeOf222
  v46 := Tryz.zeroValue222
  t50 := Tryz.underlying226
  a50 := Tryz.isAgg226
  z50 := Tryz.sizeOf226
  v50 := Tryz.zeroValue226
  t53 := Tryz.underlying229
  a53 := Tryz.isAgg229
  z53 := Tryz.sizeOf229
  v53 := Tryz.zeroValue229
  t55 := Tryz.underlying150
  a55 := Tryz.isAgg150
  z55 := Tryz.sizeOf150
  v55 := Tryz.zeroValue150
  t66 := Tryz.underlying249
  a66 := Tryz.isAgg249
  z66 := Tryz.sizeOf249
  v66 := Tryz.zeroValue249
  t70 := Tryz.underlying253
  a70 := Tryz.isAgg253
  z70 := Tryz.sizeOf253
  v70 := Tryz.zeroValue253
  t76 := Tryz.underlying258
  a76 := Tryz.isAgg258
  z76 := Tryz.sizeOf258
  v76 := Tryz.zeroValue258
  t77 := Tryz.underlying259
  a77 := Tryz.isAgg259
  z77 := Tryz.sizeOf259
  v77 := Tryz.zeroValue259 }
end Go.Proofs
namespace Go.Proofs.YtcilbmhkhllmjaaGreatDoor
open Go.ChangeShapes Go.WideShapes Go.ChangeAt Go.RowKit
set_option linter.unusedVariables false
namespace BilR
open LtR WinR
open RowG (Rws cellsAll)
open CatR (Blk Blk.new)
open Go.Sort (putRowK putRow mapBlock ahead HoldsK flatK size_flatK get_flatK)
/-- A window with the places of its lists. -/
structure WP where
  d : Wd
  ta : Option Addr
  tc : Nat
  ha : Option Addr
  hc : Nat
def WP.zero : WP := ⟨Wd.zero, none, 0, none, 0⟩
instance : Inhabited WP := ⟨WP.zero⟩
def WP.cells (x : WP) : List Value := [.string x.d.a, .string x.d.m, .int .i64 x.d.mo, .int .i64 x.d.ev, .int .i64 x.d.su, .int .i64 x.d.mx, .slice x.ta x.d.ts.length x.tc, .slice x.ha x.d.hs.length x.hc]
theorem WP.len (x : WP) : x.cells.length = 8 := rfl
theorem WP.one (x : WP) : ∀ v ∈ x.cells, v.oneCell' = true := by
  intro v hv
  simp only [WP.cells, List.mem_cons, List.not_mem_nil, or_false] at hv
  rcases hv with rfl | rfl | rfl | rfl | rfl | rfl | rfl | rfl <;> rfl
/-- Its lists are as they read. -/
def WP.Reads (x : WP) (w : World) : Prop := Tgs x.ta x.d.ts w ∧ Hrs x.ha x.d.hs w
theorem WP.Reads.below {x : WP} {w w' : World} (h : x.Reads w) (hb : Below w.heap.size w w') : x.Reads w' := ⟨h.1.below hb, h.2.below hb⟩
theorem wps_of {ao : Option Addr} {ws : List Wd} {w : World} (h : Wns ao ws w) : ∃ ps : List WP, ps.map WP.d = ws ∧ Rws 8 WP.cells WP.zero ao ps w ∧ ∀ p ∈ ps, p.Reads w := by
  rcases h with h0 | ⟨b, off, rfl, hl, hc⟩
  · obtain rfl : ws = [] := List.length_eq_zero_iff.1 h0
    exact ⟨[], rfl, .inl rfl, fun p hp => by cases hp⟩
  · have hex : ∀ j : Nat, ∃ p : WP, j < ws.length → p.d = ws.getD j Wd.zero ∧ (∀ i, i < 8 → w.cell? ⟨b, off + j * 8 + i, none⟩ = p.cells[i]?) ∧ p.Reads w := by
      intro j
      by_cases hj : j < ws.length
      · obtain ⟨ta, tc, ha, hc', c0, c1, c2, c3, c4, c5, c6, c7, hT, hH⟩ := hc j hj
        refine ⟨⟨ws.getD j Wd.zero, ta, tc, ha, hc'⟩, fun _ => ⟨rfl, fun i hi => ?_, hT, hH⟩⟩
        rcases (show i = 0 ∨ i = 1 ∨ i = 2 ∨ i = 3 ∨ i = 4 ∨ i = 5 ∨ i = 6 ∨ i = 7 by omega) with rfl | rfl | rfl | rfl | rfl | rfl | rfl | rfl
        · exact c0
        · exact c1
        · exact c2
        · exact c3
        · exact c4
        · exact c5
        · exact c6
        · exact c7
      · exact ⟨WP.zero, fun h => absurd h hj⟩
    obtain ⟨f, hf⟩ := Classical.axiomOfChoice hex
    refine ⟨(List.range ws.length).map f, ?_, .inr ⟨b, off, rfl, hl, fun j hj i hi => ?_⟩, fun p hp => ?_⟩
    · rw [List.map_map]
      apply List.ext_getElem
      · simp
      · intro i h1 h2
        have h3 := (hf i h2).1
        simp only [List.getElem_map, List.getElem_range, Function.comp]
        rw [h3]
        simp [List.getD, h2]
    · have hj' : j < ws.length := by simpa using hj
      have e : ((List.range ws.length).map f).getD j WP.zero = f j := by simp [List.getD, hj']
      rw [e]
      exact (hf j hj').2.1 i hi
    · obtain ⟨j, hj, rfl⟩ := List.mem_map.1 hp
      exact (hf j (by simpa using hj)).2.2
/-- How the closure tells two windows apart. -/
def wcf (x y : WP) : Int := cb x.d.m y.d.m
theorem wcf_lt (x y : WP) : ltOf wcf x y = lt x.d.m y.d.m := by
  unfold ltOf wcf
  rcases cb_cases x.d.m y.d.m with ⟨c1, c2, _⟩ | ⟨c1, c2, _⟩ | ⟨c1, c2, _⟩ <;> rw [c1, c2] <;> rfl
theorem wcf_swo : Go.Sort.SWO (ltOf wcf) where
  irrefl x := by rw [wcf_lt]; exact lt_irrefl _
  trans x y z h1 h2 := by rw [wcf_lt] at *; exact lt_trans h1 h2
  ntrans x y z h1 h2 := by
    rw [wcf_lt] at *
    cases h : lt x.d.m z.d.m
    · rfl
    · cases h3 : lt y.d.m x.d.m
      · rw [lt_total h1 h3] at h; rw [h] at h2; cases h2
      · have := lt_trans h3 h
        rw [this] at h2; cases h2
set_option maxHeartbeats 1000000 in
theorem wclos (x y : WP) (W : World) : Calls Tryz.prog 98 #[.agg x.cells.toArray, .agg y.cells.toArray] W fun e w' => e = .returned (.int .i64 (wcf x y)) ∧ ∃ q os', w' = Go.Sort.grow (W.drewN q) os' := by
  have hcon := fun W' => icb x.d.m y.d.m W'
  unfold wcf
  generalize cb x.d.m y.d.m = r at hcon ⊢
  obtain ⟨⟨xa, xm, xo, xe, xs, xx, xt, xh⟩, ta, tc, ha, hc⟩ := x
  obtain ⟨⟨ya, ym, yo, ye, ys, yx, yt, yh⟩, tb, td, hb, hd⟩ := y
  simp only [WP.cells] at *
  generalize xt.length = l1
  generalize xh.length = l2
  generalize yt.length = l3
  generalize yh.length = l4
  go_enter Tryz.func98, Tryz.ntmps98
  go_wp2_with fail
  refine (hcon _).mono ?_
  rintro e w' ⟨rfl, rfl⟩
  go_wp2_with fail
  go_ret
  exact ⟨rfl, 0, _, by rw [Go.Sort.alloc_eq_grow, Go.Sort.alloc_eq_grow, Go.Sort.grow_grow]; rfl⟩
theorem sort_grown (enc : WP → List Value) (k : Nat) (w : World) (b off n : Nat) (d : Array WP) (os : Array Obj) : w.grownBy (sortWorldK enc k w b off n d os) (some b) := by
  refine ⟨rfl, rfl, rfl, size_sortWorldK_c enc k w b off n d os, fun k' hk hne => ?_⟩
  have hne' : k' ≠ b := fun e => hne (by rw [e])
  simp only [sortWorldK, putRowK, putRow, mapBlock, Go.Sort.grow]
  rw [Array.getElem?_append_left (by simpa using hk), Array.getElem?_modify, if_neg (fun e => hne' e.symm)]
  rfl
theorem getD_arr (d : Array WP) (i : Nat) (h : i < d.size) : d[i]! = d.toList.getD i WP.zero := by
  simp [List.getD, h]
theorem perm_of {d d' : Array WP} (h : Go.Sort.PermIn 0 d.size d d') : d'.toList.Perm d.toList := by
  obtain ⟨h1, _, h3⟩ := h
  have e1 : d'.extract 0 d.size = d' := by rw [← h1]; simp
  have e2 : d.extract 0 d.size = d := by simp
  rw [e1, e2] at h3
  exact h3
theorem sorted_of {d' : Array WP} {n : Nat} (hn : d'.size = n) (h : Go.Sort.SortedIn (ltOf wcf) 0 n d') : d'.toList.Pairwise (fun x y => lt y.d.m x.d.m = false) := by
  refine List.pairwise_iff_getElem.2 (fun i j hi hj hij => ?_)
  have hi' : i < d'.size := by simpa using hi
  have hj' : j < d'.size := by simpa using hj
  have := h i j (Nat.zero_le _) hij (by omega)
  rw [wcf_lt, getElem!_pos d' i hi', getElem!_pos d' j hj'] at this
  simpa using this
set_option maxHeartbeats 1000000 in
theorem sort_wds (b off cap : Nat) (qs : List WP) (w : World) (hb : b < w.heap.size) (hlen : qs.length ≤ 1048576)
    (hc : ∀ i, i < qs.length → ∀ j, j < 8 → w.cell? ⟨b, off + i * 8 + j, none⟩ = (qs.getD i WP.zero).cells[j]?) (hf : ∀ o, o < qs.length * 8 → w.frozen? ⟨b, off + o, none⟩ = false) :
    Calls Tryz.prog 97 #[.slice (some ⟨b, off, none⟩) qs.length cap, .func (.func 98) #[] #[]] w fun e w' => e = .returned (.tuple #[]) ∧ ∃ rs : List WP, rs.Perm qs ∧ rs.Pairwise (fun x y => lt y.d.m x.d.m = false) ∧ w.grownBy w' (some b) ∧ Rws 8 WP.cells WP.zero (some ⟨b, off, none⟩) rs w' := by
  have eg : ∀ args w, (callFunc 98 args).run Tryz.prog w = .ok (.enter 98 args) w := enters_of Tryz.func98 (by kernel_rfl) rfl
  have hH : HoldsK WP.cells 8 w b off qs.toArray := by
    intro t ht
    rw [size_flatK] at ht
    have hs : qs.toArray.size = qs.length := by simp
    rw [hs] at ht
    have h8 : t / 8 < qs.length := by omega
    have hc' := hc (t / 8) h8 (t % 8) (by omega)
    rw [show off + t / 8 * 8 + t % 8 = off + t by omega] at hc'
    refine ⟨?_, hf t ht⟩
    rw [get_flatK _ _ _ _ (by rw [hs]; exact ht), hc', getD_arr _ _ (by simpa using h8)]
    have hl : t % 8 < (qs.toArray.toList.getD (t / 8) WP.zero).cells.length := by rw [WP.len]; omega
    rw [id, getElem!_pos (qs.toArray.toList.getD (t / 8) WP.zero).cells (t % 8) hl]
    simp
  have hcon := AnyQ.slices_SortFunc Tryz.sortS 8 (fun w => by kernel_rfl) (fun w => by kernel_rfl) WP.cells WP.len WP.one wcf wcf_swo 98 #[] b off cap qs.toArray w eg (fun _ _ _ _ x y => wclos x y _) hH hb (by simp; omega)
  change Calls Tryz.prog 97 _ _ _ at hcon
  rw [show qs.toArray.size = qs.length by simp] at hcon
  refine hcon.mono ?_
  rintro e w' ⟨rfl, d', n, os, hp, hs, rfl⟩
  have hp' : Go.Sort.PermIn 0 qs.toArray.size qs.toArray d' := by simpa using hp
  have hsz : d'.size = qs.toArray.size := hp'.1
  have hH' := holdsK_sortWorldK_c WP.cells 8 w b off qs.toArray d' n os hH hb hsz
  refine ⟨rfl, d'.toList, by simpa using perm_of hp', sorted_of (by simpa using hsz) hs, sort_grown _ _ _ _ _ _ _ _, .inr ⟨b, off, rfl, Nat.lt_of_lt_of_le hb (sort_grown WP.cells 8 w b off n d' os).size, fun j hj i hi => ?_⟩⟩
  have hj' : j < d'.size := by simpa using hj
  have ht : j * 8 + i < d'.size * 8 := by omega
  have h1 := (hH' (j * 8 + i) (by rw [size_flatK]; exact ht)).1
  rw [get_flatK _ _ _ _ ht, show (j * 8 + i) / 8 = j by omega, show (j * 8 + i) % 8 = i by omega, getD_arr _ _ hj', id] at h1
  rw [Nat.add_assoc, h1]
  have hl : i < (d'.toList.getD j WP.zero).cells.length := by rw [WP.len]; exact hi
  rw [getElem!_pos (d'.toList.getD j WP.zero).cells i hl]
  simp
end BilR
end Go.Proofs.YtcilbmhkhllmjaaGreatDoor
namespace Go.Proofs.YtcilbmhkhllmjaaGreatDoor
open Go.ChangeShapes Go.WideShapes Go.ChangeAt Go.RowKit
set_option linter.unusedVariables false
namespace WinR
open RowG LtR
open CatR (Blk Blk.new)
/-- What the round reads. -/
def HSt (w : World) (ao : Option Addr) (len cap : Nat) (b o1 o2 : Nat) (x y : H) (W : World) : Prop := Below w.heap.size w W ∧ w.heap.size < W.heap.size ∧ b < W.heap.size ∧ W.cell? ⟨w.heap.size, 0, none⟩ = some (.slice ao len cap) ∧ W.cell? ⟨w.heap.size, 1, none⟩ = some (.func (.func 185) #[] #[]) ∧ W.cell? ⟨w.heap.size, 2, none⟩ = some (.func (.func 186) #[] #[]) ∧ W.cell? ⟨b, o1, none⟩ = some (.int .i64 x.h) ∧ W.cell? ⟨b, o1 + 1, none⟩ = some (.int .i64 x.s) ∧ W.cell? ⟨b, o2, none⟩ = some (.int .i64 y.h) ∧ W.cell? ⟨b, o2 + 1, none⟩ = some (.int .i64 y.s)
theorem HSt.below {w : World} {ao : Option Addr} {len cap b o1 o2 : Nat} {x y : H} {W W' : World} (h : HSt w ao len cap b o1 o2 x y W) (hb : Below W.heap.size W W') : HSt w ao len cap b o1 o2 x y W' := by
  obtain ⟨h0, h1, h2, c0, c1, c2, d0, d1, d2, d3⟩ := h
  have c := fun o => hb.cell (p := ⟨w.heap.size, o, none⟩) h1
  have d := fun o => hb.cell (p := ⟨b, o, none⟩) h2
  have := hb.size
  exact ⟨h0.trans (hb.mono h0.size), by omega, by omega, (c 0).trans c0, (c 1).trans c1, (c 2).trans c2, (d _).trans d0, (d _).trans d1, (d _).trans d2, (d _).trans d3⟩
set_option maxRecDepth 100000 in
set_option maxHeartbeats 4000000 in
theorem hours_rises (ao : Option Addr) (cap : Nat) (hs : List H) (w : World) (hlen : hs.length ≤ 1048576) (hI : Hrs ao hs w) :
    Calls Tryz.prog 190 #[.agg #[.slice ao hs.length cap, .func (.func 185) #[] #[], .func (.func 186) #[] #[]]] w fun e w' => e = .returned (.bool (riseB hlt H.zero hs)) ∧ Below w.heap.size w w' := by
  have HI := hid_intro hI
  have HNO := hid_intro (fun k => rise_no (r := hlt) (z := H.zero) (xs := hs) (k := k))
  have HYES : Hid (RiseTo hlt H.zero hs hs.length → riseB hlt H.zero hs = true) := hid_intro rise_yes
  generalize riseB hlt H.zero hs = R at *
  obtain ⟨len, hl⟩ : ∃ len, len = hs.length := ⟨_, rfl⟩
  rw [← hl] at hlen HYES ⊢
  have HL := hid_intro hl
  clear hI hl
  have HB0 : Hid (Below w.heap.size w (w.alloc (.cells #[.slice ao len cap, .func (.func 185) #[] #[], .func (.func 186) #[] #[]] 183))) := hid_intro ((Below.refl _ _).alloc (Nat.le_refl _) _)
  have HX0 : Hid (Blk w.heap.size [.slice ao len cap, .func (.func 185) #[] #[], .func (.func 186) #[] #[]] (w.alloc (.cells #[.slice ao len cap, .func (.func 185) #[] #[], .func (.func 186) #[] #[]] 183))) := hid_intro (Blk.new w _ _)
  go_enter Tryz.func190, Tryz.ntmps190
  go_wp2_with fail
  go_loopw [3] (fun z wr => ∃ k : Nat, 1 ≤ k ∧ (k = 1 ∨ k ≤ len) ∧ z = .int .i64 (k : Int) ∧ Hid (RiseTo hlt H.zero hs k) ∧ Hid (Below w.heap.size w wr) ∧ Hid (Blk w.heap.size [.slice ao len cap, .func (.func 185) #[] #[], .func (.func 186) #[] #[]] wr)) (fun z _ => len - (intOf z).toNat)
  case atStart => exact ⟨1, by omega, by omega, rfl, hid_intro (rise_one _ (by omega)), HB0, HX0⟩
  case round =>
    obtain ⟨k, hk1, hk2, rfl, HR, HB, HX⟩ := hrel
    obtain ⟨xl, xc⟩ := HX.out
    have x0 : wr.cell? ⟨w.heap.size, 0, none⟩ = some (.slice ao len cap) := xc 0 (by simp)
    have x1 : wr.cell? ⟨w.heap.size, 1, none⟩ = some (.func (.func 185) #[] #[]) := xc 1 (by simp)
    have x2 : wr.cell? ⟨w.heap.size, 2, none⟩ = some (.func (.func 186) #[] #[]) := xc 2 (by simp)
    clear xc
    by_cases hlt1 : k < len
    · have hlt2 : (k : Int) < (len : Int) := by omega
      have hk0 : (0 : Int) ≤ (k : Int) := by omega
      obtain ⟨j, hj⟩ : ∃ j, j = k - 1 := ⟨_, rfl⟩
      have hj0 : (0 : Int) ≤ (j : Int) := by omega
      have hj1 : (j : Int) < (len : Int) := by omega
      have hwr : IntKind.i64.wrap ((k : Int) - 1) = (j : Int) := by rw [IntKind.wrap_i64]; omega
      obtain ⟨b, off, rfl, hbl, c1, c2⟩ := (HI.out.below HB.out).at k (by have := HL.out; omega)
      obtain ⟨b', off', he, _, d1, d2⟩ := (HI.out.below HB.out).at j (by have := HL.out; omega)
      obtain ⟨rfl, rfl⟩ : b = b' ∧ off = off' := by simpa using he
      have HN := hid_intro (HNO.out k (by have := HL.out; omega) (by omega))
      have HM := hid_intro (fun h => HR.out.more (k := k) h)
      rw [← hj] at HN HM
      generalize hs.getD k H.zero = X at *
      generalize hs.getD j H.zero = Y at *
      have HS0 : Hid (HSt w (some ⟨b, off, none⟩) len cap b (off + k * 2) (off + j * 2) X Y wr.drew) := hid_intro (HSt.below ⟨HB.out, xl, hbl, x0, x1, x2, c1, c2, d1, d2⟩ (Below.refl _ _).drew)
      obtain ⟨xh, xs⟩ := X
      obtain ⟨yh, ys⟩ := Y
      dsimp only at c1 c2 d1 d2
      clear hj
      by_cases hle : xh ≤ yh
      · have HF : Hid (R = false) := hid_intro (HN.out (by unfold hlt; exact decide_eq_false (by show ¬ yh < xh; omega)))
        go_wp2_with fail
        go_region_held3 (fun W => Below w.heap.size w W ∧ w.heap.size < W.heap.size ∧ b < W.heap.size ∧ W.cell? ⟨w.heap.size, 0, none⟩ = some (.slice (some ⟨b, off, none⟩) len cap) ∧ W.cell? ⟨w.heap.size, 1, none⟩ = some (.func (.func 185) #[] #[]) ∧ W.cell? ⟨w.heap.size, 2, none⟩ = some (.func (.func 186) #[] #[]) ∧ W.cell? ⟨b, off + k * 2, none⟩ = some (.int .i64 xh) ∧ W.cell? ⟨b, off + k * 2 + 1, none⟩ = some (.int .i64 xs) ∧ W.cell? ⟨b, off + j * 2, none⟩ = some (.int .i64 yh) ∧ W.cell? ⟨b, off + j * 2 + 1, none⟩ = some (.int .i64 ys)) (first | assumption | (exact HS0.out) | (exact HSt.below (x := ⟨xh, xs⟩) (y := ⟨yh, ys⟩) (by assumption) hb))
          (first | (go_at_call 185; refine (hkey _ _ _).mono ?_; rintro e w' ⟨rfl, hb⟩))
        rename_i hSz
        have HSz := hid_intro hSz.1
        clear hSz
        go_wp2_with fail
        go_ret
        exact ⟨ret_bool HF.out.symm, HSz.out⟩
      · have hle2 : yh < xh := by omega
        have HM2 := hid_intro (HM.out (fun _ => by unfold hlt; exact decide_eq_true (by show yh < xh; omega)))
        go_wp2_with fail
        go_region_held3 (fun W => Below w.heap.size w W ∧ w.heap.size < W.heap.size ∧ b < W.heap.size ∧ W.cell? ⟨w.heap.size, 0, none⟩ = some (.slice (some ⟨b, off, none⟩) len cap) ∧ W.cell? ⟨w.heap.size, 1, none⟩ = some (.func (.func 185) #[] #[]) ∧ W.cell? ⟨w.heap.size, 2, none⟩ = some (.func (.func 186) #[] #[]) ∧ W.cell? ⟨b, off + k * 2, none⟩ = some (.int .i64 xh) ∧ W.cell? ⟨b, off + k * 2 + 1, none⟩ = some (.int .i64 xs) ∧ W.cell? ⟨b, off + j * 2, none⟩ = some (.int .i64 yh) ∧ W.cell? ⟨b, off + j * 2 + 1, none⟩ = some (.int .i64 ys)) (first | assumption | (exact HS0.out) | (exact HSt.below (x := ⟨xh, xs⟩) (y := ⟨yh, ys⟩) (by assumption) hb))
          (first | (go_at_call 185; refine (hkey _ _ _).mono ?_; rintro e w' ⟨rfl, hb⟩))
        rename_i hSz
        have HSz := hid_intro hSz.1
        have HSy : Hid (Blk w.heap.size [.slice (some ⟨b, off, none⟩) len cap, .func (.func 185) #[] #[], .func (.func 186) #[] #[]] w') := hid_intro ⟨hSz.2.1, fun i hi => by
          match i, hi with
          | 0, _ => exact hSz.2.2.2.1
          | 1, _ => exact hSz.2.2.2.2.1
          | 2, _ => exact hSz.2.2.2.2.2.1⟩
        clear hSz
        go_wp2_with fail
        go_roundw
        case rel => exact ⟨k + 1, by omega, by omega, by go_num, HM2, HSz, HSy⟩
        case measure => simp [intOf]; omega
    · have hlt2 : ¬ (k : Int) < (len : Int) := by omega
      have HF : Hid (R = true) := hid_intro (HYES.out (fun i h1 h2 => HR.out i (by omega) h2))
      go_wp2_with fail
      go_ret
      exact ⟨ret_bool HF.out.symm, HB.out⟩
end WinR
end Go.Proofs.YtcilbmhkhllmjaaGreatDoor
namespace Go.Proofs.YtcilbmhkhllmjaaGreatDoor
open Go.ChangeShapes Go.WideShapes Go.ChangeAt Go.RowKit
set_option linter.unusedVariables false
namespace DateR
open DateM
theorem hid_intro {p : Prop} (h : p) : Hid p := h
theorem tmod_iff (y k : Int) : y.tmod k = 0 ↔ y % k = 0 := ⟨fun h => Int.emod_eq_zero_of_dvd (Int.dvd_of_tmod_eq_zero h), fun h => Int.tmod_eq_zero_of_dvd (Int.dvd_of_emod_eq_zero h)⟩
theorem leap_a (y : Int) (h1 : y.tmod 4 = 0) (h2 : y.tmod 100 = 0) : (y.tmod 400 == 0) = leapB y := by
  rw [tmod_iff] at h1 h2
  unfold leapB
  rw [Bool.eq_iff_iff, beq_iff_eq, decide_eq_true_eq, tmod_iff]
  omega
theorem leap_b (y : Int) (h1 : y.tmod 4 = 0) (h2 : ¬ y.tmod 100 = 0) : true = leapB y := by
  rw [tmod_iff] at h1 h2
  exact (decide_eq_true ⟨h1, .inl h2⟩).symm
theorem leap_c (y : Int) (h1 : ¬ y.tmod 4 = 0) : false = leapB y := by
  rw [tmod_iff] at h1
  exact (decide_eq_false fun h => h1 h.1).symm
theorem leap_d (y : Int) (h1 : ¬ y.tmod 4 = 0) : (y.tmod 400 == 0) = leapB y := by
  rw [tmod_iff] at h1
  unfold leapB
  rw [Bool.eq_iff_iff, beq_iff_eq, decide_eq_true_eq, tmod_iff]
  omega
theorem impl_leap (y : Int) (w : World) : Calls Tryz.prog 214 #[.int .i64 y] w fun e w' => e = .returned (.bool (leapB y)) ∧ w' = w := by
  go_enter Tryz.func214, Tryz.ntmps214
  go_wp2
  · go_ret
    exact ⟨ret_bool (leap_a y ‹_› ‹_›), rfl⟩
  · go_ret
    exact ⟨ret_bool (leap_b y ‹_› ‹_›), rfl⟩
  · go_ret
    exact ⟨ret_bool (leap_d y ‹_›), rfl⟩
theorem spec_leap (y : Int) (w : World) : Calls Tryz.prog 202 #[.int .i64 y] w fun e w' => e = .returned (.bool (leapB y)) ∧ w' = w := by
  go_enter Tryz.func202, Tryz.ntmps202
  go_wp2
  · go_ret
    exact ⟨ret_bool (leap_a y ‹_› ‹_›), rfl⟩
  · go_ret
    exact ⟨ret_bool (leap_b y ‹_› ‹_›), rfl⟩
  · go_ret
    exact ⟨ret_bool (leap_c y ‹_›), rfl⟩
/-- The day of the week. -/
def wd (d : Int) : Int := if 0 ≤ d ∧ d ≤ 100000 then (d + 3) % 7 else -1
end DateR
end Go.Proofs.YtcilbmhkhllmjaaGreatDoor
namespace Go.Proofs.YtcilbmhkhllmjaaGreatDoor
open Go.ChangeShapes Go.WideShapes Go.ChangeAt Go.RowKit
set_option linter.unusedVariables false
namespace DateR
open DateM
/-- The table of the months' days. -/
def tab : List Int := [31, 28, 31, 30, 31, 30, 31, 31, 30, 31, 30, 31]
/-- The variable holds the table. -/
def Laid (w : World) : Prop := 3 < w.heap.size ∧ ∀ k : Nat, k < 12 → w.cell? ⟨3, k, none⟩ = some (.int .i64 (tab.getD k 0))
theorem Laid.below {w w' : World} (h : Laid w) (hb : Below w.heap.size w w') : Laid w' :=
  ⟨by have := hb.size; have := h.1; omega, fun k hk => by rw [hb.cell (p := ⟨3, k, none⟩) h.1]; exact h.2 k hk⟩
theorem bel_drewN {B : Nat} {a w : World} (h : Below B a w) (n : Nat) : Below B a (w.drewN n) := ⟨h.os, h.tape, h.output, h.size, h.block⟩
theorem Laid.drewN {w : World} (h : Laid w) (n : Nat) : Laid (w.drewN n) := ⟨by simpa using h.1, fun k hk => by simpa using h.2 k hk⟩
theorem within_any (n low high : Int) (w : World) :
    Calls Tryz.prog 66 #[.int .i64 n, .int .i64 low, .int .i64 high] w fun e w' => e = .returned (.bool (decide (low ≤ n ∧ n ≤ high))) ∧ w' = w := by
  by_cases h1 : low ≤ n
  · go_enter Tryz.func66, Tryz.ntmps66
    go_wp2
    go_ret
    exact ⟨ret_bool (by simp [h1]), rfl⟩
  · go_enter Tryz.func66, Tryz.ntmps66
    go_wp2
    go_ret
    exact ⟨ret_bool (by rw [decide_eq_false (show ¬ low ≤ n by omega)]; rfl), rfl⟩
theorem tab_md (y : Int) (k : Nat) (h : k < 12) (h2 : k = 1 → leapB y = false) : tab.getD k 0 = md y ((k : Int) + 1) := by
  match k, h, h2 with
  | 0, _, _ => rfl
  | 1, _, h2 => unfold md; rw [h2 rfl]; rfl
  | 2, _, _ => rfl
  | 3, _, _ => rfl
  | 4, _, _ => rfl
  | 5, _, _ => rfl
  | 6, _, _ => rfl
  | 7, _, _ => rfl
  | 8, _, _ => rfl
  | 9, _, _ => rfl
  | 10, _, _ => rfl
  | 11, _, _ => rfl
theorem tab_name (w : World) (k : Nat) (hk : k < 12) (hL : Laid w) : ∃ X : Int, w.cell? ⟨3, k, none⟩ = some (.int .i64 X) ∧ Hid (X = tab.getD k 0) := ⟨_, hL.2 k hk, rfl⟩
theorem md_2 (y : Int) : md y 2 = if leapB y = true then 29 else 28 := rfl
theorem impl_md_in (y : Int) (k : Nat) (hk : k < 12) (y1 : 1970 ≤ y) (y2 : y ≤ 2200) (w : World) (hL : Laid w) :
    Calls Tryz.prog 215 #[.int .i64 y, .int .i64 ((k : Int) + 1)] w fun e w' => e = .returned (.int .i64 (md y ((k : Int) + 1))) ∧ w' = w := by
  obtain ⟨X, hc, HX⟩ := tab_name w k hk hL
  have h0 := hL.1
  have k1 : (1 : Int) ≤ (k : Int) + 1 := by omega
  have k2 : (k : Int) + 1 ≤ 12 := by omega
  have HK := hid_intro hk
  clear hL
  by_cases e : k = 1
  · subst e
    cases hl : leapB y
    · have hi := fun w => impl_leap y w
      rw [hl] at hi
      have HM : Hid (X = md y 2) := by
        show X = md y 2
        rw [HX.out, md_2, hl]; rfl
      clear hl
      go_enter Tryz.func215, Tryz.ntmps215
      go_wp2_with (first | (go_at_call 66; go_in) | (go_at_call 214; refine (hi _).mono ?_; rintro e w' ⟨rfl, rfl⟩))
      go_ret
      exact ⟨ret_int HM.out, rfl⟩
    · have hi := fun w => impl_leap y w
      rw [hl] at hi
      have HM : Hid (29 = md y 2) := by
        show 29 = md y 2
        rw [md_2, hl]; rfl
      clear hl
      go_enter Tryz.func215, Tryz.ntmps215
      go_wp2_with (first | (go_at_call 66; go_in) | (go_at_call 214; refine (hi _).mono ?_; rintro e w' ⟨rfl, rfl⟩))
      go_ret
      exact ⟨ret_int HM.out, rfl⟩
  · have ne : ¬ (k : Int) + 1 = 2 := by omega
    have nf : ((k : Int) + 1 == 2) = false := by simpa using ne
    have HM := hid_intro (HX.out.trans (tab_md y k hk fun h => absurd h e))
    clear e hk
    go_enter Tryz.func215, Tryz.ntmps215
    go_wp2_with (first | (go_at_call 66; go_in) | (go_at_call 214; refine (impl_leap y _).mono ?_; rintro e w' ⟨rfl, rfl⟩))
    go_ret
    exact ⟨ret_int HM.out, rfl⟩
theorem md_key (y m : Int) (h : ¬ (1970 ≤ y ∧ y ≤ 2200 ∧ 1 ≤ m ∧ m ≤ 12)) : (¬ 1970 ≤ y) ∨ (1970 ≤ y ∧ ¬ y ≤ 2200) ∨ (1970 ≤ y ∧ y ≤ 2200 ∧ ((¬ 1 ≤ m) ∨ (1 ≤ m ∧ ¬ m ≤ 12))) := by omega
theorem impl_md_out (y m : Int) (h : ¬ (1970 ≤ y ∧ y ≤ 2200 ∧ 1 ≤ m ∧ m ≤ 12)) (w : World) :
    Calls Tryz.prog 215 #[.int .i64 y, .int .i64 m] w fun e w' => e = .returned (.int .i64 0) ∧ w' = w := by
  rcases md_key y m h with h1 | ⟨h1, h2⟩ | ⟨h1, h2, h3 | ⟨h3, h4⟩⟩
  all_goals
    clear h
    go_enter Tryz.func215, Tryz.ntmps215
    go_wp2
    go_ret
    exact ⟨rfl, rfl⟩
theorem impl_md (y m : Int) (w : World) (hL : Laid w) :
    Calls Tryz.prog 215 #[.int .i64 y, .int .i64 m] w fun e w' => e = .returned (.int .i64 (mdays y m)) ∧ w' = w := by
  unfold mdays
  by_cases h : 1970 ≤ y ∧ y ≤ 2200 ∧ 1 ≤ m ∧ m ≤ 12
  · rw [if_pos h]
    obtain ⟨k, rfl⟩ : ∃ k : Nat, m = (k : Int) + 1 := ⟨(m - 1).toNat, by omega⟩
    exact impl_md_in y k (by omega) h.1 h.2.1 w hL
  · rw [if_neg h]
    exact impl_md_out y m h w
theorem tab_at (k : Nat) (h : k < 12) : ([Value.int IntKind.i64 31, Value.int IntKind.i64 28, Value.int IntKind.i64 31, Value.int IntKind.i64 30, Value.int IntKind.i64 31, Value.int IntKind.i64 30, Value.int IntKind.i64 31, Value.int IntKind.i64 31, Value.int IntKind.i64 30, Value.int IntKind.i64 31, Value.int IntKind.i64 30, Value.int IntKind.i64 31] : List Value)[k] = .int .i64 (tab.getD k 0) := by
  match k, h with
  | 0, _ => rfl
  | 1, _ => rfl
  | 2, _ => rfl
  | 3, _ => rfl
  | 4, _ => rfl
  | 5, _ => rfl
  | 6, _ => rfl
  | 7, _ => rfl
  | 8, _ => rfl
  | 9, _ => rfl
  | 10, _ => rfl
  | 11, _ => rfl
theorem spec_md_in (y : Int) (k : Nat) (hk : k < 12) (y1 : 1970 ≤ y) (y2 : y ≤ 2200) (w : World) :
    Calls Tryz.prog 181 #[.int .i64 y, .int .i64 ((k : Int) + 1)] w fun e w' => e = .returned (.int .i64 (md y ((k : Int) + 1))) ∧ Below w.heap.size w w' := by
  have k1 : (1 : Int) ≤ (k : Int) + 1 := by omega
  have k2 : (k : Int) + 1 ≤ 12 := by omega
  by_cases e : k = 1
  · subst e
    cases hl : leapB y
    · have hi := fun w => spec_leap y w
      rw [hl] at hi
      have HM : Hid (28 = md y 2) := by
        show 28 = md y 2
        rw [md_2, hl]; rfl
      clear hl
      go_enter Tryz.func181, Tryz.ntmps181
      go_wp2_with (first | (go_at_call 180; go_in) | (go_at_call 69; go_in) | (go_at_call 202; refine (hi _).mono ?_; rintro e w' ⟨rfl, rfl⟩))
      go_ret
      exact ⟨ret_int HM.out, (Below.refl _ _).alloc (Nat.le_refl _) _⟩
    · have hi := fun w => spec_leap y w
      rw [hl] at hi
      have HM : Hid (29 = md y 2) := by
        show 29 = md y 2
        rw [md_2, hl]; rfl
      clear hl
      go_enter Tryz.func181, Tryz.ntmps181
      go_wp2_with (first | (go_at_call 180; go_in) | (go_at_call 69; go_in) | (go_at_call 202; refine (hi _).mono ?_; rintro e w' ⟨rfl, rfl⟩))
      go_ret
      exact ⟨ret_int HM.out, Below.refl _ _⟩
  · have ne : ¬ (k : Int) + 1 = 2 := by omega
    have nf : ((k : Int) + 1 == 2) = false := by simpa using ne
    have HM := hid_intro (tab_md y k hk fun h => absurd h e)
    have HK := hid_intro hk
    clear e
    go_enter Tryz.func181, Tryz.ntmps181
    go_wp2_with (first | (go_at_call 180; go_in) | (go_at_call 69; go_in) | (go_at_call 202; refine (spec_leap y _).mono ?_; rintro e w' ⟨rfl, rfl⟩))
    go_ret
    exact ⟨(congrArg Ending.returned (tab_at k HK.out)).trans (ret_int HM.out), (Below.refl _ _).alloc (Nat.le_refl _) _⟩
theorem spec_md_out (y m : Int) (h : ¬ (1970 ≤ y ∧ y ≤ 2200 ∧ 1 ≤ m ∧ m ≤ 12)) (w : World) :
    Calls Tryz.prog 181 #[.int .i64 y, .int .i64 m] w fun e w' => e = .returned (.int .i64 0) ∧ w' = w := by
  rcases md_key y m h with h1 | ⟨h1, h2⟩ | ⟨h1, h2, h3 | ⟨h3, h4⟩⟩
  all_goals
    clear h
    go_enter Tryz.func181, Tryz.ntmps181
    go_wp2
    go_ret
    exact ⟨rfl, rfl⟩
theorem spec_md (y m : Int) (w : World) :
    Calls Tryz.prog 181 #[.int .i64 y, .int .i64 m] w fun e w' => e = .returned (.int .i64 (mdays y m)) ∧ Below w.heap.size w w' := by
  unfold mdays
  by_cases h : 1970 ≤ y ∧ y ≤ 2200 ∧ 1 ≤ m ∧ m ≤ 12
  · rw [if_pos h]
    obtain ⟨k, rfl⟩ : ∃ k : Nat, m = (k : Int) + 1 := ⟨(m - 1).toNat, by omega⟩
    exact spec_md_in y k (by omega) h.1 h.2.1 w
  · rw [if_neg h]
    exact (spec_md_out y m h w).mono fun e w' ⟨h1, h2⟩ => ⟨h1, h2 ▸ Below.refl _ _⟩
/-- A date as the program has it. -/
def date (y m d : Int) : Value := .agg #[.int .i64 y, .int .i64 m, .int .i64 d]
end DateR
end Go.Proofs.YtcilbmhkhllmjaaGreatDoor
