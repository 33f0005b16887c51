/-
  What strings.Compare hands back.
  What strings.Compare hands back, against the order of texts. No condition.
  What slices.SortFunc hands back at structs. The kit's structure, laid over this program.
  Windows with the places of their lists; slices.SortFunc of windows by their meters. The condition: fewer than 4611686018427387904 of them.
  The program's looks at windows that are to be billed: all right; two of one meter. The conditions: sizes of at most 1048576; the program's table holds what its text lays.
  What an account is billed, in numbers: its windows in the order of their meters, each rated. No condition.
-/
import Derived.Shelf.Small.Bits
import Derived.Shelf.Small.Strs
import Derived.Shelf.Strconv.Itoa0
import Derived.Test.YtcilbmhkhllmjaaGreatDoorProg
import Derived.Shelf.SlSortCmp.WholeK
import Derived.Ground.SlsfProg
import Derived.Deep.RegionHeld3
import Derived.Test.YtcilbmhkhllmjaaGreatDoorB16
namespace Go.Proofs
open Go.Shelf
def Tryz.lays106_ren : Go.Shelf.Ren := ⟨fun | 106 => 99 | 213 => 132 | 265 => 170 | n => n, fun | 9 => 9 | 3 => 3 | n => n, fun | n => n⟩
theorem Tryz.lays106 : Go.Proofs.Lays.n106 Tryz.prog Tryz.lays106_ren := {
  mixed := by kernel_rfl
  f106 := Tryz.func99.trans (congrArg some (by kernel_rfl))
  f213 := Tryz.func132.trans (congrArg some (by kernel_rfl))
  f265 := Tryz.func170.trans (congrArg some (by kernel_rfl))
  t3 := Tryz.underlying3
  a3 := Tryz.isAgg3
  z3 := Tryz.sizeOf3
  v3 := Tryz.zeroValue3
  t9 := Tryz.underlying9
  a9 := Tryz.isAgg9
  z9 := Tryz.sizeOf9
  v9 := Tryz.zeroValue9 }
open Go.RowKit in
theorem Tryz.strings_Compare (a b : ByteArray) (w : World) :
    Calls Tryz.prog 99 #[.string a, .string b] w fun e w' => e = .returned (.int .i64 (Lib.compareBytes a.data.toList b.data.toList)) ∧ w' = w := Any.strings_Compare Tryz.lays106 a b w
end Go.Proofs
namespace Go.Proofs.YtcilbmhkhllmjaaGreatDoor
open Go.ChangeShapes Go.WideShapes Go.ChangeAt Go.RowKit
set_option linter.unusedVariables false
namespace WinR
open LtR
open Go.Op (bytesLess)
theorem cmp_cases : ∀ (a b : List UInt8), (Lib.compareBytes a b = -1 ∧ bytesLess a b = true ∧ a ≠ b) ∨ (Lib.compareBytes a b = 0 ∧ bytesLess a b = false ∧ a = b) ∨ (Lib.compareBytes a b = 1 ∧ bytesLess a b = false ∧ a ≠ b)
  | [], [] => .inr (.inl ⟨rfl, rfl, rfl⟩)
  | [], _ :: _ => .inl ⟨rfl, rfl, by simp⟩
  | _ :: _, [] => .inr (.inr ⟨rfl, rfl, by simp⟩)
  | a :: xs, b :: ys => by
    unfold Lib.compareBytes bytesLess
    by_cases h1 : a < b
    · have hne : a ≠ b := fun e => by subst e; exact absurd h1 (by simp)
      exact .inl ⟨by rw [if_pos h1], by simp [h1], by simp [hne]⟩
    · rw [if_neg h1]
      by_cases h2 : b < a
      · have hne : a ≠ b := fun e => by subst e; exact absurd h2 (by simp)
        exact .inr (.inr ⟨by rw [if_pos h2], by simp [h1, hne], by simp [hne]⟩)
      · rw [if_neg h2]
        obtain rfl : a = b := UInt8.le_antisymm (UInt8.not_lt.1 h2) (UInt8.not_lt.1 h1)
        rcases cmp_cases xs ys with ⟨c1, c2, c3⟩ | ⟨c1, c2, c3⟩ | ⟨c1, c2, c3⟩
        · exact .inl ⟨c1, by simp [c2], by simp [c3]⟩
        · exact .inr (.inl ⟨c1, by simp [c2], by simp [c3]⟩)
        · exact .inr (.inr ⟨c1, by simp [c2], by simp [c3]⟩)
def cb (x y : ByteArray) : Int := Lib.compareBytes x.data.toList y.data.toList
theorem cb_cases (x y : ByteArray) : (cb x y = -1 ∧ lt x y = true ∧ x ≠ y) ∨ (cb x y = 0 ∧ lt x y = false ∧ x = y) ∨ (cb x y = 1 ∧ lt x y = false ∧ x ≠ y) := by
  have e : ∀ z : ByteArray, z.toList = z.data.toList := fun z => by first | rfl | simp | exact ByteArray.toList_eq z
  unfold cb lt
  rw [e, e]
  rcases cmp_cases x.data.toList y.data.toList with ⟨c1, c2, c3⟩ | ⟨c1, c2, c3⟩ | ⟨c1, c2, c3⟩
  · exact .inl ⟨c1, c2, fun h => c3 (by rw [h])⟩
  · exact .inr (.inl ⟨c1, c2, ByteArray.ext (Array.toList_inj.1 c3)⟩)
  · exact .inr (.inr ⟨c1, c2, fun h => c3 (by rw [h])⟩)
theorem icb (x y : ByteArray) (w : World) : Calls Tryz.prog 99 #[.string x, .string y] w fun e w' => e = .returned (.int .i64 (cb x y)) ∧ w' = w := Tryz.strings_Compare x y w
end WinR
end Go.Proofs.YtcilbmhkhllmjaaGreatDoor
namespace Go.Proofs
open Go.Shelf
def Tryz.sortS_ren : Go.Shelf.Ren := ⟨fun | 6 => 97 | 15 => 131 | 14 => 130 | 28 => 168 | 29 => 169 | 20 => 160 | 21 => 161 | 22 => 162 | 23 => 163 | 24 => 164 | 25 => 165 | 26 => 166 | 27 => 167 | 46 => 193 | 47 => 194 | 48 => 195 | 49 => 196 | 50 => 197 | 57 => 206 | n => n, fun | 22 => 38 | 24 => 74 | 25 => 141 | 3 => 3 | 39 => 155 | 0 => 0 | 53 => 229 | 55 => 150 | 4 => 4 | 46 => 222 | 45 => 221 | 50 => 226 | 5 => 5 | 9 => 9 | 66 => 249 | 70 => 253 | 76 => 258 | 77 => 259 | n => n, fun | n => n⟩
theorem Tryz.sortS : Go.Proofs.SlLaysF0.n6 Tryz.prog Tryz.sortS_ren := {
  mixed := by kernel_rfl
  f6 := ⟨Tryz.f97.name, by decide, Tryz.func97.trans (congrArg some (by kernel_rfl))⟩
  f14 := ⟨Tryz.f130.name, by decide, Tryz.func130.trans (congrArg some (by kernel_rfl))⟩
  f15 := Tryz.func131.trans (congrArg some (by kernel_rfl))
  f20 := ⟨Tryz.f160.name, by decide, Tryz.func160.trans (congrArg some (by kernel_rfl))⟩
  f21 := ⟨Tryz.f161.name, by decide, Tryz.func161.trans (congrArg some (by kernel_rfl))⟩
  f22 := ⟨Tryz.f162.name, by decide, Tryz.func162.trans (congrArg some (by kernel_rfl))⟩
  f23 := ⟨Tryz.f163.name, by decide, Tryz.func163.trans (congrArg some (by kernel_rfl))⟩
  f24 := ⟨Tryz.f164.name, by decide, Tryz.func164.trans (congrArg some (by kernel_rfl))⟩
  f25 := ⟨Tryz.f165.name, by decide, Tryz.func165.trans (congrArg some (by kernel_rfl))⟩
  f26 := ⟨Tryz.f166.name, by decide, Tryz.func166.trans (congrArg some (by kernel_rfl))⟩
  f27 := ⟨Tryz.f167.name, by decide, Tryz.func167.trans (congrArg some (by kernel_rfl))⟩
  f28 := Tryz.func168.trans (congrArg some (by kernel_rfl))
  f29 := Tryz.func169.trans (congrArg some (by kernel_rfl))
  f46 := ⟨Tryz.f193.name, by decide, Tryz.func193.trans (congrArg some (by kernel_rfl))⟩
  f47 := Tryz.func194.trans (congrArg some (by kernel_rfl))
  f48 := Tryz.func195.trans (congrArg some (by kernel_rfl))
  f49 := ⟨Tryz.f196.name, by decide, Tryz.func196.trans (congrArg some (by kernel_rfl))⟩
  f50 := ⟨Tryz.f197.name, by decide, Tryz.func197.trans (congrArg some (by kernel_rfl))⟩
  f57 := ⟨Tryz.f206.name, by decide, Tryz.func206.trans (congrArg some (by kernel_rfl))⟩
  t0 := Tryz.underlying0
  a0 := Tryz.isAgg0
  z0 := Tryz.sizeOf0
  v0 := Tryz.zeroValue0
  t3 := Tryz.underlying3
  a3 := Tryz.isAgg3
  z3 := Tryz.sizeOf3
  v3 := Tryz.zeroValue3
  t4 := Tryz.underlying4
  a4 := Tryz.isAgg4
  z4 := Tryz.sizeOf4
  v4 := Tryz.zeroValue4
  t5 := Tryz.underlying5
  a5 := Tryz.isAgg5
  z5 := Tryz.sizeOf5
  v5 := Tryz.zeroValue5
  t9 := Tryz.underlying9
  a9 := Tryz.isAgg9
  z9 := Tryz.sizeOf9
  v9 := Tryz.zeroValue9
  t22 := Tryz.underlying38
  a22 := Tryz.isAgg38
  z22 := Tryz.sizeOf38
  v22 := Tryz.zeroValue38
  t25 := Tryz.underlying141
  a25 := Tryz.isAgg141
  z25 := Tryz.sizeOf141
  v25 := Tryz.zeroValue141
  t39 := Tryz.underlying155
  a39 := Tryz.isAgg155
  z39 := Tryz.sizeOf155
  v39 := Tryz.zeroValue155
  t45 := Tryz.underlying221
  a45 := Tryz.isAgg221
  z45 := Tryz.sizeOf221
  v45 := Tryz.zeroValue221
  t46 := Tryz.underlying222
  a46 := Tryz.isAgg222
  z46 := Tryz.sizeOf222
  v46 := Tryz.zeroValue222
  t50 := Tryz.underlying226
  a50 := Tryz.isAgg226
  z50 := Tryz.sizeOf226
  v50 := Tryz.zeroValue226
  t53 := Tryz.underlying229
  a53 := Tryz.isAgg229
  z53 := Tryz.sizeOf229
  v53 := Tryz.zeroValue229
  t55 := Tryz.underlying150
  a55 := Tryz.isAgg150
  z55 := Tryz.sizeOf150
  v55 := Tryz.zeroValue150
  t66 := Tryz.underlying249
  a66 := Tryz.isAgg249
  z66 := Tryz.sizeOf249
  v66 := Tryz.zeroValue249
  t70 := Tryz.underlying253
  a70 := Tryz.isAgg253
  z70 := Tryz.sizeOf253
  v70 := Tryz.zeroValue253
  t76 := Tryz.underlying258
  a76 := Tryz.isAgg258
  z76 := Tryz.sizeOf258
  v76 := Tryz.zeroValue258
  t77 := Tryz.underlying259
  a77 := Tryz.isAgg259
  z77 := Tryz.sizeOf259
  v77 := Tryz.zeroValue259 }
end Go.Proofs
namespace Go.Proofs.YtcilbmhkhllmjaaGreatDoor
open Go.ChangeShapes Go.WideShapes Go.ChangeAt Go.RowKit
set_option linter.unusedVariables false
namespace BilR
open LtR WinR
open RowG (Rws cellsAll)
open CatR (Blk Blk.new)
open Go.Sort (putRowK putRow mapBlock ahead HoldsK flatK size_flatK get_flatK)
/-- A window with the places of its lists. -/
structure WP where
  d : Wd
  ta : Option Addr
  tc : Nat
  ha : Option Addr
  hc : Nat
def WP.zero : WP := ⟨Wd.zero, none, 0, none, 0⟩
instance : Inhabited WP := ⟨WP.zero⟩
def WP.cells (x : WP) : List Value := [.string x.d.a, .string x.d.m, .int .i64 x.d.mo, .int .i64 x.d.ev, .int .i64 x.d.su, .int .i64 x.d.mx, .slice x.ta x.d.ts.length x.tc, .slice x.ha x.d.hs.length x.hc]
theorem WP.len (x : WP) : x.cells.length = 8 := rfl
theorem WP.one (x : WP) : ∀ v ∈ x.cells, v.oneCell' = true := by
  intro v hv
  simp only [WP.cells, List.mem_cons, List.not_mem_nil, or_false] at hv
  rcases hv with rfl | rfl | rfl | rfl | rfl | rfl | rfl | rfl <;> rfl
/-- Its lists are as they read. -/
def WP.Reads (x : WP) (w : World) : Prop := Tgs x.ta x.d.ts w ∧ Hrs x.ha x.d.hs w
theorem WP.Reads.below {x : WP} {w w' : World} (h : x.Reads w) (hb : Below w.heap.size w w') : x.Reads w' := ⟨h.1.below hb, h.2.below hb⟩
theorem wps_of {ao : Option Addr} {ws : List Wd} {w : World} (h : Wns ao ws w) : ∃ ps : List WP, ps.map WP.d = ws ∧ Rws 8 WP.cells WP.zero ao ps w ∧ ∀ p ∈ ps, p.Reads w := by
  rcases h with h0 | ⟨b, off, rfl, hl, hc⟩
  · obtain rfl : ws = [] := List.length_eq_zero_iff.1 h0
    exact ⟨[], rfl, .inl rfl, fun p hp => by cases hp⟩
  · have hex : ∀ j : Nat, ∃ p : WP, j < ws.length → p.d = ws.getD j Wd.zero ∧ (∀ i, i < 8 → w.cell? ⟨b, off + j * 8 + i, none⟩ = p.cells[i]?) ∧ p.Reads w := by
      intro j
      by_cases hj : j < ws.length
      · obtain ⟨ta, tc, ha, hc', c0, c1, c2, c3, c4, c5, c6, c7, hT, hH⟩ := hc j hj
        refine ⟨⟨ws.getD j Wd.zero, ta, tc, ha, hc'⟩, fun _ => ⟨rfl, fun i hi => ?_, hT, hH⟩⟩
        rcases (show i = 0 ∨ i = 1 ∨ i = 2 ∨ i = 3 ∨ i = 4 ∨ i = 5 ∨ i = 6 ∨ i = 7 by omega) with rfl | rfl | rfl | rfl | rfl | rfl | rfl | rfl
        · exact c0
        · exact c1
        · exact c2
        · exact c3
        · exact c4
        · exact c5
        · exact c6
        · exact c7
      · exact ⟨WP.zero, fun h => absurd h hj⟩
    obtain ⟨f, hf⟩ := Classical.axiomOfChoice hex
    refine ⟨(List.range ws.length).map f, ?_, .inr ⟨b, off, rfl, hl, fun j hj i hi => ?_⟩, fun p hp => ?_⟩
    · rw [List.map_map]
      apply List.ext_getElem
      · simp
      · intro i h1 h2
        have h3 := (hf i h2).1
        simp only [List.getElem_map, List.getElem_range, Function.comp]
        rw [h3]
        simp [List.getD, h2]
    · have hj' : j < ws.length := by simpa using hj
      have e : ((List.range ws.length).map f).getD j WP.zero = f j := by simp [List.getD, hj']
      rw [e]
      exact (hf j hj').2.1 i hi
    · obtain ⟨j, hj, rfl⟩ := List.mem_map.1 hp
      exact (hf j (by simpa using hj)).2.2
/-- How the closure tells two windows apart. -/
def wcf (x y : WP) : Int := cb x.d.m y.d.m
theorem wcf_lt (x y : WP) : ltOf wcf x y = lt x.d.m y.d.m := by
  unfold ltOf wcf
  rcases cb_cases x.d.m y.d.m with ⟨c1, c2, _⟩ | ⟨c1, c2, _⟩ | ⟨c1, c2, _⟩ <;> rw [c1, c2] <;> rfl
theorem wcf_swo : Go.Sort.SWO (ltOf wcf) where
  irrefl x := by rw [wcf_lt]; exact lt_irrefl _
  trans x y z h1 h2 := by rw [wcf_lt] at *; exact lt_trans h1 h2
  ntrans x y z h1 h2 := by
    rw [wcf_lt] at *
    cases h : lt x.d.m z.d.m
    · rfl
    · cases h3 : lt y.d.m x.d.m
      · rw [lt_total h1 h3] at h; rw [h] at h2; cases h2
      · have := lt_trans h3 h
        rw [this] at h2; cases h2
set_option maxHeartbeats 1000000 in
theorem wclos (x y : WP) (W : World) : Calls Tryz.prog 98 #[.agg x.cells.toArray, .agg y.cells.toArray] W fun e w' => e = .returned (.int .i64 (wcf x y)) ∧ ∃ q os', w' = Go.Sort.grow (W.drewN q) os' := by
  have hcon := fun W' => icb x.d.m y.d.m W'
  unfold wcf
  generalize cb x.d.m y.d.m = r at hcon ⊢
  obtain ⟨⟨xa, xm, xo, xe, xs, xx, xt, xh⟩, ta, tc, ha, hc⟩ := x
  obtain ⟨⟨ya, ym, yo, ye, ys, yx, yt, yh⟩, tb, td, hb, hd⟩ := y
  simp only [WP.cells] at *
  generalize xt.length = l1
  generalize xh.length = l2
  generalize yt.length = l3
  generalize yh.length = l4
  go_enter Tryz.func98, Tryz.ntmps98
  go_wp2_with fail
  refine (hcon _).mono ?_
  rintro e w' ⟨rfl, rfl⟩
  go_wp2_with fail
  go_ret
  exact ⟨rfl, 0, _, by rw [Go.Sort.alloc_eq_grow, Go.Sort.alloc_eq_grow, Go.Sort.grow_grow]; rfl⟩
theorem sort_grown (enc : WP → List Value) (k : Nat) (w : World) (b off n : Nat) (d : Array WP) (os : Array Obj) : w.grownBy (sortWorldK enc k w b off n d os) (some b) := by
  refine ⟨rfl, rfl, rfl, size_sortWorldK_c enc k w b off n d os, fun k' hk hne => ?_⟩
  have hne' : k' ≠ b := fun e => hne (by rw [e])
  simp only [sortWorldK, putRowK, putRow, mapBlock, Go.Sort.grow]
  rw [Array.getElem?_append_left (by simpa using hk), Array.getElem?_modify, if_neg (fun e => hne' e.symm)]
  rfl
theorem getD_arr (d : Array WP) (i : Nat) (h : i < d.size) : d[i]! = d.toList.getD i WP.zero := by
  simp [List.getD, h]
theorem perm_of {d d' : Array WP} (h : Go.Sort.PermIn 0 d.size d d') : d'.toList.Perm d.toList := by
  obtain ⟨h1, _, h3⟩ := h
  have e1 : d'.extract 0 d.size = d' := by rw [← h1]; simp
  have e2 : d.extract 0 d.size = d := by simp
  rw [e1, e2] at h3
  exact h3
theorem sorted_of {d' : Array WP} {n : Nat} (hn : d'.size = n) (h : Go.Sort.SortedIn (ltOf wcf) 0 n d') : d'.toList.Pairwise (fun x y => lt y.d.m x.d.m = false) := by
  refine List.pairwise_iff_getElem.2 (fun i j hi hj hij => ?_)
  have hi' : i < d'.size := by simpa using hi
  have hj' : j < d'.size := by simpa using hj
  have := h i j (Nat.zero_le _) hij (by omega)
  rw [wcf_lt, getElem!_pos d' i hi', getElem!_pos d' j hj'] at this
  simpa using this
set_option maxHeartbeats 1000000 in
theorem sort_wds (b off cap : Nat) (qs : List WP) (w : World) (hb : b < w.heap.size) (hlen : qs.length ≤ 1048576)
    (hc : ∀ i, i < qs.length → ∀ j, j < 8 → w.cell? ⟨b, off + i * 8 + j, none⟩ = (qs.getD i WP.zero).cells[j]?) (hf : ∀ o, o < qs.length * 8 → w.frozen? ⟨b, off + o, none⟩ = false) :
    Calls Tryz.prog 97 #[.slice (some ⟨b, off, none⟩) qs.length cap, .func (.func 98) #[] #[]] w fun e w' => e = .returned (.tuple #[]) ∧ ∃ rs : List WP, rs.Perm qs ∧ rs.Pairwise (fun x y => lt y.d.m x.d.m = false) ∧ w.grownBy w' (some b) ∧ Rws 8 WP.cells WP.zero (some ⟨b, off, none⟩) rs w' := by
  have eg : ∀ args w, (callFunc 98 args).run Tryz.prog w = .ok (.enter 98 args) w := enters_of Tryz.func98 (by kernel_rfl) rfl
  have hH : HoldsK WP.cells 8 w b off qs.toArray := by
    intro t ht
    rw [size_flatK] at ht
    have hs : qs.toArray.size = qs.length := by simp
    rw [hs] at ht
    have h8 : t / 8 < qs.length := by omega
    have hc' := hc (t / 8) h8 (t % 8) (by omega)
    rw [show off + t / 8 * 8 + t % 8 = off + t by omega] at hc'
    refine ⟨?_, hf t ht⟩
    rw [get_flatK _ _ _ _ (by rw [hs]; exact ht), hc', getD_arr _ _ (by simpa using h8)]
    have hl : t % 8 < (qs.toArray.toList.getD (t / 8) WP.zero).cells.length := by rw [WP.len]; omega
    rw [id, getElem!_pos (qs.toArray.toList.getD (t / 8) WP.zero).cells (t % 8) hl]
    simp
  have hcon := AnyQ.slices_SortFunc Tryz.sortS 8 (fun w => by kernel_rfl) (fun w => by kernel_rfl) WP.cells WP.len WP.one wcf wcf_swo 98 #[] b off cap qs.toArray w eg (fun _ _ _ _ x y => wclos x y _) hH hb (by simp; omega)
  change Calls Tryz.prog 97 _ _ _ at hcon
  rw [show qs.toArray.size = qs.length by simp] at hcon
  refine hcon.mono ?_
  rintro e w' ⟨rfl, d', n, os, hp, hs, rfl⟩
  have hp' : Go.Sort.PermIn 0 qs.toArray.size qs.toArray d' := by simpa using hp
  have hsz : d'.size = qs.toArray.size := hp'.1
  have hH' := holdsK_sortWorldK_c WP.cells 8 w b off qs.toArray d' n os hH hb hsz
  refine ⟨rfl, d'.toList, by simpa using perm_of hp', sorted_of (by simpa using hsz) hs, sort_grown _ _ _ _ _ _ _ _, .inr ⟨b, off, rfl, Nat.lt_of_lt_of_le hb (sort_grown WP.cells 8 w b off n d' os).size, fun j hj i hi => ?_⟩⟩
  have hj' : j < d'.size := by simpa using hj
  have ht : j * 8 + i < d'.size * 8 := by omega
  have h1 := (hH' (j * 8 + i) (by rw [size_flatK]; exact ht)).1
  rw [get_flatK _ _ _ _ ht, show (j * 8 + i) / 8 = j by omega, show (j * 8 + i) % 8 = i by omega, getD_arr _ _ hj', id] at h1
  rw [Nat.add_assoc, h1]
  have hl : i < (d'.toList.getD j WP.zero).cells.length := by rw [WP.len]; exact hi
  rw [getElem!_pos (d'.toList.getD j WP.zero).cells i hl]
  simp
end BilR
end Go.Proofs.YtcilbmhkhllmjaaGreatDoor
namespace Go.Proofs.YtcilbmhkhllmjaaGreatDoor
open Go.ChangeShapes Go.WideShapes Go.ChangeAt Go.RowKit
set_option linter.unusedVariables false
namespace BilR
open LtR WinR
open RowG (Rws getD_mem)
open CatR (Blk Blk.new)
def wsB (ws : List Wd) : Bool := decide (ws.length ≤ 20) && ws.all wB
theorem wsB_no {ws : List Wd} {k : Nat} (hk : k < ws.length) (h : wB (ws.getD k Wd.zero) = false) : wsB ws = false := by
  have hm := getD_mem (z := Wd.zero) ws k hk
  cases hw : wsB ws
  · rfl
  · unfold wsB at hw
    simp only [Bool.and_eq_true] at hw
    have := List.all_eq_true.1 hw.2 _ hm
    rw [h] at this; cases this
theorem wsB_yes {ws : List Wd} (h1 : ws.length ≤ 20) (h : ∀ i, i < ws.length → wB (ws.getD i Wd.zero) = true) : wsB ws = true := by
  unfold wsB
  rw [decide_eq_true h1, Bool.true_and, List.all_eq_true]
  intro x hx
  obtain ⟨i, hi, rfl⟩ := List.getElem_of_mem hx
  have := h i hi
  simpa [List.getD, hi] using this
set_option maxRecDepth 100000 in
set_option maxHeartbeats 4000000 in
theorem iwins_in (ao : Option Addr) (cap : Nat) (ws : List Wd) (w : World) (hlen : ws.length ≤ 1048576) (hI : Wns ao ws w)
    (hw : ∀ k, k < ws.length → ∀ ta tc ha hc W, Below w.heap.size w W → Tgs ta (ws.getD k Wd.zero).ts W → Hrs ha (ws.getD k Wd.zero).hs W → Calls Tryz.prog 92 #[.agg (wcells (ws.getD k Wd.zero) ta tc ha hc)] W fun e w' => e = .returned (.bool (wB (ws.getD k Wd.zero))) ∧ Below W.heap.size W w') :
    Calls Tryz.prog 43 #[.slice ao ws.length cap] w fun e w' => e = .returned (.bool (wsB ws)) ∧ Below w.heap.size w w' := by
  have HI := hid_intro hI
  have HWR := hid_intro hw
  have HF : Hid (∀ k, k < ws.length → wB (ws.getD k Wd.zero) = false → wsB ws = false) := hid_intro (fun k hk h => wsB_no hk h)
  have HG : Hid (20 < ws.length → wsB ws = false) := hid_intro (fun h => by unfold wsB; rw [decide_eq_false (by omega)]; rfl)
  have HY : Hid (ws.length ≤ 20 → (∀ i, i < ws.length → wB (ws.getD i Wd.zero) = true) → wsB ws = true) := hid_intro (fun h h2 => wsB_yes h h2)
  generalize wsB ws = R at *
  obtain ⟨len, hl⟩ : ∃ len, len = ws.length := ⟨_, rfl⟩
  have HL := hid_intro hl
  rw [← hl] at hlen HF HG HY ⊢
  clear hI hw hl
  by_cases h16 : 20 < len
  · have h2 : (20 : Int) < (len : Int) := by omega
    have HR := hid_intro (HG.out h16)
    go_enter Tryz.func43, Tryz.ntmps43
    go_wp2_with fail
    go_ret
    exact ⟨ret_bool HR.out.symm, Below.refl _ _⟩
  have h2 : ¬ (20 : Int) < (len : Int) := by omega
  go_enter Tryz.func43, Tryz.ntmps43
  go_wp2_with fail
  go_loopw [10] (fun z wr => ∃ k : Nat, k ≤ len ∧ z = .int .i64 k ∧ Hid (∀ i, i < k → wB (ws.getD i Wd.zero) = true) ∧ Hid (Below w.heap.size w wr)) (fun z _ => len - (intOf z).toNat)
  case atStart => exact ⟨0, by omega, rfl, hid_intro (fun i hi => absurd hi (by omega)), hid_intro (Below.refl _ _)⟩
  case round =>
    obtain ⟨k, hk, rfl, HK, HB⟩ := hrel
    by_cases hlt : k < len
    · have hlt2 : (k : Int) < (len : Int) := by omega
      obtain ⟨b, off, ta, tc, ha, hc, rfl, hbl, c0, c1, c2, c3, c4, c5, c6, c7, hT, hH⟩ := (HI.out.below HB.out).at k (by have := HL.out; omega)
      have hlk : k < ws.length := by have := HL.out; omega
      have HWK := hid_intro (HWR.out k hlk ta tc ha hc)
      have HFK := hid_intro (HF.out k hlt)
      have HMK : Hid (wB (ws.getD k Wd.zero) = true → ∀ i, i < k + 1 → wB (ws.getD i Wd.zero) = true) := hid_intro (fun h i hi => by
        by_cases e : i = k
        · subst e; exact h
        · exact HK.out i (by omega))
      obtain ⟨X, hX⟩ : ∃ z, z = ws.getD k Wd.zero := ⟨_, rfl⟩
      rw [← hX] at c0 c1 c2 c3 c4 c5 c6 c7 hT hH HWK HFK HMK
      generalize hqw : wB X = bw at *
      clear hqw hX
      obtain ⟨xa, xm, xo, xe, xs, xx, xt, xh⟩ := X
      dsimp only [wcells] at c0 c1 c2 c3 c4 c5 c6 c7 hT hH HWK
      obtain ⟨W1, hW1⟩ : ∃ z, z = wr.alloc (.cells #[.string xa, .string xm, .int .i64 xo, .int .i64 xe, .int .i64 xs, .int .i64 xx, .slice ta xt.length tc, .slice ha xh.length hc] 74) := ⟨_, rfl⟩
      have hal : Below wr.heap.size wr W1 := by rw [hW1]; exact (Below.refl _ _).alloc (Nat.le_refl _) _
      have HB1 := hid_intro (HB.out.trans (hal.mono HB.out.size))
      have HW1 := hid_intro hW1
      have HWK1 := hid_intro (HWK.out W1 HB1.out (hT.below hal) (hH.below hal))
      clear hT hH hal hW1 HWK HWR
      generalize xt.length = tl at *
      generalize xh.length = hl at *
      go_wp2_with fail
      rw [← HW1.out]
      clear HW1 c0 c1 c2 c3 c4 c5 c6 c7
      refine HWK1.out.mono ?_
      rintro e w2 ⟨rfl, hb⟩
      have HB2 := hid_intro (HB1.out.trans (hb.mono HB1.out.size))
      clear hb HB1 HWK1
      cases bw
      · have HR := hid_intro (HFK.out rfl)
        go_wp2_with fail
        go_ret
        exact ⟨ret_bool HR.out.symm, HB2.out⟩
      have HK2 := hid_intro (HMK.out rfl)
      go_wp2_with fail
      go_roundw
      case rel => exact ⟨k + 1, by omega, by go_num, HK2, HB2⟩
      case measure => simp [intOf]; omega
    · have hlt2 : ¬ (k : Int) < (len : Int) := by omega
      obtain rfl : k = len := by omega
      have HR := hid_intro (HY.out (by omega) HK.out)
      go_wp2_with fail
      go_ret
      exact ⟨ret_bool HR.out.symm, HB.out⟩
theorem ris_of {rs : List WP} (hs : rs.Pairwise (fun x y => lt y.d.m x.d.m = false)) (ha : ∀ i, 1 ≤ i → i < rs.length → (rs.getD i WP.zero).d.m ≠ (rs.getD (i - 1) WP.zero).d.m) : Ris (fun p : WP => p.d.m) rs := by
  have adj : ∀ i (h : i + 1 < rs.length), lt (rs[i]'(by omega)).d.m rs[i + 1].d.m = true := by
    intro i h
    have h1 := List.pairwise_iff_getElem.1 hs i (i + 1) (by omega) h (by omega)
    have h2 := ha (i + 1) (by omega) h
    simp only [Nat.add_sub_cancel] at h2
    rw [show rs.getD (i + 1) WP.zero = rs[i + 1] by simp [List.getD, h], show rs.getD i WP.zero = rs[i]'(by omega) by simp [List.getD, show i < rs.length by omega]] at h2
    cases h3 : lt (rs[i]'(by omega)).d.m rs[i + 1].d.m
    · exact absurd (lt_total h1 h3) h2
    · rfl
  refine List.pairwise_iff_getElem.2 (fun i j hi hj hij => ?_)
  obtain ⟨d, rfl⟩ : ∃ d, j = i + 1 + d := ⟨j - i - 1, by omega⟩
  clear hij
  induction d with
  | zero => exact adj i hj
  | succ d ih => exact lt_trans (ih (by omega)) (adj (i + 1 + d) hj)
theorem not_ris {rs : List WP} {i : Nat} (h1 : 1 ≤ i) (hi : i < rs.length) (h : (rs.getD i WP.zero).d.m = (rs.getD (i - 1) WP.zero).d.m) : ¬ (rs.map (fun p : WP => p.d.m)).Nodup := by
  intro hn
  have h2 := List.pairwise_iff_getElem.1 hn (i - 1) i (by simp; omega) (by simpa using hi) (by omega)
  rw [show rs.getD i WP.zero = rs[i] by simp [List.getD, hi], show rs.getD (i - 1) WP.zero = rs[i - 1]'(by omega) by simp [List.getD, show i - 1 < rs.length by omega]] at h
  exact h2 (by simp [h])
theorem bdrewN {B : Nat} {a w : World} (h : Below B a w) (n : Nat) : Below B a (w.drewN n) := ⟨h.os, h.tape, h.output, h.size, h.block⟩
/-- What is told of windows that stand by their meters. -/
def TwR (rs : List WP) (e : Ending) : Prop := ∃ r, e = .returned (.bool r) ∧ (r = true → ¬ (rs.map (fun p : WP => p.d.m)).Nodup) ∧ (r = false → Ris (fun p : WP => p.d.m) rs)
set_option maxRecDepth 100000 in
set_option maxHeartbeats 4000000 in
theorem twice_one (ao : Option Addr) (cap : Nat) (rs : List WP) (w : World) (hlen : rs.length ≤ 1048576) (hs : rs.Pairwise (fun x y => lt y.d.m x.d.m = false)) (hI : Rws 8 WP.cells WP.zero ao rs w) :
    Calls Tryz.prog 96 #[.slice ao rs.length cap] w fun e w' => TwR rs e ∧ Below w.heap.size w w' := by
  have HI := hid_intro hI
  have HN : Hid (∀ i, 1 ≤ i → i < rs.length → (rs.getD i WP.zero).d.m = (rs.getD (i - 1) WP.zero).d.m → ¬ (rs.map (fun p : WP => p.d.m)).Nodup) := hid_intro (fun i h1 h2 h3 => not_ris h1 h2 h3)
  have HY : Hid ((∀ i, 1 ≤ i → i < rs.length → (rs.getD i WP.zero).d.m ≠ (rs.getD (i - 1) WP.zero).d.m) → Ris (fun p : WP => p.d.m) rs) := hid_intro (fun h => ris_of hs h)
  obtain ⟨len, hl⟩ : ∃ len, len = rs.length := ⟨_, rfl⟩
  have HL := hid_intro hl
  rw [← hl] at hlen HN HY ⊢
  clear hI hs hl
  go_enter Tryz.func96, Tryz.ntmps96
  go_wp2_with fail
  go_loopw [3] (fun z wr => ∃ k : Nat, 1 ≤ k ∧ (k ≤ len ∨ k = 1) ∧ z = .int .i64 k ∧ Hid (∀ i, 1 ≤ i → i < k → (rs.getD i WP.zero).d.m ≠ (rs.getD (i - 1) WP.zero).d.m) ∧ Hid (Below w.heap.size w wr)) (fun z _ => len - (intOf z).toNat)
  case atStart => exact ⟨1, by omega, by omega, rfl, hid_intro (fun i h1 hi => absurd hi (by omega)), hid_intro (Below.refl _ _)⟩
  case round =>
    obtain ⟨k, hk1, hk, rfl, HK, HB⟩ := hrel
    by_cases hlt : k < len
    · have hlt2 : (k : Int) < (len : Int) := by omega
      have HW := hid_intro (HI.out.below HB.out)
      obtain ⟨b, off, e0, hbl, hc⟩ : ∃ b off, ao = some ⟨b, off, none⟩ ∧ b < wr.heap.size ∧ ∀ j, j < rs.length → ∀ i, i < 8 → wr.cell? ⟨b, off + j * 8 + i, none⟩ = (rs.getD j WP.zero).cells[i]? := by
        rcases HW.out with h0 | ⟨b, off, e, hl, hc⟩
        · have := HL.out; omega
        · exact ⟨b, off, e, hl, hc⟩
      subst e0
      have c1 := hc k (by have := HL.out; omega) 1 (by omega)
      have d1 := hc (k - 1) (by have := HL.out; omega) 1 (by omega)
      have HNK := hid_intro (HN.out k hk1 hlt)
      have HMK : Hid ((rs.getD k WP.zero).d.m ≠ (rs.getD (k - 1) WP.zero).d.m → ∀ i, 1 ≤ i → i < k + 1 → (rs.getD i WP.zero).d.m ≠ (rs.getD (i - 1) WP.zero).d.m) := hid_intro (fun h i h1 hi => by
        by_cases e : i = k
        · subst e; exact h
        · exact HK.out i h1 (by omega))
      generalize rs.getD k WP.zero = X at *
      generalize rs.getD (k - 1) WP.zero = Y at *
      simp only [WP.cells, List.getElem?_cons_zero, List.getElem?_cons_succ] at c1 d1
      generalize X.d.m = xm at *
      generalize Y.d.m = ym at *
      obtain ⟨j, hj⟩ : ∃ j, j = k - 1 := ⟨_, rfl⟩
      rw [← hj] at d1
      have hjl : (j : Int) < (len : Int) := by omega
      have hw1 : IntKind.i64.wrap ((k : Int) - 1) = (j : Int) := by rw [IntKind.wrap_i64]; omega
      have HJ := hid_intro hj
      clear hj
      clear hc HW
      cases hq : (xm.toList == ym.toList)
      · have hne : xm ≠ ym := fun e => by subst e; simp at hq
        have HK2 := hid_intro (HMK.out hne)
        go_wp2_with fail
        go_quiet (fail)
        go_wp2_with fail
        go_roundw
        case rel => exact ⟨k + 1, by omega, by omega, by go_num, HK2, hid_intro (bdrewN HB.out _)⟩
        case measure => simp [intOf]; omega
      · have he : xm = ym := toList_inj (by simpa using hq)
        have HR := hid_intro (HNK.out he)
        go_wp2_with fail
        go_quiet (fail)
        go_wp2_with fail
        go_ret
        exact ⟨⟨true, rfl, fun _ => HR.out, fun h => by cases h⟩, bdrewN HB.out _⟩
    · have hlt2 : ¬ (k : Int) < (len : Int) := by omega
      have HR := hid_intro (HY.out (fun i h1 hi => HK.out i h1 (by omega)))
      go_wp2_with fail
      go_ret
      exact ⟨⟨false, rfl, fun h => (by cases h), fun _ => HR.out⟩, HB.out⟩
end BilR
end Go.Proofs.YtcilbmhkhllmjaaGreatDoor
namespace Go.Proofs.YtcilbmhkhllmjaaGreatDoor
open Go.ChangeShapes Go.WideShapes Go.ChangeAt Go.RowKit
set_option linter.unusedVariables false
namespace BilR
open LtR WinR LinR
open RowG (getD_mem)
open CatR (Me Ca Cr mFd mN MsRight CsRight MRight rO rt rt_bd caB crF cA cM name_cases)
theorem pk_in {B : Int} : ∀ (hs : List H) (p : Int), (∀ x ∈ hs, 0 ≤ x.s ∧ x.s ≤ B) → 0 ≤ p → p ≤ B → 0 ≤ hs.foldl (fun p x => grt p x.s) p ∧ hs.foldl (fun p x => grt p x.s) p ≤ B
  | [], p, _, h1, h2 => ⟨h1, h2⟩
  | x :: hs, p, h, h1, h2 => by
    have hx := h x (List.mem_cons_self ..)
    rw [List.foldl_cons]
    refine pk_in hs _ (fun y hy => h y (List.mem_cons_of_mem _ hy)) ?_ ?_ <;> (unfold grt; split <;> omega)
theorem wB_name {x : Wd} (h : wB x = true) : NameR.nameB x.m = true := by
  unfold wB namedB at h
  simp only [Bool.and_eq_true] at h
  exact h.1.2.1
theorem valV_in {x : Wd} (h : wB x = true) (g : Int) : 0 ≤ valV x g ∧ valV x g ≤ 1000000000000 := by
  unfold wB at h
  simp only [Bool.and_eq_true] at h
  obtain ⟨_, hc, ht, hh⟩ := h
  obtain ⟨_, hs, hm⟩ := counted_su hc
  unfold tagsB at ht
  simp only [Bool.and_eq_true, decide_eq_true_eq] at ht
  have ht := ht.1
  unfold timedB hoursB at hh
  simp only [Bool.and_eq_true] at hh
  have hk : 0 ≤ pk x.hs ∧ pk x.hs ≤ x.su := pk_in x.hs 0 (fun y hy => by
    have := List.all_eq_true.1 hh.2.2.1 y hy
    unfold hOk at this
    simp only [Bool.and_eq_true, decide_eq_true_eq] at this
    exact this.2) (by omega) hs.1
  unfold valV
  split
  · exact hs
  · split
    · omega
    · split
      · omega
      · split <;> omega
/-- A meter of that name there is. -/
def hasM (ms : List Me) (t : ByteArray) : Bool := ms.any (fun m => m.n.toList == t.toList)
theorem hasM_iff {ms : List Me} {t : ByteArray} : hasM ms t = true ↔ ∃ k, k < ms.length ∧ CatR.mN ms k = t := by
  unfold hasM
  rw [List.any_eq_true]
  constructor
  · rintro ⟨m, hm, h⟩
    obtain ⟨k, hk, rfl⟩ := List.getElem_of_mem hm
    refine ⟨k, hk, ?_⟩
    unfold CatR.mN
    rw [show ms.getD k CatR.Me.zero = ms[k] by simp [List.getD, hk]]
    exact toList_inj (by simpa using h)
  · rintro ⟨k, hk, h⟩
    refine ⟨ms.getD k CatR.Me.zero, getD_mem (z := CatR.Me.zero) ms k hk, ?_⟩
    unfold CatR.mN at h
    rw [h]; simp
theorem has_found {ms : List Me} {t : ByteArray} (hR : MsRight ms) (h : hasM ms t = true) : MRight (mFd t ms) ∧ (mFd t ms).n = t := by
  rcases name_cases ms hR t with ⟨k, hk, h1, h2⟩ | ⟨h1, _⟩
  · rw [h2]
    exact ⟨(hR.2 k hk).1, h1⟩
  · obtain ⟨k, hk, h2⟩ := hasM_iff.1 h
    exact absurd h2 (h1 k hk)
theorem has_none {ms : List Me} {t : ByteArray} (hR : MsRight ms) (h : hasM ms t = false) : mFd t ms = CatR.Me.zero := by
  rcases name_cases ms hR t with ⟨k, hk, h1, h2⟩ | ⟨_, h2⟩
  · rw [hasM_iff.2 ⟨k, hk, h1⟩] at h; cases h
  · exact h2
def useV (ms : List Me) (x : Wd) : Int := valV x (mFd x.m ms).g
def rC (ms : List Me) (x : Wd) : Int := (rO (mFd x.m ms) (useV ms x)).2
def rN (ms : List Me) (x : Wd) : N := ⟨(mFd x.m ms).n, (rO (mFd x.m ms) (useV ms x)).1⟩
/-- The first code of the rates. -/
def ratC (ms : List Me) : List Wd → Int
  | [] => 0
  | x :: l => if rC ms x = 0 then ratC ms l else rC ms x
theorem ratC_hit {ms : List Me} : ∀ {l : List Wd} {k : Nat}, k < l.length → (∀ i, i < k → rC ms (l.getD i Wd.zero) = 0) → rC ms (l.getD k Wd.zero) ≠ 0 → ratC ms l = rC ms (l.getD k Wd.zero)
  | [], _, h, _, _ => absurd h (by simp)
  | x :: l, 0, _, _, h => by
    have h' : rC ms x ≠ 0 := h
    unfold ratC
    rw [if_neg h']; rfl
  | x :: l, k + 1, hk, h0, h => by
    have hx : rC ms x = 0 := h0 0 (by omega)
    unfold ratC
    rw [if_pos hx]
    exact ratC_hit (k := k) (by simpa using hk) (fun i hi => h0 (i + 1) (by omega)) h
theorem ratC_none {ms : List Me} : ∀ {l : List Wd}, (∀ i, i < l.length → rC ms (l.getD i Wd.zero) = 0) → ratC ms l = 0
  | [], _ => rfl
  | x :: l, h => by
    have hx : rC ms x = 0 := h 0 (by simp)
    unfold ratC
    rw [if_pos hx]
    exact ratC_none (fun i hi => h (i + 1) (by simpa using hi))
theorem rO_cases {m : Me} {u : Int} (h : MRight m) (hu : 0 ≤ u ∧ u ≤ 1000000000000) : ((rO m u).2 = 0 ∧ 0 ≤ (rO m u).1 ∧ (rO m u).1 ≤ 1000000000000000) ∨ rO m u = (0, 12) := by
  have h1 := (rt_bd h hu).1
  unfold rO
  split
  · rename_i q
    exact .inl ⟨rfl, h1, q⟩
  · exact .inr rfl
/-- Are these all unlike? -/
def nodB : List ByteArray → Bool
  | [] => true
  | x :: l => !(l.any (fun y => y.toList == x.toList)) && nodB l
theorem nodB_iff : ∀ {l : List ByteArray}, nodB l = true ↔ l.Nodup
  | [] => by simp [nodB]
  | x :: l => by
    unfold nodB
    rw [Bool.and_eq_true, nodB_iff (l := l), List.nodup_cons]
    refine and_congr_left (fun _ => ?_)
    rw [Bool.not_eq_true', List.any_eq_false]
    constructor
    · intro h hx
      exact h x hx (by simp)
    · intro h y hy e
      exact h (by rw [← toList_inj (by simpa using e : y.toList = x.toList)]; exact hy)
def ownW (a : ByteArray) (x : Wd) : Bool := x.a.toList == a.toList
/-- What right windows of an account come to. -/
def billR (c : Ca) (a : ByteArray) (ws : List Wd) : List N × Int :=
  let own := ws.filter (ownW a)
  if own.all (fun x => hasM c.ms x.m) = false then ([], 6)
  else if nodB (own.map Wd.m) = false then ([], 10)
  else if ratC c.ms (srt Wd.m own) ≠ 0 then ([], ratC c.ms (srt Wd.m own))
  else (drawL (crF a c.cs) (((srt Wd.m own).map (rN c.ms)).filter nz), 0)
def billB (c : Ca) (a : ByteArray) (ws : List Wd) : List N × Int :=
  if 8000 < a.size ∨ 400 < ws.length then ([], 2)
  else if (caB c && NameR.nameB a && wsB ws) = true then billR c a ws else ([], 1)
theorem sub_len : ∀ {a b : List ByteArray}, a.Nodup → (∀ x ∈ a, x ∈ b) → a.length ≤ b.length
  | [], b, _, _ => Nat.zero_le _
  | x :: a, b, h, hs => by
    obtain ⟨h1, h2⟩ := List.nodup_cons.1 h
    obtain ⟨s, t, rfl⟩ := List.append_of_mem (hs x (List.mem_cons_self ..))
    have := sub_len (a := a) (b := s ++ t) h2 (fun y hy => by
      have hy' := hs y (List.mem_cons_of_mem _ hy)
      simp only [List.mem_append, List.mem_cons] at hy' ⊢
      rcases hy' with q | q | q
      · exact .inl q
      · subst q; exact absurd hy h1
      · exact .inr q)
    simp only [List.length_append, List.length_cons] at this ⊢
    omega
theorem sok_of {es : List N} (hp : es.Pairwise (fun x y => lt x.i y.i = true)) (ho : ∀ e ∈ es, lOk e = true) : SOk es es.length := by
  intro i hi
  have hm := getD_mem (z := N.zero) es i hi
  refine ⟨?_, ho _ hm⟩
  cases i with
  | zero =>
    have h1 := ho _ hm
    unfold lOk at h1
    simp only [Bool.and_eq_true] at h1
    exact lt_empty (CatR.name_le h1.1).1
  | succ i =>
    have h1 := List.pairwise_iff_getElem.1 hp i (i + 1) (by omega) hi (by omega)
    show lt (es.getD i N.zero).i (es.getD (i + 1) N.zero).i = true
    rw [show es.getD (i + 1) N.zero = es[i + 1] by simp [List.getD, hi], show es.getD i N.zero = es[i]'(by omega) by simp [List.getD, show i < es.length by omega]]
    exact h1
theorem cr_in {cs : List Cr} (h : CsRight cs) (t : ByteArray) : 0 ≤ crF t cs ∧ crF t cs ≤ 1000000000000 := by
  by_cases q : ∃ k, k < cs.length ∧ cA cs k = t ∧ ∀ i, i < k → cA cs i ≠ t
  · obtain ⟨k, hk, he, hi⟩ := q
    rw [CatR.crF_hit t cs k hk hi he]
    exact (h.2 k hk).1.2
  · have hn : ∀ n, n ≤ cs.length → ∀ i, i < n → cA cs i ≠ t := by
      intro n
      induction n with
      | zero => exact fun _ i hi => absurd hi (by omega)
      | succ n ih =>
        intro hn i hi e
        have ih' := ih (by omega)
        by_cases e2 : i = n
        · subst e2; exact q ⟨i, hn, e, ih'⟩
        · exact ih' i (by omega) e
    rw [CatR.crF_none t cs (hn cs.length (Nat.le_refl _))]
    omega
/-- The lines of windows that stand by their meters are right, once those of 0 are out. -/
theorem lines_right {ms : List Me} {S : List Wd} (hR : MsRight ms) (hS : Ris Wd.m S) (hh : ∀ x ∈ S, hasM ms x.m = true) (hw : ∀ x ∈ S, wB x = true) (h0 : ∀ x ∈ S, rC ms x = 0) : SRight ((S.map (rN ms)).filter nz) := by
  have hn : ∀ x ∈ S, (rN ms x).i = x.m := fun x hx => (has_found hR (hh x hx)).2
  have hp : ((S.map (rN ms)).filter nz).Pairwise (fun x y => lt x.i y.i = true) := by
    refine List.Pairwise.filter _ ?_
    rw [List.pairwise_map]
    exact hS.imp_of_mem (fun {x y} hx hy h => by rw [hn x hx, hn y hy]; exact h)
  refine ⟨?_, sok_of hp (fun e he => ?_)⟩
  · have h1 := List.length_filter_le nz (S.map (rN ms))
    rw [List.length_map] at h1
    have h2 := sub_len (ris_nodup hS) (b := ms.map (fun m => m.n)) (fun t ht => by
      obtain ⟨x, hx, rfl⟩ := List.mem_map.1 ht
      obtain ⟨k, hk, e⟩ := hasM_iff.1 (hh x hx)
      rw [← e]
      exact List.mem_map.2 ⟨ms.getD k CatR.Me.zero, getD_mem (z := CatR.Me.zero) ms k hk, rfl⟩)
    simp only [List.length_map] at h2
    have := hR.1
    omega
  · obtain ⟨h1, h2⟩ := List.mem_filter.1 he
    obtain ⟨x, hx, rfl⟩ := List.mem_map.1 h1
    obtain ⟨f1, f2⟩ := has_found hR (hh x hx)
    have hz : rC ms x = 0 := h0 x hx
    have hb : 0 ≤ (rN ms x).n ∧ (rN ms x).n ≤ 1000000000000000 := by
      rcases rO_cases f1 (valV_in (hw x hx) (mFd x.m ms).g) with ⟨_, q⟩ | q
      · exact q
      · unfold rC useV at hz
        rw [q] at hz; cases hz
    unfold nz at h2
    simp only [decide_eq_true_eq] at h2
    unfold lOk nOk
    rw [hn x hx, wB_name (hw x hx), decide_eq_true (by omega), decide_eq_true h2]; rfl
end BilR
end Go.Proofs.YtcilbmhkhllmjaaGreatDoor
