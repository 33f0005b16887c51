/-
  Lines, documents and answers that are the same, held against each other by the law. The condition: all in them is small.
  Answers of a ledger that are the same, held against each other by the law. The condition: all in them is small.
  A scope in which the run jumps to several labels: what holds at each label's jumps ('J'), and a measure that every pass from a label lowers. No condition. (The library's law is for one label.)
  What is read of a text at a place as a number: the plain function ('rd': its code, the folded number, how many bytes), and its steps. No condition.
  The program's reading of a number at a place ('readNum', by goto): what it hands back is 'rd'. The condition: the text has at most 8000 bytes.
  The model's reading of a number at a place: what it hands back is 'rd'. The condition: the text has at most 8000 bytes.
  What is put is got: the digits of a number, read where they stand, are the number; of digits that end too early nothing is got. No condition.
  What is got was put: a number that is read is spelled by just its bytes, and so is a text. Arithmetic and bytes alone. No condition.
  What a number's and a text's reading come to, as functions of the bytes: what is read is spelled by just its bytes, and what is spelled is read. Arithmetic and bytes alone. No condition.
  A text's bytes. No condition.
  What texts come to when they are read: what is read is spelled by just its bytes, and what is spelled is read. Bytes alone. No condition.
  A number and a text read at a place, either side: what is handed back is what the bytes spell there. The condition: the text has at most 8000 bytes.
  Small facts on worlds in which one block alone was written. No condition.
  The program's reader: a number and a text read at its place, behind a fault nothing. The condition: the text has at most 8000 bytes.
  The model's reader: a number and a text read at its place, behind a fault nothing. The condition: the text has at most 8000 bytes.
  A text of seen bytes alone (33 to 126): what the program says rune by rune and what the model says byte by byte. No condition but the length.
  What a right Id and a minute are: both sides say the same. No condition but the lengths.
  The readers of both sides: texts, numbers and counts. The condition: the text has at most 8000 bytes.
  Readers that are kept while other memory grows. No condition.
  What is shown once is used on every way to it. No condition.
  The program's reading of a document. The conditions: what the readers ask for.
  Bytes that are spelled by parts: what is read is spelled by just its bytes. Bytes alone. No condition.
  What a ledger's text comes to when it is read: what is read is spelled by just its bytes. Bytes alone. No condition.
  The program's LedgerRead. The condition: the text has at most 8000 bytes.
  The model's LedgerRead. The conditions: what the readers ask for.
  A ledger read: for every text there is one answer that both sides hand back. The condition: the text has at most 1048576 bytes.
-/
import Derived.BigQuiet
import Derived.Deep.QuietTactic
import Derived.Deep.RegionHeld3
import Derived.WalkMore
import Derived.ScopeJumps
import Derived.BigRegion
import Derived.Deep.RegionWith
import Derived.Laws.RangeAny
import Derived.Deep.CutRange
import Derived.Deep.DeepCutAuto
import Derived.Test.YtbecgngmpjajaaaG3
namespace Go.Proofs.Ytbecgngmpjajaaa
open Go.ChangeShapes Go.WideShapes Go.ChangeAt Go.RowKit
set_option linter.unusedVariables false
namespace LedR
open LinR RowG DocR
open CatR (Blk Blk.new)
theorem ldrewN {B : Nat} {a w : World} (h : Below B a w) (n : Nat) : Below B a (w.drewN n) := ⟨h.os, h.tape, h.output, h.size, h.block⟩
set_option maxRecDepth 100000 in
set_option maxHeartbeats 4000000 in
theorem lwLi_any (ao bo : Option Addr) (c d : Nat) (L : List N) (w : World) (hl : L.length ≤ 1048576) (hI : Lis ao L w) (hJ : Lis bo L w) :
    Calls Try.prog 26 #[.slice ao L.length c, .slice bo L.length d] w fun e w' => e = .returned (.bool true) ∧ Below w.heap.size w w' := by
  have HI := hid_intro hI
  have HJ := hid_intro hJ
  obtain ⟨ln, hln⟩ : ∃ ln, ln = L.length := ⟨_, rfl⟩
  rw [← hln] at hl ⊢
  have HL := hid_intro hln
  clear hI hJ hln
  go_enter Try.func26, Try.ntmps26
  go_wp2_with fail
  go_loopw [5] (fun z wr => ∃ k : Nat, k ≤ ln ∧ z = .int .i64 k ∧ Hid (Below w.heap.size w wr)) (fun z _ => ln - (intOf z).toNat)
  case atStart => exact ⟨0, by omega, rfl, hid_intro (Below.refl _ _)⟩
  case round =>
    obtain ⟨k, hk, rfl, HB⟩ := hrel
    by_cases hlt : k < ln
    · have hlt2 : (k : Int) < (ln : Int) := by omega
      have hkl : k < L.length := by have := HL.out; omega
      obtain ⟨b, off, rfl, _, c0, c1⟩ := (HI.out.below HB.out).at k hkl
      obtain ⟨b', off', rfl, _, e0, e1⟩ := (HJ.out.below HB.out).at k hkl
      generalize L.getD k N.zero = X at *
      obtain ⟨xi, xn⟩ := X
      go_wp2_with fail
      try (go_quiet (fail); go_wp2_with fail)
      go_roundw
      case rel => exact ⟨k + 1, by omega, by go_num, by first | exact HB | exact hid_intro (ldrewN HB.out _)⟩
      case measure => simp [intOf]; omega
    · have hlt2 : ¬ (k : Int) < (ln : Int) := by omega
      go_wp2_with fail
      go_ret
      exact ⟨rfl, HB.out⟩
/-- What is read of two documents. -/
def SD (wr : World) (b o0 o1 o2 o3 b' p0 p1 p2 p3 : Nat) (xa : ByteArray) (xm xq : Int) (u u' : Value) (W : World) : Prop := Below wr.heap.size wr W ∧ b < W.heap.size ∧ b' < W.heap.size ∧ W.cell? ⟨b, o0, none⟩ = some (.string xa) ∧ W.cell? ⟨b, o1, none⟩ = some (.int .i64 xm) ∧ W.cell? ⟨b, o2, none⟩ = some (.int .i64 xq) ∧ W.cell? ⟨b, o3, none⟩ = some u ∧ W.cell? ⟨b', p0, none⟩ = some (.string xa) ∧ W.cell? ⟨b', p1, none⟩ = some (.int .i64 xm) ∧ W.cell? ⟨b', p2, none⟩ = some (.int .i64 xq) ∧ W.cell? ⟨b', p3, none⟩ = some u'
theorem SD.below {wr : World} {b o0 o1 o2 o3 b' p0 p1 p2 p3 : Nat} {xa : ByteArray} {xm xq : Int} {u u' : Value} {W W' : World} (h : SD wr b o0 o1 o2 o3 b' p0 p1 p2 p3 xa xm xq u u' W) (hb : Below W.heap.size W W') : SD wr b o0 o1 o2 o3 b' p0 p1 p2 p3 xa xm xq u u' W' := by
  obtain ⟨h0, h1, h2, c0, c1, c2, c3, d0, d1, d2, d3⟩ := h
  have hs := hb.size
  exact ⟨h0.trans (hb.mono h0.size), by omega, by omega, (hb.cell (p := ⟨b, o0, none⟩) h1).trans c0, (hb.cell (p := ⟨b, o1, none⟩) h1).trans c1, (hb.cell (p := ⟨b, o2, none⟩) h1).trans c2, (hb.cell (p := ⟨b, o3, none⟩) h1).trans c3, (hb.cell (p := ⟨b', p0, none⟩) h2).trans d0, (hb.cell (p := ⟨b', p1, none⟩) h2).trans d1, (hb.cell (p := ⟨b', p2, none⟩) h2).trans d2, (hb.cell (p := ⟨b', p3, none⟩) h2).trans d3⟩
set_option maxRecDepth 100000 in
set_option maxHeartbeats 4000000 in
theorem lwDs_any (ao bo : Option Addr) (c d : Nat) (ds : List D) (w : World) (hl : ds.length ≤ 1048576) (hs : ∀ x ∈ ds, x.ls.length ≤ 1048576) (hI : Dcs ao ds w) (hJ : Dcs bo ds w) :
    Calls Try.prog 9 #[.slice ao ds.length c, .slice bo ds.length d] w fun e w' => e = .returned (.bool true) ∧ Below w.heap.size w w' := by
  have HI := hid_intro hI
  have HJ := hid_intro hJ
  have HSM := hid_intro hs
  obtain ⟨ln, hln⟩ : ∃ ln, ln = ds.length := ⟨_, rfl⟩
  rw [← hln] at hl ⊢
  have HL := hid_intro hln
  clear hI hJ hln hs
  go_enter Try.func9, Try.ntmps9
  go_wp2_with fail
  go_loopw [5] (fun z wr => ∃ k : Nat, k ≤ ln ∧ z = .int .i64 k ∧ Hid (Below w.heap.size w wr)) (fun z _ => ln - (intOf z).toNat)
  case atStart => exact ⟨0, by omega, rfl, hid_intro (Below.refl _ _)⟩
  case round =>
    obtain ⟨k, hk, rfl, HB⟩ := hrel
    by_cases hlt : k < ln
    · have hlt2 : (k : Int) < (ln : Int) := by omega
      have hkl : k < ds.length := by have := HL.out; omega
      obtain ⟨b, off, la, lc, rfl, hbl, c0, c1, c2, c3, hLa⟩ := (HI.out.below HB.out).at k hkl
      obtain ⟨b', off', la', lc', rfl, hbl', e0, e1, e2, e3, hLb⟩ := (HJ.out.below HB.out).at k hkl
      have hsm := HSM.out _ (RowG.getD_mem (z := D.zero) ds k hkl)
      generalize ds.getD k D.zero = X at *
      obtain ⟨xa, xm, xq, xl⟩ := X
      dsimp only at c0 c1 c2 c3 e0 e1 e2 e3 hsm hLa hLb
      have HC := hid_intro (fun W (hb : Below wr.heap.size wr W) => lwLi_any la la' lc lc' xl W hsm (hLa.below hb) (hLb.below hb))
      generalize xl.length = nl at *
      clear hLa hLb
      have HS0 : Hid (SD wr b (off + k * 4) (off + k * 4 + 1) (off + k * 4 + 2) (off + k * 4 + 3) b' (off' + k * 4) (off' + k * 4 + 1) (off' + k * 4 + 2) (off' + k * 4 + 3) xa xm xq (.slice la nl lc) (.slice la' nl lc') wr.drew) := hid_intro ⟨(Below.refl _ _).drew, hbl, hbl', c0, c1, c2, c3, e0, e1, e2, e3⟩
      go_wp2_with fail
      go_region_held3 (fun W => Below wr.heap.size wr W ∧ b < W.heap.size ∧ b' < W.heap.size ∧ W.cell? ⟨b, off + k * 4, none⟩ = some (.string xa) ∧ W.cell? ⟨b, off + k * 4 + 1, none⟩ = some (.int .i64 xm) ∧ W.cell? ⟨b, off + k * 4 + 2, none⟩ = some (.int .i64 xq) ∧ W.cell? ⟨b, off + k * 4 + 3, none⟩ = some (.slice la nl lc) ∧ W.cell? ⟨b', off' + k * 4, none⟩ = some (.string xa) ∧ W.cell? ⟨b', off' + k * 4 + 1, none⟩ = some (.int .i64 xm) ∧ W.cell? ⟨b', off' + k * 4 + 2, none⟩ = some (.int .i64 xq) ∧ W.cell? ⟨b', off' + k * 4 + 3, none⟩ = some (.slice la' nl lc')) (first | assumption | (exact HS0.out) | (exact SD.below (wr := wr) (b := b) (o0 := off + k * 4) (o1 := off + k * 4 + 1) (o2 := off + k * 4 + 2) (o3 := off + k * 4 + 3) (b' := b') (p0 := off' + k * 4) (p1 := off' + k * 4 + 1) (p2 := off' + k * 4 + 2) (p3 := off' + k * 4 + 3) (xa := xa) (xm := xm) (xq := xq) (u := .slice la nl lc) (u' := .slice la' nl lc') (by assumption) hb))
        (first | (go_at_call 26; refine (HC.out _ (by first | exact HS0.out.1 | (rename_i hSx; exact hSx.1))).mono ?_; rintro e w' ⟨rfl, hb⟩))
      rename_i hS
      have HB2 := hid_intro (HB.out.trans (hS.1.mono HB.out.size))
      clear hS
      go_wp2_with fail
      go_roundw
      case rel => exact ⟨k + 1, by omega, by go_num, HB2⟩
      case measure => simp [intOf]; omega
    · have hlt2 : ¬ (k : Int) < (ln : Int) := by omega
      go_wp2_with fail
      go_ret
      exact ⟨rfl, HB.out⟩
end LedR
end Go.Proofs.Ytbecgngmpjajaaa
namespace Go.Proofs.Ytbecgngmpjajaaa
open Go.ChangeShapes Go.WideShapes Go.ChangeAt Go.RowKit
set_option linter.unusedVariables false
set_option linter.unusedSimpArgs false
namespace LedR
open LinR RowG DocR
open CatR (Blk Blk.new)
theorem dcs_one {p : Nat} {x : D} {la : Option Addr} {lc : Nat} {W : World} (h : Blk p [.string x.a, .int .i64 x.mo, .int .i64 x.sq, .slice la x.ls.length lc] W) (hL : Lis la x.ls W) : Dcs (some ⟨p, 0, none⟩) [x] W := by
  refine .inr ⟨p, 0, rfl, h.1, fun j hj => ?_⟩
  obtain rfl : j = 0 := by simp at hj; omega
  exact ⟨la, lc, h.2 0 (by simp), h.2 1 (by simp), h.2 2 (by simp), h.2 3 (by simp), hL⟩
set_option maxRecDepth 100000 in
set_option maxHeartbeats 8000000 in
theorem lwLo_any (v v' : Value) (ds : List D) (x : D) (cd : Int) (w : World) (hl : ds.length ≤ 1048576) (hs : ∀ y ∈ ds, y.ls.length ≤ 1048576) (hx : x.ls.length ≤ 1048576) (hI : LoR v ds x cd w) (hJ : LoR v' ds x cd w) :
    Calls Try.prog 10 #[v, v'] w fun e w' => e = .returned (.bool true) ∧ Below w.heap.size w w' := by
  obtain ⟨ao, c, la, lc, rfl, hD, hL⟩ := hI
  obtain ⟨bo, c', la', lc', rfl, hD', hL'⟩ := hJ
  obtain ⟨W0, hW0⟩ : ∃ W0, W0 = (w.alloc (.cells #[.slice ao ds.length c, .string x.a, .int .i64 x.mo, .int .i64 x.sq, .slice la x.ls.length lc, .int .i64 cd] 31)).alloc (.cells #[.slice bo ds.length c', .string x.a, .int .i64 x.mo, .int .i64 x.sq, .slice la' x.ls.length lc', .int .i64 cd] 31) := ⟨_, rfl⟩
  have hB0 : Below w.heap.size w W0 := by rw [hW0]; exact ((Below.refl _ _).alloc (Nat.le_refl _) _).alloc (by simp) _
  have hX0 : Blk w.heap.size [.slice ao ds.length c, .string x.a, .int .i64 x.mo, .int .i64 x.sq, .slice la x.ls.length lc, .int .i64 cd] W0 := by rw [hW0]; exact (Blk.new w [.slice ao ds.length c, .string x.a, .int .i64 x.mo, .int .i64 x.sq, .slice la x.ls.length lc, .int .i64 cd] 31).alloc _
  have hY0 : Blk (w.heap.size + 1) [.slice bo ds.length c', .string x.a, .int .i64 x.mo, .int .i64 x.sq, .slice la' x.ls.length lc', .int .i64 cd] W0 := by
    rw [hW0]
    have := Blk.new (w.alloc (.cells #[.slice ao ds.length c, .string x.a, .int .i64 x.mo, .int .i64 x.sq, .slice la x.ls.length lc, .int .i64 cd] 31)) [.slice bo ds.length c', .string x.a, .int .i64 x.mo, .int .i64 x.sq, .slice la' x.ls.length lc', .int .i64 cd] 31
    simpa using this
  have HC1 := hid_intro (fun W (hb : Below W0.heap.size W0 W) => lwDs_any ao bo c c' ds W hl hs ((hD.below hB0).below hb) ((hD'.below hB0).below hb))
  have HC2 := hid_intro (fun p q W (hb : Below W0.heap.size W0 W) (h1 : Blk p [.string x.a, .int .i64 x.mo, .int .i64 x.sq, .slice la x.ls.length lc] W) (h2 : Blk q [.string x.a, .int .i64 x.mo, .int .i64 x.sq, .slice la' x.ls.length lc'] W) => lwDs_any (some ⟨p, 0, none⟩) (some ⟨q, 0, none⟩) 1 1 [x] W (by simp) (fun y hy => by simp only [List.mem_singleton] at hy; subst hy; exact hx) (dcs_one h1 ((hL.below hB0).below hb)) (dcs_one h2 ((hL'.below hB0).below hb)))
  have HB0 := hid_intro hB0
  have HW := hid_intro hW0
  have HX0 := hid_intro hX0
  have HY0 := hid_intro hY0
  clear hD hD' hL hL' hB0 hX0 hY0 hW0 hs
  obtain ⟨xa, xm, xq, xl⟩ := x
  dsimp only at *
  generalize ds.length = nd at *
  generalize xl.length = nl at *
  go_enter Try.func10, Try.ntmps10
  go_wp2_with fail
  rw [← HW.out]
  clear HW
  have x1 := HX0.out
  have y1 := HY0.out
  refine (HC1.out _ (Below.refl _ _)).mono ?_
  rintro e w1 ⟨rfl, hb1⟩
  have hX1 := HX0.out.below hb1
  have hY1 := HY0.out.below hb1
  have xl := hX1.1
  have yl := hY1.1
  have x1 : w1.cell? ⟨w.heap.size, 1, none⟩ = some (.string xa) := hX1.2 1 (by simp)
  have x2 : w1.cell? ⟨w.heap.size, 2, none⟩ = some (.int .i64 xm) := hX1.2 2 (by simp)
  have x3 : w1.cell? ⟨w.heap.size, 3, none⟩ = some (.int .i64 xq) := hX1.2 3 (by simp)
  have x4 : w1.cell? ⟨w.heap.size, 4, none⟩ = some (.slice la nl lc) := hX1.2 4 (by simp)
  have y1 : w1.cell? ⟨w.heap.size + 1, 1, none⟩ = some (.string xa) := hY1.2 1 (by simp)
  have y2 : w1.cell? ⟨w.heap.size + 1, 2, none⟩ = some (.int .i64 xm) := hY1.2 2 (by simp)
  have y3 : w1.cell? ⟨w.heap.size + 1, 3, none⟩ = some (.int .i64 xq) := hY1.2 3 (by simp)
  have y4 : w1.cell? ⟨w.heap.size + 1, 4, none⟩ = some (.slice la' nl lc') := hY1.2 4 (by simp)
  obtain ⟨k2, hk2⟩ : ∃ z, z = (w1.alloc (.cells #[.string xa, .int .i64 xm, .int .i64 xq, .slice la nl lc] 29)).alloc (.cells #[.string xa, .int .i64 xm, .int .i64 xq, .slice la' nl lc'] 29) := ⟨_, rfl⟩
  have hb2 : Below w1.heap.size w1 k2 := by rw [hk2]; exact ((Below.refl _ _).alloc (Nat.le_refl _) _).alloc (by simp) _
  have hP2 : Blk w1.heap.size [.string xa, .int .i64 xm, .int .i64 xq, .slice la nl lc] k2 := by rw [hk2]; exact (Blk.new w1 [.string xa, .int .i64 xm, .int .i64 xq, .slice la nl lc] 29).alloc _
  have hQ2 : Blk (w1.heap.size + 1) [.string xa, .int .i64 xm, .int .i64 xq, .slice la' nl lc'] k2 := by
    rw [hk2]
    have := Blk.new (w1.alloc (.cells #[.string xa, .int .i64 xm, .int .i64 xq, .slice la nl lc] 29)) [.string xa, .int .i64 xm, .int .i64 xq, .slice la' nl lc'] 29
    simpa using this
  have HBX := hid_intro (hb1.trans (hb2.mono hb1.size))
  have HP2 := hid_intro hP2
  have HQ2 := hid_intro hQ2
  have HK2 := hid_intro hk2
  clear hb1 hb2 hP2 hQ2 hk2 hX1 hY1
  go_wp2_with fail
  rw [← HK2.out]
  refine (HC2.out _ _ _ HBX.out HP2.out HQ2.out).mono ?_
  rintro e w3 ⟨rfl, hb3⟩
  have HBF := hid_intro (HB0.out.trans ((HBX.out.trans (hb3.mono HBX.out.size)).mono HB0.out.size))
  clear hb3
  go_wp2_with fail
  go_ret
  exact ⟨rfl, HBF.out⟩
end LedR
end Go.Proofs.Ytbecgngmpjajaaa
namespace Go.Proofs.Ytbecgngmpjajaaa
open Go
/-- As Q; by a goto to a label l: J l. -/
def jumps (J : Nat → Act → World → Prop) (Q : Exit → Act → World → Prop) : Exit → Act → World → Prop
  | .goto l, a, w => J l a w
  | e, a, w => Q e a w
theorem jumps_ret {J : Nat → Act → World → Prop} {Q : Exit → Act → World → Prop} {a : Act} {w : World} : jumps J Q .ret a w = Q .ret a w := rfl
theorem jumps_goto {J : Nat → Act → World → Prop} {Q : Exit → Act → World → Prop} {a : Act} {w : World} {l : Nat} : jumps J Q (.goto l) a w = J l a w := rfl
theorem wp_scope_multi {P : Program} {a : Act} {w : World} {Q : Exit → Act → World → Prop} {c : Code} (J : Nat → Act → World → Prop) (μ : Nat → Act → World → Nat)
    (first : c.wp P (jumps J Q) a w)
    (pass : ∀ l a w, J l a w → ∃ rest, findLabel c l = some rest ∧ rest.wp P (jumps (fun l' a' w' => J l' a' w' ∧ μ l' a' w' < μ l a w) Q) a w) : (Code.scope c).wp P Q a w := by
  intro b k cs
  have key : ∀ n l a w, μ l a w = n → J l a w → ∃ rest, findLabel c l = some rest ∧ ∃ e a' w', Q e a' w' ∧ Arrives P (lone (b.at a (.code rest :: .inScope c :: k)) cs w) b k cs e a' w' := by
    intro n
    induction n using Nat.strongRecOn with
    | _ n ih =>
      intro l a w hn hJ
      obtain ⟨rest, hf, hp⟩ := pass l a w hJ
      refine ⟨rest, hf, ?_⟩
      obtain ⟨e, a₁, w₁, hq, harr⟩ := hp b (.inScope c :: k) cs
      cases e with
      | normal => exact ⟨.normal, a₁, w₁, hq, Steps.trans harr (.one step_inScope)⟩
      | exit id => exact ⟨.exit id, a₁, w₁, hq, fun k' hk => harr k' (by simp [exitTo, hk])⟩
      | goto l' =>
        obtain ⟨hJ', hlt⟩ := hq
        obtain ⟨rest', hf', e₂, a₂, w₂, hq₂, harr₂⟩ := ih _ (by omega) l' a₁ w₁ rfl hJ'
        have hg : gotoIn l' (.inScope c :: k) = some (.code rest' :: .inScope c :: k) := by simp [gotoIn, hf']
        exact ⟨e₂, a₂, w₂, hq₂, .of_steps (harr _ hg) harr₂⟩
      | ret => exact ⟨_, a₁, w₁, hq, harr⟩
      | panic ch => exact ⟨_, a₁, w₁, hq, harr⟩
      | outgrown => exact ⟨_, a₁, w₁, hq, harr⟩
  obtain ⟨e, a₁, w₁, hq, harr⟩ := first b (.inScope c :: k) cs
  cases e with
  | normal => exact ⟨.normal, a₁, w₁, hq, .head step_scope (Steps.trans harr (.one step_inScope))⟩
  | exit id => exact ⟨.exit id, a₁, w₁, hq, fun k' hk => .head step_scope (harr k' (by simp [exitTo, hk]))⟩
  | goto l' =>
    obtain ⟨rest', hf', e₂, a₂, w₂, hq₂, harr₂⟩ := key _ l' a₁ w₁ rfl hq
    have hg : gotoIn l' (.inScope c :: k) = some (.code rest' :: .inScope c :: k) := by simp [gotoIn, hf']
    exact ⟨e₂, a₂, w₂, hq₂, .of_steps (.head step_scope (harr _ hg)) harr₂⟩
  | ret => exact ⟨_, a₁, w₁, hq, .of_steps (.one step_scope) harr⟩
  | panic ch => exact ⟨_, a₁, w₁, hq, .of_steps (.one step_scope) harr⟩
  | outgrown => exact ⟨_, a₁, w₁, hq, .of_steps (.one step_scope) harr⟩
end Go.Proofs.Ytbecgngmpjajaaa
namespace Go.Proofs.Ytbecgngmpjajaaa
open Go.RowKit
namespace GetR
theorem hid_intro {p : Prop} (h : p) : Hid p := h
def rd (s : ByteArray) (p : Nat) : Nat → Nat → Nat → Nat × Nat × Nat
  | 0, _, _ => (3, 0, 0)
  | f + 1, i, u =>
    if h : p + i < s.size then
      if i = 9 ∧ 1 < s[p + i].toNat then (3, 0, 0)
      else if s[p + i].toNat < 128 then (if s[p + i].toNat = 0 ∧ 0 < i then (3, 0, 0) else (0, u + s[p + i].toNat % 128 * 2 ^ (7 * i), i + 1))
      else rd s p f (i + 1) (u + s[p + i].toNat % 128 * 2 ^ (7 * i))
    else (4, 0, 0)
theorem rd_short {s : ByteArray} {p f i u : Nat} (h : s.size ≤ p + i) : rd s p (f + 1) i u = (4, 0, 0) := by
  rw [rd, dif_neg (by omega)]
theorem rd_nine {s : ByteArray} {p f i u : Nat} (h : p + i < s.size) (h9 : i = 9) (hc : 1 < s[p + i].toNat) : rd s p (f + 1) i u = (3, 0, 0) := by
  rw [rd, dif_pos h, if_pos ⟨h9, hc⟩]
theorem rd_zero {s : ByteArray} {p f i u : Nat} (h : p + i < s.size) (hc : s[p + i].toNat = 0) (hi : 0 < i) : rd s p (f + 1) i u = (3, 0, 0) := by
  rw [rd, dif_pos h, if_neg (by omega), if_pos (by omega), if_pos ⟨hc, hi⟩]
theorem rd_last {s : ByteArray} {p f i u : Nat} (h : p + i < s.size) (h9 : ¬ (i = 9 ∧ 1 < s[p + i].toNat)) (hc : s[p + i].toNat < 128) (hz : ¬ (s[p + i].toNat = 0 ∧ 0 < i)) :
    rd s p (f + 1) i u = (0, u + s[p + i].toNat % 128 * 2 ^ (7 * i), i + 1) := by
  rw [rd, dif_pos h, if_neg h9, if_pos hc, if_neg hz]
theorem rd_more {s : ByteArray} {p f i u : Nat} (h : p + i < s.size) (h9 : i ≠ 9) (hc : 128 ≤ s[p + i].toNat) :
    rd s p (f + 1) i u = rd s p f (i + 1) (u + s[p + i].toNat % 128 * 2 ^ (7 * i)) := by
  rw [rd, dif_pos h, if_neg (by omega), if_neg (by omega)]
/-- What is read in all, and what is still to be read behind k bytes, are one. -/
def RdI (s : ByteArray) (p k u : Nat) : Prop := k ≤ 9 ∧ u < 2 ^ (7 * k) ∧ rd s p 10 0 0 = rd s p (9 - k + 1) k u
theorem rdI_zero (s : ByteArray) (p : Nat) : RdI s p 0 0 := ⟨by omega, by simp, rfl⟩
theorem grow7 {u k c : Nat} (h : u < 2 ^ (7 * k)) (hc : c ≤ 127) : u + c * 2 ^ (7 * k) < 2 ^ (7 * (k + 1)) := by
  have e : 2 ^ (7 * (k + 1)) = 128 * 2 ^ (7 * k) := by rw [show 7 * (k + 1) = 7 * k + 7 from by omega, Nat.pow_add, Nat.mul_comm]
  have : c * 2 ^ (7 * k) ≤ 127 * 2 ^ (7 * k) := Nat.mul_le_mul_right _ hc
  omega
theorem pow7 {k : Nat} (h : k ≤ 9) : 2 ^ (7 * k) ≤ 9223372036854775808 := by
  have := Nat.pow_le_pow_right (show 0 < 2 by omega) (show 7 * k ≤ 63 by omega)
  exact this
theorem rdI_more {s : ByteArray} {p k u : Nat} (h : RdI s p k u) (hp : p + k < s.size) (h9 : k ≠ 9) (hc : 128 ≤ s[p + k].toNat) : RdI s p (k + 1) (u + s[p + k].toNat % 128 * 2 ^ (7 * k)) := by
  refine ⟨by have := h.1; omega, grow7 h.2.1 (by omega), ?_⟩
  rw [h.2.2, rd_more hp h9 hc]
  congr 1
  have := h.1
  omega
theorem top64 {s : ByteArray} {p k u : Nat} (h : RdI s p k u) (hp : p + k < s.size) (h9 : ¬ (k = 9 ∧ 1 < s[p + k].toNat)) : u + s[p + k].toNat % 128 * 2 ^ (7 * k) < 18446744073709551616 := by
  by_cases e : k = 9
  · subst e
    have h1 : u < 9223372036854775808 := h.2.1
    have h2 : s[p + 9].toNat % 128 * 2 ^ (7 * 9) ≤ 1 * 9223372036854775808 := Nat.mul_le_mul (by omega) (Nat.le_refl _)
    omega
  · have := grow7 h.2.1 (show s[p + k].toNat % 128 ≤ 127 by omega)
    have := pow7 (show k + 1 ≤ 9 by have := h.1; omega)
    omega
/-- A folded number, unfolded. -/
def unz (u : Nat) : Int := if u % 2 = 1 then -((u / 2 : Nat) : Int) - 1 else ((u / 2 : Nat) : Int)
theorem unz_odd {u : Nat} (h : u % 2 = 1) : unz u = -((u / 2 : Nat) : Int) - 1 := if_pos h
theorem unz_even {u : Nat} (h : u % 2 = 0) : unz u = ((u / 2 : Nat) : Int) := if_neg (by omega)
theorem u64wrap (n : Int) : IntKind.u64.wrap n = n % 18446744073709551616 := by simp [IntKind.wrap, IntKind.bits, IntKind.signed]
theorem xor_ones (x : Int) (h0 : 0 ≤ x) (h1 : x ≤ 18446744073709551615) : bits .xor .u64 IntKind.u64.max x = 18446744073709551615 - x := by
  have hm : BitVec.ofInt 64 IntKind.u64.max = BitVec.allOnes 64 := by decide
  have hx : (BitVec.ofInt 64 x).toNat = x.toNat := by
    rw [BitVec.toNat_ofInt]; congr 1; exact Int.emod_eq_of_lt h0 (by omega)
  show IntKind.u64.wrap ((BitVec.ofInt 64 IntKind.u64.max ^^^ BitVec.ofInt 64 x).toNat : Int) = _
  rw [hm, BitVec.allOnes_xor, BitVec.toNat_not, hx, u64wrap]
  omega
theorem and127 (c : Nat) (h : c < 256) : bits .and .u8 (c : Int) 127 = ((c % 128 : Nat) : Int) := by
  have := u8_and_nat c 127 (by omega) (by omega)
  rw [show ((127 : Nat) : Int) = 127 from rfl] at this
  rw [this]
  congr 1
  exact Nat.and_two_pow_sub_one_eq_mod c 7
/-- What the program's round adds: its 'or' is a plus. -/
theorem or_plus {s : ByteArray} {p k u : Nat} (h : RdI s p k u) (hp : p + k < s.size) (h9 : ¬ (k = 9 ∧ 1 < s[p + k].toNat)) :
    bits .or .u64 (u : Int) (IntKind.u64.wrap (IntKind.u64.wrap (bits .and .u8 (s[p + k].toNat : Int) 127) * 2 ^ (7 * k))) = ((u + s[p + k].toNat % 128 * 2 ^ (7 * k) : Nat) : Int) := by
  have ht := top64 h hp h9
  have hc : s[p + k].toNat < 256 := UInt8.toNat_lt s[p + k]
  obtain ⟨c, hcc⟩ : ∃ c, c = s[p + k].toNat := ⟨_, rfl⟩
  rw [← hcc] at ht hc ⊢
  rw [and127 c hc]
  obtain ⟨q, hq⟩ : ∃ q, q = 2 ^ (7 * k) := ⟨_, rfl⟩
  have e2 : ((2 : Int) ^ (7 * k)) = ((2 ^ (7 * k) : Nat) : Int) := by simp
  have hu := h.2.1
  rw [e2]
  rw [← hq] at ht ⊢
  have e3 : IntKind.u64.wrap ((c % 128 : Nat) : Int) = ((c % 128 : Nat) : Int) := by rw [u64wrap]; omega
  have e4 : ((c % 128 : Nat) : Int) * ((q : Nat) : Int) = ((c % 128 * q : Nat) : Int) := by simp
  have e5 : IntKind.u64.wrap ((c % 128 * q : Nat) : Int) = ((c % 128 * q : Nat) : Int) := by rw [u64wrap]; omega
  rw [e3, e4, e5]
  rw [u64_or_nat u (c % 128 * q) (by omega) (by omega)]
  congr 1
  rw [Nat.or_comm, nat_join (7 * k) (c % 128 * q) u (by rw [← hq]; exact Nat.mul_mod_left _ _) hu]
  omega
theorem or_plus9 {s : ByteArray} {p u : Nat} (h : RdI s p 9 u) (hp : p + 9 < s.size) (h9 : ¬ (1 < s[p + 9].toNat)) :
    bits .or .u64 (u : Int) (IntKind.u64.wrap (IntKind.u64.wrap (bits .and .u8 (s[p + 9].toNat : Int) 127) * 9223372036854775808)) = ((u + s[p + 9].toNat % 128 * 2 ^ (7 * 9) : Nat) : Int) :=
  or_plus h hp (by omega)
end GetR
end Go.Proofs.Ytbecgngmpjajaaa
namespace Go.Proofs.Ytbecgngmpjajaaa
open Go.ChangeShapes Go.WideShapes Go.ChangeAt Go.RowKit
open Go.ChangeMaps (open_string shut_string)
set_option linter.unusedVariables false
namespace GetR
theorem and1 (u : Nat) (h : u < 18446744073709551616) : bits .and .u64 (u : Int) 1 = ((u % 2 : Nat) : Int) := by
  have := u64_and_nat u 1 h (by omega)
  rw [show ((1 : Nat) : Int) = 1 from rfl] at this
  rw [this]
  congr 1
  exact Nat.and_two_pow_sub_one_eq_mod u 1
theorem neg_bits (u : Nat) (h : u < 18446744073709551616) : wrap64 (bits .xor .u64 IntKind.u64.max ((u : Int) / 2)) = -((u / 2 : Nat) : Int) - 1 := by
  rw [xor_ones _ (by omega) (by omega)]; simp only [wrap64]; omega
theorem unfold_any (u : Nat) (w : World) (h : u < 18446744073709551616) :
    Calls Try.prog 68 #[.int .u64 u] w fun e w' => e = .returned (.int .i64 (unz u)) ∧ w' = w := by
  have h1 := and1 u h
  by_cases ho : u % 2 = 1
  · have hq : (bits .and .u64 (u : Int) 1 == 1) = true := by rw [h1, ho]; rfl
    have HN : Hid (wrap64 (bits .xor .u64 IntKind.u64.max ((u : Int) / 2)) = unz u) := (show _ = _ by rw [unz_odd ho]; exact neg_bits u h)
    have hu : (u : Int) ≤ 18446744073709551615 := by omega
    clear h1 ho h
    go_enter Try.func68, Try.ntmps68
    go_wp2
    go_ret
    exact ⟨ret_int HN.out, rfl⟩
  · have hq : (bits .and .u64 (u : Int) 1 == 1) = false := by rw [h1, show u % 2 = 0 by omega]; rfl
    have HN : Hid ((u : Int) / 2 = unz u) := (show _ = _ by rw [unz_even (by omega)]; omega)
    have hu : (u : Int) ≤ 18446744073709551615 := by omega
    clear h1 ho h
    go_enter Try.func68, Try.ntmps68
    go_wp2
    go_ret
    exact ⟨ret_int HN.out, rfl⟩
/-- What holds at the jumps: 0 'wrong', 1 'more', 2 'last'. -/
def Jmp (s : ByteArray) (p : Nat) (w : World) (l : Nat) (a : Act) (w' : World) : Prop :=
  (l = 0 ∧ ∃ (c : Nat) (x1 x7 x8 x9 u11 u12 u13 u14 u15 u16 u17 u18 u19 u20 u21 u22 u23 u24 u25 u26 u27 u28 u29 u30 u31 u32 u33 u34 u35 u36 u37 u38 u39 u40 u41 u42 u43 u44 u45 u46 u47 u48 u49 u50 u51 u52 : Value), a = { tmps := #[Value.string s, x1, undef, undef, Value.int .i64 0, Value.int .i64 0, Value.nilIface, x7, x8, x9, Value.pointer (some ⟨w.heap.size, 0, none⟩), u11, u12, u13, u14, u15, u16, u17, u18, u19, u20, u21, u22, u23, u24, u25, u26, u27, u28, u29, u30, u31, u32, u33, u34, u35, u36, u37, u38, u39, u40, u41, u42, u43, u44, u45, u46, u47, u48, u49, u50, u51, u52], defers := [] } ∧ w' = w.alloc (.cells #[.int .i64 c] 78) ∧ Hid (rd s p 10 0 0 = (c, 0, 0) ∧ c ≠ 0)) ∨
  (l = 1 ∧ ∃ (k u : Nat) (x1 xu x9 : Int) (x8 u11 u12 u13 u14 u15 u16 u17 u18 u19 u20 u21 u22 u23 u24 u25 u26 u27 u28 u29 u30 u31 u32 u33 u34 u35 u36 u37 u38 u39 u40 u41 u42 u43 u44 u45 u46 u47 u48 u49 u50 u51 u52 : Value), a = { tmps := #[Value.string s, Value.int .i64 x1, undef, undef, Value.int .i64 0, Value.int .i64 0, Value.nilIface, Value.int .u64 xu, x8, Value.int .i64 x9, Value.pointer (some ⟨w.heap.size, 0, none⟩), u11, u12, u13, u14, u15, u16, u17, u18, u19, u20, u21, u22, u23, u24, u25, u26, u27, u28, u29, u30, u31, u32, u33, u34, u35, u36, u37, u38, u39, u40, u41, u42, u43, u44, u45, u46, u47, u48, u49, u50, u51, u52], defers := [] } ∧ w' = w.alloc (.cells #[.int .i64 3] 78) ∧ Hid (RdI s p k u) ∧ k ≤ 9 ∧ p + k ≤ s.size ∧ x1 = (p : Int) + k ∧ xu = u ∧ x9 = 7 * (k : Int)) ∨
  (l = 2 ∧ ∃ (k u c : Nat) (x1 xu xc x9 : Int) (u11 u12 u13 u14 u15 u16 u17 u18 u19 u20 u21 u22 u23 u24 u25 u26 u27 u28 u29 u30 u31 u32 u33 u34 u35 u36 u37 u38 u39 u40 u41 u42 u43 u44 u45 u46 u47 u48 u49 u50 u51 u52 : Value), a = { tmps := #[Value.string s, Value.int .i64 x1, undef, undef, Value.int .i64 0, Value.int .i64 0, Value.nilIface, Value.int .u64 xu, Value.int .u8 xc, Value.int .i64 x9, Value.pointer (some ⟨w.heap.size, 0, none⟩), u11, u12, u13, u14, u15, u16, u17, u18, u19, u20, u21, u22, u23, u24, u25, u26, u27, u28, u29, u30, u31, u32, u33, u34, u35, u36, u37, u38, u39, u40, u41, u42, u43, u44, u45, u46, u47, u48, u49, u50, u51, u52], defers := [] } ∧ w' = w.alloc (.cells #[.int .i64 3] 78) ∧ Hid (rd s p 10 0 0 = if c = 0 ∧ 0 < k then (3, 0, 0) else (0, u, k + 1)) ∧ k ≤ 9 ∧ p + k < s.size ∧ c < 128 ∧ u < 18446744073709551616 ∧ x1 = (p : Int) + k + 1 ∧ xu = u ∧ xc = c ∧ x9 = 7 * (k : Int))
theorem rd_step {s : ByteArray} {p k u : Nat} (h : RdI s p k u) (hp : p + k < s.size) (h9 : ¬ (k = 9 ∧ 1 < s[p + k].toNat)) (hc : s[p + k].toNat < 128) :
    rd s p 10 0 0 = if s[p + k].toNat = 0 ∧ 0 < k then (3, 0, 0) else (0, u + s[p + k].toNat % 128 * 2 ^ (7 * k), k + 1) := by
  rw [h.2.2]
  split
  · next hz => exact rd_zero hp hz.1 hz.2
  · next hz => exact rd_last hp h9 hc hz
theorem or_plus0 {s : ByteArray} {p : Nat} (hp : p < s.size) :
    bits .or .u64 0 (IntKind.u64.wrap (IntKind.u64.wrap (bits .and .u8 (s[p].toNat : Int) 127))) = ((0 + s[p + 0].toNat % 128 * 2 ^ (7 * 0) : Nat) : Int) := by
  have := or_plus (rdI_zero s p) (show p + 0 < s.size from hp) (by omega)
  simpa using this
theorem ret_fault {a b : Int} {T : TypeId} (h : a = b) : Ending.returned (.tuple #[.int .i64 0, .int .i64 0, .iface T (.agg #[.int .i64 a])]) = .returned (.tuple #[.int .i64 0, .int .i64 0, .iface T (.agg #[.int .i64 b])]) := by rw [h]
theorem ret_got {a b c d : Int} (h1 : a = b) (h2 : c = d) : Ending.returned (.tuple #[.int .i64 a, .int .i64 c, .nilIface]) = .returned (.tuple #[.int .i64 b, .int .i64 d, .nilIface]) := by rw [h1, h2]
def lab (l : Nat) (a : Act) (_ : World) : Nat := match l with | 0 => 0 | 1 => 100 - (intOf (a.tmps.getD 9 undef)).toNat | _ => 1
/-- What the call hands back, of what is read. -/
def Told (w : World) (p : Nat) (r : Nat × Nat × Nat) (e : Ending) (w' : World) : Prop :=
  (r.1 = 0 → e = .returned (.tuple #[.int .i64 (unz r.2.1), .int .i64 ((p : Int) + r.2.2), .nilIface])) ∧
  (r.1 ≠ 0 → e = .returned (.tuple #[.int .i64 0, .int .i64 0, .iface 78 (.agg #[.int .i64 r.1])])) ∧ Below w.heap.size w w'
set_option maxRecDepth 100000 in
set_option maxHeartbeats 4000000 in
theorem read_any (s : ByteArray) (p : Nat) (w : World) (hs : s.size ≤ 8000) (hm : (p : Int) ≤ 9223372036854775807) :
    Calls Try.prog 57 #[.string s, .int .i64 p] w fun e w' => Told w p (rd s p 10 0 0) e w' := by
  go_enter Try.func57, Try.ntmps57
  go_wp2
  refine wp_scope_multi (Jmp s p w) lab ?_ ?_
  · go_wp2
    go_step3
    by_cases hp : (p : Int) < s.size
    · have hb : 0 ≤ (s[p].toNat : Int) := by omega
      have hb2 : (s[p].toNat : Int) ≤ 255 := by have := UInt8.toNat_lt s[p]; omega
      have hp0 : p + 0 < s.size := by omega
      have HO : Hid (bits .or .u64 0 (IntKind.u64.wrap (IntKind.u64.wrap (bits .and .u8 (s[p].toNat : Int) 127))) = ((0 + s[p + 0].toNat % 128 * 2 ^ (7 * 0) : Nat) : Int)) := or_plus0 (by omega)
      have HT : Hid (0 + s[p + 0].toNat % 128 * 2 ^ (7 * 0) < 18446744073709551616) := top64 (rdI_zero s p) hp0 (by omega)
      by_cases hc : (s[p].toNat : Int) < 128
      · have HR : Hid (rd s p 10 0 0 = if s[p + 0].toNat = 0 ∧ 0 < 0 then (3, 0, 0) else (0, 0 + s[p + 0].toNat % 128 * 2 ^ (7 * 0), 0 + 1)) := rd_step (rdI_zero s p) hp0 (by omega) (show s[p + 0].toNat < 128 by have : s[p + 0].toNat = s[p].toNat := rfl; omega)
        go_wp2
        go_step3
        refine .inr (.inr ⟨rfl, 0, _, s[p + 0].toNat, _, _, _, _, _, _, _, _, _, _, _, _, _, _, _, _, _, _, _, _, _, _, _, _, _, _, _, _, _, _, _, _, _, _, _, _, _, _, _, _, _, _, _, _, _, _, rfl, rfl, HR, by omega, by omega, ?_, HT.out, ?_, ?_, ?_, ?_⟩)
        · have : s[p + 0].toNat = s[p].toNat := rfl
          omega
        · omega
        · exact HO.out
        · rfl
        · rfl
      · have HI : Hid (RdI s p (0 + 1) (0 + s[p + 0].toNat % 128 * 2 ^ (7 * 0))) := rdI_more (rdI_zero s p) hp0 (by omega) (show 128 ≤ s[p + 0].toNat by have : s[p + 0].toNat = s[p].toNat := rfl; omega)
        go_wp2
        go_step3
        refine .inr (.inl ⟨rfl, 0 + 1, _, _, _, _, _, _, _, _, _, _, _, _, _, _, _, _, _, _, _, _, _, _, _, _, _, _, _, _, _, _, _, _, _, _, _, _, _, _, _, _, _, _, _, _, _, _, _, rfl, rfl, HI, by omega, by omega, ?_, ?_, ?_⟩)
        · omega
        · exact HO.out
        · rfl
    · go_wp2
      go_step3
      refine .inl ⟨rfl, 4, _, _, _, _, _, _, _, _, _, _, _, _, _, _, _, _, _, _, _, _, _, _, _, _, _, _, _, _, _, _, _, _, _, _, _, _, _, _, _, _, _, _, _, _, _, _, rfl, rfl, ?_⟩
      exact hid_intro ⟨rd_short (by omega), by omega⟩
  · rintro l a' w' (⟨rfl, c, x1, x7, x8, x9, u11, u12, u13, u14, u15, u16, u17, u18, u19, u20, u21, u22, u23, u24, u25, u26, u27, u28, u29, u30, u31, u32, u33, u34, u35, u36, u37, u38, u39, u40, u41, u42, u43, u44, u45, u46, u47, u48, u49, u50, u51, u52, rfl, rfl, HR⟩ | ⟨rfl, k, u, x1, xu, x9, x8, u11, u12, u13, u14, u15, u16, u17, u18, u19, u20, u21, u22, u23, u24, u25, u26, u27, u28, u29, u30, u31, u32, u33, u34, u35, u36, u37, u38, u39, u40, u41, u42, u43, u44, u45, u46, u47, u48, u49, u50, u51, u52, rfl, rfl, HR, hk, hpk, rfl, rfl, rfl⟩ | ⟨rfl, k, u, c, x1, xu, xc, x9, u11, u12, u13, u14, u15, u16, u17, u18, u19, u20, u21, u22, u23, u24, u25, u26, u27, u28, u29, u30, u31, u32, u33, u34, u35, u36, u37, u38, u39, u40, u41, u42, u43, u44, u45, u46, u47, u48, u49, u50, u51, u52, rfl, rfl, HR, hk, hpk, hc, hu, rfl, rfl, rfl, rfl⟩)
    · refine ⟨_, rfl, ?_⟩
      go_wp2
      go_quiet (fail)
      go_wp2
      rw [jumps_ret]
      go_ret3
      refine ⟨fun h => absurd h (by rw [HR.out.1]; exact HR.out.2), fun _ => ret_fault (by rw [HR.out.1]), ?_⟩
      exact below_drewN ((Below.refl _ _).alloc (Nat.le_refl _) _) _
    · refine ⟨_, rfl, ?_⟩
      by_cases hp : (p : Int) + k < s.size
      · have hpN : p + k < s.size := by omega
        have hb2 : (s[p + k].toNat : Int) ≤ 255 := by have := UInt8.toNat_lt s[p + k]; omega
        by_cases h9 : k = 9
        · have HK : Hid (k = 9) := h9
          have h63 : (7 * (k : Int) == 63) = true := by simp; omega
          clear h9
          by_cases hc1 : 1 < (s[p + k].toNat : Int)
          · have HS : Hid (rd s p 10 0 0 = (3, 0, 0)) := (show _ = _ by rw [HR.out.2.2]; exact rd_nine hpN HK.out (by omega))
            clear HR
            go_wp2
            go_step3
            refine ⟨.inl ⟨rfl, 3, _, _, _, _, _, _, _, _, _, _, _, _, _, _, _, _, _, _, _, _, _, _, _, _, _, _, _, _, _, _, _, _, _, _, _, _, _, _, _, _, _, _, _, _, _, _, rfl, rfl, hid_intro ⟨HS.out, by omega⟩⟩, ?_⟩
            simp [lab, intOf]; omega
          · have HO : Hid (bits .or .u64 (u : Int) (IntKind.u64.wrap (IntKind.u64.wrap (bits .and .u8 (s[p + k].toNat : Int) 127) * 2 ^ (7 * k))) = ((u + s[p + k].toNat % 128 * 2 ^ (7 * k) : Nat) : Int)) := or_plus HR.out hpN (by omega)
            have HT : Hid (u + s[p + k].toNat % 128 * 2 ^ (7 * k) < 18446744073709551616) := top64 HR.out hpN (by omega)
            have HR2 : Hid (rd s p 10 0 0 = if s[p + k].toNat = 0 ∧ 0 < k then (3, 0, 0) else (0, u + s[p + k].toNat % 128 * 2 ^ (7 * k), k + 1)) := rd_step HR.out hpN (by omega) (by omega)
            clear HR
            have hc : (s[p + k].toNat : Int) < 128 := by omega
            go_wp2
            go_step3
            refine ⟨.inr (.inr ⟨rfl, k, _, s[p + k].toNat, _, _, _, _, _, _, _, _, _, _, _, _, _, _, _, _, _, _, _, _, _, _, _, _, _, _, _, _, _, _, _, _, _, _, _, _, _, _, _, _, _, _, _, _, _, _, rfl, rfl, HR2, hk, hpN, by omega, HT.out, ?_, HO.out, rfl, rfl⟩), ?_⟩
            · omega
            · simp [lab, intOf]; omega
        · have HO : Hid (bits .or .u64 (u : Int) (IntKind.u64.wrap (IntKind.u64.wrap (bits .and .u8 (s[p + k].toNat : Int) 127) * 2 ^ (7 * k))) = ((u + s[p + k].toNat % 128 * 2 ^ (7 * k) : Nat) : Int)) := or_plus HR.out hpN (by omega)
          have HT : Hid (u + s[p + k].toNat % 128 * 2 ^ (7 * k) < 18446744073709551616) := top64 HR.out hpN (by omega)
          have h63 : (7 * (k : Int) == 63) = false := by simp; omega
          by_cases hc : (s[p + k].toNat : Int) < 128
          · have HR2 : Hid (rd s p 10 0 0 = if s[p + k].toNat = 0 ∧ 0 < k then (3, 0, 0) else (0, u + s[p + k].toNat % 128 * 2 ^ (7 * k), k + 1)) := rd_step HR.out hpN (by omega) (by omega)
            clear HR
            go_wp2
            go_step3
            refine ⟨.inr (.inr ⟨rfl, k, _, s[p + k].toNat, _, _, _, _, _, _, _, _, _, _, _, _, _, _, _, _, _, _, _, _, _, _, _, _, _, _, _, _, _, _, _, _, _, _, _, _, _, _, _, _, _, _, _, _, _, _, rfl, rfl, HR2, hk, hpN, by omega, HT.out, ?_, HO.out, rfl, rfl⟩), ?_⟩
            · omega
            · simp [lab, intOf]; omega
          · have HI : Hid (RdI s p (k + 1) (u + s[p + k].toNat % 128 * 2 ^ (7 * k))) := rdI_more HR.out hpN h9 (by omega)
            clear HR
            go_wp2
            go_step3
            refine ⟨.inr (.inl ⟨rfl, k + 1, _, _, _, _, _, _, _, _, _, _, _, _, _, _, _, _, _, _, _, _, _, _, _, _, _, _, _, _, _, _, _, _, _, _, _, _, _, _, _, _, _, _, _, _, _, _, _, rfl, rfl, HI, by omega, by omega, ?_, HO.out, ?_⟩), ?_⟩
            · omega
            · omega
            · simp [lab, intOf]; omega
      · have HS : Hid (rd s p 10 0 0 = (4, 0, 0)) := (show _ = _ by rw [HR.out.2.2]; exact rd_short (by omega))
        clear HR
        go_wp2
        go_step3
        refine ⟨.inl ⟨rfl, 4, _, _, _, _, _, _, _, _, _, _, _, _, _, _, _, _, _, _, _, _, _, _, _, _, _, _, _, _, _, _, _, _, _, _, _, _, _, _, _, _, _, _, _, _, _, _, rfl, rfl, hid_intro ⟨HS.out, by omega⟩⟩, ?_⟩
        simp [lab, intOf]; omega
    · refine ⟨_, rfl, ?_⟩
      have hu2 : (u : Int) ≤ 18446744073709551615 := by omega
      have h7 : 7 * (k : Int) ≤ 63 := by omega
      have h8 : (0 : Int) ≤ 7 * (k : Int) := by omega
      by_cases hc0 : c = 0
      · have q0 : ((c : Int) == 0) = true := by simp; omega
        by_cases hk0 : 0 < k
        · have q1 : (0 : Int) < 7 * (k : Int) := by omega
          have HS : Hid (rd s p 10 0 0 = (3, 0, 0)) := (show _ = _ by rw [HR.out, if_pos ⟨hc0, hk0⟩])
          clear HR hc0
          go_wp2
          go_step3
          refine ⟨.inl ⟨rfl, 3, _, _, _, _, _, _, _, _, _, _, _, _, _, _, _, _, _, _, _, _, _, _, _, _, _, _, _, _, _, _, _, _, _, _, _, _, _, _, _, _, _, _, _, _, _, _, rfl, rfl, hid_intro ⟨HS.out, by omega⟩⟩, ?_⟩
          simp [lab]
        · have q1 : ¬ (0 : Int) < 7 * (k : Int) := by omega
          have HS : Hid (rd s p 10 0 0 = (0, u, k + 1)) := (show _ = _ by rw [HR.out, if_neg (by omega)])
          clear HR hc0
          go_wp2_with (go_at_call 68; refine (unfold_any u _ (by omega)).mono ?_; rintro e w' ⟨rfl, rfl⟩)
          rw [jumps_ret]
          go_ret3
          exact ⟨fun _ => ret_got (by rw [HS.out]) (by rw [HS.out]; show _ = (p : Int) + ((k + 1 : Nat) : Int); omega), fun h => absurd (by rw [HS.out]) h, (Below.refl _ _).alloc (Nat.le_refl _) _⟩
      · have q0 : ((c : Int) == 0) = false := by simp; omega
        have HS : Hid (rd s p 10 0 0 = (0, u, k + 1)) := (show _ = _ by rw [HR.out, if_neg (by omega)])
        clear HR hc0
        go_wp2_with (go_at_call 68; refine (unfold_any u _ (by omega)).mono ?_; rintro e w' ⟨rfl, rfl⟩)
        rw [jumps_ret]
        go_ret3
        exact ⟨fun _ => ret_got (by rw [HS.out]) (by rw [HS.out]; show _ = (p : Int) + ((k + 1 : Nat) : Int); omega), fun h => absurd (by rw [HS.out]) h, (Below.refl _ _).alloc (Nat.le_refl _) _⟩
set_option maxRecDepth 100000 in
theorem read_neg (s : ByteArray) (x : Int) (w : World) (hx : x < 0) (hm : -9223372036854775808 ≤ x) :
    Calls Try.prog 57 #[.string s, .int .i64 x] w fun e w' => e = .returned (.tuple #[.int .i64 0, .int .i64 0, .iface 78 (.agg #[.int .i64 1])]) ∧ Below w.heap.size w w' := by
  go_enter Try.func57, Try.ntmps57
  go_wp2
  refine wp_scope_multi (fun l a' w' => l = 0 ∧ ∃ (x1 x7 x8 x9 u11 u12 u13 u14 u15 u16 u17 u18 u19 u20 u21 u22 u23 u24 u25 u26 u27 u28 u29 u30 u31 u32 u33 u34 u35 u36 u37 u38 u39 u40 u41 u42 u43 u44 u45 u46 u47 u48 u49 u50 u51 u52 : Value), a' = { tmps := #[Value.string s, x1, undef, undef, Value.int .i64 0, Value.int .i64 0, Value.nilIface, x7, x8, x9, Value.pointer (some ⟨w.heap.size, 0, none⟩), u11, u12, u13, u14, u15, u16, u17, u18, u19, u20, u21, u22, u23, u24, u25, u26, u27, u28, u29, u30, u31, u32, u33, u34, u35, u36, u37, u38, u39, u40, u41, u42, u43, u44, u45, u46, u47, u48, u49, u50, u51, u52], defers := [] } ∧ w' = w.alloc (.cells #[.int .i64 1] 78)) (fun _ _ _ => 0) ?_ ?_
  · go_wp2
    go_step3
    exact ⟨rfl, _, _, _, _, _, _, _, _, _, _, _, _, _, _, _, _, _, _, _, _, _, _, _, _, _, _, _, _, _, _, _, _, _, _, _, _, _, _, _, _, _, _, _, _, _, _, rfl, rfl⟩
  · rintro l a' w' ⟨rfl, x1, x7, x8, x9, u11, u12, u13, u14, u15, u16, u17, u18, u19, u20, u21, u22, u23, u24, u25, u26, u27, u28, u29, u30, u31, u32, u33, u34, u35, u36, u37, u38, u39, u40, u41, u42, u43, u44, u45, u46, u47, u48, u49, u50, u51, u52, rfl, rfl⟩
    refine ⟨_, rfl, ?_⟩
    go_wp2
    go_quiet (fail)
    go_wp2
    rw [jumps_ret]
    go_ret3
    exact ⟨rfl, below_drewN ((Below.refl _ _).alloc (Nat.le_refl _) _) _⟩
end GetR
end Go.Proofs.Ytbecgngmpjajaaa
namespace Go.Proofs.Ytbecgngmpjajaaa
open Go.ChangeShapes Go.WideShapes Go.ChangeAt Go.RowKit
open Go.ChangeMaps (open_string shut_string)
set_option linter.unusedVariables false
namespace GetR
/-- The answer, of what is read. -/
def outN (p : Nat) (r : Nat × Nat × Nat) : Value := if r.1 = 0 then .agg #[.int .i64 (unz r.2.1), .int .i64 ((p : Int) + r.2.2), .int .i64 0] else .agg #[.int .i64 0, .int .i64 0, .int .i64 r.1]
theorem outN_bad {p : Nat} {r : Nat × Nat × Nat} {c : Nat} (h : r = (c, 0, 0)) (hc : c ≠ 0) : outN p r = .agg #[.int .i64 0, .int .i64 0, .int .i64 c] := by
  rw [h]; exact if_neg hc
theorem outN_got {p : Nat} {r : Nat × Nat × Nat} {u n : Nat} (h : r = (0, u, n)) : outN p r = .agg #[.int .i64 (unz u), .int .i64 ((p : Int) + n), .int .i64 0] := by
  rw [h]; exact if_pos rfl
/-- What the model's round adds. -/
theorem add_plus {s : ByteArray} {p k u : Nat} (h : RdI s p k u) (hp : p + k < s.size) (h9 : ¬ (k = 9 ∧ 1 < s[p + k].toNat)) :
    IntKind.u64.wrap ((u : Int) + IntKind.u64.wrap ((s[p + k].toNat : Int) % 128 * 2 ^ (7 * k))) = ((u + s[p + k].toNat % 128 * 2 ^ (7 * k) : Nat) : Int) := by
  have ht := top64 h hp h9
  obtain ⟨c, hcc⟩ : ∃ c, c = s[p + k].toNat := ⟨_, rfl⟩
  rw [← hcc] at ht ⊢
  obtain ⟨q, hq⟩ : ∃ q, q = 2 ^ (7 * k) := ⟨_, rfl⟩
  have e2 : ((2 : Int) ^ (7 * k)) = ((2 ^ (7 * k) : Nat) : Int) := by simp
  rw [e2]
  rw [← hq] at ht ⊢
  have e4 : (c : Int) % 128 * ((q : Nat) : Int) = ((c % 128 * q : Nat) : Int) := by simp
  rw [e4]
  obtain ⟨m, hm⟩ : ∃ m, m = c % 128 * q := ⟨_, rfl⟩
  rw [← hm] at ht ⊢
  rw [u64wrap, u64wrap]
  omega
theorem ret_v {a b : Value} (h : a = b) : Ending.returned a = .returned b := by rw [h]
theorem odd_form (v : Nat) (h : (v : Int) ≤ 18446744073709551615) : wrap64 (-((v : Int) / 2) - 1) = -((v / 2 : Nat) : Int) - 1 := by simp only [wrap64]; omega
set_option maxRecDepth 100000 in
set_option maxHeartbeats 4000000 in
theorem spec_any (s : ByteArray) (p : Nat) (w : World) (hs : s.size ≤ 8000) (hm : (p : Int) ≤ 9223372036854775807) :
    Calls Try.prog 47 #[.string s, .int .i64 p] w fun e w' => e = .returned (outN p (rd s p 10 0 0)) ∧ Below w.heap.size w w' := by
  go_enter Try.func47, Try.ntmps47
  go_wp2
  go_loop [5, 6, 7, 8] (fun x i _ _ => ∃ (k u : Nat) (xi xu : Int), i = .int .i64 xi ∧ x = .int .u64 xu ∧ Hid (RdI s p k u) ∧ k ≤ 9 ∧ xi = k ∧ xu = u) (fun _ i _ _ => 10 - (intOf i).toNat)
  case atStart => exact ⟨0, 0, 0, 0, rfl, rfl, rdI_zero s p, by omega, rfl, rfl⟩
  case round =>
    obtain ⟨k, u, xi, xu, rfl, rfl, HR, hk, rfl, rfl⟩ := hrel
    by_cases hp : (p : Int) + k < s.size
    · have hpN : p + k < s.size := by omega
      have hp2 : ¬ (s.size : Int) - k ≤ p := by omega
      have hb2 : (s[p + k].toNat : Int) ≤ 255 := by have := UInt8.toNat_lt s[p + k]; omega
      by_cases hbad : k = 9 ∧ 1 < s[p + k].toNat
      · have h63 : ((k : Int) == 9) = true := by simp; omega
        have hc1 : (1 : Int) < (s[p + k].toNat : Int) := by omega
        have HS : Hid (rd s p 10 0 0 = (3, 0, 0)) := (show _ = _ by rw [HR.out.2.2]; exact rd_nine hpN hbad.1 hbad.2)
        clear HR hbad
        go_wp2
        refine bodyPost_ret (v := .agg #[.int .i64 0, .int .i64 0, .int .i64 3]) (by simp [results, Try.results47, go_sem]) rfl ⟨ret_v (outN_bad HS.out (by omega)).symm, (Below.refl _ _).alloc (Nat.le_refl _) _⟩
      · obtain ⟨v, hv⟩ : ∃ v, v = u + s[p + k].toNat % 128 * 2 ^ (7 * k) := ⟨_, rfl⟩
        have hV := add_plus HR.out hpN hbad
        have ht := top64 HR.out hpN hbad
        rw [← hv] at hV ht
        have hv2 : (v : Int) ≤ 18446744073709551615 := by omega
        have HV : Hid (v = u + s[p + k].toNat % 128 * 2 ^ (7 * k)) := hv
        have HB : Hid (¬ (k = 9 ∧ 1 < s[p + k].toNat)) := hbad
        clear hv hbad
        have key : ((k : Int) == 9) = false ∨ (((k : Int) == 9) = true ∧ ¬ (1 : Int) < (s[p + k].toNat : Int)) := by
          by_cases h9 : k = 9
          · refine .inr ⟨by simp; omega, ?_⟩
            have := HB.out
            omega
          · exact .inl (by simp; omega)
        by_cases hc : (s[p + k].toNat : Int) < 128
        · by_cases hz : s[p + k].toNat = 0 ∧ 0 < k
          · have q0 : ((s[p + k].toNat : Int) == 0) = true := by simp; omega
            have q1 : (0 : Int) < (k : Int) := by omega
            have HS : Hid (rd s p 10 0 0 = (3, 0, 0)) := (show _ = _ by rw [HR.out.2.2]; exact rd_zero hpN hz.1 hz.2)
            clear HR hz
            rcases key with h63 | ⟨h63, hc1⟩
            all_goals
              go_wp2
              refine bodyPost_ret (v := .agg #[.int .i64 0, .int .i64 0, .int .i64 3]) (by simp [results, Try.results47, go_sem]) rfl ⟨ret_v (outN_bad HS.out (by omega)).symm, (Below.refl _ _).alloc (Nat.le_refl _) _⟩
          · have HS : Hid (rd s p 10 0 0 = (0, v, k + 1)) := (show _ = _ by rw [HR.out.2.2, HV.out]; exact rd_last hpN HB.out (by omega) hz)
            have hz2 : (((s[p + k].toNat : Int) == 0) = false) ∨ (((s[p + k].toNat : Int) == 0) = true ∧ ¬ (0 : Int) < (k : Int)) := by
              by_cases h0 : s[p + k].toNat = 0
              · exact .inr ⟨by simp; omega, by omega⟩
              · exact .inl (by simp; omega)
            have HO := hid_intro (odd_form v hv2)
            clear HR hz
            by_cases hpar : v % 2 = 1
            · have q2 : ((v : Int) % 2 == 1) = true := by simp; omega
              have HF : Hid (outN p (rd s p 10 0 0) = .agg #[.int .i64 (-((v : Int) / 2) - 1), .int .i64 ((p : Int) + k + 1), .int .i64 0]) := (show _ = _ by rw [outN_got HS.out, unz_odd hpar]; congr 4)
              clear hpar HS HO
              rcases key with h63 | ⟨h63, hc1⟩
              all_goals
                rcases hz2 with q0 | ⟨q0, q1⟩
                all_goals
                  go_wp2
                  refine bodyPost_ret (v := .agg #[.int .i64 (-((v : Int) / 2) - 1), .int .i64 ((p : Int) + k + 1), .int .i64 0]) (by simp [results, Try.results47, go_sem]) rfl ⟨ret_v HF.out.symm, (Below.refl _ _).alloc (Nat.le_refl _) _⟩
            · have q2 : ((v : Int) % 2 == 1) = false := by simp; omega
              have HF : Hid (outN p (rd s p 10 0 0) = .agg #[.int .i64 ((v : Int) / 2), .int .i64 ((p : Int) + k + 1), .int .i64 0]) := (show _ = _ by rw [outN_got HS.out, unz_even (by omega)]; congr 4)
              clear hpar HS HO
              rcases key with h63 | ⟨h63, hc1⟩
              all_goals
                rcases hz2 with q0 | ⟨q0, q1⟩
                all_goals
                  go_wp2
                  refine bodyPost_ret (v := .agg #[.int .i64 ((v : Int) / 2), .int .i64 ((p : Int) + k + 1), .int .i64 0]) (by simp [results, Try.results47, go_sem]) rfl ⟨ret_v HF.out.symm, (Below.refl _ _).alloc (Nat.le_refl _) _⟩
        · rcases key with h63 | ⟨h63, hc1⟩
          · have HI : Hid (RdI s p (k + 1) v) := (show RdI _ _ _ _ by rw [HV.out]; exact rdI_more HR.out hpN (by intro e; subst e; simp at h63) (by omega))
            clear HR
            have hk8 : k + 1 ≤ 9 := HI.out.1
            go_wp2
            go_round
            case rel => exact ⟨k + 1, v, _, _, rfl, rfl, HI, hk8, by omega, rfl⟩
            case measure => simp [intOf]; omega
          · exfalso; omega
    · have HS : Hid (rd s p 10 0 0 = (4, 0, 0)) := (show _ = _ by rw [HR.out.2.2]; exact rd_short (by omega))
      have hp2 : (s.size : Int) - k ≤ p := by omega
      clear HR
      go_wp2
      refine bodyPost_ret (v := .agg #[.int .i64 0, .int .i64 0, .int .i64 4]) (by simp [results, Try.results47, go_sem]) rfl ⟨ret_v (outN_bad HS.out (by omega)).symm, (Below.refl _ _).alloc (Nat.le_refl _) _⟩
end GetR
end Go.Proofs.Ytbecgngmpjajaaa
namespace Go.Proofs.Ytbecgngmpjajaaa
open Go.RowKit
set_option linter.unusedVariables false
namespace NumsR
open GetR NumR
theorem digs_pos (v : Nat) : 1 ≤ (digs v).length := by
  by_cases h : v < 128
  · rw [digs_last h]; simp
  · rw [digs_more (by omega)]; simp
/-- The bytes at a place are some numbers. -/
def At (s : ByteArray) (b : Nat) (l : List Int) : Prop := ∀ k, k < l.length → ∃ h : b + k < s.size, (s[b + k].toNat : Int) = l.getD k 0
theorem At.tail {s : ByteArray} {b : Nat} {x : Int} {l : List Int} (h : At s b (x :: l)) : At s (b + 1) l := by
  intro k hk
  obtain ⟨h1, h2⟩ := h (k + 1) (by simpa using hk)
  have e : b + 1 + k = b + (k + 1) := by omega
  refine ⟨by omega, ?_⟩
  simp only [e]
  rw [h2]
  simp [List.getD]
theorem At.head {s : ByteArray} {b : Nat} {x : Int} {l : List Int} (h : At s b (x :: l)) : ∃ h : b < s.size, (s[b].toNat : Int) = x := by
  obtain ⟨h1, h2⟩ := h 0 (by simp)
  exact ⟨h1, by simpa using h2⟩
theorem pow_bd {v i : Nat} (h : v * 2 ^ (7 * i) < 18446744073709551616) (hi : i = 9) : v < 2 := by
  subst hi
  refine Nat.lt_of_not_le fun h2 => ?_
  have : 2 * 2 ^ (7 * 9) ≤ v * 2 ^ (7 * 9) := Nat.mul_le_mul_right _ h2
  omega
theorem step_sum (u v i : Nat) : u + v % 128 * 2 ^ (7 * i) + v / 128 * 2 ^ (7 * (i + 1)) = u + v * 2 ^ (7 * i) := by
  have e : 2 ^ (7 * (i + 1)) = 128 * 2 ^ (7 * i) := by rw [show 7 * (i + 1) = 7 * i + 7 from by omega, Nat.pow_add, Nat.mul_comm]
  rw [e]
  obtain ⟨q, hq⟩ : ∃ q, q = 2 ^ (7 * i) := ⟨_, rfl⟩
  rw [← hq]
  have h1 : v / 128 * (128 * q) = (128 * (v / 128)) * q := by rw [← Nat.mul_assoc, Nat.mul_comm (v / 128) 128]
  rw [h1, Nat.add_assoc, ← Nat.add_mul]
  congr 2
  omega
theorem step_le (v i : Nat) (h : v * 2 ^ (7 * i) < 18446744073709551616) : v / 128 * 2 ^ (7 * (i + 1)) < 18446744073709551616 := by
  have := step_sum 0 v i
  omega
theorem rd_digs (s : ByteArray) (p : Nat) : ∀ (f v i u : Nat), At s (p + i) (digs v) → (digs v).length ≤ f → i + f = 10 → (0 < i → 0 < v) → v * 2 ^ (7 * i) < 18446744073709551616 → rd s p f i u = (0, u + v * 2 ^ (7 * i), i + (digs v).length)
  | 0, v, i, u, _, hl, _, _, _ => by have := digs_pos v; omega
  | f + 1, v, i, u, hA, hl, hf, hi, hv => by
    by_cases h : v < 128
    · rw [digs_last h] at hA ⊢
      obtain ⟨h1, h2⟩ := hA.head
      have hc : s[p + i].toNat = v := by omega
      rw [rd_last h1 (fun ⟨e, h3⟩ => by have := pow_bd hv e; omega) (by omega) (fun ⟨e, h3⟩ => by have := hi h3; omega), hc, Nat.mod_eq_of_lt h]
      rfl
    · have h128 : 128 ≤ v := by omega
      rw [digs_more h128] at hA hl ⊢
      obtain ⟨h1, h2⟩ := hA.head
      have hc : s[p + i].toNat = v % 128 + 128 := by omega
      have h9 : i ≠ 9 := fun e => by have := pow_bd hv e; omega
      rw [rd_more h1 h9 (by omega), hc]
      have hm : (v % 128 + 128) % 128 = v % 128 := by omega
      rw [hm]
      have ih := rd_digs s p f (v / 128) (i + 1) (u + v % 128 * 2 ^ (7 * i)) hA.tail (by simpa using hl) (by omega) (fun _ => by omega) (step_le v i hv)
      rw [ih, step_sum]
      simp only [List.length_cons, Prod.mk.injEq, true_and]
      omega
/-- All digits but the last one. -/
theorem rd_cut (s : ByteArray) (p : Nat) : ∀ (f v i u : Nat), At s (p + i) ((digs v).take ((digs v).length - 1)) → s.size = p + i + ((digs v).length - 1) → (digs v).length ≤ f → i + f = 10 → v * 2 ^ (7 * i) < 18446744073709551616 → rd s p f i u = (4, 0, 0)
  | 0, v, i, u, _, _, hl, _, _ => by have := digs_pos v; omega
  | f + 1, v, i, u, hA, hs, hl, hf, hv => by
    by_cases h : v < 128
    · rw [digs_last h] at hs
      exact rd_short (by simp at hs; omega)
    · have h128 : 128 ≤ v := by omega
      have hp := digs_pos (v / 128)
      rw [digs_more h128] at hA hl hs
      simp only [List.length_cons, Nat.add_sub_cancel] at hA hl hs
      obtain ⟨n, hn⟩ : ∃ n, (digs (v / 128)).length = n + 1 := ⟨(digs (v / 128)).length - 1, by omega⟩
      rw [hn, List.take_succ_cons] at hA
      obtain ⟨h1, h2⟩ := hA.head
      have hc : s[p + i].toNat = v % 128 + 128 := by omega
      have h9 : i ≠ 9 := fun e => by have := pow_bd hv e; omega
      rw [rd_more h1 h9 (by omega)]
      refine rd_cut s p f (v / 128) (i + 1) _ ?_ (by omega) (by omega) (by omega) (step_le v i hv)
      have e : (digs (v / 128)).length - 1 = n := by omega
      rw [e]
      exact hA.tail
theorem unz_fold {n : Int} (hn : -9223372036854775808 ≤ n ∧ n ≤ 9223372036854775807) : unz (foldN n).toNat = n := by
  by_cases h : n < 0
  · rw [fold_neg h, unz_odd (by omega)]; omega
  · rw [fold_pos (by omega), unz_even (by omega)]; omega
end NumsR
end Go.Proofs.Ytbecgngmpjajaaa
namespace Go.Proofs.Ytbecgngmpjajaaa
open Go.RowKit
set_option linter.unusedVariables false
namespace NumsR
open GetR NumR
theorem rd_back (s : ByteArray) (p : Nat) : ∀ (f i u U n : Nat), rd s p f i u = (0, U, n) → ∃ v : Nat, U = u + v * 2 ^ (7 * i) ∧ n = i + (digs v).length ∧ At s (p + i) (digs v) ∧ (0 < i → 0 < v)
  | 0, i, u, U, n, h => by simp [rd] at h
  | f + 1, i, u, U, n, h => by
    rw [rd] at h
    split at h
    · rename_i hp
      split at h
      · simp at h
      · split at h
        · rename_i h9 hc
          split at h
          · simp at h
          · rename_i hz
            simp only [Prod.mk.injEq, true_and] at h
            obtain ⟨h1, h2⟩ := h
            have hm : s[p + i].toNat % 128 = s[p + i].toNat := Nat.mod_eq_of_lt hc
            refine ⟨s[p + i].toNat, by rw [← h1, hm], by rw [digs_last hc]; simp; omega, ?_, fun hi => by omega⟩
            rw [digs_last hc]
            intro k hk
            obtain rfl : k = 0 := by simpa using hk
            exact ⟨by omega, by simp⟩
        · rename_i h9 hc
          obtain ⟨v, h1, h2, h3, h4⟩ := rd_back s p f (i + 1) _ U n h
          have hv := h4 (by omega)
          have hlt := s[p + i].toNat_lt
          refine ⟨s[p + i].toNat % 128 + 128 * v, ?_, ?_, ?_, fun _ => by omega⟩
          · rw [h1, ← step_sum u (s[p + i].toNat % 128 + 128 * v) i]
            rw [show (s[p + i].toNat % 128 + 128 * v) % 128 = s[p + i].toNat % 128 by omega, show (s[p + i].toNat % 128 + 128 * v) / 128 = v by omega]
          · rw [digs_more (by omega), show (s[p + i].toNat % 128 + 128 * v) / 128 = v by omega, h2]
            simp only [List.length_cons]
            omega
          · rw [digs_more (by omega), show (s[p + i].toNat % 128 + 128 * v) / 128 = v by omega]
            intro k hk
            cases k with
            | zero =>
              refine ⟨by omega, ?_⟩
              simp
              omega
            | succ k =>
              obtain ⟨g1, g2⟩ := h3 k (by simpa using hk)
              have e : p + i + (k + 1) = p + (i + 1) + k := by omega
              refine ⟨by omega, ?_⟩
              simp only [e, g2]
              simp [List.getD]
    · simp at h
theorem fold_unz {u : Nat} (h : u < 18446744073709551616) : (foldN (unz u)).toNat = u := by
  by_cases h1 : u % 2 = 1
  · rw [unz_odd h1, fold_neg (by omega)]; omega
  · rw [unz_even (by omega), fold_pos (by omega)]; omega
/-- Bytes at a place, as a text. -/
theorem at_extract (s : ByteArray) (p : Nat) (l : List Int) (hl : ∀ x ∈ l, 0 ≤ x ∧ x < 256) (h : At s p l) : s.extract p (p + l.length) = strOfNums l := by
  have hsz : p + l.length ≤ s.data.size ∨ l.length = 0 := by
    cases hn : l.length with
    | zero => exact .inr rfl
    | succ n =>
      obtain ⟨h1, _⟩ := h n (by omega)
      have e : s.data.size = s.size := rfl
      exact .inl (by omega)
  apply ByteArray.ext
  apply Array.toList_inj.1
  rw [strOfNums_data]
  apply List.ext_getElem
  · simp only [ByteArray.data_extract, Array.length_toList, Array.size_extract, List.length_map]
    omega
  · intro i h1 h2
    have hi : i < l.length := by simpa using h2
    obtain ⟨g1, g2⟩ := h i hi
    simp only [ByteArray.data_extract, Array.getElem_toList, Array.getElem_extract, List.getElem_map]
    have hx : l.getD i 0 = l[i] := by simp [List.getD, hi]
    have hb := hl l[i] (List.getElem_mem hi)
    apply UInt8.toNat_inj.1
    have e1 : ((s.data[p + i]'g1).toNat : Int) = l[i] := by rw [← hx]; exact g2
    rw [UInt8.toNat_ofNat']
    omega
end NumsR
end Go.Proofs.Ytbecgngmpjajaaa
namespace Go.Proofs.Ytbecgngmpjajaaa
open Go.RowKit
set_option linter.unusedVariables false
namespace NumsR
open GetR NumR
theorem rd_bd (s : ByteArray) (p : Nat) : ∀ f i u v n, i + f = 10 → u < 2 ^ (7 * i) → rd s p f i u = (0, v, n) → p + n ≤ s.size ∧ v < 18446744073709551616
  | 0, i, u, v, n, _, _, h => by simp [rd] at h
  | f + 1, i, u, v, n, hf, hu, h => by
    rw [rd] at h
    split at h
    · next hp =>
      split at h
      · simp at h
      · next h9 =>
        split at h
        · split at h
          · simp at h
          · simp only [Prod.mk.injEq, true_and] at h
            obtain ⟨rfl, rfl⟩ := h
            refine ⟨by omega, ?_⟩
            have hc : s[p + i].toNat % 128 ≤ 127 := by omega
            by_cases e : i = 9
            · subst e
              have h1 : u < 9223372036854775808 := hu
              have h2 : s[p + 9].toNat % 128 * 2 ^ (7 * 9) ≤ 1 * 9223372036854775808 := Nat.mul_le_mul (by omega) (Nat.le_refl _)
              omega
            · have := grow7 hu hc
              have := pow7 (show i + 1 ≤ 9 by omega)
              omega
        · exact rd_bd s p f _ _ v n (by omega) (grow7 hu (by omega)) h
    · simp at h
theorem unz_bd {u : Nat} (h : u < 18446744073709551616) : -9223372036854775808 ≤ unz u ∧ unz u ≤ 9223372036854775807 := by
  unfold unz; split <;> omega
theorem digs_bd (v : Nat) : ∀ x ∈ digs v, 0 ≤ x ∧ x < 256 := by
  induction v using Nat.strongRecOn with
  | _ v ih =>
    by_cases h : v < 128
    · rw [digs_last h]; intro x hx; simp at hx; omega
    · rw [digs_more (by omega)]
      intro x hx
      rcases List.mem_cons.1 hx with rfl | hx
      · omega
      · exact ih (v / 128) (by omega) x hx
/-- What is read as a number: it, and the place behind it. -/
def numAt (s : ByteArray) (p : Nat) : Option (Int × Nat) := if (rd s p 10 0 0).1 = 0 then some (unz (rd s p 10 0 0).2.1, p + (rd s p 10 0 0).2.2) else none
def I64 (n : Int) : Prop := -9223372036854775808 ≤ n ∧ n ≤ 9223372036854775807
theorem numAt_back {s : ByteArray} {p : Nat} {n : Int} {q : Nat} (h : numAt s p = some (n, q)) : I64 n ∧ p < q ∧ q ≤ s.size ∧ s.extract p q = numB n := by
  unfold numAt at h
  split at h
  · rename_i h0
    obtain ⟨U, k, hr⟩ : ∃ U k, rd s p 10 0 0 = (0, U, k) := ⟨(rd s p 10 0 0).2.1, (rd s p 10 0 0).2.2, Prod.ext h0 rfl⟩
    rw [hr] at h
    simp only [Option.some.injEq, Prod.mk.injEq] at h
    obtain ⟨rfl, rfl⟩ := h
    obtain ⟨b1, b2⟩ := rd_bd s p 10 0 0 U k rfl (by simp) hr
    obtain ⟨v, h1, h2, h3, _⟩ := rd_back s p 10 0 0 U k hr
    simp only [Nat.mul_zero, Nat.pow_zero, Nat.mul_one, Nat.zero_add] at h1 h2
    subst h1 h2
    have hd := digs_pos U
    refine ⟨unz_bd b2, by omega, b1, ?_⟩
    have := at_extract s p (digs U) (digs_bd U) h3
    rw [this]
    unfold numB
    rw [fold_unz b2]
  · simp at h
theorem at_of (s : ByteArray) (p : Nat) (l : List Int) (hl : ∀ x ∈ l, 0 ≤ x ∧ x < 256) (hs : p + l.length ≤ s.size) (h : s.extract p (p + l.length) = strOfNums l) : At s p l := by
  intro k hk
  refine ⟨by omega, ?_⟩
  have e := congrArg (fun b : ByteArray => b.data.toList[k]?) h
  simp only [strOfNums_data] at e
  have hsz : s.data.size = s.size := rfl
  rw [List.getElem?_eq_getElem (by simp [ByteArray.data_extract]; omega), List.getElem?_eq_getElem (by simpa using hk)] at e
  simp only [ByteArray.data_extract, Array.getElem_toList, Array.getElem_extract, List.getElem_map, Option.some.injEq] at e
  have hx : l.getD k 0 = l[k] := by simp [List.getD, hk]
  have hb := hl l[k] (List.getElem_mem hk)
  have e2 : (s[p + k]'(by omega)).toNat = (l[k]).toNat := by
    have e3 : s[p + k]'(by omega) = s.data[p + k]'(by omega) := rfl
    rw [e3, e, UInt8.toNat_ofNat']
    omega
  rw [hx, e2]
  omega
theorem numB_len (n : Int) : (numB n).size = (digs (foldN n).toNat).length := strOfNums_size _
theorem numAt_put {s : ByteArray} {p : Nat} {n : Int} (hn : I64 n) (hs : p + (numB n).size ≤ s.size) (h : s.extract p (p + (numB n).size) = numB n) : numAt s p = some (n, p + (numB n).size) := by
  have hz := numB_size hn
  rw [numB_len] at hs h hz
  have hb := fold_bd hn
  have hA := at_of s p _ (digs_bd _) hs h
  have hr := rd_digs s p 10 (foldN n).toNat 0 0 hA hz rfl (fun h => absurd h (by omega)) (by simp; omega)
  simp only [Nat.mul_zero, Nat.pow_zero, Nat.mul_one, Nat.zero_add] at hr
  unfold numAt
  rw [hr, if_pos rfl, numB_len, unz_fold hn]
end NumsR
end Go.Proofs.Ytbecgngmpjajaaa
namespace Go.Proofs.Ytbecgngmpjajaaa
open Go.RowKit
namespace EvtR
open NumR (numB)
/-- A text's bytes. -/
def txtB (t : ByteArray) : ByteArray := numB t.size ++ t
end EvtR
end Go.Proofs.Ytbecgngmpjajaaa
namespace Go.Proofs.Ytbecgngmpjajaaa
open Go.RowKit
set_option linter.unusedVariables false
namespace EvtR
open NumsR NumR
theorem cut_two (s : ByteArray) (a b c : Nat) (h1 : a ≤ b) (h2 : b ≤ c) : s.extract a c = s.extract a b ++ s.extract b c := by
  apply ByteArray.ext
  simp only [ByteArray.data_extract, ByteArray.data_append]
  rw [Array.extract_append_extract, Nat.min_eq_left h1, Nat.max_eq_right h2]
theorem cut_size (s : ByteArray) (a b : Nat) (h : b ≤ s.size) : (s.extract a b).size = b - a := by rw [ByteArray.size_extract]; omega
/-- What two texts one behind the other are. -/
theorem cut_split {s x y : ByteArray} {p : Nat} (hs : p + (x.size + y.size) ≤ s.size) (h : s.extract p (p + (x.size + y.size)) = x ++ y) : s.extract p (p + x.size) = x ∧ s.extract (p + x.size) (p + x.size + y.size) = y := by
  rw [cut_two s p (p + x.size) (p + (x.size + y.size)) (by omega) (by omega)] at h
  have e := congrArg ByteArray.data h
  simp only [ByteArray.data_append] at e
  have hl : (s.extract p (p + x.size)).data.size = x.data.size := by
    have := cut_size s p (p + x.size) (by omega)
    have e1 : (s.extract p (p + x.size)).data.size = (s.extract p (p + x.size)).size := rfl
    have e2 : x.data.size = x.size := rfl
    omega
  obtain ⟨e1, e2⟩ := Array.append_inj e hl
  refine ⟨ByteArray.ext e1, ?_⟩
  rw [Nat.add_assoc]
  exact ByteArray.ext e2
/-- What is read as a text: it, and the place behind it. -/
def txtAt (s : ByteArray) (p : Nat) : Option (ByteArray × Nat) := (numAt s p).bind fun x => if 0 ≤ x.1 ∧ x.1 ≤ 8000 ∧ x.2 + x.1.toNat ≤ s.size then some (s.extract x.2 (x.2 + x.1.toNat), x.2 + x.1.toNat) else none
theorem txtAt_back {s : ByteArray} {p : Nat} {t : ByteArray} {q : Nat} (h : txtAt s p = some (t, q)) : t.size ≤ 8000 ∧ p < q ∧ q ≤ s.size ∧ s.extract p q = txtB t := by
  unfold txtAt at h
  cases hn : numAt s p with
  | none => rw [hn] at h; simp at h
  | some x =>
    obtain ⟨n, r⟩ := x
    rw [hn] at h
    simp only [Option.bind_some] at h
    split at h
    · rename_i hc
      obtain ⟨c1, c2, c3⟩ := hc
      simp only [Option.some.injEq, Prod.mk.injEq] at h
      obtain ⟨rfl, rfl⟩ := h
      obtain ⟨_, b1, b2, b3⟩ := numAt_back hn
      have hz : (s.extract r (r + n.toNat)).size = n.toNat := by rw [cut_size s _ _ c3]; omega
      refine ⟨by omega, by omega, c3, ?_⟩
      unfold txtB
      rw [hz, cut_two s p r (r + n.toNat) (by omega) (by omega), b3, show ((n.toNat : Nat) : Int) = n by omega]
    · simp at h
theorem txtAt_put {s : ByteArray} {p : Nat} {t : ByteArray} (ht : t.size ≤ 8000) (hs : p + (txtB t).size ≤ s.size) (h : s.extract p (p + (txtB t).size) = txtB t) : txtAt s p = some (t, p + (txtB t).size) := by
  unfold txtB at hs h ⊢
  rw [ByteArray.size_append] at hs h ⊢
  obtain ⟨h1, h2⟩ := cut_split hs h
  unfold txtAt
  rw [numAt_put ⟨by omega, by omega⟩ (by omega) h1]
  simp only [Option.bind_some]
  rw [if_pos ⟨by omega, by omega, by rw [Int.toNat_natCast]; omega⟩, Int.toNat_natCast, h2]
  congr 2
  omega
end EvtR
end Go.Proofs.Ytbecgngmpjajaaa
namespace Go.Proofs.Ytbecgngmpjajaaa
open Go.ChangeShapes Go.WideShapes Go.ChangeAt Go.RowKit
set_option linter.unusedVariables false
namespace GetR
theorem read_got {s : ByteArray} {p : Nat} (hs : s.size ≤ 8000) (hm : (p : Int) ≤ 9223372036854775807) {u n : Nat} (h : rd s p 10 0 0 = (0, u, n)) (w : World) :
    Calls Try.prog 57 #[.string s, .int .i64 p] w fun e w' => e = .returned (.tuple #[.int .i64 (unz u), .int .i64 ((p : Int) + n), .nilIface]) ∧ Below w.heap.size w w' := by
  refine (read_any s p w hs hm).mono fun e w' ht => ?_
  rw [h] at ht
  exact ⟨ht.1 rfl, ht.2.2⟩
theorem read_bad {s : ByteArray} {p : Nat} (hs : s.size ≤ 8000) (hm : (p : Int) ≤ 9223372036854775807) {c : Nat} (hc : c ≠ 0) (h : rd s p 10 0 0 = (c, 0, 0)) (w : World) :
    Calls Try.prog 57 #[.string s, .int .i64 p] w fun e w' => e = .returned (.tuple #[.int .i64 0, .int .i64 0, .iface 78 (.agg #[.int .i64 c])]) ∧ Below w.heap.size w w' := by
  refine (read_any s p w hs hm).mono fun e w' ht => ?_
  rw [h] at ht
  exact ⟨ht.2.1 hc, ht.2.2⟩
/-- Either a number was got, or a code alone. -/
theorem rd_two (s : ByteArray) (p : Nat) : ∀ f i u, (∃ v n, rd s p f i u = (0, v, n)) ∨ ∃ c, c ≠ 0 ∧ rd s p f i u = (c, 0, 0)
  | 0, i, u => .inr ⟨3, by omega, rfl⟩
  | f + 1, i, u => by
    rw [rd]
    split
    · split
      · exact .inr ⟨3, by omega, rfl⟩
      · split
        · split
          · exact .inr ⟨3, by omega, rfl⟩
          · exact .inl ⟨_, _, rfl⟩
        · exact rd_two s p f _ _
    · exact .inr ⟨4, by omega, rfl⟩
theorem specT_bad (s : ByteArray) (x a b c : Int) (w : World) (hc : (c == 0) = false)
    (hs : ∀ w, Calls Try.prog 47 #[.string s, .int .i64 x] w fun e w' => e = .returned (.agg #[.int .i64 a, .int .i64 b, .int .i64 c]) ∧ Below w.heap.size w w') :
    Calls Try.prog 46 #[.string s, .int .i64 x] w fun e w' => e = .returned (.agg #[.string ⟨#[]⟩, .int .i64 0, .int .i64 c]) ∧ Below w.heap.size w w' := by
  have hcn : (c != 0) = true := by rw [bne, hc]; rfl
  go_enter Try.func46, Try.ntmps46
  go_wp2_with (go_at_call 47; refine (hs _).mono ?_; rintro e w1 ⟨rfl, hb1⟩; obtain ⟨hc1, hf1⟩ := bcell hb1; have hz1 : w.heap.size < w1.heap.size := by (have hz := hb1.size; simp at hz; omega))
  refine bodyPost_ret (v := .agg #[.string ⟨#[]⟩, .int .i64 0, .int .i64 c]) (by simp [results, Try.results46, go_sem, hc1, hz1]) rfl ⟨rfl, ?_⟩
  exact ((((bel_alloc hb1).setCell (by simp) _).setCell (by simp) _).setCell (by simp) _).alloc (by simp; omega) _
theorem specT_form (s : ByteArray) (x a b : Int) (w : World) (ha : a < 0 ∨ 8000 < a)
    (hs : ∀ w, Calls Try.prog 47 #[.string s, .int .i64 x] w fun e w' => e = .returned (.agg #[.int .i64 a, .int .i64 b, .int .i64 0]) ∧ Below w.heap.size w w') :
    Calls Try.prog 46 #[.string s, .int .i64 x] w fun e w' => e = .returned (.agg #[.string ⟨#[]⟩, .int .i64 0, .int .i64 3]) ∧ Below w.heap.size w w' := by
  have ha' : (a < 0) ∨ (¬ a < 0 ∧ 8000 < a) := by omega
  clear ha
  rcases ha' with h1 | ⟨h1, h2⟩
  all_goals
    go_enter Try.func46, Try.ntmps46
    go_wp2_with (go_at_call 47; refine (hs _).mono ?_; rintro e w1 ⟨rfl, hb1⟩; obtain ⟨hc1, hf1⟩ := bcell hb1; have hz1 : w.heap.size < w1.heap.size := by (have hz := hb1.size; simp at hz; omega))
    refine bodyPost_ret (v := .agg #[.string ⟨#[]⟩, .int .i64 0, .int .i64 3]) (by simp [results, Try.results46, go_sem, hc1, hz1]) rfl ⟨rfl, ?_⟩
    exact ((((bel_alloc hb1).setCell (by simp) _).setCell (by simp) _).setCell (by simp) _).alloc (by simp; omega) _
theorem specT_short (s : ByteArray) (x : Int) (m q : Nat) (w : World) (hm : m ≤ 8000) (hq : q ≤ s.size) (hs8 : s.size ≤ 8000) (hsh : s.size < q + m)
    (hs : ∀ w, Calls Try.prog 47 #[.string s, .int .i64 x] w fun e w' => e = .returned (.agg #[.int .i64 m, .int .i64 q, .int .i64 0]) ∧ Below w.heap.size w w') :
    Calls Try.prog 46 #[.string s, .int .i64 x] w fun e w' => e = .returned (.agg #[.string ⟨#[]⟩, .int .i64 0, .int .i64 4]) ∧ Below w.heap.size w w' := by
  have h1 : (s.size : Int) - m < q := by omega
  go_enter Try.func46, Try.ntmps46
  go_wp2_with (go_at_call 47; refine (hs _).mono ?_; rintro e w1 ⟨rfl, hb1⟩; obtain ⟨hc1, hf1⟩ := bcell hb1; have hz1 : w.heap.size < w1.heap.size := by (have hz := hb1.size; simp at hz; omega))
  refine bodyPost_ret (v := .agg #[.string ⟨#[]⟩, .int .i64 0, .int .i64 4]) (by simp [results, Try.results46, go_sem, hc1, hz1]) rfl ⟨rfl, ?_⟩
  exact ((((bel_alloc hb1).setCell (by simp) _).setCell (by simp) _).setCell (by simp) _).alloc (by simp; omega) _
set_option maxHeartbeats 2000000 in
theorem specT_got (s : ByteArray) (x : Int) (m q : Nat) (w : World) (hm : m ≤ 8000) (hs8 : s.size ≤ 8000) (hin : q + m ≤ s.size)
    (hs : ∀ w, Calls Try.prog 47 #[.string s, .int .i64 x] w fun e w' => e = .returned (.agg #[.int .i64 m, .int .i64 q, .int .i64 0]) ∧ Below w.heap.size w w') :
    Calls Try.prog 46 #[.string s, .int .i64 x] w fun e w' => e = .returned (.agg #[.string (s.extract q (q + m)), .int .i64 ((q : Int) + m), .int .i64 0]) ∧ Below w.heap.size w w' := by
  have h1 : ¬ (s.size : Int) - m < q := by omega
  have hwr : IntKind.i64.wrap ((q : Int) + m) = (q : Int) + m := by rw [IntKind.wrap_i64]; omega
  have hsl : ∀ wx, (Instr.slice 9 (.string s) (some (.int .i64 (q : Int))) (some (.int .i64 ((q : Int) + m))) none).run Try.prog wx = .ok (.string (s.extract q (q + m))) wx := by
    intro wx
    have := run_slice_string (P := Try.prog) (w := wx) 9 s .i64 .i64 (q : Int) ((q : Int) + m) Try.underlying9 (by omega) (by omega) (by omega)
    rw [this]
    congr 3
  go_enter Try.func46, Try.ntmps46
  go_wp2_with (go_at_call 47; refine (hs _).mono ?_; rintro e w1 ⟨rfl, hb1⟩; obtain ⟨hc1, hf1⟩ := bcell hb1; have hz1 : w.heap.size < w1.heap.size := by (have hz := hb1.size; simp at hz; omega))
  go_region
  go_wp2
  refine bodyPost_ret (v := .agg #[.string (s.extract q (q + m)), .int .i64 ((q : Int) + m), .int .i64 0]) (by simp [results, Try.results46, go_sem, hc1, hz1]) rfl ⟨rfl, ?_⟩
  exact (((((bel_alloc hb1).setCell (by simp) _).setCell (by simp) _).setCell (by simp) _).alloc (by simp; omega) _).drew
/-- The program's reading of a text. -/
theorem readT_bad (s : ByteArray) (x c : Int) (w : World)
    (hr : ∀ w, Calls Try.prog 57 #[.string s, .int .i64 x] w fun e w' => e = .returned (.tuple #[.int .i64 0, .int .i64 0, .iface 78 (.agg #[.int .i64 c])]) ∧ Below w.heap.size w w') :
    Calls Try.prog 58 #[.string s, .int .i64 x] w fun e w' => e = .returned (.tuple #[.string ⟨#[]⟩, .int .i64 0, .iface 78 (.agg #[.int .i64 c])]) ∧ Below w.heap.size w w' := by
  go_enter Try.func58, Try.ntmps58
  go_wp2_with (go_at_call 57; refine (hr _).mono ?_; rintro e w1 ⟨rfl, hb1⟩)
  go_ret3
  exact ⟨rfl, hb1⟩
theorem readT_form (s : ByteArray) (x a b : Int) (w : World) (ha : a < 0 ∨ 8000 < a)
    (hr : ∀ w, Calls Try.prog 57 #[.string s, .int .i64 x] w fun e w' => e = .returned (.tuple #[.int .i64 a, .int .i64 b, .nilIface]) ∧ Below w.heap.size w w') :
    Calls Try.prog 58 #[.string s, .int .i64 x] w fun e w' => e = .returned (.tuple #[.string ⟨#[]⟩, .int .i64 0, .iface 78 (.agg #[.int .i64 3])]) ∧ Below w.heap.size w w' := by
  have ha' : (a < 0) ∨ (¬ a < 0 ∧ 8000 < a) := by omega
  clear ha
  rcases ha' with h1 | ⟨h1, h2⟩
  all_goals
    go_enter Try.func58, Try.ntmps58
    go_wp2_with (go_at_call 57; refine (hr _).mono ?_; rintro e w1 ⟨rfl, hb1⟩)
    go_ret3
    exact ⟨rfl, hb1⟩
theorem readT_short (s : ByteArray) (x : Int) (m q : Nat) (w : World) (hm : m ≤ 8000) (hq : q ≤ s.size) (hs8 : s.size ≤ 8000) (hsh : s.size < q + m)
    (hr : ∀ w, Calls Try.prog 57 #[.string s, .int .i64 x] w fun e w' => e = .returned (.tuple #[.int .i64 m, .int .i64 q, .nilIface]) ∧ Below w.heap.size w w') :
    Calls Try.prog 58 #[.string s, .int .i64 x] w fun e w' => e = .returned (.tuple #[.string ⟨#[]⟩, .int .i64 0, .iface 78 (.agg #[.int .i64 4])]) ∧ Below w.heap.size w w' := by
  have h1 : (s.size : Int) - q < m := by omega
  go_enter Try.func58, Try.ntmps58
  go_wp2_with (go_at_call 57; refine (hr _).mono ?_; rintro e w1 ⟨rfl, hb1⟩)
  go_ret3
  exact ⟨rfl, hb1⟩
theorem readT_got (s : ByteArray) (x : Int) (m q : Nat) (w : World) (hm : m ≤ 8000) (hs8 : s.size ≤ 8000) (hin : q + m ≤ s.size)
    (hr : ∀ w, Calls Try.prog 57 #[.string s, .int .i64 x] w fun e w' => e = .returned (.tuple #[.int .i64 m, .int .i64 q, .nilIface]) ∧ Below w.heap.size w w') :
    Calls Try.prog 58 #[.string s, .int .i64 x] w fun e w' => e = .returned (.tuple #[.string (s.extract q (q + m)), .int .i64 ((q : Int) + m), .nilIface]) ∧ Below w.heap.size w w' := by
  have h1 : ¬ (s.size : Int) - q < m := by omega
  have hsl : ∀ wx, (Instr.slice 9 (.string s) (some (.int .i64 (q : Int))) (some (.int .i64 ((q : Int) + m))) none).run Try.prog wx = .ok (.string (s.extract q (q + m))) wx := by
    intro wx
    have := run_slice_string (P := Try.prog) (w := wx) 9 s .i64 .i64 (q : Int) ((q : Int) + m) Try.underlying9 (by omega) (by omega) (by omega)
    rw [this]
    congr 3
  go_enter Try.func58, Try.ntmps58
  go_wp2_with (first | (go_at_call 57; refine (hr _).mono ?_; rintro e w1 ⟨rfl, hb1⟩) | (go_at_call 17; refine (JoinR.join1 _ _ (by simp; omega)).mono ?_; rintro e w2 ⟨rfl, hb2⟩))
  go_ret3
  exact ⟨rfl, hb1.trans (hb2.mono hb1.size)⟩
end GetR
namespace EvtR
open GetR NumsR
/-- A fault of the program's. -/
def flt (c : Int) : Value := .iface 78 (.agg #[.int .i64 c])
theorem num_impl (s : ByteArray) (p : Nat) (hs : s.size ≤ 8000) (hp : p ≤ 8000) : (∃ n q, numAt s p = some (n, q) ∧ I64 n ∧ q ≤ 8000 ∧ ∀ w, Calls Try.prog 57 #[.string s, .int .i64 p] w fun e w' => e = .returned (.tuple #[.int .i64 n, .int .i64 (q : Nat), .nilIface]) ∧ Below w.heap.size w w') ∨ (numAt s p = none ∧ ∃ c : Int, ∀ w, Calls Try.prog 57 #[.string s, .int .i64 p] w fun e w' => e = .returned (.tuple #[.int .i64 0, .int .i64 0, flt c]) ∧ Below w.heap.size w w') := by
  rcases rd_two s p 10 0 0 with ⟨u, n, h⟩ | ⟨c, hc, h⟩
  · have e : numAt s p = some (unz u, p + n) := by unfold numAt; rw [h]; rfl
    obtain ⟨b1, b2, b3, b4⟩ := numAt_back e
    refine .inl ⟨_, _, e, b1, by omega, fun w => ?_⟩
    have := read_got hs (show (p : Int) ≤ 9223372036854775807 by omega) h w
    rw [show ((p : Int) + (n : Int)) = ((p + n : Nat) : Int) by omega] at this
    exact this
  · exact .inr ⟨by unfold numAt; rw [h, if_neg hc], c, fun w => read_bad hs (by omega) hc h w⟩
theorem num_spec (s : ByteArray) (p : Nat) (hs : s.size ≤ 8000) (hp : p ≤ 8000) : (∃ n q, numAt s p = some (n, q) ∧ I64 n ∧ q ≤ 8000 ∧ ∀ w, Calls Try.prog 47 #[.string s, .int .i64 p] w fun e w' => e = .returned (.agg #[.int .i64 n, .int .i64 (q : Nat), .int .i64 0]) ∧ Below w.heap.size w w') ∨ (numAt s p = none ∧ ∃ c : Int, (c == 0) = false ∧ ∀ w, Calls Try.prog 47 #[.string s, .int .i64 p] w fun e w' => e = .returned (.agg #[.int .i64 0, .int .i64 0, .int .i64 c]) ∧ Below w.heap.size w w') := by
  rcases rd_two s p 10 0 0 with ⟨u, n, h⟩ | ⟨c, hc, h⟩
  · have e : numAt s p = some (unz u, p + n) := by unfold numAt; rw [h]; rfl
    obtain ⟨b1, b2, b3, b4⟩ := numAt_back e
    refine .inl ⟨_, _, e, b1, by omega, fun w => ?_⟩
    have := GetR.spec_any s p w hs (by omega)
    rw [outN_got h, show ((p : Int) + (n : Int)) = ((p + n : Nat) : Int) by omega] at this
    exact this
  · refine .inr ⟨by unfold numAt; rw [h, if_neg hc], c, by simp; omega, fun w => ?_⟩
    have := GetR.spec_any s p w hs (by omega)
    rw [outN_bad h hc] at this
    exact this
theorem txt_impl (s : ByteArray) (p : Nat) (hs : s.size ≤ 8000) (hp : p ≤ 8000) : (∃ t q, txtAt s p = some (t, q) ∧ t.size ≤ 8000 ∧ q ≤ 8000 ∧ ∀ w, Calls Try.prog 58 #[.string s, .int .i64 p] w fun e w' => e = .returned (.tuple #[.string t, .int .i64 (q : Nat), .nilIface]) ∧ Below w.heap.size w w') ∨ (txtAt s p = none ∧ ∃ c : Int, ∀ w, Calls Try.prog 58 #[.string s, .int .i64 p] w fun e w' => e = .returned (.tuple #[.string ⟨#[]⟩, .int .i64 0, flt c]) ∧ Below w.heap.size w w') := by
  rcases num_impl s p hs hp with ⟨n, q, h, hn, hq, hc⟩ | ⟨h, c, hc⟩
  · obtain ⟨_, _, b3, _⟩ := numAt_back h
    by_cases h1 : n < 0 ∨ 8000 < n
    · exact .inr ⟨by unfold txtAt; rw [h]; simp only [Option.bind_some]; rw [if_neg (by omega)], 3, fun w => readT_form s p n q w h1 hc⟩
    · obtain ⟨m, rfl⟩ : ∃ m : Nat, n = m := ⟨n.toNat, by omega⟩
      by_cases h2 : s.size < q + m
      · exact .inr ⟨by unfold txtAt; rw [h]; simp only [Option.bind_some]; rw [if_neg (by rw [Int.toNat_natCast]; omega)], 4, fun w => readT_short s p m q w (by omega) b3 hs h2 hc⟩
      · have e : txtAt s p = some (s.extract q (q + m), q + m) := by unfold txtAt; rw [h]; simp only [Option.bind_some]; rw [if_pos ⟨by omega, by omega, by rw [Int.toNat_natCast]; omega⟩, Int.toNat_natCast]
        refine .inl ⟨_, _, e, (txtAt_back e).1, by omega, fun w => ?_⟩
        have := readT_got s p m q w (by omega) hs (by omega) hc
        rw [show ((q : Int) + (m : Int)) = ((q + m : Nat) : Int) by omega] at this
        exact this
  · exact .inr ⟨by unfold txtAt; rw [h]; rfl, c, fun w => readT_bad s p c w hc⟩
theorem txt_spec (s : ByteArray) (p : Nat) (hs : s.size ≤ 8000) (hp : p ≤ 8000) : (∃ t q, txtAt s p = some (t, q) ∧ t.size ≤ 8000 ∧ q ≤ 8000 ∧ ∀ w, Calls Try.prog 46 #[.string s, .int .i64 p] w fun e w' => e = .returned (.agg #[.string t, .int .i64 (q : Nat), .int .i64 0]) ∧ Below w.heap.size w w') ∨ (txtAt s p = none ∧ ∃ c : Int, (c == 0) = false ∧ ∀ w, Calls Try.prog 46 #[.string s, .int .i64 p] w fun e w' => e = .returned (.agg #[.string ⟨#[]⟩, .int .i64 0, .int .i64 c]) ∧ Below w.heap.size w w') := by
  rcases num_spec s p hs hp with ⟨n, q, h, hn, hq, hc⟩ | ⟨h, c, hc0, hc⟩
  · obtain ⟨_, _, b3, _⟩ := numAt_back h
    by_cases h1 : n < 0 ∨ 8000 < n
    · exact .inr ⟨by unfold txtAt; rw [h]; simp only [Option.bind_some]; rw [if_neg (by omega)], 3, by decide, fun w => specT_form s p n q w h1 hc⟩
    · obtain ⟨m, rfl⟩ : ∃ m : Nat, n = m := ⟨n.toNat, by omega⟩
      by_cases h2 : s.size < q + m
      · exact .inr ⟨by unfold txtAt; rw [h]; simp only [Option.bind_some]; rw [if_neg (by rw [Int.toNat_natCast]; omega)], 4, by decide, fun w => specT_short s p m q w (by omega) b3 hs h2 hc⟩
      · have e : txtAt s p = some (s.extract q (q + m), q + m) := by unfold txtAt; rw [h]; simp only [Option.bind_some]; rw [if_pos ⟨by omega, by omega, by rw [Int.toNat_natCast]; omega⟩, Int.toNat_natCast]
        refine .inl ⟨_, _, e, (txtAt_back e).1, by omega, fun w => ?_⟩
        have := specT_got s p m q w (by omega) hs (by omega) hc
        rw [show ((q : Int) + (m : Int)) = ((q + m : Nat) : Int) by omega] at this
        exact this
  · exact .inr ⟨by unfold txtAt; rw [h]; rfl, c, hc0, fun w => specT_bad s p 0 0 c w hc0 hc⟩
end EvtR
end Go.Proofs.Ytbecgngmpjajaaa
namespace Go.Proofs.Ytbecgngmpjajaaa
open Go.ChangeShapes Go.WideShapes Go.ChangeAt Go.RowKit
namespace EvtR
theorem rset (w : World) (b o : Nat) (v : Value) : w.grownBy (w.setCell ⟨b, o, none⟩ v) (some b) := by
  refine ⟨rfl, rfl, rfl, by simp, fun k hk hne => ?_⟩
  simp only [World.setCell]
  rw [Array.getElem?_modify, if_neg (fun e => hne (by rw [e]))]
theorem rgrown {w w' : World} (hb : Below w.heap.size w w') (row : Option Nat) : w.grownBy w' row := ⟨hb.os, hb.tape, hb.output, hb.size, fun k hk _ => hb.block k hk⟩
theorem gtrans {w w1 w2 : World} {g : Nat} (h1 : w.grownBy w1 (some g)) (h2 : w1.grownBy w2 (some g)) : w.grownBy w2 (some g) :=
  ⟨h2.os.trans h1.os, h2.tape.trans h1.tape, h2.output.trans h1.output, Nat.le_trans h1.size h2.size, fun k hk hne => (h2.block k (by have := h1.size; omega) hne).trans (h1.block k hk hne)⟩
theorem undrew {w w1 : World} {r : Option Nat} (h : w.drew.grownBy w1 r) : w.grownBy w1 r := ⟨h.os, h.tape, h.output, h.size, h.block⟩
end EvtR
end Go.Proofs.Ytbecgngmpjajaaa
namespace Go.Proofs.Ytbecgngmpjajaaa
open Go.ChangeShapes Go.WideShapes Go.ChangeAt Go.RowKit
set_option linter.unusedVariables false
namespace EvtR
open GetR NumsR
/-- The reader's block. -/
def RdB (g : Nat) (s : ByteArray) (p : Nat) (f : Value) (w : World) : Prop := g < w.heap.size ∧ w.cell? ⟨g, 0, none⟩ = some (.string s) ∧ w.cell? ⟨g, 1, none⟩ = some (.int .i64 p) ∧ w.cell? ⟨g, 2, none⟩ = some f ∧ w.frozen? ⟨g, 0, none⟩ = false ∧ w.frozen? ⟨g, 1, none⟩ = false ∧ w.frozen? ⟨g, 2, none⟩ = false
theorem RdB.below {g : Nat} {s : ByteArray} {p : Nat} {f : Value} {w w' : World} (h : RdB g s p f w) (hb : Below w.heap.size w w') : RdB g s p f w' := by
  obtain ⟨hl, c0, c1, c2, f0, f1, f2⟩ := h
  have c := fun o => hb.cell (p := ⟨g, o, none⟩) hl
  have z := fun o => hb.frozen (p := ⟨g, o, none⟩) hl
  exact ⟨by have := hb.size; omega, (c 0).trans c0, (c 1).trans c1, (c 2).trans c2, (z 0).trans f0, (z 1).trans f1, (z 2).trans f2⟩
theorem RdB.set {g : Nat} {s : ByteArray} {p : Nat} {f : Value} {w : World} (h : RdB g s p f w) (q : Nat) (f' : Value) : RdB g s q f' ((w.setCell ⟨g, 1, none⟩ (.int .i64 q)).setCell ⟨g, 2, none⟩ f') := by
  obtain ⟨hl, c0, c1, c2, f0, f1, f2⟩ := h
  exact ⟨by simpa using hl, by simp [go_sem, c0], by simp [go_sem, c1], by simp [go_sem, c2], by simp [go_sem, f0], by simp [go_sem, f1], by simp [go_sem, f2]⟩
set_option maxHeartbeats 4000000 in
theorem num_got (g : Nat) (s : ByteArray) (p q : Nat) (n : Int) (w : World) (hR : RdB g s p .nilIface w)
    (hr : ∀ w, Calls Try.prog 57 #[.string s, .int .i64 p] w fun e w' => e = .returned (.tuple #[.int .i64 n, .int .i64 (q : Nat), .nilIface]) ∧ Below w.heap.size w w') :
    Calls Try.prog 37 #[.pointer (some ⟨g, 0, none⟩)] w fun e w' => e = .returned (.int .i64 n) ∧ RdB g s q (.nilIface) w' ∧ w.grownBy w' (some g) := by
  have HR := hid_intro hR
  have HH := hid_intro hr
  obtain ⟨hl, c0, c1, c2, f0, f1, f2⟩ := hR
  clear hr
  go_enter Try.func37, Try.ntmps37
  go_wp2_with fail
  go_region_with (go_at_call 57; refine (HH.out _).mono ?_; rintro e w1 ⟨rfl, hb⟩; have HB := hid_intro hb; have HR1 := hid_intro (RdB.below (show RdB g s p .nilIface w.drew from HR.out) hb); obtain ⟨hl1, d0, d1, d2, e0, e1, e2⟩ := HR1.out; clear hb)
  all_goals (
    go_wp2_with fail
    go_ret
    exact ⟨rfl, HR1.out.set q _, gtrans (gtrans (undrew (rgrown HB.out _)) (rset _ g 1 _)) (rset _ g 2 _)⟩)
set_option maxHeartbeats 4000000 in
theorem num_bad (g : Nat) (s : ByteArray) (p q : Nat) (c : Int) (w : World) (hR : RdB g s p .nilIface w)
    (hr : ∀ w, Calls Try.prog 57 #[.string s, .int .i64 p] w fun e w' => e = .returned (.tuple #[.int .i64 0, .int .i64 (q : Nat), flt c]) ∧ Below w.heap.size w w') :
    Calls Try.prog 37 #[.pointer (some ⟨g, 0, none⟩)] w fun e w' => e = .returned (.int .i64 0) ∧ RdB g s q (flt c) w' ∧ w.grownBy w' (some g) := by
  unfold flt at *
  have HR := hid_intro hR
  have HH := hid_intro hr
  obtain ⟨hl, c0, c1, c2, f0, f1, f2⟩ := hR
  clear hr
  go_enter Try.func37, Try.ntmps37
  go_wp2_with fail
  go_region_with (go_at_call 57; refine (HH.out _).mono ?_; rintro e w1 ⟨rfl, hb⟩; have HB := hid_intro hb; have HR1 := hid_intro (RdB.below (show RdB g s p .nilIface w.drew from HR.out) hb); obtain ⟨hl1, d0, d1, d2, e0, e1, e2⟩ := HR1.out; clear hb)
  all_goals (
    go_wp2_with fail
    go_ret
    exact ⟨rfl, HR1.out.set q _, gtrans (gtrans (undrew (rgrown HB.out _)) (rset _ g 1 _)) (rset _ g 2 _)⟩)
theorem num_flt (g : Nat) (s : ByteArray) (p : Nat) (c : Int) (w : World) (hR : RdB g s p (flt c) w) :
    Calls Try.prog 37 #[.pointer (some ⟨g, 0, none⟩)] w fun e w' => e = .returned (.int .i64 0) ∧ w' = w := by
  unfold flt at hR
  obtain ⟨hl, c0, c1, c2, f0, f1, f2⟩ := hR
  go_enter Try.func37, Try.ntmps37
  go_wp2_with fail
  go_ret
  exact ⟨rfl, rfl⟩
set_option maxHeartbeats 4000000 in
theorem word_got (g : Nat) (s : ByteArray) (p q : Nat) (t : ByteArray) (w : World) (hR : RdB g s p .nilIface w)
    (hr : ∀ w, Calls Try.prog 58 #[.string s, .int .i64 p] w fun e w' => e = .returned (.tuple #[.string t, .int .i64 (q : Nat), .nilIface]) ∧ Below w.heap.size w w') :
    Calls Try.prog 39 #[.pointer (some ⟨g, 0, none⟩)] w fun e w' => e = .returned (.string t) ∧ RdB g s q (.nilIface) w' ∧ w.grownBy w' (some g) := by
  have HR := hid_intro hR
  have HH := hid_intro hr
  obtain ⟨hl, c0, c1, c2, f0, f1, f2⟩ := hR
  clear hr
  go_enter Try.func39, Try.ntmps39
  go_wp2_with fail
  go_region_with (go_at_call 58; refine (HH.out _).mono ?_; rintro e w1 ⟨rfl, hb⟩; have HB := hid_intro hb; have HR1 := hid_intro (RdB.below (show RdB g s p .nilIface w.drew from HR.out) hb); obtain ⟨hl1, d0, d1, d2, e0, e1, e2⟩ := HR1.out; clear hb)
  all_goals (
    go_wp2_with fail
    go_ret
    exact ⟨rfl, HR1.out.set q _, gtrans (gtrans (undrew (rgrown HB.out _)) (rset _ g 1 _)) (rset _ g 2 _)⟩)
set_option maxHeartbeats 4000000 in
theorem word_bad (g : Nat) (s : ByteArray) (p q : Nat) (c : Int) (w : World) (hR : RdB g s p .nilIface w)
    (hr : ∀ w, Calls Try.prog 58 #[.string s, .int .i64 p] w fun e w' => e = .returned (.tuple #[.string ⟨#[]⟩, .int .i64 (q : Nat), flt c]) ∧ Below w.heap.size w w') :
    Calls Try.prog 39 #[.pointer (some ⟨g, 0, none⟩)] w fun e w' => e = .returned (.string ⟨#[]⟩) ∧ RdB g s q (flt c) w' ∧ w.grownBy w' (some g) := by
  unfold flt at *
  have HR := hid_intro hR
  have HH := hid_intro hr
  obtain ⟨hl, c0, c1, c2, f0, f1, f2⟩ := hR
  clear hr
  go_enter Try.func39, Try.ntmps39
  go_wp2_with fail
  go_region_with (go_at_call 58; refine (HH.out _).mono ?_; rintro e w1 ⟨rfl, hb⟩; have HB := hid_intro hb; have HR1 := hid_intro (RdB.below (show RdB g s p .nilIface w.drew from HR.out) hb); obtain ⟨hl1, d0, d1, d2, e0, e1, e2⟩ := HR1.out; clear hb)
  all_goals (
    go_wp2_with fail
    go_ret
    exact ⟨rfl, HR1.out.set q _, gtrans (gtrans (undrew (rgrown HB.out _)) (rset _ g 1 _)) (rset _ g 2 _)⟩)
theorem word_flt (g : Nat) (s : ByteArray) (p : Nat) (c : Int) (w : World) (hR : RdB g s p (flt c) w) :
    Calls Try.prog 39 #[.pointer (some ⟨g, 0, none⟩)] w fun e w' => e = .returned (.string ⟨#[]⟩) ∧ w' = w := by
  unfold flt at hR
  obtain ⟨hl, c0, c1, c2, f0, f1, f2⟩ := hR
  go_enter Try.func39, Try.ntmps39
  go_wp2_with fail
  go_ret
  exact ⟨rfl, rfl⟩
/-- What a read leaves: the reader behind it, with or without a fault. -/
def After (g : Nat) (s : ByteArray) (o : Option Nat) (w : World) : Prop := match o with
  | some p => p ≤ 8000 ∧ RdB g s p .nilIface w
  | none => ∃ p c, RdB g s p (flt c) w
/-- A number read by the reader. -/
theorem rnum (g : Nat) (s : ByteArray) (o : Option Nat) (w : World) (hs : s.size ≤ 8000) (h : After g s o w) :
    Calls Try.prog 37 #[.pointer (some ⟨g, 0, none⟩)] w fun e w' => e = .returned (.int .i64 (((o.bind (numAt s)).map (·.1)).getD 0)) ∧ After g s ((o.bind (numAt s)).map (·.2)) w' ∧ w.grownBy w' (some g) := by
  cases o with
  | none =>
    obtain ⟨p, c, h⟩ := h
    exact (num_flt g s p c w h).mono fun e w' ⟨h1, h2⟩ => by subst h2; exact ⟨h1, ⟨p, c, h⟩, ⟨rfl, rfl, rfl, Nat.le_refl _, fun _ _ _ => rfl⟩⟩
  | some p =>
    rcases num_impl s p hs h.1 with ⟨n, q, hn, _, hq, hc⟩ | ⟨hn, c, hc⟩
    · refine (num_got g s p q n w h.2 hc).mono fun e w' ⟨h1, h2, h3⟩ => ?_
      simp only [Option.bind_some, hn]
      exact ⟨h1, ⟨hq, h2⟩, h3⟩
    · refine (num_bad g s p 0 c w h.2 hc).mono fun e w' ⟨h1, h2, h3⟩ => ?_
      simp only [Option.bind_some, hn]
      exact ⟨h1, ⟨0, c, h2⟩, h3⟩
/-- A text read by the reader. -/
theorem rword (g : Nat) (s : ByteArray) (o : Option Nat) (w : World) (hs : s.size ≤ 8000) (h : After g s o w) :
    Calls Try.prog 39 #[.pointer (some ⟨g, 0, none⟩)] w fun e w' => e = .returned (.string (((o.bind (txtAt s)).map (·.1)).getD ⟨#[]⟩)) ∧ After g s ((o.bind (txtAt s)).map (·.2)) w' ∧ w.grownBy w' (some g) := by
  cases o with
  | none =>
    obtain ⟨p, c, h⟩ := h
    exact (word_flt g s p c w h).mono fun e w' ⟨h1, h2⟩ => by subst h2; exact ⟨h1, ⟨p, c, h⟩, ⟨rfl, rfl, rfl, Nat.le_refl _, fun _ _ _ => rfl⟩⟩
  | some p =>
    rcases txt_impl s p hs h.1 with ⟨n, q, hn, _, hq, hc⟩ | ⟨hn, c, hc⟩
    · refine (word_got g s p q n w h.2 hc).mono fun e w' ⟨h1, h2, h3⟩ => ?_
      simp only [Option.bind_some, hn]
      exact ⟨h1, ⟨hq, h2⟩, h3⟩
    · refine (word_bad g s p 0 c w h.2 hc).mono fun e w' ⟨h1, h2, h3⟩ => ?_
      simp only [Option.bind_some, hn]
      exact ⟨h1, ⟨0, c, h2⟩, h3⟩
end EvtR
end Go.Proofs.Ytbecgngmpjajaaa
namespace Go.Proofs.Ytbecgngmpjajaaa
open Go.ChangeShapes Go.WideShapes Go.ChangeAt Go.RowKit
set_option linter.unusedVariables false
namespace EvtR
open GetR NumsR
/-- The model's reader's block. -/
def SRB (g : Nat) (s : ByteArray) (p : Nat) (b : Bool) (w : World) : Prop := g < w.heap.size ∧ w.cell? ⟨g, 0, none⟩ = some (.string s) ∧ w.cell? ⟨g, 1, none⟩ = some (.int .i64 p) ∧ w.cell? ⟨g, 2, none⟩ = some (.bool b) ∧ w.frozen? ⟨g, 0, none⟩ = false ∧ w.frozen? ⟨g, 1, none⟩ = false ∧ w.frozen? ⟨g, 2, none⟩ = false
theorem SRB.below {g : Nat} {s : ByteArray} {p : Nat} {b : Bool} {w w' : World} (h : SRB g s p b w) (hb : Below w.heap.size w w') : SRB g s p b w' := by
  obtain ⟨hl, c0, c1, c2, f0, f1, f2⟩ := h
  have c := fun o => hb.cell (p := ⟨g, o, none⟩) hl
  have z := fun o => hb.frozen (p := ⟨g, o, none⟩) hl
  exact ⟨by have := hb.size; omega, (c 0).trans c0, (c 1).trans c1, (c 2).trans c2, (z 0).trans f0, (z 1).trans f1, (z 2).trans f2⟩
theorem SRB.setAt {g : Nat} {s : ByteArray} {p : Nat} {b : Bool} {w : World} (h : SRB g s p b w) (q : Nat) : SRB g s q b (w.setCell ⟨g, 1, none⟩ (.int .i64 q)) := by
  obtain ⟨hl, c0, c1, c2, f0, f1, f2⟩ := h
  exact ⟨by simpa using hl, by simp [go_sem, c0], by simp [go_sem, c1], by simp [go_sem, c2], by simp [go_sem, f0], by simp [go_sem, f1], by simp [go_sem, f2]⟩
theorem SRB.setBad {g : Nat} {s : ByteArray} {p : Nat} {b : Bool} {w : World} (h : SRB g s p b w) : SRB g s p true (w.setCell ⟨g, 2, none⟩ (.bool true)) := by
  obtain ⟨hl, c0, c1, c2, f0, f1, f2⟩ := h
  exact ⟨by simpa using hl, by simp [go_sem, c0], by simp [go_sem, c1], by simp [go_sem, c2], by simp [go_sem, f0], by simp [go_sem, f1], by simp [go_sem, f2]⟩
/-- A new block of three cells. -/
def N3 (B : Nat) (a b c : Value) (w : World) : Prop := B < w.heap.size ∧ w.cell? ⟨B, 0, none⟩ = some a ∧ w.cell? ⟨B, 1, none⟩ = some b ∧ w.cell? ⟨B, 2, none⟩ = some c ∧ w.frozen? ⟨B, 0, none⟩ = false ∧ w.frozen? ⟨B, 1, none⟩ = false ∧ w.frozen? ⟨B, 2, none⟩ = false
theorem N3.new (W : World) (T : TypeId) (a b c : Value) : N3 W.heap.size a b c (W.alloc (.cells #[a, b, c] T)) :=
  ⟨by simp, by simp [go_sem], by simp [go_sem], by simp [go_sem], by simp [go_sem], by simp [go_sem], by simp [go_sem]⟩
theorem N3.below {B : Nat} {a b c : Value} {w w' : World} (h : N3 B a b c w) (hb : Below w.heap.size w w') : N3 B a b c w' := by
  obtain ⟨hl, c0, c1, c2, f0, f1, f2⟩ := h
  have c := fun o => hb.cell (p := ⟨B, o, none⟩) hl
  have z := fun o => hb.frozen (p := ⟨B, o, none⟩) hl
  exact ⟨by have := hb.size; omega, (c 0).trans c0, (c 1).trans c1, (c 2).trans c2, (z 0).trans f0, (z 1).trans f1, (z 2).trans f2⟩
theorem then2 {a b P : Prop} (ha : a) (hb : b) (k : a → b → P) : P := k ha hb
theorem then1 {a P : Prop} (ha : a) (k : a → P) : P := k ha
theorem SRB.other {g : Nat} {s : ByteArray} {p : Nat} {b : Bool} {w : World} (h : SRB g s p b w) {X : Nat} (hX : X ≠ g) (o : Nat) (v : Value) : SRB g s p b (w.setCell ⟨X, o, none⟩ v) := by
  obtain ⟨hl, c0, c1, c2, f0, f1, f2⟩ := h
  have e := (rset w X o v).block g hl (by simp; exact fun h => hX h.symm)
  have c := fun k => World.cell?_of_block (a := ⟨g, k, none⟩) e
  have z := fun k => World.frozen?_of_block (a := ⟨g, k, none⟩) e
  exact ⟨by simpa using hl, (c 0).trans c0, (c 1).trans c1, (c 2).trans c2, (z 0).trans f0, (z 1).trans f1, (z 2).trans f2⟩
theorem gnew {w wx : World} {g X o : Nat} {v : Value} (h : w.grownBy wx (some g)) (hX : w.heap.size ≤ X) : w.grownBy (wx.setCell ⟨X, o, none⟩ v) (some g) := by
  have hg := rset wx X o v
  refine ⟨hg.os.trans h.os, hg.tape.trans h.tape, hg.output.trans h.output, by have := h.size; have := hg.size; omega, fun k hk hne => ?_⟩
  have hs := h.size
  exact (hg.block k (by omega) (by intro e; cases e; omega)).trans (h.block k hk hne)
theorem galloc {w w1 : World} {g : Nat} (h : w.grownBy w1 (some g)) (o : Obj) : w.grownBy (w1.alloc o) (some g) := gtrans h (World.grownBy_alloc w1 o _)
set_option maxHeartbeats 4000000 in
theorem snum_got (g : Nat) (s : ByteArray) (p q : Nat) (n : Int) (w : World) (hR : SRB g s p false w)
    (hr : ∀ w, Calls Try.prog 47 #[.string s, .int .i64 p] w fun e w' => e = .returned (.agg #[.int .i64 n, .int .i64 (q : Nat), .int .i64 0]) ∧ Below w.heap.size w w') :
    Calls Try.prog 29 #[.pointer (some ⟨g, 0, none⟩)] w fun e w' => e = .returned (.int .i64 n) ∧ SRB g s q false w' ∧ w.grownBy w' (some g) := by
  have HR := hid_intro hR
  have HH := hid_intro hr
  obtain ⟨hl, c0, c1, c2, f0, f1, f2⟩ := hR
  have hne : w.heap.size ≠ g := by omega
  clear hr
  go_enter Try.func29, Try.ntmps29
  go_wp2_with fail
  go_region_with (go_at_call 47; refine (HH.out _).mono ?_; rintro e w1 ⟨rfl, hb⟩; have HB := hid_intro hb; first | (refine then2 (SRB.below (SRB.below (show SRB g s p false w.drew from HR.out) ((Below.refl _ _).alloc (Nat.le_refl _) _)) hb) (show N3 w.heap.size (.int .i64 0) (.int .i64 0) (.int .i64 0) w1 from N3.below (N3.new w.drew 88 (.int .i64 0) (.int .i64 0) (.int .i64 0)) hb) ?_; intro hX hZ; have HX := hid_intro hX; obtain ⟨zl, z0, z1, z2, y0, y1, y2⟩ := hZ; obtain ⟨hl1, d0, d1, d2, e0, e1, e2⟩ := hX) | (refine then1 (SRB.below (show SRB g s p false w.drew from HR.out) hb) ?_; intro hX; have HX := hid_intro hX; have hl0 : ¬ w1.heap.size = g := (by have := hX.1; omega); obtain ⟨hl1, d0, d1, d2, e0, e1, e2⟩ := hX); clear hb)
  all_goals (
    go_wp2_with fail
    go_ret
    first
      | (have hzl := zl; exact ⟨rfl, ((((HX.out.other hne 0 _).other hne 1 _).other hne 2 _).setAt q), gtrans (gnew (gnew (gnew (undrew (gtrans (World.grownBy_alloc _ _ _) (rgrown HB.out _))) (Nat.le_refl _)) (Nat.le_refl _)) (Nat.le_refl _)) (rset _ g 1 _)⟩)
      | exact ⟨rfl, (HX.out.setAt q).below ((Below.refl _ _).alloc (Nat.le_refl _) _), galloc (gtrans (undrew (rgrown HB.out _)) (rset _ g 1 _)) _⟩)
set_option maxHeartbeats 4000000 in
theorem snum_bad (g : Nat) (s : ByteArray) (p q : Nat) (n : Int) (c : Int) (hc : (c == 0) = false) (w : World) (hR : SRB g s p false w)
    (hr : ∀ w, Calls Try.prog 47 #[.string s, .int .i64 p] w fun e w' => e = .returned (.agg #[.int .i64 n, .int .i64 (q : Nat), .int .i64 c]) ∧ Below w.heap.size w w') :
    Calls Try.prog 29 #[.pointer (some ⟨g, 0, none⟩)] w fun e w' => e = .returned (.int .i64 0) ∧ SRB g s p true w' ∧ w.grownBy w' (some g) := by
  have HR := hid_intro hR
  have HH := hid_intro hr
  obtain ⟨hl, c0, c1, c2, f0, f1, f2⟩ := hR
  have hne : w.heap.size ≠ g := by omega
  have hcn : ¬ c = 0 := by simpa using hc
  have hcn2 : (c != 0) = true := by simp [hcn]
  clear hr
  go_enter Try.func29, Try.ntmps29
  go_wp2_with fail
  go_region_with (go_at_call 47; refine (HH.out _).mono ?_; rintro e w1 ⟨rfl, hb⟩; have HB := hid_intro hb; first | (refine then2 (SRB.below (SRB.below (show SRB g s p false w.drew from HR.out) ((Below.refl _ _).alloc (Nat.le_refl _) _)) hb) (show N3 w.heap.size (.int .i64 0) (.int .i64 0) (.int .i64 0) w1 from N3.below (N3.new w.drew 88 (.int .i64 0) (.int .i64 0) (.int .i64 0)) hb) ?_; intro hX hZ; have HX := hid_intro hX; obtain ⟨zl, z0, z1, z2, y0, y1, y2⟩ := hZ; obtain ⟨hl1, d0, d1, d2, e0, e1, e2⟩ := hX) | (refine then1 (SRB.below (show SRB g s p false w.drew from HR.out) hb) ?_; intro hX; have HX := hid_intro hX; have hl0 : ¬ w1.heap.size = g := (by have := hX.1; omega); obtain ⟨hl1, d0, d1, d2, e0, e1, e2⟩ := hX); clear hb)
  all_goals (
    go_wp2_with fail
    go_ret
    first
      | (have hzl := zl; exact ⟨rfl, ((((HX.out.other hne 0 _).other hne 1 _).other hne 2 _).setBad), gtrans (gnew (gnew (gnew (undrew (gtrans (World.grownBy_alloc _ _ _) (rgrown HB.out _))) (Nat.le_refl _)) (Nat.le_refl _)) (Nat.le_refl _)) (rset _ g 2 _)⟩)
      | exact ⟨rfl, HX.out.setBad.below ((Below.refl _ _).alloc (Nat.le_refl _) _), galloc (gtrans (undrew (rgrown HB.out _)) (rset _ g 2 _)) _⟩)
set_option maxHeartbeats 4000000 in
theorem snum_flt (g : Nat) (s : ByteArray) (p q : Nat) (n : Int) (c : Int) (w : World) (hR : SRB g s p true w)
    (hr : ∀ w, Calls Try.prog 47 #[.string s, .int .i64 p] w fun e w' => e = .returned (.agg #[.int .i64 n, .int .i64 (q : Nat), .int .i64 c]) ∧ Below w.heap.size w w') :
    Calls Try.prog 29 #[.pointer (some ⟨g, 0, none⟩)] w fun e w' => e = .returned (.int .i64 0) ∧ SRB g s p true w' ∧ w.grownBy w' (some g) := by
  have HR := hid_intro hR
  have HH := hid_intro hr
  obtain ⟨hl, c0, c1, c2, f0, f1, f2⟩ := hR
  have hne : w.heap.size ≠ g := by omega
  clear hr
  go_enter Try.func29, Try.ntmps29
  go_wp2_with fail
  go_region_with (go_at_call 47; refine (HH.out _).mono ?_; rintro e w1 ⟨rfl, hb⟩; have HB := hid_intro hb; first | (refine then2 (SRB.below (SRB.below (show SRB g s p true w.drew from HR.out) ((Below.refl _ _).alloc (Nat.le_refl _) _)) hb) (show N3 w.heap.size (.int .i64 0) (.int .i64 0) (.int .i64 0) w1 from N3.below (N3.new w.drew 88 (.int .i64 0) (.int .i64 0) (.int .i64 0)) hb) ?_; intro hX hZ; have HX := hid_intro hX; obtain ⟨zl, z0, z1, z2, y0, y1, y2⟩ := hZ; obtain ⟨hl1, d0, d1, d2, e0, e1, e2⟩ := hX) | (refine then1 (SRB.below (show SRB g s p true w.drew from HR.out) hb) ?_; intro hX; have HX := hid_intro hX; have hl0 : ¬ w1.heap.size = g := (by have := hX.1; omega); obtain ⟨hl1, d0, d1, d2, e0, e1, e2⟩ := hX); clear hb)
  all_goals (
    go_wp2_with fail
    go_ret
    first
      | (have hzl := zl; exact ⟨rfl, ((((HX.out.other hne 0 _).other hne 1 _).other hne 2 _).setBad), gtrans (gnew (gnew (gnew (undrew (gtrans (World.grownBy_alloc _ _ _) (rgrown HB.out _))) (Nat.le_refl _)) (Nat.le_refl _)) (Nat.le_refl _)) (rset _ g 2 _)⟩)
      | exact ⟨rfl, HX.out.setBad.below ((Below.refl _ _).alloc (Nat.le_refl _) _), galloc (gtrans (undrew (rgrown HB.out _)) (rset _ g 2 _)) _⟩)
set_option maxHeartbeats 4000000 in
theorem stext_got (g : Nat) (s : ByteArray) (p q : Nat) (t : ByteArray) (w : World) (hR : SRB g s p false w)
    (hr : ∀ w, Calls Try.prog 46 #[.string s, .int .i64 p] w fun e w' => e = .returned (.agg #[.string t, .int .i64 (q : Nat), .int .i64 0]) ∧ Below w.heap.size w w') :
    Calls Try.prog 28 #[.pointer (some ⟨g, 0, none⟩)] w fun e w' => e = .returned (.string t) ∧ SRB g s q false w' ∧ w.grownBy w' (some g) := by
  have HR := hid_intro hR
  have HH := hid_intro hr
  obtain ⟨hl, c0, c1, c2, f0, f1, f2⟩ := hR
  have hne : w.heap.size ≠ g := by omega
  clear hr
  go_enter Try.func28, Try.ntmps28
  go_wp2_with fail
  go_region_with (go_at_call 46; refine (HH.out _).mono ?_; rintro e w1 ⟨rfl, hb⟩; have HB := hid_intro hb; first | (refine then2 (SRB.below (SRB.below (show SRB g s p false w.drew from HR.out) ((Below.refl _ _).alloc (Nat.le_refl _) _)) hb) (show N3 w.heap.size (.string ⟨#[]⟩) (.int .i64 0) (.int .i64 0) w1 from N3.below (N3.new w.drew 85 (.string ⟨#[]⟩) (.int .i64 0) (.int .i64 0)) hb) ?_; intro hX hZ; have HX := hid_intro hX; obtain ⟨zl, z0, z1, z2, y0, y1, y2⟩ := hZ; obtain ⟨hl1, d0, d1, d2, e0, e1, e2⟩ := hX) | (refine then1 (SRB.below (show SRB g s p false w.drew from HR.out) hb) ?_; intro hX; have HX := hid_intro hX; have hl0 : ¬ w1.heap.size = g := (by have := hX.1; omega); obtain ⟨hl1, d0, d1, d2, e0, e1, e2⟩ := hX); clear hb)
  all_goals (
    go_wp2_with fail
    go_ret
    first
      | (have hzl := zl; exact ⟨rfl, ((((HX.out.other hne 0 _).other hne 1 _).other hne 2 _).setAt q), gtrans (gnew (gnew (gnew (undrew (gtrans (World.grownBy_alloc _ _ _) (rgrown HB.out _))) (Nat.le_refl _)) (Nat.le_refl _)) (Nat.le_refl _)) (rset _ g 1 _)⟩)
      | exact ⟨rfl, (HX.out.setAt q).below ((Below.refl _ _).alloc (Nat.le_refl _) _), galloc (gtrans (undrew (rgrown HB.out _)) (rset _ g 1 _)) _⟩)
set_option maxHeartbeats 4000000 in
theorem stext_bad (g : Nat) (s : ByteArray) (p q : Nat) (t : ByteArray) (c : Int) (hc : (c == 0) = false) (w : World) (hR : SRB g s p false w)
    (hr : ∀ w, Calls Try.prog 46 #[.string s, .int .i64 p] w fun e w' => e = .returned (.agg #[.string t, .int .i64 (q : Nat), .int .i64 c]) ∧ Below w.heap.size w w') :
    Calls Try.prog 28 #[.pointer (some ⟨g, 0, none⟩)] w fun e w' => e = .returned (.string ⟨#[]⟩) ∧ SRB g s p true w' ∧ w.grownBy w' (some g) := by
  have HR := hid_intro hR
  have HH := hid_intro hr
  obtain ⟨hl, c0, c1, c2, f0, f1, f2⟩ := hR
  have hne : w.heap.size ≠ g := by omega
  have hcn : ¬ c = 0 := by simpa using hc
  have hcn2 : (c != 0) = true := by simp [hcn]
  clear hr
  go_enter Try.func28, Try.ntmps28
  go_wp2_with fail
  go_region_with (go_at_call 46; refine (HH.out _).mono ?_; rintro e w1 ⟨rfl, hb⟩; have HB := hid_intro hb; first | (refine then2 (SRB.below (SRB.below (show SRB g s p false w.drew from HR.out) ((Below.refl _ _).alloc (Nat.le_refl _) _)) hb) (show N3 w.heap.size (.string ⟨#[]⟩) (.int .i64 0) (.int .i64 0) w1 from N3.below (N3.new w.drew 85 (.string ⟨#[]⟩) (.int .i64 0) (.int .i64 0)) hb) ?_; intro hX hZ; have HX := hid_intro hX; obtain ⟨zl, z0, z1, z2, y0, y1, y2⟩ := hZ; obtain ⟨hl1, d0, d1, d2, e0, e1, e2⟩ := hX) | (refine then1 (SRB.below (show SRB g s p false w.drew from HR.out) hb) ?_; intro hX; have HX := hid_intro hX; have hl0 : ¬ w1.heap.size = g := (by have := hX.1; omega); obtain ⟨hl1, d0, d1, d2, e0, e1, e2⟩ := hX); clear hb)
  all_goals (
    go_wp2_with fail
    go_ret
    first
      | (have hzl := zl; exact ⟨rfl, ((((HX.out.other hne 0 _).other hne 1 _).other hne 2 _).setBad), gtrans (gnew (gnew (gnew (undrew (gtrans (World.grownBy_alloc _ _ _) (rgrown HB.out _))) (Nat.le_refl _)) (Nat.le_refl _)) (Nat.le_refl _)) (rset _ g 2 _)⟩)
      | exact ⟨rfl, HX.out.setBad.below ((Below.refl _ _).alloc (Nat.le_refl _) _), galloc (gtrans (undrew (rgrown HB.out _)) (rset _ g 2 _)) _⟩)
set_option maxHeartbeats 4000000 in
theorem stext_flt (g : Nat) (s : ByteArray) (p q : Nat) (t : ByteArray) (c : Int) (w : World) (hR : SRB g s p true w)
    (hr : ∀ w, Calls Try.prog 46 #[.string s, .int .i64 p] w fun e w' => e = .returned (.agg #[.string t, .int .i64 (q : Nat), .int .i64 c]) ∧ Below w.heap.size w w') :
    Calls Try.prog 28 #[.pointer (some ⟨g, 0, none⟩)] w fun e w' => e = .returned (.string ⟨#[]⟩) ∧ SRB g s p true w' ∧ w.grownBy w' (some g) := by
  have HR := hid_intro hR
  have HH := hid_intro hr
  obtain ⟨hl, c0, c1, c2, f0, f1, f2⟩ := hR
  have hne : w.heap.size ≠ g := by omega
  clear hr
  go_enter Try.func28, Try.ntmps28
  go_wp2_with fail
  go_region_with (go_at_call 46; refine (HH.out _).mono ?_; rintro e w1 ⟨rfl, hb⟩; have HB := hid_intro hb; first | (refine then2 (SRB.below (SRB.below (show SRB g s p true w.drew from HR.out) ((Below.refl _ _).alloc (Nat.le_refl _) _)) hb) (show N3 w.heap.size (.string ⟨#[]⟩) (.int .i64 0) (.int .i64 0) w1 from N3.below (N3.new w.drew 85 (.string ⟨#[]⟩) (.int .i64 0) (.int .i64 0)) hb) ?_; intro hX hZ; have HX := hid_intro hX; obtain ⟨zl, z0, z1, z2, y0, y1, y2⟩ := hZ; obtain ⟨hl1, d0, d1, d2, e0, e1, e2⟩ := hX) | (refine then1 (SRB.below (show SRB g s p true w.drew from HR.out) hb) ?_; intro hX; have HX := hid_intro hX; have hl0 : ¬ w1.heap.size = g := (by have := hX.1; omega); obtain ⟨hl1, d0, d1, d2, e0, e1, e2⟩ := hX); clear hb)
  all_goals (
    go_wp2_with fail
    go_ret
    first
      | (have hzl := zl; exact ⟨rfl, ((((HX.out.other hne 0 _).other hne 1 _).other hne 2 _).setBad), gtrans (gnew (gnew (gnew (undrew (gtrans (World.grownBy_alloc _ _ _) (rgrown HB.out _))) (Nat.le_refl _)) (Nat.le_refl _)) (Nat.le_refl _)) (rset _ g 2 _)⟩)
      | exact ⟨rfl, HX.out.setBad.below ((Below.refl _ _).alloc (Nat.le_refl _) _), galloc (gtrans (undrew (rgrown HB.out _)) (rset _ g 2 _)) _⟩)
/-- What a read of the model's leaves: the reader behind it, with or without a fault. -/
def SAfter (g : Nat) (s : ByteArray) (o : Option Nat) (w : World) : Prop := match o with
  | some p => p ≤ 8000 ∧ SRB g s p false w
  | none => ∃ p, p ≤ 8000 ∧ SRB g s p true w
theorem srnum (g : Nat) (s : ByteArray) (o : Option Nat) (w : World) (hs : s.size ≤ 8000) (h : SAfter g s o w) :
    Calls Try.prog 29 #[.pointer (some ⟨g, 0, none⟩)] w fun e w' => e = .returned (.int .i64 (((o.bind (numAt s)).map (·.1)).getD 0)) ∧ SAfter g s ((o.bind (numAt s)).map (·.2)) w' ∧ w.grownBy w' (some g) := by
  cases o with
  | none =>
    obtain ⟨p, hp, h⟩ := h
    rcases num_spec s p hs hp with ⟨n, q, hn, _, hq, hc⟩ | ⟨hn, c, hc0, hc⟩
    · exact (snum_flt g s p q n 0 w h hc).mono fun e w' ⟨h1, h2, h3⟩ => ⟨h1, ⟨p, hp, h2⟩, h3⟩
    · exact (snum_flt g s p 0 0 c w h hc).mono fun e w' ⟨h1, h2, h3⟩ => ⟨h1, ⟨p, hp, h2⟩, h3⟩
  | some p =>
    rcases num_spec s p hs h.1 with ⟨n, q, hn, _, hq, hc⟩ | ⟨hn, c, hc0, hc⟩
    · refine (snum_got g s p q n w h.2 hc).mono fun e w' ⟨h1, h2, h3⟩ => ?_
      simp only [Option.bind_some, hn]
      exact ⟨h1, ⟨hq, h2⟩, h3⟩
    · refine (snum_bad g s p 0 0 c hc0 w h.2 hc).mono fun e w' ⟨h1, h2, h3⟩ => ?_
      simp only [Option.bind_some, hn]
      exact ⟨h1, ⟨p, h.1, h2⟩, h3⟩
theorem srtext (g : Nat) (s : ByteArray) (o : Option Nat) (w : World) (hs : s.size ≤ 8000) (h : SAfter g s o w) :
    Calls Try.prog 28 #[.pointer (some ⟨g, 0, none⟩)] w fun e w' => e = .returned (.string (((o.bind (txtAt s)).map (·.1)).getD ⟨#[]⟩)) ∧ SAfter g s ((o.bind (txtAt s)).map (·.2)) w' ∧ w.grownBy w' (some g) := by
  cases o with
  | none =>
    obtain ⟨p, hp, h⟩ := h
    rcases txt_spec s p hs hp with ⟨n, q, hn, _, hq, hc⟩ | ⟨hn, c, hc0, hc⟩
    · exact (stext_flt g s p q n 0 w h hc).mono fun e w' ⟨h1, h2, h3⟩ => ⟨h1, ⟨p, hp, h2⟩, h3⟩
    · exact (stext_flt g s p 0 ⟨#[]⟩ c w h hc).mono fun e w' ⟨h1, h2, h3⟩ => ⟨h1, ⟨p, hp, h2⟩, h3⟩
  | some p =>
    rcases txt_spec s p hs h.1 with ⟨n, q, hn, _, hq, hc⟩ | ⟨hn, c, hc0, hc⟩
    · refine (stext_got g s p q n w h.2 hc).mono fun e w' ⟨h1, h2, h3⟩ => ?_
      simp only [Option.bind_some, hn]
      exact ⟨h1, ⟨hq, h2⟩, h3⟩
    · refine (stext_bad g s p 0 ⟨#[]⟩ c hc0 w h.2 hc).mono fun e w' ⟨h1, h2, h3⟩ => ?_
      simp only [Option.bind_some, hn]
      exact ⟨h1, ⟨p, h.1, h2⟩, h3⟩
end EvtR
end Go.Proofs.Ytbecgngmpjajaaa
namespace Go.Proofs.Ytbecgngmpjajaaa
open Go.ChangeShapes Go.WideShapes Go.ChangeAt Go.RowKit
set_option linter.unusedVariables false
namespace WordR
def seen (c : Int) : Bool := decide (33 ≤ c ∧ c ≤ 126)
def upTo (s : ByteArray) (k : Nat) : Prop := ∀ i (h : i < s.size), i < k → seen (s[i].toNat : Int) = true
def upToDec (s : ByteArray) (k : Nat) : Decidable (upTo s k) := inferInstanceAs (Decidable (∀ i (h : i < s.size), i < k → seen (s[i].toNat : Int) = true))
/-- Are all bytes seen ones? -/
def printB (s : ByteArray) : Bool := @decide (upTo s s.size) (upToDec s s.size)
theorem print_no {s : ByteArray} {k : Nat} (h : k < s.size) (hb : seen (s[k].toNat : Int) = false) : printB s = false := by
  unfold printB; simp; intro hu; have := hu k h h; simp [hb] at this
theorem print_yes {s : ByteArray} (hu : upTo s s.size) : printB s = true := by unfold printB; simpa using hu
theorem upTo_zero (s : ByteArray) : upTo s 0 := fun _ _ h => absurd h (by omega)
theorem upTo_succ {s : ByteArray} {k : Nat} (hu : upTo s k) (h : k < s.size) (hb : seen (s[k].toNat : Int) = true) : upTo s (k + 1) := by
  intro i hi hk
  by_cases e : i = k
  · subst e; exact hb
  · exact hu i hi (by omega)
theorem hid_intro' {p : Prop} (h : p) : Hid p := h
theorem byte_lt (s : ByteArray) (k : Nat) (h : k < s.size) : (s[k].toNat : Int) < 256 := by
  have := s[k].toNat_lt; omega
end WordR
end Go.Proofs.Ytbecgngmpjajaaa
namespace Go.Proofs.Ytbecgngmpjajaaa
open Go.ChangeShapes Go.WideShapes Go.ChangeAt Go.RowKit
set_option linter.unusedVariables false
namespace EvtR
open WordR
theorem hid_intro {p : Prop} (h : p) : Hid p := h
def idB (s : ByteArray) : Bool := decide (1 ≤ s.size ∧ s.size ≤ 20) && printB s
theorem within_any (n low high : Int) (w : World) :
    Calls Try.prog 38 #[.int .i64 n, .int .i64 low, .int .i64 high] w fun e w' => e = .returned (.bool (decide (low ≤ n ∧ n ≤ high))) ∧ w' = w := by
  rcases (show (¬ low ≤ n) ∨ (low ≤ n ∧ ¬ n ≤ high) ∨ (low ≤ n ∧ n ≤ high) by omega) with h | ⟨h1, h2⟩ | ⟨h1, h2⟩
  all_goals
    go_enter Try.func38, Try.ntmps38
    go_wp2
    go_ret
    exact ⟨ret_bool (by first | (simp [*]; done) | (simp; omega)), rfl⟩
theorem is_any (n low high : Int) (w : World) :
    Calls Try.prog 45 #[.int .i64 n, .int .i64 low, .int .i64 high] w fun e w' => e = .returned (.bool (decide (low ≤ n ∧ n ≤ high))) ∧ w' = w := by
  rcases (show (¬ low ≤ n) ∨ (low ≤ n ∧ ¬ n ≤ high) ∨ (low ≤ n ∧ n ≤ high) by omega) with h | ⟨h1, h2⟩ | ⟨h1, h2⟩
  all_goals
    go_enter Try.func45, Try.ntmps45
    go_wp2
    go_ret
    exact ⟨ret_bool (by first | (simp [*]; done) | (simp; omega)), rfl⟩
theorem empty_of (i : ByteArray) (h : i.size = 0) : i.toList = [] := by
  rw [ByteArray.toList_eq]
  exact List.eq_nil_of_length_eq_zero h
theorem full_of (i : ByteArray) (h : i.size ≠ 0) : i.toList ≠ [] ∧ i.toList.isEmpty = false := by
  have a : i.toList ≠ [] := by
    rw [ByteArray.toList_eq]
    intro e
    exact h (show i.data.toList.length = 0 by rw [e]; rfl)
  exact ⟨a, by cases hl : i.toList with
    | nil => exact absurd hl a
    | cons x l => rfl⟩
end EvtR
end Go.Proofs.Ytbecgngmpjajaaa
namespace Go.Proofs.Ytbecgngmpjajaaa
open Go.ChangeShapes Go.WideShapes Go.ChangeAt Go.RowKit
set_option linter.unusedVariables false
namespace EvtR
open GetR NumsR
theorem rdrewN {B : Nat} {a w : World} (h : Below B a w) (n : Nat) : Below B a (w.drewN n) := ⟨h.os, h.tape, h.output, h.size, h.block⟩
theorem ended_any (g : Nat) (s : ByteArray) (o : Option Nat) (w : World) (hs : s.size ≤ 8000) (h : After g s o w) :
    Calls Try.prog 22 #[.pointer (some ⟨g, 0, none⟩)] w fun e w' => e = .returned (.bool (decide (o = some s.size))) ∧ Below w.heap.size w w' := by
  cases o with
  | none =>
    obtain ⟨p, c, hR⟩ := h
    unfold flt at hR
    obtain ⟨hl, c0, c1, c2, f0, f1, f2⟩ := hR
    go_enter Try.func22, Try.ntmps22
    go_wp2_with fail
    go_quiet (fail)
    go_wp2
    go_ret
    exact ⟨rfl, rdrewN (Below.refl _ _) _⟩
  | some p =>
    obtain ⟨hp, hl, c0, c1, c2, f0, f1, f2⟩ := h
    by_cases he : p = s.size
    · subst he
      go_enter Try.func22, Try.ntmps22
      go_wp2_with fail
      go_quiet (fail)
      go_wp2
      go_ret
      exact ⟨ret_bool (by simp), rdrewN (Below.refl _ _) _⟩
    · have he' : ¬ (p : Int) = (s.size : Int) := by omega
      go_enter Try.func22, Try.ntmps22
      go_wp2_with fail
      go_quiet (fail)
      go_wp2
      go_ret
      exact ⟨ret_bool (by simp [he]; exact he'), rdrewN (Below.refl _ _) _⟩
/-- A text read, with or without a fault ahead. -/
def rT (s : ByteArray) (o : Option Nat) : ByteArray := ((o.bind (txtAt s)).map (·.1)).getD ⟨#[]⟩
def pT (s : ByteArray) (o : Option Nat) : Option Nat := (o.bind (txtAt s)).map (·.2)
def rN (s : ByteArray) (o : Option Nat) : Int := ((o.bind (numAt s)).map (·.1)).getD 0
def pN (s : ByteArray) (o : Option Nat) : Option Nat := (o.bind (numAt s)).map (·.2)
theorem After.lt {g : Nat} {s : ByteArray} {o : Option Nat} {w : World} (h : After g s o w) : g < w.heap.size := by
  cases o with
  | none => obtain ⟨p, c, h⟩ := h; exact h.1
  | some p => exact h.2.1
theorem After.below {g : Nat} {s : ByteArray} {o : Option Nat} {w w' : World} (h : After g s o w) (hb : Below w.heap.size w w') : After g s o w' := by
  cases o with
  | none => obtain ⟨p, c, h⟩ := h; exact ⟨p, c, h.below hb⟩
  | some p => exact ⟨h.1, h.2.below hb⟩
theorem After.alloc {g : Nat} {s : ByteArray} {o : Option Nat} {w : World} (h : After g s o w) (x : Obj) : After g s o (w.alloc x) := h.below ((Below.refl _ _).alloc (Nat.le_refl _) x)
theorem gnew' {w wx : World} {g X o : Nat} {v : Value} (h : w.grownBy wx (some g)) (hX : w.heap.size ≤ X) : w.grownBy (wx.setCell ⟨X, o, none⟩ v) (some g) := by
  have hg := rset wx X o v
  refine ⟨hg.os.trans h.os, hg.tape.trans h.tape, hg.output.trans h.output, by have := h.size; have := hg.size; omega, fun k hk hne => ?_⟩
  have hs := h.size
  exact (hg.block k (by omega) (by intro e; cases e; omega)).trans (h.block k hk hne)
theorem After.other {g : Nat} {s : ByteArray} {o : Option Nat} {w : World} (h : After g s o w) {X : Nat} (hX : X ≠ g) (k : Nat) (v : Value) : After g s o (w.setCell ⟨X, k, none⟩ v) := by
  have key : ∀ p f, RdB g s p f w → RdB g s p f (w.setCell ⟨X, k, none⟩ v) := by
    intro p f hr
    obtain ⟨hl, c0, c1, c2, f0, f1, f2⟩ := hr
    have e := (rset w X k v).block g hl (by simp; exact fun h => hX h.symm)
    have c := fun j => World.cell?_of_block (a := ⟨g, j, none⟩) e
    have z := fun j => World.frozen?_of_block (a := ⟨g, j, none⟩) e
    exact ⟨by simpa using hl, (c 0).trans c0, (c 1).trans c1, (c 2).trans c2, (z 0).trans f0, (z 1).trans f1, (z 2).trans f2⟩
  cases o with
  | none => obtain ⟨p, c, h⟩ := h; exact ⟨p, c, key _ _ h⟩
  | some p => exact ⟨h.1, key _ _ h.2⟩
/-- What one call of a reader leaves. -/
abbrev Reads (f : Nat) (g : Nat) (s : ByteArray) (o o' : Option Nat) (v : Value) : Prop := ∀ w, After g s o w → Calls Try.prog f #[.pointer (some ⟨g, 0, none⟩)] w fun e w' => e = .returned v ∧ After g s o' w' ∧ w.grownBy w' (some g)
theorem rT_size (s : ByteArray) (o : Option Nat) : (rT s o).size ≤ 8000 := by
  unfold rT
  cases h : o.bind (txtAt s) with
  | none => exact Nat.zero_le _
  | some x =>
    obtain ⟨t, q⟩ := x
    obtain ⟨p, rfl, hp⟩ := Option.bind_eq_some_iff.1 h
    simpa using (txtAt_back hp).1
theorem After.rdb {g : Nat} {s : ByteArray} {o : Option Nat} {w : World} (h : After g s o w) : ∃ p f, RdB g s p f w := by
  cases o with
  | none => obtain ⟨p, c, h⟩ := h; exact ⟨p, _, h⟩
  | some p => exact ⟨p, _, h.2⟩
/-- How many, and the place or fault behind it. -/
def rC (s : ByteArray) (o : Option Nat) (m : Nat) : Nat := if 0 ≤ rN s o ∧ rN s o ≤ m then (rN s o).toNat else 0
def pC (s : ByteArray) (o : Option Nat) (m : Nat) : Option Nat := if 0 ≤ rN s o ∧ rN s o ≤ m then pN s o else none
theorem rC_le (s : ByteArray) (o : Option Nat) (m : Nat) : rC s o m ≤ m := by
  unfold rC
  split <;> omega
set_option maxHeartbeats 4000000 in
theorem rcount (g : Nat) (s : ByteArray) (o : Option Nat) (m : Nat) (w : World) (hs : s.size ≤ 8000) (h : After g s o w) :
    Calls Try.prog 20 #[.pointer (some ⟨g, 0, none⟩), .int .i64 m] w fun e w' => e = .returned (.int .i64 (rC s o m)) ∧ After g s (pC s o m) w' ∧ w.grownBy w' (some g) := by
  have H1 : Hid (∀ w1, After g s o w1 → Calls Try.prog 37 #[.pointer (some ⟨g, 0, none⟩)] w1 fun e w' => e = .returned (.int .i64 (rN s o)) ∧ After g s (pN s o) w' ∧ w1.grownBy w' (some g)) := hid_intro (fun w1 h => rnum _ s o w1 hs h)
  have HC : Hid (rC s o m = if 0 ≤ rN s o ∧ rN s o ≤ m then (rN s o).toNat else 0) := rfl
  have HP : Hid (pC s o m = if 0 ≤ rN s o ∧ rN s o ≤ m then pN s o else none) := rfl
  generalize rN s o = c at *
  generalize pN s o = o0 at *
  generalize rC s o m = C at *
  generalize pC s o m = o1 at *
  have HA := hid_intro h
  clear h
  go_enter Try.func20, Try.ntmps20
  go_wp2_with fail
  refine (H1.out _ HA.out).mono ?_
  rintro e w1 ⟨rfl, hA, hg⟩
  have HG := hid_intro hg
  have HWI := hid_intro (fun w => within_any c 0 m w)
  by_cases k : 0 ≤ c ∧ c ≤ m
  · rw [decide_eq_true k] at HWI
    have e1 : (C : Int) = c := by rw [HC.out, if_pos k]; omega
    have e2 : o1 = o0 := by rw [HP.out, if_pos k]
    clear HC HP hg
    subst e1
    subst e2
    go_wp2_with (go_at_call 38; refine (HWI.out _).mono ?_; rintro e w' ⟨rfl, rfl⟩)
    go_ret
    exact ⟨rfl, hA, HG.out⟩
  · rw [decide_eq_false k] at HWI
    have e1 : C = 0 := by rw [HC.out, if_neg k]
    have e2 : o1 = none := by rw [HP.out, if_neg k]
    obtain ⟨p, f, hR⟩ := hA.rdb
    have HR := hid_intro hR
    obtain ⟨hl, c0, c1, c2, f0, f1, f2⟩ := hR
    clear HC HP hg hA
    subst e1
    subst e2
    go_wp2_with (go_at_call 38; refine (HWI.out _).mono ?_; rintro e w' ⟨rfl, rfl⟩)
    go_ret
    refine ⟨rfl, ⟨p, 3, ?_⟩, ?_⟩
    · obtain ⟨hl, c0, c1, c2, f0, f1, f2⟩ := HR.out
      exact ⟨by simpa using hl, by simp [go_sem, c0], by simp [go_sem, c1], by simp [go_sem, c2, flt], by simp [go_sem, f0], by simp [go_sem, f1], by simp [go_sem, f2]⟩
    · refine gtrans HG.out ?_
      first | exact rset _ g 2 _ | exact gtrans (World.grownBy_alloc _ _ _) (rset _ g 2 _)
theorem SAfter.lt {g : Nat} {s : ByteArray} {o : Option Nat} {w : World} (h : SAfter g s o w) : g < w.heap.size := by
  cases o with
  | none => obtain ⟨p, hp, h⟩ := h; exact h.1
  | some p => exact h.2.1
theorem SAfter.grown {g : Nat} {s : ByteArray} {o : Option Nat} {w w' : World} {row : Option Nat} (h : SAfter g s o w) (hg : w.grownBy w' row) (hne : some g ≠ row) : SAfter g s o w' := by
  have key : ∀ p f, SRB g s p f w → SRB g s p f w' := by
    intro p f hr
    obtain ⟨hl, c0, c1, c2, f0, f1, f2⟩ := hr
    have e := hg.block g hl hne
    have c := fun j => World.cell?_of_block (a := ⟨g, j, none⟩) e
    have z := fun j => World.frozen?_of_block (a := ⟨g, j, none⟩) e
    exact ⟨by have := hg.size; omega, (c 0).trans c0, (c 1).trans c1, (c 2).trans c2, (z 0).trans f0, (z 1).trans f1, (z 2).trans f2⟩
  cases o with
  | none => obtain ⟨p, c, h⟩ := h; exact ⟨p, c, key _ _ h⟩
  | some p => exact ⟨h.1, key _ _ h.2⟩
theorem SAfter.open {g : Nat} {s : ByteArray} {o : Option Nat} {w : World} (h : SAfter g s o w) : ∃ p, SRB g s p (decide (o = none)) w := by
  cases o with
  | none => obtain ⟨p, hp, h⟩ := h; exact ⟨p, by simpa using h⟩
  | some p => exact ⟨p, by simpa using h.2⟩
theorem many_any (g : Nat) (s : ByteArray) (o0 : Option Nat) (M : Nat) (w : World) (hs : s.size ≤ 8000) (h : SAfter g s o0 w) :
    Calls Try.prog 27 #[.pointer (some ⟨g, 0, none⟩), .int .i64 M] w fun e w' => (if 0 ≤ rN s o0 ∧ rN s o0 ≤ (M : Int) then e = .returned (.int .i64 (rN s o0)) ∧ SAfter g s (pN s o0) w' else e = .returned (.int .i64 0) ∧ SAfter g s none w') ∧ w.grownBy w' (some g) := by
  have H1 : Hid (∀ w, SAfter g s o0 w → Calls Try.prog 29 #[.pointer (some ⟨g, 0, none⟩)] w fun e w' => e = .returned (.int .i64 (rN s o0)) ∧ SAfter g s (pN s o0) w' ∧ w.grownBy w' (some g)) := hid_intro (fun w h => srnum g s _ w hs h)
  have HI := hid_intro (fun w => is_any (rN s o0) 0 (M : Int) w)
  have HA := hid_intro h
  generalize rN s o0 = c at *
  generalize pN s o0 = o at *
  clear h
  by_cases hc : 0 ≤ c ∧ c ≤ (M : Int)
  · simp only [if_pos hc]
    rw [decide_eq_true hc] at HI
    go_enter Try.func27, Try.ntmps27
    go_wp2_with fail
    refine (H1.out _ HA.out).mono ?_
    rintro e w1 ⟨rfl, hA, hg⟩
    have HA1 := hid_intro hA
    have HG1 := hid_intro hg
    clear hA hg
    go_wp2_with (go_at_call 45; refine (HI.out _).mono ?_; rintro e w' ⟨rfl, rfl⟩)
    go_ret
    exact ⟨⟨rfl, HA1.out⟩, HG1.out⟩
  · simp only [if_neg hc]
    rw [decide_eq_false hc] at HI
    go_enter Try.func27, Try.ntmps27
    go_wp2_with fail
    refine (H1.out _ HA.out).mono ?_
    rintro e w1 ⟨rfl, hA, hg⟩
    have HG1 := hid_intro hg
    clear hg
    obtain ⟨p, b, hp, hR⟩ : ∃ p b, p ≤ 8000 ∧ SRB g s p b w1 := by
      cases o with
      | none => obtain ⟨p, hp, h⟩ := hA; exact ⟨p, _, hp, h⟩
      | some p => exact ⟨p, _, hA.1, hA.2⟩
    have HR := hid_intro hR
    obtain ⟨hl, c0, c1, c2, f0, f1, f2⟩ := hR
    clear hA
    go_wp2_with (go_at_call 45; refine (HI.out _).mono ?_; rintro e w' ⟨rfl, rfl⟩)
    go_ret
    exact ⟨⟨rfl, p, hp, HR.out.setBad⟩, gtrans HG1.out (rset _ g 2 _)⟩
end EvtR
end Go.Proofs.Ytbecgngmpjajaaa
namespace Go.Proofs.Ytbecgngmpjajaaa
open Go.ChangeShapes Go.WideShapes Go.ChangeAt Go.RowKit
set_option linter.unusedVariables false
namespace OwG
open EvtR (Pt After SAfter gtrans)
theorem after_grown {g : Nat} {s : ByteArray} {o : Option Nat} {w w' : World} {row : Option Nat} (h : After g s o w) (hg : w.grownBy w' row) (hne : some g ≠ row) : After g s o w' := by
  have key : ∀ p f, EvtR.RdB g s p f w → EvtR.RdB g s p f w' := by
    intro p f hr
    obtain ⟨hl, c0, c1, c2, f0, f1, f2⟩ := hr
    have e := hg.block g hl hne
    have c := fun j => World.cell?_of_block (a := ⟨g, j, none⟩) e
    have z := fun j => World.frozen?_of_block (a := ⟨g, j, none⟩) e
    exact ⟨by have := hg.size; omega, (c 0).trans c0, (c 1).trans c1, (c 2).trans c2, (z 0).trans f0, (z 1).trans f1, (z 2).trans f2⟩
  cases o with
  | none => obtain ⟨p, c, h⟩ := h; exact ⟨p, c, key _ _ h⟩
  | some p => exact ⟨h.1, key _ _ h.2⟩
theorem satt {g : Nat} {s : ByteArray} {o : Option Nat} {w w' : World} (h : SAfter g s o w) (hb : Below w.heap.size w w') : SAfter g s o w' := h.grown (EvtR.rgrown hb none) (by simp)
end OwG
end Go.Proofs.Ytbecgngmpjajaaa
namespace Go.Proofs.Ytbecgngmpjajaaa
open Go.ChangeShapes Go.WideShapes Go.ChangeAt Go.RowKit
set_option linter.unusedVariables false
namespace MemoR
theorem memo0 {goal : Prop} (F : World → Prop) {G : World → Prop} (h1 : Hid (∀ W, F W → G W) → goal) (h2 : ∀ W, F W → G W) : goal := h1 h2
theorem memo1 {goal : Prop} (F : Nat → World → Prop) {G : Nat → World → Prop} (h1 : Hid (∀ x0 W, F x0 W → G x0 W) → goal) (h2 : ∀ x0 W, F x0 W → G x0 W) : goal := h1 h2
theorem memo2 {goal : Prop} (F : Nat → Nat → World → Prop) {G : Nat → Nat → World → Prop} (h1 : Hid (∀ x0 x1 W, F x0 x1 W → G x0 x1 W) → goal) (h2 : ∀ x0 x1 W, F x0 x1 W → G x0 x1 W) : goal := h1 h2
theorem memo3 {goal : Prop} (F : Nat → Nat → Nat → World → Prop) {G : Nat → Nat → Nat → World → Prop} (h1 : Hid (∀ x0 x1 x2 W, F x0 x1 x2 W → G x0 x1 x2 W) → goal) (h2 : ∀ x0 x1 x2 W, F x0 x1 x2 W → G x0 x1 x2 W) : goal := h1 h2
theorem memo4 {goal : Prop} (F : Nat → Nat → Nat → Nat → World → Prop) {G : Nat → Nat → Nat → Nat → World → Prop} (h1 : Hid (∀ x0 x1 x2 x3 W, F x0 x1 x2 x3 W → G x0 x1 x2 x3 W) → goal) (h2 : ∀ x0 x1 x2 x3 W, F x0 x1 x2 x3 W → G x0 x1 x2 x3 W) : goal := h1 h2
theorem memo5 {goal : Prop} (F : Nat → Nat → Nat → Nat → Nat → World → Prop) {G : Nat → Nat → Nat → Nat → Nat → World → Prop} (h1 : Hid (∀ x0 x1 x2 x3 x4 W, F x0 x1 x2 x3 x4 W → G x0 x1 x2 x3 x4 W) → goal) (h2 : ∀ x0 x1 x2 x3 x4 W, F x0 x1 x2 x3 x4 W → G x0 x1 x2 x3 x4 W) : goal := h1 h2
theorem memo6 {goal : Prop} (F : Nat → Nat → Nat → Nat → Nat → Nat → World → Prop) {G : Nat → Nat → Nat → Nat → Nat → Nat → World → Prop} (h1 : Hid (∀ x0 x1 x2 x3 x4 x5 W, F x0 x1 x2 x3 x4 x5 W → G x0 x1 x2 x3 x4 x5 W) → goal) (h2 : ∀ x0 x1 x2 x3 x4 x5 W, F x0 x1 x2 x3 x4 x5 W → G x0 x1 x2 x3 x4 x5 W) : goal := h1 h2
theorem memo7 {goal : Prop} (F : Nat → Nat → Nat → Nat → Nat → Nat → Nat → World → Prop) {G : Nat → Nat → Nat → Nat → Nat → Nat → Nat → World → Prop} (h1 : Hid (∀ x0 x1 x2 x3 x4 x5 x6 W, F x0 x1 x2 x3 x4 x5 x6 W → G x0 x1 x2 x3 x4 x5 x6 W) → goal) (h2 : ∀ x0 x1 x2 x3 x4 x5 x6 W, F x0 x1 x2 x3 x4 x5 x6 W → G x0 x1 x2 x3 x4 x5 x6 W) : goal := h1 h2
theorem memo8 {goal : Prop} (F : Nat → Nat → Nat → Nat → Nat → Nat → Nat → Nat → World → Prop) {G : Nat → Nat → Nat → Nat → Nat → Nat → Nat → Nat → World → Prop} (h1 : Hid (∀ x0 x1 x2 x3 x4 x5 x6 x7 W, F x0 x1 x2 x3 x4 x5 x6 x7 W → G x0 x1 x2 x3 x4 x5 x6 x7 W) → goal) (h2 : ∀ x0 x1 x2 x3 x4 x5 x6 x7 W, F x0 x1 x2 x3 x4 x5 x6 x7 W → G x0 x1 x2 x3 x4 x5 x6 x7 W) : goal := h1 h2
theorem memo9 {goal : Prop} (F : Nat → Nat → Nat → Nat → Nat → Nat → Nat → Nat → Nat → World → Prop) {G : Nat → Nat → Nat → Nat → Nat → Nat → Nat → Nat → Nat → World → Prop} (h1 : Hid (∀ x0 x1 x2 x3 x4 x5 x6 x7 x8 W, F x0 x1 x2 x3 x4 x5 x6 x7 x8 W → G x0 x1 x2 x3 x4 x5 x6 x7 x8 W) → goal) (h2 : ∀ x0 x1 x2 x3 x4 x5 x6 x7 x8 W, F x0 x1 x2 x3 x4 x5 x6 x7 x8 W → G x0 x1 x2 x3 x4 x5 x6 x7 x8 W) : goal := h1 h2
end MemoR
end Go.Proofs.Ytbecgngmpjajaaa
namespace Go.Proofs.Ytbecgngmpjajaaa
open Go.ChangeShapes Go.WideShapes Go.ChangeAt Go.RowKit
set_option linter.unusedVariables false
namespace LedR
open MemoR OwG LinR DocR
open RowG (MadeG Rws cellsAll hid_intro)
open EvtR (Pt After Reads gtrans)
open CatR (Blk Blk.new)
theorem ln_one (x : ByteArray) (y : Int) : ∀ u ∈ [Value.string x, Value.int .i64 y], u.oneCell' = true := by
  intro u hu
  simp at hu
  rcases hu with rfl | rfl <;> rfl
set_option maxRecDepth 100000 in
set_option maxHeartbeats 16000000 in
theorem idoc_in (g : Nat) (s : ByteArray) (o0 o1 o2 o3 : Option Nat) (a : ByteArray) (mo sq : Int) (C : Nat) (PH : Nat → Option Nat) (LH : Nat → List N) (hh : Nat → ByteArray) (ss : Nat → Int) (w : World) (hA : After g s o0 w)
    (r1 : Reads 39 g s o0 o1 (.string a)) (r2 : Reads 37 g s o1 o2 (.int .i64 mo)) (r3 : Reads 37 g s o2 o3 (.int .i64 sq))
    (rc2 : ∀ w, After g s o3 w → Calls Try.prog 20 #[.pointer (some ⟨g, 0, none⟩), .int .i64 6] w fun e w' => e = .returned (.int .i64 C) ∧ After g s (PH 0) w' ∧ w.grownBy w' (some g))
    (rh : ∀ k, ∃ om, Reads 39 g s (PH k) om (.string (hh k)) ∧ Reads 37 g s om (PH (k + 1)) (.int .i64 (ss k)))
    (hC : C ≤ 6) (hH0 : LH 0 = []) (hHM : ∀ k, LH (k + 1) = LH k ++ [⟨hh k, ss k⟩]) :
    Calls Try.prog 21 #[.pointer (some ⟨g, 0, none⟩)] w fun e w' => ∃ la lc, e = .returned (.agg #[.string a, .int .i64 mo, .int .i64 sq, .slice la C lc]) ∧ w'.ownsRow w.heap.size 54 2 (.slice la C lc) C (cellsAll N.cells (LH C)) ∧ After g s (PH C) w' ∧ w.grownBy w' (some g) := by
  obtain ⟨j0, gi, gz0, gz1, gz2⟩ := info_parts infoN
  have R1 := hid_intro r1
  have R2 := hid_intro r2
  have R3 := hid_intro r3
  have RC2 := hid_intro rc2
  have RH := hid_intro rh
  have HH0 := hid_intro hH0
  have HHM := hid_intro hHM
  have hgw : g < w.heap.size := hA.lt
  obtain ⟨W0, hW0⟩ : ∃ W0, W0 = w.alloc (.cells #[.string ⟨#[]⟩, .int .i64 0, .int .i64 0, .slice none 0 0] 29) := ⟨_, rfl⟩
  have HA0 : Hid (After g s o0 W0) := hid_intro (by rw [hW0]; exact hA.alloc _)
  have HG0 : Hid (w.grownBy W0 (some g)) := hid_intro (by rw [hW0]; exact World.grownBy_alloc w _ _)
  have HR0 : Hid (BlkW w.heap.size [.string ⟨#[]⟩, .int .i64 0, .int .i64 0, .slice none 0 0] W0) := hid_intro (by rw [hW0]; exact BlkW.new w [.string ⟨#[]⟩, .int .i64 0, .int .i64 0, .slice none 0 0] 29)
  have HW := hid_intro hW0
  clear r1 r2 r3 rc2 rh hH0 hHM hA hW0
  have gsz3 : 0 < 2 := by omega
  go_enter Try.func21, Try.ntmps21
  go_wp2_with fail
  rw [← HW.out]
  clear HW
  have HA := HA0
  have HG := HG0
  have HR := HR0
  clear HA0 HG0 HR0
  refine (R1.out _ HA.out).mono ?_
  rintro e q1 ⟨rfl, hA, hq⟩
  replace HA := hid_intro hA
  replace HG := hid_intro (gtrans HG.out hq)
  replace HR := hid_intro (blkW_grown HR.out hq (by simp; omega))
  clear hA hq
  go_wp2_with fail
  refine (R2.out _ HA.out).mono ?_
  rintro e q2 ⟨rfl, hA, hq⟩
  replace HA := hid_intro hA
  replace HG := hid_intro (gtrans HG.out hq)
  replace HR := hid_intro (blkW_grown HR.out hq (by simp; omega))
  clear hA hq
  go_wp2_with fail
  refine (R3.out _ HA.out).mono ?_
  rintro e q3 ⟨rfl, hA, hq⟩
  replace HA := hid_intro hA
  replace HG := hid_intro (gtrans HG.out hq)
  replace HR := hid_intro (blkW_grown HR.out hq (by simp; omega))
  clear hA hq
  obtain ⟨wA, hwA⟩ : ∃ z, z = q3.alloc (.cells #[.string a, .int .i64 mo, .int .i64 sq, .slice none 0 0] 29) := ⟨_, rfl⟩
  have HV : Hid (BlkW q3.heap.size [.string a, .int .i64 mo, .int .i64 sq, .slice none 0 0] wA) := hid_intro (by rw [hwA]; exact BlkW.new q3 [.string a, .int .i64 mo, .int .i64 sq, .slice none 0 0] 29)
  have hlo : w.heap.size < q3.heap.size := HR.out.1.1
  replace HA : Hid (After g s o3 wA) := hid_intro (by rw [hwA]; exact HA.out.alloc _)
  replace HG : Hid (w.grownBy wA (some g)) := hid_intro (by rw [hwA]; exact galloc HG.out _)
  replace HR : Hid (BlkW w.heap.size [.string ⟨#[]⟩, .int .i64 0, .int .i64 0, .slice none 0 0] wA) := hid_intro (by rw [hwA]; exact HR.out.below ((Below.refl _ _).alloc (Nat.le_refl _) _))
  have HW := hid_intro hwA
  obtain ⟨bV, hbV⟩ : ∃ z, z = q3.heap.size := ⟨_, rfl⟩
  rw [← hbV] at HV hlo
  have HBV := hid_intro hbV
  clear hwA hbV
  go_wp2_with fail
  rw [← HW.out, ← HBV.out]
  clear HW HBV
  refine (RC2.out _ HA.out).mono ?_
  rintro e wC ⟨rfl, hA, hq⟩
  replace HA := hid_intro hA
  replace HG := hid_intro (gtrans HG.out hq)
  replace HR := hid_intro (blkW_grown HR.out hq (by simp; omega))
  replace HV := hid_intro (blkW_grown HV.out hq (by simp; omega))
  clear hA hq
  go_wp2_with fail
  go_loopw [13] (fun z wr => ∃ (k : Nat) (ha : Option Addr) (hc : Nat), k ≤ C ∧ z = .int .i64 k ∧ Hid (After g s (PH k) wr) ∧ Hid (w.grownBy wr (some g)) ∧ Hid (BlkW w.heap.size [.string ⟨#[]⟩, .int .i64 0, .int .i64 0, .slice none 0 0] wr) ∧ Hid (BlkW bV [.string a, .int .i64 mo, .int .i64 sq, .slice ha k hc] wr) ∧ Hid (wr.ownsRow (bV + 1) 54 2 (.slice ha k hc) k (cellsAll N.cells (LH k)))) (fun z _ => C - (intOf z).toNat)
  case atStart => exact ⟨0, none, 0, by omega, rfl, HA, HG, HR, HV, hid_intro (by rw [HH0.out]; exact World.ownsRow_nil _ _ _ _)⟩
  case round =>
    clear HA HG HR HV
    obtain ⟨k, ha, hc, hk2, rfl, HA, HG, HR, HV, HO⟩ := hrel
    by_cases hlt3 : k < C
    · have hlt2 : (k : Int) < (C : Int) := by omega
      obtain ⟨om, rd1, rd2⟩ := RH.out k
      have RD1 := hid_intro rd1
      have RD2 := hid_intro rd2
      clear rd1 rd2
      have HLM := hid_intro (HHM.out k)
      generalize hh k = X at *
      generalize ss k = Y at *
      have sz1 : k + 1 ≤ maxLen := by unfold maxLen; omega
      have sz2 : (k + 1) * 24 ≤ 140737488355328 := by omega
      have hA0 := EvtR.After.below HA.out (Below.refl wr.heap.size wr).drew
      have hG0 := gtrans HG.out (EvtR.rgrown (Below.refl wr.heap.size wr).drew _)
      have hR0 := HR.out.below (Below.refl wr.heap.size wr).drew
      have hV0 := HV.out.below (Below.refl wr.heap.size wr).drew
      have hO0 := RowG.own_below HO.out (Below.refl wr.heap.size wr).drew
      have hbg : g < bV := by omega
      go_wp2_with fail
      refine wp_region_held_drew (S := (fun _ => True)) (by kernel_rfl) trivial (fun hHeld => ?_)
      generalize wr.drew = kd at *
      apply memo3 (fun bN sb sc W => (True) ∧ (After g s (PH (k + 1)) W) ∧ (w.grownBy W (some g)) ∧ (BlkW w.heap.size [.string ⟨#[]⟩, .int .i64 0, .int .i64 0, .slice none 0 0] W) ∧ (BlkW bV [.string a, .int .i64 mo, .int .i64 sq, .slice ha k hc] W) ∧ (W.ownsRow (bV + 1) 54 2 (.slice (some ⟨sb, 0, none⟩) (k + 1) sc) (k + 1) (cellsAll N.cells (LH (k + 1)))) ∧ True)
      intro N1_3_5_7_8
      apply memo1 (fun bN W => (True) ∧ (After g s (PH (k + 1)) W) ∧ (w.grownBy W (some g)) ∧ (BlkW w.heap.size [.string ⟨#[]⟩, .int .i64 0, .int .i64 0, .slice none 0 0] W) ∧ (BlkW bV [.string a, .int .i64 mo, .int .i64 sq, .slice ha k hc] W) ∧ (W.ownsRow (bV + 1) 54 2 (.slice ha k hc) k (cellsAll N.cells (LH k))) ∧ (∀ j u, ([.string X, .int .i64 Y] : List Value)[j]? = some u → W.cell? ((⟨bN, 0, none⟩ : Addr).add j) = some u) ∧ (bV < bN) ∧ True)
      intro N1_3_5_7
      apply memo0 (fun  W => (True) ∧ (After g s (PH (k + 1)) W) ∧ (w.grownBy W (some g)) ∧ (BlkW w.heap.size [.string ⟨#[]⟩, .int .i64 0, .int .i64 0, .slice none 0 0] W) ∧ (BlkW bV [.string a, .int .i64 mo, .int .i64 sq, .slice ha k hc] W) ∧ (W.ownsRow (bV + 1) 54 2 (.slice ha k hc) k (cellsAll N.cells (LH k))) ∧ True)
      intro N1_3_5
      apply memo1 (fun bN W => (True) ∧ (After g s (PH (k + 1)) W) ∧ (w.grownBy W (some g)) ∧ (BlkW w.heap.size [.string ⟨#[]⟩, .int .i64 0, .int .i64 0, .slice none 0 0] W) ∧ (BlkW bV [.string a, .int .i64 mo, .int .i64 sq, .slice ha k hc] W) ∧ (W.ownsRow (bV + 1) 54 2 (.slice ha k hc) k (cellsAll N.cells (LH k))) ∧ (∀ j u, ([.string X, .int .i64 Y] : List Value)[j]? = some u → W.cell? ((⟨bN, 0, none⟩ : Addr).add j) = some u) ∧ (bV < bN) ∧ True)
      intro N3_5_7
      apply memo0 (fun  W => (True) ∧ (After g s om W) ∧ (w.grownBy W (some g)) ∧ (BlkW w.heap.size [.string ⟨#[]⟩, .int .i64 0, .int .i64 0, .slice none 0 0] W) ∧ (BlkW bV [.string a, .int .i64 mo, .int .i64 sq, .slice ha k hc] W) ∧ (W.ownsRow (bV + 1) 54 2 (.slice ha k hc) k (cellsAll N.cells (LH k))) ∧ True)
      intro N1_3
      apply memo0 (fun  W => (True) ∧ (After g s (PH (k + 1)) W) ∧ (w.grownBy W (some g)) ∧ (BlkW w.heap.size [.string ⟨#[]⟩, .int .i64 0, .int .i64 0, .slice none 0 0] W) ∧ (BlkW bV [.string a, .int .i64 mo, .int .i64 sq, .slice ha k hc] W) ∧ (W.ownsRow (bV + 1) 54 2 (.slice ha k hc) k (cellsAll N.cells (LH k))) ∧ True)
      intro N3_5
      apply memo0 (fun  W => (True) ∧ (After g s (PH k) W) ∧ (w.grownBy W (some g)) ∧ (BlkW w.heap.size [.string ⟨#[]⟩, .int .i64 0, .int .i64 0, .slice none 0 0] W) ∧ (BlkW bV [.string a, .int .i64 mo, .int .i64 sq, .slice ha k hc] W) ∧ (W.ownsRow (bV + 1) 54 2 (.slice ha k hc) k (cellsAll N.cells (LH k))) ∧ True)
      intro N1
      apply memo0 (fun  W => (True) ∧ (After g s om W) ∧ (w.grownBy W (some g)) ∧ (BlkW w.heap.size [.string ⟨#[]⟩, .int .i64 0, .int .i64 0, .slice none 0 0] W) ∧ (BlkW bV [.string a, .int .i64 mo, .int .i64 sq, .slice ha k hc] W) ∧ (W.ownsRow (bV + 1) 54 2 (.slice ha k hc) k (cellsAll N.cells (LH k))) ∧ True)
      intro N3
      · refine wpAnyH_take (i := 0) (oi := { dst := some 15, op := Op.fieldAddr 29 (Operand.tmp 3) 3, type := 0, pos := "l09_ledger.go:172", after := #[], guard := none }) (v := ?_) rfl (by kernel_rfl) (by kernel_rfl) (by kernel_rfl) (fun _ _ _ h => h) (Or.inl ⟨by rfl, ?_⟩) (by assumption) ?_
        rotate_left
        · (intro w hSw; (try dsimp only at hSw); go_simp) <;> with_reducible rfl
        try simp only [Act.put, List.setIfInBounds_toArray, List.set_cons_zero, List.set_cons_succ]
        refine wpAnyH_take (i := 2) (oi := { dst := some 17, op := Op.move (Operand.tmp 0), type := 46, pos := "l09_ledger.go:172", after := #[], guard := none }) (v := ?_) rfl (by kernel_rfl) (by kernel_rfl) (by kernel_rfl) (fun _ _ _ h => h) (Or.inl ⟨by rfl, ?_⟩) (by assumption) ?_
        rotate_left
        · (intro w hSw; (try dsimp only at hSw); go_simp) <;> with_reducible rfl
        try simp only [Act.put, List.setIfInBounds_toArray, List.set_cons_zero, List.set_cons_succ]
        refine wpAnyH_take (i := 4) (oi := { dst := some 19, op := Op.move (Operand.tmp 0), type := 46, pos := "l09_ledger.go:172", after := #[], guard := none }) (v := ?_) rfl (by kernel_rfl) (by kernel_rfl) (by kernel_rfl) (fun _ _ _ h => h) (Or.inl ⟨by rfl, ?_⟩) (by assumption) ?_
        rotate_left
        · (intro w hSw; (try dsimp only at hSw); go_simp) <;> with_reducible rfl
        try simp only [Act.put, List.setIfInBounds_toArray, List.set_cons_zero, List.set_cons_succ]
        refine wpAnyH_ready (rs := [1, 3]) (by kernel_rfl) (by simp) ?_
        refine AllReadyH.cons (o := { dst := some 16, op := Op.load 27 (Operand.tmp 15), type := 27, pos := "l09_ledger.go:172", after := #[{ on := 0, ground := Ground.data }], guard := none }) rfl (fun K hK => ?_) (AllReadyH.cons (o := { dst := some 18, op := Op.call { callee := Callee.value (Operand.func 39), args := #[Operand.tmp 17], argTypes := #[46] }, type := 9, pos := "l09_ledger.go:172", after := #[{ on := 2, ground := Ground.data }], guard := none }) rfl (fun K hK => ?_) AllReadyH.nil)
        · have c6 := hV0.1.2 3 (by simp)
          have l6 := hV0.1.1
          simp only [List.getElem?_cons_zero, List.getElem?_cons_succ] at c6
          go_simp
          try go_wp2_with fail
          refine hK.out _ _ trivial (fun _ => ?_)
          clear hK K
          try simp only [Act.put, List.setIfInBounds_toArray, List.set_cons_zero, List.set_cons_succ]
          clear c6 l6
          exact N1.out  kd ⟨trivial, hA0, hG0, hR0, hV0, hO0, trivial⟩
        · go_simp
          go_at_call 39
          refine (RD1.out _ hA0).mono ?_
          rintro e q1 ⟨rfl, hA1, hq1⟩
          try go_wp2_with fail
          have hG1 := gtrans hG0 hq1
          have hR1 := blkW_grown hR0 hq1 (by simp; omega)
          have hV1 := blkW_grown hV0 hq1 (by simp; omega)
          have hO1 := own_keepG hO0 hq1 (by omega)
          refine hK.out _ _ trivial (fun _ => ?_)
          clear hK K
          try simp only [Act.put, List.setIfInBounds_toArray, List.set_cons_zero, List.set_cons_succ]
          exact N3.out  q1 ⟨trivial, hA1, hG1, hR1, hV1, hO1, trivial⟩
      · rintro  W ⟨hTr, hA0, hG0, hR0, hV0, hO0, _⟩
        refine wpAnyH_ready (rs := [1, 5]) (by kernel_rfl) (by simp) ?_
        refine AllReadyH.cons (o := { dst := some 16, op := Op.load 27 (Operand.tmp 15), type := 27, pos := "l09_ledger.go:172", after := #[{ on := 0, ground := Ground.data }], guard := none }) rfl (fun K hK => ?_) (AllReadyH.cons (o := { dst := some 20, op := Op.call { callee := Callee.value (Operand.func 37), args := #[Operand.tmp 19], argTypes := #[46] }, type := 2, pos := "l09_ledger.go:172", after := #[{ on := 4, ground := Ground.data }, { on := 3, ground := Ground.chain }], guard := none }) rfl (fun K hK => ?_) AllReadyH.nil)
        · have c6 := hV0.1.2 3 (by simp)
          have l6 := hV0.1.1
          simp only [List.getElem?_cons_zero, List.getElem?_cons_succ] at c6
          go_simp
          try go_wp2_with fail
          refine hK.out _ _ trivial (fun _ => ?_)
          clear hK K
          try simp only [Act.put, List.setIfInBounds_toArray, List.set_cons_zero, List.set_cons_succ]
          clear c6 l6
          exact N1_3.out  W ⟨trivial, hA0, hG0, hR0, hV0, hO0, trivial⟩
        · go_simp
          go_at_call 37
          refine (RD2.out _ hA0).mono ?_
          rintro e q1 ⟨rfl, hA1, hq1⟩
          try go_wp2_with fail
          have hG1 := gtrans hG0 hq1
          have hR1 := blkW_grown hR0 hq1 (by simp; omega)
          have hV1 := blkW_grown hV0 hq1 (by simp; omega)
          have hO1 := own_keepG hO0 hq1 (by omega)
          refine hK.out _ _ trivial (fun _ => ?_)
          clear hK K
          try simp only [Act.put, List.setIfInBounds_toArray, List.set_cons_zero, List.set_cons_succ]
          refine wpAnyH_take (i := 6) (oi := { dst := some 21, op := Op.build 54 #[(0, Operand.tmp 18), (1, Operand.tmp 20)], type := 54, pos := "l09_ledger.go:172", after := #[{ on := 3, ground := Ground.data }, { on := 5, ground := Ground.data }], guard := none }) (v := ?_) rfl (by kernel_rfl) (by kernel_rfl) (by kernel_rfl) (fun _ _ _ h => h) (Or.inl ⟨by rfl, ?_⟩) (by assumption) ?_
          rotate_left
          · (intro w hSw; (try dsimp only at hSw); go_simp) <;> with_reducible rfl
          try simp only [Act.put, List.setIfInBounds_toArray, List.set_cons_zero, List.set_cons_succ]
          exact N3_5.out  q1 ⟨trivial, hA1, hG1, hR1, hV1, hO1, trivial⟩
      · rintro  W ⟨hTr, hA0, hG0, hR0, hV0, hO0, _⟩
        refine wpAnyH_ready (rs := [3]) (by kernel_rfl) (by simp) ?_
        refine AllReadyH.cons (o := { dst := some 18, op := Op.call { callee := Callee.value (Operand.func 39), args := #[Operand.tmp 17], argTypes := #[46] }, type := 9, pos := "l09_ledger.go:172", after := #[{ on := 2, ground := Ground.data }], guard := none }) rfl (fun K hK => ?_) AllReadyH.nil
        go_simp
        go_at_call 39
        refine (RD1.out _ hA0).mono ?_
        rintro e q1 ⟨rfl, hA1, hq1⟩
        try go_wp2_with fail
        have hG1 := gtrans hG0 hq1
        have hR1 := blkW_grown hR0 hq1 (by simp; omega)
        have hV1 := blkW_grown hV0 hq1 (by simp; omega)
        have hO1 := own_keepG hO0 hq1 (by omega)
        refine hK.out _ _ trivial (fun _ => ?_)
        clear hK K
        try simp only [Act.put, List.setIfInBounds_toArray, List.set_cons_zero, List.set_cons_succ]
        exact N1_3.out  q1 ⟨trivial, hA1, hG1, hR1, hV1, hO1, trivial⟩
      · rintro  W ⟨hTr, hA0, hG0, hR0, hV0, hO0, _⟩
        refine wpAnyH_ready (rs := [1, 7]) (by kernel_rfl) (by simp) ?_
        refine AllReadyH.cons (o := { dst := some 16, op := Op.load 27 (Operand.tmp 15), type := 27, pos := "l09_ledger.go:172", after := #[{ on := 0, ground := Ground.data }], guard := none }) rfl (fun K hK => ?_) (AllReadyH.cons (o := { dst := some 22, op := Op.buildSlice 27 1 #[(0, Operand.tmp 21)], type := 27, pos := "l09_ledger.go:172", after := #[{ on := 6, ground := Ground.data }], guard := none }) rfl (fun K hK => ?_) AllReadyH.nil)
        · have c6 := hV0.1.2 3 (by simp)
          have l6 := hV0.1.1
          simp only [List.getElem?_cons_zero, List.getElem?_cons_succ] at c6
          go_simp
          try go_wp2_with fail
          refine hK.out _ _ trivial (fun _ => ?_)
          clear hK K
          try simp only [Act.put, List.setIfInBounds_toArray, List.set_cons_zero, List.set_cons_succ]
          clear c6 l6
          exact N1_3_5.out  W ⟨trivial, hA0, hG0, hR0, hV0, hO0, trivial⟩
        · go_simp
          try go_wp2_with fail
          have hA1 := hA0.alloc (Obj.cells #[.string X, .int .i64 Y] 54)
          have hG1 := galloc hG0 (Obj.cells #[.string X, .int .i64 Y] 54)
          have hR1 := hR0.below ((Below.refl W.heap.size W).alloc (Nat.le_refl _) (Obj.cells #[.string X, .int .i64 Y] 54))
          have hV1 := hV0.below ((Below.refl W.heap.size W).alloc (Nat.le_refl _) (Obj.cells #[.string X, .int .i64 Y] 54))
          have hO1 := RowG.own_below hO0 ((Below.refl W.heap.size W).alloc (Nat.le_refl _) (Obj.cells #[.string X, .int .i64 Y] 54))
          have hnw : ∀ j u, ([.string X, .int .i64 Y] : List Value)[j]? = some u → (W.alloc (Obj.cells #[.string X, .int .i64 Y] 54)).cell? ((⟨W.heap.size, 0, none⟩ : Addr).add j) = some u := new_cells W [.string X, .int .i64 Y] 54
          have hlb : bV < W.heap.size := hV0.1.1
          refine hK.out _ _ trivial (fun _ => ?_)
          clear hK K
          try simp only [Act.put, List.setIfInBounds_toArray, List.set_cons_zero, List.set_cons_succ]
          obtain ⟨bN, hbN⟩ : ∃ z, z = W.heap.size := ⟨_, rfl⟩
          rw [← hbN] at hnw hlb ⊢
          obtain ⟨k1, hk1⟩ : ∃ z, z = W.alloc (Obj.cells #[.string X, .int .i64 Y] 54) := ⟨_, rfl⟩
          rw [← hk1] at hnw hA1 hG1 hR1 hV1 hO1 ⊢
          exact N3_5_7.out bN k1 ⟨trivial, hA1, hG1, hR1, hV1, hO1, hnw, hlb, trivial⟩
      · rintro  W ⟨hTr, hA0, hG0, hR0, hV0, hO0, _⟩
        refine wpAnyH_ready (rs := [5]) (by kernel_rfl) (by simp) ?_
        refine AllReadyH.cons (o := { dst := some 20, op := Op.call { callee := Callee.value (Operand.func 37), args := #[Operand.tmp 19], argTypes := #[46] }, type := 2, pos := "l09_ledger.go:172", after := #[{ on := 4, ground := Ground.data }, { on := 3, ground := Ground.chain }], guard := none }) rfl (fun K hK => ?_) AllReadyH.nil
        go_simp
        go_at_call 37
        refine (RD2.out _ hA0).mono ?_
        rintro e q1 ⟨rfl, hA1, hq1⟩
        try go_wp2_with fail
        have hG1 := gtrans hG0 hq1
        have hR1 := blkW_grown hR0 hq1 (by simp; omega)
        have hV1 := blkW_grown hV0 hq1 (by simp; omega)
        have hO1 := own_keepG hO0 hq1 (by omega)
        refine hK.out _ _ trivial (fun _ => ?_)
        clear hK K
        try simp only [Act.put, List.setIfInBounds_toArray, List.set_cons_zero, List.set_cons_succ]
        refine wpAnyH_take (i := 6) (oi := { dst := some 21, op := Op.build 54 #[(0, Operand.tmp 18), (1, Operand.tmp 20)], type := 54, pos := "l09_ledger.go:172", after := #[{ on := 3, ground := Ground.data }, { on := 5, ground := Ground.data }], guard := none }) (v := ?_) rfl (by kernel_rfl) (by kernel_rfl) (by kernel_rfl) (fun _ _ _ h => h) (Or.inl ⟨by rfl, ?_⟩) (by assumption) ?_
        rotate_left
        · (intro w hSw; (try dsimp only at hSw); go_simp) <;> with_reducible rfl
        try simp only [Act.put, List.setIfInBounds_toArray, List.set_cons_zero, List.set_cons_succ]
        exact N1_3_5.out  q1 ⟨trivial, hA1, hG1, hR1, hV1, hO1, trivial⟩
      · rintro bN W ⟨hTr, hA0, hG0, hR0, hV0, hO0, hnw, hlb, _⟩
        refine wpAnyH_ready (rs := [1]) (by kernel_rfl) (by simp) ?_
        refine AllReadyH.cons (o := { dst := some 16, op := Op.load 27 (Operand.tmp 15), type := 27, pos := "l09_ledger.go:172", after := #[{ on := 0, ground := Ground.data }], guard := none }) rfl (fun K hK => ?_) AllReadyH.nil
        have c6 := hV0.1.2 3 (by simp)
        have l6 := hV0.1.1
        simp only [List.getElem?_cons_zero, List.getElem?_cons_succ] at c6
        go_simp
        try go_wp2_with fail
        refine hK.out _ _ trivial (fun _ => ?_)
        clear hK K
        try simp only [Act.put, List.setIfInBounds_toArray, List.set_cons_zero, List.set_cons_succ]
        clear c6 l6
        exact N1_3_5_7.out bN W ⟨trivial, hA0, hG0, hR0, hV0, hO0, hnw, hlb, trivial⟩
      · rintro  W ⟨hTr, hA0, hG0, hR0, hV0, hO0, _⟩
        refine wpAnyH_ready (rs := [7]) (by kernel_rfl) (by simp) ?_
        refine AllReadyH.cons (o := { dst := some 22, op := Op.buildSlice 27 1 #[(0, Operand.tmp 21)], type := 27, pos := "l09_ledger.go:172", after := #[{ on := 6, ground := Ground.data }], guard := none }) rfl (fun K hK => ?_) AllReadyH.nil
        go_simp
        try go_wp2_with fail
        have hA1 := hA0.alloc (Obj.cells #[.string X, .int .i64 Y] 54)
        have hG1 := galloc hG0 (Obj.cells #[.string X, .int .i64 Y] 54)
        have hR1 := hR0.below ((Below.refl W.heap.size W).alloc (Nat.le_refl _) (Obj.cells #[.string X, .int .i64 Y] 54))
        have hV1 := hV0.below ((Below.refl W.heap.size W).alloc (Nat.le_refl _) (Obj.cells #[.string X, .int .i64 Y] 54))
        have hO1 := RowG.own_below hO0 ((Below.refl W.heap.size W).alloc (Nat.le_refl _) (Obj.cells #[.string X, .int .i64 Y] 54))
        have hnw : ∀ j u, ([.string X, .int .i64 Y] : List Value)[j]? = some u → (W.alloc (Obj.cells #[.string X, .int .i64 Y] 54)).cell? ((⟨W.heap.size, 0, none⟩ : Addr).add j) = some u := new_cells W [.string X, .int .i64 Y] 54
        have hlb : bV < W.heap.size := hV0.1.1
        refine hK.out _ _ trivial (fun _ => ?_)
        clear hK K
        try simp only [Act.put, List.setIfInBounds_toArray, List.set_cons_zero, List.set_cons_succ]
        obtain ⟨bN, hbN⟩ : ∃ z, z = W.heap.size := ⟨_, rfl⟩
        rw [← hbN] at hnw hlb ⊢
        obtain ⟨k1, hk1⟩ : ∃ z, z = W.alloc (Obj.cells #[.string X, .int .i64 Y] 54) := ⟨_, rfl⟩
        rw [← hk1] at hnw hA1 hG1 hR1 hV1 hO1 ⊢
        exact N1_3_5_7.out bN k1 ⟨trivial, hA1, hG1, hR1, hV1, hO1, hnw, hlb, trivial⟩
      · rintro bN W ⟨hTr, hA0, hG0, hR0, hV0, hO0, hnw, hlb, _⟩
        refine wpAnyH_ready (rs := [8]) (by kernel_rfl) (by simp) ?_
        refine AllReadyH.cons (o := { dst := some 23, op := Op.call { callee := Callee.builtin Builtin.append, args := #[Operand.tmp 16, Operand.tmp 22], argTypes := #[27, 27] }, type := 27, pos := "l09_ledger.go:172", after := #[{ on := 1, ground := Ground.data }, { on := 7, ground := Ground.data }, { on := 5, ground := Ground.chain }], guard := none }) rfl (fun K hK => ?_) AllReadyH.nil
        refine DocR.step_append_own rfl _ _ 27 rfl (bV + 1) 54 j0 (.agg #[.string ⟨#[]⟩, .int .i64 0]) 2 24 Try.underlying27 gi gz0 gz1 gz2 rfl gsz3 _ _ _ rfl hO0 ⟨bN, 0, none⟩ 1 1 [.string X, .int .i64 Y] rfl rfl hnw (ln_one X Y) sz1 sz2 (hV0.1.1) ?_
        intro v9 w9 hown hgrow hne
        have hA1 := after_grown hA0 hgrow (fun e => by have := (hO0.lt _ e.symm).1; omega)
        have hG1 := gnewR hG0 hgrow (fun X e => by have := (hO0.lt _ e).1; omega)
        have hR1 := blkW_grown hR0 hgrow (fun e => by have := (hO0.lt _ e.symm).1; omega)
        have hV1 := blkW_grown hV0 hgrow (fun e => by have := (hO0.lt _ e.symm).1; omega)
        have hO1 : w9.ownsRow (bV + 1) 54 2 v9 (k + 1) (cellsAll N.cells (LH (k + 1))) := by rw [HLM.out, cellsAll_snoc]; exact hown
        obtain ⟨sb, sc, rfl⟩ := own_form hO1
        clear hown hgrow hne hnw
        refine hK.out _ _ trivial (fun _ => ?_)
        clear hK K
        try simp only [Act.put, List.setIfInBounds_toArray, List.set_cons_zero, List.set_cons_succ]
        refine wpAnyH_take (i := 9) (oi := { dst := some 24, op := Op.fieldAddr 29 (Operand.tmp 3) 3, type := 0, pos := "l09_ledger.go:172", after := #[{ on := 0, ground := Ground.phase }, { on := 1, ground := Ground.phase }, { on := 2, ground := Ground.phase }, { on := 3, ground := Ground.phase }, { on := 4, ground := Ground.phase }, { on := 5, ground := Ground.phase }, { on := 6, ground := Ground.phase }, { on := 7, ground := Ground.phase }, { on := 8, ground := Ground.phase }], guard := none }) (v := ?_) rfl (by kernel_rfl) (by kernel_rfl) (by kernel_rfl) (fun _ _ _ h => h) (Or.inl ⟨by rfl, ?_⟩) (by assumption) ?_
        rotate_left
        · (intro w hSw; (try dsimp only at hSw); go_simp) <;> with_reducible rfl
        try simp only [Act.put, List.setIfInBounds_toArray, List.set_cons_zero, List.set_cons_succ]
        exact N1_3_5_7_8.out bN sb sc w9 ⟨trivial, hA1, hG1, hR1, hV1, hO1, trivial⟩
      · rintro bN sb sc W ⟨hTr, hA0, hG0, hR0, hV0, hO0, _⟩
        refine wpAnyH_ready (rs := [10]) (by kernel_rfl) (by simp) ?_
        refine AllReadyH.cons (o := { dst := none, op := Op.store 27 (Operand.tmp 24) (Operand.tmp 23), type := 0, pos := "l09_ledger.go:172", after := #[{ on := 9, ground := Ground.data }, { on := 8, ground := Ground.data }, { on := 8, ground := Ground.chain }, { on := 0, ground := Ground.phase }, { on := 1, ground := Ground.phase }, { on := 2, ground := Ground.phase }, { on := 3, ground := Ground.phase }, { on := 4, ground := Ground.phase }, { on := 5, ground := Ground.phase }, { on := 6, ground := Ground.phase }, { on := 7, ground := Ground.phase }, { on := 8, ground := Ground.phase }], guard := none }) rfl (fun K hK => ?_) AllReadyH.nil
        have c6 := hV0.1.2 3 (by simp)
        have l6 := hV0.1.1
        have f6 := hV0.2 3 (by simp)
        simp only [List.getElem?_cons_zero, List.getElem?_cons_succ] at c6
        go_simp
        try go_wp2_with fail
        have hg := RowG.grown_set W bV 3 (.slice (some ⟨sb, 0, none⟩) (k + 1) sc)
        have hA9 := after_grown hA0 hg (by simp; omega)
        have hG9 := gnewG hG0 hg (by omega)
        have hR9 := blkW_grown hR0 hg (by simp; omega)
        have hV9 := hV0.set 3 (.slice (some ⟨sb, 0, none⟩) (k + 1) sc) (by simp)
        have hO9 := own_keepG hO0 hg (by omega)
        simp only [List.set_cons_zero, List.set_cons_succ] at hV9
        refine hK.out _ _ trivial (fun _ => ?_)
        clear hK K
        try simp only [Act.put, List.setIfInBounds_toArray, List.set_cons_zero, List.set_cons_succ]
        generalize (W.setCell ⟨bV, 3, none⟩ (.slice (some ⟨sb, 0, none⟩) (k + 1) sc)) = kk at *
        refine wpAnyH_done (by kernel_rfl) ?_ _
        have HA9 := hid_intro hA9
        have HG9 := hid_intro hG9
        have HR9 := hid_intro hR9
        have HV9 := hid_intro hV9
        have HO9 := hid_intro hO9
        clear hA9 hG9 hR9 hV9 hO9 hg c6 l6 f6
        go_wp2_with fail
        go_roundw
        case rel => exact ⟨k + 1, some ⟨sb, 0, none⟩, sc, by omega, by go_num, HA9, HG9, HR9, HV9, HO9⟩
        case measure => simp [intOf]; omega
    · have hlt2 : ¬ (k : Int) < (C : Int) := by omega
      obtain rfl : k = C := by omega
      obtain ⟨⟨vl, vk⟩, _⟩ := HV.out
      have v0 : wr.cell? ⟨bV, 0, none⟩ = some (.string a) := vk 0 (by simp)
      have v1 : wr.cell? ⟨bV, 1, none⟩ = some (.int .i64 mo) := vk 1 (by simp)
      have v2 : wr.cell? ⟨bV, 2, none⟩ = some (.int .i64 sq) := vk 2 (by simp)
      have v3 : wr.cell? ⟨bV, 3, none⟩ = some (.slice ha k hc) := vk 3 (by simp)
      obtain ⟨⟨rl, rk⟩, rf⟩ := HR.out
      have p0 : wr.cell? ⟨w.heap.size, 0, none⟩ = some (.string ⟨#[]⟩) := rk 0 (by simp)
      have f0 : wr.frozen? ⟨w.heap.size, 0, none⟩ = false := rf 0 (by simp)
      have p1 : wr.cell? ⟨w.heap.size, 1, none⟩ = some (.int .i64 0) := rk 1 (by simp)
      have f1 : wr.frozen? ⟨w.heap.size, 1, none⟩ = false := rf 1 (by simp)
      have p2 : wr.cell? ⟨w.heap.size, 2, none⟩ = some (.int .i64 0) := rk 2 (by simp)
      have f2 : wr.frozen? ⟨w.heap.size, 2, none⟩ = false := rf 2 (by simp)
      have p3 : wr.cell? ⟨w.heap.size, 3, none⟩ = some (.slice none 0 0) := rk 3 (by simp)
      have f3 : wr.frozen? ⟨w.heap.size, 3, none⟩ = false := rf 3 (by simp)
      have hg := StR.stL_grown w.heap.size [.string a, .int .i64 mo, .int .i64 sq, .slice ha k hc] 0 wr
      have HA9 := hid_intro (after_grown HA.out hg (by simp; omega))
      have HG9 := hid_intro (gnewG HG.out hg (Nat.le_refl _))
      have HO9 := hid_intro (own_keepG HO.out hg (by omega))
      simp only [StR.stL, Nat.zero_add, Nat.reduceAdd] at HA9 HG9 HO9
      clear vk rk rf hg HA HG HR HV HO
      go_wp2_with fail
      refine bodyPost_ret (v := .agg #[.string a, .int .i64 mo, .int .i64 sq, .slice ha k hc]) (by simp [results, Try.results21, go_sem, p0, p1, p2, p3]) rfl ⟨_, _, rfl, OwG.own_low HO9.out (by omega), HA9.out, HG9.out⟩
end LedR
end Go.Proofs.Ytbecgngmpjajaaa
namespace Go.Proofs.Ytbecgngmpjajaaa
open Go.ChangeShapes Go.WideShapes Go.ChangeAt Go.RowKit
set_option linter.unusedVariables false
namespace SpR
open EvtR (rT pT rN pN rC pC rC_le txtAt txtAt_back txtB cut_two cut_size rT_size)
open NumsR (numAt numAt_back I64)
open NumR (numB numB_size)
open JoinR (joinB)
open DocR (joinB_app joinB_one)
/-- A text's bytes. -/
def txB (t : ByteArray) : ByteArray := numB t.size ++ t
/-- These bytes are spelled by these parts. -/
def Sp (s : ByteArray) (p q : Nat) (L : List ByteArray) : Prop := p ≤ q ∧ q ≤ s.size ∧ s.extract p q = joinB L
theorem sp_nil {s : ByteArray} {p : Nat} (h : p ≤ s.size) : Sp s p p [] := ⟨Nat.le_refl _, h, by
  apply ByteArray.ext
  simp [joinB]⟩
theorem sp_app {s : ByteArray} {p q r : Nat} {L L' : List ByteArray} (h : Sp s p q L) (h' : Sp s q r L') : Sp s p r (L ++ L') :=
  ⟨Nat.le_trans h.1 h'.1, h'.2.1, by rw [cut_two s p q r h.1 h'.1, h.2.2, h'.2.2, joinB_app]⟩
theorem sp_one {s : ByteArray} {p q : Nat} {L : List ByteArray} (h : Sp s p q L) : Sp s p q [joinB L] := ⟨h.1, h.2.1, by rw [joinB_one]; exact h.2.2⟩
theorem sp_txt {s : ByteArray} {o : Option Nat} {q : Nat} (h : pT s o = some q) : ∃ p, o = some p ∧ Sp s p q [txB (rT s o)] ∧ p < q := by
  cases o with
  | none => cases h
  | some p =>
    unfold pT at h
    simp only [Option.bind_some, Option.map_eq_some_iff] at h
    obtain ⟨⟨t, r⟩, h1, rfl⟩ := h
    have e : rT s (some p) = t := by unfold rT; simp [h1]
    obtain ⟨b1, b2, b3, b4⟩ := txtAt_back h1
    refine ⟨p, rfl, ⟨Nat.le_of_lt b2, b3, ?_⟩, b2⟩
    rw [e, b4, joinB_one]
    rfl
theorem sp_num {s : ByteArray} {o : Option Nat} {q : Nat} (h : pN s o = some q) : ∃ p, o = some p ∧ Sp s p q [numB (rN s o)] ∧ p < q := by
  cases o with
  | none => cases h
  | some p =>
    unfold pN at h
    simp only [Option.bind_some, Option.map_eq_some_iff] at h
    obtain ⟨⟨n, r⟩, h1, rfl⟩ := h
    have e : rN s (some p) = n := by unfold rN; simp [h1]
    obtain ⟨b1, b2, b3, b4⟩ := numAt_back h1
    refine ⟨p, rfl, ⟨Nat.le_of_lt b2, b3, ?_⟩, b2⟩
    rw [e, b4, joinB_one]
theorem sp_cnt {s : ByteArray} {o : Option Nat} {M q : Nat} (h : pC s o M = some q) : ∃ p, o = some p ∧ Sp s p q [numB (rC s o M)] ∧ p < q := by
  unfold pC at h
  split at h
  · rename_i k
    obtain ⟨p, e, h1, h2⟩ := sp_num h
    refine ⟨p, e, ?_, h2⟩
    have e2 : ((rC s o M : Nat) : Int) = rN s o := by
      unfold rC
      rw [if_pos k]
      omega
    rw [e2]
    exact h1
  · cases h
theorem cut_whole (s : ByteArray) : s.extract 0 s.size = s := by
  apply ByteArray.ext
  rw [ByteArray.data_extract]
  exact Array.extract_size
theorem rN_i64 (s : ByteArray) (o : Option Nat) : I64 (rN s o) := by
  unfold rN
  cases h : o.bind (numAt s) with
  | none => exact ⟨by simp, by simp⟩
  | some x =>
    obtain ⟨n, q⟩ := x
    obtain ⟨p, rfl, hp⟩ := Option.bind_eq_some_iff.1 h
    simpa using (numAt_back hp).1
theorem pC_none (s : ByteArray) (M : Nat) : pC s none M = none := by
  unfold pC
  split <;> rfl
end SpR
end Go.Proofs.Ytbecgngmpjajaaa
namespace Go.Proofs.Ytbecgngmpjajaaa
open Go.ChangeShapes Go.WideShapes Go.ChangeAt Go.RowKit
set_option linter.unusedVariables false
namespace LedR
open LinR NetR DocR
open EvtR (rT pT rN pN rC pC rC_le rT_size cut_size)
open NumR (numB)
open JoinR (joinB)
open SpR (Sp sp_nil sp_app sp_one sp_txt sp_num sp_cnt cut_whole rN_i64 pC_none)
/-- So many lines read, and the place behind them. -/
def lnsR (s : ByteArray) : Option Nat → Nat → List N × Option Nat
  | o, 0 => ([], o)
  | o, k + 1 => (⟨rT s o, rN s (pT s o)⟩ :: (lnsR s (pN s (pT s o)) k).1, (lnsR s (pN s (pT s o)) k).2)
theorem lnsR_len (s : ByteArray) : ∀ (k : Nat) (o : Option Nat), (lnsR s o k).1.length = k
  | 0, _ => rfl
  | k + 1, o => by simp [lnsR, lnsR_len s k]
theorem lnsR_none (s : ByteArray) : ∀ k : Nat, (lnsR s none k).2 = none
  | 0 => rfl
  | k + 1 => by
    show (lnsR s (pN s (pT s none)) k).2 = none
    exact lnsR_none s k
theorem lnsR_snoc (s : ByteArray) : ∀ (k : Nat) (o : Option Nat), lnsR s o (k + 1) = ((lnsR s o k).1 ++ [⟨rT s (lnsR s o k).2, rN s (pT s (lnsR s o k).2)⟩], pN s (pT s (lnsR s o k).2))
  | 0, _ => rfl
  | k + 1, o => by
    have h := lnsR_snoc s k (pN s (pT s o))
    show ((⟨rT s o, rN s (pT s o)⟩ : N) :: (lnsR s (pN s (pT s o)) (k + 1)).1, (lnsR s (pN s (pT s o)) (k + 1)).2) = _
    rw [h]
    rfl
theorem lnsR_size (s : ByteArray) : ∀ (k : Nat) (o : Option Nat), ∀ e ∈ (lnsR s o k).1, e.i.size ≤ 8000
  | 0, _, e, h => by cases h
  | k + 1, o, e, h => by
    rcases List.mem_cons.1 h with rfl | h
    · exact rT_size s o
    · exact lnsR_size s k _ e h
theorem sp_lns (s : ByteArray) : ∀ (k : Nat) (o : Option Nat) (q : Nat), (∀ p, o = some p → p ≤ s.size) → (lnsR s o k).2 = some q → ∃ p, o = some p ∧ Sp s p q ((lnsR s o k).1.flatMap lnP)
  | 0, o, q, hp, h => ⟨q, h, sp_nil (hp q h)⟩
  | k + 1, o, q, hp, h => by
    have h1 : (lnsR s (pN s (pT s o)) k).2 = some q := h
    obtain ⟨r, e, h2⟩ := sp_lns s k (pN s (pT s o)) q (fun p e => by obtain ⟨_, _, h3, _⟩ := sp_num e; exact h3.2.1) h1
    obtain ⟨p1, e1, h3, _⟩ := sp_num e
    obtain ⟨p, e2, h4, _⟩ := sp_txt e1
    refine ⟨p, e2, ?_⟩
    have := sp_app h4 (sp_app h3 h2)
    exact this
/-- The document that is read, and the place behind it. -/
def dO3 (s : ByteArray) (o : Option Nat) : Option Nat := pN s (pN s (pT s o))
def dC (s : ByteArray) (o : Option Nat) : Nat := rC s (dO3 s o) 6
def dO4 (s : ByteArray) (o : Option Nat) : Option Nat := pC s (dO3 s o) 6
def docR (s : ByteArray) (o : Option Nat) : D := ⟨rT s o, rN s (pT s o), rN s (pN s (pT s o)), (lnsR s (dO4 s o) (dC s o)).1⟩
def docP (s : ByteArray) (o : Option Nat) : Option Nat := (lnsR s (dO4 s o) (dC s o)).2
theorem docR_len (s : ByteArray) (o : Option Nat) : (docR s o).ls.length = dC s o := lnsR_len s _ _
theorem docP_none (s : ByteArray) : docP s none = none := by
  unfold docP dO4
  rw [show dO3 s none = none from rfl, pC_none]
  exact lnsR_none s _
theorem docR_sm (s : ByteArray) (o : Option Nat) : (docR s o).Sm := by
  refine ⟨?_, ?_, fun e he => ?_⟩
  · have := rT_size s o
    show (rT s o).size ≤ _
    omega
  · rw [docR_len]
    have := rC_le s (dO3 s o) 6
    unfold dC
    omega
  · have := lnsR_size s _ _ e he
    omega
theorem docR_wf (s : ByteArray) (o : Option Nat) : (Lit.int .i64 (docR s o).mo).wf = true := by
  have := rN_i64 s (pT s o)
  unfold NumsR.I64 at this
  have e : (docR s o).mo = rN s (pT s o) := rfl
  rw [e]
  generalize rN s (pT s o) = n at *
  simp only [Lit.wf, IntKind.min, IntKind.max, IntKind.signed, IntKind.bits, Bool.and_eq_true, decide_eq_true_eq, if_true]
  omega
theorem sp_doc {s : ByteArray} {o : Option Nat} {q : Nat} (h : docP s o = some q) : ∃ p, o = some p ∧ Sp s p q [dBy (docR s o)] ∧ p < q := by
  obtain ⟨p5, e5, h5⟩ := sp_lns s _ _ q (fun p e => by obtain ⟨_, _, h3, _⟩ := sp_cnt e; exact h3.2.1) h
  obtain ⟨p4, e4, h4, _⟩ := sp_cnt e5
  obtain ⟨p3, e3, h3, _⟩ := sp_num e4
  obtain ⟨p2, e2, h2, _⟩ := sp_num e3
  obtain ⟨p1, e1, h1, l1⟩ := sp_txt e2
  have hh := sp_app h1 (sp_app h2 (sp_app h3 (sp_app h4 h5)))
  have a2 := h2.1
  have a3 := h3.1
  have a4 := h4.1
  have a5 := h5.1
  refine ⟨p1, e1, ?_, by omega⟩
  have e : dBy (docR s o) = joinB ([SpR.txB (rT s o)] ++ ([numB (rN s (pT s o))] ++ ([numB (rN s (pN s (pT s o)))] ++ ([numB (dC s o)] ++ (lnsR s (dO4 s o) (dC s o)).1.flatMap lnP)))) := by
    unfold dBy bP
    rw [List.take_length, docR_len]
    rfl
  rw [e]
  exact sp_one hh
/-- So many documents read, and the place behind them. -/
def docsR (s : ByteArray) : Option Nat → Nat → List D × Option Nat
  | o, 0 => ([], o)
  | o, k + 1 => (docR s o :: (docsR s (docP s o) k).1, (docsR s (docP s o) k).2)
theorem docsR_len (s : ByteArray) : ∀ (k : Nat) (o : Option Nat), (docsR s o k).1.length = k
  | 0, _ => rfl
  | k + 1, o => by simp [docsR, docsR_len s k]
theorem docsR_snoc (s : ByteArray) : ∀ (k : Nat) (o : Option Nat), docsR s o (k + 1) = ((docsR s o k).1 ++ [docR s (docsR s o k).2], docP s (docsR s o k).2)
  | 0, _ => rfl
  | k + 1, o => by
    have h := docsR_snoc s k (docP s o)
    show (docR s o :: (docsR s (docP s o) (k + 1)).1, (docsR s (docP s o) (k + 1)).2) = _
    rw [h]
    rfl
theorem docsR_all {P : D → Prop} (s : ByteArray) (hP : ∀ o, P (docR s o)) : ∀ (k : Nat) (o : Option Nat), ∀ d ∈ (docsR s o k).1, P d
  | 0, _, d, h => by cases h
  | k + 1, o, d, h => by
    rcases List.mem_cons.1 h with rfl | h
    · exact hP o
    · exact docsR_all s hP k _ d h
theorem sp_docs (s : ByteArray) : ∀ (k : Nat) (o : Option Nat) (q : Nat), (∀ p, o = some p → p ≤ s.size) → (docsR s o k).2 = some q → ∃ p, o = some p ∧ Sp s p q ((docsR s o k).1.map dBy)
  | 0, o, q, hp, h => ⟨q, h, sp_nil (hp q h)⟩
  | k + 1, o, q, hp, h => by
    have h1 : (docsR s (docP s o) k).2 = some q := h
    obtain ⟨r, e, h2⟩ := sp_docs s k (docP s o) q (fun p e => by obtain ⟨_, _, h3, _⟩ := sp_doc e; exact h3.2.1) h1
    obtain ⟨p, e2, h3, _⟩ := sp_doc e
    exact ⟨p, e2, sp_app h3 h2⟩
def nD (s : ByteArray) : Nat := rC s (some 0) 30
def oD0 (s : ByteArray) : Option Nat := pC s (some 0) 30
def dsR (s : ByteArray) : List D := (docsR s (oD0 s) (nD s)).1
def oDE (s : ByteArray) : Option Nat := (docsR s (oD0 s) (nD s)).2
theorem dsR_len (s : ByteArray) : (dsR s).length = nD s := docsR_len s _ _
theorem dsR_le (s : ByteArray) : (dsR s).length ≤ 30 := by rw [dsR_len]; exact rC_le s _ 30
theorem led_back {s : ByteArray} {q : Nat} (h : oDE s = some q) : q ≤ s.size ∧ 0 < q ∧ s.extract 0 q = lBy (dsR s) := by
  obtain ⟨p1, e1, h1⟩ := sp_docs s _ _ q (fun p e => by obtain ⟨_, _, h3, _⟩ := sp_cnt e; exact h3.2.1) h
  obtain ⟨p0, e0, h0, l0⟩ := sp_cnt e1
  cases e0
  have hh := sp_app h0 h1
  have a1 := h1.1
  refine ⟨hh.2.1, by omega, ?_⟩
  rw [hh.2.2]
  unfold lBy lP
  rw [List.take_length, dsR_len]
  rfl
/-- What the model asks of what is read is what the program asks. -/
theorem led_same (s : ByteArray) (hs : s.size ≤ 8000) : (oDE s ≠ none ∧ s.size ≠ 0 ∧ lbB (dsR s) = s) ↔ (oDE s = some s.size ∧ lB (dsR s) = true) := by
  constructor
  · rintro ⟨h1, h2, h3⟩
    cases ho : oDE s with
    | none => exact absurd ho h1
    | some q =>
      obtain ⟨b1, b2, b3⟩ := led_back ho
      cases hw : lB (dsR s)
      · unfold lbB at h3
        rw [hw] at h3
        rw [← h3] at h2
        exact absurd rfl h2
      · unfold lbB at h3
        rw [hw] at h3
        simp only [cond_true] at h3
        cases hd : decide ((lBy (dsR s)).size ≤ 8000)
        · rw [hd] at h3
          rw [← h3] at h2
          exact absurd rfl h2
        · rw [hd] at h3
          simp only [cond_true] at h3
          rw [h3] at b3
          have hz := congrArg ByteArray.size b3
          rw [cut_size s 0 q b1] at hz
          exact ⟨by rw [show q = s.size by omega], rfl⟩
  · rintro ⟨h1, h2⟩
    obtain ⟨b1, b2, b3⟩ := led_back h1
    rw [cut_whole] at b3
    refine ⟨by rw [h1]; simp, by omega, ?_⟩
    unfold lbB
    rw [h2, ← b3, decide_eq_true hs]
    rfl
end LedR
end Go.Proofs.Ytbecgngmpjajaaa
namespace Go.Proofs.Ytbecgngmpjajaaa
open Go.ChangeShapes Go.WideShapes Go.ChangeAt Go.RowKit
set_option linter.unusedVariables false
namespace LedR
open OwG LinR DocR
open RowG (MadeG Rws cellsAll hid_intro)
open EvtR (Pt After Reads gtrans rT pT rN pN rC pC rC_le)
open CatR (Blk Blk.new)
set_option maxRecDepth 100000 in
set_option maxHeartbeats 8000000 in
theorem ilr_in (s : ByteArray) (C : Nat) (PD : Nat → Option Nat) (LD : Nat → List D) (dd : Nat → D) (en r : Bool) (w : World) (hs8 : s.size ≤ 8000) (hC : C ≤ 30)
    (rc : ∀ g w, After g s (some 0) w → Calls Try.prog 20 #[.pointer (some ⟨g, 0, none⟩), .int .i64 30] w fun e w' => e = .returned (.int .i64 C) ∧ After g s (PD 0) w' ∧ w.grownBy w' (some g))
    (rd : ∀ k g w, After g s (PD k) w → Calls Try.prog 21 #[.pointer (some ⟨g, 0, none⟩)] w fun e w' => ∃ la lc, e = .returned (.agg #[.string (dd k).a, .int .i64 (dd k).mo, .int .i64 (dd k).sq, .slice la (dd k).ls.length lc]) ∧ w'.ownsRow w.heap.size 54 2 (.slice la (dd k).ls.length lc) (dd k).ls.length (cellsAll N.cells (dd k).ls) ∧ After g s (PD (k + 1)) w' ∧ w.grownBy w' (some g))
    (hen : ∀ g W, After g s (PD C) W → Calls Try.prog 22 #[.pointer (some ⟨g, 0, none⟩)] W fun e w' => e = .returned (.bool en) ∧ Below W.heap.size W w')
    (hlr : ∀ ao cap W, Dcs ao (LD C) W → Calls Try.prog 14 #[.slice ao C cap] W fun e w' => e = .returned (.bool r) ∧ Below W.heap.size W w')
    (hL0 : LD 0 = []) (hLM : ∀ k, LD (k + 1) = LD k ++ [dd k]) (hLL : ∀ k, (LD k).length = k) :
    Calls Try.prog 7 #[.string s] w fun e w' => (((en && r) = false ∧ e = .returned (.agg #[.slice none 0 0, .string ⟨#[]⟩, .int .i64 0, .int .i64 0, .slice none 0 0, .int .i64 3])) ∨ ((en && r) = true ∧ ∃ ao cap, e = .returned (.agg #[.slice ao C cap, .string ⟨#[]⟩, .int .i64 0, .int .i64 0, .slice none 0 0, .int .i64 0]) ∧ DsO w.heap.size (.slice ao C cap) (LD C) w')) ∧ Below w.heap.size w w' := by
  obtain ⟨i0, hi, hz0, hz1, hz2⟩ := info_parts infoD
  have HRC := hid_intro rc
  have HRD := hid_intro rd
  have HEN := hid_intro hen
  have HLR := hid_intro hlr
  have HL0 := hid_intro hL0
  have HLM := hid_intro hLM
  have HLL := hid_intro hLL
  have h8 : ¬ (8000 : Int) < (s.size : Int) := by omega
  clear rc rd hen hlr hL0 hLM hLL
  obtain ⟨W0, hW0⟩ : ∃ W0, W0 = (w.alloc (.cells #[.slice none 0 0, .string ⟨#[]⟩, .int .i64 0, .int .i64 0, .slice none 0 0, .int .i64 0] 31)).alloc (.cells #[.string s, .int .i64 0, .nilIface] 50) := ⟨_, rfl⟩
  have HB0 : Hid (Below w.heap.size w W0) := hid_intro (by rw [hW0]; exact ((Below.refl _ _).alloc (Nat.le_refl _) _).alloc (by simp) _)
  have HP0 : Hid (Pt w.heap.size 6 W0) := hid_intro (by rw [hW0]; exact (StR.pt_new w [.slice none 0 0, .string ⟨#[]⟩, .int .i64 0, .int .i64 0, .slice none 0 0, .int .i64 0] 31).below ((Below.refl _ _).alloc (Nat.le_refl _) _))
  have HA0 : Hid (After (w.heap.size + 1) s (some 0) W0) := hid_intro (by rw [hW0]; exact ⟨by omega, by simp, by simp [go_sem], by simp [go_sem], by simp [go_sem], by simp [go_sem], by simp [go_sem], by simp [go_sem]⟩)
  have hS0 : w.heap.size + 2 ≤ W0.heap.size := by rw [hW0]; simp
  have HW := hid_intro hW0
  clear hW0
  go_enter Try.func7, Try.ntmps7
  go_wp2_with fail
  rw [← HW.out]
  clear HW
  refine (HRC.out _ _ HA0.out).mono ?_
  rintro e w1 ⟨rfl, hA1, hg1⟩
  have HA1 := hid_intro hA1
  have HB1 : Hid (Below w.heap.size w w1) := hid_intro (HB0.out.grown hg1 HB0.out.size (fun k e => by simp only [Option.some.injEq] at e; omega))
  have HP1 : Hid (Pt w.heap.size 6 w1) := hid_intro (StR.pt_far HP0.out hg1 (by omega))
  have hS1 : w.heap.size + 2 ≤ w1.heap.size := by have := hg1.size; omega
  have HD1 : Hid (DsO (w.heap.size + 2) (.slice none 0 0) (LD 0) w1) := hid_intro (by rw [HL0.out]; exact dso_nil _ _)
  clear hA1 hg1 HA0 HB0 HP0 hS0
  go_wp2_with fail
  go_loopw [4, 14] (fun v z wr => ∃ k : Nat, k ≤ C ∧ z = .int .i64 k ∧ Hid (After (w.heap.size + 1) s (PD k) wr) ∧ Hid (Below w.heap.size w wr) ∧ Hid (Pt w.heap.size 6 wr) ∧ Hid (w.heap.size + 2 ≤ wr.heap.size) ∧ Hid (DsO (w.heap.size + 2) v (LD k) wr)) (fun v z _ => C - (intOf z).toNat)
  case atStart => exact ⟨0, by omega, rfl, HA1, HB1, HP1, hid_intro hS1, HD1⟩
  case round =>
    clear HA1 HB1 HP1 HD1 hS1
    obtain ⟨k, hk, rfl, HA, HB, HP, HS, HD⟩ := hrel
    by_cases hlt : k < C
    · have hlt2 : (k : Int) < (C : Int) := by omega
      obtain ⟨xs, hx1, hx2, hx3, hx4⟩ := HD.out
      rw [HLL.out k] at hx2
      have HX1 := hid_intro hx1
      have HX2 := hid_intro hx2
      have HX3 := hid_intro hx3
      have HX4 := hid_intro hx4
      have HRD2 := hid_intro (HRD.out k (w.heap.size + 1) wr HA.out)
      have HDO := hid_intro (doc_one (dd k))
      have HLM2 := hid_intro (HLM.out k)
      clear hx1 hx2 hx3 hx4 HD
      have hsz1 : k + 1 ≤ maxLen := by unfold maxLen; omega
      have hsz2 : (k + 1) * 56 ≤ 140737488355328 := by omega
      go_wp2_with fail
      refine HRD2.out.mono ?_
      rintro e w2 ⟨la, lc, rfl, hn2, hA2, hg2⟩
      have HN2 := hid_intro hn2
      have HG2 := hid_intro hg2
      have HA2 := hid_intro hA2
      have HB2 : Hid (Below w.heap.size w w2) := hid_intro (HB.out.grown hg2 HB.out.size (fun k e => by simp only [Option.some.injEq] at e; omega))
      have HP2 : Hid (Pt w.heap.size 6 w2) := hid_intro (StR.pt_far HP.out hg2 (by omega))
      have HS2 : Hid (w.heap.size + 2 ≤ w2.heap.size) := hid_intro (by have := hg2.size; have := HS.out; omega)
      have HO2 := hid_intro (own_keepG HX2.out hg2 (by omega))
      clear hn2 hA2 hg2
      obtain ⟨w3, hw3⟩ : ∃ z, z = w2.alloc (.cells #[.string (dd k).a, .int .i64 (dd k).mo, .int .i64 (dd k).sq, .slice la (dd k).ls.length lc] 29) := ⟨_, rfl⟩
      have al : Below w2.heap.size w2 w3 := by rw [hw3]; exact (Below.refl _ _).alloc (Nat.le_refl _) _
      have HAL := hid_intro al
      have HO3 := hid_intro (RowG.own_below HO2.out al)
      have HNW : Hid (∀ j u, ([.string (dd k).a, .int .i64 (dd k).mo, .int .i64 (dd k).sq, .slice la (dd k).ls.length lc] : List Value)[j]? = some u → w3.cell? ((⟨w2.heap.size, 0, none⟩ : Addr).add j) = some u) := hid_intro (by rw [hw3]; exact new_cells w2 [.string (dd k).a, .int .i64 (dd k).mo, .int .i64 (dd k).sq, .slice la (dd k).ls.length lc] 29)
      have HW3 := hid_intro hw3
      have hs3 : w.heap.size + 2 ≤ w3.heap.size := by have := al.size; have := HS2.out; omega
      have HS3 := hid_intro hs3
      clear al hw3 HO2 hs3
      go_wp2_with (at_builtin; rw [← HW3.out]; refine wpList_append_own _ rfl _ _ 23 rfl (w.heap.size + 2) 29 i0 (.agg #[.string ⟨#[]⟩, .int .i64 0, .int .i64 0, .slice none 0 0]) 4 56 Try.underlying23 hi hz0 hz1 hz2 rfl (by decide) _ _ _ rfl HO3.out ⟨w2.heap.size, 0, none⟩ 1 1 [.string (dd k).a, .int .i64 (dd k).mo, .int .i64 (dd k).sq, .slice la (dd k).ls.length lc] rfl rfl HNW.out (HDO.out la lc) hsz1 hsz2 HS3.out ?_)
      intro v' w9 hown hgrow hne
      have HD9 : Hid (DsO (w.heap.size + 2) v' (LD (k + 1)) w9) := hid_intro (by
        rw [HLM2.out]
        refine dso_step HX1.out HX3.out HX4.out HG2.out (by omega) HS.out HN2.out HAL.out ?_ hgrow ?_
        · rw [HLL.out k]; exact HO3.out
        · rw [HLL.out k]; exact hown)
      have HA9 := hid_intro (after_grown (EvtR.After.below HA2.out HAL.out) hgrow (fun e => by have := (HO3.out.lt _ e.symm).1; omega))
      have HB9 : Hid (Below w.heap.size w w9) := hid_intro ((HB2.out.trans (HAL.out.mono HB2.out.size)).grown hgrow (HB2.out.trans (HAL.out.mono HB2.out.size)).size (fun k e => by have := (HO3.out.lt k e).1; omega))
      have HP9 : Hid (Pt w.heap.size 6 w9) := hid_intro (pt_row (HP2.out.below HAL.out) hgrow (fun e => by have := (HO3.out.lt _ e.symm).1; omega))
      have HS9 : Hid (w.heap.size + 2 ≤ w9.heap.size) := hid_intro (by have := hgrow.size; have := HS3.out; omega)
      clear hown hgrow hne
      go_wp2_with fail
      go_roundw
      case rel => exact ⟨k + 1, by omega, by go_num, HA9, HB9, HP9, HS9, HD9⟩
      case measure => simp [intOf]; omega
    · have hlt2 : ¬ (k : Int) < (C : Int) := by omega
      obtain rfl : k = C := by omega
      obtain ⟨ao, cap, rfl, hdc⟩ := HD.out.dcs
      have HDC := hid_intro hdc
      clear hdc
      rw [HLL.out k] at HD ⊢
      go_wp2_with fail
      refine (HEN.out _ _ HA.out).mono ?_
      rintro e w3 ⟨rfl, hb3⟩
      have HB3 := hid_intro (HB.out.trans (hb3.mono HB.out.size))
      have HP3 := hid_intro (HP.out.below hb3)
      have HD3 := hid_intro (HD.out.below hb3)
      have HC3 := hid_intro (HDC.out.below hb3)
      clear hb3 HB HP HD HDC HEN
      cases en
      · have hp9 := HP3.out
        have hl9 := hp9.lt
        obtain ⟨ov0, r0⟩ := hp9.has 0 (by omega)
        have f0 := hp9.free 0 (by omega)
        obtain ⟨ov1, r1⟩ := hp9.has 1 (by omega)
        have f1 := hp9.free 1 (by omega)
        obtain ⟨ov2, r2⟩ := hp9.has 2 (by omega)
        have f2 := hp9.free 2 (by omega)
        obtain ⟨ov3, r3⟩ := hp9.has 3 (by omega)
        have f3 := hp9.free 3 (by omega)
        obtain ⟨ov4, r4⟩ := hp9.has 4 (by omega)
        have f4 := hp9.free 4 (by omega)
        obtain ⟨ov5, r5⟩ := hp9.has 5 (by omega)
        have f5 := hp9.free 5 (by omega)
        have hgf := StR.stL_grown w.heap.size [.slice none 0 0, .string ⟨#[]⟩, .int .i64 0, .int .i64 0, .slice none 0 0, .int .i64 3] 0 w3
        have HBF := hid_intro (HB3.out.grown hgf HB3.out.size (fun k e => by simp only [Option.some.injEq] at e; omega))
        simp only [StR.stL, Nat.zero_add, Nat.reduceAdd] at HBF
        clear hgf hp9
        go_wp2_with fail
        refine bodyPost_ret (v := .agg #[.slice none 0 0, .string ⟨#[]⟩, .int .i64 0, .int .i64 0, .slice none 0 0, .int .i64 3]) (by simp [results, Try.results7, go_sem, r0, r1, r2, r3, r4, r5]) rfl ⟨.inl ⟨rfl, rfl⟩, HBF.out⟩
      go_wp2_with fail
      refine (HLR.out ao cap _ HC3.out).mono ?_
      rintro e w4 ⟨rfl, hb4⟩
      have HB4 := hid_intro (HB3.out.trans (hb4.mono HB3.out.size))
      have HP4 := hid_intro (HP3.out.below hb4)
      have HD4 := hid_intro (HD3.out.below hb4)
      clear hb4 HB3 HP3 HD3 HLR
      cases r
      · have hp9 := HP4.out
        have hl9 := hp9.lt
        obtain ⟨ov0, r0⟩ := hp9.has 0 (by omega)
        have f0 := hp9.free 0 (by omega)
        obtain ⟨ov1, r1⟩ := hp9.has 1 (by omega)
        have f1 := hp9.free 1 (by omega)
        obtain ⟨ov2, r2⟩ := hp9.has 2 (by omega)
        have f2 := hp9.free 2 (by omega)
        obtain ⟨ov3, r3⟩ := hp9.has 3 (by omega)
        have f3 := hp9.free 3 (by omega)
        obtain ⟨ov4, r4⟩ := hp9.has 4 (by omega)
        have f4 := hp9.free 4 (by omega)
        obtain ⟨ov5, r5⟩ := hp9.has 5 (by omega)
        have f5 := hp9.free 5 (by omega)
        have hgf := StR.stL_grown w.heap.size [.slice none 0 0, .string ⟨#[]⟩, .int .i64 0, .int .i64 0, .slice none 0 0, .int .i64 3] 0 w4
        have HBF := hid_intro (HB4.out.grown hgf HB4.out.size (fun k e => by simp only [Option.some.injEq] at e; omega))
        simp only [StR.stL, Nat.zero_add, Nat.reduceAdd] at HBF
        clear hgf hp9
        go_wp2_with fail
        refine bodyPost_ret (v := .agg #[.slice none 0 0, .string ⟨#[]⟩, .int .i64 0, .int .i64 0, .slice none 0 0, .int .i64 3]) (by simp [results, Try.results7, go_sem, r0, r1, r2, r3, r4, r5]) rfl ⟨.inl ⟨rfl, rfl⟩, HBF.out⟩
      have hp9 := HP4.out
      have hl9 := hp9.lt
      obtain ⟨ov0, r0⟩ := hp9.has 0 (by omega)
      have f0 := hp9.free 0 (by omega)
      obtain ⟨ov1, r1⟩ := hp9.has 1 (by omega)
      have f1 := hp9.free 1 (by omega)
      obtain ⟨ov2, r2⟩ := hp9.has 2 (by omega)
      have f2 := hp9.free 2 (by omega)
      obtain ⟨ov3, r3⟩ := hp9.has 3 (by omega)
      have f3 := hp9.free 3 (by omega)
      obtain ⟨ov4, r4⟩ := hp9.has 4 (by omega)
      have f4 := hp9.free 4 (by omega)
      obtain ⟨ov5, r5⟩ := hp9.has 5 (by omega)
      have f5 := hp9.free 5 (by omega)
      have hgf := StR.stL_grown w.heap.size [.slice ao k cap, .string ⟨#[]⟩, .int .i64 0, .int .i64 0, .slice none 0 0, .int .i64 0] 0 w4
      have HBF := hid_intro (HB4.out.grown hgf HB4.out.size (fun k e => by simp only [Option.some.injEq] at e; omega))
      have HDF := hid_intro (HD4.out.far hgf (by omega))
      simp only [StR.stL, Nat.zero_add, Nat.reduceAdd] at HBF HDF
      clear hgf hp9
      go_wp2_with fail
      refine bodyPost_ret (v := .agg #[.slice ao k cap, .string ⟨#[]⟩, .int .i64 0, .int .i64 0, .slice none 0 0, .int .i64 0]) (by simp [results, Try.results7, go_sem, r0, r1, r2, r3, r4, r5]) rfl ⟨.inr ⟨rfl, ao, cap, rfl, HDF.out.low (by omega)⟩, HBF.out⟩
end LedR
end Go.Proofs.Ytbecgngmpjajaaa
namespace Go.Proofs.Ytbecgngmpjajaaa
open Go.ChangeShapes Go.WideShapes Go.ChangeAt Go.RowKit
set_option linter.unusedVariables false
namespace LedR
open OwG LinR DocR
open RowG (MadeG Rws cellsAll hid_intro)
open EvtR (Pt SAfter gtrans)
open CatR (Blk Blk.new)
/-- What one call of the model's reader leaves. -/
abbrev SRd (f g : Nat) (s : ByteArray) (o o' : Option Nat) (v : Value) : Prop := ∀ W, SAfter g s o W → Calls Try.prog f #[.pointer (some ⟨g, 0, none⟩)] W fun e w' => e = .returned v ∧ SAfter g s o' w' ∧ W.grownBy w' (some g)
abbrev SMn (M g : Nat) (s : ByteArray) (o o' : Option Nat) (n : Nat) : Prop := ∀ W, SAfter g s o W → Calls Try.prog 27 #[.pointer (some ⟨g, 0, none⟩), .int .i64 M] W fun e w' => e = .returned (.int .i64 (n : Nat)) ∧ SAfter g s o' w' ∧ W.grownBy w' (some g)
/-- How a document is read. -/
def DocRd (g : Nat) (s : ByteArray) (o o' : Option Nat) (d : D) : Prop := ∃ (o1 o2 o3 : Option Nat) (PH : Nat → Option Nat) (LH : Nat → List N) (hh : Nat → ByteArray) (ss : Nat → Int),
  SRd 28 g s o o1 (.string d.a) ∧ SRd 29 g s o1 o2 (.int .i64 d.mo) ∧ SRd 29 g s o2 o3 (.int .i64 d.sq) ∧ SMn 6 g s o3 (PH 0) d.ls.length ∧
  (∀ i, ∃ om, SRd 28 g s (PH i) om (.string (hh i)) ∧ SRd 29 g s om (PH (i + 1)) (.int .i64 (ss i))) ∧
  (∀ i, PH i = none → PH (i + 1) = none) ∧ PH d.ls.length = o' ∧ LH 0 = [] ∧ (∀ i, LH (i + 1) = LH i ++ [⟨hh i, ss i⟩]) ∧ LH d.ls.length = d.ls ∧ d.ls.length ≤ 6
theorem pt_grownG {p n : Nat} {W W' : World} {g : Nat} (h : Pt p n W) (hg : W.grownBy W' (some g)) (hne : p ≠ g) : Pt p n W' := pt_row h hg (by simp; exact hne)
theorem exit_of {P : Nat → Option Nat} (hN : ∀ k, P k = none → P (k + 1) = none) {k C : Nat} (hk : k ≤ C) : (k < C ∧ P k ≠ none) ∨ (P k = P C ∧ (P C ≠ none → k = C)) := by
  by_cases q : k < C
  · by_cases q2 : P k = none
    · have := stay hN q2 (C - k)
      rw [show k + (C - k) = C by omega] at this
      exact .inr ⟨q2.trans this.symm, fun h => absurd this h⟩
    · exact .inl ⟨q, q2⟩
  · obtain rfl : k = C := by omega
    exact .inr ⟨rfl, fun _ => rfl⟩
theorem exit_two {P : Nat → Option Nat} {k C : Nat} (heq : P k = P C) (hall : P C ≠ none → k = C) (hk : k ≤ C) : (¬ (0 : Int) < (C : Int) - (k : Int)) ∨ ((0 : Int) < (C : Int) - (k : Int) ∧ decide (P k = none) = true) := by
  by_cases q : k < C
  · refine .inr ⟨by omega, decide_eq_true ?_⟩
    rcases h9 : P C with _ | p
    · rw [heq, h9]
    · have := hall (by rw [h9]; simp)
      omega
  · exact .inl (by omega)
/-- What the model hands back. -/
def SPL (s T : ByteArray) (o : Option Nat) (C : Nat) (ds : List D) (w : World) (e : Ending) (w' : World) : Prop := ((¬ (o ≠ none ∧ s.size ≠ 0 ∧ T = s) ∧ e = .returned (.agg #[.slice none 0 0, .string ⟨#[]⟩, .int .i64 0, .int .i64 0, .slice none 0 0, .int .i64 3])) ∨ ((o ≠ none ∧ s.size ≠ 0 ∧ T = s) ∧ ∃ ao cap, e = .returned (.agg #[.slice ao C cap, .string ⟨#[]⟩, .int .i64 0, .int .i64 0, .slice none 0 0, .int .i64 0]) ∧ DsO w.heap.size (.slice ao C cap) ds w')) ∧ Below w.heap.size w w'
theorem spl_bad {s T : ByteArray} {o : Option Nat} {C : Nat} {ds : List D} {w w' : World} (h : ¬ (o ≠ none ∧ s.size ≠ 0 ∧ T = s)) (hb : Below w.heap.size w w') : SPL s T o C ds w (.returned (.agg #[.slice none 0 0, .string ⟨#[]⟩, .int .i64 0, .int .i64 0, .slice none 0 0, .int .i64 3])) w' := ⟨.inl ⟨h, rfl⟩, hb⟩
theorem spl_ok {s T : ByteArray} {o : Option Nat} {C : Nat} {ds : List D} {w w' : World} {ao : Option Addr} {cap : Nat} (h : o ≠ none ∧ s.size ≠ 0 ∧ T = s) (hd : DsO w.heap.size (.slice ao C cap) ds w') (hb : Below w.heap.size w w') : SPL s T o C ds w (.returned (.agg #[.slice ao C cap, .string ⟨#[]⟩, .int .i64 0, .int .i64 0, .slice none 0 0, .int .i64 0])) w' := ⟨.inr ⟨h, ao, cap, rfl, hd⟩, hb⟩
set_option maxRecDepth 100000 in
set_option maxHeartbeats 16000000 in
theorem slr_in (s : ByteArray) (C : Nat) (PD : Nat → Option Nat) (LD : Nat → List D) (dd : Nat → D) (T : ByteArray) (w : World) (hs8 : s.size ≤ 8000) (hC : C ≤ 30)
    (rc : ∀ g, SMn 30 g s (some 0) (PD 0) C)
    (rd : ∀ k g, DocRd g s (PD k) (PD (k + 1)) (dd k))
    (hNP : ∀ k, PD k = none → PD (k + 1) = none)
    (hwb : ∀ ao cap W, Dcs ao (LD C) W → Calls Try.prog 8 #[.slice ao C cap] W fun e w' => e = .returned (.string T) ∧ Below W.heap.size W w')
    (hL0 : LD 0 = []) (hLM : ∀ k, LD (k + 1) = LD k ++ [dd k]) (hLL : ∀ k, (LD k).length = k) :
    Calls Try.prog 11 #[.string s] w fun e w' => SPL s T (PD C) C (LD C) w e w' := by
  obtain ⟨i0, hi, hz0, hz1, hz2⟩ := info_parts infoD
  obtain ⟨j0, gi, gz0, gz1, gz2⟩ := info_parts infoN
  have HRC := hid_intro rc
  have HRD := hid_intro rd
  have HNP := hid_intro hNP
  have HWB := hid_intro hwb
  have HL0 := hid_intro hL0
  have HLM := hid_intro hLM
  have HLL := hid_intro hLL
  have h8 : ¬ (8000 : Int) < (s.size : Int) := by omega
  clear rc rd hNP hwb hL0 hLM hLL
  obtain ⟨W0, hW0⟩ : ∃ W0, W0 = ((w.alloc (.cells #[.slice none 0 0, .string ⟨#[]⟩, .int .i64 0, .int .i64 0, .slice none 0 0, .int .i64 0] 31)).alloc (.cells #[.string s, .int .i64 0, .bool false] 58)).alloc (.cells #[] 29) := ⟨_, rfl⟩
  have al0 : Below (w.heap.size + 2) ((w.alloc (.cells #[.slice none 0 0, .string ⟨#[]⟩, .int .i64 0, .int .i64 0, .slice none 0 0, .int .i64 0] 31)).alloc (.cells #[.string s, .int .i64 0, .bool false] 58)) W0 := by rw [hW0]; exact (Below.refl _ _).alloc (by simp) _
  have HB0 : Hid (Below w.heap.size w W0) := hid_intro (by rw [hW0]; exact (((Below.refl _ _).alloc (Nat.le_refl _) _).alloc (by simp) _).alloc (by simp; omega) _)
  have HP0 : Hid (Pt w.heap.size 6 W0) := hid_intro (((StR.pt_new w [.slice none 0 0, .string ⟨#[]⟩, .int .i64 0, .int .i64 0, .slice none 0 0, .int .i64 0] 31).below ((Below.refl _ _).alloc (Nat.le_refl _) _)).below (al0.mono (by simp)))
  have HA0 : Hid (SAfter (w.heap.size + 1) s (some 0) W0) := hid_intro (by rw [hW0]; exact ⟨by omega, by simp, by simp [go_sem], by simp [go_sem], by simp [go_sem], by simp [go_sem], by simp [go_sem], by simp [go_sem]⟩)
  have hS0 : w.heap.size + 2 ≤ W0.heap.size := by rw [hW0]; simp
  have HD0 : Hid (DsO (w.heap.size + 2) (.slice (some ⟨w.heap.size + 2, 0, none⟩) 0 0) (LD 0) W0) := hid_intro (by
    rw [HL0.out, hW0]
    obtain ⟨X, hX⟩ : ∃ X, X = ((w.alloc (.cells #[.slice none 0 0, .string ⟨#[]⟩, .int .i64 0, .int .i64 0, .slice none 0 0, .int .i64 0] 31)).alloc (.cells #[.string s, .int .i64 0, .bool false] 58)) := ⟨_, rfl⟩
    have e : X.heap.size = w.heap.size + 2 := by rw [hX]; simp
    have h := own_empty X (w.heap.size + 2) 29 4 (by omega)
    rw [e] at h
    rw [← hX]
    exact ⟨[], rfl, h, (fun x h => absurd h (by simp)), List.Pairwise.nil⟩)
  have HW := hid_intro hW0
  clear hW0 al0
  go_enter Try.func11, Try.ntmps11
  go_wp2_with fail
  rw [← HW.out]
  clear HW
  refine (HRC.out _ _ HA0.out).mono ?_
  rintro e w1 ⟨rfl, hA1, hg1⟩
  have HA1 := hid_intro hA1
  have HB1 : Hid (Below w.heap.size w w1) := hid_intro (HB0.out.grown hg1 HB0.out.size (fun k e => by simp only [Option.some.injEq] at e; omega))
  have HP1 : Hid (Pt w.heap.size 6 w1) := hid_intro (StR.pt_far HP0.out hg1 (by omega))
  have hS1 : w.heap.size + 2 ≤ w1.heap.size := by have := hg1.size; omega
  have HD1 := hid_intro (HD0.out.far hg1 (by omega))
  clear hA1 hg1 HA0 HB0 HP0 hS0 HD0
  go_wp2_with fail
  go_loopw [4, 5] (fun v z wr => ∃ k : Nat, k ≤ C ∧ z = .int .i64 ((C : Int) - (k : Int)) ∧ Hid (SAfter (w.heap.size + 1) s (PD k) wr) ∧ Hid (Below w.heap.size w wr) ∧ Hid (Pt w.heap.size 6 wr) ∧ Hid (w.heap.size + 2 ≤ wr.heap.size) ∧ Hid (PD k ≠ none → DsO (w.heap.size + 2) v (LD k) wr)) (fun v z _ => (intOf z).toNat)
  case atStart => exact ⟨0, by omega, by simp, HA1, HB1, HP1, hid_intro hS1, hid_intro (fun _ => HD1.out)⟩
  case round =>
    clear HA1 HB1 HP1 HD1 hS1
    obtain ⟨k, hk, rfl, HA, HB, HP, HS, HD⟩ := hrel
    obtain ⟨pp, hSR⟩ := HA.out.open
    obtain ⟨gl, g0, g1, g2, gf0, gf1, gf2⟩ := hSR
    rcases exit_of HNP.out hk with ⟨hlt, hno⟩ | ⟨heq, hall⟩
    · obtain ⟨Wo, hWo⟩ : ∃ Wo, Wo = wr := ⟨_, rfl⟩
      subst hWo
      have hlt2 : (0 : Int) < (C : Int) - (k : Int) := by omega
      rw [decide_eq_false hno] at g2
      obtain ⟨xs, hx1, hx2, hx3, hx4⟩ := HD.out hno
      rw [HLL.out k] at hx2
      have HX1 := hid_intro hx1
      have HX2 := hid_intro hx2
      have HX3 := hid_intro hx3
      have HX4 := hid_intro hx4
      obtain ⟨o1, o2, o3, PH, LH, hh, ss, r1, r2, r3, rcc, rh, hNH, hPE, hH0, hHM, hHE, h6⟩ := HRD.out k (w.heap.size + 1)
      have HLM2 := hid_intro (HLM.out k)
      clear hx1 hx2 hx3 hx4 HD hno
      generalize dd k = X at *
      obtain ⟨a, mo, sq, ls⟩ := X
      dsimp only at *
      obtain ⟨Dn, hDn⟩ : ∃ Dn, Dn = ls.length := ⟨_, rfl⟩
      rw [← hDn] at rcc hPE hHE h6
      have R1 := hid_intro r1
      have R2 := hid_intro r2
      have R3 := hid_intro r3
      have RCC := hid_intro rcc
      have RH := hid_intro rh
      have HNH := hid_intro hNH
      have HPE := hid_intro hPE
      have HH0 := hid_intro hH0
      have HHM := hid_intro hHM
      have HHE := hid_intro hHE
      have HDN := hid_intro hDn
      have HG : Hid (Wo.grownBy Wo (some (w.heap.size + 1))) := hid_intro (EvtR.rgrown (Below.refl _ _) _)
      clear r1 r2 r3 rcc rh hNH hPE hH0 hHM hHE hDn
      go_wp2_with fail
      clear gl g0 g1 g2 gf0 gf1 gf2
      refine (R1.out _ HA.out).mono ?_
      rintro e q1 ⟨rfl, hA, hq⟩
      replace HA := hid_intro hA
      replace HG := hid_intro (gtrans HG.out hq)
      clear hA hq
      obtain ⟨wA, hwA⟩ : ∃ z, z = q1.alloc (.cells #[.string a, .int .i64 0, .int .i64 0, .slice none 0 0] 29) := ⟨_, rfl⟩
      have al : Below q1.heap.size q1 wA := by rw [hwA]; exact (Below.refl _ _).alloc (Nat.le_refl _) _
      have HV : Hid (BlkW q1.heap.size [.string a, .int .i64 0, .int .i64 0, .slice none 0 0] wA) := hid_intro (by rw [hwA]; exact BlkW.new q1 [.string a, .int .i64 0, .int .i64 0, .slice none 0 0] 29)
      have hlo : Wo.heap.size ≤ q1.heap.size := HG.out.size
      have hlo2 : w.heap.size + 2 ≤ q1.heap.size := by have := HS.out; omega
      replace HA := hid_intro (satt HA.out al)
      replace HG := hid_intro (gtrans HG.out (EvtR.rgrown al _))
      have HW := hid_intro hwA
      obtain ⟨bV, hbV⟩ : ∃ z, z = q1.heap.size := ⟨_, rfl⟩
      rw [← hbV] at HV hlo hlo2
      have HBV := hid_intro hbV
      clear hwA hbV al
      go_wp2_with fail
      rw [← HW.out, ← HBV.out]
      clear HW HBV
      refine (R2.out _ HA.out).mono ?_
      rintro e q2 ⟨rfl, hA, hq⟩
      replace HA := hid_intro hA
      replace HG := hid_intro (gtrans HG.out hq)
      replace HV := hid_intro (blkW_grown HV.out hq (by simp; omega))
      clear hA hq
      have hl := HV.out.1.1
      have hc := HV.out.1.2 1 (by simp)
      have hf := HV.out.2 1 (by simp)
      simp only [List.getElem?_cons_zero, List.getElem?_cons_succ] at hc
      have hgs := RowG.grown_set q2 bV 1 (.int .i64 mo)
      replace HV := hid_intro (HV.out.set 1 (.int .i64 mo) (by simp))
      replace HA := hid_intro (HA.out.grown hgs (by simp; omega))
      replace HG := hid_intro (gnewG HG.out hgs (by omega))
      simp only [List.set_cons_zero, List.set_cons_succ] at HV
      obtain ⟨wz0, hwz⟩ : ∃ z, z = q2.setCell ⟨bV, 1, none⟩ (.int .i64 mo) := ⟨_, rfl⟩
      rw [← hwz] at HA HG HV
      have HW := hid_intro hwz
      clear hwz hgs
      go_wp2_with fail
      rw [← HW.out]
      clear HW hl hc hf
      refine (R3.out _ HA.out).mono ?_
      rintro e q3 ⟨rfl, hA, hq⟩
      replace HA := hid_intro hA
      replace HG := hid_intro (gtrans HG.out hq)
      replace HV := hid_intro (blkW_grown HV.out hq (by simp; omega))
      clear hA hq
      have hl := HV.out.1.1
      have hc := HV.out.1.2 2 (by simp)
      have hf := HV.out.2 2 (by simp)
      simp only [List.getElem?_cons_zero, List.getElem?_cons_succ] at hc
      have hgs := RowG.grown_set q3 bV 2 (.int .i64 sq)
      replace HV := hid_intro (HV.out.set 2 (.int .i64 sq) (by simp))
      replace HA := hid_intro (HA.out.grown hgs (by simp; omega))
      replace HG := hid_intro (gnewG HG.out hgs (by omega))
      simp only [List.set_cons_zero, List.set_cons_succ] at HV
      obtain ⟨wz1, hwz⟩ : ∃ z, z = q3.setCell ⟨bV, 2, none⟩ (.int .i64 sq) := ⟨_, rfl⟩
      rw [← hwz] at HA HG HV
      have HW := hid_intro hwz
      clear hwz hgs
      go_wp2_with fail
      rw [← HW.out]
      clear HW hl hc hf
      refine (RCC.out _ HA.out).mono ?_
      rintro e wC ⟨rfl, hA, hq⟩
      replace HA := hid_intro hA
      replace HG := hid_intro (gtrans HG.out hq)
      replace HV := hid_intro (blkW_grown HV.out hq (by simp; omega))
      clear hA hq
      go_wp2_with fail
      go_loopw [7] (fun z wx => ∃ (i : Nat) (ha : Option Addr) (hc : Nat), i ≤ Dn ∧ z = .int .i64 ((Dn : Int) - (i : Int)) ∧ Hid (SAfter (w.heap.size + 1) s (PH i) wx) ∧ Hid (Wo.grownBy wx (some (w.heap.size + 1))) ∧ Hid (BlkW bV [.string a, .int .i64 mo, .int .i64 sq, .slice ha i hc] wx) ∧ Hid (wx.ownsRow (bV + 1) 54 2 (.slice ha i hc) i (cellsAll N.cells (LH i)))) (fun z _ => (intOf z).toNat)
      case atStart => exact ⟨0, none, 0, by omega, by simp, HA, HG, HV, hid_intro (by rw [HH0.out]; exact World.ownsRow_nil _ _ _ _)⟩
      case round =>
        clear HA HG HV
        obtain ⟨i, ha, hc, hki, rfl, HA, HG, HV, HO⟩ := hrel
        obtain ⟨pp, hSR⟩ := HA.out.open
        obtain ⟨gl, g0, g1, g2, gf0, gf1, gf2⟩ := hSR
        rcases exit_of HNH.out hki with ⟨hlt3, hno3⟩ | ⟨heq3, hall3⟩
        · have hlt4 : (0 : Int) < (Dn : Int) - (i : Int) := by omega
          rw [decide_eq_false hno3] at g2
          obtain ⟨om, rd1, rd2⟩ := RH.out i
          have RD1 := hid_intro rd1
          have RD2 := hid_intro rd2
          clear rd1 rd2 hno3
          have HLN := hid_intro (HHM.out i)
          generalize hh i = X at *
          generalize ss i = Y at *
          go_wp2_with fail
          clear gl g0 g1 g2 gf0 gf1 gf2
          refine (RD1.out _ HA.out).mono ?_
          rintro e u1 ⟨rfl, hA, hq⟩
          replace HA := hid_intro hA
          replace HG := hid_intro (gtrans HG.out hq)
          replace HV := hid_intro (blkW_grown HV.out hq (by simp; omega))
          replace HO := hid_intro (own_keepG HO.out hq (by omega))
          clear hA hq
          obtain ⟨u2, hu2⟩ : ∃ z, z = u1.alloc (.cells #[.string X, .int .i64 0] 54) := ⟨_, rfl⟩
          have al : Below u1.heap.size u1 u2 := by rw [hu2]; exact (Below.refl _ _).alloc (Nat.le_refl _) _
          have HQ : Hid (BlkW u1.heap.size [.string X, .int .i64 0] u2) := hid_intro (by rw [hu2]; exact BlkW.new u1 [.string X, .int .i64 0] 54)
          have hlq : bV < u1.heap.size := HV.out.1.1
          have HQO : Hid (∀ b, (.slice ha i hc : Value).ownBlock = some b → b < u1.heap.size) := hid_intro (fun b hb => (HO.out.lt b hb).2)
          replace HA := hid_intro (satt HA.out al)
          replace HG := hid_intro (gtrans HG.out (EvtR.rgrown al _))
          replace HV := hid_intro (HV.out.below al)
          replace HO := hid_intro (RowG.own_below HO.out al)
          have HW := hid_intro hu2
          obtain ⟨bQ, hbQ⟩ : ∃ z, z = u1.heap.size := ⟨_, rfl⟩
          rw [← hbQ] at HQ hlq HQO
          have HBQ := hid_intro hbQ
          clear hu2 hbQ al
          go_wp2_with fail
          rw [← HW.out, ← HBQ.out]
          clear HW HBQ
          refine (RD2.out _ HA.out).mono ?_
          rintro e u3 ⟨rfl, hA, hq⟩
          replace HQ := hid_intro (blkW_grown HQ.out hq (by simp; omega))
          replace HA := hid_intro hA
          replace HG := hid_intro (gtrans HG.out hq)
          replace HV := hid_intro (blkW_grown HV.out hq (by simp; omega))
          replace HO := hid_intro (own_keepG HO.out hq (by omega))
          clear hA hq
          have hl := HQ.out.1.1
          have vl := HV.out.1.1
          have v7 := HV.out.1.2 3 (by simp)
          have f7 := HV.out.2 3 (by simp)
          have hqv : bQ ≠ bV := by omega
          have hvq : bV ≠ bQ := by omega
          have hcc := HQ.out.1.2 1 (by simp)
          have hc0 := HQ.out.1.2 0 (by simp)
          have hff := HQ.out.2 1 (by simp)
          simp only [List.getElem?_cons_zero, List.getElem?_cons_succ] at hcc hc0 v7
          have hgs := RowG.grown_set u3 bQ 1 (.int .i64 Y)
          replace HA := hid_intro (HA.out.grown hgs (by simp; omega))
          replace HG := hid_intro (gnewG HG.out hgs (by omega))
          replace HV := hid_intro (blkW_grown HV.out hgs (by simp; omega))
          replace HO := hid_intro (own_keepO HO.out hgs (fun b hb => by have := HQO.out b hb; simp; omega))
          have hnw : ∀ j u, ([.string X, .int .i64 Y] : List Value)[j]? = some u → ((u3.setCell ⟨bQ, 1, none⟩ (.int .i64 Y)).alloc (.cells #[.string X, .int .i64 Y] 54)).cell? ((⟨u3.heap.size, 0, none⟩ : Addr).add j) = some u := by
            have h := new_cells (u3.setCell ⟨bQ, 1, none⟩ (.int .i64 Y)) [.string X, .int .i64 Y] 54
            simpa using h
          have HAL2 := hid_intro (fun b (hb : (.slice ha i hc : Value).ownBlock = some b) => (HO.out.lt b hb).1)
          have hbv : bV + 1 ≤ u3.heap.size := by omega
          clear hgs
          go_wp2_with (at_builtin; refine wpList_append_own _ rfl _ _ 27 rfl (bV + 1) 54 j0 (.agg #[.string ⟨#[]⟩, .int .i64 0]) 2 24 Try.underlying27 gi gz0 gz1 gz2 rfl (by decide) _ _ _ rfl (HO.out.alloc _) ⟨u3.heap.size, 0, none⟩ 1 1 [.string X, .int .i64 Y] rfl rfl hnw (ln_one _ _) ?d3 ?d4 ?d5 ?_)
          case d3 => unfold maxLen; omega
          case d4 => omega
          case d5 => simp; omega
          intro v9 w9 hown hgrow hne
          have hO9 : w9.ownsRow (bV + 1) 54 2 v9 (i + 1) (cellsAll N.cells (LH (i + 1))) := by rw [HLN.out, cellsAll_snoc]; exact hown
          have al := ((Below.refl _ (u3.setCell ⟨bQ, 1, none⟩ (.int .i64 Y))).alloc (Nat.le_refl _) (.cells #[.string X, .int .i64 Y] 54))
          replace HA := hid_intro ((satt HA.out al).grown hgrow (fun e => by have := HAL2.out _ e.symm; omega))
          replace HG := hid_intro (gnewR (gtrans HG.out (EvtR.rgrown al _)) hgrow (fun X e => by have := HAL2.out _ e; omega))
          replace HV := hid_intro (blkW_grown (HV.out.below al) hgrow (fun e => by have := HAL2.out _ e.symm; omega))
          obtain ⟨sb, sc, rfl⟩ := own_form hO9
          have HO9 := hid_intro hO9
          clear hown hgrow hne hnw hO9 al hl hcc hc0 hff vl v7 f7 HO HQ HAL2
          have vl := HV.out.1.1
          have v7 := HV.out.1.2 3 (by simp)
          have f7 := HV.out.2 3 (by simp)
          simp only [List.getElem?_cons_zero, List.getElem?_cons_succ] at v7
          have hgs := RowG.grown_set w9 bV 3 (.slice (some ⟨sb, 0, none⟩) (i + 1) sc)
          have HA9 := hid_intro (HA.out.grown hgs (by simp; omega))
          have HG9 := hid_intro (gnewG HG.out hgs (by omega))
          have HV9 := hid_intro (HV.out.set 3 (.slice (some ⟨sb, 0, none⟩) (i + 1) sc) (by simp))
          have HO8 := hid_intro (own_keepG HO9.out hgs (by omega))
          simp only [List.set_cons_zero, List.set_cons_succ] at HV9
          clear hgs HA HG HV HO9
          go_wp2_with fail
          go_roundw
          case rel => exact ⟨i + 1, some ⟨sb, 0, none⟩, sc, by omega, by go_num, HA9, HG9, HV9, HO8⟩
          case measure => simp [intOf]; omega
        · rcases exit_two heq3 hall3 hki with hex3 | ⟨hex3, hd3⟩
          · have HPN : Hid (SAfter (w.heap.size + 1) s (PD (k + 1)) wr) := hid_intro (by rw [← HPE.out, ← heq3]; exact HA.out)
            have HII : Hid (PD (k + 1) ≠ none → i = Dn) := hid_intro (fun h => hall3 (by rw [HPE.out]; exact h))
            clear hall3 heq3
            have v0 : wr.cell? ⟨bV, 0, none⟩ = some (.string a) := HV.out.1.2 0 (by simp)
            have v1 : wr.cell? ⟨bV, 1, none⟩ = some (.int .i64 mo) := HV.out.1.2 1 (by simp)
            have v2 : wr.cell? ⟨bV, 2, none⟩ = some (.int .i64 sq) := HV.out.1.2 2 (by simp)
            have v3 : wr.cell? ⟨bV, 3, none⟩ = some (.slice ha i hc) := HV.out.1.2 3 (by simp)
            have vl := HV.out.1.1
            have HO2 := hid_intro (own_keepG HX2.out HG.out (by omega))
            obtain ⟨w3, hw3⟩ : ∃ z, z = wr.alloc (.cells #[.string a, .int .i64 mo, .int .i64 sq, .slice ha i hc] 29) := ⟨_, rfl⟩
            have al : Below wr.heap.size wr w3 := by rw [hw3]; exact (Below.refl _ _).alloc (Nat.le_refl _) _
            have HAL := hid_intro al
            have HO3 := hid_intro (RowG.own_below HO2.out al)
            have HNW : Hid (∀ j u, ([.string a, .int .i64 mo, .int .i64 sq, .slice ha i hc] : List Value)[j]? = some u → w3.cell? ((⟨wr.heap.size, 0, none⟩ : Addr).add j) = some u) := hid_intro (by rw [hw3]; exact new_cells wr [.string a, .int .i64 mo, .int .i64 sq, .slice ha i hc] 29)
            have HW3 := hid_intro hw3
            have HS3 : Hid (w.heap.size + 2 ≤ w3.heap.size) := hid_intro (by have := al.size; omega)
            clear al hw3 HO2
            have hsz1 : k + 1 ≤ maxLen := by unfold maxLen; omega
            have hsz2 : (k + 1) * 56 ≤ 140737488355328 := by omega
            have HDO : Hid (∀ u ∈ ([.string a, .int .i64 mo, .int .i64 sq, .slice ha i hc] : List Value), u.oneCell' = true) := hid_intro (by intro u hu; simp at hu; rcases hu with rfl | rfl | rfl | rfl <;> rfl)
            go_wp2_with (at_builtin; rw [← HW3.out]; refine wpList_append_own _ rfl _ _ 23 rfl (w.heap.size + 2) 29 i0 (.agg #[.string ⟨#[]⟩, .int .i64 0, .int .i64 0, .slice none 0 0]) 4 56 Try.underlying23 hi hz0 hz1 hz2 rfl (by decide) _ _ _ rfl HO3.out ⟨wr.heap.size, 0, none⟩ 1 1 [.string a, .int .i64 mo, .int .i64 sq, .slice ha i hc] rfl rfl HNW.out HDO.out hsz1 hsz2 HS3.out ?_)
            intro v' w9 hown hgrow hne
            have HD9 : Hid (PD (k + 1) ≠ none → DsO (w.heap.size + 2) v' (LD (k + 1)) w9) := hid_intro (fun h => by
              have hin := HII.out h
              have hn : wr.ownsRow Wo.heap.size 54 2 (.slice ha ls.length hc) ls.length (cellsAll N.cells ls) := by
                have h9 := HO.out
                rw [hin, HHE.out, HDN.out] at h9
                exact OwG.own_low h9 (by omega)
              rw [HLM2.out]
              refine dso_step (d := ⟨a, mo, sq, ls⟩) HX1.out HX3.out HX4.out HG.out (by omega) HS.out hn HAL.out ?_ hgrow ?_
              · rw [HLL.out k]; exact HO3.out
              · rw [HLL.out k]
                have h8 := hown
                rw [hin, HDN.out] at h8
                exact h8)
            have HA9 := hid_intro ((satt HPN.out HAL.out).grown hgrow (fun e => by have := (HO3.out.lt _ e.symm).1; omega))
            have hgo9 : Below w.heap.size w wr := HB.out.grown HG.out HB.out.size (fun k e => by simp only [Option.some.injEq] at e; omega)
            have HB9 : Hid (Below w.heap.size w w9) := hid_intro ((hgo9.trans (HAL.out.mono hgo9.size)).grown hgrow (hgo9.trans (HAL.out.mono hgo9.size)).size (fun k e => by have := (HO3.out.lt k e).1; omega))
            have HP9 : Hid (Pt w.heap.size 6 w9) := hid_intro (pt_row ((pt_grownG HP.out HG.out (by omega)).below HAL.out) hgrow (fun e => by have := (HO3.out.lt _ e.symm).1; omega))
            have HS9 : Hid (w.heap.size + 2 ≤ w9.heap.size) := hid_intro (by have := hgrow.size; have := HS3.out; omega)
            clear hown hgrow hne hgo9
            go_wp2_with fail
            go_roundw
            case rel => exact ⟨k + 1, by omega, by go_num, HA9, HB9, HP9, HS9, HD9⟩
            case measure => simp [intOf]; omega
          · rw [hd3] at g2
            have HPN : Hid (SAfter (w.heap.size + 1) s (PD (k + 1)) wr) := hid_intro (by rw [← HPE.out, ← heq3]; exact HA.out)
            have HBN : Hid (PD (k + 1) = none) := hid_intro (by rw [← HPE.out, ← heq3]; exact of_decide_eq_true hd3)
            clear hd3 hall3 heq3
            have v0 : wr.cell? ⟨bV, 0, none⟩ = some (.string a) := HV.out.1.2 0 (by simp)
            have v1 : wr.cell? ⟨bV, 1, none⟩ = some (.int .i64 mo) := HV.out.1.2 1 (by simp)
            have v2 : wr.cell? ⟨bV, 2, none⟩ = some (.int .i64 sq) := HV.out.1.2 2 (by simp)
            have v3 : wr.cell? ⟨bV, 3, none⟩ = some (.slice ha i hc) := HV.out.1.2 3 (by simp)
            have vl := HV.out.1.1
            have HO2 := hid_intro (own_keepG HX2.out HG.out (by omega))
            obtain ⟨w3, hw3⟩ : ∃ z, z = wr.alloc (.cells #[.string a, .int .i64 mo, .int .i64 sq, .slice ha i hc] 29) := ⟨_, rfl⟩
            have al : Below wr.heap.size wr w3 := by rw [hw3]; exact (Below.refl _ _).alloc (Nat.le_refl _) _
            have HAL := hid_intro al
            have HO3 := hid_intro (RowG.own_below HO2.out al)
            have HNW : Hid (∀ j u, ([.string a, .int .i64 mo, .int .i64 sq, .slice ha i hc] : List Value)[j]? = some u → w3.cell? ((⟨wr.heap.size, 0, none⟩ : Addr).add j) = some u) := hid_intro (by rw [hw3]; exact new_cells wr [.string a, .int .i64 mo, .int .i64 sq, .slice ha i hc] 29)
            have HW3 := hid_intro hw3
            have HS3 : Hid (w.heap.size + 2 ≤ w3.heap.size) := hid_intro (by have := al.size; omega)
            clear al hw3 HO2
            have hsz1 : k + 1 ≤ maxLen := by unfold maxLen; omega
            have hsz2 : (k + 1) * 56 ≤ 140737488355328 := by omega
            have HDO : Hid (∀ u ∈ ([.string a, .int .i64 mo, .int .i64 sq, .slice ha i hc] : List Value), u.oneCell' = true) := hid_intro (by intro u hu; simp at hu; rcases hu with rfl | rfl | rfl | rfl <;> rfl)
            go_wp2_with (at_builtin; rw [← HW3.out]; refine wpList_append_own _ rfl _ _ 23 rfl (w.heap.size + 2) 29 i0 (.agg #[.string ⟨#[]⟩, .int .i64 0, .int .i64 0, .slice none 0 0]) 4 56 Try.underlying23 hi hz0 hz1 hz2 rfl (by decide) _ _ _ rfl HO3.out ⟨wr.heap.size, 0, none⟩ 1 1 [.string a, .int .i64 mo, .int .i64 sq, .slice ha i hc] rfl rfl HNW.out HDO.out hsz1 hsz2 HS3.out ?_)
            intro v' w9 hown hgrow hne
            have HD9 : Hid (PD (k + 1) ≠ none → DsO (w.heap.size + 2) v' (LD (k + 1)) w9) := hid_intro (fun h => absurd HBN.out h)
            have HA9 := hid_intro ((satt HPN.out HAL.out).grown hgrow (fun e => by have := (HO3.out.lt _ e.symm).1; omega))
            have hgo9 : Below w.heap.size w wr := HB.out.grown HG.out HB.out.size (fun k e => by simp only [Option.some.injEq] at e; omega)
            have HB9 : Hid (Below w.heap.size w w9) := hid_intro ((hgo9.trans (HAL.out.mono hgo9.size)).grown hgrow (hgo9.trans (HAL.out.mono hgo9.size)).size (fun k e => by have := (HO3.out.lt k e).1; omega))
            have HP9 : Hid (Pt w.heap.size 6 w9) := hid_intro (pt_row ((pt_grownG HP.out HG.out (by omega)).below HAL.out) hgrow (fun e => by have := (HO3.out.lt _ e.symm).1; omega))
            have HS9 : Hid (w.heap.size + 2 ≤ w9.heap.size) := hid_intro (by have := hgrow.size; have := HS3.out; omega)
            clear hown hgrow hne hgo9
            go_wp2_with fail
            go_roundw
            case rel => exact ⟨k + 1, by omega, by go_num, HA9, HB9, HP9, HS9, HD9⟩
            case measure => simp [intOf]; omega
    · rcases exit_two heq hall hk with hex | ⟨hex, hd⟩
      · by_cases hn : PD k = none
        · have HNO : Hid (¬ (PD C ≠ none ∧ s.size ≠ 0 ∧ T = s)) := hid_intro (fun q => q.1 (by rw [← heq]; exact hn))
          rw [decide_eq_true hn] at g2
          clear heq hall hn
          have hp9 := HP.out
          have hl9 := hp9.lt
          obtain ⟨ov0, r0⟩ := hp9.has 0 (by omega)
          have f0 := hp9.free 0 (by omega)
          obtain ⟨ov1, r1⟩ := hp9.has 1 (by omega)
          have f1 := hp9.free 1 (by omega)
          obtain ⟨ov2, r2⟩ := hp9.has 2 (by omega)
          have f2 := hp9.free 2 (by omega)
          obtain ⟨ov3, r3⟩ := hp9.has 3 (by omega)
          have f3 := hp9.free 3 (by omega)
          obtain ⟨ov4, r4⟩ := hp9.has 4 (by omega)
          have f4 := hp9.free 4 (by omega)
          obtain ⟨ov5, r5⟩ := hp9.has 5 (by omega)
          have f5 := hp9.free 5 (by omega)
          have hgf := StR.stL_grown w.heap.size [.slice none 0 0, .string ⟨#[]⟩, .int .i64 0, .int .i64 0, .slice none 0 0, .int .i64 3] 0 wr
          have HBF := hid_intro (HB.out.grown hgf HB.out.size (fun k e => by simp only [Option.some.injEq] at e; omega))
          simp only [StR.stL, Nat.zero_add, Nat.reduceAdd] at HBF
          clear hgf hp9
          go_wp2_with fail
          refine bodyPost_ret (v := .agg #[.slice none 0 0, .string ⟨#[]⟩, .int .i64 0, .int .i64 0, .slice none 0 0, .int .i64 3]) (by simp [results, Try.results11, go_sem, r0, r1, r2, r3, r4, r5]) rfl (spl_bad HNO.out HBF.out)
        · have hDn : PD C ≠ none := by rw [← heq]; exact hn
          obtain rfl : k = C := hall hDn
          rw [decide_eq_false hn] at g2
          clear heq hall
          have HDs := hid_intro (HD.out hn)
          clear HD
          by_cases h0 : s.size = 0
          · have he := EvtR.empty_of s h0
            have HNO : Hid (¬ (PD k ≠ none ∧ s.size ≠ 0 ∧ T = s)) := hid_intro (fun q => q.2.1 h0)
            have hp9 := HP.out
            have hl9 := hp9.lt
            obtain ⟨ov0, r0⟩ := hp9.has 0 (by omega)
            have f0 := hp9.free 0 (by omega)
            obtain ⟨ov1, r1⟩ := hp9.has 1 (by omega)
            have f1 := hp9.free 1 (by omega)
            obtain ⟨ov2, r2⟩ := hp9.has 2 (by omega)
            have f2 := hp9.free 2 (by omega)
            obtain ⟨ov3, r3⟩ := hp9.has 3 (by omega)
            have f3 := hp9.free 3 (by omega)
            obtain ⟨ov4, r4⟩ := hp9.has 4 (by omega)
            have f4 := hp9.free 4 (by omega)
            obtain ⟨ov5, r5⟩ := hp9.has 5 (by omega)
            have f5 := hp9.free 5 (by omega)
            have hgf := StR.stL_grown w.heap.size [.slice none 0 0, .string ⟨#[]⟩, .int .i64 0, .int .i64 0, .slice none 0 0, .int .i64 3] 0 wr
            have HBF := hid_intro (HB.out.grown hgf HB.out.size (fun k e => by simp only [Option.some.injEq] at e; omega))
            simp only [StR.stL, Nat.zero_add, Nat.reduceAdd] at HBF
            clear hgf hp9
            go_wp2_with fail
            refine bodyPost_ret (v := .agg #[.slice none 0 0, .string ⟨#[]⟩, .int .i64 0, .int .i64 0, .slice none 0 0, .int .i64 3]) (by simp [results, Try.results11, go_sem, r0, r1, r2, r3, r4, r5]) rfl (spl_bad HNO.out HBF.out)
          · obtain ⟨he, he2⟩ := EvtR.full_of s h0
            obtain ⟨ao, cap, rfl, hdc⟩ := HDs.out.dcs
            have HCW := hid_intro (HWB.out ao cap wr hdc)
            rw [HLL.out k] at HDs ⊢
            clear hdc
            by_cases hTs : T = s
            · have hq : (T.toList == s.toList) = true := by rw [hTs]; simp
              have HOK : Hid (PD k ≠ none ∧ s.size ≠ 0 ∧ T = s) := hid_intro ⟨hn, h0, hTs⟩
              clear hTs
              go_wp2_with fail
              refine HCW.out.mono ?_
              rintro e wJ ⟨rfl, hbJ⟩
              replace HB := hid_intro (HB.out.trans (hbJ.mono HB.out.size))
              replace HP := hid_intro (HP.out.below hbJ)
              replace HDs := hid_intro (HDs.out.below hbJ)
              clear hbJ HA gl g0 g1 g2 gf0 gf1 gf2 HCW
              have hp9 := HP.out
              have hl9 := hp9.lt
              obtain ⟨ov0, r0⟩ := hp9.has 0 (by omega)
              have f0 := hp9.free 0 (by omega)
              obtain ⟨ov1, r1⟩ := hp9.has 1 (by omega)
              have f1 := hp9.free 1 (by omega)
              obtain ⟨ov2, r2⟩ := hp9.has 2 (by omega)
              have f2 := hp9.free 2 (by omega)
              obtain ⟨ov3, r3⟩ := hp9.has 3 (by omega)
              have f3 := hp9.free 3 (by omega)
              obtain ⟨ov4, r4⟩ := hp9.has 4 (by omega)
              have f4 := hp9.free 4 (by omega)
              obtain ⟨ov5, r5⟩ := hp9.has 5 (by omega)
              have f5 := hp9.free 5 (by omega)
              have hgf := StR.stL_grown w.heap.size [.slice ao k cap, .string ⟨#[]⟩, .int .i64 0, .int .i64 0, .slice none 0 0, .int .i64 0] 0 wJ
              have HBF := hid_intro (HB.out.grown hgf HB.out.size (fun k e => by simp only [Option.some.injEq] at e; omega))
              have HDF := hid_intro (HDs.out.far hgf (by omega))
              simp only [StR.stL, Nat.zero_add, Nat.reduceAdd] at HBF HDF
              clear hgf hp9
              go_wp2_with fail
              refine bodyPost_ret (v := .agg #[.slice ao k cap, .string ⟨#[]⟩, .int .i64 0, .int .i64 0, .slice none 0 0, .int .i64 0]) (by simp [results, Try.results11, go_sem, r0, r1, r2, r3, r4, r5]) rfl (spl_ok HOK.out (HDF.out.low (by omega)) HBF.out)
            · have hq : (T.toList == s.toList) = false := by
                simp only [beq_eq_false_iff_ne, ne_eq]
                exact fun h => hTs (LtR.toList_inj h)
              have HNO : Hid (¬ (PD k ≠ none ∧ s.size ≠ 0 ∧ T = s)) := hid_intro (fun q => hTs q.2.2)
              have hqn : T.toList ≠ s.toList := fun h => hTs (LtR.toList_inj h)
              clear hTs
              go_wp2_with fail
              refine HCW.out.mono ?_
              rintro e wJ ⟨rfl, hbJ⟩
              replace HB := hid_intro (HB.out.trans (hbJ.mono HB.out.size))
              replace HP := hid_intro (HP.out.below hbJ)
              replace HDs := hid_intro (HDs.out.below hbJ)
              clear hbJ HA gl g0 g1 g2 gf0 gf1 gf2 HCW
              have hp9 := HP.out
              have hl9 := hp9.lt
              obtain ⟨ov0, r0⟩ := hp9.has 0 (by omega)
              have f0 := hp9.free 0 (by omega)
              obtain ⟨ov1, r1⟩ := hp9.has 1 (by omega)
              have f1 := hp9.free 1 (by omega)
              obtain ⟨ov2, r2⟩ := hp9.has 2 (by omega)
              have f2 := hp9.free 2 (by omega)
              obtain ⟨ov3, r3⟩ := hp9.has 3 (by omega)
              have f3 := hp9.free 3 (by omega)
              obtain ⟨ov4, r4⟩ := hp9.has 4 (by omega)
              have f4 := hp9.free 4 (by omega)
              obtain ⟨ov5, r5⟩ := hp9.has 5 (by omega)
              have f5 := hp9.free 5 (by omega)
              have hgf := StR.stL_grown w.heap.size [.slice none 0 0, .string ⟨#[]⟩, .int .i64 0, .int .i64 0, .slice none 0 0, .int .i64 3] 0 wJ
              have HBF := hid_intro (HB.out.grown hgf HB.out.size (fun k e => by simp only [Option.some.injEq] at e; omega))
              simp only [StR.stL, Nat.zero_add, Nat.reduceAdd] at HBF
              clear hgf hp9
              go_wp2_with fail
              refine bodyPost_ret (v := .agg #[.slice none 0 0, .string ⟨#[]⟩, .int .i64 0, .int .i64 0, .slice none 0 0, .int .i64 3]) (by simp [results, Try.results11, go_sem, r0, r1, r2, r3, r4, r5]) rfl (spl_bad HNO.out HBF.out)
      · have hn : PD k = none := of_decide_eq_true hd
        have HNO : Hid (¬ (PD C ≠ none ∧ s.size ≠ 0 ∧ T = s)) := hid_intro (fun q => q.1 (by rw [← heq]; exact hn))
        rw [hd] at g2
        clear heq hall hn
        have hp9 := HP.out
        have hl9 := hp9.lt
        obtain ⟨ov0, r0⟩ := hp9.has 0 (by omega)
        have f0 := hp9.free 0 (by omega)
        obtain ⟨ov1, r1⟩ := hp9.has 1 (by omega)
        have f1 := hp9.free 1 (by omega)
        obtain ⟨ov2, r2⟩ := hp9.has 2 (by omega)
        have f2 := hp9.free 2 (by omega)
        obtain ⟨ov3, r3⟩ := hp9.has 3 (by omega)
        have f3 := hp9.free 3 (by omega)
        obtain ⟨ov4, r4⟩ := hp9.has 4 (by omega)
        have f4 := hp9.free 4 (by omega)
        obtain ⟨ov5, r5⟩ := hp9.has 5 (by omega)
        have f5 := hp9.free 5 (by omega)
        have hgf := StR.stL_grown w.heap.size [.slice none 0 0, .string ⟨#[]⟩, .int .i64 0, .int .i64 0, .slice none 0 0, .int .i64 3] 0 wr
        have HBF := hid_intro (HB.out.grown hgf HB.out.size (fun k e => by simp only [Option.some.injEq] at e; omega))
        simp only [StR.stL, Nat.zero_add, Nat.reduceAdd] at HBF
        clear hgf hp9
        go_wp2_with fail
        refine bodyPost_ret (v := .agg #[.slice none 0 0, .string ⟨#[]⟩, .int .i64 0, .int .i64 0, .slice none 0 0, .int .i64 3]) (by simp [results, Try.results11, go_sem, r0, r1, r2, r3, r4, r5]) rfl (spl_bad HNO.out HBF.out)
end LedR
end Go.Proofs.Ytbecgngmpjajaaa
namespace Go.Proofs.Ytbecgngmpjajaaa
open Go.ChangeShapes Go.WideShapes Go.ChangeAt Go.RowKit
set_option linter.unusedVariables false
namespace LedR
open OwG LinR DocR
open RowG (MadeG Rws cellsAll hid_intro)
open EvtR (Pt After SAfter rT pT rN pN rC pC rC_le rT_size)
open CatR (Blk Blk.new)
set_option maxHeartbeats 4000000 in
theorem ilbig (s : ByteArray) (w : World) (h : 8000 < s.size) (hm : s.size ≤ 1048576) :
    Calls Try.prog 7 #[.string s] w fun e w' => e = .returned (.agg #[.slice none 0 0, .string ⟨#[]⟩, .int .i64 0, .int .i64 0, .slice none 0 0, .int .i64 2]) ∧ Below w.heap.size w w' := by
  have h8 : (8000 : Int) < (s.size : Int) := by omega
  go_enter Try.func7, Try.ntmps7
  go_wp2_with fail
  refine bodyPost_ret (v := .agg #[.slice none 0 0, .string ⟨#[]⟩, .int .i64 0, .int .i64 0, .slice none 0 0, .int .i64 2]) (by simp [results, Try.results7, go_sem]) rfl ⟨rfl, ?_⟩
  repeat' first | exact Below.refl _ _ | apply Below.setCell | apply Below.alloc
  all_goals first | omega | (simp; done) | (simp; omega)
set_option maxHeartbeats 4000000 in
theorem slbig (s : ByteArray) (w : World) (h : 8000 < s.size) (hm : s.size ≤ 1048576) :
    Calls Try.prog 11 #[.string s] w fun e w' => e = .returned (.agg #[.slice none 0 0, .string ⟨#[]⟩, .int .i64 0, .int .i64 0, .slice none 0 0, .int .i64 2]) ∧ Below w.heap.size w w' := by
  have h8 : (8000 : Int) < (s.size : Int) := by omega
  go_enter Try.func11, Try.ntmps11
  go_wp2_with fail
  refine bodyPost_ret (v := .agg #[.slice none 0 0, .string ⟨#[]⟩, .int .i64 0, .int .i64 0, .slice none 0 0, .int .i64 2]) (by simp [results, Try.results11, go_sem]) rfl ⟨rfl, ?_⟩
  repeat' first | exact Below.refl _ _ | apply Below.setCell | apply Below.alloc
  all_goals first | omega | (simp; done) | (simp; omega)
theorem smanyL (g : Nat) (s : ByteArray) (o : Option Nat) (M : Nat) (w : World) (hs : s.size ≤ 8000) (h : SAfter g s o w) :
    Calls Try.prog 27 #[.pointer (some ⟨g, 0, none⟩), .int .i64 M] w fun e w' => e = .returned (.int .i64 (rC s o M : Nat)) ∧ SAfter g s (pC s o M) w' ∧ w.grownBy w' (some g) := by
  refine (EvtR.many_any g s o M w hs h).mono ?_
  intro e w' hh
  unfold rC pC
  by_cases q : 0 ≤ rN s o ∧ rN s o ≤ ((M : Nat) : Int)
  · rw [if_pos q] at hh
    rw [if_pos q, if_pos q]
    obtain ⟨⟨rfl, h1⟩, h2⟩ := hh
    exact ⟨by rw [Int.toNat_of_nonneg q.1], h1, h2⟩
  · rw [if_neg q] at hh
    rw [if_neg q, if_neg q]
    obtain ⟨⟨rfl, h1⟩, h2⟩ := hh
    exact ⟨rfl, h1, h2⟩
theorem docRd_of (g : Nat) (s : ByteArray) (o : Option Nat) (hs : s.size ≤ 8000) : DocRd g s o (docP s o) (docR s o) := by
  refine ⟨pT s o, pN s (pT s o), dO3 s o, fun i => (lnsR s (dO4 s o) i).2, fun i => (lnsR s (dO4 s o) i).1, fun i => rT s (lnsR s (dO4 s o) i).2, fun i => rN s (pT s (lnsR s (dO4 s o) i).2), fun W h => EvtR.srtext g s _ W hs h, fun W h => EvtR.srnum g s _ W hs h, fun W h => EvtR.srnum g s _ W hs h, ?_, ?_, ?_, ?_, rfl, ?_, ?_, ?_⟩
  · intro W h
    rw [docR_len]
    exact smanyL g s _ 6 W hs h
  · intro i
    refine ⟨pT s (lnsR s (dO4 s o) i).2, fun W h => EvtR.srtext g s _ W hs h, ?_⟩
    try dsimp only
    rw [lnsR_snoc]
    exact fun W h => EvtR.srnum g s _ W hs h
  · intro i h
    try dsimp only at h ⊢
    rw [lnsR_snoc, h]
    rfl
  · dsimp only
    rw [docR_len]
    rfl
  · intro i
    try dsimp only
    rw [lnsR_snoc]
  · dsimp only
    rw [docR_len]
    rfl
  · rw [docR_len]
    exact rC_le s _ 6
theorem idoc_of (g : Nat) (s : ByteArray) (o : Option Nat) (w : World) (hs : s.size ≤ 8000) (hA : After g s o w) :
    Calls Try.prog 21 #[.pointer (some ⟨g, 0, none⟩)] w fun e w' => ∃ la lc, e = .returned (.agg #[.string (docR s o).a, .int .i64 (docR s o).mo, .int .i64 (docR s o).sq, .slice la (docR s o).ls.length lc]) ∧ w'.ownsRow w.heap.size 54 2 (.slice la (docR s o).ls.length lc) (docR s o).ls.length (cellsAll N.cells (docR s o).ls) ∧ After g s (docP s o) w' ∧ w.grownBy w' (some g) := by
  rw [docR_len]
  exact idoc_in g s o (pT s o) (pN s (pT s o)) (dO3 s o) _ _ _ (dC s o) (fun i => (lnsR s (dO4 s o) i).2) (fun i => (lnsR s (dO4 s o) i).1) (fun i => rT s (lnsR s (dO4 s o) i).2) (fun i => rN s (pT s (lnsR s (dO4 s o) i).2)) w hA (fun w h => EvtR.rword g s _ w hs h) (fun w h => EvtR.rnum g s _ w hs h) (fun w h => EvtR.rnum g s _ w hs h) (fun w h => EvtR.rcount g s _ 6 w hs h)
    (fun i => ⟨pT s (lnsR s (dO4 s o) i).2, fun w h => EvtR.rword g s _ w hs h, by
      try dsimp only
      rw [lnsR_snoc]
      exact fun w h => EvtR.rnum g s _ w hs h⟩)
    (rC_le s _ 6) rfl (fun i => by (try dsimp only); rw [lnsR_snoc])
/-- What both sides hand back of a text that is not too long. -/
theorem lread_ways (s : ByteArray) (hs : s.size ≤ 8000) :
    (∀ w, Calls Try.prog 7 #[.string s] w fun e w' => (((decide (oDE s = some s.size) && lB (dsR s)) = false ∧ e = .returned (.agg #[.slice none 0 0, .string ⟨#[]⟩, .int .i64 0, .int .i64 0, .slice none 0 0, .int .i64 3])) ∨ ((decide (oDE s = some s.size) && lB (dsR s)) = true ∧ ∃ ao cap, e = .returned (.agg #[.slice ao (nD s) cap, .string ⟨#[]⟩, .int .i64 0, .int .i64 0, .slice none 0 0, .int .i64 0]) ∧ DsO w.heap.size (.slice ao (nD s) cap) (dsR s) w')) ∧ Below w.heap.size w w') ∧
    (∀ w, Calls Try.prog 11 #[.string s] w (SPL s (lbB (dsR s)) (oDE s) (nD s) (dsR s) w)) := by
  have eL : (docsR s (oD0 s) (nD s)).1 = dsR s := rfl
  have hlen := dsR_le s
  have hsm : ∀ d ∈ dsR s, d.Sm := docsR_all s (docR_sm s) _ _
  have h6 : ∀ d ∈ dsR s, d.ls.length ≤ 6 := docsR_all (P := fun d => d.ls.length ≤ 6) s (fun o => by rw [docR_len]; exact rC_le s _ 6) _ _
  have hwf : ∀ d ∈ dsR s, (Lit.int .i64 d.mo).wf = true := docsR_all (P := fun d => (Lit.int .i64 d.mo).wf = true) s (docR_wf s) _ _
  have hi := fun w => ilr_in s (nD s) (fun k => (docsR s (oD0 s) k).2) (fun k => (docsR s (oD0 s) k).1) (fun k => docR s (docsR s (oD0 s) k).2) (decide (oDE s = some s.size)) (lB (dsR s)) w hs (rC_le s _ 30) (fun g w h => EvtR.rcount g s _ 30 w hs h)
    (fun k g w h => by
      try dsimp only
      rw [docsR_snoc]
      exact idoc_of g s _ w hs h)
    (fun g W q => EvtR.ended_any g s _ W hs q) (fun ao cap W q => by
      have h := impl_ledger ao cap (dsR s) W (by omega) hsm hwf q
      rw [dsR_len] at h
      exact h)
    rfl (fun k => by (try dsimp only); rw [docsR_snoc]) (fun k => docsR_len s k _)
  have hS := fun w => slr_in s (nD s) (fun k => (docsR s (oD0 s) k).2) (fun k => (docsR s (oD0 s) k).1) (fun k => docR s (docsR s (oD0 s) k).2) (lbB (dsR s)) w hs (rC_le s _ 30) (fun g W h => smanyL g s _ 30 W hs h)
    (fun k g => by
      try dsimp only
      rw [docsR_snoc]
      exact docRd_of g s _ hs)
    (fun k h => by
      try dsimp only at h ⊢
      rw [docsR_snoc, h]
      exact docP_none s)
    (fun ao cap W q => by
      have h := spec_lb ao cap (dsR s) W (by omega) hsm q
      rw [dsR_len] at h
      exact h)
    rfl (fun k => by (try dsimp only); rw [docsR_snoc]) (fun k => docsR_len s k _)
  exact ⟨hi, hS⟩
/-- For every text there is one answer. -/
theorem lread_both (s : ByteArray) (hm : s.size ≤ 1048576) : ∃ (ds : List D) (cd : Int), ds.length ≤ 30 ∧ (∀ d ∈ ds, d.Sm ∧ d.ls.length ≤ 6) ∧
    (∀ w, Calls Try.prog 7 #[.string s] w fun e w' => ∃ v, e = .returned v ∧ LoO w.heap.size v ds D.zero cd w' ∧ Below w.heap.size w w') ∧
    (∀ w, Calls Try.prog 11 #[.string s] w fun e w' => ∃ v, e = .returned v ∧ LoO w.heap.size v ds D.zero cd w' ∧ Below w.heap.size w w') := by
  by_cases h8 : 8000 < s.size
  · refine ⟨[], 2, by simp, (fun d h => absurd h (by simp)), fun w => (ilbig s w h8 hm).mono ?_, fun w => (slbig s w h8 hm).mono ?_⟩
    · rintro e w' ⟨rfl, hb⟩
      exact ⟨_, rfl, loO_of (dso_nil _ _), hb⟩
    · rintro e w' ⟨rfl, hb⟩
      exact ⟨_, rfl, loO_of (dso_nil _ _), hb⟩
  have hs : s.size ≤ 8000 := by omega
  have hlen := dsR_le s
  have hsm : ∀ d ∈ dsR s, d.Sm := docsR_all s (docR_sm s) _ _
  have h6 : ∀ d ∈ dsR s, d.ls.length ≤ 6 := docsR_all (P := fun d => d.ls.length ≤ 6) s (fun o => by rw [docR_len]; exact rC_le s _ 6) _ _
  obtain ⟨hi, hS⟩ := lread_ways s hs
  have key := led_same s hs
  by_cases hr : oDE s = some s.size ∧ lB (dsR s) = true
  · refine ⟨dsR s, 0, hlen, fun d hd => ⟨hsm d hd, h6 d hd⟩, fun w => (hi w).mono ?_, fun w => (hS w).mono ?_⟩
    · rintro e w' ⟨⟨q, _⟩ | ⟨_, ao, cap, rfl, hd⟩, hb⟩
      · rw [hr.2, decide_eq_true hr.1] at q
        cases q
      · exact ⟨_, rfl, loO_of hd, hb⟩
    · rintro e w' ⟨⟨q, _⟩ | ⟨_, ao, cap, rfl, hd⟩, hb⟩
      · exact absurd (key.2 hr) q
      · exact ⟨_, rfl, loO_of hd, hb⟩
  · refine ⟨[], 3, by simp, (fun d h => absurd h (by simp)), fun w => (hi w).mono ?_, fun w => (hS w).mono ?_⟩
    · rintro e w' ⟨⟨_, rfl⟩ | ⟨q, _⟩, hb⟩
      · exact ⟨_, rfl, loO_of (dso_nil _ _), hb⟩
      · rw [Bool.and_eq_true, decide_eq_true_eq] at q
        exact absurd q hr
    · rintro e w' ⟨⟨_, rfl⟩ | ⟨q, _⟩, hb⟩
      · exact ⟨_, rfl, loO_of (dso_nil _ _), hb⟩
      · exact absurd (key.1 q) hr
end LedR
end Go.Proofs.Ytbecgngmpjajaaa
