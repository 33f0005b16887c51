/-
  The window of one event, the model's way, and both ways. The conditions: texts of at most 1048576 bytes; the program's table stands in its variable.
  A window and an event added: both sides hand back the same. The conditions: the lists and texts are short enough; the program's table stands in its variable.
  Tiers, meters, credits and catalogs as rows of cells. No condition.
  Tiers, meters, credits and catalogs that came in, read as rows. No condition.
  A window that came in, read as rows. No condition.
  The law's own helpers over an event: its size, and its copy. No condition.
  An event that came in, opened: its cells are four texts and two numbers. No condition.
  From the row's premise on the program's table to the walk's: its variable holds the months' days; and a world that meets the premise. No condition.
-/
import Derived.Deep.Fields
import Derived.OpenVars
import Derived.Carry
import Derived.ChangeMaps5
import Derived.Lib.SmallJoins
import Derived.DataReads
import Derived.Test.YtnlmpejgiakepaaDoorTie
import Derived.ChangeSame
import Derived.ChangeVars
import Derived.JoinedOf
import Derived.ProofKit
import Derived.LaidLaws
import Derived.LaidMore
import Derived.LaidHandle
import Derived.MakeChecks
import Derived.Lib.LaidTab
import Derived.Stop.Joined
import Derived.Test.YtnlmpejgiakepaaDoorA7
namespace Go.Proofs.YtnlmpejgiakepaaDoor
open Go.ChangeShapes Go.WideShapes Go.ChangeAt Go.RowKit
set_option linter.unusedVariables false
namespace WinR
open RowG (MadeG Rws)
open EvtR (Pt ev evB empty_of full_of)
open CatR (Blk Blk.new)
open DateR (Laid)
/-- A window whose lists lie behind a number. -/
def NewW (base : Nat) (x : Wd) (v : Value) (w : World) : Prop := ∃ ta tc ha hc, v = .agg (wcells x ta tc ha hc) ∧ Tgs ta x.ts w ∧ Hrs ha x.hs w ∧ (x.ts.length = 0 ∨ ∀ b off, ta = some ⟨b, off, none⟩ → base ≤ b) ∧ (x.hs.length = 0 ∨ ∀ b off, ha = some ⟨b, off, none⟩ → base ≤ b)
theorem NewW.is {base : Nat} {x : Wd} {v : Value} {w : World} (h : NewW base x v w) : IsWd v x w := by
 obtain ⟨ta, tc, ha, hc, hv, h1, h2, _⟩ := h
 exact ⟨ta, tc, ha, hc, hv, h1, h2⟩
theorem Tgs.put {ao : Option Addr} {ts : List ByteArray} {w : World} (h : Tgs ao ts w) (g o : Nat) (v : Value) (hne : ts.length = 0 ∨ ∀ b off, ao = some ⟨b, off, none⟩ → b ≠ g) : Tgs ao ts (w.setCell ⟨g, o, none⟩ v) := Rws.put h g o v hne
set_option maxRecDepth 100000 in
set_option maxHeartbeats 16000000 in
theorem sof_in (i a m t : ByteArray) (n k mo : Int) (w : World) (n1 : 0 ≤ n) (n2 : n ≤ 121000000) (hmo : ∀ w, Calls Tryd.prog 51 #[.int .i64 n] w fun e w' => e = .returned (.int .i64 mo) ∧ Below w.heap.size w w') :
  Calls Tryd.prog 24 #[ev i a m n k t] w fun e w' => ∃ v, e = .returned v ∧ NewW w.heap.size ⟨a, m, mo, 1, k, k, tgl t, [⟨HourR.hourV n, k⟩]⟩ v w' ∧ Below w.heap.size w w' := by
 obtain ⟨b1, b2⟩ := HourR.hour_bd n n1 n2
 have eh : HourR.hourV n = n.tdiv 60 := by unfold HourR.hourV; rw [if_pos ⟨n1, n2⟩]
 rw [eh]
 have HMo := hid_intro hmo
 generalize hqq : n.tdiv 60 = hq at *
 have HT0 := hid_intro (fun (h : t.size = 0) => tgl_no h)
 have HT1 := hid_intro (fun (h : ¬ t.size = 0) => tgl_yes h)
 generalize tgl t = ts at *
 obtain ⟨tl, htl⟩ : ∃ tl, tl = ts.length := ⟨_, rfl⟩
 have HTL := hid_intro htl
 clear htl hmo eh
 have hwr : IntKind.i64.wrap hq = hq := IntWalk.i64_in hq ⟨by omega, by omega⟩
 unfold ev
 obtain ⟨W0, hW0⟩ : ∃ W0, W0 = ((w.alloc (.cells #[.string i, .string a, .string m, .int .i64 n, .int .i64 k, .string t] 37)).alloc (.cells #[.string ⟨#[]⟩, .string ⟨#[]⟩, .int .i64 0, .int .i64 0, .int .i64 0, .int .i64 0, .slice none 0 0, .slice none 0 0] 32)) := ⟨_, rfl⟩
 have HW0 := hid_intro hW0
 have HB0 : Hid (Below w.heap.size w W0) := hid_intro (by rw [hW0]; exact ((Below.refl _ _).alloc (Nat.le_refl _) _).alloc (by simp) _)
 have HX0 : Hid (Blk w.heap.size [.string i, .string a, .string m, .int .i64 n, .int .i64 k, .string t] W0) := hid_intro (by rw [hW0]; exact (Blk.new w [.string i, .string a, .string m, .int .i64 n, .int .i64 k, .string t] 37).below ((Below.refl _ _).alloc (Nat.le_refl _) (Obj.cells #[.string ⟨#[]⟩, .string ⟨#[]⟩, .int .i64 0, .int .i64 0, .int .i64 0, .int .i64 0, .slice none 0 0, .slice none 0 0] 32)))
 have HY0 : Hid (BlkW (w.heap.size + 1) [.string ⟨#[]⟩, .string ⟨#[]⟩, .int .i64 0, .int .i64 0, .int .i64 0, .int .i64 0, .slice none 0 0, .slice none 0 0] W0) := hid_intro (by
  have h := BlkW.new (w.alloc (.cells #[.string i, .string a, .string m, .int .i64 n, .int .i64 k, .string t] 37)) [.string ⟨#[]⟩, .string ⟨#[]⟩, .int .i64 0, .int .i64 0, .int .i64 0, .int .i64 0, .slice none 0 0, .slice none 0 0] 32
  rw [show (w.alloc (.cells #[.string i, .string a, .string m, .int .i64 n, .int .i64 k, .string t] 37)).heap.size = w.heap.size + 1 by simp] at h
  rw [hW0]
  exact h)
 have HWS : Hid (W0.heap.size = w.heap.size + 2) := hid_intro (by rw [hW0]; simp)
 clear hW0
 have HS0 : Hid (UOx w.heap.size W0 a m n k W0.drew) := hid_intro (UOx.below ⟨Below.refl _ _, HX0.out.1, HX0.out.2 1 (by simp), HX0.out.2 2 (by simp), HX0.out.2 3 (by simp), HX0.out.2 4 (by simp)⟩ (Below.refl _ _).drew)
 go_enter Tryd.func24, Tryd.ntmps24
 go_wp2_with fail
 rw [← HW0.out]
 go_cut [3] from 4 to 22 (fun v wx => ∃ V HB, v = .pointer (some ⟨V, 0, none⟩) ∧ W0.heap.size ≤ V ∧ W0.heap.size ≤ HB ∧ HB ≠ V ∧ Hid (Below W0.heap.size W0 wx) ∧ Hid (BlkW V [.string a, .string m, .int .i64 mo, .int .i64 1, .int .i64 k, .int .i64 k, .slice none 0 0, .slice (some ⟨HB, 0, none⟩) 1 1] wx) ∧ Hid (Hrs (some ⟨HB, 0, none⟩) [⟨hq, k⟩] wx))
 case first =>
  clear HW0
  refine wp_region_held_drew (S := (fun W => Below W0.heap.size W0 W ∧ w.heap.size < W0.heap.size ∧ W.cell? ⟨w.heap.size, 1, none⟩ = some (.string a) ∧ W.cell? ⟨w.heap.size, 2, none⟩ = some (.string m) ∧ W.cell? ⟨w.heap.size, 3, none⟩ = some (.int .i64 n) ∧ W.cell? ⟨w.heap.size, 4, none⟩ = some (.int .i64 k))) (by kernel_rfl) HS0.out (fun hHeld => ?_)
  obtain ⟨Wd, hWd⟩ : ∃ Wd, Wd = W0.drew := ⟨_, rfl⟩
  rw [← hWd] at HS0 ⊢
  try rw [← hWd] at hHeld
  clear hWd
  refine tk (i := 0) (oi := { dst := some 4, op := Op.fieldAddr 37 (Operand.tmp 1) 1, type := 0, pos := "l07_window.go:35", after := #[], guard := none }) (v := ?_) ?_ ?_
  rotate_left
  ·(intro w hSw; (try dsimp only at hSw); go_simp) <;> with_reducible rfl
  try simp only [Act.put, SL]
  refine tk (i := 1) (oi := { dst := some 5, op := Op.load 9 (Operand.tmp 4), type := 9, pos := "l07_window.go:35", after := #[{ on := 0, ground := Ground.data }], guard := none }) (v := ?_) ?_ ?_
  rotate_left
  ·(intro w hSw; (try dsimp only at hSw); go_simp) <;> with_reducible rfl
  try simp only [Act.put, SL]
  refine tk (i := 2) (oi := { dst := some 6, op := Op.fieldAddr 37 (Operand.tmp 1) 2, type := 0, pos := "l07_window.go:35", after := #[], guard := none }) (v := ?_) ?_ ?_
  rotate_left
  ·(intro w hSw; (try dsimp only at hSw); go_simp) <;> with_reducible rfl
  try simp only [Act.put, SL]
  refine tk (i := 3) (oi := { dst := some 7, op := Op.load 9 (Operand.tmp 6), type := 9, pos := "l07_window.go:35", after := #[{ on := 2, ground := Ground.data }], guard := none }) (v := ?_) ?_ ?_
  rotate_left
  ·(intro w hSw; (try dsimp only at hSw); go_simp) <;> with_reducible rfl
  try simp only [Act.put, SL]
  refine tk (i := 4) (oi := { dst := some 8, op := Op.fieldAddr 37 (Operand.tmp 1) 3, type := 0, pos := "l07_window.go:35", after := #[], guard := none }) (v := ?_) ?_ ?_
  rotate_left
  ·(intro w hSw; (try dsimp only at hSw); go_simp) <;> with_reducible rfl
  try simp only [Act.put, SL]
  refine tk (i := 5) (oi := { dst := some 9, op := Op.load 2 (Operand.tmp 8), type := 2, pos := "l07_window.go:35", after := #[{ on := 4, ground := Ground.data }], guard := none }) (v := ?_) ?_ ?_
  rotate_left
  ·(intro w hSw; (try dsimp only at hSw); go_simp) <;> with_reducible rfl
  try simp only [Act.put, SL]
  refine tk (i := 7) (oi := { dst := some 11, op := Op.fieldAddr 37 (Operand.tmp 1) 4, type := 0, pos := "l07_window.go:35", after := #[], guard := none }) (v := ?_) ?_ ?_
  rotate_left
  ·(intro w hSw; (try dsimp only at hSw); go_simp) <;> with_reducible rfl
  try simp only [Act.put, SL]
  refine tk (i := 8) (oi := { dst := some 12, op := Op.load 2 (Operand.tmp 11), type := 2, pos := "l07_window.go:35", after := #[{ on := 7, ground := Ground.data }], guard := none }) (v := ?_) ?_ ?_
  rotate_left
  ·(intro w hSw; (try dsimp only at hSw); go_simp) <;> with_reducible rfl
  try simp only [Act.put, SL]
  refine tk (i := 9) (oi := { dst := some 13, op := Op.fieldAddr 37 (Operand.tmp 1) 4, type := 0, pos := "l07_window.go:35", after := #[], guard := none }) (v := ?_) ?_ ?_
  rotate_left
  ·(intro w hSw; (try dsimp only at hSw); go_simp) <;> with_reducible rfl
  try simp only [Act.put, SL]
  refine tk (i := 10) (oi := { dst := some 14, op := Op.load 2 (Operand.tmp 13), type := 2, pos := "l07_window.go:35", after := #[{ on := 9, ground := Ground.data }], guard := none }) (v := ?_) ?_ ?_
  rotate_left
  ·(intro w hSw; (try dsimp only at hSw); go_simp) <;> with_reducible rfl
  try simp only [Act.put, SL]
  refine tk (i := 11) (oi := { dst := some 15, op := Op.fieldAddr 37 (Operand.tmp 1) 3, type := 0, pos := "l07_window.go:35", after := #[], guard := none }) (v := ?_) ?_ ?_
  rotate_left
  ·(intro w hSw; (try dsimp only at hSw); go_simp) <;> with_reducible rfl
  try simp only [Act.put, SL]
  refine tk (i := 12) (oi := { dst := some 16, op := Op.load 2 (Operand.tmp 15), type := 2, pos := "l07_window.go:35", after := #[{ on := 11, ground := Ground.data }], guard := none }) (v := ?_) ?_ ?_
  rotate_left
  ·(intro w hSw; (try dsimp only at hSw); go_simp) <;> with_reducible rfl
  try simp only [Act.put, SL]
  refine tk (i := 13) (oi := { dst := some 17, op := Op.binOp BinOp.quo 2 (Operand.tmp 16) (Operand.const (Value.int IntKind.i64 60)) 2, type := 2, pos := "l07_window.go:35", after := #[{ on := 12, ground := Ground.data }], guard := none }) (v := ?_) ?_ ?_
  rotate_left
  ·(intro w hSw; (try dsimp only at hSw); go_simp) <;> with_reducible rfl
  try simp only [Act.put, SL]
  refine tk (i := 14) (oi := { dst := some 18, op := Op.fieldAddr 37 (Operand.tmp 1) 4, type := 0, pos := "l07_window.go:35", after := #[], guard := none }) (v := ?_) ?_ ?_
  rotate_left
  ·(intro w hSw; (try dsimp only at hSw); go_simp) <;> with_reducible rfl
  try simp only [Act.put, SL]
  refine tk (i := 15) (oi := { dst := some 19, op := Op.load 2 (Operand.tmp 18), type := 2, pos := "l07_window.go:35", after := #[{ on := 14, ground := Ground.data }], guard := none }) (v := ?_) ?_ ?_
  rotate_left
  ·(intro w hSw; (try dsimp only at hSw); go_simp) <;> with_reducible rfl
  try simp only [Act.put, SL]
  refine tk (i := 16) (oi := { dst := some 20, op := Op.build 65 #[(0, Operand.tmp 17), (1, Operand.tmp 19)], type := 65, pos := "l07_window.go:35", after := #[{ on := 13, ground := Ground.data }, { on := 15, ground := Ground.data }], guard := none }) (v := ?_) ?_ ?_
  rotate_left
  ·(intro w hSw; (try dsimp only at hSw); go_simp) <;> with_reducible rfl
  try simp only [Act.put, SL]
  refine wpAnyH_ready (rs := [6, 17, 19]) (by kernel_rfl) (by simp) ?_
  refine AllReadyH.cons (o := { dst := some 10, op := Op.call { callee := Callee.value (Operand.func 51), args := #[Operand.tmp 9], argTypes := #[2] }, type := 2, pos := "l07_window.go:35", after := #[{ on := 5, ground := Ground.data }], guard := none }) rfl (fun K hK => ?_) (AllReadyH.cons (o := { dst := some 21, op := Op.buildSlice 30 1 #[(0, Operand.tmp 20)], type := 30, pos := "l07_window.go:35", after := #[{ on := 16, ground := Ground.data }], guard := none }) rfl (fun K hK => ?_) (AllReadyH.cons (o := { dst := some 3, op := Op.alloc 32, type := 0, pos := "l07_window.go:35", after := #[], guard := none }) rfl (fun K hK => ?_) AllReadyH.nil))
  ·go_simp
   go_at_call 51
   refine (HMo.out _).mono ?_
   rintro e q1 ⟨rfl, hq1⟩
   try go_wp2_with fail
   have hkq1 := @UOx.below (w.heap.size) W0 a m n k _ _ HS0.out hq1
   refine hK.out _ _ hkq1 (fun _ => ?_)
   clear hK K
   try simp only [Act.put, SL]
   refine wpAnyH_ready (rs := [17, 19]) (by kernel_rfl) (by simp) ?_
   refine AllReadyH.cons (o := { dst := some 21, op := Op.buildSlice 30 1 #[(0, Operand.tmp 20)], type := 30, pos := "l07_window.go:35", after := #[{ on := 16, ground := Ground.data }], guard := none }) rfl (fun K hK => ?_) (AllReadyH.cons (o := { dst := some 3, op := Op.alloc 32, type := 0, pos := "l07_window.go:35", after := #[], guard := none }) rfl (fun K hK => ?_) AllReadyH.nil)
   ·go_simp
    try rw [hwr]
    try go_wp2_with fail
    have hkb := @UOx.below (w.heap.size) W0 a m n k _ _ hkq1 ((Below.refl q1.heap.size q1).alloc (Nat.le_refl _) (Obj.cells #[.int .i64 hq, .int .i64 k] 65))
    have hrb := hrs_one1 hq k q1 65
    have hle := hkq1.1.size
    refine hK.out _ _ hkb (fun _ => ?_)
    clear hK K
    try simp only [Act.put, SL]
    obtain ⟨HB, hHB⟩ : ∃ HB, HB = q1.heap.size := ⟨_, rfl⟩
    obtain ⟨Wb, hWb⟩ : ∃ Wb, Wb = q1.alloc (Obj.cells #[.int .i64 hq, .int .i64 k] 65) := ⟨_, rfl⟩
    have hhb : W0.heap.size ≤ HB := by rw [hHB]; exact hle
    have hxb : HB < Wb.heap.size := by rw [hWb, hHB]; simp
    rw [← hWb] at hkb hrb ⊢
    rw [← hHB] at hrb ⊢
    clear hWb hHB hle
    refine tk (i := 18) (oi := { dst := some 22, op := Op.build 32 #[(0, Operand.tmp 5), (1, Operand.tmp 7), (2, Operand.tmp 10), (3, Operand.const (Value.int IntKind.i64 1)), (4, Operand.tmp 12), (5, Operand.tmp 14), (7, Operand.tmp 21)], type := 32, pos := "l07_window.go:35", after := #[{ on := 1, ground := Ground.data }, { on := 3, ground := Ground.data }, { on := 6, ground := Ground.data }, { on := 8, ground := Ground.data }, { on := 10, ground := Ground.data }, { on := 17, ground := Ground.data }], guard := none }) (v := ?_) ?_ ?_
    rotate_left
    ·(intro w hSw; (try dsimp only at hSw); go_simp) <;> with_reducible rfl
    try simp only [Act.put, SL]
    refine wpAnyH_ready (rs := [19]) (by kernel_rfl) (by simp) ?_
    refine AllReadyH.cons (o := { dst := some 3, op := Op.alloc 32, type := 0, pos := "l07_window.go:35", after := #[], guard := none }) rfl (fun K hK => ?_) AllReadyH.nil
    go_simp
    try go_wp2_with fail
    have hka := @UOx.below (w.heap.size) W0 a m n k _ _ hkb ((Below.refl Wb.heap.size Wb).alloc (Nat.le_refl _) (Obj.cells #[.string ⟨#[]⟩, .string ⟨#[]⟩, .int .i64 0, .int .i64 0, .int .i64 0, .int .i64 0, .slice none 0 0, .slice none 0 0] 32))
    have hva := BlkW.new Wb [.string ⟨#[]⟩, .string ⟨#[]⟩, .int .i64 0, .int .i64 0, .int .i64 0, .int .i64 0, .slice none 0 0, .slice none 0 0] 32
    have hle := hkb.1.size
    have hra := Hrs.below hrb ((Below.refl Wb.heap.size Wb).alloc (Nat.le_refl _) (Obj.cells #[.string ⟨#[]⟩, .string ⟨#[]⟩, .int .i64 0, .int .i64 0, .int .i64 0, .int .i64 0, .slice none 0 0, .slice none 0 0] 32))
    refine hK.out _ _ hka (fun _ => ?_)
    clear hK K
    try simp only [Act.put, SL]
    obtain ⟨VB, hVB⟩ : ∃ VB, VB = Wb.heap.size := ⟨_, rfl⟩
    obtain ⟨Wa, hWa⟩ : ∃ Wa, Wa = Wb.alloc (Obj.cells #[.string ⟨#[]⟩, .string ⟨#[]⟩, .int .i64 0, .int .i64 0, .int .i64 0, .int .i64 0, .slice none 0 0, .slice none 0 0] 32) := ⟨_, rfl⟩
    have hvb : W0.heap.size ≤ VB := by rw [hVB]; exact hle
    have hne : HB ≠ VB := by rw [hVB]; exact Nat.ne_of_lt hxb
    have hxa : HB < Wa.heap.size := by rw [hWa]; simp; omega
    rw [← hWa] at hka hva ⊢
    rw [← hWa] at hra
    rw [← hVB] at hva ⊢
    clear hWa hVB hle
    refine wpAnyH_ready (rs := [20]) (by kernel_rfl) (by simp) ?_
    refine AllReadyH.cons (o := { dst := none, op := Op.store 32 (Operand.tmp 3) (Operand.tmp 22), type := 0, pos := "l07_window.go:35", after := #[{ on := 19, ground := Ground.data }, { on := 18, ground := Ground.data }, { on := 6, ground := Ground.chain }, { on := 0, ground := Ground.phase }, { on := 1, ground := Ground.phase }, { on := 2, ground := Ground.phase }, { on := 3, ground := Ground.phase }, { on := 4, ground := Ground.phase }, { on := 5, ground := Ground.phase }, { on := 6, ground := Ground.phase }, { on := 7, ground := Ground.phase }, { on := 8, ground := Ground.phase }, { on := 9, ground := Ground.phase }, { on := 10, ground := Ground.phase }, { on := 11, ground := Ground.phase }, { on := 12, ground := Ground.phase }, { on := 13, ground := Ground.phase }, { on := 14, ground := Ground.phase }, { on := 15, ground := Ground.phase }, { on := 16, ground := Ground.phase }, { on := 17, ground := Ground.phase }, { on := 18, ground := Ground.phase }, { on := 19, ground := Ground.phase }], guard := none }) rfl (fun K hK => ?_) AllReadyH.nil
    obtain ⟨⟨vl, vcs⟩, vfs⟩ := hva
    have y0 : Wa.cell? ⟨VB, 0, none⟩ = some (.string ⟨#[]⟩) := vcs 0 (by simp)
    have f0 := vfs 0 (by simp)
    have y1 : Wa.cell? ⟨VB, 1, none⟩ = some (.string ⟨#[]⟩) := vcs 1 (by simp)
    have f1 := vfs 1 (by simp)
    have y2 : Wa.cell? ⟨VB, 2, none⟩ = some (.int .i64 0) := vcs 2 (by simp)
    have f2 := vfs 2 (by simp)
    have y3 : Wa.cell? ⟨VB, 3, none⟩ = some (.int .i64 0) := vcs 3 (by simp)
    have f3 := vfs 3 (by simp)
    have y4 : Wa.cell? ⟨VB, 4, none⟩ = some (.int .i64 0) := vcs 4 (by simp)
    have f4 := vfs 4 (by simp)
    have y5 : Wa.cell? ⟨VB, 5, none⟩ = some (.int .i64 0) := vcs 5 (by simp)
    have f5 := vfs 5 (by simp)
    have y6 : Wa.cell? ⟨VB, 6, none⟩ = some (.slice none 0 0) := vcs 6 (by simp)
    have f6 := vfs 6 (by simp)
    have y7 : Wa.cell? ⟨VB, 7, none⟩ = some (.slice none 0 0) := vcs 7 (by simp)
    have f7 := vfs 7 (by simp)
    go_simp
    try go_wp2_with fail
    have hno : ∀ b off, (some ⟨HB, 0, none⟩ : Option Addr) = some ⟨b, off, none⟩ → b ≠ VB := fun b off e => by simp at e; omega
    have hks := (@UOx.put (w.heap.size) W0 a m n k _ (@UOx.put (w.heap.size) W0 a m n k _ (@UOx.put (w.heap.size) W0 a m n k _ (@UOx.put (w.heap.size) W0 a m n k _ (@UOx.put (w.heap.size) W0 a m n k _ (@UOx.put (w.heap.size) W0 a m n k _ (@UOx.put (w.heap.size) W0 a m n k _ (@UOx.put (w.heap.size) W0 a m n k _ hka VB 0 (.string a) hvb) VB 1 (.string m) hvb) VB 2 (.int .i64 mo) hvb) VB 3 (.int .i64 1) hvb) VB 4 (.int .i64 k) hvb) VB 5 (.int .i64 k) hvb) VB 6 (.slice none 0 0) hvb) VB 7 (.slice (some ⟨HB, 0, none⟩) 1 1) hvb)
    have hvs := (BlkW.set (BlkW.set (BlkW.set (BlkW.set (BlkW.set (BlkW.set (BlkW.set (BlkW.set (⟨⟨vl, vcs⟩, vfs⟩ : BlkW VB [.string ⟨#[]⟩, .string ⟨#[]⟩, .int .i64 0, .int .i64 0, .int .i64 0, .int .i64 0, .slice none 0 0, .slice none 0 0] Wa) 0 (.string a) (by simp)) 1 (.string m) (by simp)) 2 (.int .i64 mo) (by simp)) 3 (.int .i64 1) (by simp)) 4 (.int .i64 k) (by simp)) 5 (.int .i64 k) (by simp)) 6 (.slice none 0 0) (by simp)) 7 (.slice (some ⟨HB, 0, none⟩) 1 1) (by simp))
    have hrs := (Hrs.put (Hrs.put (Hrs.put (Hrs.put (Hrs.put (Hrs.put (Hrs.put (Hrs.put hra VB 0 (.string a) hno) VB 1 (.string m) hno) VB 2 (.int .i64 mo) hno) VB 3 (.int .i64 1) hno) VB 4 (.int .i64 k) hno) VB 5 (.int .i64 k) hno) VB 6 (.slice none 0 0) hno) VB 7 (.slice (some ⟨HB, 0, none⟩) 1 1) hno)
    refine hK.out _ _ hks (fun _ => ?_)
    clear hK K
    try simp only [Act.put, SL]
    refine wpAnyH_done (by kernel_rfl) ?_ _
    have HBF := hid_intro hks.1
    have HVF := hid_intro hvs
    have HRF := hid_intro hrs
    clear hks hvs hrs y0 y1 y2 y3 y4 y5 y6 y7 f0 f1 f2 f3 f4 f5 f6 f7 vcs vfs hno
    go_wp2_with fail
    go_meet
    case rel => exact ⟨VB, HB, rfl, hvb, hhb, hne, HBF, HVF, HRF⟩
   ·go_simp
    try go_wp2_with fail
    have hka := @UOx.below (w.heap.size) W0 a m n k _ _ hkq1 ((Below.refl q1.heap.size q1).alloc (Nat.le_refl _) (Obj.cells #[.string ⟨#[]⟩, .string ⟨#[]⟩, .int .i64 0, .int .i64 0, .int .i64 0, .int .i64 0, .slice none 0 0, .slice none 0 0] 32))
    have hva := BlkW.new q1 [.string ⟨#[]⟩, .string ⟨#[]⟩, .int .i64 0, .int .i64 0, .int .i64 0, .int .i64 0, .slice none 0 0, .slice none 0 0] 32
    have hle := hkq1.1.size
    refine hK.out _ _ hka (fun _ => ?_)
    clear hK K
    try simp only [Act.put, SL]
    obtain ⟨VB, hVB⟩ : ∃ VB, VB = q1.heap.size := ⟨_, rfl⟩
    obtain ⟨Wa, hWa⟩ : ∃ Wa, Wa = q1.alloc (Obj.cells #[.string ⟨#[]⟩, .string ⟨#[]⟩, .int .i64 0, .int .i64 0, .int .i64 0, .int .i64 0, .slice none 0 0, .slice none 0 0] 32) := ⟨_, rfl⟩
    have hvb : W0.heap.size ≤ VB := by rw [hVB]; exact hle
    rw [← hWa] at hka hva ⊢
    rw [← hVB] at hva ⊢
    clear hWa hVB hle
    refine wpAnyH_ready (rs := [17]) (by kernel_rfl) (by simp) ?_
    refine AllReadyH.cons (o := { dst := some 21, op := Op.buildSlice 30 1 #[(0, Operand.tmp 20)], type := 30, pos := "l07_window.go:35", after := #[{ on := 16, ground := Ground.data }], guard := none }) rfl (fun K hK => ?_) AllReadyH.nil
    go_simp
    try rw [hwr]
    try go_wp2_with fail
    have hkb := @UOx.below (w.heap.size) W0 a m n k _ _ hka ((Below.refl Wa.heap.size Wa).alloc (Nat.le_refl _) (Obj.cells #[.int .i64 hq, .int .i64 k] 65))
    have hrb := hrs_one1 hq k Wa 65
    have hle := hka.1.size
    have hvb2 := BlkW.below hva ((Below.refl Wa.heap.size Wa).alloc (Nat.le_refl _) (Obj.cells #[.int .i64 hq, .int .i64 k] 65))
    have hwl : VB < Wa.heap.size := hva.1.1
    refine hK.out _ _ hkb (fun _ => ?_)
    clear hK K
    try simp only [Act.put, SL]
    obtain ⟨HB, hHB⟩ : ∃ HB, HB = Wa.heap.size := ⟨_, rfl⟩
    obtain ⟨Wb, hWb⟩ : ∃ Wb, Wb = Wa.alloc (Obj.cells #[.int .i64 hq, .int .i64 k] 65) := ⟨_, rfl⟩
    have hhb : W0.heap.size ≤ HB := by rw [hHB]; exact hle
    have hxb : HB < Wb.heap.size := by rw [hWb, hHB]; simp
    have hne : HB ≠ VB := by rw [hHB]; exact (Nat.ne_of_lt hwl).symm
    rw [← hWb] at hkb hrb ⊢
    rw [← hWb] at hvb2
    rw [← hHB] at hrb ⊢
    clear hWb hHB hle
    refine tk (i := 18) (oi := { dst := some 22, op := Op.build 32 #[(0, Operand.tmp 5), (1, Operand.tmp 7), (2, Operand.tmp 10), (3, Operand.const (Value.int IntKind.i64 1)), (4, Operand.tmp 12), (5, Operand.tmp 14), (7, Operand.tmp 21)], type := 32, pos := "l07_window.go:35", after := #[{ on := 1, ground := Ground.data }, { on := 3, ground := Ground.data }, { on := 6, ground := Ground.data }, { on := 8, ground := Ground.data }, { on := 10, ground := Ground.data }, { on := 17, ground := Ground.data }], guard := none }) (v := ?_) ?_ ?_
    rotate_left
    ·(intro w hSw; (try dsimp only at hSw); go_simp) <;> with_reducible rfl
    try simp only [Act.put, SL]
    refine wpAnyH_ready (rs := [20]) (by kernel_rfl) (by simp) ?_
    refine AllReadyH.cons (o := { dst := none, op := Op.store 32 (Operand.tmp 3) (Operand.tmp 22), type := 0, pos := "l07_window.go:35", after := #[{ on := 19, ground := Ground.data }, { on := 18, ground := Ground.data }, { on := 6, ground := Ground.chain }, { on := 0, ground := Ground.phase }, { on := 1, ground := Ground.phase }, { on := 2, ground := Ground.phase }, { on := 3, ground := Ground.phase }, { on := 4, ground := Ground.phase }, { on := 5, ground := Ground.phase }, { on := 6, ground := Ground.phase }, { on := 7, ground := Ground.phase }, { on := 8, ground := Ground.phase }, { on := 9, ground := Ground.phase }, { on := 10, ground := Ground.phase }, { on := 11, ground := Ground.phase }, { on := 12, ground := Ground.phase }, { on := 13, ground := Ground.phase }, { on := 14, ground := Ground.phase }, { on := 15, ground := Ground.phase }, { on := 16, ground := Ground.phase }, { on := 17, ground := Ground.phase }, { on := 18, ground := Ground.phase }, { on := 19, ground := Ground.phase }], guard := none }) rfl (fun K hK => ?_) AllReadyH.nil
    obtain ⟨⟨vl, vcs⟩, vfs⟩ := hvb2
    have y0 : Wb.cell? ⟨VB, 0, none⟩ = some (.string ⟨#[]⟩) := vcs 0 (by simp)
    have f0 := vfs 0 (by simp)
    have y1 : Wb.cell? ⟨VB, 1, none⟩ = some (.string ⟨#[]⟩) := vcs 1 (by simp)
    have f1 := vfs 1 (by simp)
    have y2 : Wb.cell? ⟨VB, 2, none⟩ = some (.int .i64 0) := vcs 2 (by simp)
    have f2 := vfs 2 (by simp)
    have y3 : Wb.cell? ⟨VB, 3, none⟩ = some (.int .i64 0) := vcs 3 (by simp)
    have f3 := vfs 3 (by simp)
    have y4 : Wb.cell? ⟨VB, 4, none⟩ = some (.int .i64 0) := vcs 4 (by simp)
    have f4 := vfs 4 (by simp)
    have y5 : Wb.cell? ⟨VB, 5, none⟩ = some (.int .i64 0) := vcs 5 (by simp)
    have f5 := vfs 5 (by simp)
    have y6 : Wb.cell? ⟨VB, 6, none⟩ = some (.slice none 0 0) := vcs 6 (by simp)
    have f6 := vfs 6 (by simp)
    have y7 : Wb.cell? ⟨VB, 7, none⟩ = some (.slice none 0 0) := vcs 7 (by simp)
    have f7 := vfs 7 (by simp)
    go_simp
    try go_wp2_with fail
    have hno : ∀ b off, (some ⟨HB, 0, none⟩ : Option Addr) = some ⟨b, off, none⟩ → b ≠ VB := fun b off e => by simp at e; omega
    have hks := (@UOx.put (w.heap.size) W0 a m n k _ (@UOx.put (w.heap.size) W0 a m n k _ (@UOx.put (w.heap.size) W0 a m n k _ (@UOx.put (w.heap.size) W0 a m n k _ (@UOx.put (w.heap.size) W0 a m n k _ (@UOx.put (w.heap.size) W0 a m n k _ (@UOx.put (w.heap.size) W0 a m n k _ (@UOx.put (w.heap.size) W0 a m n k _ hkb VB 0 (.string a) hvb) VB 1 (.string m) hvb) VB 2 (.int .i64 mo) hvb) VB 3 (.int .i64 1) hvb) VB 4 (.int .i64 k) hvb) VB 5 (.int .i64 k) hvb) VB 6 (.slice none 0 0) hvb) VB 7 (.slice (some ⟨HB, 0, none⟩) 1 1) hvb)
    have hvs := (BlkW.set (BlkW.set (BlkW.set (BlkW.set (BlkW.set (BlkW.set (BlkW.set (BlkW.set (⟨⟨vl, vcs⟩, vfs⟩ : BlkW VB [.string ⟨#[]⟩, .string ⟨#[]⟩, .int .i64 0, .int .i64 0, .int .i64 0, .int .i64 0, .slice none 0 0, .slice none 0 0] Wb) 0 (.string a) (by simp)) 1 (.string m) (by simp)) 2 (.int .i64 mo) (by simp)) 3 (.int .i64 1) (by simp)) 4 (.int .i64 k) (by simp)) 5 (.int .i64 k) (by simp)) 6 (.slice none 0 0) (by simp)) 7 (.slice (some ⟨HB, 0, none⟩) 1 1) (by simp))
    have hrs := (Hrs.put (Hrs.put (Hrs.put (Hrs.put (Hrs.put (Hrs.put (Hrs.put (Hrs.put hrb VB 0 (.string a) hno) VB 1 (.string m) hno) VB 2 (.int .i64 mo) hno) VB 3 (.int .i64 1) hno) VB 4 (.int .i64 k) hno) VB 5 (.int .i64 k) hno) VB 6 (.slice none 0 0) hno) VB 7 (.slice (some ⟨HB, 0, none⟩) 1 1) hno)
    refine hK.out _ _ hks (fun _ => ?_)
    clear hK K
    try simp only [Act.put, SL]
    refine wpAnyH_done (by kernel_rfl) ?_ _
    have HBF := hid_intro hks.1
    have HVF := hid_intro hvs
    have HRF := hid_intro hrs
    clear hks hvs hrs y0 y1 y2 y3 y4 y5 y6 y7 f0 f1 f2 f3 f4 f5 f6 f7 vcs vfs hno
    go_wp2_with fail
    go_meet
    case rel => exact ⟨VB, HB, rfl, hvb, hhb, hne, HBF, HVF, HRF⟩
  ·go_simp
   try rw [hwr]
   try go_wp2_with fail
   have hkb := @UOx.below (w.heap.size) W0 a m n k _ _ HS0.out ((Below.refl Wd.heap.size Wd).alloc (Nat.le_refl _) (Obj.cells #[.int .i64 hq, .int .i64 k] 65))
   have hrb := hrs_one1 hq k Wd 65
   have hle := HS0.out.1.size
   refine hK.out _ _ hkb (fun _ => ?_)
   clear hK K
   try simp only [Act.put, SL]
   obtain ⟨HB, hHB⟩ : ∃ HB, HB = Wd.heap.size := ⟨_, rfl⟩
   obtain ⟨Wb, hWb⟩ : ∃ Wb, Wb = Wd.alloc (Obj.cells #[.int .i64 hq, .int .i64 k] 65) := ⟨_, rfl⟩
   have hhb : W0.heap.size ≤ HB := by rw [hHB]; exact hle
   have hxb : HB < Wb.heap.size := by rw [hWb, hHB]; simp
   rw [← hWb] at hkb hrb ⊢
   rw [← hHB] at hrb ⊢
   clear hWb hHB hle
   refine wpAnyH_ready (rs := [6, 19]) (by kernel_rfl) (by simp) ?_
   refine AllReadyH.cons (o := { dst := some 10, op := Op.call { callee := Callee.value (Operand.func 51), args := #[Operand.tmp 9], argTypes := #[2] }, type := 2, pos := "l07_window.go:35", after := #[{ on := 5, ground := Ground.data }], guard := none }) rfl (fun K hK => ?_) (AllReadyH.cons (o := { dst := some 3, op := Op.alloc 32, type := 0, pos := "l07_window.go:35", after := #[], guard := none }) rfl (fun K hK => ?_) AllReadyH.nil)
   ·go_simp
    go_at_call 51
    refine (HMo.out _).mono ?_
    rintro e q1 ⟨rfl, hq1⟩
    try go_wp2_with fail
    have hkq1 := @UOx.below (w.heap.size) W0 a m n k _ _ hkb hq1
    have hrq1 := Hrs.below hrb hq1
    have hxq1 : HB < q1.heap.size := Nat.lt_of_lt_of_le hxb hq1.size
    refine hK.out _ _ hkq1 (fun _ => ?_)
    clear hK K
    try simp only [Act.put, SL]
    refine tk (i := 18) (oi := { dst := some 22, op := Op.build 32 #[(0, Operand.tmp 5), (1, Operand.tmp 7), (2, Operand.tmp 10), (3, Operand.const (Value.int IntKind.i64 1)), (4, Operand.tmp 12), (5, Operand.tmp 14), (7, Operand.tmp 21)], type := 32, pos := "l07_window.go:35", after := #[{ on := 1, ground := Ground.data }, { on := 3, ground := Ground.data }, { on := 6, ground := Ground.data }, { on := 8, ground := Ground.data }, { on := 10, ground := Ground.data }, { on := 17, ground := Ground.data }], guard := none }) (v := ?_) ?_ ?_
    rotate_left
    ·(intro w hSw; (try dsimp only at hSw); go_simp) <;> with_reducible rfl
    try simp only [Act.put, SL]
    refine wpAnyH_ready (rs := [19]) (by kernel_rfl) (by simp) ?_
    refine AllReadyH.cons (o := { dst := some 3, op := Op.alloc 32, type := 0, pos := "l07_window.go:35", after := #[], guard := none }) rfl (fun K hK => ?_) AllReadyH.nil
    go_simp
    try go_wp2_with fail
    have hka := @UOx.below (w.heap.size) W0 a m n k _ _ hkq1 ((Below.refl q1.heap.size q1).alloc (Nat.le_refl _) (Obj.cells #[.string ⟨#[]⟩, .string ⟨#[]⟩, .int .i64 0, .int .i64 0, .int .i64 0, .int .i64 0, .slice none 0 0, .slice none 0 0] 32))
    have hva := BlkW.new q1 [.string ⟨#[]⟩, .string ⟨#[]⟩, .int .i64 0, .int .i64 0, .int .i64 0, .int .i64 0, .slice none 0 0, .slice none 0 0] 32
    have hle := hkq1.1.size
    have hra := Hrs.below hrq1 ((Below.refl q1.heap.size q1).alloc (Nat.le_refl _) (Obj.cells #[.string ⟨#[]⟩, .string ⟨#[]⟩, .int .i64 0, .int .i64 0, .int .i64 0, .int .i64 0, .slice none 0 0, .slice none 0 0] 32))
    refine hK.out _ _ hka (fun _ => ?_)
    clear hK K
    try simp only [Act.put, SL]
    obtain ⟨VB, hVB⟩ : ∃ VB, VB = q1.heap.size := ⟨_, rfl⟩
    obtain ⟨Wa, hWa⟩ : ∃ Wa, Wa = q1.alloc (Obj.cells #[.string ⟨#[]⟩, .string ⟨#[]⟩, .int .i64 0, .int .i64 0, .int .i64 0, .int .i64 0, .slice none 0 0, .slice none 0 0] 32) := ⟨_, rfl⟩
    have hvb : W0.heap.size ≤ VB := by rw [hVB]; exact hle
    have hne : HB ≠ VB := by rw [hVB]; exact Nat.ne_of_lt hxq1
    have hxa : HB < Wa.heap.size := by rw [hWa]; simp; omega
    rw [← hWa] at hka hva ⊢
    rw [← hWa] at hra
    rw [← hVB] at hva ⊢
    clear hWa hVB hle
    refine wpAnyH_ready (rs := [20]) (by kernel_rfl) (by simp) ?_
    refine AllReadyH.cons (o := { dst := none, op := Op.store 32 (Operand.tmp 3) (Operand.tmp 22), type := 0, pos := "l07_window.go:35", after := #[{ on := 19, ground := Ground.data }, { on := 18, ground := Ground.data }, { on := 6, ground := Ground.chain }, { on := 0, ground := Ground.phase }, { on := 1, ground := Ground.phase }, { on := 2, ground := Ground.phase }, { on := 3, ground := Ground.phase }, { on := 4, ground := Ground.phase }, { on := 5, ground := Ground.phase }, { on := 6, ground := Ground.phase }, { on := 7, ground := Ground.phase }, { on := 8, ground := Ground.phase }, { on := 9, ground := Ground.phase }, { on := 10, ground := Ground.phase }, { on := 11, ground := Ground.phase }, { on := 12, ground := Ground.phase }, { on := 13, ground := Ground.phase }, { on := 14, ground := Ground.phase }, { on := 15, ground := Ground.phase }, { on := 16, ground := Ground.phase }, { on := 17, ground := Ground.phase }, { on := 18, ground := Ground.phase }, { on := 19, ground := Ground.phase }], guard := none }) rfl (fun K hK => ?_) AllReadyH.nil
    obtain ⟨⟨vl, vcs⟩, vfs⟩ := hva
    have y0 : Wa.cell? ⟨VB, 0, none⟩ = some (.string ⟨#[]⟩) := vcs 0 (by simp)
    have f0 := vfs 0 (by simp)
    have y1 : Wa.cell? ⟨VB, 1, none⟩ = some (.string ⟨#[]⟩) := vcs 1 (by simp)
    have f1 := vfs 1 (by simp)
    have y2 : Wa.cell? ⟨VB, 2, none⟩ = some (.int .i64 0) := vcs 2 (by simp)
    have f2 := vfs 2 (by simp)
    have y3 : Wa.cell? ⟨VB, 3, none⟩ = some (.int .i64 0) := vcs 3 (by simp)
    have f3 := vfs 3 (by simp)
    have y4 : Wa.cell? ⟨VB, 4, none⟩ = some (.int .i64 0) := vcs 4 (by simp)
    have f4 := vfs 4 (by simp)
    have y5 : Wa.cell? ⟨VB, 5, none⟩ = some (.int .i64 0) := vcs 5 (by simp)
    have f5 := vfs 5 (by simp)
    have y6 : Wa.cell? ⟨VB, 6, none⟩ = some (.slice none 0 0) := vcs 6 (by simp)
    have f6 := vfs 6 (by simp)
    have y7 : Wa.cell? ⟨VB, 7, none⟩ = some (.slice none 0 0) := vcs 7 (by simp)
    have f7 := vfs 7 (by simp)
    go_simp
    try go_wp2_with fail
    have hno : ∀ b off, (some ⟨HB, 0, none⟩ : Option Addr) = some ⟨b, off, none⟩ → b ≠ VB := fun b off e => by simp at e; omega
    have hks := (@UOx.put (w.heap.size) W0 a m n k _ (@UOx.put (w.heap.size) W0 a m n k _ (@UOx.put (w.heap.size) W0 a m n k _ (@UOx.put (w.heap.size) W0 a m n k _ (@UOx.put (w.heap.size) W0 a m n k _ (@UOx.put (w.heap.size) W0 a m n k _ (@UOx.put (w.heap.size) W0 a m n k _ (@UOx.put (w.heap.size) W0 a m n k _ hka VB 0 (.string a) hvb) VB 1 (.string m) hvb) VB 2 (.int .i64 mo) hvb) VB 3 (.int .i64 1) hvb) VB 4 (.int .i64 k) hvb) VB 5 (.int .i64 k) hvb) VB 6 (.slice none 0 0) hvb) VB 7 (.slice (some ⟨HB, 0, none⟩) 1 1) hvb)
    have hvs := (BlkW.set (BlkW.set (BlkW.set (BlkW.set (BlkW.set (BlkW.set (BlkW.set (BlkW.set (⟨⟨vl, vcs⟩, vfs⟩ : BlkW VB [.string ⟨#[]⟩, .string ⟨#[]⟩, .int .i64 0, .int .i64 0, .int .i64 0, .int .i64 0, .slice none 0 0, .slice none 0 0] Wa) 0 (.string a) (by simp)) 1 (.string m) (by simp)) 2 (.int .i64 mo) (by simp)) 3 (.int .i64 1) (by simp)) 4 (.int .i64 k) (by simp)) 5 (.int .i64 k) (by simp)) 6 (.slice none 0 0) (by simp)) 7 (.slice (some ⟨HB, 0, none⟩) 1 1) (by simp))
    have hrs := (Hrs.put (Hrs.put (Hrs.put (Hrs.put (Hrs.put (Hrs.put (Hrs.put (Hrs.put hra VB 0 (.string a) hno) VB 1 (.string m) hno) VB 2 (.int .i64 mo) hno) VB 3 (.int .i64 1) hno) VB 4 (.int .i64 k) hno) VB 5 (.int .i64 k) hno) VB 6 (.slice none 0 0) hno) VB 7 (.slice (some ⟨HB, 0, none⟩) 1 1) hno)
    refine hK.out _ _ hks (fun _ => ?_)
    clear hK K
    try simp only [Act.put, SL]
    refine wpAnyH_done (by kernel_rfl) ?_ _
    have HBF := hid_intro hks.1
    have HVF := hid_intro hvs
    have HRF := hid_intro hrs
    clear hks hvs hrs y0 y1 y2 y3 y4 y5 y6 y7 f0 f1 f2 f3 f4 f5 f6 f7 vcs vfs hno
    go_wp2_with fail
    go_meet
    case rel => exact ⟨VB, HB, rfl, hvb, hhb, hne, HBF, HVF, HRF⟩
   ·go_simp
    try go_wp2_with fail
    have hka := @UOx.below (w.heap.size) W0 a m n k _ _ hkb ((Below.refl Wb.heap.size Wb).alloc (Nat.le_refl _) (Obj.cells #[.string ⟨#[]⟩, .string ⟨#[]⟩, .int .i64 0, .int .i64 0, .int .i64 0, .int .i64 0, .slice none 0 0, .slice none 0 0] 32))
    have hva := BlkW.new Wb [.string ⟨#[]⟩, .string ⟨#[]⟩, .int .i64 0, .int .i64 0, .int .i64 0, .int .i64 0, .slice none 0 0, .slice none 0 0] 32
    have hle := hkb.1.size
    have hra := Hrs.below hrb ((Below.refl Wb.heap.size Wb).alloc (Nat.le_refl _) (Obj.cells #[.string ⟨#[]⟩, .string ⟨#[]⟩, .int .i64 0, .int .i64 0, .int .i64 0, .int .i64 0, .slice none 0 0, .slice none 0 0] 32))
    refine hK.out _ _ hka (fun _ => ?_)
    clear hK K
    try simp only [Act.put, SL]
    obtain ⟨VB, hVB⟩ : ∃ VB, VB = Wb.heap.size := ⟨_, rfl⟩
    obtain ⟨Wa, hWa⟩ : ∃ Wa, Wa = Wb.alloc (Obj.cells #[.string ⟨#[]⟩, .string ⟨#[]⟩, .int .i64 0, .int .i64 0, .int .i64 0, .int .i64 0, .slice none 0 0, .slice none 0 0] 32) := ⟨_, rfl⟩
    have hvb : W0.heap.size ≤ VB := by rw [hVB]; exact hle
    have hne : HB ≠ VB := by rw [hVB]; exact Nat.ne_of_lt hxb
    have hxa : HB < Wa.heap.size := by rw [hWa]; simp; omega
    rw [← hWa] at hka hva ⊢
    rw [← hWa] at hra
    rw [← hVB] at hva ⊢
    clear hWa hVB hle
    refine wpAnyH_ready (rs := [6]) (by kernel_rfl) (by simp) ?_
    refine AllReadyH.cons (o := { dst := some 10, op := Op.call { callee := Callee.value (Operand.func 51), args := #[Operand.tmp 9], argTypes := #[2] }, type := 2, pos := "l07_window.go:35", after := #[{ on := 5, ground := Ground.data }], guard := none }) rfl (fun K hK => ?_) AllReadyH.nil
    go_simp
    go_at_call 51
    refine (HMo.out _).mono ?_
    rintro e q1 ⟨rfl, hq1⟩
    try go_wp2_with fail
    have hkq1 := @UOx.below (w.heap.size) W0 a m n k _ _ hka hq1
    have hvq1 := BlkW.below hva hq1
    have hrq1 := Hrs.below hra hq1
    have hxq1 : HB < q1.heap.size := Nat.lt_of_lt_of_le hxa hq1.size
    refine hK.out _ _ hkq1 (fun _ => ?_)
    clear hK K
    try simp only [Act.put, SL]
    refine tk (i := 18) (oi := { dst := some 22, op := Op.build 32 #[(0, Operand.tmp 5), (1, Operand.tmp 7), (2, Operand.tmp 10), (3, Operand.const (Value.int IntKind.i64 1)), (4, Operand.tmp 12), (5, Operand.tmp 14), (7, Operand.tmp 21)], type := 32, pos := "l07_window.go:35", after := #[{ on := 1, ground := Ground.data }, { on := 3, ground := Ground.data }, { on := 6, ground := Ground.data }, { on := 8, ground := Ground.data }, { on := 10, ground := Ground.data }, { on := 17, ground := Ground.data }], guard := none }) (v := ?_) ?_ ?_
    rotate_left
    ·(intro w hSw; (try dsimp only at hSw); go_simp) <;> with_reducible rfl
    try simp only [Act.put, SL]
    refine wpAnyH_ready (rs := [20]) (by kernel_rfl) (by simp) ?_
    refine AllReadyH.cons (o := { dst := none, op := Op.store 32 (Operand.tmp 3) (Operand.tmp 22), type := 0, pos := "l07_window.go:35", after := #[{ on := 19, ground := Ground.data }, { on := 18, ground := Ground.data }, { on := 6, ground := Ground.chain }, { on := 0, ground := Ground.phase }, { on := 1, ground := Ground.phase }, { on := 2, ground := Ground.phase }, { on := 3, ground := Ground.phase }, { on := 4, ground := Ground.phase }, { on := 5, ground := Ground.phase }, { on := 6, ground := Ground.phase }, { on := 7, ground := Ground.phase }, { on := 8, ground := Ground.phase }, { on := 9, ground := Ground.phase }, { on := 10, ground := Ground.phase }, { on := 11, ground := Ground.phase }, { on := 12, ground := Ground.phase }, { on := 13, ground := Ground.phase }, { on := 14, ground := Ground.phase }, { on := 15, ground := Ground.phase }, { on := 16, ground := Ground.phase }, { on := 17, ground := Ground.phase }, { on := 18, ground := Ground.phase }, { on := 19, ground := Ground.phase }], guard := none }) rfl (fun K hK => ?_) AllReadyH.nil
    obtain ⟨⟨vl, vcs⟩, vfs⟩ := hvq1
    have y0 : q1.cell? ⟨VB, 0, none⟩ = some (.string ⟨#[]⟩) := vcs 0 (by simp)
    have f0 := vfs 0 (by simp)
    have y1 : q1.cell? ⟨VB, 1, none⟩ = some (.string ⟨#[]⟩) := vcs 1 (by simp)
    have f1 := vfs 1 (by simp)
    have y2 : q1.cell? ⟨VB, 2, none⟩ = some (.int .i64 0) := vcs 2 (by simp)
    have f2 := vfs 2 (by simp)
    have y3 : q1.cell? ⟨VB, 3, none⟩ = some (.int .i64 0) := vcs 3 (by simp)
    have f3 := vfs 3 (by simp)
    have y4 : q1.cell? ⟨VB, 4, none⟩ = some (.int .i64 0) := vcs 4 (by simp)
    have f4 := vfs 4 (by simp)
    have y5 : q1.cell? ⟨VB, 5, none⟩ = some (.int .i64 0) := vcs 5 (by simp)
    have f5 := vfs 5 (by simp)
    have y6 : q1.cell? ⟨VB, 6, none⟩ = some (.slice none 0 0) := vcs 6 (by simp)
    have f6 := vfs 6 (by simp)
    have y7 : q1.cell? ⟨VB, 7, none⟩ = some (.slice none 0 0) := vcs 7 (by simp)
    have f7 := vfs 7 (by simp)
    go_simp
    try go_wp2_with fail
    have hno : ∀ b off, (some ⟨HB, 0, none⟩ : Option Addr) = some ⟨b, off, none⟩ → b ≠ VB := fun b off e => by simp at e; omega
    have hks := (@UOx.put (w.heap.size) W0 a m n k _ (@UOx.put (w.heap.size) W0 a m n k _ (@UOx.put (w.heap.size) W0 a m n k _ (@UOx.put (w.heap.size) W0 a m n k _ (@UOx.put (w.heap.size) W0 a m n k _ (@UOx.put (w.heap.size) W0 a m n k _ (@UOx.put (w.heap.size) W0 a m n k _ (@UOx.put (w.heap.size) W0 a m n k _ hkq1 VB 0 (.string a) hvb) VB 1 (.string m) hvb) VB 2 (.int .i64 mo) hvb) VB 3 (.int .i64 1) hvb) VB 4 (.int .i64 k) hvb) VB 5 (.int .i64 k) hvb) VB 6 (.slice none 0 0) hvb) VB 7 (.slice (some ⟨HB, 0, none⟩) 1 1) hvb)
    have hvs := (BlkW.set (BlkW.set (BlkW.set (BlkW.set (BlkW.set (BlkW.set (BlkW.set (BlkW.set (⟨⟨vl, vcs⟩, vfs⟩ : BlkW VB [.string ⟨#[]⟩, .string ⟨#[]⟩, .int .i64 0, .int .i64 0, .int .i64 0, .int .i64 0, .slice none 0 0, .slice none 0 0] q1) 0 (.string a) (by simp)) 1 (.string m) (by simp)) 2 (.int .i64 mo) (by simp)) 3 (.int .i64 1) (by simp)) 4 (.int .i64 k) (by simp)) 5 (.int .i64 k) (by simp)) 6 (.slice none 0 0) (by simp)) 7 (.slice (some ⟨HB, 0, none⟩) 1 1) (by simp))
    have hrs := (Hrs.put (Hrs.put (Hrs.put (Hrs.put (Hrs.put (Hrs.put (Hrs.put (Hrs.put hrq1 VB 0 (.string a) hno) VB 1 (.string m) hno) VB 2 (.int .i64 mo) hno) VB 3 (.int .i64 1) hno) VB 4 (.int .i64 k) hno) VB 5 (.int .i64 k) hno) VB 6 (.slice none 0 0) hno) VB 7 (.slice (some ⟨HB, 0, none⟩) 1 1) hno)
    refine hK.out _ _ hks (fun _ => ?_)
    clear hK K
    try simp only [Act.put, SL]
    refine wpAnyH_done (by kernel_rfl) ?_ _
    have HBF := hid_intro hks.1
    have HVF := hid_intro hvs
    have HRF := hid_intro hrs
    clear hks hvs hrs y0 y1 y2 y3 y4 y5 y6 y7 f0 f1 f2 f3 f4 f5 f6 f7 vcs vfs hno
    go_wp2_with fail
    go_meet
    case rel => exact ⟨VB, HB, rfl, hvb, hhb, hne, HBF, HVF, HRF⟩
  ·go_simp
   try go_wp2_with fail
   have hka := @UOx.below (w.heap.size) W0 a m n k _ _ HS0.out ((Below.refl Wd.heap.size Wd).alloc (Nat.le_refl _) (Obj.cells #[.string ⟨#[]⟩, .string ⟨#[]⟩, .int .i64 0, .int .i64 0, .int .i64 0, .int .i64 0, .slice none 0 0, .slice none 0 0] 32))
   have hva := BlkW.new Wd [.string ⟨#[]⟩, .string ⟨#[]⟩, .int .i64 0, .int .i64 0, .int .i64 0, .int .i64 0, .slice none 0 0, .slice none 0 0] 32
   have hle := HS0.out.1.size
   refine hK.out _ _ hka (fun _ => ?_)
   clear hK K
   try simp only [Act.put, SL]
   obtain ⟨VB, hVB⟩ : ∃ VB, VB = Wd.heap.size := ⟨_, rfl⟩
   obtain ⟨Wa, hWa⟩ : ∃ Wa, Wa = Wd.alloc (Obj.cells #[.string ⟨#[]⟩, .string ⟨#[]⟩, .int .i64 0, .int .i64 0, .int .i64 0, .int .i64 0, .slice none 0 0, .slice none 0 0] 32) := ⟨_, rfl⟩
   have hvb : W0.heap.size ≤ VB := by rw [hVB]; exact hle
   rw [← hWa] at hka hva ⊢
   rw [← hVB] at hva ⊢
   clear hWa hVB hle
   refine wpAnyH_ready (rs := [6, 17]) (by kernel_rfl) (by simp) ?_
   refine AllReadyH.cons (o := { dst := some 10, op := Op.call { callee := Callee.value (Operand.func 51), args := #[Operand.tmp 9], argTypes := #[2] }, type := 2, pos := "l07_window.go:35", after := #[{ on := 5, ground := Ground.data }], guard := none }) rfl (fun K hK => ?_) (AllReadyH.cons (o := { dst := some 21, op := Op.buildSlice 30 1 #[(0, Operand.tmp 20)], type := 30, pos := "l07_window.go:35", after := #[{ on := 16, ground := Ground.data }], guard := none }) rfl (fun K hK => ?_) AllReadyH.nil)
   ·go_simp
    go_at_call 51
    refine (HMo.out _).mono ?_
    rintro e q1 ⟨rfl, hq1⟩
    try go_wp2_with fail
    have hkq1 := @UOx.below (w.heap.size) W0 a m n k _ _ hka hq1
    have hvq1 := BlkW.below hva hq1
    refine hK.out _ _ hkq1 (fun _ => ?_)
    clear hK K
    try simp only [Act.put, SL]
    refine wpAnyH_ready (rs := [17]) (by kernel_rfl) (by simp) ?_
    refine AllReadyH.cons (o := { dst := some 21, op := Op.buildSlice 30 1 #[(0, Operand.tmp 20)], type := 30, pos := "l07_window.go:35", after := #[{ on := 16, ground := Ground.data }], guard := none }) rfl (fun K hK => ?_) AllReadyH.nil
    go_simp
    try rw [hwr]
    try go_wp2_with fail
    have hkb := @UOx.below (w.heap.size) W0 a m n k _ _ hkq1 ((Below.refl q1.heap.size q1).alloc (Nat.le_refl _) (Obj.cells #[.int .i64 hq, .int .i64 k] 65))
    have hrb := hrs_one1 hq k q1 65
    have hle := hkq1.1.size
    have hvb2 := BlkW.below hvq1 ((Below.refl q1.heap.size q1).alloc (Nat.le_refl _) (Obj.cells #[.int .i64 hq, .int .i64 k] 65))
    have hwl : VB < q1.heap.size := hvq1.1.1
    refine hK.out _ _ hkb (fun _ => ?_)
    clear hK K
    try simp only [Act.put, SL]
    obtain ⟨HB, hHB⟩ : ∃ HB, HB = q1.heap.size := ⟨_, rfl⟩
    obtain ⟨Wb, hWb⟩ : ∃ Wb, Wb = q1.alloc (Obj.cells #[.int .i64 hq, .int .i64 k] 65) := ⟨_, rfl⟩
    have hhb : W0.heap.size ≤ HB := by rw [hHB]; exact hle
    have hxb : HB < Wb.heap.size := by rw [hWb, hHB]; simp
    have hne : HB ≠ VB := by rw [hHB]; exact (Nat.ne_of_lt hwl).symm
    rw [← hWb] at hkb hrb ⊢
    rw [← hWb] at hvb2
    rw [← hHB] at hrb ⊢
    clear hWb hHB hle
    refine tk (i := 18) (oi := { dst := some 22, op := Op.build 32 #[(0, Operand.tmp 5), (1, Operand.tmp 7), (2, Operand.tmp 10), (3, Operand.const (Value.int IntKind.i64 1)), (4, Operand.tmp 12), (5, Operand.tmp 14), (7, Operand.tmp 21)], type := 32, pos := "l07_window.go:35", after := #[{ on := 1, ground := Ground.data }, { on := 3, ground := Ground.data }, { on := 6, ground := Ground.data }, { on := 8, ground := Ground.data }, { on := 10, ground := Ground.data }, { on := 17, ground := Ground.data }], guard := none }) (v := ?_) ?_ ?_
    rotate_left
    ·(intro w hSw; (try dsimp only at hSw); go_simp) <;> with_reducible rfl
    try simp only [Act.put, SL]
    refine wpAnyH_ready (rs := [20]) (by kernel_rfl) (by simp) ?_
    refine AllReadyH.cons (o := { dst := none, op := Op.store 32 (Operand.tmp 3) (Operand.tmp 22), type := 0, pos := "l07_window.go:35", after := #[{ on := 19, ground := Ground.data }, { on := 18, ground := Ground.data }, { on := 6, ground := Ground.chain }, { on := 0, ground := Ground.phase }, { on := 1, ground := Ground.phase }, { on := 2, ground := Ground.phase }, { on := 3, ground := Ground.phase }, { on := 4, ground := Ground.phase }, { on := 5, ground := Ground.phase }, { on := 6, ground := Ground.phase }, { on := 7, ground := Ground.phase }, { on := 8, ground := Ground.phase }, { on := 9, ground := Ground.phase }, { on := 10, ground := Ground.phase }, { on := 11, ground := Ground.phase }, { on := 12, ground := Ground.phase }, { on := 13, ground := Ground.phase }, { on := 14, ground := Ground.phase }, { on := 15, ground := Ground.phase }, { on := 16, ground := Ground.phase }, { on := 17, ground := Ground.phase }, { on := 18, ground := Ground.phase }, { on := 19, ground := Ground.phase }], guard := none }) rfl (fun K hK => ?_) AllReadyH.nil
    obtain ⟨⟨vl, vcs⟩, vfs⟩ := hvb2
    have y0 : Wb.cell? ⟨VB, 0, none⟩ = some (.string ⟨#[]⟩) := vcs 0 (by simp)
    have f0 := vfs 0 (by simp)
    have y1 : Wb.cell? ⟨VB, 1, none⟩ = some (.string ⟨#[]⟩) := vcs 1 (by simp)
    have f1 := vfs 1 (by simp)
    have y2 : Wb.cell? ⟨VB, 2, none⟩ = some (.int .i64 0) := vcs 2 (by simp)
    have f2 := vfs 2 (by simp)
    have y3 : Wb.cell? ⟨VB, 3, none⟩ = some (.int .i64 0) := vcs 3 (by simp)
    have f3 := vfs 3 (by simp)
    have y4 : Wb.cell? ⟨VB, 4, none⟩ = some (.int .i64 0) := vcs 4 (by simp)
    have f4 := vfs 4 (by simp)
    have y5 : Wb.cell? ⟨VB, 5, none⟩ = some (.int .i64 0) := vcs 5 (by simp)
    have f5 := vfs 5 (by simp)
    have y6 : Wb.cell? ⟨VB, 6, none⟩ = some (.slice none 0 0) := vcs 6 (by simp)
    have f6 := vfs 6 (by simp)
    have y7 : Wb.cell? ⟨VB, 7, none⟩ = some (.slice none 0 0) := vcs 7 (by simp)
    have f7 := vfs 7 (by simp)
    go_simp
    try go_wp2_with fail
    have hno : ∀ b off, (some ⟨HB, 0, none⟩ : Option Addr) = some ⟨b, off, none⟩ → b ≠ VB := fun b off e => by simp at e; omega
    have hks := (@UOx.put (w.heap.size) W0 a m n k _ (@UOx.put (w.heap.size) W0 a m n k _ (@UOx.put (w.heap.size) W0 a m n k _ (@UOx.put (w.heap.size) W0 a m n k _ (@UOx.put (w.heap.size) W0 a m n k _ (@UOx.put (w.heap.size) W0 a m n k _ (@UOx.put (w.heap.size) W0 a m n k _ (@UOx.put (w.heap.size) W0 a m n k _ hkb VB 0 (.string a) hvb) VB 1 (.string m) hvb) VB 2 (.int .i64 mo) hvb) VB 3 (.int .i64 1) hvb) VB 4 (.int .i64 k) hvb) VB 5 (.int .i64 k) hvb) VB 6 (.slice none 0 0) hvb) VB 7 (.slice (some ⟨HB, 0, none⟩) 1 1) hvb)
    have hvs := (BlkW.set (BlkW.set (BlkW.set (BlkW.set (BlkW.set (BlkW.set (BlkW.set (BlkW.set (⟨⟨vl, vcs⟩, vfs⟩ : BlkW VB [.string ⟨#[]⟩, .string ⟨#[]⟩, .int .i64 0, .int .i64 0, .int .i64 0, .int .i64 0, .slice none 0 0, .slice none 0 0] Wb) 0 (.string a) (by simp)) 1 (.string m) (by simp)) 2 (.int .i64 mo) (by simp)) 3 (.int .i64 1) (by simp)) 4 (.int .i64 k) (by simp)) 5 (.int .i64 k) (by simp)) 6 (.slice none 0 0) (by simp)) 7 (.slice (some ⟨HB, 0, none⟩) 1 1) (by simp))
    have hrs := (Hrs.put (Hrs.put (Hrs.put (Hrs.put (Hrs.put (Hrs.put (Hrs.put (Hrs.put hrb VB 0 (.string a) hno) VB 1 (.string m) hno) VB 2 (.int .i64 mo) hno) VB 3 (.int .i64 1) hno) VB 4 (.int .i64 k) hno) VB 5 (.int .i64 k) hno) VB 6 (.slice none 0 0) hno) VB 7 (.slice (some ⟨HB, 0, none⟩) 1 1) hno)
    refine hK.out _ _ hks (fun _ => ?_)
    clear hK K
    try simp only [Act.put, SL]
    refine wpAnyH_done (by kernel_rfl) ?_ _
    have HBF := hid_intro hks.1
    have HVF := hid_intro hvs
    have HRF := hid_intro hrs
    clear hks hvs hrs y0 y1 y2 y3 y4 y5 y6 y7 f0 f1 f2 f3 f4 f5 f6 f7 vcs vfs hno
    go_wp2_with fail
    go_meet
    case rel => exact ⟨VB, HB, rfl, hvb, hhb, hne, HBF, HVF, HRF⟩
   ·go_simp
    try rw [hwr]
    try go_wp2_with fail
    have hkb := @UOx.below (w.heap.size) W0 a m n k _ _ hka ((Below.refl Wa.heap.size Wa).alloc (Nat.le_refl _) (Obj.cells #[.int .i64 hq, .int .i64 k] 65))
    have hrb := hrs_one1 hq k Wa 65
    have hle := hka.1.size
    have hvb2 := BlkW.below hva ((Below.refl Wa.heap.size Wa).alloc (Nat.le_refl _) (Obj.cells #[.int .i64 hq, .int .i64 k] 65))
    have hwl : VB < Wa.heap.size := hva.1.1
    refine hK.out _ _ hkb (fun _ => ?_)
    clear hK K
    try simp only [Act.put, SL]
    obtain ⟨HB, hHB⟩ : ∃ HB, HB = Wa.heap.size := ⟨_, rfl⟩
    obtain ⟨Wb, hWb⟩ : ∃ Wb, Wb = Wa.alloc (Obj.cells #[.int .i64 hq, .int .i64 k] 65) := ⟨_, rfl⟩
    have hhb : W0.heap.size ≤ HB := by rw [hHB]; exact hle
    have hxb : HB < Wb.heap.size := by rw [hWb, hHB]; simp
    have hne : HB ≠ VB := by rw [hHB]; exact (Nat.ne_of_lt hwl).symm
    rw [← hWb] at hkb hrb ⊢
    rw [← hWb] at hvb2
    rw [← hHB] at hrb ⊢
    clear hWb hHB hle
    refine wpAnyH_ready (rs := [6]) (by kernel_rfl) (by simp) ?_
    refine AllReadyH.cons (o := { dst := some 10, op := Op.call { callee := Callee.value (Operand.func 51), args := #[Operand.tmp 9], argTypes := #[2] }, type := 2, pos := "l07_window.go:35", after := #[{ on := 5, ground := Ground.data }], guard := none }) rfl (fun K hK => ?_) AllReadyH.nil
    go_simp
    go_at_call 51
    refine (HMo.out _).mono ?_
    rintro e q1 ⟨rfl, hq1⟩
    try go_wp2_with fail
    have hkq1 := @UOx.below (w.heap.size) W0 a m n k _ _ hkb hq1
    have hvq1 := BlkW.below hvb2 hq1
    have hrq1 := Hrs.below hrb hq1
    have hxq1 : HB < q1.heap.size := Nat.lt_of_lt_of_le hxb hq1.size
    refine hK.out _ _ hkq1 (fun _ => ?_)
    clear hK K
    try simp only [Act.put, SL]
    refine tk (i := 18) (oi := { dst := some 22, op := Op.build 32 #[(0, Operand.tmp 5), (1, Operand.tmp 7), (2, Operand.tmp 10), (3, Operand.const (Value.int IntKind.i64 1)), (4, Operand.tmp 12), (5, Operand.tmp 14), (7, Operand.tmp 21)], type := 32, pos := "l07_window.go:35", after := #[{ on := 1, ground := Ground.data }, { on := 3, ground := Ground.data }, { on := 6, ground := Ground.data }, { on := 8, ground := Ground.data }, { on := 10, ground := Ground.data }, { on := 17, ground := Ground.data }], guard := none }) (v := ?_) ?_ ?_
    rotate_left
    ·(intro w hSw; (try dsimp only at hSw); go_simp) <;> with_reducible rfl
    try simp only [Act.put, SL]
    refine wpAnyH_ready (rs := [20]) (by kernel_rfl) (by simp) ?_
    refine AllReadyH.cons (o := { dst := none, op := Op.store 32 (Operand.tmp 3) (Operand.tmp 22), type := 0, pos := "l07_window.go:35", after := #[{ on := 19, ground := Ground.data }, { on := 18, ground := Ground.data }, { on := 6, ground := Ground.chain }, { on := 0, ground := Ground.phase }, { on := 1, ground := Ground.phase }, { on := 2, ground := Ground.phase }, { on := 3, ground := Ground.phase }, { on := 4, ground := Ground.phase }, { on := 5, ground := Ground.phase }, { on := 6, ground := Ground.phase }, { on := 7, ground := Ground.phase }, { on := 8, ground := Ground.phase }, { on := 9, ground := Ground.phase }, { on := 10, ground := Ground.phase }, { on := 11, ground := Ground.phase }, { on := 12, ground := Ground.phase }, { on := 13, ground := Ground.phase }, { on := 14, ground := Ground.phase }, { on := 15, ground := Ground.phase }, { on := 16, ground := Ground.phase }, { on := 17, ground := Ground.phase }, { on := 18, ground := Ground.phase }, { on := 19, ground := Ground.phase }], guard := none }) rfl (fun K hK => ?_) AllReadyH.nil
    obtain ⟨⟨vl, vcs⟩, vfs⟩ := hvq1
    have y0 : q1.cell? ⟨VB, 0, none⟩ = some (.string ⟨#[]⟩) := vcs 0 (by simp)
    have f0 := vfs 0 (by simp)
    have y1 : q1.cell? ⟨VB, 1, none⟩ = some (.string ⟨#[]⟩) := vcs 1 (by simp)
    have f1 := vfs 1 (by simp)
    have y2 : q1.cell? ⟨VB, 2, none⟩ = some (.int .i64 0) := vcs 2 (by simp)
    have f2 := vfs 2 (by simp)
    have y3 : q1.cell? ⟨VB, 3, none⟩ = some (.int .i64 0) := vcs 3 (by simp)
    have f3 := vfs 3 (by simp)
    have y4 : q1.cell? ⟨VB, 4, none⟩ = some (.int .i64 0) := vcs 4 (by simp)
    have f4 := vfs 4 (by simp)
    have y5 : q1.cell? ⟨VB, 5, none⟩ = some (.int .i64 0) := vcs 5 (by simp)
    have f5 := vfs 5 (by simp)
    have y6 : q1.cell? ⟨VB, 6, none⟩ = some (.slice none 0 0) := vcs 6 (by simp)
    have f6 := vfs 6 (by simp)
    have y7 : q1.cell? ⟨VB, 7, none⟩ = some (.slice none 0 0) := vcs 7 (by simp)
    have f7 := vfs 7 (by simp)
    go_simp
    try go_wp2_with fail
    have hno : ∀ b off, (some ⟨HB, 0, none⟩ : Option Addr) = some ⟨b, off, none⟩ → b ≠ VB := fun b off e => by simp at e; omega
    have hks := (@UOx.put (w.heap.size) W0 a m n k _ (@UOx.put (w.heap.size) W0 a m n k _ (@UOx.put (w.heap.size) W0 a m n k _ (@UOx.put (w.heap.size) W0 a m n k _ (@UOx.put (w.heap.size) W0 a m n k _ (@UOx.put (w.heap.size) W0 a m n k _ (@UOx.put (w.heap.size) W0 a m n k _ (@UOx.put (w.heap.size) W0 a m n k _ hkq1 VB 0 (.string a) hvb) VB 1 (.string m) hvb) VB 2 (.int .i64 mo) hvb) VB 3 (.int .i64 1) hvb) VB 4 (.int .i64 k) hvb) VB 5 (.int .i64 k) hvb) VB 6 (.slice none 0 0) hvb) VB 7 (.slice (some ⟨HB, 0, none⟩) 1 1) hvb)
    have hvs := (BlkW.set (BlkW.set (BlkW.set (BlkW.set (BlkW.set (BlkW.set (BlkW.set (BlkW.set (⟨⟨vl, vcs⟩, vfs⟩ : BlkW VB [.string ⟨#[]⟩, .string ⟨#[]⟩, .int .i64 0, .int .i64 0, .int .i64 0, .int .i64 0, .slice none 0 0, .slice none 0 0] q1) 0 (.string a) (by simp)) 1 (.string m) (by simp)) 2 (.int .i64 mo) (by simp)) 3 (.int .i64 1) (by simp)) 4 (.int .i64 k) (by simp)) 5 (.int .i64 k) (by simp)) 6 (.slice none 0 0) (by simp)) 7 (.slice (some ⟨HB, 0, none⟩) 1 1) (by simp))
    have hrs := (Hrs.put (Hrs.put (Hrs.put (Hrs.put (Hrs.put (Hrs.put (Hrs.put (Hrs.put hrq1 VB 0 (.string a) hno) VB 1 (.string m) hno) VB 2 (.int .i64 mo) hno) VB 3 (.int .i64 1) hno) VB 4 (.int .i64 k) hno) VB 5 (.int .i64 k) hno) VB 6 (.slice none 0 0) hno) VB 7 (.slice (some ⟨HB, 0, none⟩) 1 1) hno)
    refine hK.out _ _ hks (fun _ => ?_)
    clear hK K
    try simp only [Act.put, SL]
    refine wpAnyH_done (by kernel_rfl) ?_ _
    have HBF := hid_intro hks.1
    have HVF := hid_intro hvs
    have HRF := hid_intro hrs
    clear hks hvs hrs y0 y1 y2 y3 y4 y5 y6 y7 f0 f1 f2 f3 f4 f5 f6 f7 vcs vfs hno
    go_wp2_with fail
    go_meet
    case rel => exact ⟨VB, HB, rfl, hvb, hhb, hne, HBF, HVF, HRF⟩
 case rest =>
  obtain ⟨V, HB, rfl, hV, hHB, hne, HB1, HV1, HR1⟩ := hcut
  obtain ⟨W1, hW1⟩ : ∃ W1, W1 = wc := ⟨_, rfl⟩
  subst hW1
  have HX1 := hid_intro (HX0.out.below HB1.out)
  have HY1 := hid_intro (HY0.out.below HB1.out)
  have HB2 := hid_intro (HB0.out.trans (HB1.out.mono HB0.out.size))
  have hRV : w.heap.size + 1 < V := by have := HWS.out; omega
  have hRH : w.heap.size + 1 < HB := by have := HWS.out; omega
  clear HS0 HW0 HX0 HY0
  have x5 : W1.cell? ⟨w.heap.size, 5, none⟩ = some (.string t) := HX1.out.2 5 (by simp)
  have xl := HX1.out.1
  go_upto_if 25 with fail
  go_cut [] from 23 to 29 (fun wx => ∃ ta tc, (ts.length = 0 ∨ ∀ b off, ta = some ⟨b, off, none⟩ → w.heap.size + 1 < b) ∧ Hid (Below w.heap.size w wx) ∧ Hid (BlkW V [.string a, .string m, .int .i64 mo, .int .i64 1, .int .i64 k, .int .i64 k, .slice ta tl tc, .slice (some ⟨HB, 0, none⟩) 1 1] wx) ∧ Hid (BlkW (w.heap.size + 1) [.string ⟨#[]⟩, .string ⟨#[]⟩, .int .i64 0, .int .i64 0, .int .i64 0, .int .i64 0, .slice none 0 0, .slice none 0 0] wx) ∧ Hid (Tgs ta ts wx) ∧ Hid (Hrs (some ⟨HB, 0, none⟩) [⟨hq, k⟩] wx))
  case first =>
   have hVl := HV1.out.1.1
   have v6 : W1.cell? ⟨V, 6, none⟩ = some (.slice none 0 0) := HV1.out.1.2 6 (by simp)
   have f6 : W1.frozen? ⟨V, 6, none⟩ = false := HV1.out.2 6 (by simp)
   go_wp2_with fail
   ·rename_i hh
    have ht : ¬ t.size = 0 := fun e => by rw [empty_of t e] at hh; simp at hh
    have hts := HT1.out ht
    have h0 : tl = 1 := by rw [HTL.out, hts]; rfl
    subst h0
    obtain ⟨Wq, hWq⟩ : ∃ Wq, Wq = W1.setCell ⟨V, 6, none⟩ (.slice (some ⟨W1.heap.size, 0, none⟩) 1 1) := ⟨_, rfl⟩
    have hsz : Wq.heap.size = W1.heap.size := by rw [hWq]; simp
    have hbl := (Below.refl Wq.heap.size Wq).alloc (Nat.le_refl _) (.cells #[.string t] 9)
    have hg : Tgs (some ⟨W1.heap.size, 0, none⟩) ts (Wq.alloc (.cells #[.string t] 9)) := by
     have h := tgs_one t Wq 9
     rw [hsz] at h
     rw [hts]
     exact h
    have hn : ∀ b off, (some ⟨W1.heap.size, 0, none⟩ : Option Addr) = some ⟨b, off, none⟩ → b ≠ V := fun b off e => by simp at e; omega
    have hn2 : ∀ b off, (some ⟨W1.heap.size, 0, none⟩ : Option Addr) = some ⟨b, off, none⟩ → w.heap.size + 1 < b := fun b off e => by simp at e; omega
    have hn3 : ∀ b off, (some ⟨HB, 0, none⟩ : Option Addr) = some ⟨b, off, none⟩ → b ≠ V := fun b off e => by simp at e; omega
    have hr5 := Hrs.put HR1.out V 6 (.slice (some ⟨W1.heap.size, 0, none⟩) 1 1) hn3
    have hy5 := HY1.out.other V 6 (.slice (some ⟨W1.heap.size, 0, none⟩) 1 1) (by omega)
    have hv5 := HV1.out.set 6 (.slice (some ⟨W1.heap.size, 0, none⟩) 1 1) (by simp)
    have hb5 := HB2.out.setCell (p := ⟨V, 6, none⟩) (by show w.heap.size ≤ V; omega) (.slice (some ⟨W1.heap.size, 0, none⟩) 1 1)
    rw [← hWq] at hr5 hy5 hv5 hb5
    have HR5 := hid_intro (hr5.below hbl)
    have HY5 := hid_intro (hy5.below hbl)
    have HV5 := hid_intro (hv5.below hbl)
    have HB5 := hid_intro (hb5.trans (hbl.mono hb5.size))
    have HG5 := hid_intro hg
    rw [hWq] at HR5 HY5 HV5 HB5 HG5
    clear hr5 hy5 hv5 hb5 hsz hWq
    clear hbl hg
    go_meet
    case rel => exact ⟨_, 1, .inr hn2, HB5, HV5, HY5, HG5, HR5⟩
   ·rename_i hh
    have ht : t.size = 0 := by
     by_cases e : t.size = 0
     ·exact e
     ·rw [(full_of t e).2] at hh; simp at hh
    have hts := HT0.out ht
    have h0 : tl = 0 := by rw [HTL.out, hts]; rfl
    have HG : Hid (Tgs none ts W1) := hid_intro (by rw [hts]; exact .inl rfl)
    have hl0 : ts.length = 0 := by rw [hts]; rfl
    subst h0
    go_meet
    case rel => exact ⟨none, 0, .inl hl0, HB2, HV1, HY1, HG, HR1⟩
  case rest =>
   obtain ⟨ta, tc, hn1, HB5, HV5, HY5, HG5, HR5⟩ := hcut
   have HN1 := hid_intro hn1
   clear hn1 x5 xl HB1 HV1 HR1 HX1 HY1 HB2
   obtain ⟨⟨vl, vk⟩, vf⟩ := HV5.out
   have v0 : wc.cell? ⟨V, 0, none⟩ = some (.string a) := vk 0 (by simp)
   have v1 : wc.cell? ⟨V, 1, none⟩ = some (.string m) := vk 1 (by simp)
   have v2 : wc.cell? ⟨V, 2, none⟩ = some (.int .i64 mo) := vk 2 (by simp)
   have v3 : wc.cell? ⟨V, 3, none⟩ = some (.int .i64 1) := vk 3 (by simp)
   have v4 : wc.cell? ⟨V, 4, none⟩ = some (.int .i64 k) := vk 4 (by simp)
   have v5 : wc.cell? ⟨V, 5, none⟩ = some (.int .i64 k) := vk 5 (by simp)
   have v6 : wc.cell? ⟨V, 6, none⟩ = some (.slice ta tl tc) := vk 6 (by simp)
   have v7 : wc.cell? ⟨V, 7, none⟩ = some (.slice (some ⟨HB, 0, none⟩) 1 1) := vk 7 (by simp)
   obtain ⟨⟨yl, yk⟩, yf⟩ := HY5.out
   have y0 : wc.cell? ⟨w.heap.size + 1, 0, none⟩ = some (.string ⟨#[]⟩) := yk 0 (by simp)
   have q0 : wc.frozen? ⟨w.heap.size + 1, 0, none⟩ = false := yf 0 (by simp)
   have y1 : wc.cell? ⟨w.heap.size + 1, 1, none⟩ = some (.string ⟨#[]⟩) := yk 1 (by simp)
   have q1 : wc.frozen? ⟨w.heap.size + 1, 1, none⟩ = false := yf 1 (by simp)
   have y2 : wc.cell? ⟨w.heap.size + 1, 2, none⟩ = some (.int .i64 0) := yk 2 (by simp)
   have q2 : wc.frozen? ⟨w.heap.size + 1, 2, none⟩ = false := yf 2 (by simp)
   have y3 : wc.cell? ⟨w.heap.size + 1, 3, none⟩ = some (.int .i64 0) := yk 3 (by simp)
   have q3 : wc.frozen? ⟨w.heap.size + 1, 3, none⟩ = false := yf 3 (by simp)
   have y4 : wc.cell? ⟨w.heap.size + 1, 4, none⟩ = some (.int .i64 0) := yk 4 (by simp)
   have q4 : wc.frozen? ⟨w.heap.size + 1, 4, none⟩ = false := yf 4 (by simp)
   have y5 : wc.cell? ⟨w.heap.size + 1, 5, none⟩ = some (.int .i64 0) := yk 5 (by simp)
   have q5 : wc.frozen? ⟨w.heap.size + 1, 5, none⟩ = false := yf 5 (by simp)
   have y6 : wc.cell? ⟨w.heap.size + 1, 6, none⟩ = some (.slice none 0 0) := yk 6 (by simp)
   have q6 : wc.frozen? ⟨w.heap.size + 1, 6, none⟩ = false := yf 6 (by simp)
   have y7 : wc.cell? ⟨w.heap.size + 1, 7, none⟩ = some (.slice none 0 0) := yk 7 (by simp)
   have q7 : wc.frozen? ⟨w.heap.size + 1, 7, none⟩ = false := yf 7 (by simp)
   clear yk yf vk vf HY5 HV5
   have hn3 : ∀ b off, (some ⟨HB, 0, none⟩ : Option Addr) = some ⟨b, off, none⟩ → b ≠ w.heap.size + 1 := fun b off e => by simp at e; omega
   have HN3 := hid_intro hn3
   clear hn3
   go_wp2_with fail
   refine bodyPost_ret (v := .agg #[.string a, .string m, .int .i64 mo, .int .i64 1, .int .i64 k, .int .i64 k, .slice ta tl tc, .slice (some ⟨HB, 0, none⟩) 1 1]) (by simp [results, Tryd.results24, go_sem, y0, y1, y2, y3, y4, y5, y6, y7]) rfl ⟨_, rfl, ⟨ta, tc, some ⟨HB, 0, none⟩, 1, by simp only [wcells, ← HTL.out, List.length_cons, List.length_nil, Nat.zero_add], ?_, ?_, HN1.out.imp id (fun h b off e => by have := h b off e; omega), .inr (fun b off e => by simp at e; omega)⟩, ?_⟩
   ·have hn : ts.length = 0 ∨ ∀ b off, ta = some ⟨b, off, none⟩ → b ≠ w.heap.size + 1 := HN1.out.imp id (fun h b off e => by have := h b off e; omega)
    exact (Tgs.put (Tgs.put (Tgs.put (Tgs.put (Tgs.put (Tgs.put (Tgs.put (Tgs.put HG5.out (w.heap.size + 1) 0 (.string a) hn) (w.heap.size + 1) 1 (.string m) hn) (w.heap.size + 1) 2 (.int .i64 mo) hn) (w.heap.size + 1) 3 (.int .i64 1) hn) (w.heap.size + 1) 4 (.int .i64 k) hn) (w.heap.size + 1) 5 (.int .i64 k) hn) (w.heap.size + 1) 6 (.slice ta tl tc) hn) (w.heap.size + 1) 7 (.slice (some ⟨HB, 0, none⟩) 1 1) hn)
   ·have hn := HN3.out
    exact (Hrs.put (Hrs.put (Hrs.put (Hrs.put (Hrs.put (Hrs.put (Hrs.put (Hrs.put HR5.out (w.heap.size + 1) 0 (.string a) hn) (w.heap.size + 1) 1 (.string m) hn) (w.heap.size + 1) 2 (.int .i64 mo) hn) (w.heap.size + 1) 3 (.int .i64 1) hn) (w.heap.size + 1) 4 (.int .i64 k) hn) (w.heap.size + 1) 5 (.int .i64 k) hn) (w.heap.size + 1) 6 (.slice ta tl tc) hn) (w.heap.size + 1) 7 (.slice (some ⟨HB, 0, none⟩) 1 1) hn)
   ·have hb2 : w.heap.size ≤ w.heap.size + 1 := Nat.le_succ _
    exact ((((((((HB5.out.setCell (hb2) _).setCell (hb2) _).setCell (hb2) _).setCell (hb2) _).setCell (hb2) _).setCell (hb2) _).setCell (hb2) _).setCell (hb2) _)
/-- The zero window. -/
theorem wz_made (base : Nat) (w : World) : MadeW base wz (.agg #[.string ⟨#[]⟩, .string ⟨#[]⟩, .int .i64 0, .int .i64 0, .int .i64 0, .int .i64 0, .slice none 0 0, .slice none 0 0]) w :=
 ⟨none, 0, none, 0, rfl, ⟨.inl rfl, .inl rfl⟩, ⟨.inl rfl, .inl rfl⟩, .inl rfl⟩
theorem wz_new (base : Nat) (w : World) : NewW base wz (.agg #[.string ⟨#[]⟩, .string ⟨#[]⟩, .int .i64 0, .int .i64 0, .int .i64 0, .int .i64 0, .slice none 0 0, .slice none 0 0]) w :=
 ⟨none, 0, none, 0, rfl, .inl rfl, .inl rfl, .inl rfl, .inl rfl⟩
set_option maxRecDepth 100000 in
set_option maxHeartbeats 4000000 in
theorem of_no_s (i a m t : ByteArray) (n k : Int) (w : World) (li : i.size ≤ 1048576) (la : a.size ≤ 1048576) (lm : m.size ≤ 1048576) (lt : t.size ≤ 1048576) (hev : evB i a m n k t = false) :
  Calls Tryd.prog 28 #[ev i a m n k t] w fun e w' => ∃ v, e = .returned v ∧ MadeWS w.heap.size wz v w' ∧ Below w.heap.size w w' := by
 have HE := hid_intro (fun w => EvtR.impl_event i a m n k t li la lm lt w)
 rw [hev] at HE
 clear hev
 unfold ev
 have HB0 : Hid (Below w.heap.size w ((w.alloc (.cells #[.string i, .string a, .string m, .int .i64 n, .int .i64 k, .string t] 37)).alloc (.cells #[.string ⟨#[]⟩, .string ⟨#[]⟩, .int .i64 0, .int .i64 0, .int .i64 0, .int .i64 0, .slice none 0 0, .slice none 0 0] 32))) := hid_intro (((Below.refl _ _).alloc (Nat.le_refl _) _).alloc (by simp) _)
 have HY0 := hid_intro (BlkW.new (w.alloc (.cells #[.string i, .string a, .string m, .int .i64 n, .int .i64 k, .string t] 37)) [.string ⟨#[]⟩, .string ⟨#[]⟩, .int .i64 0, .int .i64 0, .int .i64 0, .int .i64 0, .slice none 0 0, .slice none 0 0] 32)
 rw [show (w.alloc (.cells #[.string i, .string a, .string m, .int .i64 n, .int .i64 k, .string t] 37)).heap.size = w.heap.size + 1 by simp] at HY0
 go_enter Tryd.func28, Tryd.ntmps28
 go_wp2_with fail
 refine (HE.out _).mono ?_
 rintro e w5 ⟨rfl, hb1⟩
 have HY1 := hid_intro (HY0.out.below hb1)
 have HB5 := hid_intro (HB0.out.trans (hb1.mono HB0.out.size))
 clear HY0 HB0 hb1
 obtain ⟨⟨yl, yk⟩, yf⟩ := HY1.out
 have y0 : w5.cell? ⟨w.heap.size + 1, 0, none⟩ = some (.string ⟨#[]⟩) := yk 0 (by simp)
 have q0 : w5.frozen? ⟨w.heap.size + 1, 0, none⟩ = false := yf 0 (by simp)
 have y1 : w5.cell? ⟨w.heap.size + 1, 1, none⟩ = some (.string ⟨#[]⟩) := yk 1 (by simp)
 have q1 : w5.frozen? ⟨w.heap.size + 1, 1, none⟩ = false := yf 1 (by simp)
 have y2 : w5.cell? ⟨w.heap.size + 1, 2, none⟩ = some (.int .i64 0) := yk 2 (by simp)
 have q2 : w5.frozen? ⟨w.heap.size + 1, 2, none⟩ = false := yf 2 (by simp)
 have y3 : w5.cell? ⟨w.heap.size + 1, 3, none⟩ = some (.int .i64 0) := yk 3 (by simp)
 have q3 : w5.frozen? ⟨w.heap.size + 1, 3, none⟩ = false := yf 3 (by simp)
 have y4 : w5.cell? ⟨w.heap.size + 1, 4, none⟩ = some (.int .i64 0) := yk 4 (by simp)
 have q4 : w5.frozen? ⟨w.heap.size + 1, 4, none⟩ = false := yf 4 (by simp)
 have y5 : w5.cell? ⟨w.heap.size + 1, 5, none⟩ = some (.int .i64 0) := yk 5 (by simp)
 have q5 : w5.frozen? ⟨w.heap.size + 1, 5, none⟩ = false := yf 5 (by simp)
 have y6 : w5.cell? ⟨w.heap.size + 1, 6, none⟩ = some (.slice none 0 0) := yk 6 (by simp)
 have q6 : w5.frozen? ⟨w.heap.size + 1, 6, none⟩ = false := yf 6 (by simp)
 have y7 : w5.cell? ⟨w.heap.size + 1, 7, none⟩ = some (.slice none 0 0) := yk 7 (by simp)
 have q7 : w5.frozen? ⟨w.heap.size + 1, 7, none⟩ = false := yf 7 (by simp)
 clear yk yf HY1
 go_wp2_with fail
 refine bodyPost_ret (v := .agg #[.string ⟨#[]⟩, .string ⟨#[]⟩, .int .i64 0, .int .i64 0, .int .i64 0, .int .i64 0, .slice none 0 0, .slice none 0 0]) (by simp [results, Tryd.results28, go_sem, y0, y1, y2, y3, y4, y5, y6, y7]) rfl ⟨_, rfl, ⟨wz_made _ _, _, _, _, _, _, _, _, _, _, _, _, _, rfl, .inl ⟨rfl, rfl, rfl⟩, .inl ⟨rfl, rfl, rfl⟩⟩, ?_⟩
 have hb2 : w.heap.size ≤ w.heap.size + 1 := Nat.le_succ _
 exact ((((((((HB5.out.setCell (hb2) _).setCell (hb2) _).setCell (hb2) _).setCell (hb2) _).setCell (hb2) _).setCell (hb2) _).setCell (hb2) _).setCell (hb2) _)
theorem of_no (i a m t : ByteArray) (n k : Int) (w : World) (li : i.size ≤ 1048576) (la : a.size ≤ 1048576) (lm : m.size ≤ 1048576) (lt : t.size ≤ 1048576) (hev : evB i a m n k t = false) :
  Calls Tryd.prog 28 #[ev i a m n k t] w fun e w' => ∃ v, e = .returned v ∧ MadeW w.heap.size wz v w' ∧ Below w.heap.size w w' := by
 refine (of_no_s i a m t n k w li la lm lt hev).mono ?_
 rintro e w' ⟨v, rfl, hm, hb⟩
 exact ⟨v, rfl, hm.1, hb⟩
end WinR
end Go.Proofs.YtnlmpejgiakepaaDoor
namespace Go.Proofs.YtnlmpejgiakepaaDoor
open Go.ChangeShapes Go.WideShapes Go.ChangeAt Go.RowKit
set_option linter.unusedVariables false
namespace WinR
open RowG (MadeG Rws)
open LtR (lt)
open EvtR (Pt evB ev)
open CatR (Blk Blk.new)
open DateR (Laid)
open DateM (fd fd_succ fd_2760 fd_mono)
theorem fd_2761 : fd 2761 = 84037 := by
 have h := fd_succ 2760
 rw [fd_2760] at h
 rw [h]
 decide +kernel
theorem one_rise {α : Type} {r : α → α → Bool} {z : α} {xs : List α} (h : xs.length ≤ 1) : riseB r z xs = true := rise_yes (rise_one xs.length h)
/-- The window of a right event is right. -/
theorem ev_right (i a m t : ByteArray) (n k : Int) (K : Nat) (hev : evB i a m n k t = true) (f1 : fd K ≤ n / 1440) (f2 : n / 1440 < fd (K + 1)) : wB ⟨a, m, (K : Int), 1, k, k, tgl t, [⟨HourR.hourV n, k⟩]⟩ = true := by
 unfold evB at hev
 simp only [Bool.and_eq_true, decide_eq_true_eq] at hev
 obtain ⟨_, ha, hm, ⟨n1, n2⟩, ⟨k1, k2⟩, ht⟩ := hev
 have hK : K ≤ 2760 := by
  rcases Nat.lt_or_ge 2760 K with q | q
  ·have := fd_mono (j := 2761) (k := K) q
   rw [fd_2761] at this
   omega
  ·exact q
 have hv : HourR.hourV n = n / 60 := by
  unfold HourR.hourV
  rw [if_pos ⟨n1, n2⟩, Int.tdiv_eq_ediv_of_nonneg n1]
 have hd : 60 * (n / 60) / 1440 = n / 1440 := by omega
 unfold wB namedB countedB timedB hoursB tagsB
 simp only [Bool.and_eq_true, decide_eq_true_eq]
 refine ⟨⟨ha, hm, by omega, by omega⟩, ⟨⟨by omega, by omega⟩, ⟨k1, by omega⟩, k1, by omega⟩, ⟨?_, ?_, ?_⟩, ⟨by simp, by simp⟩, one_rise (by simp), ?_, ?_⟩
 ·unfold tgl; split <;> simp
 ·exact one_rise (by unfold tgl; split <;> simp)
 ·unfold tgl
  split
  ·rfl
  ·rename_i q
   simp only [List.all_cons, List.all_nil, Bool.and_true]
   unfold tagOk
   simp only [Bool.and_eq_true, decide_eq_true_eq]
   exact ⟨by omega, ht⟩
 ·simp only [List.all_cons, List.all_nil, Bool.and_true]
  unfold hOk hourIn
  simp only [Bool.and_eq_true, decide_eq_true_eq]
  rw [hv, hd]
  exact ⟨⟨by omega, by omega, by omega, by simpa using f1, by simpa using f2⟩, k1, by omega⟩
 ·simp [hsum]
theorem wz_not : wB wz = false := by
 unfold wB namedB
 have : NameR.nameB wz.a = false := by
  unfold NameR.nameB
  rfl
 rw [this]
 rfl
/-- An event's window on both sides. -/
def YW (y : Wd) (v : Value) (W : World) : Prop := ∃ ta tc ha hc, v = .agg (wcells y ta tc ha hc) ∧ SlOk ta y.ts.length tc ∧ SlOk ha y.hs.length hc ∧ Tgs ta y.ts W ∧ Hrs ha y.hs W
def YS (y : Wd) (v : Value) (W : World) : Prop := ∃ ta tc ha hc, v = .agg (wcells y ta tc ha hc) ∧ Tgs ta y.ts W ∧ Hrs ha y.hs W
theorem yw_of {base : Nat} {y : Wd} {v : Value} {W : World} (h : MadeWS base y v W) : YW y v W := by
 obtain ⟨⟨ta, tc, ha, hc, rfl, h1, h2, _⟩, _, _, _, _, _, _, _, _, _, _, _, _, e, s1, s2⟩ := h
 simp only [wcells, Value.agg.injEq, Array.mk.injEq, List.cons.injEq, Value.slice.injEq, and_true] at e
 obtain ⟨_, _, _, _, _, _, ⟨rfl, rfl, rfl⟩, rfl, rfl, rfl⟩ := e
 exact ⟨_, _, _, _, rfl, s1, s2, h1.rws, h2.rws⟩
theorem ev_window (i a m t : ByteArray) (n k : Int) (li : i.size ≤ 1048576) (la : a.size ≤ 1048576) (lm : m.size ≤ 1048576) (lt : t.size ≤ 1048576) :
  ∃ y : Wd, wB y = evB i a m n k t ∧ y.Small ∧ (evB i a m n k t = false → y.ts.length = 0 ∧ y.hs.length = 0) ∧ (y.ts.length ≤ 1 ∧ y.hs.length ≤ 1) ∧ (∀ w, Laid w → Calls Tryd.prog 28 #[ev i a m n k t] w fun e w' => ∃ v, e = .returned v ∧ YW y v w' ∧ Below w.heap.size w w') ∧ (evB i a m n k t = true → ∀ w, Calls Tryd.prog 24 #[ev i a m n k t] w fun e w' => ∃ v, e = .returned v ∧ YS y v w' ∧ Below w.heap.size w w') := by
 cases hev : evB i a m n k t
 ·refine ⟨wz, wz_not, ⟨by show 0 ≤ _; omega, by show 0 ≤ _; omega, by simp [wz], by simp [wz], by simp [wz]⟩, fun _ => ⟨by simp [wz], by simp [wz]⟩, ⟨by simp [wz], by simp [wz]⟩, fun w hL => ?_, fun h => by cases h⟩
  refine (of_no_s i a m t n k w li la lm lt hev).mono ?_
  rintro e w' ⟨v, rfl, hm, hb⟩
  exact ⟨v, rfl, yw_of hm, hb⟩
 ·have h := hev
  unfold evB at h
  simp only [Bool.and_eq_true, decide_eq_true_eq] at h
  obtain ⟨_, _, _, ⟨n1, n2⟩, _⟩ := h
  obtain ⟨K, _, f1, f2, hi, hs⟩ := month_two n n1 n2
  have ht1 : (tgl t).length ≤ 1 := by unfold tgl; split <;> simp
  refine ⟨⟨a, m, K, 1, k, k, tgl t, [⟨HourR.hourV n, k⟩]⟩, ev_right i a m t n k K hev f1 f2, ⟨la, lm, by show (tgl t).length ≤ _; omega, fun x hx => ?_, by simp⟩, (fun h => by cases h), ⟨ht1, by simp⟩, fun w hL => ?_, fun _ w => ?_⟩
  ·have hx' : x ∈ tgl t := hx
   unfold tgl at hx'
   split at hx'
   ·cases hx'
   ·simp only [List.mem_singleton] at hx'
    subst hx'
    exact lt
  ·refine (of_in_s i a m t n k K w li la lm lt hev hi hL).mono ?_
   rintro e w' ⟨v, rfl, hm, hb⟩
   exact ⟨v, rfl, yw_of hm, hb⟩
  ·refine (sof_in i a m t n k K w n1 n2 hs).mono ?_
   rintro e w' ⟨v, rfl, ⟨ta, tc, ha, hc, rfl, h1, h2, _, _⟩, hb⟩
   exact ⟨_, rfl, ⟨ta, tc, ha, hc, rfl, h1, h2⟩, hb⟩
/-- One answer of both, by what each hands back. -/
theorem posts_both (x y : Wd) (h2 : Two x y) : ∃ (z : Wd) (cd : Int), z.ts.length ≤ 1048576 ∧ z.hs.length ≤ 1048576 ∧
  (∀ base e w', JPost (wB x) (wB y) (wB (jw x y)) (sameW x y) (jw x y) base e w' → ∃ v, e = .returned v ∧ MadeO base z cd v w') ∧
  (∀ bw v w', (((wB x && wB y) = false ∧ v = .agg #[.string ⟨#[]⟩, .string ⟨#[]⟩, .int .i64 0, .int .i64 0, .int .i64 0, .int .i64 0, .slice none 0 0, .slice none 0 0, .int .i64 1]) ∨ ((wB x && wB y) = true ∧ ∃ base, bw ≤ base ∧ SPost base (sameW x y) (wB (jw x y)) x.a x.m x.mo (x.ev + y.ev) (x.su + y.su) (max x.mx y.mx) (jw x y).ts (jw x y).hs (.returned v) w')) → NewO bw z cd v w') := by
 by_cases hr : (wB x && wB y) = false
 ·refine ⟨wz, 1, by simp [wz], by simp [wz], ?_, ?_⟩
  ·rintro base e w' (⟨_, rfl⟩ | ⟨q, _⟩ | ⟨q, _⟩ | ⟨q, _⟩)
   ·exact ⟨_, rfl, wz_made_o _ _ _⟩
   all_goals (rw [hr] at q; cases q)
  ·rintro bw v w' (⟨_, rfl⟩ | ⟨q, _⟩)
   ·exact wz_new_o _ _ _
   ·rw [hr] at q; cases q
 ·by_cases hm : sameW x y
  ·cases h3 : wB (jw x y)
   ·refine ⟨wz, 9, by simp [wz], by simp [wz], ?_, ?_⟩
    ·rintro base e w' (⟨q, _⟩ | ⟨_, q, _⟩ | ⟨_, _, _, rfl⟩ | ⟨_, _, q, _⟩)
     ·exact absurd q hr
     ·exact absurd hm q
     ·exact ⟨_, rfl, wz_made_o _ _ _⟩
     ·first | cases q | (rw [h3] at q; cases q)
    ·rintro bw v w' (⟨q, _⟩ | ⟨_, base, _, ⟨q, _⟩ | ⟨_, _, e⟩ | ⟨_, q, _⟩⟩)
     ·exact absurd q hr
     ·exact absurd hm q
     ·cases e
      exact wz_new_o _ _ _
     ·first | cases q | (rw [h3] at q; cases q)
   ·refine ⟨jw x y, 0, h2.jlt, h2.jlh, ?_, ?_⟩
    ·rintro base e w' (⟨q, _⟩ | ⟨_, q, _⟩ | ⟨_, _, q, _⟩ | ⟨_, _, _, v, rfl, hv⟩)
     ·exact absurd q hr
     ·exact absurd hm q
     ·first | cases q | (rw [h3] at q; cases q)
     ·exact ⟨_, rfl, made_out hv⟩
    ·rintro bw v w' (⟨q, _⟩ | ⟨_, base, hbase, ⟨q, _⟩ | ⟨_, q, _⟩ | ⟨_, _, ta, tc, ha, hc, e, q4, q5, q6, q7⟩⟩)
     ·exact absurd q hr
     ·exact absurd hm q
     ·first | cases q | (rw [h3] at q; cases q)
     ·cases e
      exact ⟨ta, tc, ha, hc, rfl, q4, q5, .inr (fun b off e => Nat.le_trans hbase (q6 b off e)), .inr (fun b off e => Nat.le_trans hbase (q7 b off e))⟩
  ·refine ⟨wz, 10, by simp [wz], by simp [wz], ?_, ?_⟩
   ·rintro base e w' (⟨q, _⟩ | ⟨_, _, rfl⟩ | ⟨_, q, _⟩ | ⟨_, q, _⟩)
    ·exact absurd q hr
    ·exact ⟨_, rfl, wz_made_o _ _ _⟩
    ·exact absurd q hm
    ·exact absurd q hm
   ·rintro bw v w' (⟨q, _⟩ | ⟨_, base, _, ⟨_, e⟩ | ⟨q, _⟩ | ⟨q, _⟩⟩)
    ·exact absurd q hr
    ·cases e
     exact wz_new_o _ _ _
    ·exact absurd q hm
    ·exact absurd q hm
theorem madeG_keep {α : Type} {k : Nat} {cells : α → List Value} {z : α} {base : Nat} {ao : Option Addr} {xs : List α} {w w' : World} {g : Nat} (h : MadeG k cells z base ao xs w) (hg : w.grownBy w' (some g)) (hlt : g < base) : MadeG k cells z base ao xs w' := by
 rcases h.own with h0 | ⟨b, e1, e2, e3⟩
 ·exact ⟨.inl h0, .inl h0⟩
 ·have e := hg.block b e3.lt (by simp; omega)
  exact ⟨h.rws.grown hg (.inr (fun b' off q => by rw [e1] at q; simp at q; simp; omega)), .inr ⟨b, e1, e2, by have := hg.size; have := e3.lt; omega, fun x hx => by obtain ⟨u, hu⟩ := e3.has x hx; exact ⟨u, (World.cell?_of_block (a := ⟨b, x, none⟩) e).trans hu⟩, fun x hx => (World.frozen?_of_block (a := ⟨b, x, none⟩) e).trans (e3.free x hx)⟩⟩
/-- One answer of both WindowAdds. -/
theorem add_both (x : Wd) (i a m t : ByteArray) (n k : Int) (sx : x.Small) (li : i.size ≤ 1048576) (la : a.size ≤ 1048576) (lm : m.size ≤ 1048576) (lt : t.size ≤ 1048576) (tt : evB i a m n k t = true → x.ts.length + 1 ≤ 1048576 ∧ x.hs.length + 1 ≤ 1048576) : ∃ (z : Wd) (cd : Int), z.ts.length ≤ 1048576 ∧ z.hs.length ≤ 1048576 ∧
  (∀ b1 v1 w, Laid w → TwW b1 x v1 w → Calls Tryd.prog 10 #[v1, ev i a m n k t] w fun e w' => ∃ v, e = .returned v ∧ MadeO w.heap.size z cd v w' ∧ Below w.heap.size w w') ∧
  (∀ b1 v1 w, TwW b1 x v1 w → Calls Tryd.prog 7 #[v1, ev i a m n k t] w fun e w' => ∃ v, e = .returned v ∧ NewO w.heap.size z cd v w' ∧ Below w.heap.size w w') := by
 obtain ⟨y, hy, sy, y0, ⟨yt, yh⟩, hI, hS⟩ := ev_window i a m t n k li la lm lt
 have h2 : Two x y := by
  cases hev : evB i a m n k t
  ·obtain ⟨e1, e2⟩ := y0 hev
   exact ⟨sx, sy, by have := sx.2.2.1; omega, by have := sx.2.2.2.2; omega⟩
  ·obtain ⟨e1, e2⟩ := tt hev
   exact ⟨sx, sy, by omega, by omega⟩
 obtain ⟨z, cd, z1, z2, hp, hq⟩ := posts_both x y h2
 refine ⟨z, cd, z1, z2, ?_, ?_⟩
 ·rintro b1 v1 w hL ⟨g1, g2, rfl, l1, l2, hn, m1, m2⟩
  refine (iadd_in (fun v base w' => MadeO base z cd v w') (YW y) x.a x.m x.mo x.ev x.su x.mx _ x.ts.length x.ts.length _ x.hs.length x.hs.length i a m n k t w hL ?_ (fun W hL' _ => hI W hL') ?_).mono ?_
  ·rintro v base W W' ⟨ta, tc, ha, hc, rfl, q1, q2, q3⟩ hg hlt
   exact ⟨ta, tc, ha, hc, rfl, madeG_keep q1 hg hlt, madeG_keep q2 hg hlt, q3⟩
  ·rintro v W hL' hW ⟨ta, tc, ha, hc, rfl, s1, s2, t1, t2⟩
   refine (impl_join x y _ _ _ _ _ _ _ _ W h2 hL' (slok _ _ sx.2.2.1) (slok _ _ sx.2.2.2.2) s1 s2 (Tgs.below m1.rws hW) (Hrs.below m2.rws hW) t1 t2).mono ?_
   rintro e w' ⟨hj, hb⟩
   obtain ⟨v, rfl, ta, tc, ha, hc, rfl, q1, q2, q3⟩ := hp _ _ _ hj
   exact ⟨_, _, _, _, _, _, _, _, _, _, _, _, _, rfl, ⟨ta, tc, ha, hc, rfl, q1, q2, q3⟩, hb⟩
  ·rintro e w' ⟨v, rfl, ⟨base, hbase, ta, tc, ha, hc, rfl, q1, q2, q3⟩, hb⟩
   exact ⟨_, rfl, ⟨ta, tc, ha, hc, rfl, q1.low hbase, q2.low hbase, q3⟩, hb⟩
 ·rintro b1 v1 w ⟨g1, g2, rfl, l1, l2, hn, m1, m2⟩
  have hE := fun W => EvtR.spec_event i a m n k t li la lm lt W
  rw [← hy] at hE hS
  refine (sadd_in (fun v base w' => SPost base (sameW x y) (wB (jw x y)) x.a x.m x.mo (x.ev + y.ev) (x.su + y.su) (max x.mx y.mx) (jw x y).ts (jw x y).hs (.returned v) w') (YS y) (wB x) (wB y) x.a x.m x.mo x.ev x.su x.mx _ x.ts.length x.ts.length _ x.hs.length x.hs.length i a m n k t w ?_
   (fun W hW => spec_window_right x _ _ _ _ W sx.1 sx.2.1 sx.2.2.1 sx.2.2.2.1 (Tgs.below m1.rws hW) (Hrs.below m2.rws hW)) (fun W _ => hE W) (fun h W _ => hS h W) ?_).mono ?_
  ·intro v base W W' hp hg hlt
   rcases hp with ⟨q1, q2⟩ | ⟨q1, q2, q3⟩ | ⟨q1, q2, ta, tc, ha, hc, q3, q4, q5, q6, q7⟩
   ·exact .inl ⟨q1, q2⟩
   ·exact .inr (.inl ⟨q1, q2, q3⟩)
   ·refine .inr (.inr ⟨q1, q2, ta, tc, ha, hc, q3, Rws.keep q4 hg (.inr (fun b off e => ?_)), Rws.keep q5 hg (.inr (fun b off e => ?_)), q6, q7⟩)
    ·have := q6 b off e
     omega
    ·have := q7 b off e
     omega
  ·rintro hx hy' v W hW ⟨ta, tc, ha, hc, rfl, t1, t2⟩
   refine (spec_l07join x y g1 0 x.ts.length g2 0 x.hs.length ta tc ha hc W h2 hx hy' (Tgs.below m1.rws hW) (Hrs.below m2.rws hW) t1 t2).mono ?_
   rintro e w' ⟨hp, hb⟩
   have hp' := hp
   rcases hp with ⟨q1, rfl⟩ | ⟨q1, q2, rfl⟩ | ⟨q1, q2, ta, tc, ha, hc, rfl, q4, q5, q6, q7⟩
   ·exact ⟨_, _, _, _, _, _, _, _, _, _, _, _, _, rfl, hp', hb⟩
   ·exact ⟨_, _, _, _, _, _, _, _, _, _, _, _, _, rfl, hp', hb⟩
   ·exact ⟨_, _, _, _, _, _, _, _, _, _, _, _, _, rfl, hp', hb⟩
  ·rintro e w' ⟨v, rfl, hd, hb⟩
   exact ⟨v, rfl, hq _ _ _ hd, hb⟩
end WinR
end Go.Proofs.YtnlmpejgiakepaaDoor
namespace Go.Proofs.YtnlmpejgiakepaaDoor
open Go.ChangeShapes Go.WideShapes Go.ChangeAt Go.RowKit
set_option linter.unusedVariables false
namespace CatR
/-- A tier, a credit, a meter, a catalog. -/
structure Ti where
 u : Int
 p : Int
structure Cr where
 a : ByteArray
 m : Int
structure Me where
 n : ByteArray
 g : Int
 wh : Bool
 f : Int
 l : Int
 ts : List Ti
structure Ca where
 ms : List Me
 cs : List Cr
def Ti.zero : Ti := ⟨0, 0⟩
def Cr.zero : Cr := ⟨⟨#[]⟩, 0⟩
def Me.zero : Me := ⟨⟨#[]⟩, 0, false, 0, 0, []⟩
/-- The cells of a tier, of a credit stand at a place. -/
def TiAt (w : World) (b o : Nat) (t : Ti) : Prop := w.cell? ⟨b, o, none⟩ = some (.int .i64 t.u) ∧ w.cell? ⟨b, o + 1, none⟩ = some (.int .i64 t.p)
def CrAt (w : World) (b o : Nat) (t : Cr) : Prop := w.cell? ⟨b, o, none⟩ = some (.string t.a) ∧ w.cell? ⟨b, o + 1, none⟩ = some (.int .i64 t.m)
/-- The row holds these tiers, these credits; it lies in none of the shunned blocks. -/
def Tis (ao : Option Addr) (len : Nat) (ts : List Ti) (w : World) : Prop := ts.length = len ∧ (len = 0 ∨ ∃ b off, ao = some ⟨b, off, none⟩ ∧ b < w.heap.size ∧ ∀ j, j < len → TiAt w b (off + j * 2) (ts.getD j Ti.zero))
def Crs (ao : Option Addr) (len : Nat) (ts : List Cr) (w : World) : Prop := ts.length = len ∧ (len = 0 ∨ ∃ b off, ao = some ⟨b, off, none⟩ ∧ b < w.heap.size ∧ ∀ j, j < len → CrAt w b (off + j * 2) (ts.getD j Cr.zero))
/-- A meter's cells at a place, its tiers elsewhere. -/
def MeAt (w : World) (b o : Nat) (m : Me) : Prop := ∃ ta tc, w.cell? ⟨b, o, none⟩ = some (.string m.n) ∧ w.cell? ⟨b, o + 1, none⟩ = some (.int .i64 m.g) ∧ w.cell? ⟨b, o + 2, none⟩ = some (.bool m.wh) ∧ w.cell? ⟨b, o + 3, none⟩ = some (.int .i64 m.f) ∧ w.cell? ⟨b, o + 4, none⟩ = some (.int .i64 m.l) ∧ w.cell? ⟨b, o + 5, none⟩ = some (.slice ta m.ts.length tc) ∧ Tis ta m.ts.length m.ts w
def Mes (ao : Option Addr) (len : Nat) (ms : List Me) (w : World) : Prop := ms.length = len ∧ (len = 0 ∨ ∃ b off, ao = some ⟨b, off, none⟩ ∧ b < w.heap.size ∧ ∀ j, j < len → MeAt w b (off + j * 6) (ms.getD j Me.zero))
/-- A meter's value, a catalog's. -/
def IsMe (v : Value) (m : Me) (w : World) : Prop := ∃ ta tc, v = .agg #[.string m.n, .int .i64 m.g, .bool m.wh, .int .i64 m.f, .int .i64 m.l, .slice ta m.ts.length tc] ∧ Tis ta m.ts.length m.ts w
def IsCa (v : Value) (c : Ca) (w : World) : Prop := ∃ ma mc ca cc, v = .agg #[.slice ma c.ms.length mc, .slice ca c.cs.length cc] ∧ Mes ma c.ms.length c.ms w ∧ Crs ca c.cs.length c.cs w
theorem TiAt.below {w w' : World} {b o : Nat} {e : Ti} (h : TiAt w b o e) (hl : b < w.heap.size) (hb : Below w.heap.size w w') : TiAt w' b o e :=
 ⟨(hb.cell (p := ⟨b, o, none⟩) hl).trans h.1, (hb.cell (p := ⟨b, o + 1, none⟩) hl).trans h.2⟩
theorem CrAt.below {w w' : World} {b o : Nat} {e : Cr} (h : CrAt w b o e) (hl : b < w.heap.size) (hb : Below w.heap.size w w') : CrAt w' b o e :=
 ⟨(hb.cell (p := ⟨b, o, none⟩) hl).trans h.1, (hb.cell (p := ⟨b, o + 1, none⟩) hl).trans h.2⟩
theorem Tis.below {ao : Option Addr} {len : Nat} {es : List Ti} {w w' : World} (h : Tis ao len es w) (hb : Below w.heap.size w w') : Tis ao len es w' := by
 refine ⟨h.1, ?_⟩
 rcases h.2 with h0 | ⟨b, off, rfl, hlt, hc⟩
 ·exact .inl h0
 ·exact .inr ⟨b, off, rfl, by have := hb.size; omega, fun j hj => (hc j hj).below hlt hb⟩
theorem Crs.below {ao : Option Addr} {len : Nat} {es : List Cr} {w w' : World} (h : Crs ao len es w) (hb : Below w.heap.size w w') : Crs ao len es w' := by
 refine ⟨h.1, ?_⟩
 rcases h.2 with h0 | ⟨b, off, rfl, hlt, hc⟩
 ·exact .inl h0
 ·exact .inr ⟨b, off, rfl, by have := hb.size; omega, fun j hj => (hc j hj).below hlt hb⟩
theorem MeAt.below {w w' : World} {b o : Nat} {e : Me} (h : MeAt w b o e) (hl : b < w.heap.size) (hb : Below w.heap.size w w') : MeAt w' b o e := by
 obtain ⟨ta, tc, h0, h1, h2, h3, h4, h5, h6⟩ := h
 have f := fun k => hb.cell (p := ⟨b, k, none⟩) hl
 exact ⟨ta, tc, (f _).trans h0, (f _).trans h1, (f _).trans h2, (f _).trans h3, (f _).trans h4, (f _).trans h5, h6.below hb⟩
theorem Mes.below {ao : Option Addr} {len : Nat} {es : List Me} {w w' : World} (h : Mes ao len es w) (hb : Below w.heap.size w w') : Mes ao len es w' := by
 refine ⟨h.1, ?_⟩
 rcases h.2 with h0 | ⟨b, off, rfl, hlt, hc⟩
 ·exact .inl h0
 ·exact .inr ⟨b, off, rfl, by have := hb.size; omega, fun j hj => (hc j hj).below hlt hb⟩
theorem IsMe.below {v : Value} {m : Me} {w w' : World} (h : IsMe v m w) (hb : Below w.heap.size w w') : IsMe v m w' := by
 obtain ⟨ta, tc, hv, ht⟩ := h
 exact ⟨ta, tc, hv, ht.below hb⟩
theorem IsCa.below {v : Value} {m : Ca} {w w' : World} (h : IsCa v m w) (hb : Below w.heap.size w w') : IsCa v m w' := by
 obtain ⟨ma, mc, ca, cc, hv, h1, h2⟩ := h
 exact ⟨ma, mc, ca, cc, hv, h1.below hb, h2.below hb⟩
theorem tis_at {ao : Option Addr} {len : Nat} {es : List Ti} {w : World} (h : Tis ao len es w) (k : Nat) (hk : k < len) : ∃ b off, ao = some ⟨b, off, none⟩ ∧ b < w.heap.size ∧ TiAt w b (off + k * 2) (es.getD k Ti.zero) := by
 rcases h.2 with h0 | ⟨b, off, rfl, hlt, hc⟩
 ·omega
 ·exact ⟨b, off, rfl, hlt, hc k hk⟩
theorem crs_at {ao : Option Addr} {len : Nat} {es : List Cr} {w : World} (h : Crs ao len es w) (k : Nat) (hk : k < len) : ∃ b off, ao = some ⟨b, off, none⟩ ∧ b < w.heap.size ∧ CrAt w b (off + k * 2) (es.getD k Cr.zero) := by
 rcases h.2 with h0 | ⟨b, off, rfl, hlt, hc⟩
 ·omega
 ·exact ⟨b, off, rfl, hlt, hc k hk⟩
theorem mes_at {ao : Option Addr} {len : Nat} {es : List Me} {w : World} (h : Mes ao len es w) (k : Nat) (hk : k < len) : ∃ b off, ao = some ⟨b, off, none⟩ ∧ b < w.heap.size ∧ MeAt w b (off + k * 6) (es.getD k Me.zero) := by
 rcases h.2 with h0 | ⟨b, off, rfl, hlt, hc⟩
 ·omega
 ·exact ⟨b, off, rfl, hlt, hc k hk⟩
theorem getD_memG {α : Type} (es : List α) (d : α) (k : Nat) (h : k < es.length) : es.getD k d ∈ es := by
 have : es.getD k d = es[k] := by simp [List.getD, h]
 rw [this]; exact List.getElem_mem h
theorem Tis.nil (ao : Option Addr) (w : World) : Tis ao 0 [] w := ⟨rfl, .inl rfl⟩
end CatR
end Go.Proofs.YtnlmpejgiakepaaDoor
namespace Go.Proofs.YtnlmpejgiakepaaDoor
open Go.ChangeShapes Go.WideShapes Go.ChangeAt Go.RowKit Go.Deep
set_option linter.unusedVariables false
namespace CatR
section
variable {H : Type} {enc : TypeId × Value → H} {P : Program} {w : World} {base : Nat} {spare : Nat → Bool} {held : Bool}
theorem lst2 {α : Type} {cs : List α} (h : cs.length = 2) : ∃ c0 c1, cs = [c0, c1] := by
 match cs, h with
 | [c0, c1], _ => exact ⟨c0, c1, rfl⟩
theorem lst6 {α : Type} {cs : List α} (h : cs.length = 6) : ∃ c0 c1 c2 c3 c4 c5, cs = [c0, c1, c2, c3, c4, c5] := by
 match cs, h with
 | [c0, c1, c2, c3, c4, c5], _ => exact ⟨c0, c1, c2, c3, c4, c5, rfl⟩
theorem cellsAt {a : Addr} {cs : List Value} {n : Nat} (h : w.cells? base a n = some cs) (j : Nat) (hj : j < n) : w.cell? (a.add j) = cs[j]? := by
 obtain ⟨_, h1, h2⟩ := World.cells?_some h
 exact h2 j hj
/-- A row that came in: each element by what its cells are. -/
theorem row_open {α : Type} (sz : Nat) (cel : α → List Value → Prop) (d : α) {t e : TypeId} {fuel : Nat} {ao : Option Addr} {len cap : Nat} {x : DataW H × List MemPlace} (ht : P.underlying t = some (.slice e)) (hC : P.cellsOf e = sz) (hsz : 0 < sz)
  (key : ∀ fuel cs x, DataW.trod enc P w base spare held fuel e cs = some x → ∃ a, cel a cs ∧ cs.length = sz)
  (h : DataW.trod enc P w base spare held fuel t [.slice ao len cap] = some x) :
  len ≤ maxLen ∧ ∃ f : Nat → α, (∀ j, j < len → ∃ cs, cel (f j) cs) ∧ (len = 0 ∨ ∃ b off, ao = some ⟨b, off, none⟩ ∧ b < w.heap.size ∧ ∀ j, j < len → ∃ cs, cel (f j) cs ∧ ∀ i, i < sz → w.cell? ⟨b, off + j * sz + i, none⟩ = cs[i]?) := by
 rcases DataW.trod_slice ht h with ⟨hcs, _⟩ | ⟨a, len', cap', elems, rest, n, _, hcs, _, hb, hl, hm, hlen, hel, _, _⟩
 ·simp only [List.cons.injEq, Value.slice.injEq, and_true] at hcs
  obtain ⟨rfl, rfl, rfl⟩ := hcs
  exact ⟨Nat.zero_le _, fun _ => d, fun j hj => absurd hj (by omega), .inl rfl⟩
 ·simp only [List.cons.injEq, Value.slice.injEq, and_true] at hcs
  obtain ⟨rfl, rfl, rfl⟩ := hcs
  have key2 : ∀ i, i < len → ∃ E1 : α, ∃ cs, cel E1 cs ∧ cs.length = sz ∧ w.cells? base (a.add (i * sz)) sz = some cs := by
   intro i hi
   have h1 := hel i hi
   rw [hC, List.getElem?_eq_getElem (by omega)] at h1
   cases hc : w.cells? base (a.add (i * sz)) sz with
   | none => rw [hc] at h1; simp at h1
   | some cs =>
    rw [hc] at h1
    simp only [Option.bind_some] at h1
    obtain ⟨E1, q1, q2⟩ := key _ _ _ h1
    exact ⟨E1, cs, q1, q2, rfl⟩
  have : ∃ f : Nat → α, ∀ i, i < len → ∃ cs, cel (f i) cs ∧ cs.length = sz ∧ w.cells? base (a.add (i * sz)) sz = some cs := by
   refine ⟨fun i => if hi : i < len then Classical.choose (key2 i hi) else d, fun i hi => ?_⟩
   simp only [hi, dif_pos]
   exact Classical.choose_spec (key2 i hi)
  obtain ⟨f, hf⟩ := this
  refine ⟨by omega, f, fun j hj => by obtain ⟨cs, h1, _⟩ := hf j hj; exact ⟨cs, h1⟩, ?_⟩
  by_cases h0 : len = 0
  ·exact .inl h0
  ·obtain ⟨b, off, spot⟩ := a
   obtain ⟨cs0, g0, g1, g2⟩ := hf 0 (by omega)
   have hc0 := cellsAt g2 0 hsz
   rw [List.getElem?_eq_getElem (by omega)] at hc0
   have hc1 : w.cell? ⟨b, off, spot⟩ = some cs0[0] := by simpa [Addr.add] using hc0
   obtain rfl : spot = none := World.cell?_spot hc1
   refine .inr ⟨b, off, rfl, World.block_lt_of_cell? w _ hc1, fun j hj => ?_⟩
   obtain ⟨cs, q1, q2, q3⟩ := hf j hj
   refine ⟨cs, q1, fun i hi => ?_⟩
   have g := cellsAt q3 i hi
   have ad : ((⟨b, off, none⟩ : Addr).add (j * sz)).add i = ⟨b, off + j * sz + i, none⟩ := by
    unfold Addr.add
    split <;> split <;> simp_all
   rw [ad] at g
   exact g
theorem lst_getD {α : Type} (f : Nat → α) (d : α) (len j : Nat) (hj : j < len) : ((List.range len).map f).getD j d = f j := by simp [List.getD, hj]
theorem tis_open {t e : TypeId} {f0 f1 : Field} {fuel : Nat} {ao : Option Addr} {len cap : Nat} {x : DataW H × List MemPlace} (ht : P.underlying t = some (.slice e)) (hs : P.underlying e = some (.struct #[f0, f1])) (hone : oneCellFields P #[f0, f1] = true) (hC : P.cellsOf e = 2)
  (u0 : P.underlying f0.type = some (.int .i64)) (u1 : P.underlying f1.type = some (.int .i64))
  (h : DataW.trod enc P w base spare held fuel t [.slice ao len cap] = some x) : len ≤ maxLen ∧ ∃ ts : List Ti, ts.length = len ∧ Tis ao len ts w := by
 obtain ⟨h1, f, _, h2⟩ := row_open 2 (fun (a : Ti) cs => cs = [.int .i64 a.u, .int .i64 a.p]) Ti.zero ht hC (by omega) (fun fuel cs x h => by
  obtain ⟨xs, n, _, _, hl, hlen, hf⟩ := DataW.trod_struct hs h
  obtain ⟨c0, c1, rfl⟩ := lst2 (hl.trans hC)
  obtain ⟨y0, y1, rfl⟩ := lst2 (show xs.length = 2 from hlen)
  obtain ⟨o0, k0⟩ := hone_of hone 0 f0 rfl
  obtain ⟨o1, k1⟩ := hone_of hone 1 f1 rfl
  have h0 := hf 0 f0 rfl
  have h1 := hf 1 f1 rfl
  simp [o0, k0] at h0
  simp [o1, k1] at h1
  obtain ⟨p, e0, _, _⟩ := DataW.trod_int u0 h0
  obtain ⟨q, e1, _, _⟩ := DataW.trod_int u1 h1
  simp only [List.cons.injEq, and_true] at e0 e1
  subst e0 e1
  exact ⟨⟨p, q⟩, rfl, rfl⟩) h
 refine ⟨h1, (List.range len).map f, by simp, by simp, ?_⟩
 rcases h2 with h2 | ⟨b, off, rfl, hb, hc⟩
 ·exact .inl h2
 ·refine .inr ⟨b, off, rfl, hb, fun j hj => ?_⟩
  obtain ⟨cs, rfl, g⟩ := hc j hj
  rw [lst_getD f _ len j hj]
  exact ⟨g 0 (by omega), g 1 (by omega)⟩
theorem crs_open {t e : TypeId} {f0 f1 : Field} {fuel : Nat} {ao : Option Addr} {len cap : Nat} {x : DataW H × List MemPlace} (ht : P.underlying t = some (.slice e)) (hs : P.underlying e = some (.struct #[f0, f1])) (hone : oneCellFields P #[f0, f1] = true) (hC : P.cellsOf e = 2)
  (u0 : P.underlying f0.type = some .string) (u1 : P.underlying f1.type = some (.int .i64))
  (h : DataW.trod enc P w base spare held fuel t [.slice ao len cap] = some x) : len ≤ maxLen ∧ ∃ cs : List Cr, cs.length = len ∧ (∀ i, i < len → (cs.getD i Cr.zero).a.size ≤ maxLen) ∧ Crs ao len cs w := by
 obtain ⟨h1, f, hq, h2⟩ := row_open 2 (fun (a : Cr) cs => cs = [.string a.a, .int .i64 a.m] ∧ a.a.size ≤ maxLen) Cr.zero ht hC (by omega) (fun fuel cs x h => by
  obtain ⟨xs, n, _, _, hl, hlen, hf⟩ := DataW.trod_struct hs h
  obtain ⟨c0, c1, rfl⟩ := lst2 (hl.trans hC)
  obtain ⟨y0, y1, rfl⟩ := lst2 (show xs.length = 2 from hlen)
  obtain ⟨o0, k0⟩ := hone_of hone 0 f0 rfl
  obtain ⟨o1, k1⟩ := hone_of hone 1 f1 rfl
  have h0 := hf 0 f0 rfl
  have h1 := hf 1 f1 rfl
  simp [o0, k0] at h0
  simp [o1, k1] at h1
  obtain ⟨p, e0, _, s0⟩ := DataW.trod_string u0 h0
  obtain ⟨q, e1, _, _⟩ := DataW.trod_int u1 h1
  simp only [List.cons.injEq, and_true] at e0 e1
  subst e0 e1
  exact ⟨⟨p, q⟩, ⟨rfl, s0⟩, rfl⟩) h
 refine ⟨h1, (List.range len).map f, by simp, fun i hi => ?_, by simp, ?_⟩
 ·rw [lst_getD f _ len i hi]
  obtain ⟨cs, _, h⟩ := hq i hi
  exact h
 rcases h2 with h2 | ⟨b, off, rfl, hb, hc⟩
 ·exact .inl h2
 ·refine .inr ⟨b, off, rfl, hb, fun j hj => ?_⟩
  obtain ⟨cs, ⟨rfl, _⟩, g⟩ := hc j hj
  rw [lst_getD f _ len j hj]
  exact ⟨g 0 (by omega), g 1 (by omega)⟩
/-- A meter that came in, cell by cell. -/
theorem me_open {t tt te : TypeId} {f0 f1 f2 f3 f4 f5 g0 g1 : Field} {fuel : Nat} {cs : List Value} {x : DataW H × List MemPlace} (hs : P.underlying t = some (.struct #[f0, f1, f2, f3, f4, f5])) (hone : oneCellFields P #[f0, f1, f2, f3, f4, f5] = true) (hC : P.cellsOf t = 6)
  (u0 : P.underlying f0.type = some .string) (u1 : P.underlying f1.type = some (.int .i64)) (u2 : P.underlying f2.type = some .bool) (u3 : P.underlying f3.type = some (.int .i64)) (u4 : P.underlying f4.type = some (.int .i64)) (u5 : P.underlying f5.type = some (.slice te))
  (hs2 : P.underlying te = some (.struct #[g0, g1])) (hone2 : oneCellFields P #[g0, g1] = true) (hC2 : P.cellsOf te = 2) (v0 : P.underlying g0.type = some (.int .i64)) (v1 : P.underlying g1.type = some (.int .i64))
  (h : DataW.trod enc P w base spare held fuel t cs = some x) :
  ∃ (m : Me) (ta : Option Addr) (tc : Nat), cs = [.string m.n, .int .i64 m.g, .bool m.wh, .int .i64 m.f, .int .i64 m.l, .slice ta m.ts.length tc] ∧ m.n.size ≤ maxLen ∧ m.ts.length ≤ maxLen ∧ Tis ta m.ts.length m.ts w := by
 obtain ⟨xs, n, _, _, hl, hlen, hf⟩ := DataW.trod_struct hs h
 obtain ⟨c0, c1, c2, c3, c4, c5, rfl⟩ := lst6 (hl.trans hC)
 obtain ⟨y0, y1, y2, y3, y4, y5, rfl⟩ := lst6 (show xs.length = 6 from hlen)
 obtain ⟨o0, k0⟩ := hone_of hone 0 f0 rfl
 obtain ⟨o1, k1⟩ := hone_of hone 1 f1 rfl
 obtain ⟨o2, k2⟩ := hone_of hone 2 f2 rfl
 obtain ⟨o3, k3⟩ := hone_of hone 3 f3 rfl
 obtain ⟨o4, k4⟩ := hone_of hone 4 f4 rfl
 obtain ⟨o5, k5⟩ := hone_of hone 5 f5 rfl
 have h0 := hf 0 f0 rfl
 have h1 := hf 1 f1 rfl
 have h2 := hf 2 f2 rfl
 have h3 := hf 3 f3 rfl
 have h4 := hf 4 f4 rfl
 have h5 := hf 5 f5 rfl
 simp [o0, k0] at h0
 simp [o1, k1] at h1
 simp [o2, k2] at h2
 simp [o3, k3] at h3
 simp [o4, k4] at h4
 simp [o5, k5] at h5
 obtain ⟨i, e0, _, s0⟩ := DataW.trod_string u0 h0
 obtain ⟨a, e1, _, s1⟩ := DataW.trod_int u1 h1
 obtain ⟨q, e2, _⟩ := DataW.trod_bool u2 h2
 obtain ⟨p, e3, _, s3⟩ := DataW.trod_int u3 h3
 obtain ⟨r, e4, _, s4⟩ := DataW.trod_int u4 h4
 obtain ⟨ta, tl, tc, rfl⟩ : ∃ ta tl tc, c5 = .slice ta tl tc := by
  rcases DataW.trod_slice u5 h5 with ⟨hcs, _⟩ | ⟨a, len', cap', _, _, _, _, hcs, _⟩
  ·simp only [List.cons.injEq, and_true] at hcs
   exact ⟨_, _, _, hcs⟩
  ·simp only [List.cons.injEq, and_true] at hcs
   exact ⟨_, _, _, hcs⟩
 obtain ⟨q1, ts, rfl, q2⟩ := tis_open u5 hs2 hone2 hC2 v0 v1 h5
 simp only [List.cons.injEq, and_true] at e0 e1 e2 e3 e4
 subst e0 e1 e2 e3 e4
 exact ⟨⟨i, a, q, p, r, ts⟩, ta, tc, rfl, s0, q1, q2⟩
theorem mes_open {ts t tt te : TypeId} {f0 f1 f2 f3 f4 f5 g0 g1 : Field} {fuel : Nat} {ao : Option Addr} {len cap : Nat} {x : DataW H × List MemPlace} (ht : P.underlying ts = some (.slice t)) (hs : P.underlying t = some (.struct #[f0, f1, f2, f3, f4, f5])) (hone : oneCellFields P #[f0, f1, f2, f3, f4, f5] = true) (hC : P.cellsOf t = 6)
  (u0 : P.underlying f0.type = some .string) (u1 : P.underlying f1.type = some (.int .i64)) (u2 : P.underlying f2.type = some .bool) (u3 : P.underlying f3.type = some (.int .i64)) (u4 : P.underlying f4.type = some (.int .i64)) (u5 : P.underlying f5.type = some (.slice te))
  (hs2 : P.underlying te = some (.struct #[g0, g1])) (hone2 : oneCellFields P #[g0, g1] = true) (hC2 : P.cellsOf te = 2) (v0 : P.underlying g0.type = some (.int .i64)) (v1 : P.underlying g1.type = some (.int .i64))
  (h : DataW.trod enc P w base spare held fuel ts [.slice ao len cap] = some x) :
  len ≤ maxLen ∧ ∃ ms : List Me, ms.length = len ∧ (∀ i, i < len → (ms.getD i Me.zero).n.size ≤ maxLen ∧ (ms.getD i Me.zero).ts.length ≤ maxLen) ∧ Mes ao len ms w := by
 obtain ⟨h1, f, hq, h2⟩ := row_open 6 (fun (m : Me) cs => ∃ (ta : Option Addr) (tc : Nat), cs = [.string m.n, .int .i64 m.g, .bool m.wh, .int .i64 m.f, .int .i64 m.l, .slice ta m.ts.length tc] ∧ m.n.size ≤ maxLen ∧ m.ts.length ≤ maxLen ∧ Tis ta m.ts.length m.ts w) Me.zero ht hC (by omega) (fun fuel cs x h => by
  obtain ⟨m, ta, tc, rfl, q⟩ := me_open (tt := tt) hs hone hC u0 u1 u2 u3 u4 u5 hs2 hone2 hC2 v0 v1 h
  exact ⟨m, ⟨ta, tc, rfl, q⟩, rfl⟩) h
 refine ⟨h1, (List.range len).map f, by simp, fun i hi => ?_, by simp, ?_⟩
 ·rw [lst_getD f _ len i hi]
  obtain ⟨cs, _, _, _, q1, q2, _⟩ := hq i hi
  exact ⟨q1, q2⟩
 rcases h2 with h2 | ⟨b, off, rfl, hb, hc⟩
 ·exact .inl h2
 ·refine .inr ⟨b, off, rfl, hb, fun j hj => ?_⟩
  obtain ⟨cs, ⟨ta, tc, rfl, _, _, q3⟩, g⟩ := hc j hj
  rw [lst_getD f _ len j hj]
  exact ⟨ta, tc, g 0 (by omega), g 1 (by omega), g 2 (by omega), g 3 (by omega), g 4 (by omega), g 5 (by omega), q3⟩
theorem slice_of {t e : TypeId} {fuel : Nat} {c : Value} {x : DataW H × List MemPlace} (u5 : P.underlying t = some (.slice e)) (h5 : DataW.trod enc P w base spare held fuel t [c] = some x) : ∃ ta tl tc, c = .slice ta tl tc := by
 rcases DataW.trod_slice u5 h5 with ⟨hcs, _⟩ | ⟨a, len', cap', _, _, _, _, hcs, _⟩
 ·simp only [List.cons.injEq, and_true] at hcs
  exact ⟨_, _, _, hcs⟩
 ·simp only [List.cons.injEq, and_true] at hcs
  exact ⟨_, _, _, hcs⟩
/-- The two cells of a catalog that came in, each as its field reads. -/
theorem ca_cells {t a b : TypeId} {f0 f1 : Field} {fuel : Nat} {cs : List Value} {x : DataW H × List MemPlace} (hs : P.underlying t = some (.struct #[f0, f1])) (hone : oneCellFields P #[f0, f1] = true) (hC : P.cellsOf t = 2)
  (u0 : P.underlying f0.type = some (.slice a)) (u1 : P.underlying f1.type = some (.slice b))
  (h : DataW.trod enc P w base spare held fuel t cs = some x) :
  ∃ ma ml mc ca cl cc, cs = [.slice ma ml mc, .slice ca cl cc] ∧ (∃ n y, DataW.trod enc P w base spare held n f0.type [.slice ma ml mc] = some y) ∧ ∃ n y, DataW.trod enc P w base spare held n f1.type [.slice ca cl cc] = some y := by
 obtain ⟨xs, n, _, _, hl, hlen, hf⟩ := DataW.trod_struct hs h
 obtain ⟨c0, c1, rfl⟩ := lst2 (hl.trans hC)
 obtain ⟨y0, y1, rfl⟩ := lst2 (show xs.length = 2 from hlen)
 obtain ⟨o0, k0⟩ := hone_of hone 0 f0 rfl
 obtain ⟨o1, k1⟩ := hone_of hone 1 f1 rfl
 have h0 := hf 0 f0 rfl
 have h1 := hf 1 f1 rfl
 simp [o0, k0] at h0
 simp [o1, k1] at h1
 obtain ⟨ma, ml, mc, rfl⟩ := slice_of u0 h0
 obtain ⟨ca, cl, cc, rfl⟩ := slice_of u1 h1
 exact ⟨ma, ml, mc, ca, cl, cc, rfl, ⟨n, _, h0⟩, ⟨n, _, h1⟩⟩
end
end CatR
end Go.Proofs.YtnlmpejgiakepaaDoor
namespace Go.Proofs.YtnlmpejgiakepaaDoor
open Go.ChangeShapes Go.WideShapes Go.ChangeAt Go.RowKit Go.Deep
set_option linter.unusedVariables false
namespace WinR
open RowG
open CatR (row_open lst2 lst_getD slice_of)
section
variable {J : Type} {enc : TypeId × Value → J} {P : Program} {w : World} {base : Nat} {spare : Nat → Bool} {held : Bool}
theorem lst1 {α : Type} {cs : List α} (h : cs.length = 1) : ∃ c0, cs = [c0] := by
 match cs, h with
 | [c0], _ => exact ⟨c0, rfl⟩
theorem lst8 {α : Type} {cs : List α} (h : cs.length = 8) : ∃ c0 c1 c2 c3 c4 c5 c6 c7, cs = [c0, c1, c2, c3, c4, c5, c6, c7] := by
 match cs, h with
 | [c0, c1, c2, c3, c4, c5, c6, c7], _ => exact ⟨c0, c1, c2, c3, c4, c5, c6, c7, rfl⟩
theorem tags_open {t e : TypeId} {fuel : Nat} {ao : Option Addr} {len cap : Nat} {x : DataW J × List MemPlace} (ht : P.underlying t = some (.slice e)) (hs : P.underlying e = some .string) (hC : P.cellsOf e = 1)
  (h : DataW.trod enc P w base spare held fuel t [.slice ao len cap] = some x) : len ≤ maxLen ∧ ∃ ts : List ByteArray, ts.length = len ∧ (∀ t ∈ ts, t.size ≤ maxLen) ∧ Tgs ao ts w := by
 obtain ⟨h1, f, hq, h2⟩ := row_open 1 (fun (a : ByteArray) cs => cs = [.string a] ∧ a.size ≤ maxLen) tz ht hC (by omega) (fun fuel cs x h => by
  obtain ⟨i, e0, _, s0⟩ := DataW.trod_string hs h
  exact ⟨i, ⟨e0, s0⟩, by rw [e0]; rfl⟩) h
 refine ⟨h1, (List.range len).map f, by simp, fun t ht => ?_, ?_⟩
 ·obtain ⟨i, hi, rfl⟩ := List.mem_map.1 ht
  obtain ⟨cs, _, q⟩ := hq i (List.mem_range.1 hi)
  exact q
 rcases h2 with h2 | ⟨b, off, rfl, hb, hc⟩
 ·exact .inl (by simpa using h2)
 ·refine .inr ⟨b, off, rfl, hb, fun j hj i hi => ?_⟩
  have hj' : j < len := by simpa using hj
  obtain ⟨cs, ⟨rfl, _⟩, g⟩ := hc j hj'
  rw [lst_getD f _ len j hj']
  exact g i hi
theorem hrs_open {t e : TypeId} {f0 f1 : Field} {fuel : Nat} {ao : Option Addr} {len cap : Nat} {x : DataW J × List MemPlace} (ht : P.underlying t = some (.slice e)) (hs : P.underlying e = some (.struct #[f0, f1])) (hone : oneCellFields P #[f0, f1] = true) (hC : P.cellsOf e = 2)
  (u0 : P.underlying f0.type = some (.int .i64)) (u1 : P.underlying f1.type = some (.int .i64))
  (h : DataW.trod enc P w base spare held fuel t [.slice ao len cap] = some x) : len ≤ maxLen ∧ ∃ hs : List H, hs.length = len ∧ Hrs ao hs w := by
 obtain ⟨h1, f, _, h2⟩ := row_open 2 (fun (a : H) cs => cs = [.int .i64 a.h, .int .i64 a.s]) H.zero ht hC (by omega) (fun fuel cs x h => by
  obtain ⟨xs, n, _, _, hl, hlen, hf⟩ := DataW.trod_struct hs h
  obtain ⟨c0, c1, rfl⟩ := lst2 (hl.trans hC)
  obtain ⟨y0, y1, rfl⟩ := lst2 (show xs.length = 2 from hlen)
  obtain ⟨o0, k0⟩ := hone_of hone 0 f0 rfl
  obtain ⟨o1, k1⟩ := hone_of hone 1 f1 rfl
  have h0 := hf 0 f0 rfl
  have h1 := hf 1 f1 rfl
  simp [o0, k0] at h0
  simp [o1, k1] at h1
  obtain ⟨p, e0, _, _⟩ := DataW.trod_int u0 h0
  obtain ⟨q, e1, _, _⟩ := DataW.trod_int u1 h1
  simp only [List.cons.injEq, and_true] at e0 e1
  subst e0 e1
  exact ⟨⟨p, q⟩, rfl, rfl⟩) h
 refine ⟨h1, (List.range len).map f, by simp, ?_⟩
 rcases h2 with h2 | ⟨b, off, rfl, hb, hc⟩
 ·exact .inl (by simpa using h2)
 ·refine .inr ⟨b, off, rfl, hb, fun j hj i hi => ?_⟩
  have hj' : j < len := by simpa using hj
  obtain ⟨cs, rfl, g⟩ := hc j hj'
  rw [lst_getD f _ len j hj']
  exact g i hi
/-- A window that came in, cell by cell. -/
theorem win_open {t te th : TypeId} {f0 f1 f2 f3 f4 f5 f6 f7 g0 g1 : Field} {fuel : Nat} {cs : List Value} {x : DataW J × List MemPlace} (hs : P.underlying t = some (.struct #[f0, f1, f2, f3, f4, f5, f6, f7])) (hone : oneCellFields P #[f0, f1, f2, f3, f4, f5, f6, f7] = true) (hC : P.cellsOf t = 8)
  (u0 : P.underlying f0.type = some .string) (u1 : P.underlying f1.type = some .string) (u2 : P.underlying f2.type = some (.int .i64)) (u3 : P.underlying f3.type = some (.int .i64)) (u4 : P.underlying f4.type = some (.int .i64)) (u5 : P.underlying f5.type = some (.int .i64)) (u6 : P.underlying f6.type = some (.slice te)) (u7 : P.underlying f7.type = some (.slice th))
  (ut : P.underlying te = some .string) (hCt : P.cellsOf te = 1) (hs2 : P.underlying th = some (.struct #[g0, g1])) (hone2 : oneCellFields P #[g0, g1] = true) (hC2 : P.cellsOf th = 2) (v0 : P.underlying g0.type = some (.int .i64)) (v1 : P.underlying g1.type = some (.int .i64))
  (h : DataW.trod enc P w base spare held fuel t cs = some x) :
  ∃ (x : Wd) (ta : Option Addr) (tc : Nat) (ha : Option Addr) (hc : Nat), cs = (wcells x ta tc ha hc).toList ∧ x.In ∧ Tgs ta x.ts w ∧ Hrs ha x.hs w := by
 obtain ⟨xs, n, _, _, hl, hlen, hf⟩ := DataW.trod_struct hs h
 obtain ⟨c0, c1, c2, c3, c4, c5, c6, c7, rfl⟩ := lst8 (hl.trans hC)
 obtain ⟨y0, y1, y2, y3, y4, y5, y6, y7, rfl⟩ := lst8 (show xs.length = 8 from hlen)
 obtain ⟨o0, k0⟩ := hone_of hone 0 f0 rfl
 obtain ⟨o1, k1⟩ := hone_of hone 1 f1 rfl
 obtain ⟨o2, k2⟩ := hone_of hone 2 f2 rfl
 obtain ⟨o3, k3⟩ := hone_of hone 3 f3 rfl
 obtain ⟨o4, k4⟩ := hone_of hone 4 f4 rfl
 obtain ⟨o5, k5⟩ := hone_of hone 5 f5 rfl
 obtain ⟨o6, k6⟩ := hone_of hone 6 f6 rfl
 obtain ⟨o7, k7⟩ := hone_of hone 7 f7 rfl
 have h0 := hf 0 f0 rfl
 have h1 := hf 1 f1 rfl
 have h2 := hf 2 f2 rfl
 have h3 := hf 3 f3 rfl
 have h4 := hf 4 f4 rfl
 have h5 := hf 5 f5 rfl
 have h6 := hf 6 f6 rfl
 have h7 := hf 7 f7 rfl
 simp [o0, k0] at h0
 simp [o1, k1] at h1
 simp [o2, k2] at h2
 simp [o3, k3] at h3
 simp [o4, k4] at h4
 simp [o5, k5] at h5
 simp [o6, k6] at h6
 simp [o7, k7] at h7
 obtain ⟨a, e0, _, s0⟩ := DataW.trod_string u0 h0
 obtain ⟨m, e1, _, s1⟩ := DataW.trod_string u1 h1
 obtain ⟨p, e2, _, _⟩ := DataW.trod_int u2 h2
 obtain ⟨q, e3, _, _⟩ := DataW.trod_int u3 h3
 obtain ⟨r, e4, _, _⟩ := DataW.trod_int u4 h4
 obtain ⟨s, e5, _, _⟩ := DataW.trod_int u5 h5
 obtain ⟨ta, tl, tc, rfl⟩ := slice_of u6 h6
 obtain ⟨ha, hl', hc, rfl⟩ := slice_of u7 h7
 obtain ⟨q1, ts, rfl, q2, q3⟩ := tags_open u6 ut hCt h6
 obtain ⟨r1, hs', rfl, r3⟩ := hrs_open u7 hs2 hone2 hC2 v0 v1 h7
 simp only [List.cons.injEq, and_true] at e0 e1 e2 e3 e4 e5
 subst e0 e1 e2 e3 e4 e5
 exact ⟨⟨a, m, p, q, r, s, ts, hs'⟩, ta, tc, ha, hc, rfl, ⟨s0, s1, q1, q2, r1⟩, q3, r3⟩
end
end WinR
end Go.Proofs.YtnlmpejgiakepaaDoor
namespace Go.Proofs.YtnlmpejgiakepaaDoor
open Go.ChangeShapes Go.WideShapes Go.ChangeAt Go.RowKit
set_option linter.unusedVariables false
namespace EvtR
/-- How many letters an event holds. -/
def szE (i a m t : ByteArray) : Int := i.size + a.size + m.size + t.size
theorem sz_any (i a m : ByteArray) (n k : Int) (t : ByteArray) (left : Int) (h1 : i.size ≤ maxLen) (h2 : a.size ≤ maxLen) (h3 : m.size ≤ maxLen) (h6 : t.size ≤ maxLen) (hl : 0 ≤ left) (hl2 : left ≤ 1048576) (w : World) :
  Calls Tryd.prog 6 #[ev i a m n k t, .int .i64 left] w fun e w' => e = .returned (.int .i64 (if szE i a m t ≤ left then left - szE i a m t else -1)) ∧ Below w.heap.size w w' := by
 unfold maxLen at *
 unfold ev szE
 have HB := hid_intro ((Below.refl w.heap.size w).alloc (Nat.le_refl _) (Obj.cells #[.string i, .string a, .string m, .int .i64 n, .int .i64 k, .string t] 27))
 rcases (show (left - (i.size : Int) < 0) ∨ (¬ left - (i.size : Int) < 0 ∧ left - (i.size : Int) - (a.size : Int) < 0) ∨ (¬ left - (i.size : Int) < 0 ∧ ¬ left - (i.size : Int) - (a.size : Int) < 0 ∧ left - (i.size : Int) - (a.size : Int) - (m.size : Int) < 0) ∨ (¬ left - (i.size : Int) < 0 ∧ ¬ left - (i.size : Int) - (a.size : Int) < 0 ∧ ¬ left - (i.size : Int) - (a.size : Int) - (m.size : Int) < 0 ∧ left - (i.size : Int) - (a.size : Int) - (m.size : Int) - (t.size : Int) < 0) ∨ (¬ left - (i.size : Int) < 0 ∧ ¬ left - (i.size : Int) - (a.size : Int) < 0 ∧ ¬ left - (i.size : Int) - (a.size : Int) - (m.size : Int) < 0 ∧ ¬ left - (i.size : Int) - (a.size : Int) - (m.size : Int) - (t.size : Int) < 0) by omega) with q1 | ⟨q1, q2⟩ | ⟨q1, q2, q3⟩ | ⟨q1, q2, q3, q4⟩ | ⟨q1, q2, q3, q4⟩
 all_goals
  go_enter Tryd.func6, Tryd.ntmps6
  go_wp2_with fail
  go_ret
  refine ⟨ret_int ?_, HB.out⟩
  first | rfl | omega | (rw [if_neg (by omega)]; done) | (rw [if_pos (by omega)]; omega)
theorem toEvent_any (i a m : ByteArray) (n k : Int) (t : ByteArray) (w : World) :
  Calls Tryd.prog 9 #[ev i a m n k t] w fun e w' => e = .returned (ev i a m n k t) ∧ Below w.heap.size w w' := by
 unfold ev
 go_enter Tryd.func9, Tryd.ntmps9
 go_wp2_with fail
 refine bodyPost_ret (v := ev i a m n k t) (by simp [ev, results, Tryd.results9, go_sem]) rfl ⟨rfl, ?_⟩
 repeat' first | exact Below.refl _ _ | apply Below.setCell | apply Below.alloc
 all_goals first | omega | (simp; done) | (simp; omega)
end EvtR
end Go.Proofs.YtnlmpejgiakepaaDoor
namespace Go.Proofs.YtnlmpejgiakepaaDoor
open Go.ChangeShapes Go.WideShapes Go.ChangeAt Go.RowKit Go.Deep
namespace EvtR
section
variable {H : Type} {enc : TypeId × Value → H} {P : Program} {w : World} {base : Nat} {spare : Nat → Bool} {held : Bool}
theorem list6 {α : Type} {cs : List α} (h : cs.length = 6) : ∃ c0 c1 c2 c3 c4 c5, cs = [c0, c1, c2, c3, c4, c5] := by
 match cs, h with
 | [c0, c1, c2, c3, c4, c5], _ => exact ⟨c0, c1, c2, c3, c4, c5, rfl⟩
theorem array6 {α : Type} {cs : Array α} (h : cs.size = 6) : ∃ c0 c1 c2 c3 c4 c5, cs = #[c0, c1, c2, c3, c4, c5] := by
 obtain ⟨l⟩ := cs
 obtain ⟨c0, c1, c2, c3, c4, c5, rfl⟩ := list6 (show l.length = 6 from h)
 exact ⟨c0, c1, c2, c3, c4, c5, rfl⟩
theorem event_cells {t : TypeId} {f0 f1 f2 f3 f4 f5 : Field} {fuel : Nat} {cs : List Value} {x : DataW H × List MemPlace} (hs : P.underlying t = some (.struct #[f0, f1, f2, f3, f4, f5])) (hone : oneCellFields P #[f0, f1, f2, f3, f4, f5] = true) (hC : P.cellsOf t = 6)
  (u0 : P.underlying f0.type = some .string) (u1 : P.underlying f1.type = some .string) (u2 : P.underlying f2.type = some .string) (u3 : P.underlying f3.type = some (.int .i64)) (u4 : P.underlying f4.type = some (.int .i64)) (u5 : P.underlying f5.type = some .string)
  (h : DataW.trod enc P w base spare held fuel t cs = some x) :
  ∃ (i a m : ByteArray) (n k : Int) (s : ByteArray), cs = [.string i, .string a, .string m, .int .i64 n, .int .i64 k, .string s] ∧ i.size ≤ maxLen ∧ a.size ≤ maxLen ∧ m.size ≤ maxLen ∧ (Lit.int .i64 n).wf = true ∧ (Lit.int .i64 k).wf = true ∧ s.size ≤ maxLen := by
 obtain ⟨xs, n, _, _, hl, hlen, hf⟩ := DataW.trod_struct hs h
 obtain ⟨c0, c1, c2, c3, c4, c5, rfl⟩ := list6 (hl.trans hC)
 obtain ⟨y0, y1, y2, y3, y4, y5, rfl⟩ := list6 (show xs.length = 6 from hlen)
 obtain ⟨o0, k0⟩ := hone_of hone 0 f0 rfl
 obtain ⟨o1, k1⟩ := hone_of hone 1 f1 rfl
 obtain ⟨o2, k2⟩ := hone_of hone 2 f2 rfl
 obtain ⟨o3, k3⟩ := hone_of hone 3 f3 rfl
 obtain ⟨o4, k4⟩ := hone_of hone 4 f4 rfl
 obtain ⟨o5, k5⟩ := hone_of hone 5 f5 rfl
 have h0 := hf 0 f0 rfl
 have h1 := hf 1 f1 rfl
 have h2 := hf 2 f2 rfl
 have h3 := hf 3 f3 rfl
 have h4 := hf 4 f4 rfl
 have h5 := hf 5 f5 rfl
 simp [o0, k0] at h0
 simp [o1, k1] at h1
 simp [o2, k2] at h2
 simp [o3, k3] at h3
 simp [o4, k4] at h4
 simp [o5, k5] at h5
 obtain ⟨i, e0, _, s0⟩ := DataW.trod_string u0 h0
 obtain ⟨a, e1, _, s1⟩ := DataW.trod_string u1 h1
 obtain ⟨m, e2, _, s2⟩ := DataW.trod_string u2 h2
 obtain ⟨p, e3, _, s3⟩ := DataW.trod_int u3 h3
 obtain ⟨q, e4, _, s4⟩ := DataW.trod_int u4 h4
 obtain ⟨s, e5, _, s5⟩ := DataW.trod_string u5 h5
 simp only [List.cons.injEq, and_true] at e0 e1 e2 e3 e4 e5
 subst e0 e1 e2 e3 e4 e5
 exact ⟨i, a, m, p, q, s, rfl, s0, s1, s2, s3, s4, s5⟩
end
end EvtR
end Go.Proofs.YtnlmpejgiakepaaDoor
namespace Go.Proofs.YtnlmpejgiakepaaDoor
open Go.ChangeShapes Go.WideShapes Go.RowKit
namespace Lay
theorem own : ownKnob Tryd.prog.godebug = none := by kernel_rfl
theorem laidOut : laidOutB Tryd.prog = true := by kernel_rfl
theorem gv : Tryd.prog.globalNamed "loop.example/g00562/impl.monthLengths" = some 0 := by kernel_rfl
theorem gt : (Tryd.prog.globals[0]?).map (·.type) = some 139 := by kernel_rfl
theorem cellsE : Tryd.prog.cellsOf 2 = 1 := by kernel_rfl
theorem cellsT : Tryd.prog.cellsOf 139 = 12 := by kernel_rfl
def laid {H : Type} : List (String × DataW H) := [("loop.example/g00562/impl.monthLengths", Rows.laid_loop_example_g00562_impl_monthLengths)]
theorem of_tab {W : World} (hT : Lib.TabIs Tryd.prog W "loop.example/g00562/impl.monthLengths" .i64 DateR.tab) : DateR.Laid W := by
 have hc : ∀ k : Nat, k < 12 → W.cell? ⟨0, k, none⟩ = some (.int .i64 (DateR.tab.getD k 0)) := fun k hk => hT.cell gv k hk
 refine ⟨?_, hc⟩
 rcases Nat.lt_or_ge 0 W.heap.size with h | h
 ·exact h
 ·have h0 : W.heap[0]? = none := Array.getElem?_eq_none h
  have := hc 0 (by omega)
  simp [World.cell?, h0] at this
theorem of_laid {W : World} (h : laidMetH Tryd.prog laid W) : DateR.Laid W := by
 rw [MakeChecks.laidMetH_plain _ _ _ (by kernel_rfl)] at h
 exact of_tab (Lib.tabIs_of_head gv gt Tryd.underlying139 Tryd.underlying2 cellsE cellsT (zs := DateR.tab) (k := .i64) h)
theorem door_met (os : Os) (args : Array Value) : laidMetH Tryd.prog laid ((World.doorLaid Tryd.prog 400 os).forCall (fun _ _ => 0) ⟨#[], args, []⟩).memory :=
 laidMetH_of_parts3 (fuel := 8) (laidMet_of_run' 8 (by kernel_rfl) (by kernel_rfl)) (by kernel_rfl) (by kernel_rfl)
end Lay
end Go.Proofs.YtnlmpejgiakepaaDoor
