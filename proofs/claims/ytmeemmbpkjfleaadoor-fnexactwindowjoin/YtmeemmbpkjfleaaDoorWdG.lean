/-
  The window of one event, the model's way, and both ways. The conditions: texts of at most 1048576 bytes; the program's table stands in its variable.
-/
import Derived.Test.YtmeemmbpkjfleaaDoorWdF
namespace Go.Proofs.YtmeemmbpkjfleaaDoor
open Go.ChangeShapes Go.WideShapes Go.ChangeAt Go.RowKit
set_option linter.unusedVariables false
namespace WinR
open RowG (MadeG Rws)
open EvtR (Pt ev evB empty_of full_of)
open CatR (Blk Blk.new)
open DateR (Laid)
/-- A window whose lists lie behind a number. -/
def NewW (base : Nat) (x : Wd) (v : Value) (w : World) : Prop := ∃ ta tc ha hc, v = .agg (wcells x ta tc ha hc) ∧ Tgs ta x.ts w ∧ Hrs ha x.hs w ∧ (x.ts.length = 0 ∨ ∀ b off, ta = some ⟨b, off, none⟩ → base ≤ b) ∧ (x.hs.length = 0 ∨ ∀ b off, ha = some ⟨b, off, none⟩ → base ≤ b)
theorem NewW.is {base : Nat} {x : Wd} {v : Value} {w : World} (h : NewW base x v w) : IsWd v x w := by
  obtain ⟨ta, tc, ha, hc, hv, h1, h2, _⟩ := h
  exact ⟨ta, tc, ha, hc, hv, h1, h2⟩
theorem Tgs.put {ao : Option Addr} {ts : List ByteArray} {w : World} (h : Tgs ao ts w) (g o : Nat) (v : Value) (hne : ts.length = 0 ∨ ∀ b off, ao = some ⟨b, off, none⟩ → b ≠ g) : Tgs ao ts (w.setCell ⟨g, o, none⟩ v) := Rws.put h g o v hne
set_option maxRecDepth 100000 in
set_option maxHeartbeats 16000000 in
theorem sof_in (i a m t : ByteArray) (n k mo : Int) (w : World) (n1 : 0 ≤ n) (n2 : n ≤ 121000000) (hmo : ∀ w, Calls Tryd.prog 85 #[.int .i64 n] w fun e w' => e = .returned (.int .i64 mo) ∧ Below w.heap.size w w') :
    Calls Tryd.prog 45 #[ev i a m n k t] w fun e w' => ∃ v, e = .returned v ∧ NewW w.heap.size ⟨a, m, mo, 1, k, k, tgl t, [⟨HourR.hourV n, k⟩]⟩ v w' ∧ Below w.heap.size w w' := by
  obtain ⟨b1, b2⟩ := HourR.hour_bd n n1 n2
  have eh : HourR.hourV n = n.tdiv 60 := by unfold HourR.hourV; rw [if_pos ⟨n1, n2⟩]
  rw [eh]
  have HMo := hid_intro hmo
  generalize hqq : n.tdiv 60 = hq at *
  have HT0 := hid_intro (fun (h : t.size = 0) => tgl_no h)
  have HT1 := hid_intro (fun (h : ¬ t.size = 0) => tgl_yes h)
  generalize tgl t = ts at *
  obtain ⟨tl, htl⟩ : ∃ tl, tl = ts.length := ⟨_, rfl⟩
  have HTL := hid_intro htl
  clear htl hmo eh
  have hwr : IntKind.i64.wrap hq = hq := IntWalk.i64_in hq ⟨by omega, by omega⟩
  unfold ev
  obtain ⟨W0, hW0⟩ : ∃ W0, W0 = ((w.alloc (.cells #[.string i, .string a, .string m, .int .i64 n, .int .i64 k, .string t] 43)).alloc (.cells #[.string ⟨#[]⟩, .string ⟨#[]⟩, .int .i64 0, .int .i64 0, .int .i64 0, .int .i64 0, .slice none 0 0, .slice none 0 0] 29)) := ⟨_, rfl⟩
  have HW0 := hid_intro hW0
  have HB0 : Hid (Below w.heap.size w W0) := hid_intro (by rw [hW0]; exact ((Below.refl _ _).alloc (Nat.le_refl _) _).alloc (by simp) _)
  have HX0 : Hid (Blk w.heap.size [.string i, .string a, .string m, .int .i64 n, .int .i64 k, .string t] W0) := hid_intro (by rw [hW0]; exact (Blk.new w [.string i, .string a, .string m, .int .i64 n, .int .i64 k, .string t] 43).below ((Below.refl _ _).alloc (Nat.le_refl _) (Obj.cells #[.string ⟨#[]⟩, .string ⟨#[]⟩, .int .i64 0, .int .i64 0, .int .i64 0, .int .i64 0, .slice none 0 0, .slice none 0 0] 29)))
  have HY0 : Hid (BlkW (w.heap.size + 1) [.string ⟨#[]⟩, .string ⟨#[]⟩, .int .i64 0, .int .i64 0, .int .i64 0, .int .i64 0, .slice none 0 0, .slice none 0 0] W0) := hid_intro (by
    have h := BlkW.new (w.alloc (.cells #[.string i, .string a, .string m, .int .i64 n, .int .i64 k, .string t] 43)) [.string ⟨#[]⟩, .string ⟨#[]⟩, .int .i64 0, .int .i64 0, .int .i64 0, .int .i64 0, .slice none 0 0, .slice none 0 0] 29
    rw [show (w.alloc (.cells #[.string i, .string a, .string m, .int .i64 n, .int .i64 k, .string t] 43)).heap.size = w.heap.size + 1 by simp] at h
    rw [hW0]
    exact h)
  have HWS : Hid (W0.heap.size = w.heap.size + 2) := hid_intro (by rw [hW0]; simp)
  clear hW0
  have HS0 : Hid (UOx w.heap.size W0 a m n k W0.drew) := hid_intro (UOx.below ⟨Below.refl _ _, HX0.out.1, HX0.out.2 1 (by simp), HX0.out.2 2 (by simp), HX0.out.2 3 (by simp), HX0.out.2 4 (by simp)⟩ (Below.refl _ _).drew)
  go_enter Tryd.func45, Tryd.ntmps45
  go_wp2_with fail
  rw [← HW0.out]
  go_cut [3] from 4 to 22 (fun v wx => ∃ V HB, v = .pointer (some ⟨V, 0, none⟩) ∧ W0.heap.size ≤ V ∧ W0.heap.size ≤ HB ∧ HB ≠ V ∧ Hid (Below W0.heap.size W0 wx) ∧ Hid (BlkW V [.string a, .string m, .int .i64 mo, .int .i64 1, .int .i64 k, .int .i64 k, .slice none 0 0, .slice (some ⟨HB, 0, none⟩) 1 1] wx) ∧ Hid (Hrs (some ⟨HB, 0, none⟩) [⟨hq, k⟩] wx))
  case first =>
    clear HW0
    refine wp_region_held_drew (S := (fun W => Below W0.heap.size W0 W ∧ w.heap.size < W0.heap.size ∧ W.cell? ⟨w.heap.size, 1, none⟩ = some (.string a) ∧ W.cell? ⟨w.heap.size, 2, none⟩ = some (.string m) ∧ W.cell? ⟨w.heap.size, 3, none⟩ = some (.int .i64 n) ∧ W.cell? ⟨w.heap.size, 4, none⟩ = some (.int .i64 k))) (by kernel_rfl) HS0.out (fun hHeld => ?_)
    obtain ⟨Wd, hWd⟩ : ∃ Wd, Wd = W0.drew := ⟨_, rfl⟩
    rw [← hWd] at HS0 ⊢
    try rw [← hWd] at hHeld
    clear hWd
    refine wpAnyH_take (i := 0) (oi := { dst := some 4, op := Op.fieldAddr 43 (Operand.tmp 1) 1, type := 0, pos := "l07_window.go:35", after := #[], guard := none }) (v := ?_) rfl (by kernel_rfl) (by kernel_rfl) (by kernel_rfl) (fun _ _ _ h => h) (Or.inl ⟨by rfl, ?_⟩) (by assumption) ?_
    rotate_left
    · (intro w hSw; (try dsimp only at hSw); go_simp) <;> with_reducible rfl
    try simp only [Act.put, List.setIfInBounds_toArray, List.set_cons_zero, List.set_cons_succ]
    refine wpAnyH_take (i := 1) (oi := { dst := some 5, op := Op.load 9 (Operand.tmp 4), type := 9, pos := "l07_window.go:35", after := #[{ on := 0, ground := Ground.data }], guard := none }) (v := ?_) rfl (by kernel_rfl) (by kernel_rfl) (by kernel_rfl) (fun _ _ _ h => h) (Or.inl ⟨by rfl, ?_⟩) (by assumption) ?_
    rotate_left
    · (intro w hSw; (try dsimp only at hSw); go_simp) <;> with_reducible rfl
    try simp only [Act.put, List.setIfInBounds_toArray, List.set_cons_zero, List.set_cons_succ]
    refine wpAnyH_take (i := 2) (oi := { dst := some 6, op := Op.fieldAddr 43 (Operand.tmp 1) 2, type := 0, pos := "l07_window.go:35", after := #[], guard := none }) (v := ?_) rfl (by kernel_rfl) (by kernel_rfl) (by kernel_rfl) (fun _ _ _ h => h) (Or.inl ⟨by rfl, ?_⟩) (by assumption) ?_
    rotate_left
    · (intro w hSw; (try dsimp only at hSw); go_simp) <;> with_reducible rfl
    try simp only [Act.put, List.setIfInBounds_toArray, List.set_cons_zero, List.set_cons_succ]
    refine wpAnyH_take (i := 3) (oi := { dst := some 7, op := Op.load 9 (Operand.tmp 6), type := 9, pos := "l07_window.go:35", after := #[{ on := 2, ground := Ground.data }], guard := none }) (v := ?_) rfl (by kernel_rfl) (by kernel_rfl) (by kernel_rfl) (fun _ _ _ h => h) (Or.inl ⟨by rfl, ?_⟩) (by assumption) ?_
    rotate_left
    · (intro w hSw; (try dsimp only at hSw); go_simp) <;> with_reducible rfl
    try simp only [Act.put, List.setIfInBounds_toArray, List.set_cons_zero, List.set_cons_succ]
    refine wpAnyH_take (i := 4) (oi := { dst := some 8, op := Op.fieldAddr 43 (Operand.tmp 1) 3, type := 0, pos := "l07_window.go:35", after := #[], guard := none }) (v := ?_) rfl (by kernel_rfl) (by kernel_rfl) (by kernel_rfl) (fun _ _ _ h => h) (Or.inl ⟨by rfl, ?_⟩) (by assumption) ?_
    rotate_left
    · (intro w hSw; (try dsimp only at hSw); go_simp) <;> with_reducible rfl
    try simp only [Act.put, List.setIfInBounds_toArray, List.set_cons_zero, List.set_cons_succ]
    refine wpAnyH_take (i := 5) (oi := { dst := some 9, op := Op.load 2 (Operand.tmp 8), type := 2, pos := "l07_window.go:35", after := #[{ on := 4, ground := Ground.data }], guard := none }) (v := ?_) rfl (by kernel_rfl) (by kernel_rfl) (by kernel_rfl) (fun _ _ _ h => h) (Or.inl ⟨by rfl, ?_⟩) (by assumption) ?_
    rotate_left
    · (intro w hSw; (try dsimp only at hSw); go_simp) <;> with_reducible rfl
    try simp only [Act.put, List.setIfInBounds_toArray, List.set_cons_zero, List.set_cons_succ]
    refine wpAnyH_take (i := 7) (oi := { dst := some 11, op := Op.fieldAddr 43 (Operand.tmp 1) 4, type := 0, pos := "l07_window.go:35", after := #[], guard := none }) (v := ?_) rfl (by kernel_rfl) (by kernel_rfl) (by kernel_rfl) (fun _ _ _ h => h) (Or.inl ⟨by rfl, ?_⟩) (by assumption) ?_
    rotate_left
    · (intro w hSw; (try dsimp only at hSw); go_simp) <;> with_reducible rfl
    try simp only [Act.put, List.setIfInBounds_toArray, List.set_cons_zero, List.set_cons_succ]
    refine wpAnyH_take (i := 8) (oi := { dst := some 12, op := Op.load 2 (Operand.tmp 11), type := 2, pos := "l07_window.go:35", after := #[{ on := 7, ground := Ground.data }], guard := none }) (v := ?_) rfl (by kernel_rfl) (by kernel_rfl) (by kernel_rfl) (fun _ _ _ h => h) (Or.inl ⟨by rfl, ?_⟩) (by assumption) ?_
    rotate_left
    · (intro w hSw; (try dsimp only at hSw); go_simp) <;> with_reducible rfl
    try simp only [Act.put, List.setIfInBounds_toArray, List.set_cons_zero, List.set_cons_succ]
    refine wpAnyH_take (i := 9) (oi := { dst := some 13, op := Op.fieldAddr 43 (Operand.tmp 1) 4, type := 0, pos := "l07_window.go:35", after := #[], guard := none }) (v := ?_) rfl (by kernel_rfl) (by kernel_rfl) (by kernel_rfl) (fun _ _ _ h => h) (Or.inl ⟨by rfl, ?_⟩) (by assumption) ?_
    rotate_left
    · (intro w hSw; (try dsimp only at hSw); go_simp) <;> with_reducible rfl
    try simp only [Act.put, List.setIfInBounds_toArray, List.set_cons_zero, List.set_cons_succ]
    refine wpAnyH_take (i := 10) (oi := { dst := some 14, op := Op.load 2 (Operand.tmp 13), type := 2, pos := "l07_window.go:35", after := #[{ on := 9, ground := Ground.data }], guard := none }) (v := ?_) rfl (by kernel_rfl) (by kernel_rfl) (by kernel_rfl) (fun _ _ _ h => h) (Or.inl ⟨by rfl, ?_⟩) (by assumption) ?_
    rotate_left
    · (intro w hSw; (try dsimp only at hSw); go_simp) <;> with_reducible rfl
    try simp only [Act.put, List.setIfInBounds_toArray, List.set_cons_zero, List.set_cons_succ]
    refine wpAnyH_take (i := 11) (oi := { dst := some 15, op := Op.fieldAddr 43 (Operand.tmp 1) 3, type := 0, pos := "l07_window.go:35", after := #[], guard := none }) (v := ?_) rfl (by kernel_rfl) (by kernel_rfl) (by kernel_rfl) (fun _ _ _ h => h) (Or.inl ⟨by rfl, ?_⟩) (by assumption) ?_
    rotate_left
    · (intro w hSw; (try dsimp only at hSw); go_simp) <;> with_reducible rfl
    try simp only [Act.put, List.setIfInBounds_toArray, List.set_cons_zero, List.set_cons_succ]
    refine wpAnyH_take (i := 12) (oi := { dst := some 16, op := Op.load 2 (Operand.tmp 15), type := 2, pos := "l07_window.go:35", after := #[{ on := 11, ground := Ground.data }], guard := none }) (v := ?_) rfl (by kernel_rfl) (by kernel_rfl) (by kernel_rfl) (fun _ _ _ h => h) (Or.inl ⟨by rfl, ?_⟩) (by assumption) ?_
    rotate_left
    · (intro w hSw; (try dsimp only at hSw); go_simp) <;> with_reducible rfl
    try simp only [Act.put, List.setIfInBounds_toArray, List.set_cons_zero, List.set_cons_succ]
    refine wpAnyH_take (i := 13) (oi := { dst := some 17, op := Op.binOp BinOp.quo 2 (Operand.tmp 16) (Operand.const (Value.int IntKind.i64 60)) 2, type := 2, pos := "l07_window.go:35", after := #[{ on := 12, ground := Ground.data }], guard := none }) (v := ?_) rfl (by kernel_rfl) (by kernel_rfl) (by kernel_rfl) (fun _ _ _ h => h) (Or.inl ⟨by rfl, ?_⟩) (by assumption) ?_
    rotate_left
    · (intro w hSw; (try dsimp only at hSw); go_simp) <;> with_reducible rfl
    try simp only [Act.put, List.setIfInBounds_toArray, List.set_cons_zero, List.set_cons_succ]
    refine wpAnyH_take (i := 14) (oi := { dst := some 18, op := Op.fieldAddr 43 (Operand.tmp 1) 4, type := 0, pos := "l07_window.go:35", after := #[], guard := none }) (v := ?_) rfl (by kernel_rfl) (by kernel_rfl) (by kernel_rfl) (fun _ _ _ h => h) (Or.inl ⟨by rfl, ?_⟩) (by assumption) ?_
    rotate_left
    · (intro w hSw; (try dsimp only at hSw); go_simp) <;> with_reducible rfl
    try simp only [Act.put, List.setIfInBounds_toArray, List.set_cons_zero, List.set_cons_succ]
    refine wpAnyH_take (i := 15) (oi := { dst := some 19, op := Op.load 2 (Operand.tmp 18), type := 2, pos := "l07_window.go:35", after := #[{ on := 14, ground := Ground.data }], guard := none }) (v := ?_) rfl (by kernel_rfl) (by kernel_rfl) (by kernel_rfl) (fun _ _ _ h => h) (Or.inl ⟨by rfl, ?_⟩) (by assumption) ?_
    rotate_left
    · (intro w hSw; (try dsimp only at hSw); go_simp) <;> with_reducible rfl
    try simp only [Act.put, List.setIfInBounds_toArray, List.set_cons_zero, List.set_cons_succ]
    refine wpAnyH_take (i := 16) (oi := { dst := some 20, op := Op.build 102 #[(0, Operand.tmp 17), (1, Operand.tmp 19)], type := 102, pos := "l07_window.go:35", after := #[{ on := 13, ground := Ground.data }, { on := 15, ground := Ground.data }], guard := none }) (v := ?_) rfl (by kernel_rfl) (by kernel_rfl) (by kernel_rfl) (fun _ _ _ h => h) (Or.inl ⟨by rfl, ?_⟩) (by assumption) ?_
    rotate_left
    · (intro w hSw; (try dsimp only at hSw); go_simp) <;> with_reducible rfl
    try simp only [Act.put, List.setIfInBounds_toArray, List.set_cons_zero, List.set_cons_succ]
    refine wpAnyH_ready (rs := [6, 17, 19]) (by kernel_rfl) (by simp) ?_
    refine AllReadyH.cons (o := { dst := some 10, op := Op.call { callee := Callee.value (Operand.func 85), args := #[Operand.tmp 9], argTypes := #[2] }, type := 2, pos := "l07_window.go:35", after := #[{ on := 5, ground := Ground.data }], guard := none }) rfl (fun K hK => ?_) (AllReadyH.cons (o := { dst := some 21, op := Op.buildSlice 27 1 #[(0, Operand.tmp 20)], type := 27, pos := "l07_window.go:35", after := #[{ on := 16, ground := Ground.data }], guard := none }) rfl (fun K hK => ?_) (AllReadyH.cons (o := { dst := some 3, op := Op.alloc 29, type := 0, pos := "l07_window.go:35", after := #[], guard := none }) rfl (fun K hK => ?_) AllReadyH.nil))
    · go_simp
      go_at_call 85
      refine (HMo.out _).mono ?_
      rintro e q1 ⟨rfl, hq1⟩
      try go_wp2_with fail
      have hkq1 := UOx.below (B := w.heap.size) (W0 := W0) (a := a) (m := m) (n := n) (k := k) HS0.out hq1
      refine hK.out _ _ hkq1 (fun _ => ?_)
      clear hK K
      try simp only [Act.put, List.setIfInBounds_toArray, List.set_cons_zero, List.set_cons_succ]
      refine wpAnyH_ready (rs := [17, 19]) (by kernel_rfl) (by simp) ?_
      refine AllReadyH.cons (o := { dst := some 21, op := Op.buildSlice 27 1 #[(0, Operand.tmp 20)], type := 27, pos := "l07_window.go:35", after := #[{ on := 16, ground := Ground.data }], guard := none }) rfl (fun K hK => ?_) (AllReadyH.cons (o := { dst := some 3, op := Op.alloc 29, type := 0, pos := "l07_window.go:35", after := #[], guard := none }) rfl (fun K hK => ?_) AllReadyH.nil)
      · go_simp
        try rw [hwr]
        try go_wp2_with fail
        have hkb := UOx.below (B := w.heap.size) (W0 := W0) (a := a) (m := m) (n := n) (k := k) hkq1 ((Below.refl q1.heap.size q1).alloc (Nat.le_refl _) (Obj.cells #[.int .i64 hq, .int .i64 k] 102))
        have hrb := hrs_one1 hq k q1 102
        have hle := hkq1.1.size
        refine hK.out _ _ hkb (fun _ => ?_)
        clear hK K
        try simp only [Act.put, List.setIfInBounds_toArray, List.set_cons_zero, List.set_cons_succ]
        obtain ⟨HB, hHB⟩ : ∃ HB, HB = q1.heap.size := ⟨_, rfl⟩
        obtain ⟨Wb, hWb⟩ : ∃ Wb, Wb = q1.alloc (Obj.cells #[.int .i64 hq, .int .i64 k] 102) := ⟨_, rfl⟩
        have hhb : W0.heap.size ≤ HB := by rw [hHB]; exact hle
        have hxb : HB < Wb.heap.size := by rw [hWb, hHB]; simp
        rw [← hWb] at hkb hrb ⊢
        rw [← hHB] at hrb ⊢
        clear hWb hHB hle
        refine wpAnyH_take (i := 18) (oi := { dst := some 22, op := Op.build 29 #[(0, Operand.tmp 5), (1, Operand.tmp 7), (2, Operand.tmp 10), (3, Operand.const (Value.int IntKind.i64 1)), (4, Operand.tmp 12), (5, Operand.tmp 14), (7, Operand.tmp 21)], type := 29, pos := "l07_window.go:35", after := #[{ on := 1, ground := Ground.data }, { on := 3, ground := Ground.data }, { on := 6, ground := Ground.data }, { on := 8, ground := Ground.data }, { on := 10, ground := Ground.data }, { on := 17, ground := Ground.data }], guard := none }) (v := ?_) rfl (by kernel_rfl) (by kernel_rfl) (by kernel_rfl) (fun _ _ _ h => h) (Or.inl ⟨by rfl, ?_⟩) (by assumption) ?_
        rotate_left
        · (intro w hSw; (try dsimp only at hSw); go_simp) <;> with_reducible rfl
        try simp only [Act.put, List.setIfInBounds_toArray, List.set_cons_zero, List.set_cons_succ]
        refine wpAnyH_ready (rs := [19]) (by kernel_rfl) (by simp) ?_
        refine AllReadyH.cons (o := { dst := some 3, op := Op.alloc 29, type := 0, pos := "l07_window.go:35", after := #[], guard := none }) rfl (fun K hK => ?_) AllReadyH.nil
        go_simp
        try go_wp2_with fail
        have hka := UOx.below (B := w.heap.size) (W0 := W0) (a := a) (m := m) (n := n) (k := k) hkb ((Below.refl Wb.heap.size Wb).alloc (Nat.le_refl _) (Obj.cells #[.string ⟨#[]⟩, .string ⟨#[]⟩, .int .i64 0, .int .i64 0, .int .i64 0, .int .i64 0, .slice none 0 0, .slice none 0 0] 29))
        have hva := BlkW.new Wb [.string ⟨#[]⟩, .string ⟨#[]⟩, .int .i64 0, .int .i64 0, .int .i64 0, .int .i64 0, .slice none 0 0, .slice none 0 0] 29
        have hle := hkb.1.size
        have hra := Hrs.below hrb ((Below.refl Wb.heap.size Wb).alloc (Nat.le_refl _) (Obj.cells #[.string ⟨#[]⟩, .string ⟨#[]⟩, .int .i64 0, .int .i64 0, .int .i64 0, .int .i64 0, .slice none 0 0, .slice none 0 0] 29))
        refine hK.out _ _ hka (fun _ => ?_)
        clear hK K
        try simp only [Act.put, List.setIfInBounds_toArray, List.set_cons_zero, List.set_cons_succ]
        obtain ⟨VB, hVB⟩ : ∃ VB, VB = Wb.heap.size := ⟨_, rfl⟩
        obtain ⟨Wa, hWa⟩ : ∃ Wa, Wa = Wb.alloc (Obj.cells #[.string ⟨#[]⟩, .string ⟨#[]⟩, .int .i64 0, .int .i64 0, .int .i64 0, .int .i64 0, .slice none 0 0, .slice none 0 0] 29) := ⟨_, rfl⟩
        have hvb : W0.heap.size ≤ VB := by rw [hVB]; exact hle
        have hne : HB ≠ VB := by rw [hVB]; exact Nat.ne_of_lt hxb
        have hxa : HB < Wa.heap.size := by rw [hWa]; simp; omega
        rw [← hWa] at hka hva ⊢
        rw [← hWa] at hra
        rw [← hVB] at hva ⊢
        clear hWa hVB hle
        refine wpAnyH_ready (rs := [20]) (by kernel_rfl) (by simp) ?_
        refine AllReadyH.cons (o := { dst := none, op := Op.store 29 (Operand.tmp 3) (Operand.tmp 22), type := 0, pos := "l07_window.go:35", after := #[{ on := 19, ground := Ground.data }, { on := 18, ground := Ground.data }, { on := 6, ground := Ground.chain }, { on := 0, ground := Ground.phase }, { on := 1, ground := Ground.phase }, { on := 2, ground := Ground.phase }, { on := 3, ground := Ground.phase }, { on := 4, ground := Ground.phase }, { on := 5, ground := Ground.phase }, { on := 6, ground := Ground.phase }, { on := 7, ground := Ground.phase }, { on := 8, ground := Ground.phase }, { on := 9, ground := Ground.phase }, { on := 10, ground := Ground.phase }, { on := 11, ground := Ground.phase }, { on := 12, ground := Ground.phase }, { on := 13, ground := Ground.phase }, { on := 14, ground := Ground.phase }, { on := 15, ground := Ground.phase }, { on := 16, ground := Ground.phase }, { on := 17, ground := Ground.phase }, { on := 18, ground := Ground.phase }, { on := 19, ground := Ground.phase }], guard := none }) rfl (fun K hK => ?_) AllReadyH.nil
        obtain ⟨⟨vl, vcs⟩, vfs⟩ := hva
        have y0 : Wa.cell? ⟨VB, 0, none⟩ = some (.string ⟨#[]⟩) := vcs 0 (by simp)
        have f0 := vfs 0 (by simp)
        have y1 : Wa.cell? ⟨VB, 1, none⟩ = some (.string ⟨#[]⟩) := vcs 1 (by simp)
        have f1 := vfs 1 (by simp)
        have y2 : Wa.cell? ⟨VB, 2, none⟩ = some (.int .i64 0) := vcs 2 (by simp)
        have f2 := vfs 2 (by simp)
        have y3 : Wa.cell? ⟨VB, 3, none⟩ = some (.int .i64 0) := vcs 3 (by simp)
        have f3 := vfs 3 (by simp)
        have y4 : Wa.cell? ⟨VB, 4, none⟩ = some (.int .i64 0) := vcs 4 (by simp)
        have f4 := vfs 4 (by simp)
        have y5 : Wa.cell? ⟨VB, 5, none⟩ = some (.int .i64 0) := vcs 5 (by simp)
        have f5 := vfs 5 (by simp)
        have y6 : Wa.cell? ⟨VB, 6, none⟩ = some (.slice none 0 0) := vcs 6 (by simp)
        have f6 := vfs 6 (by simp)
        have y7 : Wa.cell? ⟨VB, 7, none⟩ = some (.slice none 0 0) := vcs 7 (by simp)
        have f7 := vfs 7 (by simp)
        go_simp
        try go_wp2_with fail
        have hno : ∀ b off, (some ⟨HB, 0, none⟩ : Option Addr) = some ⟨b, off, none⟩ → b ≠ VB := fun b off e => by simp at e; omega
        have hks := (UOx.put (B := w.heap.size) (W0 := W0) (a := a) (m := m) (n := n) (k := k) (UOx.put (B := w.heap.size) (W0 := W0) (a := a) (m := m) (n := n) (k := k) (UOx.put (B := w.heap.size) (W0 := W0) (a := a) (m := m) (n := n) (k := k) (UOx.put (B := w.heap.size) (W0 := W0) (a := a) (m := m) (n := n) (k := k) (UOx.put (B := w.heap.size) (W0 := W0) (a := a) (m := m) (n := n) (k := k) (UOx.put (B := w.heap.size) (W0 := W0) (a := a) (m := m) (n := n) (k := k) (UOx.put (B := w.heap.size) (W0 := W0) (a := a) (m := m) (n := n) (k := k) (UOx.put (B := w.heap.size) (W0 := W0) (a := a) (m := m) (n := n) (k := k) hka VB 0 (.string a) hvb) VB 1 (.string m) hvb) VB 2 (.int .i64 mo) hvb) VB 3 (.int .i64 1) hvb) VB 4 (.int .i64 k) hvb) VB 5 (.int .i64 k) hvb) VB 6 (.slice none 0 0) hvb) VB 7 (.slice (some ⟨HB, 0, none⟩) 1 1) hvb)
        have hvs := (BlkW.set (BlkW.set (BlkW.set (BlkW.set (BlkW.set (BlkW.set (BlkW.set (BlkW.set (⟨⟨vl, vcs⟩, vfs⟩ : BlkW VB [.string ⟨#[]⟩, .string ⟨#[]⟩, .int .i64 0, .int .i64 0, .int .i64 0, .int .i64 0, .slice none 0 0, .slice none 0 0] Wa) 0 (.string a) (by simp)) 1 (.string m) (by simp)) 2 (.int .i64 mo) (by simp)) 3 (.int .i64 1) (by simp)) 4 (.int .i64 k) (by simp)) 5 (.int .i64 k) (by simp)) 6 (.slice none 0 0) (by simp)) 7 (.slice (some ⟨HB, 0, none⟩) 1 1) (by simp))
        have hrs := (Hrs.put (Hrs.put (Hrs.put (Hrs.put (Hrs.put (Hrs.put (Hrs.put (Hrs.put hra VB 0 (.string a) hno) VB 1 (.string m) hno) VB 2 (.int .i64 mo) hno) VB 3 (.int .i64 1) hno) VB 4 (.int .i64 k) hno) VB 5 (.int .i64 k) hno) VB 6 (.slice none 0 0) hno) VB 7 (.slice (some ⟨HB, 0, none⟩) 1 1) hno)
        refine hK.out _ _ hks (fun _ => ?_)
        clear hK K
        try simp only [Act.put, List.setIfInBounds_toArray, List.set_cons_zero, List.set_cons_succ]
        refine wpAnyH_done (by kernel_rfl) ?_ _
        have HBF := hid_intro hks.1
        have HVF := hid_intro hvs
        have HRF := hid_intro hrs
        clear hks hvs hrs y0 y1 y2 y3 y4 y5 y6 y7 f0 f1 f2 f3 f4 f5 f6 f7 vcs vfs hno
        go_wp2_with fail
        go_meet
        case rel => exact ⟨VB, HB, rfl, hvb, hhb, hne, HBF, HVF, HRF⟩
      · go_simp
        try go_wp2_with fail
        have hka := UOx.below (B := w.heap.size) (W0 := W0) (a := a) (m := m) (n := n) (k := k) hkq1 ((Below.refl q1.heap.size q1).alloc (Nat.le_refl _) (Obj.cells #[.string ⟨#[]⟩, .string ⟨#[]⟩, .int .i64 0, .int .i64 0, .int .i64 0, .int .i64 0, .slice none 0 0, .slice none 0 0] 29))
        have hva := BlkW.new q1 [.string ⟨#[]⟩, .string ⟨#[]⟩, .int .i64 0, .int .i64 0, .int .i64 0, .int .i64 0, .slice none 0 0, .slice none 0 0] 29
        have hle := hkq1.1.size
        refine hK.out _ _ hka (fun _ => ?_)
        clear hK K
        try simp only [Act.put, List.setIfInBounds_toArray, List.set_cons_zero, List.set_cons_succ]
        obtain ⟨VB, hVB⟩ : ∃ VB, VB = q1.heap.size := ⟨_, rfl⟩
        obtain ⟨Wa, hWa⟩ : ∃ Wa, Wa = q1.alloc (Obj.cells #[.string ⟨#[]⟩, .string ⟨#[]⟩, .int .i64 0, .int .i64 0, .int .i64 0, .int .i64 0, .slice none 0 0, .slice none 0 0] 29) := ⟨_, rfl⟩
        have hvb : W0.heap.size ≤ VB := by rw [hVB]; exact hle
        rw [← hWa] at hka hva ⊢
        rw [← hVB] at hva ⊢
        clear hWa hVB hle
        refine wpAnyH_ready (rs := [17]) (by kernel_rfl) (by simp) ?_
        refine AllReadyH.cons (o := { dst := some 21, op := Op.buildSlice 27 1 #[(0, Operand.tmp 20)], type := 27, pos := "l07_window.go:35", after := #[{ on := 16, ground := Ground.data }], guard := none }) rfl (fun K hK => ?_) AllReadyH.nil
        go_simp
        try rw [hwr]
        try go_wp2_with fail
        have hkb := UOx.below (B := w.heap.size) (W0 := W0) (a := a) (m := m) (n := n) (k := k) hka ((Below.refl Wa.heap.size Wa).alloc (Nat.le_refl _) (Obj.cells #[.int .i64 hq, .int .i64 k] 102))
        have hrb := hrs_one1 hq k Wa 102
        have hle := hka.1.size
        have hvb2 := BlkW.below hva ((Below.refl Wa.heap.size Wa).alloc (Nat.le_refl _) (Obj.cells #[.int .i64 hq, .int .i64 k] 102))
        have hwl : VB < Wa.heap.size := hva.1.1
        refine hK.out _ _ hkb (fun _ => ?_)
        clear hK K
        try simp only [Act.put, List.setIfInBounds_toArray, List.set_cons_zero, List.set_cons_succ]
        obtain ⟨HB, hHB⟩ : ∃ HB, HB = Wa.heap.size := ⟨_, rfl⟩
        obtain ⟨Wb, hWb⟩ : ∃ Wb, Wb = Wa.alloc (Obj.cells #[.int .i64 hq, .int .i64 k] 102) := ⟨_, rfl⟩
        have hhb : W0.heap.size ≤ HB := by rw [hHB]; exact hle
        have hxb : HB < Wb.heap.size := by rw [hWb, hHB]; simp
        have hne : HB ≠ VB := by rw [hHB]; exact (Nat.ne_of_lt hwl).symm
        rw [← hWb] at hkb hrb ⊢
        rw [← hWb] at hvb2
        rw [← hHB] at hrb ⊢
        clear hWb hHB hle
        refine wpAnyH_take (i := 18) (oi := { dst := some 22, op := Op.build 29 #[(0, Operand.tmp 5), (1, Operand.tmp 7), (2, Operand.tmp 10), (3, Operand.const (Value.int IntKind.i64 1)), (4, Operand.tmp 12), (5, Operand.tmp 14), (7, Operand.tmp 21)], type := 29, pos := "l07_window.go:35", after := #[{ on := 1, ground := Ground.data }, { on := 3, ground := Ground.data }, { on := 6, ground := Ground.data }, { on := 8, ground := Ground.data }, { on := 10, ground := Ground.data }, { on := 17, ground := Ground.data }], guard := none }) (v := ?_) rfl (by kernel_rfl) (by kernel_rfl) (by kernel_rfl) (fun _ _ _ h => h) (Or.inl ⟨by rfl, ?_⟩) (by assumption) ?_
        rotate_left
        · (intro w hSw; (try dsimp only at hSw); go_simp) <;> with_reducible rfl
        try simp only [Act.put, List.setIfInBounds_toArray, List.set_cons_zero, List.set_cons_succ]
        refine wpAnyH_ready (rs := [20]) (by kernel_rfl) (by simp) ?_
        refine AllReadyH.cons (o := { dst := none, op := Op.store 29 (Operand.tmp 3) (Operand.tmp 22), type := 0, pos := "l07_window.go:35", after := #[{ on := 19, ground := Ground.data }, { on := 18, ground := Ground.data }, { on := 6, ground := Ground.chain }, { on := 0, ground := Ground.phase }, { on := 1, ground := Ground.phase }, { on := 2, ground := Ground.phase }, { on := 3, ground := Ground.phase }, { on := 4, ground := Ground.phase }, { on := 5, ground := Ground.phase }, { on := 6, ground := Ground.phase }, { on := 7, ground := Ground.phase }, { on := 8, ground := Ground.phase }, { on := 9, ground := Ground.phase }, { on := 10, ground := Ground.phase }, { on := 11, ground := Ground.phase }, { on := 12, ground := Ground.phase }, { on := 13, ground := Ground.phase }, { on := 14, ground := Ground.phase }, { on := 15, ground := Ground.phase }, { on := 16, ground := Ground.phase }, { on := 17, ground := Ground.phase }, { on := 18, ground := Ground.phase }, { on := 19, ground := Ground.phase }], guard := none }) rfl (fun K hK => ?_) AllReadyH.nil
        obtain ⟨⟨vl, vcs⟩, vfs⟩ := hvb2
        have y0 : Wb.cell? ⟨VB, 0, none⟩ = some (.string ⟨#[]⟩) := vcs 0 (by simp)
        have f0 := vfs 0 (by simp)
        have y1 : Wb.cell? ⟨VB, 1, none⟩ = some (.string ⟨#[]⟩) := vcs 1 (by simp)
        have f1 := vfs 1 (by simp)
        have y2 : Wb.cell? ⟨VB, 2, none⟩ = some (.int .i64 0) := vcs 2 (by simp)
        have f2 := vfs 2 (by simp)
        have y3 : Wb.cell? ⟨VB, 3, none⟩ = some (.int .i64 0) := vcs 3 (by simp)
        have f3 := vfs 3 (by simp)
        have y4 : Wb.cell? ⟨VB, 4, none⟩ = some (.int .i64 0) := vcs 4 (by simp)
        have f4 := vfs 4 (by simp)
        have y5 : Wb.cell? ⟨VB, 5, none⟩ = some (.int .i64 0) := vcs 5 (by simp)
        have f5 := vfs 5 (by simp)
        have y6 : Wb.cell? ⟨VB, 6, none⟩ = some (.slice none 0 0) := vcs 6 (by simp)
        have f6 := vfs 6 (by simp)
        have y7 : Wb.cell? ⟨VB, 7, none⟩ = some (.slice none 0 0) := vcs 7 (by simp)
        have f7 := vfs 7 (by simp)
        go_simp
        try go_wp2_with fail
        have hno : ∀ b off, (some ⟨HB, 0, none⟩ : Option Addr) = some ⟨b, off, none⟩ → b ≠ VB := fun b off e => by simp at e; omega
        have hks := (UOx.put (B := w.heap.size) (W0 := W0) (a := a) (m := m) (n := n) (k := k) (UOx.put (B := w.heap.size) (W0 := W0) (a := a) (m := m) (n := n) (k := k) (UOx.put (B := w.heap.size) (W0 := W0) (a := a) (m := m) (n := n) (k := k) (UOx.put (B := w.heap.size) (W0 := W0) (a := a) (m := m) (n := n) (k := k) (UOx.put (B := w.heap.size) (W0 := W0) (a := a) (m := m) (n := n) (k := k) (UOx.put (B := w.heap.size) (W0 := W0) (a := a) (m := m) (n := n) (k := k) (UOx.put (B := w.heap.size) (W0 := W0) (a := a) (m := m) (n := n) (k := k) (UOx.put (B := w.heap.size) (W0 := W0) (a := a) (m := m) (n := n) (k := k) hkb VB 0 (.string a) hvb) VB 1 (.string m) hvb) VB 2 (.int .i64 mo) hvb) VB 3 (.int .i64 1) hvb) VB 4 (.int .i64 k) hvb) VB 5 (.int .i64 k) hvb) VB 6 (.slice none 0 0) hvb) VB 7 (.slice (some ⟨HB, 0, none⟩) 1 1) hvb)
        have hvs := (BlkW.set (BlkW.set (BlkW.set (BlkW.set (BlkW.set (BlkW.set (BlkW.set (BlkW.set (⟨⟨vl, vcs⟩, vfs⟩ : BlkW VB [.string ⟨#[]⟩, .string ⟨#[]⟩, .int .i64 0, .int .i64 0, .int .i64 0, .int .i64 0, .slice none 0 0, .slice none 0 0] Wb) 0 (.string a) (by simp)) 1 (.string m) (by simp)) 2 (.int .i64 mo) (by simp)) 3 (.int .i64 1) (by simp)) 4 (.int .i64 k) (by simp)) 5 (.int .i64 k) (by simp)) 6 (.slice none 0 0) (by simp)) 7 (.slice (some ⟨HB, 0, none⟩) 1 1) (by simp))
        have hrs := (Hrs.put (Hrs.put (Hrs.put (Hrs.put (Hrs.put (Hrs.put (Hrs.put (Hrs.put hrb VB 0 (.string a) hno) VB 1 (.string m) hno) VB 2 (.int .i64 mo) hno) VB 3 (.int .i64 1) hno) VB 4 (.int .i64 k) hno) VB 5 (.int .i64 k) hno) VB 6 (.slice none 0 0) hno) VB 7 (.slice (some ⟨HB, 0, none⟩) 1 1) hno)
        refine hK.out _ _ hks (fun _ => ?_)
        clear hK K
        try simp only [Act.put, List.setIfInBounds_toArray, List.set_cons_zero, List.set_cons_succ]
        refine wpAnyH_done (by kernel_rfl) ?_ _
        have HBF := hid_intro hks.1
        have HVF := hid_intro hvs
        have HRF := hid_intro hrs
        clear hks hvs hrs y0 y1 y2 y3 y4 y5 y6 y7 f0 f1 f2 f3 f4 f5 f6 f7 vcs vfs hno
        go_wp2_with fail
        go_meet
        case rel => exact ⟨VB, HB, rfl, hvb, hhb, hne, HBF, HVF, HRF⟩
    · go_simp
      try rw [hwr]
      try go_wp2_with fail
      have hkb := UOx.below (B := w.heap.size) (W0 := W0) (a := a) (m := m) (n := n) (k := k) HS0.out ((Below.refl Wd.heap.size Wd).alloc (Nat.le_refl _) (Obj.cells #[.int .i64 hq, .int .i64 k] 102))
      have hrb := hrs_one1 hq k Wd 102
      have hle := HS0.out.1.size
      refine hK.out _ _ hkb (fun _ => ?_)
      clear hK K
      try simp only [Act.put, List.setIfInBounds_toArray, List.set_cons_zero, List.set_cons_succ]
      obtain ⟨HB, hHB⟩ : ∃ HB, HB = Wd.heap.size := ⟨_, rfl⟩
      obtain ⟨Wb, hWb⟩ : ∃ Wb, Wb = Wd.alloc (Obj.cells #[.int .i64 hq, .int .i64 k] 102) := ⟨_, rfl⟩
      have hhb : W0.heap.size ≤ HB := by rw [hHB]; exact hle
      have hxb : HB < Wb.heap.size := by rw [hWb, hHB]; simp
      rw [← hWb] at hkb hrb ⊢
      rw [← hHB] at hrb ⊢
      clear hWb hHB hle
      refine wpAnyH_ready (rs := [6, 19]) (by kernel_rfl) (by simp) ?_
      refine AllReadyH.cons (o := { dst := some 10, op := Op.call { callee := Callee.value (Operand.func 85), args := #[Operand.tmp 9], argTypes := #[2] }, type := 2, pos := "l07_window.go:35", after := #[{ on := 5, ground := Ground.data }], guard := none }) rfl (fun K hK => ?_) (AllReadyH.cons (o := { dst := some 3, op := Op.alloc 29, type := 0, pos := "l07_window.go:35", after := #[], guard := none }) rfl (fun K hK => ?_) AllReadyH.nil)
      · go_simp
        go_at_call 85
        refine (HMo.out _).mono ?_
        rintro e q1 ⟨rfl, hq1⟩
        try go_wp2_with fail
        have hkq1 := UOx.below (B := w.heap.size) (W0 := W0) (a := a) (m := m) (n := n) (k := k) hkb hq1
        have hrq1 := Hrs.below hrb hq1
        have hxq1 : HB < q1.heap.size := Nat.lt_of_lt_of_le hxb hq1.size
        refine hK.out _ _ hkq1 (fun _ => ?_)
        clear hK K
        try simp only [Act.put, List.setIfInBounds_toArray, List.set_cons_zero, List.set_cons_succ]
        refine wpAnyH_take (i := 18) (oi := { dst := some 22, op := Op.build 29 #[(0, Operand.tmp 5), (1, Operand.tmp 7), (2, Operand.tmp 10), (3, Operand.const (Value.int IntKind.i64 1)), (4, Operand.tmp 12), (5, Operand.tmp 14), (7, Operand.tmp 21)], type := 29, pos := "l07_window.go:35", after := #[{ on := 1, ground := Ground.data }, { on := 3, ground := Ground.data }, { on := 6, ground := Ground.data }, { on := 8, ground := Ground.data }, { on := 10, ground := Ground.data }, { on := 17, ground := Ground.data }], guard := none }) (v := ?_) rfl (by kernel_rfl) (by kernel_rfl) (by kernel_rfl) (fun _ _ _ h => h) (Or.inl ⟨by rfl, ?_⟩) (by assumption) ?_
        rotate_left
        · (intro w hSw; (try dsimp only at hSw); go_simp) <;> with_reducible rfl
        try simp only [Act.put, List.setIfInBounds_toArray, List.set_cons_zero, List.set_cons_succ]
        refine wpAnyH_ready (rs := [19]) (by kernel_rfl) (by simp) ?_
        refine AllReadyH.cons (o := { dst := some 3, op := Op.alloc 29, type := 0, pos := "l07_window.go:35", after := #[], guard := none }) rfl (fun K hK => ?_) AllReadyH.nil
        go_simp
        try go_wp2_with fail
        have hka := UOx.below (B := w.heap.size) (W0 := W0) (a := a) (m := m) (n := n) (k := k) hkq1 ((Below.refl q1.heap.size q1).alloc (Nat.le_refl _) (Obj.cells #[.string ⟨#[]⟩, .string ⟨#[]⟩, .int .i64 0, .int .i64 0, .int .i64 0, .int .i64 0, .slice none 0 0, .slice none 0 0] 29))
        have hva := BlkW.new q1 [.string ⟨#[]⟩, .string ⟨#[]⟩, .int .i64 0, .int .i64 0, .int .i64 0, .int .i64 0, .slice none 0 0, .slice none 0 0] 29
        have hle := hkq1.1.size
        have hra := Hrs.below hrq1 ((Below.refl q1.heap.size q1).alloc (Nat.le_refl _) (Obj.cells #[.string ⟨#[]⟩, .string ⟨#[]⟩, .int .i64 0, .int .i64 0, .int .i64 0, .int .i64 0, .slice none 0 0, .slice none 0 0] 29))
        refine hK.out _ _ hka (fun _ => ?_)
        clear hK K
        try simp only [Act.put, List.setIfInBounds_toArray, List.set_cons_zero, List.set_cons_succ]
        obtain ⟨VB, hVB⟩ : ∃ VB, VB = q1.heap.size := ⟨_, rfl⟩
        obtain ⟨Wa, hWa⟩ : ∃ Wa, Wa = q1.alloc (Obj.cells #[.string ⟨#[]⟩, .string ⟨#[]⟩, .int .i64 0, .int .i64 0, .int .i64 0, .int .i64 0, .slice none 0 0, .slice none 0 0] 29) := ⟨_, rfl⟩
        have hvb : W0.heap.size ≤ VB := by rw [hVB]; exact hle
        have hne : HB ≠ VB := by rw [hVB]; exact Nat.ne_of_lt hxq1
        have hxa : HB < Wa.heap.size := by rw [hWa]; simp; omega
        rw [← hWa] at hka hva ⊢
        rw [← hWa] at hra
        rw [← hVB] at hva ⊢
        clear hWa hVB hle
        refine wpAnyH_ready (rs := [20]) (by kernel_rfl) (by simp) ?_
        refine AllReadyH.cons (o := { dst := none, op := Op.store 29 (Operand.tmp 3) (Operand.tmp 22), type := 0, pos := "l07_window.go:35", after := #[{ on := 19, ground := Ground.data }, { on := 18, ground := Ground.data }, { on := 6, ground := Ground.chain }, { on := 0, ground := Ground.phase }, { on := 1, ground := Ground.phase }, { on := 2, ground := Ground.phase }, { on := 3, ground := Ground.phase }, { on := 4, ground := Ground.phase }, { on := 5, ground := Ground.phase }, { on := 6, ground := Ground.phase }, { on := 7, ground := Ground.phase }, { on := 8, ground := Ground.phase }, { on := 9, ground := Ground.phase }, { on := 10, ground := Ground.phase }, { on := 11, ground := Ground.phase }, { on := 12, ground := Ground.phase }, { on := 13, ground := Ground.phase }, { on := 14, ground := Ground.phase }, { on := 15, ground := Ground.phase }, { on := 16, ground := Ground.phase }, { on := 17, ground := Ground.phase }, { on := 18, ground := Ground.phase }, { on := 19, ground := Ground.phase }], guard := none }) rfl (fun K hK => ?_) AllReadyH.nil
        obtain ⟨⟨vl, vcs⟩, vfs⟩ := hva
        have y0 : Wa.cell? ⟨VB, 0, none⟩ = some (.string ⟨#[]⟩) := vcs 0 (by simp)
        have f0 := vfs 0 (by simp)
        have y1 : Wa.cell? ⟨VB, 1, none⟩ = some (.string ⟨#[]⟩) := vcs 1 (by simp)
        have f1 := vfs 1 (by simp)
        have y2 : Wa.cell? ⟨VB, 2, none⟩ = some (.int .i64 0) := vcs 2 (by simp)
        have f2 := vfs 2 (by simp)
        have y3 : Wa.cell? ⟨VB, 3, none⟩ = some (.int .i64 0) := vcs 3 (by simp)
        have f3 := vfs 3 (by simp)
        have y4 : Wa.cell? ⟨VB, 4, none⟩ = some (.int .i64 0) := vcs 4 (by simp)
        have f4 := vfs 4 (by simp)
        have y5 : Wa.cell? ⟨VB, 5, none⟩ = some (.int .i64 0) := vcs 5 (by simp)
        have f5 := vfs 5 (by simp)
        have y6 : Wa.cell? ⟨VB, 6, none⟩ = some (.slice none 0 0) := vcs 6 (by simp)
        have f6 := vfs 6 (by simp)
        have y7 : Wa.cell? ⟨VB, 7, none⟩ = some (.slice none 0 0) := vcs 7 (by simp)
        have f7 := vfs 7 (by simp)
        go_simp
        try go_wp2_with fail
        have hno : ∀ b off, (some ⟨HB, 0, none⟩ : Option Addr) = some ⟨b, off, none⟩ → b ≠ VB := fun b off e => by simp at e; omega
        have hks := (UOx.put (B := w.heap.size) (W0 := W0) (a := a) (m := m) (n := n) (k := k) (UOx.put (B := w.heap.size) (W0 := W0) (a := a) (m := m) (n := n) (k := k) (UOx.put (B := w.heap.size) (W0 := W0) (a := a) (m := m) (n := n) (k := k) (UOx.put (B := w.heap.size) (W0 := W0) (a := a) (m := m) (n := n) (k := k) (UOx.put (B := w.heap.size) (W0 := W0) (a := a) (m := m) (n := n) (k := k) (UOx.put (B := w.heap.size) (W0 := W0) (a := a) (m := m) (n := n) (k := k) (UOx.put (B := w.heap.size) (W0 := W0) (a := a) (m := m) (n := n) (k := k) (UOx.put (B := w.heap.size) (W0 := W0) (a := a) (m := m) (n := n) (k := k) hka VB 0 (.string a) hvb) VB 1 (.string m) hvb) VB 2 (.int .i64 mo) hvb) VB 3 (.int .i64 1) hvb) VB 4 (.int .i64 k) hvb) VB 5 (.int .i64 k) hvb) VB 6 (.slice none 0 0) hvb) VB 7 (.slice (some ⟨HB, 0, none⟩) 1 1) hvb)
        have hvs := (BlkW.set (BlkW.set (BlkW.set (BlkW.set (BlkW.set (BlkW.set (BlkW.set (BlkW.set (⟨⟨vl, vcs⟩, vfs⟩ : BlkW VB [.string ⟨#[]⟩, .string ⟨#[]⟩, .int .i64 0, .int .i64 0, .int .i64 0, .int .i64 0, .slice none 0 0, .slice none 0 0] Wa) 0 (.string a) (by simp)) 1 (.string m) (by simp)) 2 (.int .i64 mo) (by simp)) 3 (.int .i64 1) (by simp)) 4 (.int .i64 k) (by simp)) 5 (.int .i64 k) (by simp)) 6 (.slice none 0 0) (by simp)) 7 (.slice (some ⟨HB, 0, none⟩) 1 1) (by simp))
        have hrs := (Hrs.put (Hrs.put (Hrs.put (Hrs.put (Hrs.put (Hrs.put (Hrs.put (Hrs.put hra VB 0 (.string a) hno) VB 1 (.string m) hno) VB 2 (.int .i64 mo) hno) VB 3 (.int .i64 1) hno) VB 4 (.int .i64 k) hno) VB 5 (.int .i64 k) hno) VB 6 (.slice none 0 0) hno) VB 7 (.slice (some ⟨HB, 0, none⟩) 1 1) hno)
        refine hK.out _ _ hks (fun _ => ?_)
        clear hK K
        try simp only [Act.put, List.setIfInBounds_toArray, List.set_cons_zero, List.set_cons_succ]
        refine wpAnyH_done (by kernel_rfl) ?_ _
        have HBF := hid_intro hks.1
        have HVF := hid_intro hvs
        have HRF := hid_intro hrs
        clear hks hvs hrs y0 y1 y2 y3 y4 y5 y6 y7 f0 f1 f2 f3 f4 f5 f6 f7 vcs vfs hno
        go_wp2_with fail
        go_meet
        case rel => exact ⟨VB, HB, rfl, hvb, hhb, hne, HBF, HVF, HRF⟩
      · go_simp
        try go_wp2_with fail
        have hka := UOx.below (B := w.heap.size) (W0 := W0) (a := a) (m := m) (n := n) (k := k) hkb ((Below.refl Wb.heap.size Wb).alloc (Nat.le_refl _) (Obj.cells #[.string ⟨#[]⟩, .string ⟨#[]⟩, .int .i64 0, .int .i64 0, .int .i64 0, .int .i64 0, .slice none 0 0, .slice none 0 0] 29))
        have hva := BlkW.new Wb [.string ⟨#[]⟩, .string ⟨#[]⟩, .int .i64 0, .int .i64 0, .int .i64 0, .int .i64 0, .slice none 0 0, .slice none 0 0] 29
        have hle := hkb.1.size
        have hra := Hrs.below hrb ((Below.refl Wb.heap.size Wb).alloc (Nat.le_refl _) (Obj.cells #[.string ⟨#[]⟩, .string ⟨#[]⟩, .int .i64 0, .int .i64 0, .int .i64 0, .int .i64 0, .slice none 0 0, .slice none 0 0] 29))
        refine hK.out _ _ hka (fun _ => ?_)
        clear hK K
        try simp only [Act.put, List.setIfInBounds_toArray, List.set_cons_zero, List.set_cons_succ]
        obtain ⟨VB, hVB⟩ : ∃ VB, VB = Wb.heap.size := ⟨_, rfl⟩
        obtain ⟨Wa, hWa⟩ : ∃ Wa, Wa = Wb.alloc (Obj.cells #[.string ⟨#[]⟩, .string ⟨#[]⟩, .int .i64 0, .int .i64 0, .int .i64 0, .int .i64 0, .slice none 0 0, .slice none 0 0] 29) := ⟨_, rfl⟩
        have hvb : W0.heap.size ≤ VB := by rw [hVB]; exact hle
        have hne : HB ≠ VB := by rw [hVB]; exact Nat.ne_of_lt hxb
        have hxa : HB < Wa.heap.size := by rw [hWa]; simp; omega
        rw [← hWa] at hka hva ⊢
        rw [← hWa] at hra
        rw [← hVB] at hva ⊢
        clear hWa hVB hle
        refine wpAnyH_ready (rs := [6]) (by kernel_rfl) (by simp) ?_
        refine AllReadyH.cons (o := { dst := some 10, op := Op.call { callee := Callee.value (Operand.func 85), args := #[Operand.tmp 9], argTypes := #[2] }, type := 2, pos := "l07_window.go:35", after := #[{ on := 5, ground := Ground.data }], guard := none }) rfl (fun K hK => ?_) AllReadyH.nil
        go_simp
        go_at_call 85
        refine (HMo.out _).mono ?_
        rintro e q1 ⟨rfl, hq1⟩
        try go_wp2_with fail
        have hkq1 := UOx.below (B := w.heap.size) (W0 := W0) (a := a) (m := m) (n := n) (k := k) hka hq1
        have hvq1 := BlkW.below hva hq1
        have hrq1 := Hrs.below hra hq1
        have hxq1 : HB < q1.heap.size := Nat.lt_of_lt_of_le hxa hq1.size
        refine hK.out _ _ hkq1 (fun _ => ?_)
        clear hK K
        try simp only [Act.put, List.setIfInBounds_toArray, List.set_cons_zero, List.set_cons_succ]
        refine wpAnyH_take (i := 18) (oi := { dst := some 22, op := Op.build 29 #[(0, Operand.tmp 5), (1, Operand.tmp 7), (2, Operand.tmp 10), (3, Operand.const (Value.int IntKind.i64 1)), (4, Operand.tmp 12), (5, Operand.tmp 14), (7, Operand.tmp 21)], type := 29, pos := "l07_window.go:35", after := #[{ on := 1, ground := Ground.data }, { on := 3, ground := Ground.data }, { on := 6, ground := Ground.data }, { on := 8, ground := Ground.data }, { on := 10, ground := Ground.data }, { on := 17, ground := Ground.data }], guard := none }) (v := ?_) rfl (by kernel_rfl) (by kernel_rfl) (by kernel_rfl) (fun _ _ _ h => h) (Or.inl ⟨by rfl, ?_⟩) (by assumption) ?_
        rotate_left
        · (intro w hSw; (try dsimp only at hSw); go_simp) <;> with_reducible rfl
        try simp only [Act.put, List.setIfInBounds_toArray, List.set_cons_zero, List.set_cons_succ]
        refine wpAnyH_ready (rs := [20]) (by kernel_rfl) (by simp) ?_
        refine AllReadyH.cons (o := { dst := none, op := Op.store 29 (Operand.tmp 3) (Operand.tmp 22), type := 0, pos := "l07_window.go:35", after := #[{ on := 19, ground := Ground.data }, { on := 18, ground := Ground.data }, { on := 6, ground := Ground.chain }, { on := 0, ground := Ground.phase }, { on := 1, ground := Ground.phase }, { on := 2, ground := Ground.phase }, { on := 3, ground := Ground.phase }, { on := 4, ground := Ground.phase }, { on := 5, ground := Ground.phase }, { on := 6, ground := Ground.phase }, { on := 7, ground := Ground.phase }, { on := 8, ground := Ground.phase }, { on := 9, ground := Ground.phase }, { on := 10, ground := Ground.phase }, { on := 11, ground := Ground.phase }, { on := 12, ground := Ground.phase }, { on := 13, ground := Ground.phase }, { on := 14, ground := Ground.phase }, { on := 15, ground := Ground.phase }, { on := 16, ground := Ground.phase }, { on := 17, ground := Ground.phase }, { on := 18, ground := Ground.phase }, { on := 19, ground := Ground.phase }], guard := none }) rfl (fun K hK => ?_) AllReadyH.nil
        obtain ⟨⟨vl, vcs⟩, vfs⟩ := hvq1
        have y0 : q1.cell? ⟨VB, 0, none⟩ = some (.string ⟨#[]⟩) := vcs 0 (by simp)
        have f0 := vfs 0 (by simp)
        have y1 : q1.cell? ⟨VB, 1, none⟩ = some (.string ⟨#[]⟩) := vcs 1 (by simp)
        have f1 := vfs 1 (by simp)
        have y2 : q1.cell? ⟨VB, 2, none⟩ = some (.int .i64 0) := vcs 2 (by simp)
        have f2 := vfs 2 (by simp)
        have y3 : q1.cell? ⟨VB, 3, none⟩ = some (.int .i64 0) := vcs 3 (by simp)
        have f3 := vfs 3 (by simp)
        have y4 : q1.cell? ⟨VB, 4, none⟩ = some (.int .i64 0) := vcs 4 (by simp)
        have f4 := vfs 4 (by simp)
        have y5 : q1.cell? ⟨VB, 5, none⟩ = some (.int .i64 0) := vcs 5 (by simp)
        have f5 := vfs 5 (by simp)
        have y6 : q1.cell? ⟨VB, 6, none⟩ = some (.slice none 0 0) := vcs 6 (by simp)
        have f6 := vfs 6 (by simp)
        have y7 : q1.cell? ⟨VB, 7, none⟩ = some (.slice none 0 0) := vcs 7 (by simp)
        have f7 := vfs 7 (by simp)
        go_simp
        try go_wp2_with fail
        have hno : ∀ b off, (some ⟨HB, 0, none⟩ : Option Addr) = some ⟨b, off, none⟩ → b ≠ VB := fun b off e => by simp at e; omega
        have hks := (UOx.put (B := w.heap.size) (W0 := W0) (a := a) (m := m) (n := n) (k := k) (UOx.put (B := w.heap.size) (W0 := W0) (a := a) (m := m) (n := n) (k := k) (UOx.put (B := w.heap.size) (W0 := W0) (a := a) (m := m) (n := n) (k := k) (UOx.put (B := w.heap.size) (W0 := W0) (a := a) (m := m) (n := n) (k := k) (UOx.put (B := w.heap.size) (W0 := W0) (a := a) (m := m) (n := n) (k := k) (UOx.put (B := w.heap.size) (W0 := W0) (a := a) (m := m) (n := n) (k := k) (UOx.put (B := w.heap.size) (W0 := W0) (a := a) (m := m) (n := n) (k := k) (UOx.put (B := w.heap.size) (W0 := W0) (a := a) (m := m) (n := n) (k := k) hkq1 VB 0 (.string a) hvb) VB 1 (.string m) hvb) VB 2 (.int .i64 mo) hvb) VB 3 (.int .i64 1) hvb) VB 4 (.int .i64 k) hvb) VB 5 (.int .i64 k) hvb) VB 6 (.slice none 0 0) hvb) VB 7 (.slice (some ⟨HB, 0, none⟩) 1 1) hvb)
        have hvs := (BlkW.set (BlkW.set (BlkW.set (BlkW.set (BlkW.set (BlkW.set (BlkW.set (BlkW.set (⟨⟨vl, vcs⟩, vfs⟩ : BlkW VB [.string ⟨#[]⟩, .string ⟨#[]⟩, .int .i64 0, .int .i64 0, .int .i64 0, .int .i64 0, .slice none 0 0, .slice none 0 0] q1) 0 (.string a) (by simp)) 1 (.string m) (by simp)) 2 (.int .i64 mo) (by simp)) 3 (.int .i64 1) (by simp)) 4 (.int .i64 k) (by simp)) 5 (.int .i64 k) (by simp)) 6 (.slice none 0 0) (by simp)) 7 (.slice (some ⟨HB, 0, none⟩) 1 1) (by simp))
        have hrs := (Hrs.put (Hrs.put (Hrs.put (Hrs.put (Hrs.put (Hrs.put (Hrs.put (Hrs.put hrq1 VB 0 (.string a) hno) VB 1 (.string m) hno) VB 2 (.int .i64 mo) hno) VB 3 (.int .i64 1) hno) VB 4 (.int .i64 k) hno) VB 5 (.int .i64 k) hno) VB 6 (.slice none 0 0) hno) VB 7 (.slice (some ⟨HB, 0, none⟩) 1 1) hno)
        refine hK.out _ _ hks (fun _ => ?_)
        clear hK K
        try simp only [Act.put, List.setIfInBounds_toArray, List.set_cons_zero, List.set_cons_succ]
        refine wpAnyH_done (by kernel_rfl) ?_ _
        have HBF := hid_intro hks.1
        have HVF := hid_intro hvs
        have HRF := hid_intro hrs
        clear hks hvs hrs y0 y1 y2 y3 y4 y5 y6 y7 f0 f1 f2 f3 f4 f5 f6 f7 vcs vfs hno
        go_wp2_with fail
        go_meet
        case rel => exact ⟨VB, HB, rfl, hvb, hhb, hne, HBF, HVF, HRF⟩
    · go_simp
      try go_wp2_with fail
      have hka := UOx.below (B := w.heap.size) (W0 := W0) (a := a) (m := m) (n := n) (k := k) HS0.out ((Below.refl Wd.heap.size Wd).alloc (Nat.le_refl _) (Obj.cells #[.string ⟨#[]⟩, .string ⟨#[]⟩, .int .i64 0, .int .i64 0, .int .i64 0, .int .i64 0, .slice none 0 0, .slice none 0 0] 29))
      have hva := BlkW.new Wd [.string ⟨#[]⟩, .string ⟨#[]⟩, .int .i64 0, .int .i64 0, .int .i64 0, .int .i64 0, .slice none 0 0, .slice none 0 0] 29
      have hle := HS0.out.1.size
      refine hK.out _ _ hka (fun _ => ?_)
      clear hK K
      try simp only [Act.put, List.setIfInBounds_toArray, List.set_cons_zero, List.set_cons_succ]
      obtain ⟨VB, hVB⟩ : ∃ VB, VB = Wd.heap.size := ⟨_, rfl⟩
      obtain ⟨Wa, hWa⟩ : ∃ Wa, Wa = Wd.alloc (Obj.cells #[.string ⟨#[]⟩, .string ⟨#[]⟩, .int .i64 0, .int .i64 0, .int .i64 0, .int .i64 0, .slice none 0 0, .slice none 0 0] 29) := ⟨_, rfl⟩
      have hvb : W0.heap.size ≤ VB := by rw [hVB]; exact hle
      rw [← hWa] at hka hva ⊢
      rw [← hVB] at hva ⊢
      clear hWa hVB hle
      refine wpAnyH_ready (rs := [6, 17]) (by kernel_rfl) (by simp) ?_
      refine AllReadyH.cons (o := { dst := some 10, op := Op.call { callee := Callee.value (Operand.func 85), args := #[Operand.tmp 9], argTypes := #[2] }, type := 2, pos := "l07_window.go:35", after := #[{ on := 5, ground := Ground.data }], guard := none }) rfl (fun K hK => ?_) (AllReadyH.cons (o := { dst := some 21, op := Op.buildSlice 27 1 #[(0, Operand.tmp 20)], type := 27, pos := "l07_window.go:35", after := #[{ on := 16, ground := Ground.data }], guard := none }) rfl (fun K hK => ?_) AllReadyH.nil)
      · go_simp
        go_at_call 85
        refine (HMo.out _).mono ?_
        rintro e q1 ⟨rfl, hq1⟩
        try go_wp2_with fail
        have hkq1 := UOx.below (B := w.heap.size) (W0 := W0) (a := a) (m := m) (n := n) (k := k) hka hq1
        have hvq1 := BlkW.below hva hq1
        refine hK.out _ _ hkq1 (fun _ => ?_)
        clear hK K
        try simp only [Act.put, List.setIfInBounds_toArray, List.set_cons_zero, List.set_cons_succ]
        refine wpAnyH_ready (rs := [17]) (by kernel_rfl) (by simp) ?_
        refine AllReadyH.cons (o := { dst := some 21, op := Op.buildSlice 27 1 #[(0, Operand.tmp 20)], type := 27, pos := "l07_window.go:35", after := #[{ on := 16, ground := Ground.data }], guard := none }) rfl (fun K hK => ?_) AllReadyH.nil
        go_simp
        try rw [hwr]
        try go_wp2_with fail
        have hkb := UOx.below (B := w.heap.size) (W0 := W0) (a := a) (m := m) (n := n) (k := k) hkq1 ((Below.refl q1.heap.size q1).alloc (Nat.le_refl _) (Obj.cells #[.int .i64 hq, .int .i64 k] 102))
        have hrb := hrs_one1 hq k q1 102
        have hle := hkq1.1.size
        have hvb2 := BlkW.below hvq1 ((Below.refl q1.heap.size q1).alloc (Nat.le_refl _) (Obj.cells #[.int .i64 hq, .int .i64 k] 102))
        have hwl : VB < q1.heap.size := hvq1.1.1
        refine hK.out _ _ hkb (fun _ => ?_)
        clear hK K
        try simp only [Act.put, List.setIfInBounds_toArray, List.set_cons_zero, List.set_cons_succ]
        obtain ⟨HB, hHB⟩ : ∃ HB, HB = q1.heap.size := ⟨_, rfl⟩
        obtain ⟨Wb, hWb⟩ : ∃ Wb, Wb = q1.alloc (Obj.cells #[.int .i64 hq, .int .i64 k] 102) := ⟨_, rfl⟩
        have hhb : W0.heap.size ≤ HB := by rw [hHB]; exact hle
        have hxb : HB < Wb.heap.size := by rw [hWb, hHB]; simp
        have hne : HB ≠ VB := by rw [hHB]; exact (Nat.ne_of_lt hwl).symm
        rw [← hWb] at hkb hrb ⊢
        rw [← hWb] at hvb2
        rw [← hHB] at hrb ⊢
        clear hWb hHB hle
        refine wpAnyH_take (i := 18) (oi := { dst := some 22, op := Op.build 29 #[(0, Operand.tmp 5), (1, Operand.tmp 7), (2, Operand.tmp 10), (3, Operand.const (Value.int IntKind.i64 1)), (4, Operand.tmp 12), (5, Operand.tmp 14), (7, Operand.tmp 21)], type := 29, pos := "l07_window.go:35", after := #[{ on := 1, ground := Ground.data }, { on := 3, ground := Ground.data }, { on := 6, ground := Ground.data }, { on := 8, ground := Ground.data }, { on := 10, ground := Ground.data }, { on := 17, ground := Ground.data }], guard := none }) (v := ?_) rfl (by kernel_rfl) (by kernel_rfl) (by kernel_rfl) (fun _ _ _ h => h) (Or.inl ⟨by rfl, ?_⟩) (by assumption) ?_
        rotate_left
        · (intro w hSw; (try dsimp only at hSw); go_simp) <;> with_reducible rfl
        try simp only [Act.put, List.setIfInBounds_toArray, List.set_cons_zero, List.set_cons_succ]
        refine wpAnyH_ready (rs := [20]) (by kernel_rfl) (by simp) ?_
        refine AllReadyH.cons (o := { dst := none, op := Op.store 29 (Operand.tmp 3) (Operand.tmp 22), type := 0, pos := "l07_window.go:35", after := #[{ on := 19, ground := Ground.data }, { on := 18, ground := Ground.data }, { on := 6, ground := Ground.chain }, { on := 0, ground := Ground.phase }, { on := 1, ground := Ground.phase }, { on := 2, ground := Ground.phase }, { on := 3, ground := Ground.phase }, { on := 4, ground := Ground.phase }, { on := 5, ground := Ground.phase }, { on := 6, ground := Ground.phase }, { on := 7, ground := Ground.phase }, { on := 8, ground := Ground.phase }, { on := 9, ground := Ground.phase }, { on := 10, ground := Ground.phase }, { on := 11, ground := Ground.phase }, { on := 12, ground := Ground.phase }, { on := 13, ground := Ground.phase }, { on := 14, ground := Ground.phase }, { on := 15, ground := Ground.phase }, { on := 16, ground := Ground.phase }, { on := 17, ground := Ground.phase }, { on := 18, ground := Ground.phase }, { on := 19, ground := Ground.phase }], guard := none }) rfl (fun K hK => ?_) AllReadyH.nil
        obtain ⟨⟨vl, vcs⟩, vfs⟩ := hvb2
        have y0 : Wb.cell? ⟨VB, 0, none⟩ = some (.string ⟨#[]⟩) := vcs 0 (by simp)
        have f0 := vfs 0 (by simp)
        have y1 : Wb.cell? ⟨VB, 1, none⟩ = some (.string ⟨#[]⟩) := vcs 1 (by simp)
        have f1 := vfs 1 (by simp)
        have y2 : Wb.cell? ⟨VB, 2, none⟩ = some (.int .i64 0) := vcs 2 (by simp)
        have f2 := vfs 2 (by simp)
        have y3 : Wb.cell? ⟨VB, 3, none⟩ = some (.int .i64 0) := vcs 3 (by simp)
        have f3 := vfs 3 (by simp)
        have y4 : Wb.cell? ⟨VB, 4, none⟩ = some (.int .i64 0) := vcs 4 (by simp)
        have f4 := vfs 4 (by simp)
        have y5 : Wb.cell? ⟨VB, 5, none⟩ = some (.int .i64 0) := vcs 5 (by simp)
        have f5 := vfs 5 (by simp)
        have y6 : Wb.cell? ⟨VB, 6, none⟩ = some (.slice none 0 0) := vcs 6 (by simp)
        have f6 := vfs 6 (by simp)
        have y7 : Wb.cell? ⟨VB, 7, none⟩ = some (.slice none 0 0) := vcs 7 (by simp)
        have f7 := vfs 7 (by simp)
        go_simp
        try go_wp2_with fail
        have hno : ∀ b off, (some ⟨HB, 0, none⟩ : Option Addr) = some ⟨b, off, none⟩ → b ≠ VB := fun b off e => by simp at e; omega
        have hks := (UOx.put (B := w.heap.size) (W0 := W0) (a := a) (m := m) (n := n) (k := k) (UOx.put (B := w.heap.size) (W0 := W0) (a := a) (m := m) (n := n) (k := k) (UOx.put (B := w.heap.size) (W0 := W0) (a := a) (m := m) (n := n) (k := k) (UOx.put (B := w.heap.size) (W0 := W0) (a := a) (m := m) (n := n) (k := k) (UOx.put (B := w.heap.size) (W0 := W0) (a := a) (m := m) (n := n) (k := k) (UOx.put (B := w.heap.size) (W0 := W0) (a := a) (m := m) (n := n) (k := k) (UOx.put (B := w.heap.size) (W0 := W0) (a := a) (m := m) (n := n) (k := k) (UOx.put (B := w.heap.size) (W0 := W0) (a := a) (m := m) (n := n) (k := k) hkb VB 0 (.string a) hvb) VB 1 (.string m) hvb) VB 2 (.int .i64 mo) hvb) VB 3 (.int .i64 1) hvb) VB 4 (.int .i64 k) hvb) VB 5 (.int .i64 k) hvb) VB 6 (.slice none 0 0) hvb) VB 7 (.slice (some ⟨HB, 0, none⟩) 1 1) hvb)
        have hvs := (BlkW.set (BlkW.set (BlkW.set (BlkW.set (BlkW.set (BlkW.set (BlkW.set (BlkW.set (⟨⟨vl, vcs⟩, vfs⟩ : BlkW VB [.string ⟨#[]⟩, .string ⟨#[]⟩, .int .i64 0, .int .i64 0, .int .i64 0, .int .i64 0, .slice none 0 0, .slice none 0 0] Wb) 0 (.string a) (by simp)) 1 (.string m) (by simp)) 2 (.int .i64 mo) (by simp)) 3 (.int .i64 1) (by simp)) 4 (.int .i64 k) (by simp)) 5 (.int .i64 k) (by simp)) 6 (.slice none 0 0) (by simp)) 7 (.slice (some ⟨HB, 0, none⟩) 1 1) (by simp))
        have hrs := (Hrs.put (Hrs.put (Hrs.put (Hrs.put (Hrs.put (Hrs.put (Hrs.put (Hrs.put hrb VB 0 (.string a) hno) VB 1 (.string m) hno) VB 2 (.int .i64 mo) hno) VB 3 (.int .i64 1) hno) VB 4 (.int .i64 k) hno) VB 5 (.int .i64 k) hno) VB 6 (.slice none 0 0) hno) VB 7 (.slice (some ⟨HB, 0, none⟩) 1 1) hno)
        refine hK.out _ _ hks (fun _ => ?_)
        clear hK K
        try simp only [Act.put, List.setIfInBounds_toArray, List.set_cons_zero, List.set_cons_succ]
        refine wpAnyH_done (by kernel_rfl) ?_ _
        have HBF := hid_intro hks.1
        have HVF := hid_intro hvs
        have HRF := hid_intro hrs
        clear hks hvs hrs y0 y1 y2 y3 y4 y5 y6 y7 f0 f1 f2 f3 f4 f5 f6 f7 vcs vfs hno
        go_wp2_with fail
        go_meet
        case rel => exact ⟨VB, HB, rfl, hvb, hhb, hne, HBF, HVF, HRF⟩
      · go_simp
        try rw [hwr]
        try go_wp2_with fail
        have hkb := UOx.below (B := w.heap.size) (W0 := W0) (a := a) (m := m) (n := n) (k := k) hka ((Below.refl Wa.heap.size Wa).alloc (Nat.le_refl _) (Obj.cells #[.int .i64 hq, .int .i64 k] 102))
        have hrb := hrs_one1 hq k Wa 102
        have hle := hka.1.size
        have hvb2 := BlkW.below hva ((Below.refl Wa.heap.size Wa).alloc (Nat.le_refl _) (Obj.cells #[.int .i64 hq, .int .i64 k] 102))
        have hwl : VB < Wa.heap.size := hva.1.1
        refine hK.out _ _ hkb (fun _ => ?_)
        clear hK K
        try simp only [Act.put, List.setIfInBounds_toArray, List.set_cons_zero, List.set_cons_succ]
        obtain ⟨HB, hHB⟩ : ∃ HB, HB = Wa.heap.size := ⟨_, rfl⟩
        obtain ⟨Wb, hWb⟩ : ∃ Wb, Wb = Wa.alloc (Obj.cells #[.int .i64 hq, .int .i64 k] 102) := ⟨_, rfl⟩
        have hhb : W0.heap.size ≤ HB := by rw [hHB]; exact hle
        have hxb : HB < Wb.heap.size := by rw [hWb, hHB]; simp
        have hne : HB ≠ VB := by rw [hHB]; exact (Nat.ne_of_lt hwl).symm
        rw [← hWb] at hkb hrb ⊢
        rw [← hWb] at hvb2
        rw [← hHB] at hrb ⊢
        clear hWb hHB hle
        refine wpAnyH_ready (rs := [6]) (by kernel_rfl) (by simp) ?_
        refine AllReadyH.cons (o := { dst := some 10, op := Op.call { callee := Callee.value (Operand.func 85), args := #[Operand.tmp 9], argTypes := #[2] }, type := 2, pos := "l07_window.go:35", after := #[{ on := 5, ground := Ground.data }], guard := none }) rfl (fun K hK => ?_) AllReadyH.nil
        go_simp
        go_at_call 85
        refine (HMo.out _).mono ?_
        rintro e q1 ⟨rfl, hq1⟩
        try go_wp2_with fail
        have hkq1 := UOx.below (B := w.heap.size) (W0 := W0) (a := a) (m := m) (n := n) (k := k) hkb hq1
        have hvq1 := BlkW.below hvb2 hq1
        have hrq1 := Hrs.below hrb hq1
        have hxq1 : HB < q1.heap.size := Nat.lt_of_lt_of_le hxb hq1.size
        refine hK.out _ _ hkq1 (fun _ => ?_)
        clear hK K
        try simp only [Act.put, List.setIfInBounds_toArray, List.set_cons_zero, List.set_cons_succ]
        refine wpAnyH_take (i := 18) (oi := { dst := some 22, op := Op.build 29 #[(0, Operand.tmp 5), (1, Operand.tmp 7), (2, Operand.tmp 10), (3, Operand.const (Value.int IntKind.i64 1)), (4, Operand.tmp 12), (5, Operand.tmp 14), (7, Operand.tmp 21)], type := 29, pos := "l07_window.go:35", after := #[{ on := 1, ground := Ground.data }, { on := 3, ground := Ground.data }, { on := 6, ground := Ground.data }, { on := 8, ground := Ground.data }, { on := 10, ground := Ground.data }, { on := 17, ground := Ground.data }], guard := none }) (v := ?_) rfl (by kernel_rfl) (by kernel_rfl) (by kernel_rfl) (fun _ _ _ h => h) (Or.inl ⟨by rfl, ?_⟩) (by assumption) ?_
        rotate_left
        · (intro w hSw; (try dsimp only at hSw); go_simp) <;> with_reducible rfl
        try simp only [Act.put, List.setIfInBounds_toArray, List.set_cons_zero, List.set_cons_succ]
        refine wpAnyH_ready (rs := [20]) (by kernel_rfl) (by simp) ?_
        refine AllReadyH.cons (o := { dst := none, op := Op.store 29 (Operand.tmp 3) (Operand.tmp 22), type := 0, pos := "l07_window.go:35", after := #[{ on := 19, ground := Ground.data }, { on := 18, ground := Ground.data }, { on := 6, ground := Ground.chain }, { on := 0, ground := Ground.phase }, { on := 1, ground := Ground.phase }, { on := 2, ground := Ground.phase }, { on := 3, ground := Ground.phase }, { on := 4, ground := Ground.phase }, { on := 5, ground := Ground.phase }, { on := 6, ground := Ground.phase }, { on := 7, ground := Ground.phase }, { on := 8, ground := Ground.phase }, { on := 9, ground := Ground.phase }, { on := 10, ground := Ground.phase }, { on := 11, ground := Ground.phase }, { on := 12, ground := Ground.phase }, { on := 13, ground := Ground.phase }, { on := 14, ground := Ground.phase }, { on := 15, ground := Ground.phase }, { on := 16, ground := Ground.phase }, { on := 17, ground := Ground.phase }, { on := 18, ground := Ground.phase }, { on := 19, ground := Ground.phase }], guard := none }) rfl (fun K hK => ?_) AllReadyH.nil
        obtain ⟨⟨vl, vcs⟩, vfs⟩ := hvq1
        have y0 : q1.cell? ⟨VB, 0, none⟩ = some (.string ⟨#[]⟩) := vcs 0 (by simp)
        have f0 := vfs 0 (by simp)
        have y1 : q1.cell? ⟨VB, 1, none⟩ = some (.string ⟨#[]⟩) := vcs 1 (by simp)
        have f1 := vfs 1 (by simp)
        have y2 : q1.cell? ⟨VB, 2, none⟩ = some (.int .i64 0) := vcs 2 (by simp)
        have f2 := vfs 2 (by simp)
        have y3 : q1.cell? ⟨VB, 3, none⟩ = some (.int .i64 0) := vcs 3 (by simp)
        have f3 := vfs 3 (by simp)
        have y4 : q1.cell? ⟨VB, 4, none⟩ = some (.int .i64 0) := vcs 4 (by simp)
        have f4 := vfs 4 (by simp)
        have y5 : q1.cell? ⟨VB, 5, none⟩ = some (.int .i64 0) := vcs 5 (by simp)
        have f5 := vfs 5 (by simp)
        have y6 : q1.cell? ⟨VB, 6, none⟩ = some (.slice none 0 0) := vcs 6 (by simp)
        have f6 := vfs 6 (by simp)
        have y7 : q1.cell? ⟨VB, 7, none⟩ = some (.slice none 0 0) := vcs 7 (by simp)
        have f7 := vfs 7 (by simp)
        go_simp
        try go_wp2_with fail
        have hno : ∀ b off, (some ⟨HB, 0, none⟩ : Option Addr) = some ⟨b, off, none⟩ → b ≠ VB := fun b off e => by simp at e; omega
        have hks := (UOx.put (B := w.heap.size) (W0 := W0) (a := a) (m := m) (n := n) (k := k) (UOx.put (B := w.heap.size) (W0 := W0) (a := a) (m := m) (n := n) (k := k) (UOx.put (B := w.heap.size) (W0 := W0) (a := a) (m := m) (n := n) (k := k) (UOx.put (B := w.heap.size) (W0 := W0) (a := a) (m := m) (n := n) (k := k) (UOx.put (B := w.heap.size) (W0 := W0) (a := a) (m := m) (n := n) (k := k) (UOx.put (B := w.heap.size) (W0 := W0) (a := a) (m := m) (n := n) (k := k) (UOx.put (B := w.heap.size) (W0 := W0) (a := a) (m := m) (n := n) (k := k) (UOx.put (B := w.heap.size) (W0 := W0) (a := a) (m := m) (n := n) (k := k) hkq1 VB 0 (.string a) hvb) VB 1 (.string m) hvb) VB 2 (.int .i64 mo) hvb) VB 3 (.int .i64 1) hvb) VB 4 (.int .i64 k) hvb) VB 5 (.int .i64 k) hvb) VB 6 (.slice none 0 0) hvb) VB 7 (.slice (some ⟨HB, 0, none⟩) 1 1) hvb)
        have hvs := (BlkW.set (BlkW.set (BlkW.set (BlkW.set (BlkW.set (BlkW.set (BlkW.set (BlkW.set (⟨⟨vl, vcs⟩, vfs⟩ : BlkW VB [.string ⟨#[]⟩, .string ⟨#[]⟩, .int .i64 0, .int .i64 0, .int .i64 0, .int .i64 0, .slice none 0 0, .slice none 0 0] q1) 0 (.string a) (by simp)) 1 (.string m) (by simp)) 2 (.int .i64 mo) (by simp)) 3 (.int .i64 1) (by simp)) 4 (.int .i64 k) (by simp)) 5 (.int .i64 k) (by simp)) 6 (.slice none 0 0) (by simp)) 7 (.slice (some ⟨HB, 0, none⟩) 1 1) (by simp))
        have hrs := (Hrs.put (Hrs.put (Hrs.put (Hrs.put (Hrs.put (Hrs.put (Hrs.put (Hrs.put hrq1 VB 0 (.string a) hno) VB 1 (.string m) hno) VB 2 (.int .i64 mo) hno) VB 3 (.int .i64 1) hno) VB 4 (.int .i64 k) hno) VB 5 (.int .i64 k) hno) VB 6 (.slice none 0 0) hno) VB 7 (.slice (some ⟨HB, 0, none⟩) 1 1) hno)
        refine hK.out _ _ hks (fun _ => ?_)
        clear hK K
        try simp only [Act.put, List.setIfInBounds_toArray, List.set_cons_zero, List.set_cons_succ]
        refine wpAnyH_done (by kernel_rfl) ?_ _
        have HBF := hid_intro hks.1
        have HVF := hid_intro hvs
        have HRF := hid_intro hrs
        clear hks hvs hrs y0 y1 y2 y3 y4 y5 y6 y7 f0 f1 f2 f3 f4 f5 f6 f7 vcs vfs hno
        go_wp2_with fail
        go_meet
        case rel => exact ⟨VB, HB, rfl, hvb, hhb, hne, HBF, HVF, HRF⟩
  case rest =>
    obtain ⟨V, HB, rfl, hV, hHB, hne, HB1, HV1, HR1⟩ := hcut
    obtain ⟨W1, hW1⟩ : ∃ W1, W1 = wc := ⟨_, rfl⟩
    subst hW1
    have HX1 := hid_intro (HX0.out.below HB1.out)
    have HY1 := hid_intro (HY0.out.below HB1.out)
    have HB2 := hid_intro (HB0.out.trans (HB1.out.mono HB0.out.size))
    have hRV : w.heap.size + 1 < V := by have := HWS.out; omega
    have hRH : w.heap.size + 1 < HB := by have := HWS.out; omega
    clear HS0 HW0 HX0 HY0
    have x5 : W1.cell? ⟨w.heap.size, 5, none⟩ = some (.string t) := HX1.out.2 5 (by simp)
    have xl := HX1.out.1
    go_upto_if 25 with fail
    go_cut [] from 23 to 29 (fun wx => ∃ ta tc, (ts.length = 0 ∨ ∀ b off, ta = some ⟨b, off, none⟩ → w.heap.size + 1 < b) ∧ Hid (Below w.heap.size w wx) ∧ Hid (BlkW V [.string a, .string m, .int .i64 mo, .int .i64 1, .int .i64 k, .int .i64 k, .slice ta tl tc, .slice (some ⟨HB, 0, none⟩) 1 1] wx) ∧ Hid (BlkW (w.heap.size + 1) [.string ⟨#[]⟩, .string ⟨#[]⟩, .int .i64 0, .int .i64 0, .int .i64 0, .int .i64 0, .slice none 0 0, .slice none 0 0] wx) ∧ Hid (Tgs ta ts wx) ∧ Hid (Hrs (some ⟨HB, 0, none⟩) [⟨hq, k⟩] wx))
    case first =>
      have hVl := HV1.out.1.1
      have v6 : W1.cell? ⟨V, 6, none⟩ = some (.slice none 0 0) := HV1.out.1.2 6 (by simp)
      have f6 : W1.frozen? ⟨V, 6, none⟩ = false := HV1.out.2 6 (by simp)
      go_wp2_with fail
      · rename_i hh
        have ht : ¬ t.size = 0 := fun e => by rw [empty_of t e] at hh; simp at hh
        have hts := HT1.out ht
        have h0 : tl = 1 := by rw [HTL.out, hts]; rfl
        subst h0
        obtain ⟨Wq, hWq⟩ : ∃ Wq, Wq = W1.setCell ⟨V, 6, none⟩ (.slice (some ⟨W1.heap.size, 0, none⟩) 1 1) := ⟨_, rfl⟩
        have hsz : Wq.heap.size = W1.heap.size := by rw [hWq]; simp
        have hbl := (Below.refl Wq.heap.size Wq).alloc (Nat.le_refl _) (.cells #[.string t] 9)
        have hg : Tgs (some ⟨W1.heap.size, 0, none⟩) ts (Wq.alloc (.cells #[.string t] 9)) := by
          have h := tgs_one t Wq 9
          rw [hsz] at h
          rw [hts]
          exact h
        have hn : ∀ b off, (some ⟨W1.heap.size, 0, none⟩ : Option Addr) = some ⟨b, off, none⟩ → b ≠ V := fun b off e => by simp at e; omega
        have hn2 : ∀ b off, (some ⟨W1.heap.size, 0, none⟩ : Option Addr) = some ⟨b, off, none⟩ → w.heap.size + 1 < b := fun b off e => by simp at e; omega
        have hn3 : ∀ b off, (some ⟨HB, 0, none⟩ : Option Addr) = some ⟨b, off, none⟩ → b ≠ V := fun b off e => by simp at e; omega
        have hr5 := Hrs.put HR1.out V 6 (.slice (some ⟨W1.heap.size, 0, none⟩) 1 1) hn3
        have hy5 := HY1.out.other V 6 (.slice (some ⟨W1.heap.size, 0, none⟩) 1 1) (by omega)
        have hv5 := HV1.out.set 6 (.slice (some ⟨W1.heap.size, 0, none⟩) 1 1) (by simp)
        have hb5 := HB2.out.setCell (p := ⟨V, 6, none⟩) (by show w.heap.size ≤ V; omega) (.slice (some ⟨W1.heap.size, 0, none⟩) 1 1)
        rw [← hWq] at hr5 hy5 hv5 hb5
        have HR5 := hid_intro (hr5.below hbl)
        have HY5 := hid_intro (hy5.below hbl)
        have HV5 := hid_intro (hv5.below hbl)
        have HB5 := hid_intro (hb5.trans (hbl.mono hb5.size))
        have HG5 := hid_intro hg
        rw [hWq] at HR5 HY5 HV5 HB5 HG5
        clear hr5 hy5 hv5 hb5 hsz hWq
        clear hbl hg
        go_meet
        case rel => exact ⟨_, 1, .inr hn2, HB5, HV5, HY5, HG5, HR5⟩
      · rename_i hh
        have ht : t.size = 0 := by
          by_cases e : t.size = 0
          · exact e
          · rw [(full_of t e).2] at hh; simp at hh
        have hts := HT0.out ht
        have h0 : tl = 0 := by rw [HTL.out, hts]; rfl
        have HG : Hid (Tgs none ts W1) := hid_intro (by rw [hts]; exact .inl rfl)
        have hl0 : ts.length = 0 := by rw [hts]; rfl
        subst h0
        go_meet
        case rel => exact ⟨none, 0, .inl hl0, HB2, HV1, HY1, HG, HR1⟩
    case rest =>
      obtain ⟨ta, tc, hn1, HB5, HV5, HY5, HG5, HR5⟩ := hcut
      have HN1 := hid_intro hn1
      clear hn1 x5 xl HB1 HV1 HR1 HX1 HY1 HB2
      obtain ⟨⟨vl, vk⟩, vf⟩ := HV5.out
      have v0 : wc.cell? ⟨V, 0, none⟩ = some (.string a) := vk 0 (by simp)
      have v1 : wc.cell? ⟨V, 1, none⟩ = some (.string m) := vk 1 (by simp)
      have v2 : wc.cell? ⟨V, 2, none⟩ = some (.int .i64 mo) := vk 2 (by simp)
      have v3 : wc.cell? ⟨V, 3, none⟩ = some (.int .i64 1) := vk 3 (by simp)
      have v4 : wc.cell? ⟨V, 4, none⟩ = some (.int .i64 k) := vk 4 (by simp)
      have v5 : wc.cell? ⟨V, 5, none⟩ = some (.int .i64 k) := vk 5 (by simp)
      have v6 : wc.cell? ⟨V, 6, none⟩ = some (.slice ta tl tc) := vk 6 (by simp)
      have v7 : wc.cell? ⟨V, 7, none⟩ = some (.slice (some ⟨HB, 0, none⟩) 1 1) := vk 7 (by simp)
      obtain ⟨⟨yl, yk⟩, yf⟩ := HY5.out
      have y0 : wc.cell? ⟨w.heap.size + 1, 0, none⟩ = some (.string ⟨#[]⟩) := yk 0 (by simp)
      have q0 : wc.frozen? ⟨w.heap.size + 1, 0, none⟩ = false := yf 0 (by simp)
      have y1 : wc.cell? ⟨w.heap.size + 1, 1, none⟩ = some (.string ⟨#[]⟩) := yk 1 (by simp)
      have q1 : wc.frozen? ⟨w.heap.size + 1, 1, none⟩ = false := yf 1 (by simp)
      have y2 : wc.cell? ⟨w.heap.size + 1, 2, none⟩ = some (.int .i64 0) := yk 2 (by simp)
      have q2 : wc.frozen? ⟨w.heap.size + 1, 2, none⟩ = false := yf 2 (by simp)
      have y3 : wc.cell? ⟨w.heap.size + 1, 3, none⟩ = some (.int .i64 0) := yk 3 (by simp)
      have q3 : wc.frozen? ⟨w.heap.size + 1, 3, none⟩ = false := yf 3 (by simp)
      have y4 : wc.cell? ⟨w.heap.size + 1, 4, none⟩ = some (.int .i64 0) := yk 4 (by simp)
      have q4 : wc.frozen? ⟨w.heap.size + 1, 4, none⟩ = false := yf 4 (by simp)
      have y5 : wc.cell? ⟨w.heap.size + 1, 5, none⟩ = some (.int .i64 0) := yk 5 (by simp)
      have q5 : wc.frozen? ⟨w.heap.size + 1, 5, none⟩ = false := yf 5 (by simp)
      have y6 : wc.cell? ⟨w.heap.size + 1, 6, none⟩ = some (.slice none 0 0) := yk 6 (by simp)
      have q6 : wc.frozen? ⟨w.heap.size + 1, 6, none⟩ = false := yf 6 (by simp)
      have y7 : wc.cell? ⟨w.heap.size + 1, 7, none⟩ = some (.slice none 0 0) := yk 7 (by simp)
      have q7 : wc.frozen? ⟨w.heap.size + 1, 7, none⟩ = false := yf 7 (by simp)
      clear yk yf vk vf HY5 HV5
      have hn3 : ∀ b off, (some ⟨HB, 0, none⟩ : Option Addr) = some ⟨b, off, none⟩ → b ≠ w.heap.size + 1 := fun b off e => by simp at e; omega
      have HN3 := hid_intro hn3
      clear hn3
      go_wp2_with fail
      refine bodyPost_ret (v := .agg #[.string a, .string m, .int .i64 mo, .int .i64 1, .int .i64 k, .int .i64 k, .slice ta tl tc, .slice (some ⟨HB, 0, none⟩) 1 1]) (by simp [results, Tryd.results45, go_sem, y0, y1, y2, y3, y4, y5, y6, y7]) rfl ⟨_, rfl, ⟨ta, tc, some ⟨HB, 0, none⟩, 1, by simp only [wcells, ← HTL.out, List.length_cons, List.length_nil, Nat.zero_add], ?_, ?_, HN1.out.imp id (fun h b off e => by have := h b off e; omega), .inr (fun b off e => by simp at e; omega)⟩, ?_⟩
      · have hn : ts.length = 0 ∨ ∀ b off, ta = some ⟨b, off, none⟩ → b ≠ w.heap.size + 1 := HN1.out.imp id (fun h b off e => by have := h b off e; omega)
        exact (Tgs.put (Tgs.put (Tgs.put (Tgs.put (Tgs.put (Tgs.put (Tgs.put (Tgs.put HG5.out (w.heap.size + 1) 0 (.string a) hn) (w.heap.size + 1) 1 (.string m) hn) (w.heap.size + 1) 2 (.int .i64 mo) hn) (w.heap.size + 1) 3 (.int .i64 1) hn) (w.heap.size + 1) 4 (.int .i64 k) hn) (w.heap.size + 1) 5 (.int .i64 k) hn) (w.heap.size + 1) 6 (.slice ta tl tc) hn) (w.heap.size + 1) 7 (.slice (some ⟨HB, 0, none⟩) 1 1) hn)
      · have hn := HN3.out
        exact (Hrs.put (Hrs.put (Hrs.put (Hrs.put (Hrs.put (Hrs.put (Hrs.put (Hrs.put HR5.out (w.heap.size + 1) 0 (.string a) hn) (w.heap.size + 1) 1 (.string m) hn) (w.heap.size + 1) 2 (.int .i64 mo) hn) (w.heap.size + 1) 3 (.int .i64 1) hn) (w.heap.size + 1) 4 (.int .i64 k) hn) (w.heap.size + 1) 5 (.int .i64 k) hn) (w.heap.size + 1) 6 (.slice ta tl tc) hn) (w.heap.size + 1) 7 (.slice (some ⟨HB, 0, none⟩) 1 1) hn)
      · have hb2 : w.heap.size ≤ w.heap.size + 1 := Nat.le_succ _
        exact ((((((((HB5.out.setCell (hb2) _).setCell (hb2) _).setCell (hb2) _).setCell (hb2) _).setCell (hb2) _).setCell (hb2) _).setCell (hb2) _).setCell (hb2) _)
/-- The zero window. -/
def wz : Wd := ⟨⟨#[]⟩, ⟨#[]⟩, 0, 0, 0, 0, [], []⟩
theorem wz_made (base : Nat) (w : World) : MadeW base wz (.agg #[.string ⟨#[]⟩, .string ⟨#[]⟩, .int .i64 0, .int .i64 0, .int .i64 0, .int .i64 0, .slice none 0 0, .slice none 0 0]) w :=
  ⟨none, 0, none, 0, rfl, ⟨.inl rfl, .inl rfl⟩, ⟨.inl rfl, .inl rfl⟩, .inl rfl⟩
theorem wz_new (base : Nat) (w : World) : NewW base wz (.agg #[.string ⟨#[]⟩, .string ⟨#[]⟩, .int .i64 0, .int .i64 0, .int .i64 0, .int .i64 0, .slice none 0 0, .slice none 0 0]) w :=
  ⟨none, 0, none, 0, rfl, .inl rfl, .inl rfl, .inl rfl, .inl rfl⟩
set_option maxRecDepth 100000 in
set_option maxHeartbeats 4000000 in
theorem of_no_s (i a m t : ByteArray) (n k : Int) (w : World) (li : i.size ≤ 1048576) (la : a.size ≤ 1048576) (lm : m.size ≤ 1048576) (lt : t.size ≤ 1048576) (hev : evB i a m n k t = false) :
    Calls Tryd.prog 46 #[ev i a m n k t] w fun e w' => ∃ v, e = .returned v ∧ MadeWS w.heap.size wz v w' ∧ Below w.heap.size w w' := by
  have HE := hid_intro (fun w => EvtR.impl_event i a m n k t li la lm lt w)
  rw [hev] at HE
  clear hev
  unfold ev
  have HB0 : Hid (Below w.heap.size w ((w.alloc (.cells #[.string i, .string a, .string m, .int .i64 n, .int .i64 k, .string t] 43)).alloc (.cells #[.string ⟨#[]⟩, .string ⟨#[]⟩, .int .i64 0, .int .i64 0, .int .i64 0, .int .i64 0, .slice none 0 0, .slice none 0 0] 29))) := hid_intro (((Below.refl _ _).alloc (Nat.le_refl _) _).alloc (by simp) _)
  have HY0 := hid_intro (BlkW.new (w.alloc (.cells #[.string i, .string a, .string m, .int .i64 n, .int .i64 k, .string t] 43)) [.string ⟨#[]⟩, .string ⟨#[]⟩, .int .i64 0, .int .i64 0, .int .i64 0, .int .i64 0, .slice none 0 0, .slice none 0 0] 29)
  rw [show (w.alloc (.cells #[.string i, .string a, .string m, .int .i64 n, .int .i64 k, .string t] 43)).heap.size = w.heap.size + 1 by simp] at HY0
  go_enter Tryd.func46, Tryd.ntmps46
  go_wp2_with fail
  refine (HE.out _).mono ?_
  rintro e w5 ⟨rfl, hb1⟩
  have HY1 := hid_intro (HY0.out.below hb1)
  have HB5 := hid_intro (HB0.out.trans (hb1.mono HB0.out.size))
  clear HY0 HB0 hb1
  obtain ⟨⟨yl, yk⟩, yf⟩ := HY1.out
  have y0 : w5.cell? ⟨w.heap.size + 1, 0, none⟩ = some (.string ⟨#[]⟩) := yk 0 (by simp)
  have q0 : w5.frozen? ⟨w.heap.size + 1, 0, none⟩ = false := yf 0 (by simp)
  have y1 : w5.cell? ⟨w.heap.size + 1, 1, none⟩ = some (.string ⟨#[]⟩) := yk 1 (by simp)
  have q1 : w5.frozen? ⟨w.heap.size + 1, 1, none⟩ = false := yf 1 (by simp)
  have y2 : w5.cell? ⟨w.heap.size + 1, 2, none⟩ = some (.int .i64 0) := yk 2 (by simp)
  have q2 : w5.frozen? ⟨w.heap.size + 1, 2, none⟩ = false := yf 2 (by simp)
  have y3 : w5.cell? ⟨w.heap.size + 1, 3, none⟩ = some (.int .i64 0) := yk 3 (by simp)
  have q3 : w5.frozen? ⟨w.heap.size + 1, 3, none⟩ = false := yf 3 (by simp)
  have y4 : w5.cell? ⟨w.heap.size + 1, 4, none⟩ = some (.int .i64 0) := yk 4 (by simp)
  have q4 : w5.frozen? ⟨w.heap.size + 1, 4, none⟩ = false := yf 4 (by simp)
  have y5 : w5.cell? ⟨w.heap.size + 1, 5, none⟩ = some (.int .i64 0) := yk 5 (by simp)
  have q5 : w5.frozen? ⟨w.heap.size + 1, 5, none⟩ = false := yf 5 (by simp)
  have y6 : w5.cell? ⟨w.heap.size + 1, 6, none⟩ = some (.slice none 0 0) := yk 6 (by simp)
  have q6 : w5.frozen? ⟨w.heap.size + 1, 6, none⟩ = false := yf 6 (by simp)
  have y7 : w5.cell? ⟨w.heap.size + 1, 7, none⟩ = some (.slice none 0 0) := yk 7 (by simp)
  have q7 : w5.frozen? ⟨w.heap.size + 1, 7, none⟩ = false := yf 7 (by simp)
  clear yk yf HY1
  go_wp2_with fail
  refine bodyPost_ret (v := .agg #[.string ⟨#[]⟩, .string ⟨#[]⟩, .int .i64 0, .int .i64 0, .int .i64 0, .int .i64 0, .slice none 0 0, .slice none 0 0]) (by simp [results, Tryd.results46, go_sem, y0, y1, y2, y3, y4, y5, y6, y7]) rfl ⟨_, rfl, ⟨wz_made _ _, _, _, _, _, _, _, _, _, _, _, _, _, rfl, .inl ⟨rfl, rfl, rfl⟩, .inl ⟨rfl, rfl, rfl⟩⟩, ?_⟩
  have hb2 : w.heap.size ≤ w.heap.size + 1 := Nat.le_succ _
  exact ((((((((HB5.out.setCell (hb2) _).setCell (hb2) _).setCell (hb2) _).setCell (hb2) _).setCell (hb2) _).setCell (hb2) _).setCell (hb2) _).setCell (hb2) _)
theorem of_no (i a m t : ByteArray) (n k : Int) (w : World) (li : i.size ≤ 1048576) (la : a.size ≤ 1048576) (lm : m.size ≤ 1048576) (lt : t.size ≤ 1048576) (hev : evB i a m n k t = false) :
    Calls Tryd.prog 46 #[ev i a m n k t] w fun e w' => ∃ v, e = .returned v ∧ MadeW w.heap.size wz v w' ∧ Below w.heap.size w w' := by
  refine (of_no_s i a m t n k w li la lm lt hev).mono ?_
  rintro e w' ⟨v, rfl, hm, hb⟩
  exact ⟨v, rfl, hm.1, hb⟩
set_option maxRecDepth 100000 in
set_option maxHeartbeats 4000000 in
theorem sof_any (i a m t : ByteArray) (n k : Int) (x : Wd) (w : World) (li : i.size ≤ 1048576) (la : a.size ≤ 1048576) (lm : m.size ≤ 1048576) (lt : t.size ≤ 1048576) (hx : (evB i a m n k t = false ∧ x = wz) ∨ (evB i a m n k t = true ∧ ∀ w, Calls Tryd.prog 45 #[ev i a m n k t] w fun e w' => ∃ v, e = .returned v ∧ NewW w.heap.size x v w' ∧ Below w.heap.size w w')) :
    Calls Tryd.prog 89 #[ev i a m n k t] w fun e w' => ∃ v, e = .returned v ∧ NewW w.heap.size x v w' ∧ Below w.heap.size w w' := by
  have HE := hid_intro (fun w => EvtR.spec_event i a m n k t li la lm lt w)
  unfold ev at *
  have HB0 : Hid (Below w.heap.size w ((w.alloc (.cells #[.string i, .string a, .string m, .int .i64 n, .int .i64 k, .string t] 43)).alloc (.cells #[.string ⟨#[]⟩, .string ⟨#[]⟩, .int .i64 0, .int .i64 0, .int .i64 0, .int .i64 0, .slice none 0 0, .slice none 0 0] 29))) := hid_intro (((Below.refl _ _).alloc (Nat.le_refl _) _).alloc (by simp) _)
  have HX0 := hid_intro ((Blk.new w [.string i, .string a, .string m, .int .i64 n, .int .i64 k, .string t] 43).below ((Below.refl _ _).alloc (Nat.le_refl _) (Obj.cells #[.string ⟨#[]⟩, .string ⟨#[]⟩, .int .i64 0, .int .i64 0, .int .i64 0, .int .i64 0, .slice none 0 0, .slice none 0 0] 29)))
  have HY0 := hid_intro (BlkW.new (w.alloc (.cells #[.string i, .string a, .string m, .int .i64 n, .int .i64 k, .string t] 43)) [.string ⟨#[]⟩, .string ⟨#[]⟩, .int .i64 0, .int .i64 0, .int .i64 0, .int .i64 0, .slice none 0 0, .slice none 0 0] 29)
  rw [show (w.alloc (.cells #[.string i, .string a, .string m, .int .i64 n, .int .i64 k, .string t] 43)).heap.size = w.heap.size + 1 by simp] at HY0
  rcases hx with ⟨hev, rfl⟩ | ⟨hev, hs⟩
  · rw [hev] at HE
    clear hev
    go_enter Tryd.func89, Tryd.ntmps89
    go_wp2_with fail
    refine (HE.out _).mono ?_
    rintro e w5 ⟨rfl, hb1⟩
    have HY1 := hid_intro (HY0.out.below hb1)
    have HB5 := hid_intro (HB0.out.trans (hb1.mono HB0.out.size))
    clear HY0 HB0 hb1
    obtain ⟨⟨yl, yk⟩, yf⟩ := HY1.out
    have y0 : w5.cell? ⟨w.heap.size + 1, 0, none⟩ = some (.string ⟨#[]⟩) := yk 0 (by simp)
    have q0 : w5.frozen? ⟨w.heap.size + 1, 0, none⟩ = false := yf 0 (by simp)
    have y1 : w5.cell? ⟨w.heap.size + 1, 1, none⟩ = some (.string ⟨#[]⟩) := yk 1 (by simp)
    have q1 : w5.frozen? ⟨w.heap.size + 1, 1, none⟩ = false := yf 1 (by simp)
    have y2 : w5.cell? ⟨w.heap.size + 1, 2, none⟩ = some (.int .i64 0) := yk 2 (by simp)
    have q2 : w5.frozen? ⟨w.heap.size + 1, 2, none⟩ = false := yf 2 (by simp)
    have y3 : w5.cell? ⟨w.heap.size + 1, 3, none⟩ = some (.int .i64 0) := yk 3 (by simp)
    have q3 : w5.frozen? ⟨w.heap.size + 1, 3, none⟩ = false := yf 3 (by simp)
    have y4 : w5.cell? ⟨w.heap.size + 1, 4, none⟩ = some (.int .i64 0) := yk 4 (by simp)
    have q4 : w5.frozen? ⟨w.heap.size + 1, 4, none⟩ = false := yf 4 (by simp)
    have y5 : w5.cell? ⟨w.heap.size + 1, 5, none⟩ = some (.int .i64 0) := yk 5 (by simp)
    have q5 : w5.frozen? ⟨w.heap.size + 1, 5, none⟩ = false := yf 5 (by simp)
    have y6 : w5.cell? ⟨w.heap.size + 1, 6, none⟩ = some (.slice none 0 0) := yk 6 (by simp)
    have q6 : w5.frozen? ⟨w.heap.size + 1, 6, none⟩ = false := yf 6 (by simp)
    have y7 : w5.cell? ⟨w.heap.size + 1, 7, none⟩ = some (.slice none 0 0) := yk 7 (by simp)
    have q7 : w5.frozen? ⟨w.heap.size + 1, 7, none⟩ = false := yf 7 (by simp)
    clear yk yf HY1
    go_wp2_with fail
    refine bodyPost_ret (v := .agg #[.string ⟨#[]⟩, .string ⟨#[]⟩, .int .i64 0, .int .i64 0, .int .i64 0, .int .i64 0, .slice none 0 0, .slice none 0 0]) (by simp [results, Tryd.results89, go_sem, y0, y1, y2, y3, y4, y5, y6, y7]) rfl ⟨_, rfl, wz_new _ _, ?_⟩
    have hb2 : w.heap.size ≤ w.heap.size + 1 := Nat.le_succ _
    exact ((((((((HB5.out.setCell (hb2) _).setCell (hb2) _).setCell (hb2) _).setCell (hb2) _).setCell (hb2) _).setCell (hb2) _).setCell (hb2) _).setCell (hb2) _)
  · rw [hev] at HE
    have HS := hid_intro hs
    clear hev hs
    go_enter Tryd.func89, Tryd.ntmps89
    go_wp2_with fail
    refine (HE.out _).mono ?_
    rintro e w1 ⟨rfl, hb1⟩
    have HX1 := hid_intro (HX0.out.below hb1)
    have HY1 := hid_intro (HY0.out.below hb1)
    have HB1 := hid_intro (HB0.out.trans (hb1.mono HB0.out.size))
    clear HX0 HY0 HB0 hb1
    obtain ⟨xl, xc⟩ := HX1.out
    have x0 : w1.cell? ⟨w.heap.size, 0, none⟩ = some (.string i) := xc 0 (by simp)
    have x1 : w1.cell? ⟨w.heap.size, 1, none⟩ = some (.string a) := xc 1 (by simp)
    have x2 : w1.cell? ⟨w.heap.size, 2, none⟩ = some (.string m) := xc 2 (by simp)
    have x3 : w1.cell? ⟨w.heap.size, 3, none⟩ = some (.int .i64 n) := xc 3 (by simp)
    have x4 : w1.cell? ⟨w.heap.size, 4, none⟩ = some (.int .i64 k) := xc 4 (by simp)
    have x5 : w1.cell? ⟨w.heap.size, 5, none⟩ = some (.string t) := xc 5 (by simp)
    clear xc
    go_wp2_with fail
    refine (HS.out _).mono ?_
    rintro e w5 ⟨v, rfl, ⟨ta', tc', ha', hc', rfl, hm1, hm2, hl1, hl2⟩, hb5⟩
    have HM1 := hid_intro hm1
    have HM2 := hid_intro hm2
    have HY5 := hid_intro (HY1.out.below hb5)
    have HB5 := hid_intro (HB1.out.trans (hb5.mono HB1.out.size))
    have hwl : w.heap.size + 1 < w1.heap.size := HY1.out.1.1
    have HN1 : Hid (x.ts.length = 0 ∨ ∀ b off, ta' = some ⟨b, off, none⟩ → b ≠ w.heap.size + 1) := hid_intro (hl1.imp id (fun h b off e => by have := h b off e; omega))
    have HN2 : Hid (x.hs.length = 0 ∨ ∀ b off, ha' = some ⟨b, off, none⟩ → b ≠ w.heap.size + 1) := hid_intro (hl2.imp id (fun h b off e => by have := h b off e; omega))
    have HL1 : Hid (x.ts.length = 0 ∨ ∀ b off, ta' = some ⟨b, off, none⟩ → w.heap.size ≤ b) := hid_intro (hl1.imp id (fun h b off e => by have := h b off e; omega))
    have HL2 : Hid (x.hs.length = 0 ∨ ∀ b off, ha' = some ⟨b, off, none⟩ → w.heap.size ≤ b) := hid_intro (hl2.imp id (fun h b off e => by have := h b off e; omega))
    clear x0 x1 x2 x3 x4 x5 xl hm1 hm2 hl1 hl2 hb5 HX1 HY1 HB1
    simp only [wcells]
    obtain ⟨⟨yl, yk⟩, yf⟩ := HY5.out
    have y0 : w5.cell? ⟨w.heap.size + 1, 0, none⟩ = some (.string ⟨#[]⟩) := yk 0 (by simp)
    have q0 : w5.frozen? ⟨w.heap.size + 1, 0, none⟩ = false := yf 0 (by simp)
    have y1 : w5.cell? ⟨w.heap.size + 1, 1, none⟩ = some (.string ⟨#[]⟩) := yk 1 (by simp)
    have q1 : w5.frozen? ⟨w.heap.size + 1, 1, none⟩ = false := yf 1 (by simp)
    have y2 : w5.cell? ⟨w.heap.size + 1, 2, none⟩ = some (.int .i64 0) := yk 2 (by simp)
    have q2 : w5.frozen? ⟨w.heap.size + 1, 2, none⟩ = false := yf 2 (by simp)
    have y3 : w5.cell? ⟨w.heap.size + 1, 3, none⟩ = some (.int .i64 0) := yk 3 (by simp)
    have q3 : w5.frozen? ⟨w.heap.size + 1, 3, none⟩ = false := yf 3 (by simp)
    have y4 : w5.cell? ⟨w.heap.size + 1, 4, none⟩ = some (.int .i64 0) := yk 4 (by simp)
    have q4 : w5.frozen? ⟨w.heap.size + 1, 4, none⟩ = false := yf 4 (by simp)
    have y5 : w5.cell? ⟨w.heap.size + 1, 5, none⟩ = some (.int .i64 0) := yk 5 (by simp)
    have q5 : w5.frozen? ⟨w.heap.size + 1, 5, none⟩ = false := yf 5 (by simp)
    have y6 : w5.cell? ⟨w.heap.size + 1, 6, none⟩ = some (.slice none 0 0) := yk 6 (by simp)
    have q6 : w5.frozen? ⟨w.heap.size + 1, 6, none⟩ = false := yf 6 (by simp)
    have y7 : w5.cell? ⟨w.heap.size + 1, 7, none⟩ = some (.slice none 0 0) := yk 7 (by simp)
    have q7 : w5.frozen? ⟨w.heap.size + 1, 7, none⟩ = false := yf 7 (by simp)
    clear yk yf HY5
    go_wp2_with fail
    refine bodyPost_ret (v := .agg #[.string x.a, .string x.m, .int .i64 x.mo, .int .i64 x.ev, .int .i64 x.su, .int .i64 x.mx, .slice ta' x.ts.length tc', .slice ha' x.hs.length hc']) (by simp [results, Tryd.results89, go_sem, y0, y1, y2, y3, y4, y5, y6, y7]) rfl ⟨_, rfl, ⟨ta', tc', ha', hc', rfl, ?_, ?_, HL1.out, HL2.out⟩, ?_⟩
    · have hn := HN1.out
      exact (Tgs.put (Tgs.put (Tgs.put (Tgs.put (Tgs.put (Tgs.put (Tgs.put (Tgs.put HM1.out (w.heap.size + 1) 0 (.string x.a) hn) (w.heap.size + 1) 1 (.string x.m) hn) (w.heap.size + 1) 2 (.int .i64 x.mo) hn) (w.heap.size + 1) 3 (.int .i64 x.ev) hn) (w.heap.size + 1) 4 (.int .i64 x.su) hn) (w.heap.size + 1) 5 (.int .i64 x.mx) hn) (w.heap.size + 1) 6 (.slice ta' x.ts.length tc') hn) (w.heap.size + 1) 7 (.slice ha' x.hs.length hc') hn)
    · have hn := HN2.out
      exact (Rws.put (Rws.put (Rws.put (Rws.put (Rws.put (Rws.put (Rws.put (Rws.put HM2.out (w.heap.size + 1) 0 (.string x.a) hn) (w.heap.size + 1) 1 (.string x.m) hn) (w.heap.size + 1) 2 (.int .i64 x.mo) hn) (w.heap.size + 1) 3 (.int .i64 x.ev) hn) (w.heap.size + 1) 4 (.int .i64 x.su) hn) (w.heap.size + 1) 5 (.int .i64 x.mx) hn) (w.heap.size + 1) 6 (.slice ta' x.ts.length tc') hn) (w.heap.size + 1) 7 (.slice ha' x.hs.length hc') hn)
    · have hb2 : w.heap.size ≤ w.heap.size + 1 := Nat.le_succ _
      exact ((((((((HB5.out.setCell (hb2) _).setCell (hb2) _).setCell (hb2) _).setCell (hb2) _).setCell (hb2) _).setCell (hb2) _).setCell (hb2) _).setCell (hb2) _)
theorem of_both (i a m t : ByteArray) (n k : Int) (li : i.size ≤ 1048576) (la : a.size ≤ 1048576) (lm : m.size ≤ 1048576) (lt : t.size ≤ 1048576) :
    ∃ x : Wd, x.ts.length ≤ 1048576 ∧ x.hs.length ≤ 1048576 ∧ (∀ w, Laid w → Calls Tryd.prog 46 #[ev i a m n k t] w fun e w' => ∃ v, e = .returned v ∧ MadeW w.heap.size x v w' ∧ Below w.heap.size w w') ∧ (∀ w, Calls Tryd.prog 89 #[ev i a m n k t] w fun e w' => ∃ v, e = .returned v ∧ NewW w.heap.size x v w' ∧ Below w.heap.size w w') := by
  cases hev : evB i a m n k t
  · exact ⟨wz, by simp [wz], by simp [wz], fun w hL => of_no i a m t n k w li la lm lt hev, fun w => sof_any i a m t n k wz w li la lm lt (.inl ⟨hev, rfl⟩)⟩
  · have h := hev
    unfold evB at h
    simp only [Bool.and_eq_true, decide_eq_true_eq] at h
    obtain ⟨_, _, _, ⟨n1, n2⟩, _⟩ := h
    obtain ⟨K, _, _, _, hi, hs⟩ := month_two n n1 n2
    refine ⟨⟨a, m, K, 1, k, k, tgl t, [⟨HourR.hourV n, k⟩]⟩, ?_, by simp, fun w hL => of_in i a m t n k K w li la lm lt hev hi hL, fun w => sof_any i a m t n k _ w li la lm lt (.inr ⟨hev, fun w => sof_in i a m t n k K w n1 n2 hs⟩)⟩
    show (tgl t).length ≤ _
    unfold tgl
    split <;> simp
end WinR
end Go.Proofs.YtmeemmbpkjfleaaDoor
