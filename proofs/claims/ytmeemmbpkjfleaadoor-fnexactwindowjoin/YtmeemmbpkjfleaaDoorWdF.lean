/-
  The window of one event, the program's way. The conditions: texts of at most 1048576 bytes; the program's table stands in its variable.
-/
import Derived.Test.YtmeemmbpkjfleaaDoorWdW
import Derived.Test.YtmeemmbpkjfleaaDoorHour
namespace Go.Proofs.YtmeemmbpkjfleaaDoor
open Go.ChangeShapes Go.WideShapes Go.ChangeAt Go.RowKit
set_option linter.unusedVariables false
namespace WinR
open RowG (MadeG Rws)
open EvtR (Pt ev evB empty_of full_of)
open CatR (Blk Blk.new)
open DateR (Laid)
/-- An event's tags. -/
def tgl (t : ByteArray) : List ByteArray := if t.size = 0 then [] else [t]
theorem tgl_no {t : ByteArray} (h : t.size = 0) : tgl t = [] := by unfold tgl; rw [if_pos h]
theorem tgl_yes {t : ByteArray} (h : ¬ t.size = 0) : tgl t = [t] := by unfold tgl; rw [if_neg h]
theorem tgs_one (t : ByteArray) (w : World) (T : TypeId) : Tgs (some ⟨w.heap.size, 0, none⟩) [t] (w.alloc (.cells #[.string t] T)) :=
  .inr ⟨_, _, rfl, by simp, fun j hj => by
    obtain rfl : j = 0 := by simpa using hj
    intro c hc
    obtain rfl : c = 0 := by omega
    simp [go_sem, tcells]⟩
theorem hrs_one1 (x y : Int) (w : World) (T : TypeId) : Hrs (some ⟨w.heap.size, 0, none⟩) [⟨x, y⟩] (w.alloc (.cells #[.int .i64 x, .int .i64 y] T)) :=
  .inr ⟨_, _, rfl, by simp, fun j hj => by
    obtain rfl : j = 0 := by simpa using hj
    intro c hc
    match c, hc with
    | 0, _ => simp [go_sem, H.cells]
    | 1, _ => simp [go_sem, H.cells]⟩
/-- What the region reads. -/
def UOx (B : Nat) (W0 : World) (a m : ByteArray) (n k : Int) (W : World) : Prop := Below W0.heap.size W0 W ∧ B < W0.heap.size ∧ W.cell? ⟨B, 1, none⟩ = some (.string a) ∧ W.cell? ⟨B, 2, none⟩ = some (.string m) ∧ W.cell? ⟨B, 3, none⟩ = some (.int .i64 n) ∧ W.cell? ⟨B, 4, none⟩ = some (.int .i64 k)
theorem UOx.below {B : Nat} {W0 : World} {a m : ByteArray} {n k : Int} {W W' : World} (h : UOx B W0 a m n k W) (hb : Below W.heap.size W W') : UOx B W0 a m n k W' := by
  obtain ⟨h0, h1, c1, c2, c3, c4⟩ := h
  have c := fun o => hb.cell (p := ⟨B, o, none⟩) (Nat.lt_of_lt_of_le h1 h0.size)
  exact ⟨h0.trans (hb.mono h0.size), h1, (c 1).trans c1, (c 2).trans c2, (c 3).trans c3, (c 4).trans c4⟩
theorem UOx.put {B : Nat} {W0 : World} {a m : ByteArray} {n k : Int} {W : World} (h : UOx B W0 a m n k W) (V o : Nat) (v : Value) (hV : W0.heap.size ≤ V) : UOx B W0 a m n k (W.setCell ⟨V, o, none⟩ v) := by
  obtain ⟨h0, h1, c1, c2, c3, c4⟩ := h
  have e := (RowG.grown_set W V o v).block B (Nat.lt_of_lt_of_le h1 h0.size) (by simp; omega)
  have c := fun k => World.cell?_of_block (a := ⟨B, k, none⟩) e
  exact ⟨h0.setCell hV _, h1, (c 1).trans c1, (c 2).trans c2, (c 3).trans c3, (c 4).trans c4⟩
theorem Hrs.put {ao : Option Addr} {hs : List H} {w : World} (h : Hrs ao hs w) (g o : Nat) (v : Value) (hne : ∀ b off, ao = some ⟨b, off, none⟩ → b ≠ g) : Hrs ao hs (w.setCell ⟨g, o, none⟩ v) := Rws.put h g o v (.inr hne)
set_option maxRecDepth 100000 in
set_option maxHeartbeats 16000000 in
theorem of_in_s (i a m t : ByteArray) (n k mo : Int) (w : World) (li : i.size ≤ 1048576) (la : a.size ≤ 1048576) (lm : m.size ≤ 1048576) (lt : t.size ≤ 1048576) (hev : evB i a m n k t = true) (hmo : ∀ w, Laid w → Calls Tryd.prog 87 #[.int .i64 n] w fun e w' => e = .returned (.int .i64 mo) ∧ Below w.heap.size w w') (hL : Laid w) :
    Calls Tryd.prog 46 #[ev i a m n k t] w fun e w' => ∃ v, e = .returned v ∧ MadeWS w.heap.size ⟨a, m, mo, 1, k, k, tgl t, [⟨HourR.hourV n, k⟩]⟩ v w' ∧ Below w.heap.size w w' := by
  have HE := hid_intro (fun w => EvtR.impl_event i a m n k t li la lm lt w)
  rw [hev] at HE
  have HMo := hid_intro hmo
  have HHo := hid_intro (fun w => HourR.impl_hour n w)
  generalize HourR.hourV n = hq at *
  have HWi : Hid (∀ W ta tc HB, Tgs ta (tgl t) W → Hrs (some ⟨HB, 0, none⟩) [⟨hq, k⟩] W → Calls Tryd.prog 38 #[.agg #[.string a, .string m, .int .i64 mo, .int .i64 1, .int .i64 k, .int .i64 k, .slice ta (tgl t).length tc, .func (.func 104) #[] #[], .func (.func 105) #[] #[], .slice (some ⟨HB, 0, none⟩) 1 1, .func (.func 106) #[] #[], .func (.func 107) #[] #[]]] W fun e w' => ∃ v, e = .returned v ∧ MadeWS W.heap.size ⟨a, m, mo, 1, k, k, tgl t, [⟨hq, k⟩]⟩ v w' ∧ Below W.heap.size W w') := hid_intro (fun W ta tc HB h1 h2 => by
    have l1 : (tgl t).length ≤ 1 := by unfold tgl; split <;> simp
    have l2 : ∀ s ∈ tgl t, s.size ≤ 1048576 := by unfold tgl; split <;> simp [lt]
    exact impl_win_s ⟨a, m, mo, 1, k, k, tgl t, [⟨hq, k⟩]⟩ ta tc _ 1 W la lm (by show (tgl t).length ≤ _; omega) l2 (by simp) (by simp) h1 h2)
  have HT0 := hid_intro (fun (h : t.size = 0) => tgl_no h)
  have HT1 := hid_intro (fun (h : ¬ t.size = 0) => tgl_yes h)
  generalize tgl t = ts at *
  obtain ⟨tl, htl⟩ : ∃ tl, tl = ts.length := ⟨_, rfl⟩
  rw [← htl] at HWi
  have HTL := hid_intro htl
  have HL := hid_intro hL
  clear htl hL hmo hev
  unfold ev
  have HB0 : Hid (Below w.heap.size w ((w.alloc (.cells #[.string i, .string a, .string m, .int .i64 n, .int .i64 k, .string t] 43)).alloc (.cells #[.string ⟨#[]⟩, .string ⟨#[]⟩, .int .i64 0, .int .i64 0, .int .i64 0, .int .i64 0, .slice none 0 0, .slice none 0 0] 29))) := hid_intro (((Below.refl _ _).alloc (Nat.le_refl _) _).alloc (by simp) _)
  have HX0 := hid_intro ((Blk.new w [.string i, .string a, .string m, .int .i64 n, .int .i64 k, .string t] 43).below ((Below.refl _ _).alloc (Nat.le_refl _) (Obj.cells #[.string ⟨#[]⟩, .string ⟨#[]⟩, .int .i64 0, .int .i64 0, .int .i64 0, .int .i64 0, .slice none 0 0, .slice none 0 0] 29)))
  have HY0 := hid_intro (BlkW.new (w.alloc (.cells #[.string i, .string a, .string m, .int .i64 n, .int .i64 k, .string t] 43)) [.string ⟨#[]⟩, .string ⟨#[]⟩, .int .i64 0, .int .i64 0, .int .i64 0, .int .i64 0, .slice none 0 0, .slice none 0 0] 29)
  rw [show (w.alloc (.cells #[.string i, .string a, .string m, .int .i64 n, .int .i64 k, .string t] 43)).heap.size = w.heap.size + 1 by simp] at HY0
  go_enter Tryd.func46, Tryd.ntmps46
  go_wp2_with fail
  refine (HE.out _).mono ?_
  rintro e w1 ⟨rfl, hb1⟩
  have HX1 := hid_intro (HX0.out.below hb1)
  have HY1 := hid_intro (HY0.out.below hb1)
  have HB1 := hid_intro (HB0.out.trans (hb1.mono HB0.out.size))
  clear HX0 HY0 HB0 hb1
  have x5 : w1.cell? ⟨w.heap.size, 5, none⟩ = some (.string t) := HX1.out.2 5 (by simp)
  have xl := HX1.out.1
  go_upto_if 11 with fail
  go_cut [3] from 5 to 14 (fun v wx => ∃ ta tc, v = .slice ta tl tc ∧ Hid (Below w1.heap.size w1 wx) ∧ Hid (Tgs ta ts wx))
  case first =>
    go_wp2_with fail
    · rename_i hh
      have ht : ¬ t.size = 0 := fun e => by rw [empty_of t e] at hh; simp at hh
      have hts := HT1.out ht
      have h0 : tl = 1 := by rw [HTL.out, hts]; rfl
      have HG : Hid (Tgs (some ⟨w1.heap.size, 0, none⟩) ts (w1.alloc (.cells #[.string t] 9))) := hid_intro (by rw [hts]; exact tgs_one t w1 _)
      have HBN := hid_intro ((Below.refl w1.heap.size w1).alloc (Nat.le_refl _) (.cells #[.string t] 9))
      subst h0
      go_meet
      case rel => exact ⟨_, 1, rfl, HBN, HG⟩
    · rename_i hh
      have ht : t.size = 0 := by
        by_cases e : t.size = 0
        · exact e
        · rw [(full_of t e).2] at hh; simp at hh
      have hts := HT0.out ht
      have h0 : tl = 0 := by rw [HTL.out, hts]; rfl
      have HG : Hid (Tgs none ts w1) := hid_intro (by rw [hts]; exact .inl rfl)
      subst h0
      go_meet
      case rel => exact ⟨none, 0, rfl, hid_intro (Below.refl _ _), HG⟩
  case rest =>
    obtain ⟨ta, tc, rfl, HBc, HTc⟩ := hcut
    obtain ⟨W0, hW0⟩ : ∃ W0, W0 = wc := ⟨_, rfl⟩
    subst hW0
    have HX2 := hid_intro (HX1.out.below HBc.out)
    have HY2 := hid_intro (HY1.out.below HBc.out)
    have HB2 := hid_intro (HB1.out.trans (HBc.out.mono HB1.out.size))
    have HLa : Hid (∀ W, Below W0.heap.size W0 W → Laid W) := hid_intro (fun W hW => HL.out.below (HB2.out.trans (hW.mono HB2.out.size)))
    clear HX1 HY1 HB1 HBc x5 xl
    have HS0 : Hid (UOx w.heap.size W0 a m n k W0.drew) := hid_intro (UOx.below ⟨Below.refl _ _, HX2.out.1, HX2.out.2 1 (by simp), HX2.out.2 2 (by simp), HX2.out.2 3 (by simp), HX2.out.2 4 (by simp)⟩ (Below.refl _ _).drew)
    go_wp2_with fail
    go_cut [4] from 15 to 38 (fun v wx => ∃ V HB, v = .pointer (some ⟨V, 0, none⟩) ∧ Hid (Below W0.heap.size W0 wx) ∧ Hid (BlkW V [.string a, .string m, .int .i64 mo, .int .i64 1, .int .i64 k, .int .i64 k, .slice ta tl tc, .func (.func 104) #[] #[], .func (.func 105) #[] #[], .slice (some ⟨HB, 0, none⟩) 1 1, .func (.func 106) #[] #[], .func (.func 107) #[] #[]] wx) ∧ Hid (Hrs (some ⟨HB, 0, none⟩) [⟨hq, k⟩] wx))
    case first =>
      refine wp_region_held_drew (S := (fun W => Below W0.heap.size W0 W ∧ w.heap.size < W0.heap.size ∧ W.cell? ⟨w.heap.size, 1, none⟩ = some (.string a) ∧ W.cell? ⟨w.heap.size, 2, none⟩ = some (.string m) ∧ W.cell? ⟨w.heap.size, 3, none⟩ = some (.int .i64 n) ∧ W.cell? ⟨w.heap.size, 4, none⟩ = some (.int .i64 k))) (by kernel_rfl) HS0.out (fun hHeld => ?_)
      obtain ⟨Wd, hWd⟩ : ∃ Wd, Wd = W0.drew := ⟨_, rfl⟩
      rw [← hWd] at HS0 ⊢
      try rw [← hWd] at hHeld
      clear hWd
      refine wpAnyH_take (i := 0) (oi := { dst := some 15, op := Op.fieldAddr 43 (Operand.tmp 1) 1, type := 0, pos := "l07_window.go:246", after := #[], guard := none }) (v := ?_) rfl (by kernel_rfl) (by kernel_rfl) (by kernel_rfl) (fun _ _ _ h => h) (Or.inl ⟨by rfl, ?_⟩) (by assumption) ?_
      rotate_left
      · (intro w hSw; (try dsimp only at hSw); go_simp) <;> with_reducible rfl
      try simp only [Act.put, List.setIfInBounds_toArray, List.set_cons_zero, List.set_cons_succ]
      refine wpAnyH_take (i := 1) (oi := { dst := some 16, op := Op.load 9 (Operand.tmp 15), type := 9, pos := "l07_window.go:246", after := #[{ on := 0, ground := Ground.data }], guard := none }) (v := ?_) rfl (by kernel_rfl) (by kernel_rfl) (by kernel_rfl) (fun _ _ _ h => h) (Or.inl ⟨by rfl, ?_⟩) (by assumption) ?_
      rotate_left
      · (intro w hSw; (try dsimp only at hSw); go_simp) <;> with_reducible rfl
      try simp only [Act.put, List.setIfInBounds_toArray, List.set_cons_zero, List.set_cons_succ]
      refine wpAnyH_take (i := 2) (oi := { dst := some 17, op := Op.fieldAddr 43 (Operand.tmp 1) 2, type := 0, pos := "l07_window.go:246", after := #[], guard := none }) (v := ?_) rfl (by kernel_rfl) (by kernel_rfl) (by kernel_rfl) (fun _ _ _ h => h) (Or.inl ⟨by rfl, ?_⟩) (by assumption) ?_
      rotate_left
      · (intro w hSw; (try dsimp only at hSw); go_simp) <;> with_reducible rfl
      try simp only [Act.put, List.setIfInBounds_toArray, List.set_cons_zero, List.set_cons_succ]
      refine wpAnyH_take (i := 3) (oi := { dst := some 18, op := Op.load 9 (Operand.tmp 17), type := 9, pos := "l07_window.go:246", after := #[{ on := 2, ground := Ground.data }], guard := none }) (v := ?_) rfl (by kernel_rfl) (by kernel_rfl) (by kernel_rfl) (fun _ _ _ h => h) (Or.inl ⟨by rfl, ?_⟩) (by assumption) ?_
      rotate_left
      · (intro w hSw; (try dsimp only at hSw); go_simp) <;> with_reducible rfl
      try simp only [Act.put, List.setIfInBounds_toArray, List.set_cons_zero, List.set_cons_succ]
      refine wpAnyH_take (i := 4) (oi := { dst := some 19, op := Op.fieldAddr 43 (Operand.tmp 1) 3, type := 0, pos := "l07_window.go:246", after := #[], guard := none }) (v := ?_) rfl (by kernel_rfl) (by kernel_rfl) (by kernel_rfl) (fun _ _ _ h => h) (Or.inl ⟨by rfl, ?_⟩) (by assumption) ?_
      rotate_left
      · (intro w hSw; (try dsimp only at hSw); go_simp) <;> with_reducible rfl
      try simp only [Act.put, List.setIfInBounds_toArray, List.set_cons_zero, List.set_cons_succ]
      refine wpAnyH_take (i := 5) (oi := { dst := some 20, op := Op.load 2 (Operand.tmp 19), type := 2, pos := "l07_window.go:246", after := #[{ on := 4, ground := Ground.data }], guard := none }) (v := ?_) rfl (by kernel_rfl) (by kernel_rfl) (by kernel_rfl) (fun _ _ _ h => h) (Or.inl ⟨by rfl, ?_⟩) (by assumption) ?_
      rotate_left
      · (intro w hSw; (try dsimp only at hSw); go_simp) <;> with_reducible rfl
      try simp only [Act.put, List.setIfInBounds_toArray, List.set_cons_zero, List.set_cons_succ]
      refine wpAnyH_take (i := 8) (oi := { dst := some 23, op := Op.fieldAddr 43 (Operand.tmp 1) 4, type := 0, pos := "l07_window.go:246", after := #[], guard := none }) (v := ?_) rfl (by kernel_rfl) (by kernel_rfl) (by kernel_rfl) (fun _ _ _ h => h) (Or.inl ⟨by rfl, ?_⟩) (by assumption) ?_
      rotate_left
      · (intro w hSw; (try dsimp only at hSw); go_simp) <;> with_reducible rfl
      try simp only [Act.put, List.setIfInBounds_toArray, List.set_cons_zero, List.set_cons_succ]
      refine wpAnyH_take (i := 9) (oi := { dst := some 24, op := Op.load 2 (Operand.tmp 23), type := 2, pos := "l07_window.go:246", after := #[{ on := 8, ground := Ground.data }], guard := none }) (v := ?_) rfl (by kernel_rfl) (by kernel_rfl) (by kernel_rfl) (fun _ _ _ h => h) (Or.inl ⟨by rfl, ?_⟩) (by assumption) ?_
      rotate_left
      · (intro w hSw; (try dsimp only at hSw); go_simp) <;> with_reducible rfl
      try simp only [Act.put, List.setIfInBounds_toArray, List.set_cons_zero, List.set_cons_succ]
      refine wpAnyH_take (i := 10) (oi := { dst := some 25, op := Op.fieldAddr 43 (Operand.tmp 1) 4, type := 0, pos := "l07_window.go:246", after := #[], guard := none }) (v := ?_) rfl (by kernel_rfl) (by kernel_rfl) (by kernel_rfl) (fun _ _ _ h => h) (Or.inl ⟨by rfl, ?_⟩) (by assumption) ?_
      rotate_left
      · (intro w hSw; (try dsimp only at hSw); go_simp) <;> with_reducible rfl
      try simp only [Act.put, List.setIfInBounds_toArray, List.set_cons_zero, List.set_cons_succ]
      refine wpAnyH_take (i := 11) (oi := { dst := some 26, op := Op.load 2 (Operand.tmp 25), type := 2, pos := "l07_window.go:246", after := #[{ on := 10, ground := Ground.data }], guard := none }) (v := ?_) rfl (by kernel_rfl) (by kernel_rfl) (by kernel_rfl) (fun _ _ _ h => h) (Or.inl ⟨by rfl, ?_⟩) (by assumption) ?_
      rotate_left
      · (intro w hSw; (try dsimp only at hSw); go_simp) <;> with_reducible rfl
      try simp only [Act.put, List.setIfInBounds_toArray, List.set_cons_zero, List.set_cons_succ]
      refine wpAnyH_take (i := 12) (oi := { dst := some 27, op := Op.build 64 #[(0, Operand.const (Value.int IntKind.i64 1)), (1, Operand.tmp 24), (2, Operand.tmp 26)], type := 64, pos := "l07_window.go:246", after := #[{ on := 9, ground := Ground.data }, { on := 11, ground := Ground.data }], guard := none }) (v := ?_) rfl (by kernel_rfl) (by kernel_rfl) (by kernel_rfl) (fun _ _ _ h => h) (Or.inl ⟨by rfl, ?_⟩) (by assumption) ?_
      rotate_left
      · (intro w hSw; (try dsimp only at hSw); go_simp) <;> with_reducible rfl
      try simp only [Act.put, List.setIfInBounds_toArray, List.set_cons_zero, List.set_cons_succ]
      refine wpAnyH_take (i := 13) (oi := { dst := some 28, op := Op.move (Operand.tmp 3), type := 22, pos := "l07_window.go:246", after := #[], guard := none }) (v := ?_) rfl (by kernel_rfl) (by kernel_rfl) (by kernel_rfl) (fun _ _ _ h => h) (Or.inl ⟨by rfl, ?_⟩) (by assumption) ?_
      rotate_left
      · (intro w hSw; (try dsimp only at hSw); go_simp) <;> with_reducible rfl
      try simp only [Act.put, List.setIfInBounds_toArray, List.set_cons_zero, List.set_cons_succ]
      refine wpAnyH_take (i := 15) (oi := { dst := some 30, op := Op.fieldAddr 43 (Operand.tmp 1) 3, type := 0, pos := "l07_window.go:246", after := #[], guard := none }) (v := ?_) rfl (by kernel_rfl) (by kernel_rfl) (by kernel_rfl) (fun _ _ _ h => h) (Or.inl ⟨by rfl, ?_⟩) (by assumption) ?_
      rotate_left
      · (intro w hSw; (try dsimp only at hSw); go_simp) <;> with_reducible rfl
      try simp only [Act.put, List.setIfInBounds_toArray, List.set_cons_zero, List.set_cons_succ]
      refine wpAnyH_take (i := 16) (oi := { dst := some 31, op := Op.load 2 (Operand.tmp 30), type := 2, pos := "l07_window.go:246", after := #[{ on := 15, ground := Ground.data }], guard := none }) (v := ?_) rfl (by kernel_rfl) (by kernel_rfl) (by kernel_rfl) (fun _ _ _ h => h) (Or.inl ⟨by rfl, ?_⟩) (by assumption) ?_
      rotate_left
      · (intro w hSw; (try dsimp only at hSw); go_simp) <;> with_reducible rfl
      try simp only [Act.put, List.setIfInBounds_toArray, List.set_cons_zero, List.set_cons_succ]
      refine wpAnyH_take (i := 18) (oi := { dst := some 33, op := Op.fieldAddr 43 (Operand.tmp 1) 4, type := 0, pos := "l07_window.go:246", after := #[], guard := none }) (v := ?_) rfl (by kernel_rfl) (by kernel_rfl) (by kernel_rfl) (fun _ _ _ h => h) (Or.inl ⟨by rfl, ?_⟩) (by assumption) ?_
      rotate_left
      · (intro w hSw; (try dsimp only at hSw); go_simp) <;> with_reducible rfl
      try simp only [Act.put, List.setIfInBounds_toArray, List.set_cons_zero, List.set_cons_succ]
      refine wpAnyH_take (i := 19) (oi := { dst := some 34, op := Op.load 2 (Operand.tmp 33), type := 2, pos := "l07_window.go:246", after := #[{ on := 18, ground := Ground.data }], guard := none }) (v := ?_) rfl (by kernel_rfl) (by kernel_rfl) (by kernel_rfl) (fun _ _ _ h => h) (Or.inl ⟨by rfl, ?_⟩) (by assumption) ?_
      rotate_left
      · (intro w hSw; (try dsimp only at hSw); go_simp) <;> with_reducible rfl
      try simp only [Act.put, List.setIfInBounds_toArray, List.set_cons_zero, List.set_cons_succ]
      refine wpAnyH_ready (rs := [6, 24]) (by kernel_rfl) (by simp) ?_
      refine AllReadyH.cons (o := { dst := some 21, op := Op.call { callee := Callee.value (Operand.func 87), args := #[Operand.tmp 20], argTypes := #[2] }, type := 2, pos := "l07_window.go:247", after := #[{ on := 5, ground := Ground.data }], guard := none }) rfl (fun K hK => ?_) (AllReadyH.cons (o := { dst := some 4, op := Op.alloc 74, type := 0, pos := "l07_window.go:246", after := #[], guard := none }) rfl (fun K hK => ?_) AllReadyH.nil)
      · go_simp
        go_at_call 87
        refine (HMo.out _ (HLa.out _ HS0.out.1)).mono ?_
        rintro e q1 ⟨rfl, hq1⟩
        try go_wp2_with fail
        have hkq1 := UOx.below (B := w.heap.size) (W0 := W0) (a := a) (m := m) (n := n) (k := k) HS0.out hq1
        refine hK.out _ _ hkq1 (fun _ => ?_)
        clear hK K
        try simp only [Act.put, List.setIfInBounds_toArray, List.set_cons_zero, List.set_cons_succ]
        refine wpAnyH_take (i := 7) (oi := { dst := some 22, op := Op.build 62 #[(0, Operand.tmp 16), (1, Operand.tmp 18), (2, Operand.tmp 21)], type := 62, pos := "l07_window.go:246", after := #[{ on := 1, ground := Ground.data }, { on := 3, ground := Ground.data }, { on := 6, ground := Ground.data }], guard := none }) (v := ?_) rfl (by kernel_rfl) (by kernel_rfl) (by kernel_rfl) (fun _ _ _ h => h) (Or.inl ⟨by rfl, ?_⟩) (by assumption) ?_
        rotate_left
        · (intro w hSw; (try dsimp only at hSw); go_simp) <;> with_reducible rfl
        try simp only [Act.put, List.setIfInBounds_toArray, List.set_cons_zero, List.set_cons_succ]
        refine wpAnyH_ready (rs := [14, 24]) (by kernel_rfl) (by simp) ?_
        refine AllReadyH.cons (o := { dst := some 29, op := Op.call { callee := Callee.value (Operand.func 68), args := #[Operand.tmp 28], argTypes := #[22] }, type := 68, pos := "l07_window.go:249", after := #[{ on := 13, ground := Ground.data }, { on := 6, ground := Ground.chain }], guard := none }) rfl (fun K hK => ?_) (AllReadyH.cons (o := { dst := some 4, op := Op.alloc 74, type := 0, pos := "l07_window.go:246", after := #[], guard := none }) rfl (fun K hK => ?_) AllReadyH.nil)
        · go_simp
          go_at_call 68
          refine (impl_rtags _ _ _ _).mono ?_
          rintro e q2 ⟨rfl, hq2⟩
          try go_wp2_with fail
          have hkq2 := UOx.below (B := w.heap.size) (W0 := W0) (a := a) (m := m) (n := n) (k := k) hkq1 hq2
          refine hK.out _ _ hkq2 (fun _ => ?_)
          clear hK K
          try simp only [Act.put, List.setIfInBounds_toArray, List.set_cons_zero, List.set_cons_succ]
          refine wpAnyH_ready (rs := [17, 24]) (by kernel_rfl) (by simp) ?_
          refine AllReadyH.cons (o := { dst := some 32, op := Op.call { callee := Callee.value (Operand.func 88), args := #[Operand.tmp 31], argTypes := #[2] }, type := 2, pos := "l07_window.go:250", after := #[{ on := 16, ground := Ground.data }, { on := 14, ground := Ground.chain }], guard := none }) rfl (fun K hK => ?_) (AllReadyH.cons (o := { dst := some 4, op := Op.alloc 74, type := 0, pos := "l07_window.go:246", after := #[], guard := none }) rfl (fun K hK => ?_) AllReadyH.nil)
          · go_simp
            go_at_call 88
            refine (HHo.out _).mono ?_
            rintro e wh ⟨rfl, hwh⟩
            rw [hwh]
            clear hwh wh
            try go_wp2_with fail
            refine hK.out _ _ hkq2 (fun _ => ?_)
            clear hK K
            try simp only [Act.put, List.setIfInBounds_toArray, List.set_cons_zero, List.set_cons_succ]
            refine wpAnyH_take (i := 20) (oi := { dst := some 35, op := Op.build 102 #[(0, Operand.tmp 32), (1, Operand.tmp 34)], type := 102, pos := "l07_window.go:246", after := #[{ on := 17, ground := Ground.data }, { on := 19, ground := Ground.data }], guard := none }) (v := ?_) rfl (by kernel_rfl) (by kernel_rfl) (by kernel_rfl) (fun _ _ _ h => h) (Or.inl ⟨by rfl, ?_⟩) (by assumption) ?_
            rotate_left
            · (intro w hSw; (try dsimp only at hSw); go_simp) <;> with_reducible rfl
            try simp only [Act.put, List.setIfInBounds_toArray, List.set_cons_zero, List.set_cons_succ]
            refine wpAnyH_ready (rs := [21, 24]) (by kernel_rfl) (by simp) ?_
            refine AllReadyH.cons (o := { dst := some 36, op := Op.buildSlice 27 1 #[(0, Operand.tmp 35)], type := 27, pos := "l07_window.go:246", after := #[{ on := 20, ground := Ground.data }], guard := none }) rfl (fun K hK => ?_) (AllReadyH.cons (o := { dst := some 4, op := Op.alloc 74, type := 0, pos := "l07_window.go:246", after := #[], guard := none }) rfl (fun K hK => ?_) AllReadyH.nil)
            · go_simp
              try go_wp2_with fail
              have hkb := UOx.below (B := w.heap.size) (W0 := W0) (a := a) (m := m) (n := n) (k := k) hkq2 ((Below.refl q2.heap.size q2).alloc (Nat.le_refl _) (Obj.cells #[.int .i64 hq, .int .i64 k] 102))
              have hrb := hrs_one1 hq k q2 102
              refine hK.out _ _ hkb (fun _ => ?_)
              clear hK K
              try simp only [Act.put, List.setIfInBounds_toArray, List.set_cons_zero, List.set_cons_succ]
              obtain ⟨HB, hHB⟩ : ∃ HB, HB = q2.heap.size := ⟨_, rfl⟩
              obtain ⟨Wb, hWb⟩ : ∃ Wb, Wb = q2.alloc (Obj.cells #[.int .i64 hq, .int .i64 k] 102) := ⟨_, rfl⟩
              have hxb : HB < Wb.heap.size := by rw [hWb, hHB]; simp
              rw [← hWb] at hkb hrb ⊢
              rw [← hHB] at hrb ⊢
              clear hWb hHB
              refine wpAnyH_ready (rs := [22, 24]) (by kernel_rfl) (by simp) ?_
              refine AllReadyH.cons (o := { dst := some 37, op := Op.call { callee := Callee.value (Operand.func 69), args := #[Operand.tmp 36], argTypes := #[27] }, type := 72, pos := "l07_window.go:250", after := #[{ on := 21, ground := Ground.data }, { on := 17, ground := Ground.chain }], guard := none }) rfl (fun K hK => ?_) (AllReadyH.cons (o := { dst := some 4, op := Op.alloc 74, type := 0, pos := "l07_window.go:246", after := #[], guard := none }) rfl (fun K hK => ?_) AllReadyH.nil)
              · go_simp
                go_at_call 69
                refine (impl_rhours _ _ _ _).mono ?_
                rintro e q3 ⟨rfl, hq3⟩
                try go_wp2_with fail
                have hkq3 := UOx.below (B := w.heap.size) (W0 := W0) (a := a) (m := m) (n := n) (k := k) hkb hq3
                have hrq3 := Hrs.below hrb hq3
                have hxq3 : HB < q3.heap.size := Nat.lt_of_lt_of_le hxb hq3.size
                refine hK.out _ _ hkq3 (fun _ => ?_)
                clear hK K
                try simp only [Act.put, List.setIfInBounds_toArray, List.set_cons_zero, List.set_cons_succ]
                refine wpAnyH_take (i := 23) (oi := { dst := some 38, op := Op.build 74 #[(0, Operand.tmp 22), (1, Operand.tmp 27), (2, Operand.tmp 29), (3, Operand.tmp 37)], type := 74, pos := "l07_window.go:246", after := #[{ on := 7, ground := Ground.data }, { on := 12, ground := Ground.data }, { on := 14, ground := Ground.data }, { on := 22, ground := Ground.data }], guard := none }) (v := ?_) rfl (by kernel_rfl) (by kernel_rfl) (by kernel_rfl) (fun _ _ _ h => h) (Or.inl ⟨by rfl, ?_⟩) (by assumption) ?_
                rotate_left
                · (intro w hSw; (try dsimp only at hSw); go_simp) <;> with_reducible rfl
                try simp only [Act.put, List.setIfInBounds_toArray, List.set_cons_zero, List.set_cons_succ]
                refine wpAnyH_ready (rs := [24]) (by kernel_rfl) (by simp) ?_
                refine AllReadyH.cons (o := { dst := some 4, op := Op.alloc 74, type := 0, pos := "l07_window.go:246", after := #[], guard := none }) rfl (fun K hK => ?_) AllReadyH.nil
                go_simp
                try go_wp2_with fail
                have hka := UOx.below (B := w.heap.size) (W0 := W0) (a := a) (m := m) (n := n) (k := k) hkq3 ((Below.refl q3.heap.size q3).alloc (Nat.le_refl _) (Obj.cells #[.string ⟨#[]⟩, .string ⟨#[]⟩, .int .i64 0, .int .i64 0, .int .i64 0, .int .i64 0, .slice none 0 0, .nilFunc, .nilFunc, .slice none 0 0, .nilFunc, .nilFunc] 74))
                have hva := BlkW.new q3 [.string ⟨#[]⟩, .string ⟨#[]⟩, .int .i64 0, .int .i64 0, .int .i64 0, .int .i64 0, .slice none 0 0, .nilFunc, .nilFunc, .slice none 0 0, .nilFunc, .nilFunc] 74
                have hle := hkq3.1.size
                have hra := Hrs.below hrq3 ((Below.refl q3.heap.size q3).alloc (Nat.le_refl _) (Obj.cells #[.string ⟨#[]⟩, .string ⟨#[]⟩, .int .i64 0, .int .i64 0, .int .i64 0, .int .i64 0, .slice none 0 0, .nilFunc, .nilFunc, .slice none 0 0, .nilFunc, .nilFunc] 74))
                refine hK.out _ _ hka (fun _ => ?_)
                clear hK K
                try simp only [Act.put, List.setIfInBounds_toArray, List.set_cons_zero, List.set_cons_succ]
                obtain ⟨VB, hVB⟩ : ∃ VB, VB = q3.heap.size := ⟨_, rfl⟩
                obtain ⟨Wa, hWa⟩ : ∃ Wa, Wa = q3.alloc (Obj.cells #[.string ⟨#[]⟩, .string ⟨#[]⟩, .int .i64 0, .int .i64 0, .int .i64 0, .int .i64 0, .slice none 0 0, .nilFunc, .nilFunc, .slice none 0 0, .nilFunc, .nilFunc] 74) := ⟨_, rfl⟩
                have hvb : W0.heap.size ≤ VB := by rw [hVB]; exact hle
                have hne : HB ≠ VB := by rw [hVB]; exact Nat.ne_of_lt hxq3
                have hxa : HB < Wa.heap.size := by rw [hWa]; simp; omega
                rw [← hWa] at hka hva ⊢
                rw [← hWa] at hra
                rw [← hVB] at hva ⊢
                clear hWa hVB hle
                refine wpAnyH_ready (rs := [25]) (by kernel_rfl) (by simp) ?_
                refine AllReadyH.cons (o := { dst := none, op := Op.store 74 (Operand.tmp 4) (Operand.tmp 38), type := 0, pos := "l07_window.go:246", after := #[{ on := 24, ground := Ground.data }, { on := 23, ground := Ground.data }, { on := 22, ground := Ground.chain }, { on := 0, ground := Ground.phase }, { on := 1, ground := Ground.phase }, { on := 2, ground := Ground.phase }, { on := 3, ground := Ground.phase }, { on := 4, ground := Ground.phase }, { on := 5, ground := Ground.phase }, { on := 6, ground := Ground.phase }, { on := 7, ground := Ground.phase }, { on := 8, ground := Ground.phase }, { on := 9, ground := Ground.phase }, { on := 10, ground := Ground.phase }, { on := 11, ground := Ground.phase }, { on := 12, ground := Ground.phase }, { on := 13, ground := Ground.phase }, { on := 14, ground := Ground.phase }, { on := 15, ground := Ground.phase }, { on := 16, ground := Ground.phase }, { on := 17, ground := Ground.phase }, { on := 18, ground := Ground.phase }, { on := 19, ground := Ground.phase }, { on := 20, ground := Ground.phase }, { on := 21, ground := Ground.phase }, { on := 22, ground := Ground.phase }, { on := 23, ground := Ground.phase }, { on := 24, ground := Ground.phase }], guard := none }) rfl (fun K hK => ?_) AllReadyH.nil
                obtain ⟨⟨vl, vcs⟩, vfs⟩ := hva
                have y0 : Wa.cell? ⟨VB, 0, none⟩ = some (.string ⟨#[]⟩) := vcs 0 (by simp)
                have f0 := vfs 0 (by simp)
                have y1 : Wa.cell? ⟨VB, 1, none⟩ = some (.string ⟨#[]⟩) := vcs 1 (by simp)
                have f1 := vfs 1 (by simp)
                have y2 : Wa.cell? ⟨VB, 2, none⟩ = some (.int .i64 0) := vcs 2 (by simp)
                have f2 := vfs 2 (by simp)
                have y3 : Wa.cell? ⟨VB, 3, none⟩ = some (.int .i64 0) := vcs 3 (by simp)
                have f3 := vfs 3 (by simp)
                have y4 : Wa.cell? ⟨VB, 4, none⟩ = some (.int .i64 0) := vcs 4 (by simp)
                have f4 := vfs 4 (by simp)
                have y5 : Wa.cell? ⟨VB, 5, none⟩ = some (.int .i64 0) := vcs 5 (by simp)
                have f5 := vfs 5 (by simp)
                have y6 : Wa.cell? ⟨VB, 6, none⟩ = some (.slice none 0 0) := vcs 6 (by simp)
                have f6 := vfs 6 (by simp)
                have y7 : Wa.cell? ⟨VB, 7, none⟩ = some (.nilFunc) := vcs 7 (by simp)
                have f7 := vfs 7 (by simp)
                have y8 : Wa.cell? ⟨VB, 8, none⟩ = some (.nilFunc) := vcs 8 (by simp)
                have f8 := vfs 8 (by simp)
                have y9 : Wa.cell? ⟨VB, 9, none⟩ = some (.slice none 0 0) := vcs 9 (by simp)
                have f9 := vfs 9 (by simp)
                have y10 : Wa.cell? ⟨VB, 10, none⟩ = some (.nilFunc) := vcs 10 (by simp)
                have f10 := vfs 10 (by simp)
                have y11 : Wa.cell? ⟨VB, 11, none⟩ = some (.nilFunc) := vcs 11 (by simp)
                have f11 := vfs 11 (by simp)
                go_simp
                try go_wp2_with fail
                have hno : ∀ b off, (some ⟨HB, 0, none⟩ : Option Addr) = some ⟨b, off, none⟩ → b ≠ VB := fun b off e => by simp at e; omega
                have hks := (UOx.put (B := w.heap.size) (W0 := W0) (a := a) (m := m) (n := n) (k := k) (UOx.put (B := w.heap.size) (W0 := W0) (a := a) (m := m) (n := n) (k := k) (UOx.put (B := w.heap.size) (W0 := W0) (a := a) (m := m) (n := n) (k := k) (UOx.put (B := w.heap.size) (W0 := W0) (a := a) (m := m) (n := n) (k := k) (UOx.put (B := w.heap.size) (W0 := W0) (a := a) (m := m) (n := n) (k := k) (UOx.put (B := w.heap.size) (W0 := W0) (a := a) (m := m) (n := n) (k := k) (UOx.put (B := w.heap.size) (W0 := W0) (a := a) (m := m) (n := n) (k := k) (UOx.put (B := w.heap.size) (W0 := W0) (a := a) (m := m) (n := n) (k := k) (UOx.put (B := w.heap.size) (W0 := W0) (a := a) (m := m) (n := n) (k := k) (UOx.put (B := w.heap.size) (W0 := W0) (a := a) (m := m) (n := n) (k := k) (UOx.put (B := w.heap.size) (W0 := W0) (a := a) (m := m) (n := n) (k := k) (UOx.put (B := w.heap.size) (W0 := W0) (a := a) (m := m) (n := n) (k := k) hka VB 0 (.string a) hvb) VB 1 (.string m) hvb) VB 2 (.int .i64 mo) hvb) VB 3 (.int .i64 1) hvb) VB 4 (.int .i64 k) hvb) VB 5 (.int .i64 k) hvb) VB 6 (.slice ta tl tc) hvb) VB 7 (.func (.func 104) #[] #[]) hvb) VB 8 (.func (.func 105) #[] #[]) hvb) VB 9 (.slice (some ⟨HB, 0, none⟩) 1 1) hvb) VB 10 (.func (.func 106) #[] #[]) hvb) VB 11 (.func (.func 107) #[] #[]) hvb)
                have hvs := (BlkW.set (BlkW.set (BlkW.set (BlkW.set (BlkW.set (BlkW.set (BlkW.set (BlkW.set (BlkW.set (BlkW.set (BlkW.set (BlkW.set (⟨⟨vl, vcs⟩, vfs⟩ : BlkW VB [.string ⟨#[]⟩, .string ⟨#[]⟩, .int .i64 0, .int .i64 0, .int .i64 0, .int .i64 0, .slice none 0 0, .nilFunc, .nilFunc, .slice none 0 0, .nilFunc, .nilFunc] Wa) 0 (.string a) (by simp)) 1 (.string m) (by simp)) 2 (.int .i64 mo) (by simp)) 3 (.int .i64 1) (by simp)) 4 (.int .i64 k) (by simp)) 5 (.int .i64 k) (by simp)) 6 (.slice ta tl tc) (by simp)) 7 (.func (.func 104) #[] #[]) (by simp)) 8 (.func (.func 105) #[] #[]) (by simp)) 9 (.slice (some ⟨HB, 0, none⟩) 1 1) (by simp)) 10 (.func (.func 106) #[] #[]) (by simp)) 11 (.func (.func 107) #[] #[]) (by simp))
                have hrs := (Hrs.put (Hrs.put (Hrs.put (Hrs.put (Hrs.put (Hrs.put (Hrs.put (Hrs.put (Hrs.put (Hrs.put (Hrs.put (Hrs.put hra VB 0 (.string a) hno) VB 1 (.string m) hno) VB 2 (.int .i64 mo) hno) VB 3 (.int .i64 1) hno) VB 4 (.int .i64 k) hno) VB 5 (.int .i64 k) hno) VB 6 (.slice ta tl tc) hno) VB 7 (.func (.func 104) #[] #[]) hno) VB 8 (.func (.func 105) #[] #[]) hno) VB 9 (.slice (some ⟨HB, 0, none⟩) 1 1) hno) VB 10 (.func (.func 106) #[] #[]) hno) VB 11 (.func (.func 107) #[] #[]) hno)
                refine hK.out _ _ hks (fun _ => ?_)
                clear hK K
                try simp only [Act.put, List.setIfInBounds_toArray, List.set_cons_zero, List.set_cons_succ]
                refine wpAnyH_done (by kernel_rfl) ?_ _
                have HBF := hid_intro hks.1
                have HVF := hid_intro hvs
                have HRF := hid_intro hrs
                clear hks hvs hrs y0 y1 y2 y3 y4 y5 y6 y7 y8 y9 y10 y11 f0 f1 f2 f3 f4 f5 f6 f7 f8 f9 f10 f11 vcs vfs hno
                go_wp2_with fail
                go_meet
                case rel => exact ⟨VB, HB, rfl, HBF, HVF, HRF⟩
              · go_simp
                try go_wp2_with fail
                have hka := UOx.below (B := w.heap.size) (W0 := W0) (a := a) (m := m) (n := n) (k := k) hkb ((Below.refl Wb.heap.size Wb).alloc (Nat.le_refl _) (Obj.cells #[.string ⟨#[]⟩, .string ⟨#[]⟩, .int .i64 0, .int .i64 0, .int .i64 0, .int .i64 0, .slice none 0 0, .nilFunc, .nilFunc, .slice none 0 0, .nilFunc, .nilFunc] 74))
                have hva := BlkW.new Wb [.string ⟨#[]⟩, .string ⟨#[]⟩, .int .i64 0, .int .i64 0, .int .i64 0, .int .i64 0, .slice none 0 0, .nilFunc, .nilFunc, .slice none 0 0, .nilFunc, .nilFunc] 74
                have hle := hkb.1.size
                have hra := Hrs.below hrb ((Below.refl Wb.heap.size Wb).alloc (Nat.le_refl _) (Obj.cells #[.string ⟨#[]⟩, .string ⟨#[]⟩, .int .i64 0, .int .i64 0, .int .i64 0, .int .i64 0, .slice none 0 0, .nilFunc, .nilFunc, .slice none 0 0, .nilFunc, .nilFunc] 74))
                refine hK.out _ _ hka (fun _ => ?_)
                clear hK K
                try simp only [Act.put, List.setIfInBounds_toArray, List.set_cons_zero, List.set_cons_succ]
                obtain ⟨VB, hVB⟩ : ∃ VB, VB = Wb.heap.size := ⟨_, rfl⟩
                obtain ⟨Wa, hWa⟩ : ∃ Wa, Wa = Wb.alloc (Obj.cells #[.string ⟨#[]⟩, .string ⟨#[]⟩, .int .i64 0, .int .i64 0, .int .i64 0, .int .i64 0, .slice none 0 0, .nilFunc, .nilFunc, .slice none 0 0, .nilFunc, .nilFunc] 74) := ⟨_, rfl⟩
                have hvb : W0.heap.size ≤ VB := by rw [hVB]; exact hle
                have hne : HB ≠ VB := by rw [hVB]; exact Nat.ne_of_lt hxb
                have hxa : HB < Wa.heap.size := by rw [hWa]; simp; omega
                rw [← hWa] at hka hva ⊢
                rw [← hWa] at hra
                rw [← hVB] at hva ⊢
                clear hWa hVB hle
                refine wpAnyH_ready (rs := [22]) (by kernel_rfl) (by simp) ?_
                refine AllReadyH.cons (o := { dst := some 37, op := Op.call { callee := Callee.value (Operand.func 69), args := #[Operand.tmp 36], argTypes := #[27] }, type := 72, pos := "l07_window.go:250", after := #[{ on := 21, ground := Ground.data }, { on := 17, ground := Ground.chain }], guard := none }) rfl (fun K hK => ?_) AllReadyH.nil
                go_simp
                go_at_call 69
                refine (impl_rhours _ _ _ _).mono ?_
                rintro e q3 ⟨rfl, hq3⟩
                try go_wp2_with fail
                have hkq3 := UOx.below (B := w.heap.size) (W0 := W0) (a := a) (m := m) (n := n) (k := k) hka hq3
                have hvq3 := BlkW.below hva hq3
                have hwq3 : VB < q3.heap.size := hvq3.1.1
                have hrq3 := Hrs.below hra hq3
                have hxq3 : HB < q3.heap.size := Nat.lt_of_lt_of_le hxa hq3.size
                refine hK.out _ _ hkq3 (fun _ => ?_)
                clear hK K
                try simp only [Act.put, List.setIfInBounds_toArray, List.set_cons_zero, List.set_cons_succ]
                refine wpAnyH_take (i := 23) (oi := { dst := some 38, op := Op.build 74 #[(0, Operand.tmp 22), (1, Operand.tmp 27), (2, Operand.tmp 29), (3, Operand.tmp 37)], type := 74, pos := "l07_window.go:246", after := #[{ on := 7, ground := Ground.data }, { on := 12, ground := Ground.data }, { on := 14, ground := Ground.data }, { on := 22, ground := Ground.data }], guard := none }) (v := ?_) rfl (by kernel_rfl) (by kernel_rfl) (by kernel_rfl) (fun _ _ _ h => h) (Or.inl ⟨by rfl, ?_⟩) (by assumption) ?_
                rotate_left
                · (intro w hSw; (try dsimp only at hSw); go_simp) <;> with_reducible rfl
                try simp only [Act.put, List.setIfInBounds_toArray, List.set_cons_zero, List.set_cons_succ]
                refine wpAnyH_ready (rs := [25]) (by kernel_rfl) (by simp) ?_
                refine AllReadyH.cons (o := { dst := none, op := Op.store 74 (Operand.tmp 4) (Operand.tmp 38), type := 0, pos := "l07_window.go:246", after := #[{ on := 24, ground := Ground.data }, { on := 23, ground := Ground.data }, { on := 22, ground := Ground.chain }, { on := 0, ground := Ground.phase }, { on := 1, ground := Ground.phase }, { on := 2, ground := Ground.phase }, { on := 3, ground := Ground.phase }, { on := 4, ground := Ground.phase }, { on := 5, ground := Ground.phase }, { on := 6, ground := Ground.phase }, { on := 7, ground := Ground.phase }, { on := 8, ground := Ground.phase }, { on := 9, ground := Ground.phase }, { on := 10, ground := Ground.phase }, { on := 11, ground := Ground.phase }, { on := 12, ground := Ground.phase }, { on := 13, ground := Ground.phase }, { on := 14, ground := Ground.phase }, { on := 15, ground := Ground.phase }, { on := 16, ground := Ground.phase }, { on := 17, ground := Ground.phase }, { on := 18, ground := Ground.phase }, { on := 19, ground := Ground.phase }, { on := 20, ground := Ground.phase }, { on := 21, ground := Ground.phase }, { on := 22, ground := Ground.phase }, { on := 23, ground := Ground.phase }, { on := 24, ground := Ground.phase }], guard := none }) rfl (fun K hK => ?_) AllReadyH.nil
                obtain ⟨⟨vl, vcs⟩, vfs⟩ := hvq3
                have y0 : q3.cell? ⟨VB, 0, none⟩ = some (.string ⟨#[]⟩) := vcs 0 (by simp)
                have f0 := vfs 0 (by simp)
                have y1 : q3.cell? ⟨VB, 1, none⟩ = some (.string ⟨#[]⟩) := vcs 1 (by simp)
                have f1 := vfs 1 (by simp)
                have y2 : q3.cell? ⟨VB, 2, none⟩ = some (.int .i64 0) := vcs 2 (by simp)
                have f2 := vfs 2 (by simp)
                have y3 : q3.cell? ⟨VB, 3, none⟩ = some (.int .i64 0) := vcs 3 (by simp)
                have f3 := vfs 3 (by simp)
                have y4 : q3.cell? ⟨VB, 4, none⟩ = some (.int .i64 0) := vcs 4 (by simp)
                have f4 := vfs 4 (by simp)
                have y5 : q3.cell? ⟨VB, 5, none⟩ = some (.int .i64 0) := vcs 5 (by simp)
                have f5 := vfs 5 (by simp)
                have y6 : q3.cell? ⟨VB, 6, none⟩ = some (.slice none 0 0) := vcs 6 (by simp)
                have f6 := vfs 6 (by simp)
                have y7 : q3.cell? ⟨VB, 7, none⟩ = some (.nilFunc) := vcs 7 (by simp)
                have f7 := vfs 7 (by simp)
                have y8 : q3.cell? ⟨VB, 8, none⟩ = some (.nilFunc) := vcs 8 (by simp)
                have f8 := vfs 8 (by simp)
                have y9 : q3.cell? ⟨VB, 9, none⟩ = some (.slice none 0 0) := vcs 9 (by simp)
                have f9 := vfs 9 (by simp)
                have y10 : q3.cell? ⟨VB, 10, none⟩ = some (.nilFunc) := vcs 10 (by simp)
                have f10 := vfs 10 (by simp)
                have y11 : q3.cell? ⟨VB, 11, none⟩ = some (.nilFunc) := vcs 11 (by simp)
                have f11 := vfs 11 (by simp)
                go_simp
                try go_wp2_with fail
                have hno : ∀ b off, (some ⟨HB, 0, none⟩ : Option Addr) = some ⟨b, off, none⟩ → b ≠ VB := fun b off e => by simp at e; omega
                have hks := (UOx.put (B := w.heap.size) (W0 := W0) (a := a) (m := m) (n := n) (k := k) (UOx.put (B := w.heap.size) (W0 := W0) (a := a) (m := m) (n := n) (k := k) (UOx.put (B := w.heap.size) (W0 := W0) (a := a) (m := m) (n := n) (k := k) (UOx.put (B := w.heap.size) (W0 := W0) (a := a) (m := m) (n := n) (k := k) (UOx.put (B := w.heap.size) (W0 := W0) (a := a) (m := m) (n := n) (k := k) (UOx.put (B := w.heap.size) (W0 := W0) (a := a) (m := m) (n := n) (k := k) (UOx.put (B := w.heap.size) (W0 := W0) (a := a) (m := m) (n := n) (k := k) (UOx.put (B := w.heap.size) (W0 := W0) (a := a) (m := m) (n := n) (k := k) (UOx.put (B := w.heap.size) (W0 := W0) (a := a) (m := m) (n := n) (k := k) (UOx.put (B := w.heap.size) (W0 := W0) (a := a) (m := m) (n := n) (k := k) (UOx.put (B := w.heap.size) (W0 := W0) (a := a) (m := m) (n := n) (k := k) (UOx.put (B := w.heap.size) (W0 := W0) (a := a) (m := m) (n := n) (k := k) hkq3 VB 0 (.string a) hvb) VB 1 (.string m) hvb) VB 2 (.int .i64 mo) hvb) VB 3 (.int .i64 1) hvb) VB 4 (.int .i64 k) hvb) VB 5 (.int .i64 k) hvb) VB 6 (.slice ta tl tc) hvb) VB 7 (.func (.func 104) #[] #[]) hvb) VB 8 (.func (.func 105) #[] #[]) hvb) VB 9 (.slice (some ⟨HB, 0, none⟩) 1 1) hvb) VB 10 (.func (.func 106) #[] #[]) hvb) VB 11 (.func (.func 107) #[] #[]) hvb)
                have hvs := (BlkW.set (BlkW.set (BlkW.set (BlkW.set (BlkW.set (BlkW.set (BlkW.set (BlkW.set (BlkW.set (BlkW.set (BlkW.set (BlkW.set (⟨⟨vl, vcs⟩, vfs⟩ : BlkW VB [.string ⟨#[]⟩, .string ⟨#[]⟩, .int .i64 0, .int .i64 0, .int .i64 0, .int .i64 0, .slice none 0 0, .nilFunc, .nilFunc, .slice none 0 0, .nilFunc, .nilFunc] q3) 0 (.string a) (by simp)) 1 (.string m) (by simp)) 2 (.int .i64 mo) (by simp)) 3 (.int .i64 1) (by simp)) 4 (.int .i64 k) (by simp)) 5 (.int .i64 k) (by simp)) 6 (.slice ta tl tc) (by simp)) 7 (.func (.func 104) #[] #[]) (by simp)) 8 (.func (.func 105) #[] #[]) (by simp)) 9 (.slice (some ⟨HB, 0, none⟩) 1 1) (by simp)) 10 (.func (.func 106) #[] #[]) (by simp)) 11 (.func (.func 107) #[] #[]) (by simp))
                have hrs := (Hrs.put (Hrs.put (Hrs.put (Hrs.put (Hrs.put (Hrs.put (Hrs.put (Hrs.put (Hrs.put (Hrs.put (Hrs.put (Hrs.put hrq3 VB 0 (.string a) hno) VB 1 (.string m) hno) VB 2 (.int .i64 mo) hno) VB 3 (.int .i64 1) hno) VB 4 (.int .i64 k) hno) VB 5 (.int .i64 k) hno) VB 6 (.slice ta tl tc) hno) VB 7 (.func (.func 104) #[] #[]) hno) VB 8 (.func (.func 105) #[] #[]) hno) VB 9 (.slice (some ⟨HB, 0, none⟩) 1 1) hno) VB 10 (.func (.func 106) #[] #[]) hno) VB 11 (.func (.func 107) #[] #[]) hno)
                refine hK.out _ _ hks (fun _ => ?_)
                clear hK K
                try simp only [Act.put, List.setIfInBounds_toArray, List.set_cons_zero, List.set_cons_succ]
                refine wpAnyH_done (by kernel_rfl) ?_ _
                have HBF := hid_intro hks.1
                have HVF := hid_intro hvs
                have HRF := hid_intro hrs
                clear hks hvs hrs y0 y1 y2 y3 y4 y5 y6 y7 y8 y9 y10 y11 f0 f1 f2 f3 f4 f5 f6 f7 f8 f9 f10 f11 vcs vfs hno
                go_wp2_with fail
                go_meet
                case rel => exact ⟨VB, HB, rfl, HBF, HVF, HRF⟩
            · go_simp
              try go_wp2_with fail
              have hka := UOx.below (B := w.heap.size) (W0 := W0) (a := a) (m := m) (n := n) (k := k) hkq2 ((Below.refl q2.heap.size q2).alloc (Nat.le_refl _) (Obj.cells #[.string ⟨#[]⟩, .string ⟨#[]⟩, .int .i64 0, .int .i64 0, .int .i64 0, .int .i64 0, .slice none 0 0, .nilFunc, .nilFunc, .slice none 0 0, .nilFunc, .nilFunc] 74))
              have hva := BlkW.new q2 [.string ⟨#[]⟩, .string ⟨#[]⟩, .int .i64 0, .int .i64 0, .int .i64 0, .int .i64 0, .slice none 0 0, .nilFunc, .nilFunc, .slice none 0 0, .nilFunc, .nilFunc] 74
              have hle := hkq2.1.size
              refine hK.out _ _ hka (fun _ => ?_)
              clear hK K
              try simp only [Act.put, List.setIfInBounds_toArray, List.set_cons_zero, List.set_cons_succ]
              obtain ⟨VB, hVB⟩ : ∃ VB, VB = q2.heap.size := ⟨_, rfl⟩
              obtain ⟨Wa, hWa⟩ : ∃ Wa, Wa = q2.alloc (Obj.cells #[.string ⟨#[]⟩, .string ⟨#[]⟩, .int .i64 0, .int .i64 0, .int .i64 0, .int .i64 0, .slice none 0 0, .nilFunc, .nilFunc, .slice none 0 0, .nilFunc, .nilFunc] 74) := ⟨_, rfl⟩
              have hvb : W0.heap.size ≤ VB := by rw [hVB]; exact hle
              rw [← hWa] at hka hva ⊢
              rw [← hVB] at hva ⊢
              clear hWa hVB hle
              refine wpAnyH_ready (rs := [21]) (by kernel_rfl) (by simp) ?_
              refine AllReadyH.cons (o := { dst := some 36, op := Op.buildSlice 27 1 #[(0, Operand.tmp 35)], type := 27, pos := "l07_window.go:246", after := #[{ on := 20, ground := Ground.data }], guard := none }) rfl (fun K hK => ?_) AllReadyH.nil
              go_simp
              try go_wp2_with fail
              have hkb := UOx.below (B := w.heap.size) (W0 := W0) (a := a) (m := m) (n := n) (k := k) hka ((Below.refl Wa.heap.size Wa).alloc (Nat.le_refl _) (Obj.cells #[.int .i64 hq, .int .i64 k] 102))
              have hrb := hrs_one1 hq k Wa 102
              have hvb2 := BlkW.below hva ((Below.refl Wa.heap.size Wa).alloc (Nat.le_refl _) (Obj.cells #[.int .i64 hq, .int .i64 k] 102))
              have hwl : VB < Wa.heap.size := hva.1.1
              refine hK.out _ _ hkb (fun _ => ?_)
              clear hK K
              try simp only [Act.put, List.setIfInBounds_toArray, List.set_cons_zero, List.set_cons_succ]
              obtain ⟨HB, hHB⟩ : ∃ HB, HB = Wa.heap.size := ⟨_, rfl⟩
              obtain ⟨Wb, hWb⟩ : ∃ Wb, Wb = Wa.alloc (Obj.cells #[.int .i64 hq, .int .i64 k] 102) := ⟨_, rfl⟩
              have hxb : HB < Wb.heap.size := by rw [hWb, hHB]; simp
              have hne : HB ≠ VB := by rw [hHB]; exact (Nat.ne_of_lt hwl).symm
              rw [← hWb] at hkb hrb ⊢
              rw [← hWb] at hvb2
              rw [← hHB] at hrb ⊢
              clear hWb hHB
              refine wpAnyH_ready (rs := [22]) (by kernel_rfl) (by simp) ?_
              refine AllReadyH.cons (o := { dst := some 37, op := Op.call { callee := Callee.value (Operand.func 69), args := #[Operand.tmp 36], argTypes := #[27] }, type := 72, pos := "l07_window.go:250", after := #[{ on := 21, ground := Ground.data }, { on := 17, ground := Ground.chain }], guard := none }) rfl (fun K hK => ?_) AllReadyH.nil
              go_simp
              go_at_call 69
              refine (impl_rhours _ _ _ _).mono ?_
              rintro e q3 ⟨rfl, hq3⟩
              try go_wp2_with fail
              have hkq3 := UOx.below (B := w.heap.size) (W0 := W0) (a := a) (m := m) (n := n) (k := k) hkb hq3
              have hvq3 := BlkW.below hvb2 hq3
              have hwq3 : VB < q3.heap.size := hvq3.1.1
              have hrq3 := Hrs.below hrb hq3
              have hxq3 : HB < q3.heap.size := Nat.lt_of_lt_of_le hxb hq3.size
              refine hK.out _ _ hkq3 (fun _ => ?_)
              clear hK K
              try simp only [Act.put, List.setIfInBounds_toArray, List.set_cons_zero, List.set_cons_succ]
              refine wpAnyH_take (i := 23) (oi := { dst := some 38, op := Op.build 74 #[(0, Operand.tmp 22), (1, Operand.tmp 27), (2, Operand.tmp 29), (3, Operand.tmp 37)], type := 74, pos := "l07_window.go:246", after := #[{ on := 7, ground := Ground.data }, { on := 12, ground := Ground.data }, { on := 14, ground := Ground.data }, { on := 22, ground := Ground.data }], guard := none }) (v := ?_) rfl (by kernel_rfl) (by kernel_rfl) (by kernel_rfl) (fun _ _ _ h => h) (Or.inl ⟨by rfl, ?_⟩) (by assumption) ?_
              rotate_left
              · (intro w hSw; (try dsimp only at hSw); go_simp) <;> with_reducible rfl
              try simp only [Act.put, List.setIfInBounds_toArray, List.set_cons_zero, List.set_cons_succ]
              refine wpAnyH_ready (rs := [25]) (by kernel_rfl) (by simp) ?_
              refine AllReadyH.cons (o := { dst := none, op := Op.store 74 (Operand.tmp 4) (Operand.tmp 38), type := 0, pos := "l07_window.go:246", after := #[{ on := 24, ground := Ground.data }, { on := 23, ground := Ground.data }, { on := 22, ground := Ground.chain }, { on := 0, ground := Ground.phase }, { on := 1, ground := Ground.phase }, { on := 2, ground := Ground.phase }, { on := 3, ground := Ground.phase }, { on := 4, ground := Ground.phase }, { on := 5, ground := Ground.phase }, { on := 6, ground := Ground.phase }, { on := 7, ground := Ground.phase }, { on := 8, ground := Ground.phase }, { on := 9, ground := Ground.phase }, { on := 10, ground := Ground.phase }, { on := 11, ground := Ground.phase }, { on := 12, ground := Ground.phase }, { on := 13, ground := Ground.phase }, { on := 14, ground := Ground.phase }, { on := 15, ground := Ground.phase }, { on := 16, ground := Ground.phase }, { on := 17, ground := Ground.phase }, { on := 18, ground := Ground.phase }, { on := 19, ground := Ground.phase }, { on := 20, ground := Ground.phase }, { on := 21, ground := Ground.phase }, { on := 22, ground := Ground.phase }, { on := 23, ground := Ground.phase }, { on := 24, ground := Ground.phase }], guard := none }) rfl (fun K hK => ?_) AllReadyH.nil
              obtain ⟨⟨vl, vcs⟩, vfs⟩ := hvq3
              have y0 : q3.cell? ⟨VB, 0, none⟩ = some (.string ⟨#[]⟩) := vcs 0 (by simp)
              have f0 := vfs 0 (by simp)
              have y1 : q3.cell? ⟨VB, 1, none⟩ = some (.string ⟨#[]⟩) := vcs 1 (by simp)
              have f1 := vfs 1 (by simp)
              have y2 : q3.cell? ⟨VB, 2, none⟩ = some (.int .i64 0) := vcs 2 (by simp)
              have f2 := vfs 2 (by simp)
              have y3 : q3.cell? ⟨VB, 3, none⟩ = some (.int .i64 0) := vcs 3 (by simp)
              have f3 := vfs 3 (by simp)
              have y4 : q3.cell? ⟨VB, 4, none⟩ = some (.int .i64 0) := vcs 4 (by simp)
              have f4 := vfs 4 (by simp)
              have y5 : q3.cell? ⟨VB, 5, none⟩ = some (.int .i64 0) := vcs 5 (by simp)
              have f5 := vfs 5 (by simp)
              have y6 : q3.cell? ⟨VB, 6, none⟩ = some (.slice none 0 0) := vcs 6 (by simp)
              have f6 := vfs 6 (by simp)
              have y7 : q3.cell? ⟨VB, 7, none⟩ = some (.nilFunc) := vcs 7 (by simp)
              have f7 := vfs 7 (by simp)
              have y8 : q3.cell? ⟨VB, 8, none⟩ = some (.nilFunc) := vcs 8 (by simp)
              have f8 := vfs 8 (by simp)
              have y9 : q3.cell? ⟨VB, 9, none⟩ = some (.slice none 0 0) := vcs 9 (by simp)
              have f9 := vfs 9 (by simp)
              have y10 : q3.cell? ⟨VB, 10, none⟩ = some (.nilFunc) := vcs 10 (by simp)
              have f10 := vfs 10 (by simp)
              have y11 : q3.cell? ⟨VB, 11, none⟩ = some (.nilFunc) := vcs 11 (by simp)
              have f11 := vfs 11 (by simp)
              go_simp
              try go_wp2_with fail
              have hno : ∀ b off, (some ⟨HB, 0, none⟩ : Option Addr) = some ⟨b, off, none⟩ → b ≠ VB := fun b off e => by simp at e; omega
              have hks := (UOx.put (B := w.heap.size) (W0 := W0) (a := a) (m := m) (n := n) (k := k) (UOx.put (B := w.heap.size) (W0 := W0) (a := a) (m := m) (n := n) (k := k) (UOx.put (B := w.heap.size) (W0 := W0) (a := a) (m := m) (n := n) (k := k) (UOx.put (B := w.heap.size) (W0 := W0) (a := a) (m := m) (n := n) (k := k) (UOx.put (B := w.heap.size) (W0 := W0) (a := a) (m := m) (n := n) (k := k) (UOx.put (B := w.heap.size) (W0 := W0) (a := a) (m := m) (n := n) (k := k) (UOx.put (B := w.heap.size) (W0 := W0) (a := a) (m := m) (n := n) (k := k) (UOx.put (B := w.heap.size) (W0 := W0) (a := a) (m := m) (n := n) (k := k) (UOx.put (B := w.heap.size) (W0 := W0) (a := a) (m := m) (n := n) (k := k) (UOx.put (B := w.heap.size) (W0 := W0) (a := a) (m := m) (n := n) (k := k) (UOx.put (B := w.heap.size) (W0 := W0) (a := a) (m := m) (n := n) (k := k) (UOx.put (B := w.heap.size) (W0 := W0) (a := a) (m := m) (n := n) (k := k) hkq3 VB 0 (.string a) hvb) VB 1 (.string m) hvb) VB 2 (.int .i64 mo) hvb) VB 3 (.int .i64 1) hvb) VB 4 (.int .i64 k) hvb) VB 5 (.int .i64 k) hvb) VB 6 (.slice ta tl tc) hvb) VB 7 (.func (.func 104) #[] #[]) hvb) VB 8 (.func (.func 105) #[] #[]) hvb) VB 9 (.slice (some ⟨HB, 0, none⟩) 1 1) hvb) VB 10 (.func (.func 106) #[] #[]) hvb) VB 11 (.func (.func 107) #[] #[]) hvb)
              have hvs := (BlkW.set (BlkW.set (BlkW.set (BlkW.set (BlkW.set (BlkW.set (BlkW.set (BlkW.set (BlkW.set (BlkW.set (BlkW.set (BlkW.set (⟨⟨vl, vcs⟩, vfs⟩ : BlkW VB [.string ⟨#[]⟩, .string ⟨#[]⟩, .int .i64 0, .int .i64 0, .int .i64 0, .int .i64 0, .slice none 0 0, .nilFunc, .nilFunc, .slice none 0 0, .nilFunc, .nilFunc] q3) 0 (.string a) (by simp)) 1 (.string m) (by simp)) 2 (.int .i64 mo) (by simp)) 3 (.int .i64 1) (by simp)) 4 (.int .i64 k) (by simp)) 5 (.int .i64 k) (by simp)) 6 (.slice ta tl tc) (by simp)) 7 (.func (.func 104) #[] #[]) (by simp)) 8 (.func (.func 105) #[] #[]) (by simp)) 9 (.slice (some ⟨HB, 0, none⟩) 1 1) (by simp)) 10 (.func (.func 106) #[] #[]) (by simp)) 11 (.func (.func 107) #[] #[]) (by simp))
              have hrs := (Hrs.put (Hrs.put (Hrs.put (Hrs.put (Hrs.put (Hrs.put (Hrs.put (Hrs.put (Hrs.put (Hrs.put (Hrs.put (Hrs.put hrq3 VB 0 (.string a) hno) VB 1 (.string m) hno) VB 2 (.int .i64 mo) hno) VB 3 (.int .i64 1) hno) VB 4 (.int .i64 k) hno) VB 5 (.int .i64 k) hno) VB 6 (.slice ta tl tc) hno) VB 7 (.func (.func 104) #[] #[]) hno) VB 8 (.func (.func 105) #[] #[]) hno) VB 9 (.slice (some ⟨HB, 0, none⟩) 1 1) hno) VB 10 (.func (.func 106) #[] #[]) hno) VB 11 (.func (.func 107) #[] #[]) hno)
              refine hK.out _ _ hks (fun _ => ?_)
              clear hK K
              try simp only [Act.put, List.setIfInBounds_toArray, List.set_cons_zero, List.set_cons_succ]
              refine wpAnyH_done (by kernel_rfl) ?_ _
              have HBF := hid_intro hks.1
              have HVF := hid_intro hvs
              have HRF := hid_intro hrs
              clear hks hvs hrs y0 y1 y2 y3 y4 y5 y6 y7 y8 y9 y10 y11 f0 f1 f2 f3 f4 f5 f6 f7 f8 f9 f10 f11 vcs vfs hno
              go_wp2_with fail
              go_meet
              case rel => exact ⟨VB, HB, rfl, HBF, HVF, HRF⟩
          · go_simp
            try go_wp2_with fail
            have hka := UOx.below (B := w.heap.size) (W0 := W0) (a := a) (m := m) (n := n) (k := k) hkq2 ((Below.refl q2.heap.size q2).alloc (Nat.le_refl _) (Obj.cells #[.string ⟨#[]⟩, .string ⟨#[]⟩, .int .i64 0, .int .i64 0, .int .i64 0, .int .i64 0, .slice none 0 0, .nilFunc, .nilFunc, .slice none 0 0, .nilFunc, .nilFunc] 74))
            have hva := BlkW.new q2 [.string ⟨#[]⟩, .string ⟨#[]⟩, .int .i64 0, .int .i64 0, .int .i64 0, .int .i64 0, .slice none 0 0, .nilFunc, .nilFunc, .slice none 0 0, .nilFunc, .nilFunc] 74
            have hle := hkq2.1.size
            refine hK.out _ _ hka (fun _ => ?_)
            clear hK K
            try simp only [Act.put, List.setIfInBounds_toArray, List.set_cons_zero, List.set_cons_succ]
            obtain ⟨VB, hVB⟩ : ∃ VB, VB = q2.heap.size := ⟨_, rfl⟩
            obtain ⟨Wa, hWa⟩ : ∃ Wa, Wa = q2.alloc (Obj.cells #[.string ⟨#[]⟩, .string ⟨#[]⟩, .int .i64 0, .int .i64 0, .int .i64 0, .int .i64 0, .slice none 0 0, .nilFunc, .nilFunc, .slice none 0 0, .nilFunc, .nilFunc] 74) := ⟨_, rfl⟩
            have hvb : W0.heap.size ≤ VB := by rw [hVB]; exact hle
            rw [← hWa] at hka hva ⊢
            rw [← hVB] at hva ⊢
            clear hWa hVB hle
            refine wpAnyH_ready (rs := [17]) (by kernel_rfl) (by simp) ?_
            refine AllReadyH.cons (o := { dst := some 32, op := Op.call { callee := Callee.value (Operand.func 88), args := #[Operand.tmp 31], argTypes := #[2] }, type := 2, pos := "l07_window.go:250", after := #[{ on := 16, ground := Ground.data }, { on := 14, ground := Ground.chain }], guard := none }) rfl (fun K hK => ?_) AllReadyH.nil
            go_simp
            go_at_call 88
            refine (HHo.out _).mono ?_
            rintro e wh ⟨rfl, hwh⟩
            rw [hwh]
            clear hwh wh
            try go_wp2_with fail
            refine hK.out _ _ hka (fun _ => ?_)
            clear hK K
            try simp only [Act.put, List.setIfInBounds_toArray, List.set_cons_zero, List.set_cons_succ]
            refine wpAnyH_take (i := 20) (oi := { dst := some 35, op := Op.build 102 #[(0, Operand.tmp 32), (1, Operand.tmp 34)], type := 102, pos := "l07_window.go:246", after := #[{ on := 17, ground := Ground.data }, { on := 19, ground := Ground.data }], guard := none }) (v := ?_) rfl (by kernel_rfl) (by kernel_rfl) (by kernel_rfl) (fun _ _ _ h => h) (Or.inl ⟨by rfl, ?_⟩) (by assumption) ?_
            rotate_left
            · (intro w hSw; (try dsimp only at hSw); go_simp) <;> with_reducible rfl
            try simp only [Act.put, List.setIfInBounds_toArray, List.set_cons_zero, List.set_cons_succ]
            refine wpAnyH_ready (rs := [21]) (by kernel_rfl) (by simp) ?_
            refine AllReadyH.cons (o := { dst := some 36, op := Op.buildSlice 27 1 #[(0, Operand.tmp 35)], type := 27, pos := "l07_window.go:246", after := #[{ on := 20, ground := Ground.data }], guard := none }) rfl (fun K hK => ?_) AllReadyH.nil
            go_simp
            try go_wp2_with fail
            have hkb := UOx.below (B := w.heap.size) (W0 := W0) (a := a) (m := m) (n := n) (k := k) hka ((Below.refl Wa.heap.size Wa).alloc (Nat.le_refl _) (Obj.cells #[.int .i64 hq, .int .i64 k] 102))
            have hrb := hrs_one1 hq k Wa 102
            have hvb2 := BlkW.below hva ((Below.refl Wa.heap.size Wa).alloc (Nat.le_refl _) (Obj.cells #[.int .i64 hq, .int .i64 k] 102))
            have hwl : VB < Wa.heap.size := hva.1.1
            refine hK.out _ _ hkb (fun _ => ?_)
            clear hK K
            try simp only [Act.put, List.setIfInBounds_toArray, List.set_cons_zero, List.set_cons_succ]
            obtain ⟨HB, hHB⟩ : ∃ HB, HB = Wa.heap.size := ⟨_, rfl⟩
            obtain ⟨Wb, hWb⟩ : ∃ Wb, Wb = Wa.alloc (Obj.cells #[.int .i64 hq, .int .i64 k] 102) := ⟨_, rfl⟩
            have hxb : HB < Wb.heap.size := by rw [hWb, hHB]; simp
            have hne : HB ≠ VB := by rw [hHB]; exact (Nat.ne_of_lt hwl).symm
            rw [← hWb] at hkb hrb ⊢
            rw [← hWb] at hvb2
            rw [← hHB] at hrb ⊢
            clear hWb hHB
            refine wpAnyH_ready (rs := [22]) (by kernel_rfl) (by simp) ?_
            refine AllReadyH.cons (o := { dst := some 37, op := Op.call { callee := Callee.value (Operand.func 69), args := #[Operand.tmp 36], argTypes := #[27] }, type := 72, pos := "l07_window.go:250", after := #[{ on := 21, ground := Ground.data }, { on := 17, ground := Ground.chain }], guard := none }) rfl (fun K hK => ?_) AllReadyH.nil
            go_simp
            go_at_call 69
            refine (impl_rhours _ _ _ _).mono ?_
            rintro e q3 ⟨rfl, hq3⟩
            try go_wp2_with fail
            have hkq3 := UOx.below (B := w.heap.size) (W0 := W0) (a := a) (m := m) (n := n) (k := k) hkb hq3
            have hvq3 := BlkW.below hvb2 hq3
            have hwq3 : VB < q3.heap.size := hvq3.1.1
            have hrq3 := Hrs.below hrb hq3
            have hxq3 : HB < q3.heap.size := Nat.lt_of_lt_of_le hxb hq3.size
            refine hK.out _ _ hkq3 (fun _ => ?_)
            clear hK K
            try simp only [Act.put, List.setIfInBounds_toArray, List.set_cons_zero, List.set_cons_succ]
            refine wpAnyH_take (i := 23) (oi := { dst := some 38, op := Op.build 74 #[(0, Operand.tmp 22), (1, Operand.tmp 27), (2, Operand.tmp 29), (3, Operand.tmp 37)], type := 74, pos := "l07_window.go:246", after := #[{ on := 7, ground := Ground.data }, { on := 12, ground := Ground.data }, { on := 14, ground := Ground.data }, { on := 22, ground := Ground.data }], guard := none }) (v := ?_) rfl (by kernel_rfl) (by kernel_rfl) (by kernel_rfl) (fun _ _ _ h => h) (Or.inl ⟨by rfl, ?_⟩) (by assumption) ?_
            rotate_left
            · (intro w hSw; (try dsimp only at hSw); go_simp) <;> with_reducible rfl
            try simp only [Act.put, List.setIfInBounds_toArray, List.set_cons_zero, List.set_cons_succ]
            refine wpAnyH_ready (rs := [25]) (by kernel_rfl) (by simp) ?_
            refine AllReadyH.cons (o := { dst := none, op := Op.store 74 (Operand.tmp 4) (Operand.tmp 38), type := 0, pos := "l07_window.go:246", after := #[{ on := 24, ground := Ground.data }, { on := 23, ground := Ground.data }, { on := 22, ground := Ground.chain }, { on := 0, ground := Ground.phase }, { on := 1, ground := Ground.phase }, { on := 2, ground := Ground.phase }, { on := 3, ground := Ground.phase }, { on := 4, ground := Ground.phase }, { on := 5, ground := Ground.phase }, { on := 6, ground := Ground.phase }, { on := 7, ground := Ground.phase }, { on := 8, ground := Ground.phase }, { on := 9, ground := Ground.phase }, { on := 10, ground := Ground.phase }, { on := 11, ground := Ground.phase }, { on := 12, ground := Ground.phase }, { on := 13, ground := Ground.phase }, { on := 14, ground := Ground.phase }, { on := 15, ground := Ground.phase }, { on := 16, ground := Ground.phase }, { on := 17, ground := Ground.phase }, { on := 18, ground := Ground.phase }, { on := 19, ground := Ground.phase }, { on := 20, ground := Ground.phase }, { on := 21, ground := Ground.phase }, { on := 22, ground := Ground.phase }, { on := 23, ground := Ground.phase }, { on := 24, ground := Ground.phase }], guard := none }) rfl (fun K hK => ?_) AllReadyH.nil
            obtain ⟨⟨vl, vcs⟩, vfs⟩ := hvq3
            have y0 : q3.cell? ⟨VB, 0, none⟩ = some (.string ⟨#[]⟩) := vcs 0 (by simp)
            have f0 := vfs 0 (by simp)
            have y1 : q3.cell? ⟨VB, 1, none⟩ = some (.string ⟨#[]⟩) := vcs 1 (by simp)
            have f1 := vfs 1 (by simp)
            have y2 : q3.cell? ⟨VB, 2, none⟩ = some (.int .i64 0) := vcs 2 (by simp)
            have f2 := vfs 2 (by simp)
            have y3 : q3.cell? ⟨VB, 3, none⟩ = some (.int .i64 0) := vcs 3 (by simp)
            have f3 := vfs 3 (by simp)
            have y4 : q3.cell? ⟨VB, 4, none⟩ = some (.int .i64 0) := vcs 4 (by simp)
            have f4 := vfs 4 (by simp)
            have y5 : q3.cell? ⟨VB, 5, none⟩ = some (.int .i64 0) := vcs 5 (by simp)
            have f5 := vfs 5 (by simp)
            have y6 : q3.cell? ⟨VB, 6, none⟩ = some (.slice none 0 0) := vcs 6 (by simp)
            have f6 := vfs 6 (by simp)
            have y7 : q3.cell? ⟨VB, 7, none⟩ = some (.nilFunc) := vcs 7 (by simp)
            have f7 := vfs 7 (by simp)
            have y8 : q3.cell? ⟨VB, 8, none⟩ = some (.nilFunc) := vcs 8 (by simp)
            have f8 := vfs 8 (by simp)
            have y9 : q3.cell? ⟨VB, 9, none⟩ = some (.slice none 0 0) := vcs 9 (by simp)
            have f9 := vfs 9 (by simp)
            have y10 : q3.cell? ⟨VB, 10, none⟩ = some (.nilFunc) := vcs 10 (by simp)
            have f10 := vfs 10 (by simp)
            have y11 : q3.cell? ⟨VB, 11, none⟩ = some (.nilFunc) := vcs 11 (by simp)
            have f11 := vfs 11 (by simp)
            go_simp
            try go_wp2_with fail
            have hno : ∀ b off, (some ⟨HB, 0, none⟩ : Option Addr) = some ⟨b, off, none⟩ → b ≠ VB := fun b off e => by simp at e; omega
            have hks := (UOx.put (B := w.heap.size) (W0 := W0) (a := a) (m := m) (n := n) (k := k) (UOx.put (B := w.heap.size) (W0 := W0) (a := a) (m := m) (n := n) (k := k) (UOx.put (B := w.heap.size) (W0 := W0) (a := a) (m := m) (n := n) (k := k) (UOx.put (B := w.heap.size) (W0 := W0) (a := a) (m := m) (n := n) (k := k) (UOx.put (B := w.heap.size) (W0 := W0) (a := a) (m := m) (n := n) (k := k) (UOx.put (B := w.heap.size) (W0 := W0) (a := a) (m := m) (n := n) (k := k) (UOx.put (B := w.heap.size) (W0 := W0) (a := a) (m := m) (n := n) (k := k) (UOx.put (B := w.heap.size) (W0 := W0) (a := a) (m := m) (n := n) (k := k) (UOx.put (B := w.heap.size) (W0 := W0) (a := a) (m := m) (n := n) (k := k) (UOx.put (B := w.heap.size) (W0 := W0) (a := a) (m := m) (n := n) (k := k) (UOx.put (B := w.heap.size) (W0 := W0) (a := a) (m := m) (n := n) (k := k) (UOx.put (B := w.heap.size) (W0 := W0) (a := a) (m := m) (n := n) (k := k) hkq3 VB 0 (.string a) hvb) VB 1 (.string m) hvb) VB 2 (.int .i64 mo) hvb) VB 3 (.int .i64 1) hvb) VB 4 (.int .i64 k) hvb) VB 5 (.int .i64 k) hvb) VB 6 (.slice ta tl tc) hvb) VB 7 (.func (.func 104) #[] #[]) hvb) VB 8 (.func (.func 105) #[] #[]) hvb) VB 9 (.slice (some ⟨HB, 0, none⟩) 1 1) hvb) VB 10 (.func (.func 106) #[] #[]) hvb) VB 11 (.func (.func 107) #[] #[]) hvb)
            have hvs := (BlkW.set (BlkW.set (BlkW.set (BlkW.set (BlkW.set (BlkW.set (BlkW.set (BlkW.set (BlkW.set (BlkW.set (BlkW.set (BlkW.set (⟨⟨vl, vcs⟩, vfs⟩ : BlkW VB [.string ⟨#[]⟩, .string ⟨#[]⟩, .int .i64 0, .int .i64 0, .int .i64 0, .int .i64 0, .slice none 0 0, .nilFunc, .nilFunc, .slice none 0 0, .nilFunc, .nilFunc] q3) 0 (.string a) (by simp)) 1 (.string m) (by simp)) 2 (.int .i64 mo) (by simp)) 3 (.int .i64 1) (by simp)) 4 (.int .i64 k) (by simp)) 5 (.int .i64 k) (by simp)) 6 (.slice ta tl tc) (by simp)) 7 (.func (.func 104) #[] #[]) (by simp)) 8 (.func (.func 105) #[] #[]) (by simp)) 9 (.slice (some ⟨HB, 0, none⟩) 1 1) (by simp)) 10 (.func (.func 106) #[] #[]) (by simp)) 11 (.func (.func 107) #[] #[]) (by simp))
            have hrs := (Hrs.put (Hrs.put (Hrs.put (Hrs.put (Hrs.put (Hrs.put (Hrs.put (Hrs.put (Hrs.put (Hrs.put (Hrs.put (Hrs.put hrq3 VB 0 (.string a) hno) VB 1 (.string m) hno) VB 2 (.int .i64 mo) hno) VB 3 (.int .i64 1) hno) VB 4 (.int .i64 k) hno) VB 5 (.int .i64 k) hno) VB 6 (.slice ta tl tc) hno) VB 7 (.func (.func 104) #[] #[]) hno) VB 8 (.func (.func 105) #[] #[]) hno) VB 9 (.slice (some ⟨HB, 0, none⟩) 1 1) hno) VB 10 (.func (.func 106) #[] #[]) hno) VB 11 (.func (.func 107) #[] #[]) hno)
            refine hK.out _ _ hks (fun _ => ?_)
            clear hK K
            try simp only [Act.put, List.setIfInBounds_toArray, List.set_cons_zero, List.set_cons_succ]
            refine wpAnyH_done (by kernel_rfl) ?_ _
            have HBF := hid_intro hks.1
            have HVF := hid_intro hvs
            have HRF := hid_intro hrs
            clear hks hvs hrs y0 y1 y2 y3 y4 y5 y6 y7 y8 y9 y10 y11 f0 f1 f2 f3 f4 f5 f6 f7 f8 f9 f10 f11 vcs vfs hno
            go_wp2_with fail
            go_meet
            case rel => exact ⟨VB, HB, rfl, HBF, HVF, HRF⟩
        · go_simp
          try go_wp2_with fail
          have hka := UOx.below (B := w.heap.size) (W0 := W0) (a := a) (m := m) (n := n) (k := k) hkq1 ((Below.refl q1.heap.size q1).alloc (Nat.le_refl _) (Obj.cells #[.string ⟨#[]⟩, .string ⟨#[]⟩, .int .i64 0, .int .i64 0, .int .i64 0, .int .i64 0, .slice none 0 0, .nilFunc, .nilFunc, .slice none 0 0, .nilFunc, .nilFunc] 74))
          have hva := BlkW.new q1 [.string ⟨#[]⟩, .string ⟨#[]⟩, .int .i64 0, .int .i64 0, .int .i64 0, .int .i64 0, .slice none 0 0, .nilFunc, .nilFunc, .slice none 0 0, .nilFunc, .nilFunc] 74
          have hle := hkq1.1.size
          refine hK.out _ _ hka (fun _ => ?_)
          clear hK K
          try simp only [Act.put, List.setIfInBounds_toArray, List.set_cons_zero, List.set_cons_succ]
          obtain ⟨VB, hVB⟩ : ∃ VB, VB = q1.heap.size := ⟨_, rfl⟩
          obtain ⟨Wa, hWa⟩ : ∃ Wa, Wa = q1.alloc (Obj.cells #[.string ⟨#[]⟩, .string ⟨#[]⟩, .int .i64 0, .int .i64 0, .int .i64 0, .int .i64 0, .slice none 0 0, .nilFunc, .nilFunc, .slice none 0 0, .nilFunc, .nilFunc] 74) := ⟨_, rfl⟩
          have hvb : W0.heap.size ≤ VB := by rw [hVB]; exact hle
          rw [← hWa] at hka hva ⊢
          rw [← hVB] at hva ⊢
          clear hWa hVB hle
          refine wpAnyH_ready (rs := [14]) (by kernel_rfl) (by simp) ?_
          refine AllReadyH.cons (o := { dst := some 29, op := Op.call { callee := Callee.value (Operand.func 68), args := #[Operand.tmp 28], argTypes := #[22] }, type := 68, pos := "l07_window.go:249", after := #[{ on := 13, ground := Ground.data }, { on := 6, ground := Ground.chain }], guard := none }) rfl (fun K hK => ?_) AllReadyH.nil
          go_simp
          go_at_call 68
          refine (impl_rtags _ _ _ _).mono ?_
          rintro e q2 ⟨rfl, hq2⟩
          try go_wp2_with fail
          have hkq2 := UOx.below (B := w.heap.size) (W0 := W0) (a := a) (m := m) (n := n) (k := k) hka hq2
          have hvq2 := BlkW.below hva hq2
          have hwq2 : VB < q2.heap.size := hvq2.1.1
          refine hK.out _ _ hkq2 (fun _ => ?_)
          clear hK K
          try simp only [Act.put, List.setIfInBounds_toArray, List.set_cons_zero, List.set_cons_succ]
          refine wpAnyH_ready (rs := [17]) (by kernel_rfl) (by simp) ?_
          refine AllReadyH.cons (o := { dst := some 32, op := Op.call { callee := Callee.value (Operand.func 88), args := #[Operand.tmp 31], argTypes := #[2] }, type := 2, pos := "l07_window.go:250", after := #[{ on := 16, ground := Ground.data }, { on := 14, ground := Ground.chain }], guard := none }) rfl (fun K hK => ?_) AllReadyH.nil
          go_simp
          go_at_call 88
          refine (HHo.out _).mono ?_
          rintro e wh ⟨rfl, hwh⟩
          rw [hwh]
          clear hwh wh
          try go_wp2_with fail
          refine hK.out _ _ hkq2 (fun _ => ?_)
          clear hK K
          try simp only [Act.put, List.setIfInBounds_toArray, List.set_cons_zero, List.set_cons_succ]
          refine wpAnyH_take (i := 20) (oi := { dst := some 35, op := Op.build 102 #[(0, Operand.tmp 32), (1, Operand.tmp 34)], type := 102, pos := "l07_window.go:246", after := #[{ on := 17, ground := Ground.data }, { on := 19, ground := Ground.data }], guard := none }) (v := ?_) rfl (by kernel_rfl) (by kernel_rfl) (by kernel_rfl) (fun _ _ _ h => h) (Or.inl ⟨by rfl, ?_⟩) (by assumption) ?_
          rotate_left
          · (intro w hSw; (try dsimp only at hSw); go_simp) <;> with_reducible rfl
          try simp only [Act.put, List.setIfInBounds_toArray, List.set_cons_zero, List.set_cons_succ]
          refine wpAnyH_ready (rs := [21]) (by kernel_rfl) (by simp) ?_
          refine AllReadyH.cons (o := { dst := some 36, op := Op.buildSlice 27 1 #[(0, Operand.tmp 35)], type := 27, pos := "l07_window.go:246", after := #[{ on := 20, ground := Ground.data }], guard := none }) rfl (fun K hK => ?_) AllReadyH.nil
          go_simp
          try go_wp2_with fail
          have hkb := UOx.below (B := w.heap.size) (W0 := W0) (a := a) (m := m) (n := n) (k := k) hkq2 ((Below.refl q2.heap.size q2).alloc (Nat.le_refl _) (Obj.cells #[.int .i64 hq, .int .i64 k] 102))
          have hrb := hrs_one1 hq k q2 102
          have hvb2 := BlkW.below hvq2 ((Below.refl q2.heap.size q2).alloc (Nat.le_refl _) (Obj.cells #[.int .i64 hq, .int .i64 k] 102))
          have hwl : VB < q2.heap.size := hvq2.1.1
          refine hK.out _ _ hkb (fun _ => ?_)
          clear hK K
          try simp only [Act.put, List.setIfInBounds_toArray, List.set_cons_zero, List.set_cons_succ]
          obtain ⟨HB, hHB⟩ : ∃ HB, HB = q2.heap.size := ⟨_, rfl⟩
          obtain ⟨Wb, hWb⟩ : ∃ Wb, Wb = q2.alloc (Obj.cells #[.int .i64 hq, .int .i64 k] 102) := ⟨_, rfl⟩
          have hxb : HB < Wb.heap.size := by rw [hWb, hHB]; simp
          have hne : HB ≠ VB := by rw [hHB]; exact (Nat.ne_of_lt hwl).symm
          rw [← hWb] at hkb hrb ⊢
          rw [← hWb] at hvb2
          rw [← hHB] at hrb ⊢
          clear hWb hHB
          refine wpAnyH_ready (rs := [22]) (by kernel_rfl) (by simp) ?_
          refine AllReadyH.cons (o := { dst := some 37, op := Op.call { callee := Callee.value (Operand.func 69), args := #[Operand.tmp 36], argTypes := #[27] }, type := 72, pos := "l07_window.go:250", after := #[{ on := 21, ground := Ground.data }, { on := 17, ground := Ground.chain }], guard := none }) rfl (fun K hK => ?_) AllReadyH.nil
          go_simp
          go_at_call 69
          refine (impl_rhours _ _ _ _).mono ?_
          rintro e q3 ⟨rfl, hq3⟩
          try go_wp2_with fail
          have hkq3 := UOx.below (B := w.heap.size) (W0 := W0) (a := a) (m := m) (n := n) (k := k) hkb hq3
          have hvq3 := BlkW.below hvb2 hq3
          have hwq3 : VB < q3.heap.size := hvq3.1.1
          have hrq3 := Hrs.below hrb hq3
          have hxq3 : HB < q3.heap.size := Nat.lt_of_lt_of_le hxb hq3.size
          refine hK.out _ _ hkq3 (fun _ => ?_)
          clear hK K
          try simp only [Act.put, List.setIfInBounds_toArray, List.set_cons_zero, List.set_cons_succ]
          refine wpAnyH_take (i := 23) (oi := { dst := some 38, op := Op.build 74 #[(0, Operand.tmp 22), (1, Operand.tmp 27), (2, Operand.tmp 29), (3, Operand.tmp 37)], type := 74, pos := "l07_window.go:246", after := #[{ on := 7, ground := Ground.data }, { on := 12, ground := Ground.data }, { on := 14, ground := Ground.data }, { on := 22, ground := Ground.data }], guard := none }) (v := ?_) rfl (by kernel_rfl) (by kernel_rfl) (by kernel_rfl) (fun _ _ _ h => h) (Or.inl ⟨by rfl, ?_⟩) (by assumption) ?_
          rotate_left
          · (intro w hSw; (try dsimp only at hSw); go_simp) <;> with_reducible rfl
          try simp only [Act.put, List.setIfInBounds_toArray, List.set_cons_zero, List.set_cons_succ]
          refine wpAnyH_ready (rs := [25]) (by kernel_rfl) (by simp) ?_
          refine AllReadyH.cons (o := { dst := none, op := Op.store 74 (Operand.tmp 4) (Operand.tmp 38), type := 0, pos := "l07_window.go:246", after := #[{ on := 24, ground := Ground.data }, { on := 23, ground := Ground.data }, { on := 22, ground := Ground.chain }, { on := 0, ground := Ground.phase }, { on := 1, ground := Ground.phase }, { on := 2, ground := Ground.phase }, { on := 3, ground := Ground.phase }, { on := 4, ground := Ground.phase }, { on := 5, ground := Ground.phase }, { on := 6, ground := Ground.phase }, { on := 7, ground := Ground.phase }, { on := 8, ground := Ground.phase }, { on := 9, ground := Ground.phase }, { on := 10, ground := Ground.phase }, { on := 11, ground := Ground.phase }, { on := 12, ground := Ground.phase }, { on := 13, ground := Ground.phase }, { on := 14, ground := Ground.phase }, { on := 15, ground := Ground.phase }, { on := 16, ground := Ground.phase }, { on := 17, ground := Ground.phase }, { on := 18, ground := Ground.phase }, { on := 19, ground := Ground.phase }, { on := 20, ground := Ground.phase }, { on := 21, ground := Ground.phase }, { on := 22, ground := Ground.phase }, { on := 23, ground := Ground.phase }, { on := 24, ground := Ground.phase }], guard := none }) rfl (fun K hK => ?_) AllReadyH.nil
          obtain ⟨⟨vl, vcs⟩, vfs⟩ := hvq3
          have y0 : q3.cell? ⟨VB, 0, none⟩ = some (.string ⟨#[]⟩) := vcs 0 (by simp)
          have f0 := vfs 0 (by simp)
          have y1 : q3.cell? ⟨VB, 1, none⟩ = some (.string ⟨#[]⟩) := vcs 1 (by simp)
          have f1 := vfs 1 (by simp)
          have y2 : q3.cell? ⟨VB, 2, none⟩ = some (.int .i64 0) := vcs 2 (by simp)
          have f2 := vfs 2 (by simp)
          have y3 : q3.cell? ⟨VB, 3, none⟩ = some (.int .i64 0) := vcs 3 (by simp)
          have f3 := vfs 3 (by simp)
          have y4 : q3.cell? ⟨VB, 4, none⟩ = some (.int .i64 0) := vcs 4 (by simp)
          have f4 := vfs 4 (by simp)
          have y5 : q3.cell? ⟨VB, 5, none⟩ = some (.int .i64 0) := vcs 5 (by simp)
          have f5 := vfs 5 (by simp)
          have y6 : q3.cell? ⟨VB, 6, none⟩ = some (.slice none 0 0) := vcs 6 (by simp)
          have f6 := vfs 6 (by simp)
          have y7 : q3.cell? ⟨VB, 7, none⟩ = some (.nilFunc) := vcs 7 (by simp)
          have f7 := vfs 7 (by simp)
          have y8 : q3.cell? ⟨VB, 8, none⟩ = some (.nilFunc) := vcs 8 (by simp)
          have f8 := vfs 8 (by simp)
          have y9 : q3.cell? ⟨VB, 9, none⟩ = some (.slice none 0 0) := vcs 9 (by simp)
          have f9 := vfs 9 (by simp)
          have y10 : q3.cell? ⟨VB, 10, none⟩ = some (.nilFunc) := vcs 10 (by simp)
          have f10 := vfs 10 (by simp)
          have y11 : q3.cell? ⟨VB, 11, none⟩ = some (.nilFunc) := vcs 11 (by simp)
          have f11 := vfs 11 (by simp)
          go_simp
          try go_wp2_with fail
          have hno : ∀ b off, (some ⟨HB, 0, none⟩ : Option Addr) = some ⟨b, off, none⟩ → b ≠ VB := fun b off e => by simp at e; omega
          have hks := (UOx.put (B := w.heap.size) (W0 := W0) (a := a) (m := m) (n := n) (k := k) (UOx.put (B := w.heap.size) (W0 := W0) (a := a) (m := m) (n := n) (k := k) (UOx.put (B := w.heap.size) (W0 := W0) (a := a) (m := m) (n := n) (k := k) (UOx.put (B := w.heap.size) (W0 := W0) (a := a) (m := m) (n := n) (k := k) (UOx.put (B := w.heap.size) (W0 := W0) (a := a) (m := m) (n := n) (k := k) (UOx.put (B := w.heap.size) (W0 := W0) (a := a) (m := m) (n := n) (k := k) (UOx.put (B := w.heap.size) (W0 := W0) (a := a) (m := m) (n := n) (k := k) (UOx.put (B := w.heap.size) (W0 := W0) (a := a) (m := m) (n := n) (k := k) (UOx.put (B := w.heap.size) (W0 := W0) (a := a) (m := m) (n := n) (k := k) (UOx.put (B := w.heap.size) (W0 := W0) (a := a) (m := m) (n := n) (k := k) (UOx.put (B := w.heap.size) (W0 := W0) (a := a) (m := m) (n := n) (k := k) (UOx.put (B := w.heap.size) (W0 := W0) (a := a) (m := m) (n := n) (k := k) hkq3 VB 0 (.string a) hvb) VB 1 (.string m) hvb) VB 2 (.int .i64 mo) hvb) VB 3 (.int .i64 1) hvb) VB 4 (.int .i64 k) hvb) VB 5 (.int .i64 k) hvb) VB 6 (.slice ta tl tc) hvb) VB 7 (.func (.func 104) #[] #[]) hvb) VB 8 (.func (.func 105) #[] #[]) hvb) VB 9 (.slice (some ⟨HB, 0, none⟩) 1 1) hvb) VB 10 (.func (.func 106) #[] #[]) hvb) VB 11 (.func (.func 107) #[] #[]) hvb)
          have hvs := (BlkW.set (BlkW.set (BlkW.set (BlkW.set (BlkW.set (BlkW.set (BlkW.set (BlkW.set (BlkW.set (BlkW.set (BlkW.set (BlkW.set (⟨⟨vl, vcs⟩, vfs⟩ : BlkW VB [.string ⟨#[]⟩, .string ⟨#[]⟩, .int .i64 0, .int .i64 0, .int .i64 0, .int .i64 0, .slice none 0 0, .nilFunc, .nilFunc, .slice none 0 0, .nilFunc, .nilFunc] q3) 0 (.string a) (by simp)) 1 (.string m) (by simp)) 2 (.int .i64 mo) (by simp)) 3 (.int .i64 1) (by simp)) 4 (.int .i64 k) (by simp)) 5 (.int .i64 k) (by simp)) 6 (.slice ta tl tc) (by simp)) 7 (.func (.func 104) #[] #[]) (by simp)) 8 (.func (.func 105) #[] #[]) (by simp)) 9 (.slice (some ⟨HB, 0, none⟩) 1 1) (by simp)) 10 (.func (.func 106) #[] #[]) (by simp)) 11 (.func (.func 107) #[] #[]) (by simp))
          have hrs := (Hrs.put (Hrs.put (Hrs.put (Hrs.put (Hrs.put (Hrs.put (Hrs.put (Hrs.put (Hrs.put (Hrs.put (Hrs.put (Hrs.put hrq3 VB 0 (.string a) hno) VB 1 (.string m) hno) VB 2 (.int .i64 mo) hno) VB 3 (.int .i64 1) hno) VB 4 (.int .i64 k) hno) VB 5 (.int .i64 k) hno) VB 6 (.slice ta tl tc) hno) VB 7 (.func (.func 104) #[] #[]) hno) VB 8 (.func (.func 105) #[] #[]) hno) VB 9 (.slice (some ⟨HB, 0, none⟩) 1 1) hno) VB 10 (.func (.func 106) #[] #[]) hno) VB 11 (.func (.func 107) #[] #[]) hno)
          refine hK.out _ _ hks (fun _ => ?_)
          clear hK K
          try simp only [Act.put, List.setIfInBounds_toArray, List.set_cons_zero, List.set_cons_succ]
          refine wpAnyH_done (by kernel_rfl) ?_ _
          have HBF := hid_intro hks.1
          have HVF := hid_intro hvs
          have HRF := hid_intro hrs
          clear hks hvs hrs y0 y1 y2 y3 y4 y5 y6 y7 y8 y9 y10 y11 f0 f1 f2 f3 f4 f5 f6 f7 f8 f9 f10 f11 vcs vfs hno
          go_wp2_with fail
          go_meet
          case rel => exact ⟨VB, HB, rfl, HBF, HVF, HRF⟩
      · go_simp
        try go_wp2_with fail
        have hka := UOx.below (B := w.heap.size) (W0 := W0) (a := a) (m := m) (n := n) (k := k) HS0.out ((Below.refl Wd.heap.size Wd).alloc (Nat.le_refl _) (Obj.cells #[.string ⟨#[]⟩, .string ⟨#[]⟩, .int .i64 0, .int .i64 0, .int .i64 0, .int .i64 0, .slice none 0 0, .nilFunc, .nilFunc, .slice none 0 0, .nilFunc, .nilFunc] 74))
        have hva := BlkW.new Wd [.string ⟨#[]⟩, .string ⟨#[]⟩, .int .i64 0, .int .i64 0, .int .i64 0, .int .i64 0, .slice none 0 0, .nilFunc, .nilFunc, .slice none 0 0, .nilFunc, .nilFunc] 74
        have hle := HS0.out.1.size
        refine hK.out _ _ hka (fun _ => ?_)
        clear hK K
        try simp only [Act.put, List.setIfInBounds_toArray, List.set_cons_zero, List.set_cons_succ]
        obtain ⟨VB, hVB⟩ : ∃ VB, VB = Wd.heap.size := ⟨_, rfl⟩
        obtain ⟨Wa, hWa⟩ : ∃ Wa, Wa = Wd.alloc (Obj.cells #[.string ⟨#[]⟩, .string ⟨#[]⟩, .int .i64 0, .int .i64 0, .int .i64 0, .int .i64 0, .slice none 0 0, .nilFunc, .nilFunc, .slice none 0 0, .nilFunc, .nilFunc] 74) := ⟨_, rfl⟩
        have hvb : W0.heap.size ≤ VB := by rw [hVB]; exact hle
        rw [← hWa] at hka hva ⊢
        rw [← hVB] at hva ⊢
        clear hWa hVB hle
        refine wpAnyH_ready (rs := [6]) (by kernel_rfl) (by simp) ?_
        refine AllReadyH.cons (o := { dst := some 21, op := Op.call { callee := Callee.value (Operand.func 87), args := #[Operand.tmp 20], argTypes := #[2] }, type := 2, pos := "l07_window.go:247", after := #[{ on := 5, ground := Ground.data }], guard := none }) rfl (fun K hK => ?_) AllReadyH.nil
        go_simp
        go_at_call 87
        refine (HMo.out _ (HLa.out _ hka.1)).mono ?_
        rintro e q1 ⟨rfl, hq1⟩
        try go_wp2_with fail
        have hkq1 := UOx.below (B := w.heap.size) (W0 := W0) (a := a) (m := m) (n := n) (k := k) hka hq1
        have hvq1 := BlkW.below hva hq1
        have hwq1 : VB < q1.heap.size := hvq1.1.1
        refine hK.out _ _ hkq1 (fun _ => ?_)
        clear hK K
        try simp only [Act.put, List.setIfInBounds_toArray, List.set_cons_zero, List.set_cons_succ]
        refine wpAnyH_take (i := 7) (oi := { dst := some 22, op := Op.build 62 #[(0, Operand.tmp 16), (1, Operand.tmp 18), (2, Operand.tmp 21)], type := 62, pos := "l07_window.go:246", after := #[{ on := 1, ground := Ground.data }, { on := 3, ground := Ground.data }, { on := 6, ground := Ground.data }], guard := none }) (v := ?_) rfl (by kernel_rfl) (by kernel_rfl) (by kernel_rfl) (fun _ _ _ h => h) (Or.inl ⟨by rfl, ?_⟩) (by assumption) ?_
        rotate_left
        · (intro w hSw; (try dsimp only at hSw); go_simp) <;> with_reducible rfl
        try simp only [Act.put, List.setIfInBounds_toArray, List.set_cons_zero, List.set_cons_succ]
        refine wpAnyH_ready (rs := [14]) (by kernel_rfl) (by simp) ?_
        refine AllReadyH.cons (o := { dst := some 29, op := Op.call { callee := Callee.value (Operand.func 68), args := #[Operand.tmp 28], argTypes := #[22] }, type := 68, pos := "l07_window.go:249", after := #[{ on := 13, ground := Ground.data }, { on := 6, ground := Ground.chain }], guard := none }) rfl (fun K hK => ?_) AllReadyH.nil
        go_simp
        go_at_call 68
        refine (impl_rtags _ _ _ _).mono ?_
        rintro e q2 ⟨rfl, hq2⟩
        try go_wp2_with fail
        have hkq2 := UOx.below (B := w.heap.size) (W0 := W0) (a := a) (m := m) (n := n) (k := k) hkq1 hq2
        have hvq2 := BlkW.below hvq1 hq2
        have hwq2 : VB < q2.heap.size := hvq2.1.1
        refine hK.out _ _ hkq2 (fun _ => ?_)
        clear hK K
        try simp only [Act.put, List.setIfInBounds_toArray, List.set_cons_zero, List.set_cons_succ]
        refine wpAnyH_ready (rs := [17]) (by kernel_rfl) (by simp) ?_
        refine AllReadyH.cons (o := { dst := some 32, op := Op.call { callee := Callee.value (Operand.func 88), args := #[Operand.tmp 31], argTypes := #[2] }, type := 2, pos := "l07_window.go:250", after := #[{ on := 16, ground := Ground.data }, { on := 14, ground := Ground.chain }], guard := none }) rfl (fun K hK => ?_) AllReadyH.nil
        go_simp
        go_at_call 88
        refine (HHo.out _).mono ?_
        rintro e wh ⟨rfl, hwh⟩
        rw [hwh]
        clear hwh wh
        try go_wp2_with fail
        refine hK.out _ _ hkq2 (fun _ => ?_)
        clear hK K
        try simp only [Act.put, List.setIfInBounds_toArray, List.set_cons_zero, List.set_cons_succ]
        refine wpAnyH_take (i := 20) (oi := { dst := some 35, op := Op.build 102 #[(0, Operand.tmp 32), (1, Operand.tmp 34)], type := 102, pos := "l07_window.go:246", after := #[{ on := 17, ground := Ground.data }, { on := 19, ground := Ground.data }], guard := none }) (v := ?_) rfl (by kernel_rfl) (by kernel_rfl) (by kernel_rfl) (fun _ _ _ h => h) (Or.inl ⟨by rfl, ?_⟩) (by assumption) ?_
        rotate_left
        · (intro w hSw; (try dsimp only at hSw); go_simp) <;> with_reducible rfl
        try simp only [Act.put, List.setIfInBounds_toArray, List.set_cons_zero, List.set_cons_succ]
        refine wpAnyH_ready (rs := [21]) (by kernel_rfl) (by simp) ?_
        refine AllReadyH.cons (o := { dst := some 36, op := Op.buildSlice 27 1 #[(0, Operand.tmp 35)], type := 27, pos := "l07_window.go:246", after := #[{ on := 20, ground := Ground.data }], guard := none }) rfl (fun K hK => ?_) AllReadyH.nil
        go_simp
        try go_wp2_with fail
        have hkb := UOx.below (B := w.heap.size) (W0 := W0) (a := a) (m := m) (n := n) (k := k) hkq2 ((Below.refl q2.heap.size q2).alloc (Nat.le_refl _) (Obj.cells #[.int .i64 hq, .int .i64 k] 102))
        have hrb := hrs_one1 hq k q2 102
        have hvb2 := BlkW.below hvq2 ((Below.refl q2.heap.size q2).alloc (Nat.le_refl _) (Obj.cells #[.int .i64 hq, .int .i64 k] 102))
        have hwl : VB < q2.heap.size := hvq2.1.1
        refine hK.out _ _ hkb (fun _ => ?_)
        clear hK K
        try simp only [Act.put, List.setIfInBounds_toArray, List.set_cons_zero, List.set_cons_succ]
        obtain ⟨HB, hHB⟩ : ∃ HB, HB = q2.heap.size := ⟨_, rfl⟩
        obtain ⟨Wb, hWb⟩ : ∃ Wb, Wb = q2.alloc (Obj.cells #[.int .i64 hq, .int .i64 k] 102) := ⟨_, rfl⟩
        have hxb : HB < Wb.heap.size := by rw [hWb, hHB]; simp
        have hne : HB ≠ VB := by rw [hHB]; exact (Nat.ne_of_lt hwl).symm
        rw [← hWb] at hkb hrb ⊢
        rw [← hWb] at hvb2
        rw [← hHB] at hrb ⊢
        clear hWb hHB
        refine wpAnyH_ready (rs := [22]) (by kernel_rfl) (by simp) ?_
        refine AllReadyH.cons (o := { dst := some 37, op := Op.call { callee := Callee.value (Operand.func 69), args := #[Operand.tmp 36], argTypes := #[27] }, type := 72, pos := "l07_window.go:250", after := #[{ on := 21, ground := Ground.data }, { on := 17, ground := Ground.chain }], guard := none }) rfl (fun K hK => ?_) AllReadyH.nil
        go_simp
        go_at_call 69
        refine (impl_rhours _ _ _ _).mono ?_
        rintro e q3 ⟨rfl, hq3⟩
        try go_wp2_with fail
        have hkq3 := UOx.below (B := w.heap.size) (W0 := W0) (a := a) (m := m) (n := n) (k := k) hkb hq3
        have hvq3 := BlkW.below hvb2 hq3
        have hwq3 : VB < q3.heap.size := hvq3.1.1
        have hrq3 := Hrs.below hrb hq3
        have hxq3 : HB < q3.heap.size := Nat.lt_of_lt_of_le hxb hq3.size
        refine hK.out _ _ hkq3 (fun _ => ?_)
        clear hK K
        try simp only [Act.put, List.setIfInBounds_toArray, List.set_cons_zero, List.set_cons_succ]
        refine wpAnyH_take (i := 23) (oi := { dst := some 38, op := Op.build 74 #[(0, Operand.tmp 22), (1, Operand.tmp 27), (2, Operand.tmp 29), (3, Operand.tmp 37)], type := 74, pos := "l07_window.go:246", after := #[{ on := 7, ground := Ground.data }, { on := 12, ground := Ground.data }, { on := 14, ground := Ground.data }, { on := 22, ground := Ground.data }], guard := none }) (v := ?_) rfl (by kernel_rfl) (by kernel_rfl) (by kernel_rfl) (fun _ _ _ h => h) (Or.inl ⟨by rfl, ?_⟩) (by assumption) ?_
        rotate_left
        · (intro w hSw; (try dsimp only at hSw); go_simp) <;> with_reducible rfl
        try simp only [Act.put, List.setIfInBounds_toArray, List.set_cons_zero, List.set_cons_succ]
        refine wpAnyH_ready (rs := [25]) (by kernel_rfl) (by simp) ?_
        refine AllReadyH.cons (o := { dst := none, op := Op.store 74 (Operand.tmp 4) (Operand.tmp 38), type := 0, pos := "l07_window.go:246", after := #[{ on := 24, ground := Ground.data }, { on := 23, ground := Ground.data }, { on := 22, ground := Ground.chain }, { on := 0, ground := Ground.phase }, { on := 1, ground := Ground.phase }, { on := 2, ground := Ground.phase }, { on := 3, ground := Ground.phase }, { on := 4, ground := Ground.phase }, { on := 5, ground := Ground.phase }, { on := 6, ground := Ground.phase }, { on := 7, ground := Ground.phase }, { on := 8, ground := Ground.phase }, { on := 9, ground := Ground.phase }, { on := 10, ground := Ground.phase }, { on := 11, ground := Ground.phase }, { on := 12, ground := Ground.phase }, { on := 13, ground := Ground.phase }, { on := 14, ground := Ground.phase }, { on := 15, ground := Ground.phase }, { on := 16, ground := Ground.phase }, { on := 17, ground := Ground.phase }, { on := 18, ground := Ground.phase }, { on := 19, ground := Ground.phase }, { on := 20, ground := Ground.phase }, { on := 21, ground := Ground.phase }, { on := 22, ground := Ground.phase }, { on := 23, ground := Ground.phase }, { on := 24, ground := Ground.phase }], guard := none }) rfl (fun K hK => ?_) AllReadyH.nil
        obtain ⟨⟨vl, vcs⟩, vfs⟩ := hvq3
        have y0 : q3.cell? ⟨VB, 0, none⟩ = some (.string ⟨#[]⟩) := vcs 0 (by simp)
        have f0 := vfs 0 (by simp)
        have y1 : q3.cell? ⟨VB, 1, none⟩ = some (.string ⟨#[]⟩) := vcs 1 (by simp)
        have f1 := vfs 1 (by simp)
        have y2 : q3.cell? ⟨VB, 2, none⟩ = some (.int .i64 0) := vcs 2 (by simp)
        have f2 := vfs 2 (by simp)
        have y3 : q3.cell? ⟨VB, 3, none⟩ = some (.int .i64 0) := vcs 3 (by simp)
        have f3 := vfs 3 (by simp)
        have y4 : q3.cell? ⟨VB, 4, none⟩ = some (.int .i64 0) := vcs 4 (by simp)
        have f4 := vfs 4 (by simp)
        have y5 : q3.cell? ⟨VB, 5, none⟩ = some (.int .i64 0) := vcs 5 (by simp)
        have f5 := vfs 5 (by simp)
        have y6 : q3.cell? ⟨VB, 6, none⟩ = some (.slice none 0 0) := vcs 6 (by simp)
        have f6 := vfs 6 (by simp)
        have y7 : q3.cell? ⟨VB, 7, none⟩ = some (.nilFunc) := vcs 7 (by simp)
        have f7 := vfs 7 (by simp)
        have y8 : q3.cell? ⟨VB, 8, none⟩ = some (.nilFunc) := vcs 8 (by simp)
        have f8 := vfs 8 (by simp)
        have y9 : q3.cell? ⟨VB, 9, none⟩ = some (.slice none 0 0) := vcs 9 (by simp)
        have f9 := vfs 9 (by simp)
        have y10 : q3.cell? ⟨VB, 10, none⟩ = some (.nilFunc) := vcs 10 (by simp)
        have f10 := vfs 10 (by simp)
        have y11 : q3.cell? ⟨VB, 11, none⟩ = some (.nilFunc) := vcs 11 (by simp)
        have f11 := vfs 11 (by simp)
        go_simp
        try go_wp2_with fail
        have hno : ∀ b off, (some ⟨HB, 0, none⟩ : Option Addr) = some ⟨b, off, none⟩ → b ≠ VB := fun b off e => by simp at e; omega
        have hks := (UOx.put (B := w.heap.size) (W0 := W0) (a := a) (m := m) (n := n) (k := k) (UOx.put (B := w.heap.size) (W0 := W0) (a := a) (m := m) (n := n) (k := k) (UOx.put (B := w.heap.size) (W0 := W0) (a := a) (m := m) (n := n) (k := k) (UOx.put (B := w.heap.size) (W0 := W0) (a := a) (m := m) (n := n) (k := k) (UOx.put (B := w.heap.size) (W0 := W0) (a := a) (m := m) (n := n) (k := k) (UOx.put (B := w.heap.size) (W0 := W0) (a := a) (m := m) (n := n) (k := k) (UOx.put (B := w.heap.size) (W0 := W0) (a := a) (m := m) (n := n) (k := k) (UOx.put (B := w.heap.size) (W0 := W0) (a := a) (m := m) (n := n) (k := k) (UOx.put (B := w.heap.size) (W0 := W0) (a := a) (m := m) (n := n) (k := k) (UOx.put (B := w.heap.size) (W0 := W0) (a := a) (m := m) (n := n) (k := k) (UOx.put (B := w.heap.size) (W0 := W0) (a := a) (m := m) (n := n) (k := k) (UOx.put (B := w.heap.size) (W0 := W0) (a := a) (m := m) (n := n) (k := k) hkq3 VB 0 (.string a) hvb) VB 1 (.string m) hvb) VB 2 (.int .i64 mo) hvb) VB 3 (.int .i64 1) hvb) VB 4 (.int .i64 k) hvb) VB 5 (.int .i64 k) hvb) VB 6 (.slice ta tl tc) hvb) VB 7 (.func (.func 104) #[] #[]) hvb) VB 8 (.func (.func 105) #[] #[]) hvb) VB 9 (.slice (some ⟨HB, 0, none⟩) 1 1) hvb) VB 10 (.func (.func 106) #[] #[]) hvb) VB 11 (.func (.func 107) #[] #[]) hvb)
        have hvs := (BlkW.set (BlkW.set (BlkW.set (BlkW.set (BlkW.set (BlkW.set (BlkW.set (BlkW.set (BlkW.set (BlkW.set (BlkW.set (BlkW.set (⟨⟨vl, vcs⟩, vfs⟩ : BlkW VB [.string ⟨#[]⟩, .string ⟨#[]⟩, .int .i64 0, .int .i64 0, .int .i64 0, .int .i64 0, .slice none 0 0, .nilFunc, .nilFunc, .slice none 0 0, .nilFunc, .nilFunc] q3) 0 (.string a) (by simp)) 1 (.string m) (by simp)) 2 (.int .i64 mo) (by simp)) 3 (.int .i64 1) (by simp)) 4 (.int .i64 k) (by simp)) 5 (.int .i64 k) (by simp)) 6 (.slice ta tl tc) (by simp)) 7 (.func (.func 104) #[] #[]) (by simp)) 8 (.func (.func 105) #[] #[]) (by simp)) 9 (.slice (some ⟨HB, 0, none⟩) 1 1) (by simp)) 10 (.func (.func 106) #[] #[]) (by simp)) 11 (.func (.func 107) #[] #[]) (by simp))
        have hrs := (Hrs.put (Hrs.put (Hrs.put (Hrs.put (Hrs.put (Hrs.put (Hrs.put (Hrs.put (Hrs.put (Hrs.put (Hrs.put (Hrs.put hrq3 VB 0 (.string a) hno) VB 1 (.string m) hno) VB 2 (.int .i64 mo) hno) VB 3 (.int .i64 1) hno) VB 4 (.int .i64 k) hno) VB 5 (.int .i64 k) hno) VB 6 (.slice ta tl tc) hno) VB 7 (.func (.func 104) #[] #[]) hno) VB 8 (.func (.func 105) #[] #[]) hno) VB 9 (.slice (some ⟨HB, 0, none⟩) 1 1) hno) VB 10 (.func (.func 106) #[] #[]) hno) VB 11 (.func (.func 107) #[] #[]) hno)
        refine hK.out _ _ hks (fun _ => ?_)
        clear hK K
        try simp only [Act.put, List.setIfInBounds_toArray, List.set_cons_zero, List.set_cons_succ]
        refine wpAnyH_done (by kernel_rfl) ?_ _
        have HBF := hid_intro hks.1
        have HVF := hid_intro hvs
        have HRF := hid_intro hrs
        clear hks hvs hrs y0 y1 y2 y3 y4 y5 y6 y7 y8 y9 y10 y11 f0 f1 f2 f3 f4 f5 f6 f7 f8 f9 f10 f11 vcs vfs hno
        go_wp2_with fail
        go_meet
        case rel => exact ⟨VB, HB, rfl, HBF, HVF, HRF⟩
    case rest =>
      obtain ⟨V, HB, rfl, HB3, HV3, HR3⟩ := hcut
      have HT3 := hid_intro (HTc.out.below HB3.out)
      have HY3 := hid_intro (HY2.out.below HB3.out)
      have HB4 := hid_intro (HB2.out.trans (HB3.out.mono HB2.out.size))
      have HRl : Hid (w.heap.size + 1 < wc.heap.size) := hid_intro HY3.out.1.1
      clear HS0 HLa HTc HX2 HY2
      obtain ⟨⟨vl, vk⟩, vf⟩ := HV3.out
      have v0 : wc.cell? ⟨V, 0, none⟩ = some (.string a) := vk 0 (by simp)
      have v1 : wc.cell? ⟨V, 1, none⟩ = some (.string m) := vk 1 (by simp)
      have v2 : wc.cell? ⟨V, 2, none⟩ = some (.int .i64 mo) := vk 2 (by simp)
      have v3 : wc.cell? ⟨V, 3, none⟩ = some (.int .i64 1) := vk 3 (by simp)
      have v4 : wc.cell? ⟨V, 4, none⟩ = some (.int .i64 k) := vk 4 (by simp)
      have v5 : wc.cell? ⟨V, 5, none⟩ = some (.int .i64 k) := vk 5 (by simp)
      have v6 : wc.cell? ⟨V, 6, none⟩ = some (.slice ta tl tc) := vk 6 (by simp)
      have v7 : wc.cell? ⟨V, 7, none⟩ = some (.func (.func 104) #[] #[]) := vk 7 (by simp)
      have v8 : wc.cell? ⟨V, 8, none⟩ = some (.func (.func 105) #[] #[]) := vk 8 (by simp)
      have v9 : wc.cell? ⟨V, 9, none⟩ = some (.slice (some ⟨HB, 0, none⟩) 1 1) := vk 9 (by simp)
      have v10 : wc.cell? ⟨V, 10, none⟩ = some (.func (.func 106) #[] #[]) := vk 10 (by simp)
      have v11 : wc.cell? ⟨V, 11, none⟩ = some (.func (.func 107) #[] #[]) := vk 11 (by simp)
      clear vk vf
      go_wp2_with fail
      refine (HWi.out _ ta tc HB HT3.out HR3.out).mono ?_
      rintro e w5 ⟨v, rfl, ⟨⟨ta', tc', ha', hc', rfl, hm1, hm2, hap⟩, hsl⟩, hb5⟩
      have HSL := hid_intro hsl
      clear hsl
      have HM1 := hid_intro hm1
      have HM2 := hid_intro hm2
      have HAP := hid_intro hap
      have HY5 := hid_intro (HY3.out.below hb5)
      have HB5 := hid_intro (HB4.out.trans (hb5.mono HB4.out.size))
      have HN1 : Hid (ts.length = 0 ∨ ∀ b off, ta' = some ⟨b, off, none⟩ → b ≠ w.heap.size + 1) := hid_intro (by
        rcases hm1.own with h0 | ⟨g, e1, e2, _⟩
        · exact .inl h0
        · exact .inr (fun b off q => by rw [e1] at q; simp at q; have := HRl.out; omega))
      have HN2 : Hid (([⟨hq, k⟩] : List H).length = 0 ∨ ∀ b off, ha' = some ⟨b, off, none⟩ → b ≠ w.heap.size + 1) := hid_intro (by
        rcases hm2.own with h0 | ⟨g, e1, e2, _⟩
        · exact .inl h0
        · exact .inr (fun b off q => by rw [e1] at q; simp at q; have := HRl.out; omega))
      have HWS : Hid (w.heap.size ≤ wc.heap.size) := hid_intro HB4.out.size
      clear hm1 hm2 hap hb5 v0 v1 v2 v3 v4 v5 v6 v7 v8 v9 v10 v11 vl HV3 HR3 HT3 HY3
      simp only [wcells, ← HTL.out, List.length_cons, List.length_nil, Nat.zero_add]
      obtain ⟨⟨yl, yk⟩, yf⟩ := HY5.out
      have y0 : w5.cell? ⟨w.heap.size + 1, 0, none⟩ = some (.string ⟨#[]⟩) := yk 0 (by simp)
      have q0 : w5.frozen? ⟨w.heap.size + 1, 0, none⟩ = false := yf 0 (by simp)
      have y1 : w5.cell? ⟨w.heap.size + 1, 1, none⟩ = some (.string ⟨#[]⟩) := yk 1 (by simp)
      have q1 : w5.frozen? ⟨w.heap.size + 1, 1, none⟩ = false := yf 1 (by simp)
      have y2 : w5.cell? ⟨w.heap.size + 1, 2, none⟩ = some (.int .i64 0) := yk 2 (by simp)
      have q2 : w5.frozen? ⟨w.heap.size + 1, 2, none⟩ = false := yf 2 (by simp)
      have y3 : w5.cell? ⟨w.heap.size + 1, 3, none⟩ = some (.int .i64 0) := yk 3 (by simp)
      have q3 : w5.frozen? ⟨w.heap.size + 1, 3, none⟩ = false := yf 3 (by simp)
      have y4 : w5.cell? ⟨w.heap.size + 1, 4, none⟩ = some (.int .i64 0) := yk 4 (by simp)
      have q4 : w5.frozen? ⟨w.heap.size + 1, 4, none⟩ = false := yf 4 (by simp)
      have y5 : w5.cell? ⟨w.heap.size + 1, 5, none⟩ = some (.int .i64 0) := yk 5 (by simp)
      have q5 : w5.frozen? ⟨w.heap.size + 1, 5, none⟩ = false := yf 5 (by simp)
      have y6 : w5.cell? ⟨w.heap.size + 1, 6, none⟩ = some (.slice none 0 0) := yk 6 (by simp)
      have q6 : w5.frozen? ⟨w.heap.size + 1, 6, none⟩ = false := yf 6 (by simp)
      have y7 : w5.cell? ⟨w.heap.size + 1, 7, none⟩ = some (.slice none 0 0) := yk 7 (by simp)
      have q7 : w5.frozen? ⟨w.heap.size + 1, 7, none⟩ = false := yf 7 (by simp)
      clear yk yf HY5
      go_wp2_with fail
      refine bodyPost_ret (v := .agg #[.string a, .string m, .int .i64 mo, .int .i64 1, .int .i64 k, .int .i64 k, .slice ta' tl tc', .slice ha' 1 hc']) (by simp [results, Tryd.results46, go_sem, y0, y1, y2, y3, y4, y5, y6, y7]) rfl ⟨_, rfl, ⟨⟨ta', tc', ha', hc', by simp only [wcells, ← HTL.out, List.length_cons, List.length_nil, Nat.zero_add], ?_, ?_, HAP.out⟩, by have h := HSL.out; simp only [wcells, ← HTL.out, List.length_cons, List.length_nil, Nat.zero_add] at h; exact h⟩, ?_⟩
      · have hn := HN1.out
        exact MadeG.low (MadeG.put (MadeG.put (MadeG.put (MadeG.put (MadeG.put (MadeG.put (MadeG.put (MadeG.put HM1.out (w.heap.size + 1) 0 (.string a) hn) (w.heap.size + 1) 1 (.string m) hn) (w.heap.size + 1) 2 (.int .i64 mo) hn) (w.heap.size + 1) 3 (.int .i64 1) hn) (w.heap.size + 1) 4 (.int .i64 k) hn) (w.heap.size + 1) 5 (.int .i64 k) hn) (w.heap.size + 1) 6 (.slice ta' tl tc') hn) (w.heap.size + 1) 7 (.slice ha' 1 hc') hn) HWS.out
      · have hn := HN2.out
        exact MadeG.low (MadeG.put (MadeG.put (MadeG.put (MadeG.put (MadeG.put (MadeG.put (MadeG.put (MadeG.put HM2.out (w.heap.size + 1) 0 (.string a) hn) (w.heap.size + 1) 1 (.string m) hn) (w.heap.size + 1) 2 (.int .i64 mo) hn) (w.heap.size + 1) 3 (.int .i64 1) hn) (w.heap.size + 1) 4 (.int .i64 k) hn) (w.heap.size + 1) 5 (.int .i64 k) hn) (w.heap.size + 1) 6 (.slice ta' tl tc') hn) (w.heap.size + 1) 7 (.slice ha' 1 hc') hn) HWS.out
      · have hb2 : w.heap.size ≤ w.heap.size + 1 := Nat.le_succ _
        exact ((((((((HB5.out.setCell (hb2) _).setCell (hb2) _).setCell (hb2) _).setCell (hb2) _).setCell (hb2) _).setCell (hb2) _).setCell (hb2) _).setCell (hb2) _)
theorem of_in (i a m t : ByteArray) (n k mo : Int) (w : World) (li : i.size ≤ 1048576) (la : a.size ≤ 1048576) (lm : m.size ≤ 1048576) (lt : t.size ≤ 1048576) (hev : evB i a m n k t = true) (hmo : ∀ w, Laid w → Calls Tryd.prog 87 #[.int .i64 n] w fun e w' => e = .returned (.int .i64 mo) ∧ Below w.heap.size w w') (hL : Laid w) :
    Calls Tryd.prog 46 #[ev i a m n k t] w fun e w' => ∃ v, e = .returned v ∧ MadeW w.heap.size ⟨a, m, mo, 1, k, k, tgl t, [⟨HourR.hourV n, k⟩]⟩ v w' ∧ Below w.heap.size w w' := by
  refine (of_in_s i a m t n k mo w li la lm lt hev hmo hL).mono ?_
  rintro e w' ⟨v, rfl, hm, hb⟩
  exact ⟨v, rfl, hm.1, hb⟩
end WinR
end Go.Proofs.YtmeemmbpkjfleaaDoor
