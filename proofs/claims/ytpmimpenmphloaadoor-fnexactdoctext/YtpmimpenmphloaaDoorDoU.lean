/-
  A document's text, the model's side, and both. The conditions: texts of at most 1048576 bytes, at most 1048576 lines; the library's table stands in its variable.
-/
import Derived.Test.YtpmimpenmphloaaDoorDoT
namespace Go.Proofs.YtpmimpenmphloaaDoor
open Go.ChangeShapes Go.WideShapes Go.ChangeAt Go.RowKit
set_option linter.unusedVariables false
namespace DocR
open LinR RowG
open JoinR (joinB jl)
open CatR (Blk Blk.new)
open Dec2 (itoaT itoaT_size PowT FmtOk)
theorem joinB_four (x y z u : ByteArray) : joinB [x, y, z, u] = x ++ y ++ z ++ u := by
  apply ByteArray.ext
  simp [joinB, Array.append_assoc]
/-- What a round of the lines reads. -/
def LHx (w wr : World) (la : Option Addr) (ll lc b o : Nat) (U : ByteArray) (P : Int) (W : World) : Prop := Below wr.heap.size wr W ∧ w.heap.size < wr.heap.size ∧ b < wr.heap.size ∧ W.cell? ⟨w.heap.size, 3, none⟩ = some (.slice la ll lc) ∧ W.cell? ⟨b, o, none⟩ = some (.string U) ∧ W.cell? ⟨b, o + 1, none⟩ = some (.int .i64 P)
theorem LHx.below {w wr : World} {la : Option Addr} {ll lc b o : Nat} {U : ByteArray} {P : Int} {W W' : World} (h : LHx w wr la ll lc b o U P W) (hb : Below W.heap.size W W') : LHx w wr la ll lc b o U P W' := by
  obtain ⟨h0, h1, h2, c0, c1, c2⟩ := h
  have s := h0.size
  exact ⟨h0.trans (hb.mono h0.size), h1, h2, (hb.cell (p := ⟨w.heap.size, 3, none⟩) (Nat.lt_of_lt_of_le h1 s)).trans c0, (hb.cell (p := ⟨b, o, none⟩) (Nat.lt_of_lt_of_le h2 s)).trans c1, (hb.cell (p := ⟨b, o + 1, none⟩) (Nat.lt_of_lt_of_le h2 s)).trans c2⟩
set_option maxRecDepth 100000 in
set_option maxHeartbeats 16000000 in
theorem spec_dt_in (a : ByteArray) (mo sq : Int) (ls : List N) (la : Option Addr) (lc : Nat) (T1 T2 : ByteArray) (Q : Nat → List ByteArray) (w : World) (l1 : ls.length ≤ 6) (hL : Lis la ls w)
    (p1 : ∀ W, Calls Tryd.prog 24 #[.int .i64 mo] W fun e w' => e = .returned (.string T1) ∧ Below W.heap.size W w')
    (p2 : ∀ W, Calls Tryd.prog 25 #[.int .i64 sq] W fun e w' => e = .returned (.string T2) ∧ Below W.heap.size W w')
    (za : a.size ≤ 20) (z1 : T1.size ≤ 30) (z2 : T2.size ≤ 20)
    (s9 : ∀ y ∈ ls, y.i.size ≤ 20 ∧ -1000000000000000 ≤ y.n ∧ y.n ≤ 1000000000000000)
    (hQ0 : Q 0 = [a, ⟨#[32]⟩, T1, ⟨#[35]⟩, T2]) (hQM : ∀ k, k < ls.length → Q (k + 1) = Q k ++ [⟨#[32]⟩, (ls.getD k N.zero).i, ⟨#[61]⟩, itoaT (ls.getD k N.zero).n]) (hQS : ∀ k, (joinB (Q k)).size ≤ 2000) :
    Calls Tryd.prog 11 #[.agg #[.string a, .int .i64 mo, .int .i64 sq, .slice la ls.length lc]] w fun e w' => e = .returned (.string (joinB (Q ls.length))) ∧ Below w.heap.size w w' := by
  have HL := hid_intro hL
  have P1 := hid_intro p1
  have P2 := hid_intro p2
  have S9 := hid_intro s9
  have HJ0' : Hid (joinB (Q 0) = a ++ ⟨#[32]⟩ ++ T1 ++ ⟨#[35]⟩ ++ T2) := hid_intro (by rw [hQ0]; apply ByteArray.ext; simp [joinB])
  have HJM' : Hid (∀ k, k < ls.length → joinB (Q (k + 1)) = joinB (Q k) ++ ⟨#[32]⟩ ++ (ls.getD k N.zero).i ++ ⟨#[61]⟩ ++ itoaT (ls.getD k N.zero).n) := hid_intro (fun k hk => by rw [hQM k hk, joinB_app, joinB_four]; apply ByteArray.ext; simp [Array.append_assoc])
  obtain ⟨JB, hJB⟩ : ∃ JB : Nat → ByteArray, ∀ k, JB k = joinB (Q k) := ⟨_, fun _ => rfl⟩
  have HJ0 : Hid (JB 0 = a ++ ⟨#[32]⟩ ++ T1 ++ ⟨#[35]⟩ ++ T2) := hid_intro (by rw [hJB]; exact HJ0'.out)
  have HJM : Hid (∀ k, k < ls.length → JB (k + 1) = JB k ++ ⟨#[32]⟩ ++ (ls.getD k N.zero).i ++ ⟨#[61]⟩ ++ itoaT (ls.getD k N.zero).n) := hid_intro (fun k hk => by rw [hJB, hJB]; exact HJM'.out k hk)
  have HBS : Hid (∀ k, (JB k).size ≤ 2000) := hid_intro (fun k => by rw [hJB]; exact hQS k)
  rw [← hJB]
  have e1 : (⟨#[32]⟩ : ByteArray).size = 1 := rfl
  have e2 : (⟨#[35]⟩ : ByteArray).size = 1 := rfl
  have e3 : (⟨#[61]⟩ : ByteArray).size = 1 := rfl
  have v1 : ¬ 9223372036854775807 < a.size + 1 := by omega
  have v2 : ¬ 9223372036854775807 < a.size + 1 + T1.size := by omega
  have v3 : ¬ 9223372036854775807 < a.size + 1 + T1.size + 1 := by omega
  have v4 : ¬ 9223372036854775807 < a.size + 1 + T1.size + 1 + T2.size := by omega
  obtain ⟨ll, hll⟩ : ∃ ll, ll = ls.length := ⟨_, rfl⟩
  have HLL := hid_intro hll
  rw [← hll] at l1 HJM ⊢
  clear hL p1 p2 s9 hQ0 hQM hQS hJB hll HJ0' HJM'
  have HS0 : Hid (DBx w a mo sq la ll lc ((w.alloc (.cells #[.string a, .int .i64 mo, .int .i64 sq, .slice la ll lc] 29)).drew)) := hid_intro (DBx.below (DBx.of ((Below.refl _ _).alloc (Nat.le_refl _) _) (Blk.new w [.string a, .int .i64 mo, .int .i64 sq, .slice la ll lc] 29)) (Below.refl _ _).drew)
  go_enter Tryd.func11, Tryd.ntmps11
  go_wp2_with fail
  refine wp_region_held_drew (S := (fun W => Below w.heap.size w W ∧ w.heap.size < W.heap.size ∧ W.cell? ⟨w.heap.size, 0, none⟩ = some (.string a) ∧ W.cell? ⟨w.heap.size, 1, none⟩ = some (.int .i64 mo) ∧ W.cell? ⟨w.heap.size, 2, none⟩ = some (.int .i64 sq) ∧ W.cell? ⟨w.heap.size, 3, none⟩ = some (.slice la ll lc))) (by kernel_rfl) HS0.out (fun hHeld => ?_)
  refine wpAnyH_take (i := 0) (oi := { dst := some 5, op := Op.fieldAddr 29 (Operand.tmp 1) 0, type := 0, pos := "l09_ledger.go:158", after := #[], guard := none }) (v := ?_) rfl (by kernel_rfl) (by kernel_rfl) (by kernel_rfl) (fun _ _ _ h => h) (Or.inl ⟨by rfl, ?_⟩) (by assumption) ?_
  rotate_left
  · (intro w hSw; (try dsimp only at hSw); go_simp) <;> with_reducible rfl
  try simp only [Act.put, List.setIfInBounds_toArray, List.set_cons_zero, List.set_cons_succ]
  refine wpAnyH_take (i := 1) (oi := { dst := some 6, op := Op.load 9 (Operand.tmp 5), type := 9, pos := "l09_ledger.go:158", after := #[{ on := 0, ground := Ground.data }], guard := none }) (v := ?_) rfl (by kernel_rfl) (by kernel_rfl) (by kernel_rfl) (fun _ _ _ h => h) (Or.inl ⟨by rfl, ?_⟩) (by assumption) ?_
  rotate_left
  · (intro w hSw; (try dsimp only at hSw); go_simp) <;> with_reducible rfl
  try simp only [Act.put, List.setIfInBounds_toArray, List.set_cons_zero, List.set_cons_succ]
  refine wpAnyH_take (i := 2) (oi := { dst := some 7, op := Op.binOp BinOp.add 9 (Operand.tmp 6) (Operand.const (Value.string { data := #[32] })) 9, type := 9, pos := "l09_ledger.go:158", after := #[{ on := 1, ground := Ground.data }], guard := none }) (v := ?_) rfl (by kernel_rfl) (by kernel_rfl) (by kernel_rfl) (fun _ _ _ h => h) (Or.inl ⟨by rfl, ?_⟩) (by assumption) ?_
  rotate_left
  · (intro w hSw; (try dsimp only at hSw); go_simp) <;> with_reducible rfl
  try simp only [Act.put, List.setIfInBounds_toArray, List.set_cons_zero, List.set_cons_succ]
  refine wpAnyH_take (i := 3) (oi := { dst := some 8, op := Op.fieldAddr 29 (Operand.tmp 1) 1, type := 0, pos := "l09_ledger.go:158", after := #[], guard := none }) (v := ?_) rfl (by kernel_rfl) (by kernel_rfl) (by kernel_rfl) (fun _ _ _ h => h) (Or.inl ⟨by rfl, ?_⟩) (by assumption) ?_
  rotate_left
  · (intro w hSw; (try dsimp only at hSw); go_simp) <;> with_reducible rfl
  try simp only [Act.put, List.setIfInBounds_toArray, List.set_cons_zero, List.set_cons_succ]
  refine wpAnyH_take (i := 4) (oi := { dst := some 9, op := Op.load 2 (Operand.tmp 8), type := 2, pos := "l09_ledger.go:158", after := #[{ on := 3, ground := Ground.data }], guard := none }) (v := ?_) rfl (by kernel_rfl) (by kernel_rfl) (by kernel_rfl) (fun _ _ _ h => h) (Or.inl ⟨by rfl, ?_⟩) (by assumption) ?_
  rotate_left
  · (intro w hSw; (try dsimp only at hSw); go_simp) <;> with_reducible rfl
  try simp only [Act.put, List.setIfInBounds_toArray, List.set_cons_zero, List.set_cons_succ]
  refine wpAnyH_take (i := 8) (oi := { dst := some 13, op := Op.fieldAddr 29 (Operand.tmp 1) 2, type := 0, pos := "l09_ledger.go:158", after := #[], guard := none }) (v := ?_) rfl (by kernel_rfl) (by kernel_rfl) (by kernel_rfl) (fun _ _ _ h => h) (Or.inl ⟨by rfl, ?_⟩) (by assumption) ?_
  rotate_left
  · (intro w hSw; (try dsimp only at hSw); go_simp) <;> with_reducible rfl
  try simp only [Act.put, List.setIfInBounds_toArray, List.set_cons_zero, List.set_cons_succ]
  refine wpAnyH_take (i := 9) (oi := { dst := some 14, op := Op.load 2 (Operand.tmp 13), type := 2, pos := "l09_ledger.go:158", after := #[{ on := 8, ground := Ground.data }], guard := none }) (v := ?_) rfl (by kernel_rfl) (by kernel_rfl) (by kernel_rfl) (fun _ _ _ h => h) (Or.inl ⟨by rfl, ?_⟩) (by assumption) ?_
  rotate_left
  · (intro w hSw; (try dsimp only at hSw); go_simp) <;> with_reducible rfl
  try simp only [Act.put, List.setIfInBounds_toArray, List.set_cons_zero, List.set_cons_succ]
  refine wpAnyH_ready (rs := [5]) (by kernel_rfl) (by simp) ?_
  refine AllReadyH.cons (o := { dst := some 10, op := Op.call { callee := Callee.value (Operand.func 24), args := #[Operand.tmp 9], argTypes := #[2] }, type := 9, pos := "l09_ledger.go:158", after := #[{ on := 4, ground := Ground.data }], guard := none }) rfl (fun K hK => ?_) AllReadyH.nil
  go_simp
  go_at_call 24
  refine (P1.out _).mono ?_
  rintro e q1 ⟨rfl, hq1⟩
  try go_wp2_with fail
  have hk1 := DBx.below (w := w) (a := a) (mo := mo) (sq := sq) (la := la) (ll := ll) (lc := lc) HS0.out hq1
  refine hK.out _ _ hk1 (fun _ => ?_)
  clear hK K
  try simp only [Act.put, List.setIfInBounds_toArray, List.set_cons_zero, List.set_cons_succ]
  refine wpAnyH_take (i := 6) (oi := { dst := some 11, op := Op.binOp BinOp.add 9 (Operand.tmp 7) (Operand.tmp 10) 9, type := 9, pos := "l09_ledger.go:158", after := #[{ on := 2, ground := Ground.data }, { on := 5, ground := Ground.data }], guard := none }) (v := ?_) rfl (by kernel_rfl) (by kernel_rfl) (by kernel_rfl) (fun _ _ _ h => h) (Or.inl ⟨by rfl, ?_⟩) (by assumption) ?_
  rotate_left
  · (intro w hSw; (try dsimp only at hSw); go_simp) <;> with_reducible rfl
  try simp only [Act.put, List.setIfInBounds_toArray, List.set_cons_zero, List.set_cons_succ]
  refine wpAnyH_take (i := 7) (oi := { dst := some 12, op := Op.binOp BinOp.add 9 (Operand.tmp 11) (Operand.const (Value.string { data := #[35] })) 9, type := 9, pos := "l09_ledger.go:158", after := #[{ on := 6, ground := Ground.data }], guard := none }) (v := ?_) rfl (by kernel_rfl) (by kernel_rfl) (by kernel_rfl) (fun _ _ _ h => h) (Or.inl ⟨by rfl, ?_⟩) (by assumption) ?_
  rotate_left
  · (intro w hSw; (try dsimp only at hSw); go_simp) <;> with_reducible rfl
  try simp only [Act.put, List.setIfInBounds_toArray, List.set_cons_zero, List.set_cons_succ]
  refine wpAnyH_ready (rs := [10]) (by kernel_rfl) (by simp) ?_
  refine AllReadyH.cons (o := { dst := some 15, op := Op.call { callee := Callee.value (Operand.func 25), args := #[Operand.tmp 14], argTypes := #[2] }, type := 9, pos := "l09_ledger.go:158", after := #[{ on := 9, ground := Ground.data }, { on := 5, ground := Ground.chain }], guard := none }) rfl (fun K hK => ?_) AllReadyH.nil
  go_simp
  go_at_call 25
  refine (P2.out _).mono ?_
  rintro e q2 ⟨rfl, hq2⟩
  try go_wp2_with fail
  have hk2 := DBx.below (w := w) (a := a) (mo := mo) (sq := sq) (la := la) (ll := ll) (lc := lc) hk1 hq2
  refine hK.out _ _ hk2 (fun _ => ?_)
  clear hK K
  try simp only [Act.put, List.setIfInBounds_toArray, List.set_cons_zero, List.set_cons_succ]
  refine wpAnyH_take (i := 11) (oi := { dst := some 16, op := Op.binOp BinOp.add 9 (Operand.tmp 12) (Operand.tmp 15) 9, type := 9, pos := "l09_ledger.go:158", after := #[{ on := 7, ground := Ground.data }, { on := 10, ground := Ground.data }], guard := none }) (v := ?_) rfl (by kernel_rfl) (by kernel_rfl) (by kernel_rfl) (fun _ _ _ h => h) (Or.inl ⟨by rfl, ?_⟩) (by assumption) ?_
  rotate_left
  · (intro w hSw; (try dsimp only at hSw); go_simp) <;> with_reducible rfl
  try simp only [Act.put, List.setIfInBounds_toArray, List.set_cons_zero, List.set_cons_succ]
  refine wpAnyH_take (i := 12) (oi := { dst := some 3, op := Op.assign (Operand.tmp 16), type := 9, pos := "l09_ledger.go:158", after := #[{ on := 11, ground := Ground.data }, { on := 10, ground := Ground.chain }, { on := 0, ground := Ground.phase }, { on := 1, ground := Ground.phase }, { on := 2, ground := Ground.phase }, { on := 3, ground := Ground.phase }, { on := 4, ground := Ground.phase }, { on := 5, ground := Ground.phase }, { on := 6, ground := Ground.phase }, { on := 7, ground := Ground.phase }, { on := 8, ground := Ground.phase }, { on := 9, ground := Ground.phase }, { on := 10, ground := Ground.phase }, { on := 11, ground := Ground.phase }], guard := none }) (v := ?_) rfl (by kernel_rfl) (by kernel_rfl) (by kernel_rfl) (fun _ _ _ h => h) (Or.inl ⟨by rfl, ?_⟩) (by assumption) ?_
  rotate_left
  · (intro w hSw; (try dsimp only at hSw); go_simp) <;> with_reducible rfl
  try simp only [Act.put, List.setIfInBounds_toArray, List.set_cons_zero, List.set_cons_succ]
  refine wpAnyH_done (by kernel_rfl) ?_ _
  have HB1 := hid_intro hk2.1
  have HX1 := hid_intro (DBx.blk hk2)
  clear hk1 hk2 hq1 hq2 HS0 v1 v2 v3 v4
  rw [← HJ0.out]
  go_wp2_with fail
  go_loopw [3, 4] (fun y z wx => ∃ i : Nat, i ≤ ll ∧ y = .string (JB i) ∧ z = .int .i64 i ∧ Hid (Below w.heap.size w wx) ∧ Hid (Blk w.heap.size [.string a, .int .i64 mo, .int .i64 sq, .slice la ll lc] wx)) (fun y z _ => ll - (intOf z).toNat)
  case atStart => exact ⟨0, by omega, rfl, rfl, HB1, HX1⟩
  case round =>
    clear HB1 HX1
    obtain ⟨i, hi, rfl, rfl, HB, HX⟩ := hrel
    have hxl := HX.out.1
    have x3 : wr.cell? ⟨w.heap.size, 3, none⟩ = some (.slice la ll lc) := HX.out.2 3 (by simp)
    by_cases hlt3 : i < ll
    · have hlt2 : (i : Int) < (ll : Int) := by omega
      have hil : i < ls.length := by have := HLL.out; omega
      obtain ⟨b, off, rfl, hbl, c0, c1⟩ := (HL.out.below HB.out).at i hil
      have u1 := S9.out _ (RowG.getD_mem (z := N.zero) ls i hil)
      have HC := hid_intro (HJM.out i hlt3)
      generalize ls.getD i N.zero = Y at *
      obtain ⟨U, P⟩ := Y
      dsimp only at c0 c1 u1 HC
      obtain ⟨u2, u3, u4⟩ := u1
      have Q1 := hid_intro (fun w => Dec2.sdec_itoa P (by omega) (by omega) w)
      have hX1 : (itoaT P).size ≤ 20 := itoaT_size (by omega) (by omega)
      generalize itoaT P = X1 at *
      have hJ := HBS.out i
      generalize JB i = J at *
      have v1 : ¬ 9223372036854775807 < J.size + 1 := by omega
      have v2 : ¬ 9223372036854775807 < J.size + 1 + U.size := by omega
      have v3 : ¬ 9223372036854775807 < J.size + 1 + U.size + 1 := by omega
      have v4 : ¬ 9223372036854775807 < J.size + 1 + U.size + 1 + X1.size := by omega
      have HS1 : Hid (LHx w wr (some ⟨b, off, none⟩) ll lc b (off + i * 2) U P wr.drew) := hid_intro (LHx.below ⟨Below.refl _ _, hxl, hbl, x3, c0, c1⟩ (Below.refl _ _).drew)
      clear u2 u3 u4
      go_wp2_with fail
      refine wp_region_held_drew (S := (fun W => Below wr.heap.size wr W ∧ w.heap.size < wr.heap.size ∧ b < wr.heap.size ∧ W.cell? ⟨w.heap.size, 3, none⟩ = some (.slice (some ⟨b, off, none⟩) ll lc) ∧ W.cell? ⟨b, off + i * 2, none⟩ = some (.string U) ∧ W.cell? ⟨b, off + i * 2 + 1, none⟩ = some (.int .i64 P))) (by kernel_rfl) HS1.out (fun hHeld => ?_)
      refine wpAnyH_take (i := 0) (oi := { dst := some 24, op := Op.move (Operand.tmp 3), type := 9, pos := "l09_ledger.go:160", after := #[], guard := none }) (v := ?_) rfl (by kernel_rfl) (by kernel_rfl) (by kernel_rfl) (fun _ _ _ h => h) (Or.inl ⟨by rfl, ?_⟩) (by assumption) ?_
      rotate_left
      · (intro w hSw; (try dsimp only at hSw); go_simp) <;> with_reducible rfl
      try simp only [Act.put, List.setIfInBounds_toArray, List.set_cons_zero, List.set_cons_succ]
      refine wpAnyH_take (i := 1) (oi := { dst := some 25, op := Op.binOp BinOp.add 9 (Operand.tmp 24) (Operand.const (Value.string { data := #[32] })) 9, type := 9, pos := "l09_ledger.go:160", after := #[{ on := 0, ground := Ground.data }], guard := none }) (v := ?_) rfl (by kernel_rfl) (by kernel_rfl) (by kernel_rfl) (fun _ _ _ h => h) (Or.inl ⟨by rfl, ?_⟩) (by assumption) ?_
      rotate_left
      · (intro w hSw; (try dsimp only at hSw); go_simp) <;> with_reducible rfl
      try simp only [Act.put, List.setIfInBounds_toArray, List.set_cons_zero, List.set_cons_succ]
      refine wpAnyH_take (i := 2) (oi := { dst := some 26, op := Op.fieldAddr 29 (Operand.tmp 1) 3, type := 0, pos := "l09_ledger.go:160", after := #[], guard := none }) (v := ?_) rfl (by kernel_rfl) (by kernel_rfl) (by kernel_rfl) (fun _ _ _ h => h) (Or.inl ⟨by rfl, ?_⟩) (by assumption) ?_
      rotate_left
      · (intro w hSw; (try dsimp only at hSw); go_simp) <;> with_reducible rfl
      try simp only [Act.put, List.setIfInBounds_toArray, List.set_cons_zero, List.set_cons_succ]
      refine wpAnyH_take (i := 3) (oi := { dst := some 27, op := Op.load 27 (Operand.tmp 26), type := 27, pos := "l09_ledger.go:160", after := #[{ on := 2, ground := Ground.data }], guard := none }) (v := ?_) rfl (by kernel_rfl) (by kernel_rfl) (by kernel_rfl) (fun _ _ _ h => h) (Or.inl ⟨by rfl, ?_⟩) (by assumption) ?_
      rotate_left
      · (intro w hSw; (try dsimp only at hSw); go_simp) <;> with_reducible rfl
      try simp only [Act.put, List.setIfInBounds_toArray, List.set_cons_zero, List.set_cons_succ]
      refine wpAnyH_take (i := 4) (oi := { dst := some 28, op := Op.move (Operand.tmp 4), type := 3, pos := "l09_ledger.go:160", after := #[], guard := none }) (v := ?_) rfl (by kernel_rfl) (by kernel_rfl) (by kernel_rfl) (fun _ _ _ h => h) (Or.inl ⟨by rfl, ?_⟩) (by assumption) ?_
      rotate_left
      · (intro w hSw; (try dsimp only at hSw); go_simp) <;> with_reducible rfl
      try simp only [Act.put, List.setIfInBounds_toArray, List.set_cons_zero, List.set_cons_succ]
      refine wpAnyH_take (i := 5) (oi := { dst := some 29, op := Op.indexAddr 27 (Operand.tmp 27) (Operand.tmp 28), type := 0, pos := "l09_ledger.go:160", after := #[{ on := 3, ground := Ground.data }, { on := 4, ground := Ground.data }], guard := none }) (v := ?_) rfl (by kernel_rfl) (by kernel_rfl) (by kernel_rfl) (fun _ _ _ h => h) (Or.inl ⟨by rfl, ?_⟩) (by assumption) ?_
      rotate_left
      · (intro w hSw; (try dsimp only at hSw); go_simp) <;> with_reducible rfl
      try simp only [Act.put, List.setIfInBounds_toArray, List.set_cons_zero, List.set_cons_succ]
      refine wpAnyH_take (i := 6) (oi := { dst := some 30, op := Op.fieldAddr 40 (Operand.tmp 29) 0, type := 0, pos := "l09_ledger.go:160", after := #[{ on := 5, ground := Ground.data }], guard := none }) (v := ?_) rfl (by kernel_rfl) (by kernel_rfl) (by kernel_rfl) (fun _ _ _ h => h) (Or.inl ⟨by rfl, ?_⟩) (by assumption) ?_
      rotate_left
      · (intro w hSw; (try dsimp only at hSw); go_simp) <;> with_reducible rfl
      try simp only [Act.put, List.setIfInBounds_toArray, List.set_cons_zero, List.set_cons_succ]
      refine wpAnyH_take (i := 7) (oi := { dst := some 31, op := Op.load 9 (Operand.tmp 30), type := 9, pos := "l09_ledger.go:160", after := #[{ on := 6, ground := Ground.data }], guard := none }) (v := ?_) rfl (by kernel_rfl) (by kernel_rfl) (by kernel_rfl) (fun _ _ _ h => h) (Or.inl ⟨by rfl, ?_⟩) (by assumption) ?_
      rotate_left
      · (intro w hSw; (try dsimp only at hSw); go_simp) <;> with_reducible rfl
      try simp only [Act.put, List.setIfInBounds_toArray, List.set_cons_zero, List.set_cons_succ]
      refine wpAnyH_take (i := 8) (oi := { dst := some 32, op := Op.binOp BinOp.add 9 (Operand.tmp 25) (Operand.tmp 31) 9, type := 9, pos := "l09_ledger.go:160", after := #[{ on := 1, ground := Ground.data }, { on := 7, ground := Ground.data }], guard := none }) (v := ?_) rfl (by kernel_rfl) (by kernel_rfl) (by kernel_rfl) (fun _ _ _ h => h) (Or.inl ⟨by rfl, ?_⟩) (by assumption) ?_
      rotate_left
      · (intro w hSw; (try dsimp only at hSw); go_simp) <;> with_reducible rfl
      try simp only [Act.put, List.setIfInBounds_toArray, List.set_cons_zero, List.set_cons_succ]
      refine wpAnyH_take (i := 9) (oi := { dst := some 33, op := Op.binOp BinOp.add 9 (Operand.tmp 32) (Operand.const (Value.string { data := #[61] })) 9, type := 9, pos := "l09_ledger.go:160", after := #[{ on := 8, ground := Ground.data }], guard := none }) (v := ?_) rfl (by kernel_rfl) (by kernel_rfl) (by kernel_rfl) (fun _ _ _ h => h) (Or.inl ⟨by rfl, ?_⟩) (by assumption) ?_
      rotate_left
      · (intro w hSw; (try dsimp only at hSw); go_simp) <;> with_reducible rfl
      try simp only [Act.put, List.setIfInBounds_toArray, List.set_cons_zero, List.set_cons_succ]
      refine wpAnyH_take (i := 10) (oi := { dst := some 34, op := Op.fieldAddr 29 (Operand.tmp 1) 3, type := 0, pos := "l09_ledger.go:160", after := #[], guard := none }) (v := ?_) rfl (by kernel_rfl) (by kernel_rfl) (by kernel_rfl) (fun _ _ _ h => h) (Or.inl ⟨by rfl, ?_⟩) (by assumption) ?_
      rotate_left
      · (intro w hSw; (try dsimp only at hSw); go_simp) <;> with_reducible rfl
      try simp only [Act.put, List.setIfInBounds_toArray, List.set_cons_zero, List.set_cons_succ]
      refine wpAnyH_take (i := 11) (oi := { dst := some 35, op := Op.load 27 (Operand.tmp 34), type := 27, pos := "l09_ledger.go:160", after := #[{ on := 10, ground := Ground.data }], guard := none }) (v := ?_) rfl (by kernel_rfl) (by kernel_rfl) (by kernel_rfl) (fun _ _ _ h => h) (Or.inl ⟨by rfl, ?_⟩) (by assumption) ?_
      rotate_left
      · (intro w hSw; (try dsimp only at hSw); go_simp) <;> with_reducible rfl
      try simp only [Act.put, List.setIfInBounds_toArray, List.set_cons_zero, List.set_cons_succ]
      refine wpAnyH_take (i := 12) (oi := { dst := some 36, op := Op.move (Operand.tmp 4), type := 3, pos := "l09_ledger.go:160", after := #[], guard := none }) (v := ?_) rfl (by kernel_rfl) (by kernel_rfl) (by kernel_rfl) (fun _ _ _ h => h) (Or.inl ⟨by rfl, ?_⟩) (by assumption) ?_
      rotate_left
      · (intro w hSw; (try dsimp only at hSw); go_simp) <;> with_reducible rfl
      try simp only [Act.put, List.setIfInBounds_toArray, List.set_cons_zero, List.set_cons_succ]
      refine wpAnyH_take (i := 13) (oi := { dst := some 37, op := Op.indexAddr 27 (Operand.tmp 35) (Operand.tmp 36), type := 0, pos := "l09_ledger.go:160", after := #[{ on := 11, ground := Ground.data }, { on := 12, ground := Ground.data }], guard := none }) (v := ?_) rfl (by kernel_rfl) (by kernel_rfl) (by kernel_rfl) (fun _ _ _ h => h) (Or.inl ⟨by rfl, ?_⟩) (by assumption) ?_
      rotate_left
      · (intro w hSw; (try dsimp only at hSw); go_simp) <;> with_reducible rfl
      try simp only [Act.put, List.setIfInBounds_toArray, List.set_cons_zero, List.set_cons_succ]
      refine wpAnyH_take (i := 14) (oi := { dst := some 38, op := Op.fieldAddr 40 (Operand.tmp 37) 1, type := 0, pos := "l09_ledger.go:160", after := #[{ on := 13, ground := Ground.data }], guard := none }) (v := ?_) rfl (by kernel_rfl) (by kernel_rfl) (by kernel_rfl) (fun _ _ _ h => h) (Or.inl ⟨by rfl, ?_⟩) (by assumption) ?_
      rotate_left
      · (intro w hSw; (try dsimp only at hSw); go_simp) <;> with_reducible rfl
      try simp only [Act.put, List.setIfInBounds_toArray, List.set_cons_zero, List.set_cons_succ]
      refine wpAnyH_take (i := 15) (oi := { dst := some 39, op := Op.load 2 (Operand.tmp 38), type := 2, pos := "l09_ledger.go:160", after := #[{ on := 14, ground := Ground.data }], guard := none }) (v := ?_) rfl (by kernel_rfl) (by kernel_rfl) (by kernel_rfl) (fun _ _ _ h => h) (Or.inl ⟨by rfl, ?_⟩) (by assumption) ?_
      rotate_left
      · (intro w hSw; (try dsimp only at hSw); go_simp) <;> with_reducible rfl
      try simp only [Act.put, List.setIfInBounds_toArray, List.set_cons_zero, List.set_cons_succ]
      refine wpAnyH_ready (rs := [16]) (by kernel_rfl) (by simp) ?_
      refine AllReadyH.cons (o := { dst := some 40, op := Op.call { callee := Callee.value (Operand.func 26), args := #[Operand.tmp 39], argTypes := #[2] }, type := 9, pos := "l09_ledger.go:160", after := #[{ on := 15, ground := Ground.data }], guard := none }) rfl (fun K hK => ?_) AllReadyH.nil
      go_simp
      go_at_call 26
      refine (Q1.out _).mono ?_
      rintro e q1 ⟨rfl, hq1⟩
      try go_wp2_with fail
      have hk1 := LHx.below (w := w) (wr := wr) (la := some ⟨b, off, none⟩) (ll := ll) (lc := lc) (b := b) (o := off + i * 2) (U := U) (P := P) HS1.out hq1
      refine hK.out _ _ hk1 (fun _ => ?_)
      clear hK K
      try simp only [Act.put, List.setIfInBounds_toArray, List.set_cons_zero, List.set_cons_succ]
      refine wpAnyH_take (i := 17) (oi := { dst := some 41, op := Op.binOp BinOp.add 9 (Operand.tmp 33) (Operand.tmp 40) 9, type := 9, pos := "l09_ledger.go:160", after := #[{ on := 9, ground := Ground.data }, { on := 16, ground := Ground.data }], guard := none }) (v := ?_) rfl (by kernel_rfl) (by kernel_rfl) (by kernel_rfl) (fun _ _ _ h => h) (Or.inl ⟨by rfl, ?_⟩) (by assumption) ?_
      rotate_left
      · (intro w hSw; (try dsimp only at hSw); go_simp) <;> with_reducible rfl
      try simp only [Act.put, List.setIfInBounds_toArray, List.set_cons_zero, List.set_cons_succ]
      refine wpAnyH_take (i := 18) (oi := { dst := some 3, op := Op.assign (Operand.tmp 41), type := 9, pos := "l09_ledger.go:160", after := #[{ on := 17, ground := Ground.data }, { on := 16, ground := Ground.chain }, { on := 0, ground := Ground.phase }, { on := 1, ground := Ground.phase }, { on := 2, ground := Ground.phase }, { on := 3, ground := Ground.phase }, { on := 4, ground := Ground.phase }, { on := 5, ground := Ground.phase }, { on := 6, ground := Ground.phase }, { on := 7, ground := Ground.phase }, { on := 8, ground := Ground.phase }, { on := 9, ground := Ground.phase }, { on := 10, ground := Ground.phase }, { on := 11, ground := Ground.phase }, { on := 12, ground := Ground.phase }, { on := 13, ground := Ground.phase }, { on := 14, ground := Ground.phase }, { on := 15, ground := Ground.phase }, { on := 16, ground := Ground.phase }, { on := 17, ground := Ground.phase }], guard := none }) (v := ?_) rfl (by kernel_rfl) (by kernel_rfl) (by kernel_rfl) (fun _ _ _ h => h) (Or.inl ⟨by rfl, ?_⟩) (by assumption) ?_
      rotate_left
      · (intro w hSw; (try dsimp only at hSw); go_simp) <;> with_reducible rfl
      try simp only [Act.put, List.setIfInBounds_toArray, List.set_cons_zero, List.set_cons_succ]
      refine wpAnyH_done (by kernel_rfl) ?_ _
      have HB5 := hid_intro (HB.out.trans (hk1.1.mono HB.out.size))
      have HX5 := hid_intro (HX.out.below hk1.1)
      clear hk1 hq1 HS1 c0 c1 x3
      go_wp2_with fail
      go_roundw
      case rel => exact ⟨i + 1, by omega, by rw [HC.out], by go_num, HB5, HX5⟩
      case measure => simp [intOf]; omega
    · have hlt2 : ¬ (i : Int) < (ll : Int) := by omega
      obtain rfl : i = ll := by omega
      go_wp2_with fail
      go_ret
      exact ⟨rfl, HB.out⟩
theorem spec_dt_all (a : ByteArray) (mo sq : Int) (la : Option Addr) (ll lc : Nat) (R : ByteArray) (r : Bool) (w : World)
    (h1 : ∀ W, Below w.heap.size w W → Calls Tryd.prog 10 #[.agg #[.string a, .int .i64 mo, .int .i64 sq, .slice la ll lc]] W fun e w' => e = .returned (.bool r) ∧ Below W.heap.size W w')
    (h2 : r = true → ∀ W, Below w.heap.size w W → Calls Tryd.prog 11 #[.agg #[.string a, .int .i64 mo, .int .i64 sq, .slice la ll lc]] W fun e w' => e = .returned (.string R) ∧ Below W.heap.size W w') :
    Calls Tryd.prog 5 #[.agg #[.string a, .int .i64 mo, .int .i64 sq, .slice la ll lc]] w fun e w' => e = .returned (.string (bif r then R else ⟨#[]⟩)) ∧ Below w.heap.size w w' := by
  have H1 := hid_intro h1
  have H2 := hid_intro h2
  clear h1 h2
  have HB0 : Hid (Below w.heap.size w (w.alloc (.cells #[.string a, .int .i64 mo, .int .i64 sq, .slice la ll lc] 29))) := hid_intro ((Below.refl _ _).alloc (Nat.le_refl _) _)
  have HX0 := hid_intro (Blk.new w [.string a, .int .i64 mo, .int .i64 sq, .slice la ll lc] 29)
  cases r
  · go_enter Tryd.func5, Tryd.ntmps5
    go_wp2_with fail
    refine (H1.out _ HB0.out).mono ?_
    rintro e w1 ⟨rfl, hb1⟩
    have HB1 := hid_intro (HB0.out.trans (hb1.mono HB0.out.size))
    clear hb1
    go_wp2_with fail
    go_ret
    exact ⟨rfl, HB1.out⟩
  · go_enter Tryd.func5, Tryd.ntmps5
    go_wp2_with fail
    refine (H1.out _ HB0.out).mono ?_
    rintro e w1 ⟨rfl, hb1⟩
    have HB1 := hid_intro (HB0.out.trans (hb1.mono HB0.out.size))
    obtain ⟨xl, xc⟩ := HX0.out.below hb1
    have x0 : w1.cell? ⟨w.heap.size, 0, none⟩ = some (.string a) := xc 0 (by simp)
    have x1 : w1.cell? ⟨w.heap.size, 1, none⟩ = some (.int .i64 mo) := xc 1 (by simp)
    have x2 : w1.cell? ⟨w.heap.size, 2, none⟩ = some (.int .i64 sq) := xc 2 (by simp)
    have x3 : w1.cell? ⟨w.heap.size, 3, none⟩ = some (.slice la ll lc) := xc 3 (by simp)
    clear hb1 xc
    go_wp2_with fail
    refine (H2.out (by first | rfl | trivial) _ HB1.out).mono ?_
    rintro e w2 ⟨rfl, hb2⟩
    have HB2 := hid_intro (HB1.out.trans (hb2.mono HB1.out.size))
    clear hb2
    go_wp2_with fail
    go_ret
    exact ⟨rfl, HB2.out⟩
theorem impl_dt_no (a : ByteArray) (mo sq : Int) (la : Option Addr) (ll lc : Nat) (w : World)
    (h1 : ∀ W, Below w.heap.size w W → Calls Tryd.prog 13 #[.agg #[.string a, .int .i64 mo, .int .i64 sq, .slice la ll lc]] W fun e w' => e = .returned (.bool false) ∧ Below W.heap.size W w') :
    Calls Tryd.prog 7 #[.agg #[.string a, .int .i64 mo, .int .i64 sq, .slice la ll lc]] w fun e w' => e = .returned (.string ⟨#[]⟩) ∧ Below w.heap.size w w' := by
  have H1 := hid_intro h1
  clear h1
  have HB0 : Hid (Below w.heap.size w (w.alloc (.cells #[.string a, .int .i64 mo, .int .i64 sq, .slice la ll lc] 29))) := hid_intro ((Below.refl _ _).alloc (Nat.le_refl _) _)
  go_enter Tryd.func7, Tryd.ntmps7
  go_wp2_with fail
  refine (H1.out _ HB0.out).mono ?_
  rintro e w1 ⟨rfl, hb1⟩
  have HB1 := hid_intro (HB0.out.trans (hb1.mono HB0.out.size))
  clear hb1
  go_wp2_with fail
  go_ret
  exact ⟨rfl, HB1.out⟩
theorem dP2_zero (x : D) (M : ByteArray) : dP2 x M 0 = [x.a, ⟨#[32]⟩, M, ⟨#[35]⟩, itoaT x.sq] := by unfold dP2; simp
theorem dP_zero (x : D) (M : ByteArray) : dP x M 0 = [x.a, ⟨#[32]⟩, M, ⟨#[35]⟩, itoaT x.sq] := by unfold dP; simp
/-- One text of both sides. -/
theorem text_both (hFm : FmtOk) (x : D) (hS : x.Sm) : ∃ R : ByteArray,
    (∀ la lc w, Lis la x.ls w → PowT w → Calls Tryd.prog 7 #[.agg (dcells x la lc)] w fun e w' => e = .returned (.string R) ∧ Below w.heap.size w w') ∧
    (∀ la lc w, Lis la x.ls w → Calls Tryd.prog 5 #[.agg (dcells x la lc)] w fun e w' => e = .returned (.string R) ∧ Below w.heap.size w w') := by
  obtain ⟨M, hM, hMi, hMs⟩ := MonX.mtext_both hFm x.mo
  refine ⟨bif dB x then joinB (dP x M x.ls.length) else ⟨#[]⟩, fun la lc w hL hP => ?_, fun la lc w hL => ?_⟩
  · cases hd : dB x
    · exact impl_dt_no x.a x.mo x.sq la x.ls.length lc w (fun W hW => by have h := impl_doc x la lc W hS (hL.below hW); rw [hd] at h; exact h)
    · obtain ⟨b1, b2, b3, b4, b5⟩ := doc_bd hd
      have h9 := impl_dt_in x.a x.mo x.sq x.ls la lc M (itoaT x.sq) (dP2 x M) w b4 hL hP hFm (fun W hW => by have h := impl_doc x la lc W hS (hL.below hW); rw [hd] at h; exact h) hMi (fun W hP => hFm x.sq (by omega) (by omega) W hP) b5 (dP2_zero x M) (fun k hk => dP2_more x M k hk) (by rw [dP2_join]; exact dP_le hd hM _)
      rw [dP2_join] at h9
      exact h9
  · refine spec_dt_all x.a x.mo x.sq la x.ls.length lc (joinB (dP x M x.ls.length)) (dB x) w (fun W hW => spec_doc x la lc W hS (hL.below hW)) (fun hd W hW => ?_)
    obtain ⟨b1, b2, b3, b4, b5⟩ := doc_bd hd
    exact spec_dt_in x.a x.mo x.sq x.ls la lc M (itoaT x.sq) (dP x M) W b4 (hL.below hW) hMs (fun W => Dec2.dec_itoa x.sq b3.1 (by omega) W) b1 hM (itoaT_size (by omega) (by omega)) b5 (dP_zero x M) (fun k hk => dP_more x M k hk) (fun k => dP_le hd hM k)
end DocR
end Go.Proofs.YtpmimpenmphloaaDoor
