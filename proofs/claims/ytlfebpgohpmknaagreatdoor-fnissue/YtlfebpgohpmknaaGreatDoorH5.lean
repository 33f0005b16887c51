/-
  A document's text, the model's side, and both. The conditions: texts of at most 1048576 bytes, at most 1048576 lines; the library's table stands in its variable.
  What strconv.FormatInt hands back at base 10.
  What the library's FormatInt hands back at base 10, by the shelf's contract. The condition: its table stands in its variable.
  FnIssue: for every two lists of bytes that are drawn from the law's call returns true: what is issued to a drawn right ledger makes its net the bill, no document ahead is another one, issued again nothing is new; what is less, and what it is less by, are together what it was; both sides tell the same. The conditions: the library's tables and errors' own variable stand as the program's text lays them.
  From the row's premise on the tables to the walk's: the library's variable holds the powers of ten; and a world that meets the premise. No condition.
  From the row's premise on errors' own variable to the walk's: its one cell holds the handle of the type error; and a world that meets the premise. No condition.
  From the row's premise on the tables and on errors' own variable to the walk's; and a world that meets the premise. No condition.
-/
import Derived.Shelf.Strconv.Itoa0
import Derived.Shelf.Strconv.Itoa1
import Derived.Shelf.LaysM
import Derived.Shelf.Strconv.Itoa2
import Derived.Shelf.Strconv.Itoa3
import Derived.Shelf.Strconv.Itoa4
import Derived.Shelf.Strconv.Clone
import Derived.Shelf.Sort.Plain
import Derived.Ground.SlgmProg
import Derived.Shelf.SortM.SortNone
import Derived.Test.YtlfebpgohpmknaaGreatDoorProg
import Derived.Deep.RegionHeld3
import Derived.Stop.LaidErr
import Derived.Test.YtlfebpgohpmknaaGreatDoorTie
import Derived.ChangeSame
import Derived.ChangeVars
import Derived.JoinedOf
import Derived.ProofKit
import Derived.LaidLaws
import Derived.LaidMore
import Derived.LaidHandle
import Derived.MakeChecks
import Derived.Lib.LaidTab
import Derived.Stop.Joined
import Derived.LaidSub
import Derived.Test.YtlfebpgohpmknaaGreatDoorH4
namespace Go.Proofs.YtlfebpgohpmknaaGreatDoor
open Go.ChangeShapes Go.WideShapes Go.ChangeAt Go.RowKit
set_option linter.unusedVariables false
namespace DocR
open LinR RowG
open JoinR (joinB jl)
open CatR (Blk Blk.new)
open Dec2 (itoaT itoaT_size PowT FmtOk)
theorem joinB_four (x y z u : ByteArray) : joinB [x, y, z, u] = x ++ y ++ z ++ u := by
  apply ByteArray.ext
  simp [joinB, Array.append_assoc]
/-- What a round of the lines reads. -/
def LHx (w wr : World) (la : Option Addr) (ll lc b o : Nat) (U : ByteArray) (P : Int) (W : World) : Prop := Below wr.heap.size wr W ∧ w.heap.size < wr.heap.size ∧ b < wr.heap.size ∧ W.cell? ⟨w.heap.size, 3, none⟩ = some (.slice la ll lc) ∧ W.cell? ⟨b, o, none⟩ = some (.string U) ∧ W.cell? ⟨b, o + 1, none⟩ = some (.int .i64 P)
theorem LHx.below {w wr : World} {la : Option Addr} {ll lc b o : Nat} {U : ByteArray} {P : Int} {W W' : World} (h : LHx w wr la ll lc b o U P W) (hb : Below W.heap.size W W') : LHx w wr la ll lc b o U P W' := by
  obtain ⟨h0, h1, h2, c0, c1, c2⟩ := h
  have s := h0.size
  exact ⟨h0.trans (hb.mono h0.size), h1, h2, (hb.cell (p := ⟨w.heap.size, 3, none⟩) (Nat.lt_of_lt_of_le h1 s)).trans c0, (hb.cell (p := ⟨b, o, none⟩) (Nat.lt_of_lt_of_le h2 s)).trans c1, (hb.cell (p := ⟨b, o + 1, none⟩) (Nat.lt_of_lt_of_le h2 s)).trans c2⟩
set_option maxRecDepth 100000 in
set_option maxHeartbeats 16000000 in
theorem spec_dt_in (a : ByteArray) (mo sq : Int) (ls : List N) (la : Option Addr) (lc : Nat) (T1 T2 : ByteArray) (Q : Nat → List ByteArray) (w : World) (l1 : ls.length ≤ 6) (hL : Lis la ls w)
    (p1 : ∀ W, Calls Tryz.prog 72 #[.int .i64 mo] W fun e w' => e = .returned (.string T1) ∧ Below W.heap.size W w')
    (p2 : ∀ W, Calls Tryz.prog 73 #[.int .i64 sq] W fun e w' => e = .returned (.string T2) ∧ Below W.heap.size W w')
    (za : a.size ≤ 20) (z1 : T1.size ≤ 30) (z2 : T2.size ≤ 20)
    (s9 : ∀ y ∈ ls, y.i.size ≤ 20 ∧ -1000000000000000 ≤ y.n ∧ y.n ≤ 1000000000000000)
    (hQ0 : Q 0 = [a, ⟨#[32]⟩, T1, ⟨#[35]⟩, T2]) (hQM : ∀ k, k < ls.length → Q (k + 1) = Q k ++ [⟨#[32]⟩, (ls.getD k N.zero).i, ⟨#[61]⟩, itoaT (ls.getD k N.zero).n]) (hQS : ∀ k, (joinB (Q k)).size ≤ 2000) :
    Calls Tryz.prog 48 #[.agg #[.string a, .int .i64 mo, .int .i64 sq, .slice la ls.length lc]] w fun e w' => e = .returned (.string (joinB (Q ls.length))) ∧ Below w.heap.size w w' := by
  have HL := hid_intro hL
  have P1 := hid_intro p1
  have P2 := hid_intro p2
  have S9 := hid_intro s9
  have HJ0' : Hid (joinB (Q 0) = a ++ ⟨#[32]⟩ ++ T1 ++ ⟨#[35]⟩ ++ T2) := hid_intro (by rw [hQ0]; apply ByteArray.ext; simp [joinB])
  have HJM' : Hid (∀ k, k < ls.length → joinB (Q (k + 1)) = joinB (Q k) ++ ⟨#[32]⟩ ++ (ls.getD k N.zero).i ++ ⟨#[61]⟩ ++ itoaT (ls.getD k N.zero).n) := hid_intro (fun k hk => by rw [hQM k hk, joinB_app, joinB_four]; apply ByteArray.ext; simp [Array.append_assoc])
  obtain ⟨JB, hJB⟩ : ∃ JB : Nat → ByteArray, ∀ k, JB k = joinB (Q k) := ⟨_, fun _ => rfl⟩
  have HJ0 : Hid (JB 0 = a ++ ⟨#[32]⟩ ++ T1 ++ ⟨#[35]⟩ ++ T2) := hid_intro (by rw [hJB]; exact HJ0'.out)
  have HJM : Hid (∀ k, k < ls.length → JB (k + 1) = JB k ++ ⟨#[32]⟩ ++ (ls.getD k N.zero).i ++ ⟨#[61]⟩ ++ itoaT (ls.getD k N.zero).n) := hid_intro (fun k hk => by rw [hJB, hJB]; exact HJM'.out k hk)
  have HBS : Hid (∀ k, (JB k).size ≤ 2000) := hid_intro (fun k => by rw [hJB]; exact hQS k)
  rw [← hJB]
  have e1 : (⟨#[32]⟩ : ByteArray).size = 1 := rfl
  have e2 : (⟨#[35]⟩ : ByteArray).size = 1 := rfl
  have e3 : (⟨#[61]⟩ : ByteArray).size = 1 := rfl
  have v1 : ¬ 9223372036854775807 < a.size + 1 := by omega
  have v2 : ¬ 9223372036854775807 < a.size + 1 + T1.size := by omega
  have v3 : ¬ 9223372036854775807 < a.size + 1 + T1.size + 1 := by omega
  have v4 : ¬ 9223372036854775807 < a.size + 1 + T1.size + 1 + T2.size := by omega
  obtain ⟨ll, hll⟩ : ∃ ll, ll = ls.length := ⟨_, rfl⟩
  have HLL := hid_intro hll
  rw [← hll] at l1 HJM ⊢
  clear hL p1 p2 s9 hQ0 hQM hQS hJB hll HJ0' HJM'
  have HS0 : Hid (DBx w a mo sq la ll lc ((w.alloc (.cells #[.string a, .int .i64 mo, .int .i64 sq, .slice la ll lc] 28)).drew)) := hid_intro (DBx.below (DBx.of ((Below.refl _ _).alloc (Nat.le_refl _) _) (Blk.new w [.string a, .int .i64 mo, .int .i64 sq, .slice la ll lc] 28)) (Below.refl _ _).drew)
  go_enter Tryz.func48, Tryz.ntmps48
  go_wp2_with fail
  refine wp_region_held_drew (S := (fun W => Below w.heap.size w W ∧ w.heap.size < W.heap.size ∧ W.cell? ⟨w.heap.size, 0, none⟩ = some (.string a) ∧ W.cell? ⟨w.heap.size, 1, none⟩ = some (.int .i64 mo) ∧ W.cell? ⟨w.heap.size, 2, none⟩ = some (.int .i64 sq) ∧ W.cell? ⟨w.heap.size, 3, none⟩ = some (.slice la ll lc))) (by kernel_rfl) HS0.out (fun hHeld => ?_)
  refine wpAnyH_take (i := 0) (oi := { dst := some 5, op := Op.fieldAddr 28 (Operand.tmp 1) 0, type := 0, pos := "l09_ledger.go:158", after := #[], guard := none }) (v := ?_) rfl (by kernel_rfl) (by kernel_rfl) (by kernel_rfl) (fun _ _ _ h => h) (Or.inl ⟨by rfl, ?_⟩) (by assumption) ?_
  rotate_left
  · (intro w hSw; (try dsimp only at hSw); go_simp) <;> with_reducible rfl
  try simp only [Act.put, List.setIfInBounds_toArray, List.set_cons_zero, List.set_cons_succ]
  refine wpAnyH_take (i := 1) (oi := { dst := some 6, op := Op.load 9 (Operand.tmp 5), type := 9, pos := "l09_ledger.go:158", after := #[{ on := 0, ground := Ground.data }], guard := none }) (v := ?_) rfl (by kernel_rfl) (by kernel_rfl) (by kernel_rfl) (fun _ _ _ h => h) (Or.inl ⟨by rfl, ?_⟩) (by assumption) ?_
  rotate_left
  · (intro w hSw; (try dsimp only at hSw); go_simp) <;> with_reducible rfl
  try simp only [Act.put, List.setIfInBounds_toArray, List.set_cons_zero, List.set_cons_succ]
  refine wpAnyH_take (i := 2) (oi := { dst := some 7, op := Op.binOp BinOp.add 9 (Operand.tmp 6) (Operand.const (Value.string { data := #[32] })) 9, type := 9, pos := "l09_ledger.go:158", after := #[{ on := 1, ground := Ground.data }], guard := none }) (v := ?_) rfl (by kernel_rfl) (by kernel_rfl) (by kernel_rfl) (fun _ _ _ h => h) (Or.inl ⟨by rfl, ?_⟩) (by assumption) ?_
  rotate_left
  · (intro w hSw; (try dsimp only at hSw); go_simp) <;> with_reducible rfl
  try simp only [Act.put, List.setIfInBounds_toArray, List.set_cons_zero, List.set_cons_succ]
  refine wpAnyH_take (i := 3) (oi := { dst := some 8, op := Op.fieldAddr 28 (Operand.tmp 1) 1, type := 0, pos := "l09_ledger.go:158", after := #[], guard := none }) (v := ?_) rfl (by kernel_rfl) (by kernel_rfl) (by kernel_rfl) (fun _ _ _ h => h) (Or.inl ⟨by rfl, ?_⟩) (by assumption) ?_
  rotate_left
  · (intro w hSw; (try dsimp only at hSw); go_simp) <;> with_reducible rfl
  try simp only [Act.put, List.setIfInBounds_toArray, List.set_cons_zero, List.set_cons_succ]
  refine wpAnyH_take (i := 4) (oi := { dst := some 9, op := Op.load 2 (Operand.tmp 8), type := 2, pos := "l09_ledger.go:158", after := #[{ on := 3, ground := Ground.data }], guard := none }) (v := ?_) rfl (by kernel_rfl) (by kernel_rfl) (by kernel_rfl) (fun _ _ _ h => h) (Or.inl ⟨by rfl, ?_⟩) (by assumption) ?_
  rotate_left
  · (intro w hSw; (try dsimp only at hSw); go_simp) <;> with_reducible rfl
  try simp only [Act.put, List.setIfInBounds_toArray, List.set_cons_zero, List.set_cons_succ]
  refine wpAnyH_take (i := 8) (oi := { dst := some 13, op := Op.fieldAddr 28 (Operand.tmp 1) 2, type := 0, pos := "l09_ledger.go:158", after := #[], guard := none }) (v := ?_) rfl (by kernel_rfl) (by kernel_rfl) (by kernel_rfl) (fun _ _ _ h => h) (Or.inl ⟨by rfl, ?_⟩) (by assumption) ?_
  rotate_left
  · (intro w hSw; (try dsimp only at hSw); go_simp) <;> with_reducible rfl
  try simp only [Act.put, List.setIfInBounds_toArray, List.set_cons_zero, List.set_cons_succ]
  refine wpAnyH_take (i := 9) (oi := { dst := some 14, op := Op.load 2 (Operand.tmp 13), type := 2, pos := "l09_ledger.go:158", after := #[{ on := 8, ground := Ground.data }], guard := none }) (v := ?_) rfl (by kernel_rfl) (by kernel_rfl) (by kernel_rfl) (fun _ _ _ h => h) (Or.inl ⟨by rfl, ?_⟩) (by assumption) ?_
  rotate_left
  · (intro w hSw; (try dsimp only at hSw); go_simp) <;> with_reducible rfl
  try simp only [Act.put, List.setIfInBounds_toArray, List.set_cons_zero, List.set_cons_succ]
  refine wpAnyH_ready (rs := [5]) (by kernel_rfl) (by simp) ?_
  refine AllReadyH.cons (o := { dst := some 10, op := Op.call { callee := Callee.value (Operand.func 72), args := #[Operand.tmp 9], argTypes := #[2] }, type := 9, pos := "l09_ledger.go:158", after := #[{ on := 4, ground := Ground.data }], guard := none }) rfl (fun K hK => ?_) AllReadyH.nil
  go_simp
  go_at_call 72
  refine (P1.out _).mono ?_
  rintro e q1 ⟨rfl, hq1⟩
  try go_wp2_with fail
  have hk1 := DBx.below (w := w) (a := a) (mo := mo) (sq := sq) (la := la) (ll := ll) (lc := lc) HS0.out hq1
  refine hK.out _ _ hk1 (fun _ => ?_)
  clear hK K
  try simp only [Act.put, List.setIfInBounds_toArray, List.set_cons_zero, List.set_cons_succ]
  refine wpAnyH_take (i := 6) (oi := { dst := some 11, op := Op.binOp BinOp.add 9 (Operand.tmp 7) (Operand.tmp 10) 9, type := 9, pos := "l09_ledger.go:158", after := #[{ on := 2, ground := Ground.data }, { on := 5, ground := Ground.data }], guard := none }) (v := ?_) rfl (by kernel_rfl) (by kernel_rfl) (by kernel_rfl) (fun _ _ _ h => h) (Or.inl ⟨by rfl, ?_⟩) (by assumption) ?_
  rotate_left
  · (intro w hSw; (try dsimp only at hSw); go_simp) <;> with_reducible rfl
  try simp only [Act.put, List.setIfInBounds_toArray, List.set_cons_zero, List.set_cons_succ]
  refine wpAnyH_take (i := 7) (oi := { dst := some 12, op := Op.binOp BinOp.add 9 (Operand.tmp 11) (Operand.const (Value.string { data := #[35] })) 9, type := 9, pos := "l09_ledger.go:158", after := #[{ on := 6, ground := Ground.data }], guard := none }) (v := ?_) rfl (by kernel_rfl) (by kernel_rfl) (by kernel_rfl) (fun _ _ _ h => h) (Or.inl ⟨by rfl, ?_⟩) (by assumption) ?_
  rotate_left
  · (intro w hSw; (try dsimp only at hSw); go_simp) <;> with_reducible rfl
  try simp only [Act.put, List.setIfInBounds_toArray, List.set_cons_zero, List.set_cons_succ]
  refine wpAnyH_ready (rs := [10]) (by kernel_rfl) (by simp) ?_
  refine AllReadyH.cons (o := { dst := some 15, op := Op.call { callee := Callee.value (Operand.func 73), args := #[Operand.tmp 14], argTypes := #[2] }, type := 9, pos := "l09_ledger.go:158", after := #[{ on := 9, ground := Ground.data }, { on := 5, ground := Ground.chain }], guard := none }) rfl (fun K hK => ?_) AllReadyH.nil
  go_simp
  go_at_call 73
  refine (P2.out _).mono ?_
  rintro e q2 ⟨rfl, hq2⟩
  try go_wp2_with fail
  have hk2 := DBx.below (w := w) (a := a) (mo := mo) (sq := sq) (la := la) (ll := ll) (lc := lc) hk1 hq2
  refine hK.out _ _ hk2 (fun _ => ?_)
  clear hK K
  try simp only [Act.put, List.setIfInBounds_toArray, List.set_cons_zero, List.set_cons_succ]
  refine wpAnyH_take (i := 11) (oi := { dst := some 16, op := Op.binOp BinOp.add 9 (Operand.tmp 12) (Operand.tmp 15) 9, type := 9, pos := "l09_ledger.go:158", after := #[{ on := 7, ground := Ground.data }, { on := 10, ground := Ground.data }], guard := none }) (v := ?_) rfl (by kernel_rfl) (by kernel_rfl) (by kernel_rfl) (fun _ _ _ h => h) (Or.inl ⟨by rfl, ?_⟩) (by assumption) ?_
  rotate_left
  · (intro w hSw; (try dsimp only at hSw); go_simp) <;> with_reducible rfl
  try simp only [Act.put, List.setIfInBounds_toArray, List.set_cons_zero, List.set_cons_succ]
  refine wpAnyH_take (i := 12) (oi := { dst := some 3, op := Op.assign (Operand.tmp 16), type := 9, pos := "l09_ledger.go:158", after := #[{ on := 11, ground := Ground.data }, { on := 10, ground := Ground.chain }, { on := 0, ground := Ground.phase }, { on := 1, ground := Ground.phase }, { on := 2, ground := Ground.phase }, { on := 3, ground := Ground.phase }, { on := 4, ground := Ground.phase }, { on := 5, ground := Ground.phase }, { on := 6, ground := Ground.phase }, { on := 7, ground := Ground.phase }, { on := 8, ground := Ground.phase }, { on := 9, ground := Ground.phase }, { on := 10, ground := Ground.phase }, { on := 11, ground := Ground.phase }], guard := none }) (v := ?_) rfl (by kernel_rfl) (by kernel_rfl) (by kernel_rfl) (fun _ _ _ h => h) (Or.inl ⟨by rfl, ?_⟩) (by assumption) ?_
  rotate_left
  · (intro w hSw; (try dsimp only at hSw); go_simp) <;> with_reducible rfl
  try simp only [Act.put, List.setIfInBounds_toArray, List.set_cons_zero, List.set_cons_succ]
  refine wpAnyH_done (by kernel_rfl) ?_ _
  have HB1 := hid_intro hk2.1
  have HX1 := hid_intro (DBx.blk hk2)
  clear hk1 hk2 hq1 hq2 HS0 v1 v2 v3 v4
  rw [← HJ0.out]
  go_wp2_with fail
  go_loopw [3, 4] (fun y z wx => ∃ i : Nat, i ≤ ll ∧ y = .string (JB i) ∧ z = .int .i64 i ∧ Hid (Below w.heap.size w wx) ∧ Hid (Blk w.heap.size [.string a, .int .i64 mo, .int .i64 sq, .slice la ll lc] wx)) (fun y z _ => ll - (intOf z).toNat)
  case atStart => exact ⟨0, by omega, rfl, rfl, HB1, HX1⟩
  case round =>
    clear HB1 HX1
    obtain ⟨i, hi, rfl, rfl, HB, HX⟩ := hrel
    have hxl := HX.out.1
    have x3 : wr.cell? ⟨w.heap.size, 3, none⟩ = some (.slice la ll lc) := HX.out.2 3 (by simp)
    by_cases hlt3 : i < ll
    · have hlt2 : (i : Int) < (ll : Int) := by omega
      have hil : i < ls.length := by have := HLL.out; omega
      obtain ⟨b, off, rfl, hbl, c0, c1⟩ := (HL.out.below HB.out).at i hil
      have u1 := S9.out _ (RowG.getD_mem (z := N.zero) ls i hil)
      have HC := hid_intro (HJM.out i hlt3)
      generalize ls.getD i N.zero = Y at *
      obtain ⟨U, P⟩ := Y
      dsimp only at c0 c1 u1 HC
      obtain ⟨u2, u3, u4⟩ := u1
      have Q1 := hid_intro (fun w => Dec2.sdec_itoa P (by omega) (by omega) w)
      have hX1 : (itoaT P).size ≤ 20 := itoaT_size (by omega) (by omega)
      generalize itoaT P = X1 at *
      have hJ := HBS.out i
      generalize JB i = J at *
      have v1 : ¬ 9223372036854775807 < J.size + 1 := by omega
      have v2 : ¬ 9223372036854775807 < J.size + 1 + U.size := by omega
      have v3 : ¬ 9223372036854775807 < J.size + 1 + U.size + 1 := by omega
      have v4 : ¬ 9223372036854775807 < J.size + 1 + U.size + 1 + X1.size := by omega
      have HS1 : Hid (LHx w wr (some ⟨b, off, none⟩) ll lc b (off + i * 2) U P wr.drew) := hid_intro (LHx.below ⟨Below.refl _ _, hxl, hbl, x3, c0, c1⟩ (Below.refl _ _).drew)
      clear u2 u3 u4
      go_wp2_with fail
      refine wp_region_held_drew (S := (fun W => Below wr.heap.size wr W ∧ w.heap.size < wr.heap.size ∧ b < wr.heap.size ∧ W.cell? ⟨w.heap.size, 3, none⟩ = some (.slice (some ⟨b, off, none⟩) ll lc) ∧ W.cell? ⟨b, off + i * 2, none⟩ = some (.string U) ∧ W.cell? ⟨b, off + i * 2 + 1, none⟩ = some (.int .i64 P))) (by kernel_rfl) HS1.out (fun hHeld => ?_)
      refine wpAnyH_take (i := 0) (oi := { dst := some 24, op := Op.move (Operand.tmp 3), type := 9, pos := "l09_ledger.go:160", after := #[], guard := none }) (v := ?_) rfl (by kernel_rfl) (by kernel_rfl) (by kernel_rfl) (fun _ _ _ h => h) (Or.inl ⟨by rfl, ?_⟩) (by assumption) ?_
      rotate_left
      · (intro w hSw; (try dsimp only at hSw); go_simp) <;> with_reducible rfl
      try simp only [Act.put, List.setIfInBounds_toArray, List.set_cons_zero, List.set_cons_succ]
      refine wpAnyH_take (i := 1) (oi := { dst := some 25, op := Op.binOp BinOp.add 9 (Operand.tmp 24) (Operand.const (Value.string { data := #[32] })) 9, type := 9, pos := "l09_ledger.go:160", after := #[{ on := 0, ground := Ground.data }], guard := none }) (v := ?_) rfl (by kernel_rfl) (by kernel_rfl) (by kernel_rfl) (fun _ _ _ h => h) (Or.inl ⟨by rfl, ?_⟩) (by assumption) ?_
      rotate_left
      · (intro w hSw; (try dsimp only at hSw); go_simp) <;> with_reducible rfl
      try simp only [Act.put, List.setIfInBounds_toArray, List.set_cons_zero, List.set_cons_succ]
      refine wpAnyH_take (i := 2) (oi := { dst := some 26, op := Op.fieldAddr 28 (Operand.tmp 1) 3, type := 0, pos := "l09_ledger.go:160", after := #[], guard := none }) (v := ?_) rfl (by kernel_rfl) (by kernel_rfl) (by kernel_rfl) (fun _ _ _ h => h) (Or.inl ⟨by rfl, ?_⟩) (by assumption) ?_
      rotate_left
      · (intro w hSw; (try dsimp only at hSw); go_simp) <;> with_reducible rfl
      try simp only [Act.put, List.setIfInBounds_toArray, List.set_cons_zero, List.set_cons_succ]
      refine wpAnyH_take (i := 3) (oi := { dst := some 27, op := Op.load 24 (Operand.tmp 26), type := 24, pos := "l09_ledger.go:160", after := #[{ on := 2, ground := Ground.data }], guard := none }) (v := ?_) rfl (by kernel_rfl) (by kernel_rfl) (by kernel_rfl) (fun _ _ _ h => h) (Or.inl ⟨by rfl, ?_⟩) (by assumption) ?_
      rotate_left
      · (intro w hSw; (try dsimp only at hSw); go_simp) <;> with_reducible rfl
      try simp only [Act.put, List.setIfInBounds_toArray, List.set_cons_zero, List.set_cons_succ]
      refine wpAnyH_take (i := 4) (oi := { dst := some 28, op := Op.move (Operand.tmp 4), type := 3, pos := "l09_ledger.go:160", after := #[], guard := none }) (v := ?_) rfl (by kernel_rfl) (by kernel_rfl) (by kernel_rfl) (fun _ _ _ h => h) (Or.inl ⟨by rfl, ?_⟩) (by assumption) ?_
      rotate_left
      · (intro w hSw; (try dsimp only at hSw); go_simp) <;> with_reducible rfl
      try simp only [Act.put, List.setIfInBounds_toArray, List.set_cons_zero, List.set_cons_succ]
      refine wpAnyH_take (i := 5) (oi := { dst := some 29, op := Op.indexAddr 24 (Operand.tmp 27) (Operand.tmp 28), type := 0, pos := "l09_ledger.go:160", after := #[{ on := 3, ground := Ground.data }, { on := 4, ground := Ground.data }], guard := none }) (v := ?_) rfl (by kernel_rfl) (by kernel_rfl) (by kernel_rfl) (fun _ _ _ h => h) (Or.inl ⟨by rfl, ?_⟩) (by assumption) ?_
      rotate_left
      · (intro w hSw; (try dsimp only at hSw); go_simp) <;> with_reducible rfl
      try simp only [Act.put, List.setIfInBounds_toArray, List.set_cons_zero, List.set_cons_succ]
      refine wpAnyH_take (i := 6) (oi := { dst := some 30, op := Op.fieldAddr 74 (Operand.tmp 29) 0, type := 0, pos := "l09_ledger.go:160", after := #[{ on := 5, ground := Ground.data }], guard := none }) (v := ?_) rfl (by kernel_rfl) (by kernel_rfl) (by kernel_rfl) (fun _ _ _ h => h) (Or.inl ⟨by rfl, ?_⟩) (by assumption) ?_
      rotate_left
      · (intro w hSw; (try dsimp only at hSw); go_simp) <;> with_reducible rfl
      try simp only [Act.put, List.setIfInBounds_toArray, List.set_cons_zero, List.set_cons_succ]
      refine wpAnyH_take (i := 7) (oi := { dst := some 31, op := Op.load 9 (Operand.tmp 30), type := 9, pos := "l09_ledger.go:160", after := #[{ on := 6, ground := Ground.data }], guard := none }) (v := ?_) rfl (by kernel_rfl) (by kernel_rfl) (by kernel_rfl) (fun _ _ _ h => h) (Or.inl ⟨by rfl, ?_⟩) (by assumption) ?_
      rotate_left
      · (intro w hSw; (try dsimp only at hSw); go_simp) <;> with_reducible rfl
      try simp only [Act.put, List.setIfInBounds_toArray, List.set_cons_zero, List.set_cons_succ]
      refine wpAnyH_take (i := 8) (oi := { dst := some 32, op := Op.binOp BinOp.add 9 (Operand.tmp 25) (Operand.tmp 31) 9, type := 9, pos := "l09_ledger.go:160", after := #[{ on := 1, ground := Ground.data }, { on := 7, ground := Ground.data }], guard := none }) (v := ?_) rfl (by kernel_rfl) (by kernel_rfl) (by kernel_rfl) (fun _ _ _ h => h) (Or.inl ⟨by rfl, ?_⟩) (by assumption) ?_
      rotate_left
      · (intro w hSw; (try dsimp only at hSw); go_simp) <;> with_reducible rfl
      try simp only [Act.put, List.setIfInBounds_toArray, List.set_cons_zero, List.set_cons_succ]
      refine wpAnyH_take (i := 9) (oi := { dst := some 33, op := Op.binOp BinOp.add 9 (Operand.tmp 32) (Operand.const (Value.string { data := #[61] })) 9, type := 9, pos := "l09_ledger.go:160", after := #[{ on := 8, ground := Ground.data }], guard := none }) (v := ?_) rfl (by kernel_rfl) (by kernel_rfl) (by kernel_rfl) (fun _ _ _ h => h) (Or.inl ⟨by rfl, ?_⟩) (by assumption) ?_
      rotate_left
      · (intro w hSw; (try dsimp only at hSw); go_simp) <;> with_reducible rfl
      try simp only [Act.put, List.setIfInBounds_toArray, List.set_cons_zero, List.set_cons_succ]
      refine wpAnyH_take (i := 10) (oi := { dst := some 34, op := Op.fieldAddr 28 (Operand.tmp 1) 3, type := 0, pos := "l09_ledger.go:160", after := #[], guard := none }) (v := ?_) rfl (by kernel_rfl) (by kernel_rfl) (by kernel_rfl) (fun _ _ _ h => h) (Or.inl ⟨by rfl, ?_⟩) (by assumption) ?_
      rotate_left
      · (intro w hSw; (try dsimp only at hSw); go_simp) <;> with_reducible rfl
      try simp only [Act.put, List.setIfInBounds_toArray, List.set_cons_zero, List.set_cons_succ]
      refine wpAnyH_take (i := 11) (oi := { dst := some 35, op := Op.load 24 (Operand.tmp 34), type := 24, pos := "l09_ledger.go:160", after := #[{ on := 10, ground := Ground.data }], guard := none }) (v := ?_) rfl (by kernel_rfl) (by kernel_rfl) (by kernel_rfl) (fun _ _ _ h => h) (Or.inl ⟨by rfl, ?_⟩) (by assumption) ?_
      rotate_left
      · (intro w hSw; (try dsimp only at hSw); go_simp) <;> with_reducible rfl
      try simp only [Act.put, List.setIfInBounds_toArray, List.set_cons_zero, List.set_cons_succ]
      refine wpAnyH_take (i := 12) (oi := { dst := some 36, op := Op.move (Operand.tmp 4), type := 3, pos := "l09_ledger.go:160", after := #[], guard := none }) (v := ?_) rfl (by kernel_rfl) (by kernel_rfl) (by kernel_rfl) (fun _ _ _ h => h) (Or.inl ⟨by rfl, ?_⟩) (by assumption) ?_
      rotate_left
      · (intro w hSw; (try dsimp only at hSw); go_simp) <;> with_reducible rfl
      try simp only [Act.put, List.setIfInBounds_toArray, List.set_cons_zero, List.set_cons_succ]
      refine wpAnyH_take (i := 13) (oi := { dst := some 37, op := Op.indexAddr 24 (Operand.tmp 35) (Operand.tmp 36), type := 0, pos := "l09_ledger.go:160", after := #[{ on := 11, ground := Ground.data }, { on := 12, ground := Ground.data }], guard := none }) (v := ?_) rfl (by kernel_rfl) (by kernel_rfl) (by kernel_rfl) (fun _ _ _ h => h) (Or.inl ⟨by rfl, ?_⟩) (by assumption) ?_
      rotate_left
      · (intro w hSw; (try dsimp only at hSw); go_simp) <;> with_reducible rfl
      try simp only [Act.put, List.setIfInBounds_toArray, List.set_cons_zero, List.set_cons_succ]
      refine wpAnyH_take (i := 14) (oi := { dst := some 38, op := Op.fieldAddr 74 (Operand.tmp 37) 1, type := 0, pos := "l09_ledger.go:160", after := #[{ on := 13, ground := Ground.data }], guard := none }) (v := ?_) rfl (by kernel_rfl) (by kernel_rfl) (by kernel_rfl) (fun _ _ _ h => h) (Or.inl ⟨by rfl, ?_⟩) (by assumption) ?_
      rotate_left
      · (intro w hSw; (try dsimp only at hSw); go_simp) <;> with_reducible rfl
      try simp only [Act.put, List.setIfInBounds_toArray, List.set_cons_zero, List.set_cons_succ]
      refine wpAnyH_take (i := 15) (oi := { dst := some 39, op := Op.load 2 (Operand.tmp 38), type := 2, pos := "l09_ledger.go:160", after := #[{ on := 14, ground := Ground.data }], guard := none }) (v := ?_) rfl (by kernel_rfl) (by kernel_rfl) (by kernel_rfl) (fun _ _ _ h => h) (Or.inl ⟨by rfl, ?_⟩) (by assumption) ?_
      rotate_left
      · (intro w hSw; (try dsimp only at hSw); go_simp) <;> with_reducible rfl
      try simp only [Act.put, List.setIfInBounds_toArray, List.set_cons_zero, List.set_cons_succ]
      refine wpAnyH_ready (rs := [16]) (by kernel_rfl) (by simp) ?_
      refine AllReadyH.cons (o := { dst := some 40, op := Op.call { callee := Callee.value (Operand.func 74), args := #[Operand.tmp 39], argTypes := #[2] }, type := 9, pos := "l09_ledger.go:160", after := #[{ on := 15, ground := Ground.data }], guard := none }) rfl (fun K hK => ?_) AllReadyH.nil
      go_simp
      go_at_call 74
      refine (Q1.out _).mono ?_
      rintro e q1 ⟨rfl, hq1⟩
      try go_wp2_with fail
      have hk1 := LHx.below (w := w) (wr := wr) (la := some ⟨b, off, none⟩) (ll := ll) (lc := lc) (b := b) (o := off + i * 2) (U := U) (P := P) HS1.out hq1
      refine hK.out _ _ hk1 (fun _ => ?_)
      clear hK K
      try simp only [Act.put, List.setIfInBounds_toArray, List.set_cons_zero, List.set_cons_succ]
      refine wpAnyH_take (i := 17) (oi := { dst := some 41, op := Op.binOp BinOp.add 9 (Operand.tmp 33) (Operand.tmp 40) 9, type := 9, pos := "l09_ledger.go:160", after := #[{ on := 9, ground := Ground.data }, { on := 16, ground := Ground.data }], guard := none }) (v := ?_) rfl (by kernel_rfl) (by kernel_rfl) (by kernel_rfl) (fun _ _ _ h => h) (Or.inl ⟨by rfl, ?_⟩) (by assumption) ?_
      rotate_left
      · (intro w hSw; (try dsimp only at hSw); go_simp) <;> with_reducible rfl
      try simp only [Act.put, List.setIfInBounds_toArray, List.set_cons_zero, List.set_cons_succ]
      refine wpAnyH_take (i := 18) (oi := { dst := some 3, op := Op.assign (Operand.tmp 41), type := 9, pos := "l09_ledger.go:160", after := #[{ on := 17, ground := Ground.data }, { on := 16, ground := Ground.chain }, { on := 0, ground := Ground.phase }, { on := 1, ground := Ground.phase }, { on := 2, ground := Ground.phase }, { on := 3, ground := Ground.phase }, { on := 4, ground := Ground.phase }, { on := 5, ground := Ground.phase }, { on := 6, ground := Ground.phase }, { on := 7, ground := Ground.phase }, { on := 8, ground := Ground.phase }, { on := 9, ground := Ground.phase }, { on := 10, ground := Ground.phase }, { on := 11, ground := Ground.phase }, { on := 12, ground := Ground.phase }, { on := 13, ground := Ground.phase }, { on := 14, ground := Ground.phase }, { on := 15, ground := Ground.phase }, { on := 16, ground := Ground.phase }, { on := 17, ground := Ground.phase }], guard := none }) (v := ?_) rfl (by kernel_rfl) (by kernel_rfl) (by kernel_rfl) (fun _ _ _ h => h) (Or.inl ⟨by rfl, ?_⟩) (by assumption) ?_
      rotate_left
      · (intro w hSw; (try dsimp only at hSw); go_simp) <;> with_reducible rfl
      try simp only [Act.put, List.setIfInBounds_toArray, List.set_cons_zero, List.set_cons_succ]
      refine wpAnyH_done (by kernel_rfl) ?_ _
      have HB5 := hid_intro (HB.out.trans (hk1.1.mono HB.out.size))
      have HX5 := hid_intro (HX.out.below hk1.1)
      clear hk1 hq1 HS1 c0 c1 x3
      go_wp2_with fail
      go_roundw
      case rel => exact ⟨i + 1, by omega, by rw [HC.out], by go_num, HB5, HX5⟩
      case measure => simp [intOf]; omega
    · have hlt2 : ¬ (i : Int) < (ll : Int) := by omega
      obtain rfl : i = ll := by omega
      go_wp2_with fail
      go_ret
      exact ⟨rfl, HB.out⟩
theorem spec_dt_all (a : ByteArray) (mo sq : Int) (la : Option Addr) (ll lc : Nat) (R : ByteArray) (r : Bool) (w : World)
    (h1 : ∀ W, Below w.heap.size w W → Calls Tryz.prog 19 #[.agg #[.string a, .int .i64 mo, .int .i64 sq, .slice la ll lc]] W fun e w' => e = .returned (.bool r) ∧ Below W.heap.size W w')
    (h2 : r = true → ∀ W, Below w.heap.size w W → Calls Tryz.prog 48 #[.agg #[.string a, .int .i64 mo, .int .i64 sq, .slice la ll lc]] W fun e w' => e = .returned (.string R) ∧ Below W.heap.size W w') :
    Calls Tryz.prog 17 #[.agg #[.string a, .int .i64 mo, .int .i64 sq, .slice la ll lc]] w fun e w' => e = .returned (.string (bif r then R else ⟨#[]⟩)) ∧ Below w.heap.size w w' := by
  have H1 := hid_intro h1
  have H2 := hid_intro h2
  clear h1 h2
  have HB0 : Hid (Below w.heap.size w (w.alloc (.cells #[.string a, .int .i64 mo, .int .i64 sq, .slice la ll lc] 28))) := hid_intro ((Below.refl _ _).alloc (Nat.le_refl _) _)
  have HX0 := hid_intro (Blk.new w [.string a, .int .i64 mo, .int .i64 sq, .slice la ll lc] 28)
  cases r
  · go_enter Tryz.func17, Tryz.ntmps17
    go_wp2_with fail
    refine (H1.out _ HB0.out).mono ?_
    rintro e w1 ⟨rfl, hb1⟩
    have HB1 := hid_intro (HB0.out.trans (hb1.mono HB0.out.size))
    clear hb1
    go_wp2_with fail
    go_ret
    exact ⟨rfl, HB1.out⟩
  · go_enter Tryz.func17, Tryz.ntmps17
    go_wp2_with fail
    refine (H1.out _ HB0.out).mono ?_
    rintro e w1 ⟨rfl, hb1⟩
    have HB1 := hid_intro (HB0.out.trans (hb1.mono HB0.out.size))
    obtain ⟨xl, xc⟩ := HX0.out.below hb1
    have x0 : w1.cell? ⟨w.heap.size, 0, none⟩ = some (.string a) := xc 0 (by simp)
    have x1 : w1.cell? ⟨w.heap.size, 1, none⟩ = some (.int .i64 mo) := xc 1 (by simp)
    have x2 : w1.cell? ⟨w.heap.size, 2, none⟩ = some (.int .i64 sq) := xc 2 (by simp)
    have x3 : w1.cell? ⟨w.heap.size, 3, none⟩ = some (.slice la ll lc) := xc 3 (by simp)
    clear hb1 xc
    go_wp2_with fail
    refine (H2.out (by first | rfl | trivial) _ HB1.out).mono ?_
    rintro e w2 ⟨rfl, hb2⟩
    have HB2 := hid_intro (HB1.out.trans (hb2.mono HB1.out.size))
    clear hb2
    go_wp2_with fail
    go_ret
    exact ⟨rfl, HB2.out⟩
theorem impl_dt_no (a : ByteArray) (mo sq : Int) (la : Option Addr) (ll lc : Nat) (w : World)
    (h1 : ∀ W, Below w.heap.size w W → Calls Tryz.prog 18 #[.agg #[.string a, .int .i64 mo, .int .i64 sq, .slice la ll lc]] W fun e w' => e = .returned (.bool false) ∧ Below W.heap.size W w') :
    Calls Tryz.prog 16 #[.agg #[.string a, .int .i64 mo, .int .i64 sq, .slice la ll lc]] w fun e w' => e = .returned (.string ⟨#[]⟩) ∧ Below w.heap.size w w' := by
  have H1 := hid_intro h1
  clear h1
  have HB0 : Hid (Below w.heap.size w (w.alloc (.cells #[.string a, .int .i64 mo, .int .i64 sq, .slice la ll lc] 28))) := hid_intro ((Below.refl _ _).alloc (Nat.le_refl _) _)
  go_enter Tryz.func16, Tryz.ntmps16
  go_wp2_with fail
  refine (H1.out _ HB0.out).mono ?_
  rintro e w1 ⟨rfl, hb1⟩
  have HB1 := hid_intro (HB0.out.trans (hb1.mono HB0.out.size))
  clear hb1
  go_wp2_with fail
  go_ret
  exact ⟨rfl, HB1.out⟩
theorem dP_zero (x : D) (M : ByteArray) : dP x M 0 = [x.a, ⟨#[32]⟩, M, ⟨#[35]⟩, itoaT x.sq] := by unfold dP; simp
/-- One text of both sides. -/
theorem text_both (hFm : FmtOk) (x : D) (hS : x.Sm) : ∃ R : ByteArray,
    (∀ la lc w, Lis la x.ls w → PowT w → Calls Tryz.prog 16 #[.agg (dcells x la lc)] w fun e w' => e = .returned (.string R) ∧ Below w.heap.size w w') ∧
    (∀ la lc w, Lis la x.ls w → Calls Tryz.prog 17 #[.agg (dcells x la lc)] w fun e w' => e = .returned (.string R) ∧ Below w.heap.size w w') := by
  obtain ⟨M, hM, hMi, hMs⟩ := MonX.mtext_both hFm x.mo
  refine ⟨bif dB x then joinB (dP x M x.ls.length) else ⟨#[]⟩, fun la lc w hL hP => ?_, fun la lc w hL => ?_⟩
  · cases hd : dB x
    · exact impl_dt_no x.a x.mo x.sq la x.ls.length lc w (fun W hW => by have h := impl_doc x la lc W hS (hL.below hW); rw [hd] at h; exact h)
    · obtain ⟨b1, b2, b3, b4, b5⟩ := doc_bd hd
      exact impl_dt_in x.a x.mo x.sq x.ls la lc M (itoaT x.sq) (dP x M) w b4 hL hP hFm (fun W hW => by have h := impl_doc x la lc W hS (hL.below hW); rw [hd] at h; exact h) hMi (fun W hP => hFm x.sq (by omega) (by omega) W hP) b5 (dP_zero x M) (fun k hk => dP_more x M k hk) (dP_le hd hM _)
  · refine spec_dt_all x.a x.mo x.sq la x.ls.length lc (joinB (dP x M x.ls.length)) (dB x) w (fun W hW => spec_doc x la lc W hS (hL.below hW)) (fun hd W hW => ?_)
    obtain ⟨b1, b2, b3, b4, b5⟩ := doc_bd hd
    exact spec_dt_in x.a x.mo x.sq x.ls la lc M (itoaT x.sq) (dP x M) W b4 (hL.below hW) hMs (fun W => Dec2.dec_itoa x.sq b3.1 (by omega) W) b1 hM (itoaT_size (by omega) (by omega)) b5 (dP_zero x M) (fun k hk => dP_more x M k hk) (fun k => dP_le hd hM k)
end DocR
end Go.Proofs.YtlfebpgohpmknaaGreatDoor
namespace Go.Proofs
open Go.Shelf
def Tryz.laysM173_ren : Go.Shelf.Ren := ⟨fun | 173 => 46 | 246 => 71 | 283 => 83 | 284 => 84 | 285 => 85 | 286 => 86 | 129 => 95 | 317 => 94 | 318 => 96 | 319 => 97 | 320 => 98 | 337 => 109 | 338 => 110 | n => n, fun | 2 => 2 | 3 => 3 | 9 => 9 | 4 => 4 | 171 => 124 | 0 => 0 | 53 => 83 | 37 => 22 | 5 => 5 | 173 => 127 | 212 => 148 | 51 => 149 | 20 => 20 | 213 => 150 | 46 => 108 | 232 => 168 | 233 => 169 | n => n, fun | 17 => 1 | 18 => 2 | 19 => 3 | n => n⟩
theorem Tryz.laysM173 : Go.Proofs.LaysM.n173 Tryz.prog Tryz.laysM173_ren := {
  mixed := by kernel_rfl
  f129 := Tryz.func95.trans (congrArg some (by kernel_rfl))
  f173 := Tryz.func46.trans (congrArg some (by kernel_rfl))
  f246 := Tryz.func71.trans (congrArg some (by kernel_rfl))
  f283 := Tryz.func83.trans (congrArg some (by kernel_rfl))
  f284 := Tryz.func84.trans (congrArg some (by kernel_rfl))
  f285 := Tryz.func85.trans (congrArg some (by kernel_rfl))
  f286 := Tryz.func86.trans (congrArg some (by kernel_rfl))
  f317 := Tryz.func94.trans (congrArg some (by kernel_rfl))
  f318 := Tryz.func96.trans (congrArg some (by kernel_rfl))
  f319 := Tryz.func97.trans (congrArg some (by kernel_rfl))
  f320 := Tryz.func98.trans (congrArg some (by kernel_rfl))
  f337 := Tryz.func109.trans (congrArg some (by kernel_rfl))
  f338 := Tryz.func110.trans (congrArg some (by kernel_rfl))
  t0 := Tryz.underlying0
  a0 := Tryz.isAgg0
  z0 := Tryz.sizeOf0
  v0 := Tryz.zeroValue0
  t2 := Tryz.underlying2
  a2 := Tryz.isAgg2
  z2 := Tryz.sizeOf2
  v2 := Tryz.zeroValue2
  t3 := Tryz.underlying3
  a3 := Tryz.isAgg3
  z3 := Tryz.sizeOf3
  v3 := Tryz.zeroValue3
  t4 := Tryz.underlying4
  a4 := Tryz.isAgg4
  z4 := Tryz.sizeOf4
  v4 := Tryz.zeroValue4
  t5 := Tryz.underlying5
  a5 := Tryz.isAgg5
  z5 := Tryz.sizeOf5
  v5 := Tryz.zeroValue5
  t9 := Tryz.underlying9
  a9 := Tryz.isAgg9
  z9 := Tryz.sizeOf9
  v9 := Tryz.zeroValue9
  t20 := Tryz.underlying20
  a20 := Tryz.isAgg20
  z20 := Tryz.sizeOf20
  v20 := Tryz.zeroValue20
  t37 := Tryz.underlying22
  a37 := Tryz.isAgg22
  z37 := Tryz.sizeOf22
  v37 := Tryz.zeroValue22
  t46 := Tryz.underlying108
  a46 := Tryz.isAgg108
  z46 := Tryz.sizeOf108
  v46 := Tryz.zeroValue108
  t51 := Tryz.underlying149
  a51 := Tryz.isAgg149
  z51 := Tryz.sizeOf149
  v51 := Tryz.zeroValue149
  t53 := Tryz.underlying83
  a53 := Tryz.isAgg83
  z53 := Tryz.sizeOf83
  v53 := Tryz.zeroValue83
  t171 := Tryz.underlying124
  a171 := Tryz.isAgg124
  z171 := Tryz.sizeOf124
  v171 := Tryz.zeroValue124
  t173 := Tryz.underlying127
  a173 := Tryz.isAgg127
  z173 := Tryz.sizeOf127
  v173 := Tryz.zeroValue127
  t212 := Tryz.underlying148
  a212 := Tryz.isAgg148
  z212 := Tryz.sizeOf148
  v212 := Tryz.zeroValue148
  t213 := Tryz.underlying150
  a213 := Tryz.isAgg150
  z213 := Tryz.sizeOf150
  t232 := Tryz.underlying168
  a232 := Tryz.isAgg168
  z232 := Tryz.sizeOf168
  v232 := Tryz.zeroValue168
  t233 := Tryz.underlying169
  a233 := Tryz.isAgg169
  z233 := Tryz.sizeOf169
  v233 := Tryz.zeroValue169
  g17 := by kernel_rfl
  g18 := by kernel_rfl
  g19 := by kernel_rfl
  i0 := by kernel_rfl
  i2 := by kernel_rfl
  i3 := by kernel_rfl
  i4 := by kernel_rfl
  i5 := by kernel_rfl
  i9 := by kernel_rfl
  i20 := by kernel_rfl
  i37 := by kernel_rfl
  i46 := by kernel_rfl
  i51 := by kernel_rfl
  i53 := by kernel_rfl
  i171 := by kernel_rfl
  i173 := by kernel_rfl
  i212 := by kernel_rfl
  i232 := by kernel_rfl
  i233 := by kernel_rfl
  m17 := by kernel_rfl
  m18 := by kernel_rfl
  m19 := by kernel_rfl }
open Go.RowKit Go.Sort Go.Lib in
theorem Tryz.strconv_FormatInt_10 (n : Int) (h0 : -9223372036854775808 ≤ n) (h1 : n ≤ 9223372036854775807) (w : World) (htab : Lib.TabIs Tryz.prog w "internal/strconv.uint64pow10" .u64 Lib.pow10Tab) :
    Calls Tryz.prog 46 #[.int .i64 n, .int .i64 10] w fun e w' => e = .returned (.string ⟨(Lib.itoa n).toArray⟩) ∧ ∃ k os, w' = grow (w.drewN k) os := Any.strconv_FormatInt_10 Tryz.laysM173 n h0 h1 w htab
end Go.Proofs
namespace Go.Proofs.YtlfebpgohpmknaaGreatDoor
open Go.RowKit
namespace Dec2
theorem fmtOk : FmtOk := fun n h0 h1 w hP => by
  refine (Tryz.strconv_FormatInt_10 n (by omega) h1 w hP).mono ?_
  rintro e w' ⟨rfl, k, os, rfl⟩
  exact ⟨rfl, below_grow w k os⟩
end Dec2
end Go.Proofs.YtlfebpgohpmknaaGreatDoor
namespace Go.Proofs.YtlfebpgohpmknaaGreatDoor
open Go.ChangeShapes Go.WideShapes Go.ChangeAt Go.RowKit
set_option linter.unusedVariables false
set_option linter.unusedSimpArgs false
namespace IssueLaw
open LinR RowG NetR LedR DocR DrawR
open CatR (Blk Blk.new)
/-- What the program's variables hold. -/
def Laid (w : World) : Prop := AsD.Laid w ∧ Dec2.PowT w
theorem Laid.below {w w' : World} (h : Laid w) (hb : Below w.heap.size w w') : Laid w' := ⟨h.1.below hb, h.2.below hb⟩
theorem fld2 (a b c d e f : Value) (w : World) : (Instr.field 30 (.agg #[a, b, c, d, e, f]) 2).run Tryz.prog w = .ok f w := by kernel_rfl
theorem who_good {T : ByteArray} {m : Int} (h : Who T m) : LedR.Good T m := by
  refine ⟨by have := h.size; omega, ?_⟩
  have h1 := h.2.1
  have h2 := h.2.2
  simp only [Lit.wf, IntKind.min, IntKind.max, IntKind.signed, IntKind.bits, Bool.and_eq_true, decide_eq_true_eq, if_true]
  omega
theorem ln4_size {L : List N} (h : ∀ e ∈ L, Kn e.i) : ∀ e ∈ L, e.i.size ≤ 1048576 := fun e he => by have := (h e he).size; omega
theorem is_small {ds : List D} {a : ByteArray} {m : Int} {bl : List N} (hd : ∀ d ∈ ds, DOk d) (hb : Bil bl) (hw : Who a m) (hl : ds.length ≤ 40) : (isX ds a m bl).a.size ≤ 1048576 ∧ (isX ds a m bl).ls.length ≤ 1048576 ∧ (isD ds a m bl).length ≤ 1048576 ∧ ∀ y ∈ isD ds a m bl, y.ls.length ≤ 1048576 := by
  by_cases h : isC ds a m bl = 0
  · have e1 : isX ds a m bl = newD ds a m bl := if_pos h
    have e2 : isD ds a m bl = ds ++ [newD ds a m bl] := if_pos h
    have h6 := new_few h hb.2 hd
    rw [e1, e2]
    refine ⟨by have := hw.size; show a.size ≤ _; omega, by omega, by simp; omega, fun y hy => ?_⟩
    rcases List.mem_append.1 hy with q | q
    · exact (hd y q).sm.2.1
    · rw [List.mem_singleton] at q
      subst q
      omega
  · have e1 : isX ds a m bl = D.zero := if_neg h
    have e2 : isD ds a m bl = [] := if_neg h
    rw [e1, e2]
    exact ⟨by decide, by decide, by simp, fun y hy => absurd hy (by simp)⟩
theorem dcs_take {b : Nat} {ds : List D} {d : D} {W : World} (h : Dcs (some ⟨b, 0, none⟩) (ds ++ [d]) W) : Dcs (some ⟨b, 0, none⟩) ds W := by
  rcases h with h0 | ⟨b', o', e, hl, hc⟩
  · simp at h0
  · refine .inr ⟨b', o', e, hl, fun j hj => ?_⟩
    have := hc j (by simp; omega)
    rw [show (ds ++ [d]).getD j D.zero = ds.getD j D.zero by simp [List.getD, List.getElem?_append_left, hj]] at this
    exact this
set_option maxRecDepth 100000 in
set_option maxHeartbeats 16000000 in
theorem law_in (w : World) (a0 a1 : Option Addr) (len0 cap0 len1 cap1 : Nat) (h0 : len0 ≤ 1048576) (h1 : len1 ≤ 1048576) (hB0 : Bytes a0 len0 w) (hB1 : Bytes a1 len1 w) (hL : Laid w) :
    Calls Tryz.prog 3 #[.slice a0 len0 cap0, .slice a1 len1 cap1] w fun e w' => e = .returned (.bool true) ∧ Below w.heap.size w w' := by
  have q0 : ¬ (1048576 : Int) < (len0 : Int) := by omega
  have q1 : ¬ (1048576 : Int) < (len1 : Int) := by omega
  have HD0 := hid_intro (dis_any a0 len0 cap0 w h0 hB0)
  have HDN := hid_intro (fun W (hb : Below w.heap.size w W) => dnet_any a1 len1 cap1 W h1 (hB1.below hb))
  have HDL := hid_intro (fun W (hb : Below w.heap.size w W) => dless_any a1 len1 cap1 W h1 (hB1.below hb))
  have HDT := hid_intro (fun W (hb : Below w.heap.size w W) => ddt_any a1 len1 cap1 W h1 (hB1.below hb))
  have HLY := hid_intro hL
  clear hB0 hB1 h0 h1 hL
  go_enter Tryz.func3, Tryz.ntmps3
  go_wp2_with fail
  refine HD0.out.mono ?_
  rintro e w1 ⟨⟨ds, da, dc, T, m, gb, cp, bl, rfl, hl, hok, hd, hpl, hwho, hbil, hLb⟩, hb1⟩
  have HB1 := hid_intro hb1
  have HY1 := hid_intro (HLY.out.below hb1)
  have HPLC := hid_intro hpl
  have HDC1 := hid_intro hd
  have HBL1 := hid_intro hLb
  have HOK := hid_intro hok
  have HWHO := hid_intro hwho
  have HBIL := hid_intro hbil
  have hnb := hbil.1
  have hII := iissue da (some ⟨gb, 0, none⟩) dc cp ds T m bl w1 HY1.out.1 (by omega) hpl.1 hpl.2 (fun d h => (hok d h).sm) (fun d h => (hok d h).wf) (who_good hwho) (by omega) (ln4_size hbil.2) hd hLb
  obtain ⟨nd, hnd⟩ : ∃ nd, nd = ds.length := ⟨_, rfl⟩
  obtain ⟨nb, hnbe⟩ : ∃ nb, nb = bl.length := ⟨_, rfl⟩
  rw [← hnd] at hl hII ⊢
  rw [← hnbe] at hII hnb ⊢
  have HND := hid_intro hnd
  have HNB := hid_intro hnbe
  have HII := hid_intro hII
  clear hd hok hb1 hnd hnbe hII hLb hbil hwho hpl HD0
  go_wp2_with fail
  refine HII.out.mono ?_
  rintro e w2 ⟨v2, rfl, hv2, hb2⟩
  have HO2 := hid_intro hv2
  obtain ⟨ax, cx, lx, lc, rfl, hDx, hLx⟩ := hv2.reads
  have HDX2 := hid_intro hDx
  have HLX2 := hid_intro hLx
  obtain ⟨X, hX⟩ : ∃ X, X = isX ds T m bl := ⟨_, rfl⟩
  obtain ⟨RD, hRD⟩ : ∃ R, R = isD ds T m bl := ⟨_, rfl⟩
  obtain ⟨cd, hcd⟩ : ∃ c, c = isC ds T m bl := ⟨_, rfl⟩
  rw [← hX, ← hRD, ← hcd] at HO2
  rw [← hX] at HLX2
  rw [← hRD] at HDX2
  rw [← hX, ← hRD, ← hcd]
  have HX := hid_intro hX
  have HRD := hid_intro hRD
  have HCD := hid_intro hcd
  clear hX hRD hcd hDx hLx hv2
  have hxs : X.a.size ≤ 1048576 ∧ X.ls.length ≤ 1048576 ∧ RD.length ≤ 1048576 ∧ (∀ y ∈ RD, y.ls.length ≤ 1048576) := by
    rw [HX.out, HRD.out]
    exact is_small HOK.out HBIL.out HWHO.out (by have := HND.out; omega)
  have HXS := hid_intro hxs
  clear hxs
  obtain ⟨xa, xm, xq, xl⟩ := X
  dsimp only at *
  obtain ⟨nx, hnx⟩ : ∃ n, n = RD.length := ⟨_, rfl⟩
  obtain ⟨nl, hnl⟩ : ∃ n, n = xl.length := ⟨_, rfl⟩
  rw [← hnx, ← hnl]
  have HNX := hid_intro hnx
  have HNL := hid_intro hnl
  clear hnx hnl
  obtain ⟨w3, hw3⟩ : ∃ z, z = w2.alloc (.cells #[.slice ax nx cx, .string xa, .int .i64 xm, .int .i64 xq, .slice lx nl lc, .int .i64 cd] 30) := ⟨_, rfl⟩
  obtain ⟨bX, hbX⟩ : ∃ z, z = w2.heap.size := ⟨_, rfl⟩
  have hb3 : Below w2.heap.size w2 w3 := by rw [hw3]; exact (Below.refl _ _).alloc (Nat.le_refl _) _
  have HBX3 : Hid (Blk bX [.slice ax nx cx, .string xa, .int .i64 xm, .int .i64 xq, .slice lx nl lc, .int .i64 cd] w3) := hid_intro (by rw [hw3, hbX]; exact Blk.new w2 [.slice ax nx cx, .string xa, .int .i64 xm, .int .i64 xq, .slice lx nl lc, .int .i64 cd] 30)
  have HB23 := hid_intro hb3
  have HB13 := hid_intro (hb2.trans (hb3.mono hb2.size))
  have HB3 := hid_intro (HB1.out.trans (HB13.out.mono HB1.out.size))
  have HW3 := hid_intro hw3
  have HBX := hid_intro hbX
  clear hb2 hb3 hw3 hbX
  go_wp2_with fail
  rw [← HW3.out, ← HBX.out]
  clear HW3 HBX
  refine (HDN.out _ HB3.out).mono ?_
  rintro e w4 ⟨⟨dn, na, nc, T2, m2, rfl, hl2, hok2, hd2, hwho2⟩, hb4⟩
  have HB34 := hid_intro hb4
  have HB4 := hid_intro (HB3.out.trans (hb4.mono HB3.out.size))
  have HOK2 := hid_intro hok2
  have HDC2 := hid_intro hd2
  have HWHO2 := hid_intro hwho2
  obtain ⟨nn, hnn⟩ : ∃ n, n = dn.length := ⟨_, rfl⟩
  rw [← hnn] at hl2 ⊢
  have HNN := hid_intro hnn
  clear hb4 hok2 hd2 hwho2 hnn
  go_wp2_with fail
  refine (HDL.out _ HB4.out).mono ?_
  rintro e w5 ⟨⟨ga, ca, gc, cc, La, Lc, rfl, h4a, h4c, hLa, hLc⟩, hb5⟩
  have HB45 := hid_intro hb5
  have HB5 := hid_intro (HB4.out.trans (hb5.mono HB4.out.size))
  have hIL := impl_less (some ⟨ga, 0, none⟩) (some ⟨gc, 0, none⟩) ca cc La Lc w5 (by have := h4a.1; omega) (by have := h4c.1; omega) (ln4_size h4a.2) (ln4_size h4c.2) hLa hLc
  have H4a := hid_intro h4a
  have H4c := hid_intro h4c
  have HLA5 := hid_intro hLa
  have HLC5 := hid_intro hLc
  have ha4 := h4a.1
  have hc4 := h4c.1
  obtain ⟨na', hna'⟩ : ∃ n, n = La.length := ⟨_, rfl⟩
  obtain ⟨nc', hnc'⟩ : ∃ n, n = Lc.length := ⟨_, rfl⟩
  rw [← hna'] at hIL ha4 ⊢
  rw [← hnc'] at hIL hc4 ⊢
  have HNA := hid_intro hna'
  have HNC := hid_intro hnc'
  have HIL := hid_intro hIL
  clear hb5 hIL h4a h4c hLa hLc hna' hnc'
  go_wp2_with fail
  refine HIL.out.mono ?_
  rintro e w6 ⟨ad, cdd, rfl, hM6, hb6⟩
  have HB56 := hid_intro hb6
  have HB6 := hid_intro (HB5.out.trans (hb6.mono HB5.out.size))
  have HLD6 := hid_intro hM6.rws
  have hdl := less_len (a := La) (b := Lc)
  obtain ⟨LD, hLD⟩ : ∃ L, L = lessB La Lc := ⟨_, rfl⟩
  rw [← hLD] at HLD6 hdl ⊢
  have HLD := hid_intro hLD
  obtain ⟨nD, hnD⟩ : ∃ n, n = LD.length := ⟨_, rfl⟩
  rw [← hnD] at hdl ⊢
  have HNDD := hid_intro hnD
  clear hb6 hM6 hLD hnD HIL
  go_wp2_with fail
  refine (HDT.out _ HB6.out).mono ?_
  rintro e w7 ⟨⟨y, gy, cy, rfl, hy1, hy2, hy3, -, hLy⟩, hb7⟩
  have HB67 := hid_intro hb7
  have hyS : y.Sm := ⟨by omega, by have := hy2.1; omega, ln4_size hy2.2⟩
  have HYS := hid_intro hyS
  have HLY7 := hid_intro hLy
  obtain ⟨R0, hIm, hSp⟩ := text_both Dec2.fmtOk y hyS
  have HIM := hid_intro hIm
  have HSP := hid_intro hSp
  have HDR := hid_intro (fun la lc W (h : Lis la y.ls W) => impl_doc y la lc W hyS h)
  have HDS := hid_intro (fun la lc W (h : Lis la y.ls W) => spec_doc y la lc W hyS h)
  unfold dcells at HIM HSP HDR HDS
  obtain ⟨yr, hyr⟩ : ∃ b, b = dB y := ⟨_, rfl⟩
  rw [← hyr] at HDR HDS
  clear hyr hb7 hy1 hy2 hy3 hLy hyS hIm hSp
  obtain ⟨ya, ym, yq, yl⟩ := y
  dsimp only at *
  obtain ⟨ny, hny⟩ : ∃ n, n = yl.length := ⟨_, rfl⟩
  rw [← hny] at HIM HSP HDR HDS ⊢
  clear hny
  obtain ⟨w8, hw8⟩ : ∃ z, z = w7.alloc (.cells #[.string ya, .int .i64 ym, .int .i64 yq, .slice (some ⟨gy, 0, none⟩) ny cy] 28) := ⟨_, rfl⟩
  obtain ⟨bY, hbY⟩ : ∃ z, z = w7.heap.size := ⟨_, rfl⟩
  have hb8 : Below w7.heap.size w7 w8 := by rw [hw8]; exact (Below.refl _ _).alloc (Nat.le_refl _) _
  have HBY8 : Hid (Blk bY [.string ya, .int .i64 ym, .int .i64 yq, .slice (some ⟨gy, 0, none⟩) ny cy] w8) := hid_intro (by rw [hw8, hbY]; exact Blk.new w7 [.string ya, .int .i64 ym, .int .i64 yq, .slice (some ⟨gy, 0, none⟩) ny cy] 28)
  have h78 := hb8
  have h68 := HB67.out.trans (hb8.mono HB67.out.size)
  have h58 := HB56.out.trans (h68.mono HB56.out.size)
  have h48 := HB45.out.trans (h58.mono HB45.out.size)
  have h38 := HB34.out.trans (h48.mono HB34.out.size)
  have h28 := HB23.out.trans (h38.mono HB23.out.size)
  have h18 := HB13.out.trans (h38.mono HB13.out.size)
  have HW8 := hid_intro (HB1.out.trans (h18.mono HB1.out.size))
  have HY8 := hid_intro (HY1.out.below h18)
  have HBX8 := hid_intro (HBX3.out.below h38)
  have HDC8 := hid_intro (HDC1.out.below h18)
  have HBL8 := hid_intro (HBL1.out.below h18)
  have HDX8 := hid_intro (HDX2.out.below h28)
  have HLX8 := hid_intro (HLX2.out.below h28)
  have HDC28 := hid_intro (HDC2.out.below h48)
  have HLA8 := hid_intro (HLA5.out.below h58)
  have HLC8 := hid_intro (HLC5.out.below h58)
  have HLD8 := hid_intro (HLD6.out.below h68)
  have HLY8 := hid_intro (HLY7.out.below h78)
  have HW8e := hid_intro hw8
  have HBYe := hid_intro hbY
  clear hb8 h78 h68 h58 h48 h38 h28 h18 hw8 hbY HB67 HB56 HB45 HB34 HB23 HB13 HB1 HB3 HB4 HB5 HB6 HY1 HBX3 HDC1 HBL1 HDX2 HLX2 HDC2 HLA5 HLC5 HLD6 HLY7 HDN HDL HDT HLY
  go_wp2_with fail
  rw [← HW8e.out, ← HBYe.out]
  clear HW8e HBYe
  have HSI := hid_intro (fun W (hb : Below w8.heap.size w8 W) => sissue da gb 0 dc cp ds T m bl W (by have := HND.out; omega) (fun d h => (HOK.out d h).sm) (by have := HWHO.out.size; omega) (by have := HNB.out; omega) (ln4_size HBIL.out.2) (HDC8.out.below hb) (HBL8.out.below hb))
  rw [← HND.out, ← HNB.out, ← HX.out, ← HRD.out, ← HCD.out] at HSI
  have HLW := hid_intro (fun v' W (hb : Below w8.heap.size w8 W) (h : LoR v' RD ⟨xa, xm, xq, xl⟩ cd W) => lwLo_any (.agg #[.slice ax RD.length cx, .string xa, .int .i64 xm, .int .i64 xq, .slice lx xl.length lc, .int .i64 cd]) v' RD ⟨xa, xm, xq, xl⟩ cd W HXS.out.2.2.1 HXS.out.2.2.2 HXS.out.2.1 ⟨ax, cx, lx, lc, rfl, HDX8.out.below hb, HLX8.out.below hb⟩ h)
  rw [← HNX.out, ← HNL.out] at HLW
  have HIN := hid_intro (fun W (hb : Below w8.heap.size w8 W) => impl_net na nc dn T2 m2 W (by have := HNN.out; omega) (fun d h => (HOK2.out d h).sm) (fun d h => (HOK2.out d h).wf) (who_good HWHO2.out) (HDC28.out.below hb))
  have HSN := hid_intro (fun W (hb : Below w8.heap.size w8 W) => spec_net na nc dn T2 m2 W (by have := HNN.out; omega) (fun d h => (HOK2.out d h).sm) (by have := HWHO2.out.size; omega) (HDC28.out.below hb))
  rw [← HNN.out] at HIN HSN
  have HLL := hid_intro (fun ao bo c d L W hl (h1 : Lis ao L W) (h2 : Lis bo L W) => lwLi_any ao bo c d L W hl h1 h2)
  have HLLD := hid_intro (fun a3 c3 W (hb : Below w8.heap.size w8 W) (h : Lis a3 LD W) => lwLi_any ad a3 cdd c3 LD W (by have := HNDD.out; omega) (HLD8.out.below hb) h)
  rw [← HNDD.out] at HLLD
  have hnl2 := netB_len (ds := dn) (a := T2) (m := m2)
  obtain ⟨NB, hNB⟩ : ∃ L, L = netB dn T2 m2 := ⟨_, rfl⟩
  rw [← hNB] at HIN HSN hnl2
  clear hNB
  have HSL := hid_intro (fun W (hb : Below w8.heap.size w8 W) => spec_less ga 0 ca (some ⟨gc, 0, none⟩) cc La Lc W (by have := HNA.out; omega) (by have := HNC.out; omega) (ln4_size H4a.out.2) (ln4_size H4c.out.2) (HLA8.out.below hb) (HLC8.out.below hb))
  rw [← HNA.out, ← HNC.out, ← HLD.out] at HSL
  have HIR := hid_intro (fun W (hb : Below w8.heap.size w8 W) => impl_ledger da dc ds W (by have := HND.out; omega) (fun d h => (HOK.out d h).sm) (fun d h => (HOK.out d h).wf) (HDC8.out.below hb))
  have HSR := hid_intro (fun W (hb : Below w8.heap.size w8 W) => spec_ledger da dc ds W (by have := HND.out; omega) (fun d h => (HOK.out d h).sm) (HDC8.out.below hb))
  rw [← HND.out] at HIR HSR
  obtain ⟨lr, hlr⟩ : ∃ b, b = lB ds := ⟨_, rfl⟩
  rw [← hlr] at HIR HSR
  clear hlr
  have HLR := hid_intro (fun W (hb : Below w8.heap.size w8 W) => spec_lines (some ⟨ga, 0, none⟩) ca La W (by have := HNA.out; omega) (ln4_size H4a.out.2) (HLA8.out.below hb))
  have HL0 := hid_intro (fun W (hb : Below w8.heap.size w8 W) => impl_less (some ⟨ga, 0, none⟩) none ca 0 La [] W (by have := HNA.out; omega) (by simp) (ln4_size H4a.out.2) (fun e h => absurd h (by simp)) (HLA8.out.below hb) (.inl rfl))
  have HLS := hid_intro (fun W (hb : Below w8.heap.size w8 W) => impl_less (some ⟨ga, 0, none⟩) (some ⟨ga, 0, none⟩) ca ca La La W (by have := HNA.out; omega) (by have := HNA.out; omega) (ln4_size H4a.out.2) (ln4_size H4a.out.2) (HLA8.out.below hb) (HLA8.out.below hb))
  rw [less_self La] at HLS
  rw [← HNA.out] at HLR HL0 HLS
  have HSB9 : Hid (∀ W, Below w8.heap.size w8 W → (fun (W : World) => bX < W.heap.size ∧ bY < W.heap.size ∧ W.cell? ⟨bX, 0, none⟩ = some (.slice ax nx cx) ∧ W.cell? ⟨bX, 1, none⟩ = some (.string xa) ∧ W.cell? ⟨bX, 2, none⟩ = some (.int .i64 xm) ∧ W.cell? ⟨bX, 3, none⟩ = some (.int .i64 xq) ∧ W.cell? ⟨bX, 4, none⟩ = some (.slice lx nl lc) ∧ W.cell? ⟨bX, 5, none⟩ = some (.int .i64 cd) ∧ W.cell? ⟨bY, 0, none⟩ = some (.string ya) ∧ W.cell? ⟨bY, 1, none⟩ = some (.int .i64 ym) ∧ W.cell? ⟨bY, 2, none⟩ = some (.int .i64 yq) ∧ W.cell? ⟨bY, 3, none⟩ = some (.slice (some ⟨gy, 0, none⟩) ny cy)) W) := hid_intro (fun W hb => by
    have h1 := HBX8.out.below hb
    have h2 := HBY8.out.below hb
    exact ⟨h1.1, h2.1, h1.2 0 (by simp), h1.2 1 (by simp), h1.2 2 (by simp), h1.2 3 (by simp), h1.2 4 (by simp), h1.2 5 (by simp), h2.2 0 (by simp), h2.2 1 (by simp), h2.2 2 (by simp), h2.2 3 (by simp)⟩)
  have hb0 : Below w8.heap.size w8 w8.drew := (Below.refl _ _).drew
  refine wp_region_held_drew (S := (fun (W : World) => bX < W.heap.size ∧ bY < W.heap.size ∧ W.cell? ⟨bX, 0, none⟩ = some (.slice ax nx cx) ∧ W.cell? ⟨bX, 1, none⟩ = some (.string xa) ∧ W.cell? ⟨bX, 2, none⟩ = some (.int .i64 xm) ∧ W.cell? ⟨bX, 3, none⟩ = some (.int .i64 xq) ∧ W.cell? ⟨bX, 4, none⟩ = some (.slice lx nl lc) ∧ W.cell? ⟨bX, 5, none⟩ = some (.int .i64 cd) ∧ W.cell? ⟨bY, 0, none⟩ = some (.string ya) ∧ W.cell? ⟨bY, 1, none⟩ = some (.int .i64 ym) ∧ W.cell? ⟨bY, 2, none⟩ = some (.int .i64 yq) ∧ W.cell? ⟨bY, 3, none⟩ = some (.slice (some ⟨gy, 0, none⟩) ny cy))) (by kernel_rfl) (HSB9.out _ hb0) (fun hHeld => ?_)
  generalize w8.drew = kd at *
  refine wpAnyH_take (i := 0) (oi := { dst := some 54, op := Op.load 30 (Operand.tmp 9), type := 30, pos := "laws.go:504", after := #[], guard := none }) (v := ?_) rfl (by kernel_rfl) (by kernel_rfl) (by kernel_rfl) (fun _ _ _ h => h) (Or.inl ⟨by rfl, ?_⟩) (by assumption) ?_
  rotate_left
  · (intro w hSw; (try dsimp only at hSw); go_simp) <;> with_reducible rfl
  try simp only [Act.put, List.setIfInBounds_toArray, List.set_cons_zero, List.set_cons_succ]
  refine wpAnyH_take (i := 1) (oi := { dst := some 55, op := Op.move (Operand.tmp 5), type := 23, pos := "laws.go:504", after := #[], guard := none }) (v := ?_) rfl (by kernel_rfl) (by kernel_rfl) (by kernel_rfl) (fun _ _ _ h => h) (Or.inl ⟨by rfl, ?_⟩) (by assumption) ?_
  rotate_left
  · (intro w hSw; (try dsimp only at hSw); go_simp) <;> with_reducible rfl
  try simp only [Act.put, List.setIfInBounds_toArray, List.set_cons_zero, List.set_cons_succ]
  refine wpAnyH_take (i := 2) (oi := { dst := some 56, op := Op.move (Operand.tmp 6), type := 9, pos := "laws.go:504", after := #[], guard := none }) (v := ?_) rfl (by kernel_rfl) (by kernel_rfl) (by kernel_rfl) (fun _ _ _ h => h) (Or.inl ⟨by rfl, ?_⟩) (by assumption) ?_
  rotate_left
  · (intro w hSw; (try dsimp only at hSw); go_simp) <;> with_reducible rfl
  try simp only [Act.put, List.setIfInBounds_toArray, List.set_cons_zero, List.set_cons_succ]
  refine wpAnyH_take (i := 3) (oi := { dst := some 57, op := Op.move (Operand.tmp 7), type := 2, pos := "laws.go:504", after := #[], guard := none }) (v := ?_) rfl (by kernel_rfl) (by kernel_rfl) (by kernel_rfl) (fun _ _ _ h => h) (Or.inl ⟨by rfl, ?_⟩) (by assumption) ?_
  rotate_left
  · (intro w hSw; (try dsimp only at hSw); go_simp) <;> with_reducible rfl
  try simp only [Act.put, List.setIfInBounds_toArray, List.set_cons_zero, List.set_cons_succ]
  refine wpAnyH_take (i := 4) (oi := { dst := some 58, op := Op.move (Operand.tmp 8), type := 24, pos := "laws.go:504", after := #[], guard := none }) (v := ?_) rfl (by kernel_rfl) (by kernel_rfl) (by kernel_rfl) (fun _ _ _ h => h) (Or.inl ⟨by rfl, ?_⟩) (by assumption) ?_
  rotate_left
  · (intro w hSw; (try dsimp only at hSw); go_simp) <;> with_reducible rfl
  try simp only [Act.put, List.setIfInBounds_toArray, List.set_cons_zero, List.set_cons_succ]
  refine wpAnyH_ready (rs := [5]) (by kernel_rfl) (by simp) ?_
  refine AllReadyH.cons (o := { dst := some 59, op := Op.call { callee := Callee.value (Operand.func 11), args := #[Operand.tmp 55, Operand.tmp 56, Operand.tmp 57, Operand.tmp 58], argTypes := #[23, 9, 2, 24] }, type := 30, pos := "laws.go:504", after := #[{ on := 1, ground := Ground.data }, { on := 2, ground := Ground.data }, { on := 3, ground := Ground.data }, { on := 4, ground := Ground.data }], guard := none }) rfl (fun K hK => ?_) AllReadyH.nil
  go_simp
  go_at_call 11
  refine (HSI.out _ hb0).mono ?_
  rintro e q1 ⟨v, rfl, hv, hq1⟩
  have hb1 := hb0.trans (hq1.mono hb0.size)
  have hI := hv.reads
  clear hv
  clear hq1
  try go_wp2_with fail
  have hk1 := HSB9.out _ hb1
  refine hK.out _ _ hk1 (fun _ => ?_)
  clear hK K
  try simp only [Act.put, List.setIfInBounds_toArray, List.set_cons_zero, List.set_cons_succ]
  refine wpAnyH_ready (rs := [6]) (by kernel_rfl) (by simp) ?_
  refine AllReadyH.cons (o := { dst := some 60, op := Op.call { callee := Callee.value (Operand.func 10), args := #[Operand.tmp 54, Operand.tmp 59], argTypes := #[30, 30] }, type := 4, pos := "laws.go:504", after := #[{ on := 0, ground := Ground.data }, { on := 5, ground := Ground.data }, { on := 5, ground := Ground.chain }], guard := none }) rfl (fun K hK => ?_) AllReadyH.nil
  go_simp
  go_at_call 10
  refine (HLW.out _ _ hb1 hI).mono ?_
  rintro e q2 ⟨rfl, hq2⟩
  have hb2 := hb1.trans (hq2.mono hb1.size)
  have hI_2 := hI.below hq2
  clear hq2
  try go_wp2_with fail
  have hk2 := HSB9.out _ hb2
  refine hK.out _ _ hk2 (fun _ => ?_)
  clear hK K
  try simp only [Act.put, List.setIfInBounds_toArray, List.set_cons_zero, List.set_cons_succ]
  refine wpAnyH_take (i := 7) (oi := { dst := some 61, op := Op.unOp UnOp.not 4 (Operand.tmp 60), type := 4, pos := "laws.go:504", after := #[{ on := 6, ground := Ground.data }], guard := none }) (v := ?_) rfl (by kernel_rfl) (by kernel_rfl) (by kernel_rfl) (fun _ _ _ h => h) (Or.inl ⟨by rfl, ?_⟩) (by assumption) ?_
  rotate_left
  · (intro w hSw; (try dsimp only at hSw); go_simp) <;> with_reducible rfl
  try simp only [Act.put, List.setIfInBounds_toArray, List.set_cons_zero, List.set_cons_succ]
  refine wpAnyH_take (i := 8) (oi := { dst := some 62, op := Op.move (Operand.tmp 61), type := 4, pos := "laws.go:504", after := #[{ on := 7, ground := Ground.data }, { on := 6, ground := Ground.chain }], guard := none }) (v := ?_) rfl (by kernel_rfl) (by kernel_rfl) (by kernel_rfl) (fun _ _ _ h => h) (Or.inl ⟨by rfl, ?_⟩) (by assumption) ?_
  rotate_left
  · (intro w hSw; (try dsimp only at hSw); go_simp) <;> with_reducible rfl
  try simp only [Act.put, List.setIfInBounds_toArray, List.set_cons_zero, List.set_cons_succ]
  refine wpAnyH_take (i := 9) (oi := { dst := some 63, op := Op.move (Operand.tmp 10), type := 23, pos := "laws.go:504", after := #[{ on := 8, ground := Ground.guard }], guard := some (8, false) }) (v := ?_) rfl (by kernel_rfl) (by kernel_rfl) (by kernel_rfl) (fun _ _ _ h => h) (Or.inl ⟨by rfl, ?_⟩) (by assumption) ?_
  rotate_left
  · (intro w hSw; (try dsimp only at hSw); go_simp) <;> with_reducible rfl
  try simp only [Act.put, List.setIfInBounds_toArray, List.set_cons_zero, List.set_cons_succ]
  refine wpAnyH_take (i := 10) (oi := { dst := some 64, op := Op.move (Operand.tmp 11), type := 9, pos := "laws.go:504", after := #[{ on := 8, ground := Ground.guard }], guard := some (8, false) }) (v := ?_) rfl (by kernel_rfl) (by kernel_rfl) (by kernel_rfl) (fun _ _ _ h => h) (Or.inl ⟨by rfl, ?_⟩) (by assumption) ?_
  rotate_left
  · (intro w hSw; (try dsimp only at hSw); go_simp) <;> with_reducible rfl
  try simp only [Act.put, List.setIfInBounds_toArray, List.set_cons_zero, List.set_cons_succ]
  refine wpAnyH_take (i := 11) (oi := { dst := some 65, op := Op.move (Operand.tmp 12), type := 2, pos := "laws.go:504", after := #[{ on := 8, ground := Ground.guard }], guard := some (8, false) }) (v := ?_) rfl (by kernel_rfl) (by kernel_rfl) (by kernel_rfl) (fun _ _ _ h => h) (Or.inl ⟨by rfl, ?_⟩) (by assumption) ?_
  rotate_left
  · (intro w hSw; (try dsimp only at hSw); go_simp) <;> with_reducible rfl
  try simp only [Act.put, List.setIfInBounds_toArray, List.set_cons_zero, List.set_cons_succ]
  refine wpAnyH_take (i := 13) (oi := { dst := some 67, op := Op.move (Operand.tmp 10), type := 23, pos := "laws.go:504", after := #[{ on := 8, ground := Ground.guard }], guard := some (8, false) }) (v := ?_) rfl (by kernel_rfl) (by kernel_rfl) (by kernel_rfl) (fun _ _ _ h => h) (Or.inl ⟨by rfl, ?_⟩) (by assumption) ?_
  rotate_left
  · (intro w hSw; (try dsimp only at hSw); go_simp) <;> with_reducible rfl
  try simp only [Act.put, List.setIfInBounds_toArray, List.set_cons_zero, List.set_cons_succ]
  refine wpAnyH_take (i := 14) (oi := { dst := some 68, op := Op.move (Operand.tmp 11), type := 9, pos := "laws.go:504", after := #[{ on := 8, ground := Ground.guard }], guard := some (8, false) }) (v := ?_) rfl (by kernel_rfl) (by kernel_rfl) (by kernel_rfl) (fun _ _ _ h => h) (Or.inl ⟨by rfl, ?_⟩) (by assumption) ?_
  rotate_left
  · (intro w hSw; (try dsimp only at hSw); go_simp) <;> with_reducible rfl
  try simp only [Act.put, List.setIfInBounds_toArray, List.set_cons_zero, List.set_cons_succ]
  refine wpAnyH_take (i := 15) (oi := { dst := some 69, op := Op.move (Operand.tmp 12), type := 2, pos := "laws.go:504", after := #[{ on := 8, ground := Ground.guard }], guard := some (8, false) }) (v := ?_) rfl (by kernel_rfl) (by kernel_rfl) (by kernel_rfl) (fun _ _ _ h => h) (Or.inl ⟨by rfl, ?_⟩) (by assumption) ?_
  rotate_left
  · (intro w hSw; (try dsimp only at hSw); go_simp) <;> with_reducible rfl
  try simp only [Act.put, List.setIfInBounds_toArray, List.set_cons_zero, List.set_cons_succ]
  refine wpAnyH_ready (rs := [12]) (by kernel_rfl) (by simp) ?_
  refine AllReadyH.cons (o := { dst := some 66, op := Op.call { callee := Callee.value (Operand.func 13), args := #[Operand.tmp 63, Operand.tmp 64, Operand.tmp 65], argTypes := #[23, 9, 2] }, type := 24, pos := "laws.go:504", after := #[{ on := 9, ground := Ground.data }, { on := 10, ground := Ground.data }, { on := 11, ground := Ground.data }, { on := 8, ground := Ground.chain }, { on := 8, ground := Ground.guard }], guard := some (8, false) }) rfl (fun K hK => ?_) AllReadyH.nil
  go_simp
  go_at_call 13
  refine (HIN.out _ hb2).mono ?_
  rintro e q3 ⟨a1x, c1x, rfl, hM, hq3⟩
  have hb3 := hb2.trans (hq3.mono hb2.size)
  have hN := hM.rws
  clear hM
  clear hq3
  try go_wp2_with fail
  have hk3 := HSB9.out _ hb3
  refine hK.out _ _ hk3 (fun _ => ?_)
  clear hK K
  try simp only [Act.put, List.setIfInBounds_toArray, List.set_cons_zero, List.set_cons_succ]
  refine wpAnyH_ready (rs := [16]) (by kernel_rfl) (by simp) ?_
  refine AllReadyH.cons (o := { dst := some 70, op := Op.call { callee := Callee.value (Operand.func 14), args := #[Operand.tmp 67, Operand.tmp 68, Operand.tmp 69], argTypes := #[23, 9, 2] }, type := 24, pos := "laws.go:504", after := #[{ on := 13, ground := Ground.data }, { on := 14, ground := Ground.data }, { on := 15, ground := Ground.data }, { on := 12, ground := Ground.chain }, { on := 8, ground := Ground.guard }], guard := some (8, false) }) rfl (fun K hK => ?_) AllReadyH.nil
  go_simp
  go_at_call 14
  refine (HSN.out _ hb3).mono ?_
  rintro e q4 ⟨a2x, c2x, rfl, hM, hq4⟩
  have hb4 := hb3.trans (hq4.mono hb3.size)
  have hN_4 := hN.below hq4
  have hN2 := hM.rws
  clear hM
  clear hq4
  try go_wp2_with fail
  have hk4 := HSB9.out _ hb4
  refine hK.out _ _ hk4 (fun _ => ?_)
  clear hK K
  try simp only [Act.put, List.setIfInBounds_toArray, List.set_cons_zero, List.set_cons_succ]
  refine wpAnyH_ready (rs := [17]) (by kernel_rfl) (by simp) ?_
  refine AllReadyH.cons (o := { dst := some 71, op := Op.call { callee := Callee.value (Operand.func 12), args := #[Operand.tmp 66, Operand.tmp 70], argTypes := #[24, 24] }, type := 4, pos := "laws.go:504", after := #[{ on := 12, ground := Ground.data }, { on := 16, ground := Ground.data }, { on := 16, ground := Ground.chain }, { on := 8, ground := Ground.guard }], guard := some (8, false) }) rfl (fun K hK => ?_) AllReadyH.nil
  go_simp
  go_at_call 12
  refine (HLL.out a1x a2x c1x c2x NB _ (by omega) hN_4 hN2).mono ?_
  rintro e q5 ⟨rfl, hq5⟩
  have hb5 := hb4.trans (hq5.mono hb4.size)
  have hN_5 := hN_4.below hq5
  have hN2_5 := hN2.below hq5
  clear hq5
  try go_wp2_with fail
  have hk5 := HSB9.out _ hb5
  refine hK.out _ _ hk5 (fun _ => ?_)
  clear hK K
  try simp only [Act.put, List.setIfInBounds_toArray, List.set_cons_zero, List.set_cons_succ]
  refine wpAnyH_take (i := 18) (oi := { dst := some 72, op := Op.unOp UnOp.not 4 (Operand.tmp 71), type := 4, pos := "laws.go:504", after := #[{ on := 17, ground := Ground.data }, { on := 8, ground := Ground.guard }], guard := some (8, false) }) (v := ?_) rfl (by kernel_rfl) (by kernel_rfl) (by kernel_rfl) (fun _ _ _ h => h) (Or.inl ⟨by rfl, ?_⟩) (by assumption) ?_
  rotate_left
  · (intro w hSw; (try dsimp only at hSw); go_simp) <;> with_reducible rfl
  try simp only [Act.put, List.setIfInBounds_toArray, List.set_cons_zero, List.set_cons_succ]
  refine wpAnyH_take (i := 19) (oi := { dst := some 73, op := Op.pick (Operand.tmp 62) (Operand.const (Value.bool true)) (Operand.tmp 72), type := 4, pos := "laws.go:504", after := #[{ on := 8, ground := Ground.data }, { on := 18, ground := Ground.data }], guard := none }) (v := ?_) rfl (by kernel_rfl) (by kernel_rfl) (by kernel_rfl) (fun _ _ _ h => h) (Or.inl ⟨by rfl, ?_⟩) (by assumption) ?_
  rotate_left
  · (intro w hSw; (try dsimp only at hSw); go_simp) <;> with_reducible rfl
  try simp only [Act.put, List.setIfInBounds_toArray, List.set_cons_zero, List.set_cons_succ]
  refine wpAnyH_take (i := 20) (oi := { dst := some 74, op := Op.move (Operand.tmp 73), type := 4, pos := "laws.go:504", after := #[{ on := 19, ground := Ground.data }, { on := 17, ground := Ground.chain }], guard := none }) (v := ?_) rfl (by kernel_rfl) (by kernel_rfl) (by kernel_rfl) (fun _ _ _ h => h) (Or.inl ⟨by rfl, ?_⟩) (by assumption) ?_
  rotate_left
  · (intro w hSw; (try dsimp only at hSw); go_simp) <;> with_reducible rfl
  try simp only [Act.put, List.setIfInBounds_toArray, List.set_cons_zero, List.set_cons_succ]
  refine wpAnyH_take (i := 21) (oi := { dst := some 75, op := Op.move (Operand.tmp 15), type := 24, pos := "laws.go:504", after := #[{ on := 20, ground := Ground.guard }], guard := some (20, false) }) (v := ?_) rfl (by kernel_rfl) (by kernel_rfl) (by kernel_rfl) (fun _ _ _ h => h) (Or.inl ⟨by rfl, ?_⟩) (by assumption) ?_
  rotate_left
  · (intro w hSw; (try dsimp only at hSw); go_simp) <;> with_reducible rfl
  try simp only [Act.put, List.setIfInBounds_toArray, List.set_cons_zero, List.set_cons_succ]
  refine wpAnyH_take (i := 22) (oi := { dst := some 76, op := Op.move (Operand.tmp 13), type := 24, pos := "laws.go:504", after := #[{ on := 20, ground := Ground.guard }], guard := some (20, false) }) (v := ?_) rfl (by kernel_rfl) (by kernel_rfl) (by kernel_rfl) (fun _ _ _ h => h) (Or.inl ⟨by rfl, ?_⟩) (by assumption) ?_
  rotate_left
  · (intro w hSw; (try dsimp only at hSw); go_simp) <;> with_reducible rfl
  try simp only [Act.put, List.setIfInBounds_toArray, List.set_cons_zero, List.set_cons_succ]
  refine wpAnyH_take (i := 23) (oi := { dst := some 77, op := Op.move (Operand.tmp 14), type := 24, pos := "laws.go:504", after := #[{ on := 20, ground := Ground.guard }], guard := some (20, false) }) (v := ?_) rfl (by kernel_rfl) (by kernel_rfl) (by kernel_rfl) (fun _ _ _ h => h) (Or.inl ⟨by rfl, ?_⟩) (by assumption) ?_
  rotate_left
  · (intro w hSw; (try dsimp only at hSw); go_simp) <;> with_reducible rfl
  try simp only [Act.put, List.setIfInBounds_toArray, List.set_cons_zero, List.set_cons_succ]
  refine wpAnyH_ready (rs := [24]) (by kernel_rfl) (by simp) ?_
  refine AllReadyH.cons (o := { dst := some 78, op := Op.call { callee := Callee.value (Operand.func 15), args := #[Operand.tmp 76, Operand.tmp 77], argTypes := #[24, 24] }, type := 24, pos := "laws.go:504", after := #[{ on := 22, ground := Ground.data }, { on := 23, ground := Ground.data }, { on := 20, ground := Ground.chain }, { on := 20, ground := Ground.guard }], guard := some (20, false) }) rfl (fun K hK => ?_) AllReadyH.nil
  go_simp
  go_at_call 15
  refine (HSL.out _ hb5).mono ?_
  rintro e q6 ⟨a3x, c3x, rfl, hM, hq6⟩
  have hb6 := hb5.trans (hq6.mono hb5.size)
  have hN3 := hM.rws
  rw [← HNDD.out]
  clear hM
  clear hq6
  try go_wp2_with fail
  have hk6 := HSB9.out _ hb6
  refine hK.out _ _ hk6 (fun _ => ?_)
  clear hK K
  try simp only [Act.put, List.setIfInBounds_toArray, List.set_cons_zero, List.set_cons_succ]
  refine wpAnyH_ready (rs := [25]) (by kernel_rfl) (by simp) ?_
  refine AllReadyH.cons (o := { dst := some 79, op := Op.call { callee := Callee.value (Operand.func 12), args := #[Operand.tmp 75, Operand.tmp 78], argTypes := #[24, 24] }, type := 4, pos := "laws.go:504", after := #[{ on := 21, ground := Ground.data }, { on := 24, ground := Ground.data }, { on := 24, ground := Ground.chain }, { on := 20, ground := Ground.guard }], guard := some (20, false) }) rfl (fun K hK => ?_) AllReadyH.nil
  go_simp
  go_at_call 12
  refine (HLLD.out a3x c3x _ hb6 hN3).mono ?_
  rintro e q7 ⟨rfl, hq7⟩
  have hb7 := hb6.trans (hq7.mono hb6.size)
  have hN3_7 := hN3.below hq7
  clear hq7
  try go_wp2_with fail
  have hk7 := HSB9.out _ hb7
  refine hK.out _ _ hk7 (fun _ => ?_)
  clear hK K
  try simp only [Act.put, List.setIfInBounds_toArray, List.set_cons_zero, List.set_cons_succ]
  refine wpAnyH_take (i := 26) (oi := { dst := some 80, op := Op.unOp UnOp.not 4 (Operand.tmp 79), type := 4, pos := "laws.go:504", after := #[{ on := 25, ground := Ground.data }, { on := 20, ground := Ground.guard }], guard := some (20, false) }) (v := ?_) rfl (by kernel_rfl) (by kernel_rfl) (by kernel_rfl) (fun _ _ _ h => h) (Or.inl ⟨by rfl, ?_⟩) (by assumption) ?_
  rotate_left
  · (intro w hSw; (try dsimp only at hSw); go_simp) <;> with_reducible rfl
  try simp only [Act.put, List.setIfInBounds_toArray, List.set_cons_zero, List.set_cons_succ]
  refine wpAnyH_take (i := 27) (oi := { dst := some 81, op := Op.pick (Operand.tmp 74) (Operand.const (Value.bool true)) (Operand.tmp 80), type := 4, pos := "laws.go:504", after := #[{ on := 20, ground := Ground.data }, { on := 26, ground := Ground.data }], guard := none }) (v := ?_) rfl (by kernel_rfl) (by kernel_rfl) (by kernel_rfl) (fun _ _ _ h => h) (Or.inl ⟨by rfl, ?_⟩) (by assumption) ?_
  rotate_left
  · (intro w hSw; (try dsimp only at hSw); go_simp) <;> with_reducible rfl
  try simp only [Act.put, List.setIfInBounds_toArray, List.set_cons_zero, List.set_cons_succ]
  refine wpAnyH_take (i := 28) (oi := { dst := some 82, op := Op.move (Operand.tmp 81), type := 4, pos := "laws.go:504", after := #[{ on := 27, ground := Ground.data }, { on := 25, ground := Ground.chain }], guard := none }) (v := ?_) rfl (by kernel_rfl) (by kernel_rfl) (by kernel_rfl) (fun _ _ _ h => h) (Or.inl ⟨by rfl, ?_⟩) (by assumption) ?_
  rotate_left
  · (intro w hSw; (try dsimp only at hSw); go_simp) <;> with_reducible rfl
  try simp only [Act.put, List.setIfInBounds_toArray, List.set_cons_zero, List.set_cons_succ]
  refine wpAnyH_take (i := 29) (oi := { dst := some 83, op := Op.load 28 (Operand.tmp 16), type := 28, pos := "laws.go:504", after := #[{ on := 28, ground := Ground.guard }], guard := some (28, false) }) (v := ?_) rfl (by kernel_rfl) (by kernel_rfl) (by kernel_rfl) (fun _ _ _ h => h) (Or.inl ⟨by rfl, ?_⟩) (by assumption) ?_
  rotate_left
  · (intro w hSw; (try dsimp only at hSw); go_simp) <;> with_reducible rfl
  try simp only [Act.put, List.setIfInBounds_toArray, List.set_cons_zero, List.set_cons_succ]
  refine wpAnyH_take (i := 31) (oi := { dst := some 85, op := Op.load 28 (Operand.tmp 16), type := 28, pos := "laws.go:504", after := #[{ on := 28, ground := Ground.guard }], guard := some (28, false) }) (v := ?_) rfl (by kernel_rfl) (by kernel_rfl) (by kernel_rfl) (fun _ _ _ h => h) (Or.inl ⟨by rfl, ?_⟩) (by assumption) ?_
  rotate_left
  · (intro w hSw; (try dsimp only at hSw); go_simp) <;> with_reducible rfl
  try simp only [Act.put, List.setIfInBounds_toArray, List.set_cons_zero, List.set_cons_succ]
  refine wpAnyH_ready (rs := [30]) (by kernel_rfl) (by simp) ?_
  refine AllReadyH.cons (o := { dst := some 84, op := Op.call { callee := Callee.value (Operand.func 16), args := #[Operand.tmp 83], argTypes := #[28] }, type := 9, pos := "laws.go:504", after := #[{ on := 29, ground := Ground.data }, { on := 28, ground := Ground.chain }, { on := 28, ground := Ground.guard }], guard := some (28, false) }) rfl (fun K hK => ?_) AllReadyH.nil
  go_simp
  go_at_call 16
  refine (HIM.out (some ⟨gy, 0, none⟩) cy _ (HLY8.out.below hb7) (HY8.out.below hb7).2).mono ?_
  rintro e q8 ⟨rfl, hq8⟩
  have hb8 := hb7.trans (hq8.mono hb7.size)
  clear hq8
  try go_wp2_with fail
  have hk8 := HSB9.out _ hb8
  refine hK.out _ _ hk8 (fun _ => ?_)
  clear hK K
  try simp only [Act.put, List.setIfInBounds_toArray, List.set_cons_zero, List.set_cons_succ]
  refine wpAnyH_ready (rs := [32]) (by kernel_rfl) (by simp) ?_
  refine AllReadyH.cons (o := { dst := some 86, op := Op.call { callee := Callee.value (Operand.func 17), args := #[Operand.tmp 85], argTypes := #[28] }, type := 9, pos := "laws.go:504", after := #[{ on := 31, ground := Ground.data }, { on := 30, ground := Ground.chain }, { on := 28, ground := Ground.guard }], guard := some (28, false) }) rfl (fun K hK => ?_) AllReadyH.nil
  go_simp
  go_at_call 17
  refine (HSP.out (some ⟨gy, 0, none⟩) cy _ (HLY8.out.below hb8)).mono ?_
  rintro e q9 ⟨rfl, hq9⟩
  have hb9 := hb8.trans (hq9.mono hb8.size)
  clear hq9
  try go_wp2_with fail
  have hk9 := HSB9.out _ hb9
  refine hK.out _ _ hk9 (fun _ => ?_)
  clear hK K
  try simp only [Act.put, List.setIfInBounds_toArray, List.set_cons_zero, List.set_cons_succ]
  refine wpAnyH_take (i := 33) (oi := { dst := some 87, op := Op.binOp BinOp.neq 9 (Operand.tmp 84) (Operand.tmp 86) 9, type := 4, pos := "laws.go:504", after := #[{ on := 30, ground := Ground.data }, { on := 32, ground := Ground.data }, { on := 28, ground := Ground.guard }], guard := some (28, false) }) (v := ?_) rfl (by kernel_rfl) (by kernel_rfl) (by kernel_rfl) (fun _ _ _ h => h) (Or.inl ⟨by rfl, ?_⟩) (by assumption) ?_
  rotate_left
  · (intro w hSw; (try dsimp only at hSw); go_simp) <;> with_reducible rfl
  try simp only [Act.put, List.setIfInBounds_toArray, List.set_cons_zero, List.set_cons_succ]
  refine wpAnyH_take (i := 34) (oi := { dst := some 88, op := Op.pick (Operand.tmp 82) (Operand.const (Value.bool true)) (Operand.tmp 87), type := 4, pos := "laws.go:504", after := #[{ on := 28, ground := Ground.data }, { on := 33, ground := Ground.data }], guard := none }) (v := ?_) rfl (by kernel_rfl) (by kernel_rfl) (by kernel_rfl) (fun _ _ _ h => h) (Or.inl ⟨by rfl, ?_⟩) (by assumption) ?_
  rotate_left
  · (intro w hSw; (try dsimp only at hSw); go_simp) <;> with_reducible rfl
  try simp only [Act.put, List.setIfInBounds_toArray, List.set_cons_zero, List.set_cons_succ]
  refine wpAnyH_take (i := 35) (oi := { dst := some 89, op := Op.move (Operand.tmp 88), type := 4, pos := "laws.go:504", after := #[{ on := 34, ground := Ground.data }, { on := 32, ground := Ground.chain }], guard := none }) (v := ?_) rfl (by kernel_rfl) (by kernel_rfl) (by kernel_rfl) (fun _ _ _ h => h) (Or.inl ⟨by rfl, ?_⟩) (by assumption) ?_
  rotate_left
  · (intro w hSw; (try dsimp only at hSw); go_simp) <;> with_reducible rfl
  try simp only [Act.put, List.setIfInBounds_toArray, List.set_cons_zero, List.set_cons_succ]
  refine wpAnyH_take (i := 36) (oi := { dst := some 90, op := Op.load 28 (Operand.tmp 16), type := 28, pos := "laws.go:504", after := #[{ on := 35, ground := Ground.guard }], guard := some (35, false) }) (v := ?_) rfl (by kernel_rfl) (by kernel_rfl) (by kernel_rfl) (fun _ _ _ h => h) (Or.inl ⟨by rfl, ?_⟩) (by assumption) ?_
  rotate_left
  · (intro w hSw; (try dsimp only at hSw); go_simp) <;> with_reducible rfl
  try simp only [Act.put, List.setIfInBounds_toArray, List.set_cons_zero, List.set_cons_succ]
  refine wpAnyH_take (i := 38) (oi := { dst := some 92, op := Op.load 28 (Operand.tmp 16), type := 28, pos := "laws.go:504", after := #[{ on := 35, ground := Ground.guard }], guard := some (35, false) }) (v := ?_) rfl (by kernel_rfl) (by kernel_rfl) (by kernel_rfl) (fun _ _ _ h => h) (Or.inl ⟨by rfl, ?_⟩) (by assumption) ?_
  rotate_left
  · (intro w hSw; (try dsimp only at hSw); go_simp) <;> with_reducible rfl
  try simp only [Act.put, List.setIfInBounds_toArray, List.set_cons_zero, List.set_cons_succ]
  refine wpAnyH_ready (rs := [37]) (by kernel_rfl) (by simp) ?_
  refine AllReadyH.cons (o := { dst := some 91, op := Op.call { callee := Callee.value (Operand.func 18), args := #[Operand.tmp 90], argTypes := #[28] }, type := 4, pos := "laws.go:504", after := #[{ on := 36, ground := Ground.data }, { on := 35, ground := Ground.chain }, { on := 35, ground := Ground.guard }], guard := some (35, false) }) rfl (fun K hK => ?_) AllReadyH.nil
  go_simp
  go_at_call 18
  refine (HDR.out (some ⟨gy, 0, none⟩) cy _ (HLY8.out.below hb9)).mono ?_
  rintro e q10 ⟨rfl, hq10⟩
  have hb10 := hb9.trans (hq10.mono hb9.size)
  clear hq10
  try go_wp2_with fail
  have hk10 := HSB9.out _ hb10
  refine hK.out _ _ hk10 (fun _ => ?_)
  clear hK K
  try simp only [Act.put, List.setIfInBounds_toArray, List.set_cons_zero, List.set_cons_succ]
  refine wpAnyH_ready (rs := [39]) (by kernel_rfl) (by simp) ?_
  refine AllReadyH.cons (o := { dst := some 93, op := Op.call { callee := Callee.value (Operand.func 19), args := #[Operand.tmp 92], argTypes := #[28] }, type := 4, pos := "laws.go:504", after := #[{ on := 38, ground := Ground.data }, { on := 37, ground := Ground.chain }, { on := 35, ground := Ground.guard }], guard := some (35, false) }) rfl (fun K hK => ?_) AllReadyH.nil
  go_simp
  go_at_call 19
  refine (HDS.out (some ⟨gy, 0, none⟩) cy _ (HLY8.out.below hb10)).mono ?_
  rintro e q11 ⟨rfl, hq11⟩
  have hb11 := hb10.trans (hq11.mono hb10.size)
  clear hq11
  try go_wp2_with fail
  have hk11 := HSB9.out _ hb11
  refine hK.out _ _ hk11 (fun _ => ?_)
  clear hK K
  try simp only [Act.put, List.setIfInBounds_toArray, List.set_cons_zero, List.set_cons_succ]
  refine wpAnyH_take (i := 40) (oi := { dst := some 94, op := Op.binOp BinOp.neq 4 (Operand.tmp 91) (Operand.tmp 93) 4, type := 4, pos := "laws.go:504", after := #[{ on := 37, ground := Ground.data }, { on := 39, ground := Ground.data }, { on := 35, ground := Ground.guard }], guard := some (35, false) }) (v := ?_) rfl (by kernel_rfl) (by kernel_rfl) (by kernel_rfl) (fun _ _ _ h => h) (Or.inl ⟨by rfl, ?_⟩) (by assumption) ?_
  rotate_left
  · (intro w hSw; (try dsimp only at hSw); go_simp) <;> with_reducible rfl
  try simp only [Act.put, List.setIfInBounds_toArray, List.set_cons_zero, List.set_cons_succ]
  refine wpAnyH_take (i := 41) (oi := { dst := some 95, op := Op.pick (Operand.tmp 89) (Operand.const (Value.bool true)) (Operand.tmp 94), type := 4, pos := "laws.go:504", after := #[{ on := 35, ground := Ground.data }, { on := 40, ground := Ground.data }], guard := none }) (v := ?_) rfl (by kernel_rfl) (by kernel_rfl) (by kernel_rfl) (fun _ _ _ h => h) (Or.inl ⟨by rfl, ?_⟩) (by assumption) ?_
  rotate_left
  · (intro w hSw; (try dsimp only at hSw); go_simp) <;> with_reducible rfl
  try simp only [Act.put, List.setIfInBounds_toArray, List.set_cons_zero, List.set_cons_succ]
  refine wpAnyH_take (i := 42) (oi := { dst := some 96, op := Op.move (Operand.tmp 95), type := 4, pos := "laws.go:504", after := #[{ on := 41, ground := Ground.data }, { on := 39, ground := Ground.chain }], guard := none }) (v := ?_) rfl (by kernel_rfl) (by kernel_rfl) (by kernel_rfl) (fun _ _ _ h => h) (Or.inl ⟨by rfl, ?_⟩) (by assumption) ?_
  rotate_left
  · (intro w hSw; (try dsimp only at hSw); go_simp) <;> with_reducible rfl
  try simp only [Act.put, List.setIfInBounds_toArray, List.set_cons_zero, List.set_cons_succ]
  refine wpAnyH_take (i := 43) (oi := { dst := some 97, op := Op.move (Operand.tmp 5), type := 23, pos := "laws.go:504", after := #[{ on := 42, ground := Ground.guard }], guard := some (42, false) }) (v := ?_) rfl (by kernel_rfl) (by kernel_rfl) (by kernel_rfl) (fun _ _ _ h => h) (Or.inl ⟨by rfl, ?_⟩) (by assumption) ?_
  rotate_left
  · (intro w hSw; (try dsimp only at hSw); go_simp) <;> with_reducible rfl
  try simp only [Act.put, List.setIfInBounds_toArray, List.set_cons_zero, List.set_cons_succ]
  refine wpAnyH_take (i := 45) (oi := { dst := some 99, op := Op.move (Operand.tmp 5), type := 23, pos := "laws.go:504", after := #[{ on := 42, ground := Ground.guard }], guard := some (42, false) }) (v := ?_) rfl (by kernel_rfl) (by kernel_rfl) (by kernel_rfl) (fun _ _ _ h => h) (Or.inl ⟨by rfl, ?_⟩) (by assumption) ?_
  rotate_left
  · (intro w hSw; (try dsimp only at hSw); go_simp) <;> with_reducible rfl
  try simp only [Act.put, List.setIfInBounds_toArray, List.set_cons_zero, List.set_cons_succ]
  refine wpAnyH_ready (rs := [44]) (by kernel_rfl) (by simp) ?_
  refine AllReadyH.cons (o := { dst := some 98, op := Op.call { callee := Callee.value (Operand.func 20), args := #[Operand.tmp 97], argTypes := #[23] }, type := 4, pos := "laws.go:504", after := #[{ on := 43, ground := Ground.data }, { on := 42, ground := Ground.chain }, { on := 42, ground := Ground.guard }], guard := some (42, false) }) rfl (fun K hK => ?_) AllReadyH.nil
  go_simp
  go_at_call 20
  refine (HIR.out _ hb11).mono ?_
  rintro e q12 ⟨rfl, hq12⟩
  have hb12 := hb11.trans (hq12.mono hb11.size)
  clear hq12
  try go_wp2_with fail
  have hk12 := HSB9.out _ hb12
  refine hK.out _ _ hk12 (fun _ => ?_)
  clear hK K
  try simp only [Act.put, List.setIfInBounds_toArray, List.set_cons_zero, List.set_cons_succ]
  refine wpAnyH_ready (rs := [46]) (by kernel_rfl) (by simp) ?_
  refine AllReadyH.cons (o := { dst := some 100, op := Op.call { callee := Callee.value (Operand.func 21), args := #[Operand.tmp 99], argTypes := #[23] }, type := 4, pos := "laws.go:504", after := #[{ on := 45, ground := Ground.data }, { on := 44, ground := Ground.chain }, { on := 42, ground := Ground.guard }], guard := some (42, false) }) rfl (fun K hK => ?_) AllReadyH.nil
  go_simp
  go_at_call 21
  refine (HSR.out _ hb12).mono ?_
  rintro e q13 ⟨rfl, hq13⟩
  have hb13 := hb12.trans (hq13.mono hb12.size)
  clear hq13
  try go_wp2_with fail
  have hk13 := HSB9.out _ hb13
  refine hK.out _ _ hk13 (fun _ => ?_)
  clear hK K
  try simp only [Act.put, List.setIfInBounds_toArray, List.set_cons_zero, List.set_cons_succ]
  refine wpAnyH_take (i := 47) (oi := { dst := some 101, op := Op.binOp BinOp.neq 4 (Operand.tmp 98) (Operand.tmp 100) 4, type := 4, pos := "laws.go:504", after := #[{ on := 44, ground := Ground.data }, { on := 46, ground := Ground.data }, { on := 42, ground := Ground.guard }], guard := some (42, false) }) (v := ?_) rfl (by kernel_rfl) (by kernel_rfl) (by kernel_rfl) (fun _ _ _ h => h) (Or.inl ⟨by rfl, ?_⟩) (by assumption) ?_
  rotate_left
  · (intro w hSw; (try dsimp only at hSw); go_simp) <;> with_reducible rfl
  try simp only [Act.put, List.setIfInBounds_toArray, List.set_cons_zero, List.set_cons_succ]
  refine wpAnyH_take (i := 48) (oi := { dst := some 102, op := Op.pick (Operand.tmp 96) (Operand.const (Value.bool true)) (Operand.tmp 101), type := 4, pos := "laws.go:504", after := #[{ on := 42, ground := Ground.data }, { on := 47, ground := Ground.data }], guard := none }) (v := ?_) rfl (by kernel_rfl) (by kernel_rfl) (by kernel_rfl) (fun _ _ _ h => h) (Or.inl ⟨by rfl, ?_⟩) (by assumption) ?_
  rotate_left
  · (intro w hSw; (try dsimp only at hSw); go_simp) <;> with_reducible rfl
  try simp only [Act.put, List.setIfInBounds_toArray, List.set_cons_zero, List.set_cons_succ]
  refine wpAnyH_done (by kernel_rfl) ?_ _
  have HB9 := hid_intro hb13
  generalize q13 = w9 at *
  go_wp2_with fail
  refine (HLR.out _ HB9.out).mono ?_
  rintro e w10 ⟨rfl, hq10⟩
  have HB10 := hid_intro (HB9.out.trans (hq10.mono HB9.out.size))
  clear hq10
  cases hsb : sB La
  · go_wp2_with fail
    have hX := HBX8.out.below HB10.out
    refine (HLS.out _ HB10.out).mono ?_
    rintro e w20 ⟨a6, c6, rfl, hM, hq⟩
    have HB20 := hid_intro (HB10.out.trans (hq.mono HB10.out.size))
    have hX := HBX8.out.below HB20.out
    have x0 : w20.cell? ⟨bX, 0, none⟩ = some (.slice ax nx cx) := hX.2 0 (by simp)
    have x5 : w20.cell? ⟨bX, 5, none⟩ = some (.int .i64 cd) := hX.2 5 (by simp)
    have xlt := hX.1
    clear hM hq hX
    by_cases hcd : cd = 0
    · subst hcd
      have hc0 := HCD.out.symm
      have h6 := new_few hc0 HBIL.out.2 HOK.out
      have hRD : RD = ds ++ [newD ds T m bl] := by rw [HRD.out]; exact if_pos hc0
      have hnx : nx = nd + 1 := by rw [HNX.out, hRD, HND.out]; simp
      have hSMN : ∀ d ∈ RD, d.Sm ∧ (Lit.int .i64 d.mo).wf = true := fun d hd => by
        rw [hRD] at hd
        rcases List.mem_append.1 hd with q | q
        · exact ⟨(HOK.out d q).sm, (HOK.out d q).wf⟩
        · rw [List.mem_singleton] at q
          subst q
          refine ⟨⟨by have := HWHO.out.size; show T.size ≤ _; omega, by omega, fun e he => ?_⟩, (who_good HWHO.out).2⟩
          have hy2 : e ∈ moreG ds T m bl := clL_sub he
          have := (all_i Kn _ (-1) HBIL.out.2 (fun z hz => net_i Kn ds [] (fun d hd2 => (HOK.out d hd2).2.2.2.2) (fun y h => absurd h (by simp)) z (List.mem_filter.1 hz).1) e hy2).size
          omega
      subst hnx
      obtain ⟨bR, hbR, hcx⟩ : ∃ b, ax = some ⟨b, 0, none⟩ ∧ nd + 1 ≤ cx := by
        obtain ⟨vd, xs, la9, lc9, e9, a1, a2, -⟩ := HO2.out
        have e10 : vd = .slice ax RD.length cx := by
          injection e9 with e9
          have := congrArg (fun z : Array Value => z[0]?) e9
          simpa using this.symm
        rw [e10, ← HNX.out] at a2
        have hp := own_plc a2
        obtain ⟨b, c, e⟩ := OwG.own_form a2
        injection e with e1 e2 e3
        exact ⟨b, e1, hp.1⟩
      subst hbR
      have hlen40 : RD.length ≤ 41 := by have := HNX.out; omega
      have HLWD := hid_intro (fun W (hb : Below w8.heap.size w8 W) => lwDs_any (some ⟨bR, 0, none⟩) da cx dc ds W (by have := HND.out; omega) (fun x hx => (HOK.out x hx).sm.2.1) (dcs_take (d := newD ds T m bl) (by rw [← hRD]; exact HDX8.out.below hb)) (HDC8.out.below hb))
      have HIN2 := hid_intro (fun W (hb : Below w8.heap.size w8 W) => impl_net (some ⟨bR, 0, none⟩) cx RD T m W (by omega) (fun d h => (hSMN d h).1) (fun d h => (hSMN d h).2) (who_good HWHO.out) (HDX8.out.below hb))
      have HSR2 := hid_intro (fun W (hb : Below w8.heap.size w8 W) => spec_ledger (some ⟨bR, 0, none⟩) cx RD W (by omega) (fun d h => (hSMN d h).1) (HDX8.out.below hb))
      have HII2 := hid_intro (fun W (hb : Below w8.heap.size w8 W) => iissue (some ⟨bR, 0, none⟩) (some ⟨gb, 0, none⟩) cx cp RD T m bl W (HY8.out.below hb).1 (by omega) (by have := HNX.out; omega) (.inr ⟨bR, 0, rfl⟩) (fun d h => (hSMN d h).1) (fun d h => (hSMN d h).2) (who_good HWHO.out) (by have := HNB.out; omega) (ln4_size HBIL.out.2) (HDX8.out.below hb) (HBL8.out.below hb))
      have hbig : ¬ (400 < RD.length ∨ 8000 < T.size ∨ 400 < bl.length) := by
        have := HWHO.out.size
        have := HNB.out
        omega
      have e7 : isC RD T m bl = 7 := by
        rw [hRD] at hbig ⊢
        exact isC_again hc0 h6 hbig
      have eN : netB RD T m = bl := by rw [hRD]; exact netB_new hc0 h6
      have eR : lB RD = true := by rw [hRD]; exact lB_yes (led_new hc0 h6)
      rw [eN, ← HNX.out] at HIN2
      rw [eR, ← HNX.out] at HSR2
      rw [e7, ← HNX.out, ← HNB.out] at HII2
      rw [← HND.out] at HLWD
      have HLB2 := hid_intro (fun a9 c9 W (hb : Below w8.heap.size w8 W) (h : Lis a9 bl W) => lwLi_any a9 (some ⟨gb, 0, none⟩) c9 cp bl W (by have := HNB.out; omega) h (HBL8.out.below hb))
      rw [← HNB.out] at HLB2
      have hfld2 := fld2
      have hndc : nd ≤ cx := by omega
      clear hc0 h6 hRD hSMN hbig e7 eN eR hlen40
      go_wp2_with fail
      refine (HLWD.out _ HB20.out).mono ?_
      rintro e w21 ⟨rfl, hq⟩
      clear x0 x5 xlt
      have HB21 := hid_intro (HB20.out.trans (hq.mono HB20.out.size))
      clear hq
      have hX := HBX8.out.below HB21.out
      have x0 : w21.cell? ⟨bX, 0, none⟩ = some (.slice (some ⟨bR, 0, none⟩) (nd + 1) cx) := hX.2 0 (by simp)
      have xlt := hX.1
      clear hX
      go_wp2_with fail
      refine (HIN2.out _ HB21.out).mono ?_
      rintro e w22 ⟨a9, c9, rfl, hM, hq⟩
      have hN := hid_intro hM.rws
      rw [← HNB.out]
      clear hM x0 xlt
      have HB22 := hid_intro (HB21.out.trans (hq.mono HB21.out.size))
      clear hq
      go_wp2_with fail
      refine (HLB2.out a9 c9 _ HB22.out hN.out).mono ?_
      rintro e w23 ⟨rfl, hq⟩
      have HB23 := hid_intro (HB22.out.trans (hq.mono HB22.out.size))
      clear hq
      have hX := HBX8.out.below HB23.out
      have x0 : w23.cell? ⟨bX, 0, none⟩ = some (.slice (some ⟨bR, 0, none⟩) (nd + 1) cx) := hX.2 0 (by simp)
      have xlt := hX.1
      clear hX
      go_wp2_with fail
      refine (HSR2.out _ HB23.out).mono ?_
      rintro e w24 ⟨rfl, hq⟩
      clear x0 xlt
      have HB24 := hid_intro (HB23.out.trans (hq.mono HB23.out.size))
      clear hq
      have hX := HBX8.out.below HB24.out
      have x0 : w24.cell? ⟨bX, 0, none⟩ = some (.slice (some ⟨bR, 0, none⟩) (nd + 1) cx) := hX.2 0 (by simp)
      have xlt := hX.1
      clear hX
      go_wp2_with fail
      refine (HII2.out _ HB24.out).mono ?_
      rintro e w25 ⟨v, rfl, hv, hq⟩
      obtain ⟨a10, c10, l10, m10, rfl, -, -⟩ := hv.reads
      have HBF := hid_intro (HW8.out.trans ((HB24.out.trans (hq.mono HB24.out.size)).mono HW8.out.size))
      generalize (isD RD T m bl).length = z1 at *
      generalize (isX RD T m bl).a = z2 at *
      generalize (isX RD T m bl).mo = z3 at *
      generalize (isX RD T m bl).sq = z4 at *
      generalize (isX RD T m bl).ls.length = z5 at *
      clear hv hq x0 xlt
      go_wp2_with fail
      go_ret
      exact ⟨rfl, HBF.out⟩
    · have hcdn : (cd != 0) = true := by simpa using hcd
      have HBF := hid_intro (HW8.out.trans (HB20.out.mono HW8.out.size))
      go_wp2_with fail
      go_ret
      exact ⟨rfl, HBF.out⟩
  · have e0 := less_none hsb
    rw [e0] at HL0
    clear e0
    go_wp2_with fail
    refine (HL0.out _ HB10.out).mono ?_
    rintro e w11 ⟨a5, c5, rfl, hM, hq⟩
    have HB11 := hid_intro (HB10.out.trans (hq.mono HB10.out.size))
    have hc5 := lwLi_any a5 (some ⟨ga, 0, none⟩) c5 ca La w11 (by have := HNA.out; omega) hM.rws (HLA8.out.below HB11.out)
    rw [← HNA.out] at hc5 ⊢
    have HC5 := hid_intro hc5
    clear hM hq hc5
    go_wp2_with fail
    refine HC5.out.mono ?_
    rintro e w12 ⟨rfl, hq⟩
    have HB12 := hid_intro (HB11.out.trans (hq.mono HB11.out.size))
    clear hq
    go_wp2_with fail
    have hX := HBX8.out.below HB12.out
    refine (HLS.out _ HB12.out).mono ?_
    rintro e w20 ⟨a6, c6, rfl, hM, hq⟩
    have HB20 := hid_intro (HB12.out.trans (hq.mono HB12.out.size))
    have hX := HBX8.out.below HB20.out
    have x0 : w20.cell? ⟨bX, 0, none⟩ = some (.slice ax nx cx) := hX.2 0 (by simp)
    have x5 : w20.cell? ⟨bX, 5, none⟩ = some (.int .i64 cd) := hX.2 5 (by simp)
    have xlt := hX.1
    clear hM hq hX
    by_cases hcd : cd = 0
    · subst hcd
      have hc0 := HCD.out.symm
      have h6 := new_few hc0 HBIL.out.2 HOK.out
      have hRD : RD = ds ++ [newD ds T m bl] := by rw [HRD.out]; exact if_pos hc0
      have hnx : nx = nd + 1 := by rw [HNX.out, hRD, HND.out]; simp
      have hSMN : ∀ d ∈ RD, d.Sm ∧ (Lit.int .i64 d.mo).wf = true := fun d hd => by
        rw [hRD] at hd
        rcases List.mem_append.1 hd with q | q
        · exact ⟨(HOK.out d q).sm, (HOK.out d q).wf⟩
        · rw [List.mem_singleton] at q
          subst q
          refine ⟨⟨by have := HWHO.out.size; show T.size ≤ _; omega, by omega, fun e he => ?_⟩, (who_good HWHO.out).2⟩
          have hy2 : e ∈ moreG ds T m bl := clL_sub he
          have := (all_i Kn _ (-1) HBIL.out.2 (fun z hz => net_i Kn ds [] (fun d hd2 => (HOK.out d hd2).2.2.2.2) (fun y h => absurd h (by simp)) z (List.mem_filter.1 hz).1) e hy2).size
          omega
      subst hnx
      obtain ⟨bR, hbR, hcx⟩ : ∃ b, ax = some ⟨b, 0, none⟩ ∧ nd + 1 ≤ cx := by
        obtain ⟨vd, xs, la9, lc9, e9, a1, a2, -⟩ := HO2.out
        have e10 : vd = .slice ax RD.length cx := by
          injection e9 with e9
          have := congrArg (fun z : Array Value => z[0]?) e9
          simpa using this.symm
        rw [e10, ← HNX.out] at a2
        have hp := own_plc a2
        obtain ⟨b, c, e⟩ := OwG.own_form a2
        injection e with e1 e2 e3
        exact ⟨b, e1, hp.1⟩
      subst hbR
      have hlen40 : RD.length ≤ 41 := by have := HNX.out; omega
      have HLWD := hid_intro (fun W (hb : Below w8.heap.size w8 W) => lwDs_any (some ⟨bR, 0, none⟩) da cx dc ds W (by have := HND.out; omega) (fun x hx => (HOK.out x hx).sm.2.1) (dcs_take (d := newD ds T m bl) (by rw [← hRD]; exact HDX8.out.below hb)) (HDC8.out.below hb))
      have HIN2 := hid_intro (fun W (hb : Below w8.heap.size w8 W) => impl_net (some ⟨bR, 0, none⟩) cx RD T m W (by omega) (fun d h => (hSMN d h).1) (fun d h => (hSMN d h).2) (who_good HWHO.out) (HDX8.out.below hb))
      have HSR2 := hid_intro (fun W (hb : Below w8.heap.size w8 W) => spec_ledger (some ⟨bR, 0, none⟩) cx RD W (by omega) (fun d h => (hSMN d h).1) (HDX8.out.below hb))
      have HII2 := hid_intro (fun W (hb : Below w8.heap.size w8 W) => iissue (some ⟨bR, 0, none⟩) (some ⟨gb, 0, none⟩) cx cp RD T m bl W (HY8.out.below hb).1 (by omega) (by have := HNX.out; omega) (.inr ⟨bR, 0, rfl⟩) (fun d h => (hSMN d h).1) (fun d h => (hSMN d h).2) (who_good HWHO.out) (by have := HNB.out; omega) (ln4_size HBIL.out.2) (HDX8.out.below hb) (HBL8.out.below hb))
      have hbig : ¬ (400 < RD.length ∨ 8000 < T.size ∨ 400 < bl.length) := by
        have := HWHO.out.size
        have := HNB.out
        omega
      have e7 : isC RD T m bl = 7 := by
        rw [hRD] at hbig ⊢
        exact isC_again hc0 h6 hbig
      have eN : netB RD T m = bl := by rw [hRD]; exact netB_new hc0 h6
      have eR : lB RD = true := by rw [hRD]; exact lB_yes (led_new hc0 h6)
      rw [eN, ← HNX.out] at HIN2
      rw [eR, ← HNX.out] at HSR2
      rw [e7, ← HNX.out, ← HNB.out] at HII2
      rw [← HND.out] at HLWD
      have HLB2 := hid_intro (fun a9 c9 W (hb : Below w8.heap.size w8 W) (h : Lis a9 bl W) => lwLi_any a9 (some ⟨gb, 0, none⟩) c9 cp bl W (by have := HNB.out; omega) h (HBL8.out.below hb))
      rw [← HNB.out] at HLB2
      have hfld2 := fld2
      have hndc : nd ≤ cx := by omega
      clear hc0 h6 hRD hSMN hbig e7 eN eR hlen40
      go_wp2_with fail
      refine (HLWD.out _ HB20.out).mono ?_
      rintro e w21 ⟨rfl, hq⟩
      clear x0 x5 xlt
      have HB21 := hid_intro (HB20.out.trans (hq.mono HB20.out.size))
      clear hq
      have hX := HBX8.out.below HB21.out
      have x0 : w21.cell? ⟨bX, 0, none⟩ = some (.slice (some ⟨bR, 0, none⟩) (nd + 1) cx) := hX.2 0 (by simp)
      have xlt := hX.1
      clear hX
      go_wp2_with fail
      refine (HIN2.out _ HB21.out).mono ?_
      rintro e w22 ⟨a9, c9, rfl, hM, hq⟩
      have hN := hid_intro hM.rws
      rw [← HNB.out]
      clear hM x0 xlt
      have HB22 := hid_intro (HB21.out.trans (hq.mono HB21.out.size))
      clear hq
      go_wp2_with fail
      refine (HLB2.out a9 c9 _ HB22.out hN.out).mono ?_
      rintro e w23 ⟨rfl, hq⟩
      have HB23 := hid_intro (HB22.out.trans (hq.mono HB22.out.size))
      clear hq
      have hX := HBX8.out.below HB23.out
      have x0 : w23.cell? ⟨bX, 0, none⟩ = some (.slice (some ⟨bR, 0, none⟩) (nd + 1) cx) := hX.2 0 (by simp)
      have xlt := hX.1
      clear hX
      go_wp2_with fail
      refine (HSR2.out _ HB23.out).mono ?_
      rintro e w24 ⟨rfl, hq⟩
      clear x0 xlt
      have HB24 := hid_intro (HB23.out.trans (hq.mono HB23.out.size))
      clear hq
      have hX := HBX8.out.below HB24.out
      have x0 : w24.cell? ⟨bX, 0, none⟩ = some (.slice (some ⟨bR, 0, none⟩) (nd + 1) cx) := hX.2 0 (by simp)
      have xlt := hX.1
      clear hX
      go_wp2_with fail
      refine (HII2.out _ HB24.out).mono ?_
      rintro e w25 ⟨v, rfl, hv, hq⟩
      obtain ⟨a10, c10, l10, m10, rfl, -, -⟩ := hv.reads
      have HBF := hid_intro (HW8.out.trans ((HB24.out.trans (hq.mono HB24.out.size)).mono HW8.out.size))
      generalize (isD RD T m bl).length = z1 at *
      generalize (isX RD T m bl).a = z2 at *
      generalize (isX RD T m bl).mo = z3 at *
      generalize (isX RD T m bl).sq = z4 at *
      generalize (isX RD T m bl).ls.length = z5 at *
      clear hv hq x0 xlt
      go_wp2_with fail
      go_ret
      exact ⟨rfl, HBF.out⟩
    · have hcdn : (cd != 0) = true := by simpa using hcd
      have HBF := hid_intro (HW8.out.trans (HB20.out.mono HW8.out.size))
      go_wp2_with fail
      go_ret
      exact ⟨rfl, HBF.out⟩
end IssueLaw
end Go.Proofs.YtlfebpgohpmknaaGreatDoor
namespace Go.Proofs.YtlfebpgohpmknaaGreatDoor
open Go.ChangeShapes Go.WideShapes Go.RowKit
namespace LayQ
theorem own : ownKnob Tryz.prog.godebug = none := by kernel_rfl
theorem laidOut : laidOutB Tryz.prog = true := by kernel_rfl
def laid {H : Type} : List (String × DataW H) := [("math/bits.deBruijn32tab", Rows.laid_math_bits_deBruijn32tab), ("math/bits.deBruijn64tab", Rows.laid_math_bits_deBruijn64tab), ("internal/strconv.uint64pow10", Rows.laid_internal_strconv_uint64pow10)]
theorem pv : Tryz.prog.globalNamed "internal/strconv.uint64pow10" = some 1 := by kernel_rfl
theorem pt : (Tryz.prog.globals[1]?).map (·.type) = some 148 := by kernel_rfl
theorem cellsU : Tryz.prog.cellsOf 83 = 1 := by kernel_rfl
theorem cellsP : Tryz.prog.cellsOf 148 = 20 := by kernel_rfl
abbrev Laid (W : World) : Prop := Dec2.PowT W
theorem of_laid {W : World} (h : laidMetH Tryz.prog laid W) : Laid W := by
  rw [MakeChecks.laidMetH_plain _ _ _ (by kernel_rfl)] at h
  exact (Lib.tabIs_of_head pv pt Tryz.underlying148 Tryz.underlying83 cellsU cellsP (zs := Lib.pow10Tab) (k := .u64) h.tail.tail)
theorem door_met (os : Os) (args : Array Value) : laidMetH Tryz.prog laid ((World.doorLaid Tryz.prog 400 os).forCall (fun _ _ => 0) ⟨#[], args, []⟩).memory :=
  laidMetH_of_parts3 (fuel := 8) (laidMet_of_run' 8 (by kernel_rfl) (by kernel_rfl)) (by kernel_rfl) (by kernel_rfl)
end LayQ
end Go.Proofs.YtlfebpgohpmknaaGreatDoor
namespace Go.Proofs.YtlfebpgohpmknaaGreatDoor
open Go.ChangeShapes Go.WideShapes Go.RowKit
namespace Hnd
theorem laidOut : laidOutB Tryz.prog = true := by kernel_rfl
theorem own : ownKnob Tryz.prog.godebug = none := by kernel_rfl
theorem et : Tryz.prog.globalNamed "errors.errorType" = some 0 := by kernel_rfl
theorem rt : (Tryz.prog.cutTypes.find? (·.1 == "internal/reflectlite.rtype")).map (·.2) = some 130 := by kernel_rfl
theorem oneRow : ((List.range 202).filter fun t => Tryz.prog.rowNamed t [101, 114, 114, 111, 114]) = [56] := by kernel_rfl
theorem size : Tryz.prog.types.size = 202 := by kernel_rfl
def laid {H : Type} : List (String × DataW H) := [("errors.errorType", Rows.laid_errors_errorType)]
theorem handle_of_laid {W : World} (h : laidMetH Tryz.prog laid W) : W.cell? ⟨0, 0, none⟩ = some (.iface 130 (.agg #[.pointer (some ⟨4, 56, none⟩)])) := by
  have h' : laidMet Tryz.prog [] W ∧ handlesMet Tryz.prog laid W := h
  obtain ⟨name, u, ty, e1, e2, e3, e4, e5⟩ := h'.2 _ (List.mem_singleton.2 rfl)
  have en : name = [101, 114, 114, 111, 114] := (Option.some.inj e1).symm
  subst en
  obtain rfl := Option.some.inj (rt.symm.trans e2)
  have hm : ty ∈ (List.range 202).filter fun t => Tryz.prog.rowNamed t [101, 114, 114, 111, 114] := List.mem_filter.2 ⟨List.mem_range.2 (by rw [← size]; exact e3), e4⟩
  rw [oneRow] at hm
  obtain rfl := List.mem_singleton.1 hm
  have hh : typeHandle Tryz.prog 56 = .pointer (some ⟨4, 56, none⟩) := by kernel_rfl
  rw [hh] at e5
  simpa using World.var?_cell et e5 0
theorem laid_of {W : World} (h : laidMetH Tryz.prog laid W) : AsD.Laid W := by
  have hg := handle_of_laid h
  refine ⟨?_, hg⟩
  rcases Nat.eq_zero_or_pos W.heap.size with h0 | h
  · simp [World.cell?, h0] at hg
  · exact h
theorem of_laid {W : World} (h : laidMetH Tryz.prog laid W) : AsD.Laid W := laid_of h
/-- A world that meets the premise: the settled one, the variable's cell laid. -/
theorem world_met (os : Os) (args : Array Value) : laidMetH Tryz.prog laid (({ World.holding Tryz.prog os ⟨#[], #[], []⟩ with heap := (World.holding Tryz.prog os ⟨#[], #[], []⟩).heap.modify 0 fun | .cells _ t frozen => .cells #[.iface 130 (.agg #[.pointer (some ⟨4, 56, none⟩)])] t frozen | o => o } : World).forCall (fun _ _ => 0) ⟨#[], args, []⟩).memory :=
  laidMetH_of_parts (laidMet_nil _ _) (by kernel_rfl)
end Hnd
end Go.Proofs.YtlfebpgohpmknaaGreatDoor
namespace Go.Proofs.YtlfebpgohpmknaaGreatDoor
open Go.ChangeShapes Go.WideShapes Go.RowKit
namespace LayH
theorem own : ownKnob Tryz.prog.godebug = none := by kernel_rfl
theorem laidOut : laidOutB Tryz.prog = true := by kernel_rfl
def laid {H : Type} : List (String × DataW H) := [("math/bits.deBruijn32tab", Rows.laid_math_bits_deBruijn32tab), ("math/bits.deBruijn64tab", Rows.laid_math_bits_deBruijn64tab), ("internal/strconv.uint64pow10", Rows.laid_internal_strconv_uint64pow10), ("errors.errorType", Rows.laid_errors_errorType)]
theorem part1 : (laid (H := Unit)).filter (fun x => x.1 != "errors.errorType") = LayQ.laid := by rfl
theorem part2 : (laid (H := Unit)).filter (fun x => x.1 == "errors.errorType") = Hnd.laid := by rfl
theorem of_laid {W : World} (h : laidMetH Tryz.prog laid W) : AsD.Laid W ∧ Dec2.PowT W := by
  have h1 := h.filter (fun x => x.1 != "errors.errorType")
  have h2 := h.filter (fun x => x.1 == "errors.errorType")
  rw [part1] at h1
  rw [part2] at h2
  exact ⟨Hnd.of_laid h2, LayQ.of_laid h1⟩
theorem door_met (os : Os) (args : Array Value) : laidMetH Tryz.prog laid ((World.doorLaid Tryz.prog 400 os).forCall (fun _ _ => 0) ⟨#[], args, []⟩).memory :=
  laidMetH_of_parts3 (fuel := 8) (laidMet_of_run' 8 (by kernel_rfl) (by kernel_rfl)) (by kernel_rfl) (by kernel_rfl)
end LayH
end Go.Proofs.YtlfebpgohpmknaaGreatDoor
